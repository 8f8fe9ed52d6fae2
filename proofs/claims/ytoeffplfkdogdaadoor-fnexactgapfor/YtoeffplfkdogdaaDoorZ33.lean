import Derived.Test.YtoeffplfkdogdaaDoorZ32
import Derived.Test.YtoeffplfkdogdaaDoorZ05
import Derived.Deep.RegionHeld3
namespace Go.Proofs.YtoeffplfkdogdaaDoor
open Go.RowKit

theorem ints_oneZ (P : List Int) : ∀ u ∈ P.map (Value.int .i64), u.oneCell' = true := by
  intro u hu
  obtain ⟨x, _, rfl⟩ := List.mem_map.1 hu
  rfl
theorem add_0 (b o j : Nat) : (⟨b, o, none⟩ : Addr).add j = ⟨b, o + j, none⟩ := by unfold Addr.add; split <;> simp_all
theorem own_empty (w : World) (e : TypeId) (size : Nat) : (w.alloc (.cells #[] e)).ownsRow w.heap.size e size (.slice (some ⟨w.heap.size, 0, none⟩) 0 0) 0 [] :=
  ⟨by simp, .inr ⟨w.heap.size, 0, #[], rfl, Nat.le_refl _, gap_new _ _, Nat.le_refl _, Nat.zero_le _, by simp, by simp⟩⟩
theorem src_ints {W : World} {b o : Nat} {P : List Int} (hc : ∀ j, (hj : j < P.length) → W.cell? ⟨b, o + j, none⟩ = some (.int .i64 P[j])) : ∀ j u, (P.map (Value.int .i64))[j]? = some u → W.cell? ((⟨b, o, none⟩ : Addr).add j) = some u := fun j u h => by
  rw [List.getElem?_map] at h
  by_cases hj : j < P.length
  · rw [List.getElem?_eq_getElem hj] at h
    cases h
    rw [add_0]; exact hc j hj
  · rw [List.getElem?_eq_none (by omega)] at h; cases h
theorem zs_of_own {w : World} {base : Nat} {v : Value} {P : List Int} (hp : 0 < P.length) (h : w.ownsRow base 3 1 v P.length (P.map (Value.int .i64))) : ∃ t cap, v = .slice (some ⟨t, 0, none⟩) P.length cap ∧ P.length ≤ cap ∧ cap ≤ 9223372036854775807 ∧ base ≤ t ∧ ZSRow w t P := by
  have h0 := h
  obtain ⟨_, ⟨_, hn⟩ | ⟨g, cap, cur, rfl, hg, _, h1, h2, _, _⟩⟩ := h
  · omega
  · unfold maxLen at h2
    exact ⟨g, cap, rfl, h1, by omega, hg, zs_own h0⟩

set_option maxRecDepth 20000 in
set_option maxHeartbeats 1000000 in
theorem cloneZ_any (v : Value) (P : List Int) (w : World) (hr : ZRow .i64 w v P) (hl : P.length ≤ 1048576) (hp : 0 < P.length) :
    Calls Tryd.prog 55 #[v] w fun e w' => ∃ t cap, e = .returned (.slice (some ⟨t, 0, none⟩) P.length cap) ∧ P.length ≤ cap ∧ cap ≤ 9223372036854775807 ∧ w.heap.size ≤ t ∧ ZSRow w' t P ∧ Below w.heap.size w w' := by
  obtain ⟨i0, hi, hz0, hz1, hz2⟩ := info_parts info_int
  obtain ⟨a, cap, rfl, hcap, hmax, HROW⟩ := zrow_value hr
  obtain ⟨b, o, ha, hbl, hc⟩ := HROW.out hp
  subst ha
  clear HROW hr
  have hb0 : Below w.heap.size w (w.alloc (.cells #[] 3)) := (Below.refl _ _).alloc (Nat.le_refl _) _
  have hc2 := src_ints (W := w.alloc (.cells #[] 3)) (b := b) (o := o) (P := P) (fun j hj => by rw [hb0.cell (p := ⟨b, o + j, none⟩) hbl]; exact hc j hj)
  have hnil : ∀ W : World, Sem.run Tryd.prog (binOp .eql 24 (.slice (some ⟨b, o, none⟩) P.length cap) (.slice none 0 0)) W = .ok (.bool false) W := fun W => by rfl
  have HP : Hid (0 < P.length) := hp
  clear hc hp
  go_enter Tryd.func55, Tryd.ntmps55
  go_wp2_with (at_builtin; refine wpList_append_own _ rfl (.tmp 5) (.tmp 6) 24 rfl w.heap.size 3 i0 (.int .i64 0) 1 8 Tryd.underlying24 hi hz0 hz1 hz2 rfl (by decide) _ _ _ rfl (own_empty w 3 1) ⟨b, o, none⟩ P.length cap (P.map (Value.int .i64)) rfl (by simp) hc2 (ints_oneZ P) ?d3 ?d4 ?d5 ?_)
  case d3 => unfold maxLen; omega
  case d4 => omega
  case d5 => simp
  intro v2 w2 hown2 hgrow2 _
  obtain ⟨t, cp, rfl, g1, g2, g3, g4⟩ := zs_of_own HP.out hown2
  have hb2 : Below w.heap.size w w2 := hb0.grown hgrow2 hb0.size (fun k e => by cases e; exact Nat.le_refl _)
  have HZ : Hid (ZSRow w2 t P) := g4
  clear hown2 hgrow2 hc2 g4
  go_wp2_with fail
  go_ret
  exact ⟨t, cp, rfl, g1, g2, g3, HZ.out, hb2⟩

set_option maxRecDepth 20000 in
set_option maxHeartbeats 2000000 in
theorem l8Own_any (x : List UInt8 × List UInt8 × List Int) (v : Value) (w : World) (hr : ZRow .i64 w v x.2.2) (hl : x.2.2.length ≤ 1048576) (hp : 0 < x.2.2.length) :
    Calls Tryd.prog 20 #[.agg #[.string ⟨x.1.toArray⟩, .string ⟨x.2.1.toArray⟩, v]] w fun e w' => ∃ t cap, e = .returned (.agg #[.string ⟨x.1.toArray⟩, .string ⟨x.2.1.toArray⟩, .slice (some ⟨t, 0, none⟩) x.2.2.length cap]) ∧ x.2.2.length ≤ cap ∧ cap ≤ 9223372036854775807 ∧ w.heap.size ≤ t ∧ ZSRow w' t x.2.2 ∧ Below w.heap.size w w' := by
  obtain ⟨i0, hi, hz0, hz1, hz2⟩ := info_parts info_int
  obtain ⟨a, cap, rfl, hcap, hmax, HROW⟩ := zrow_value hr
  obtain ⟨b, o, ha, hbl, hc⟩ := HROW.out hp
  subst ha
  clear HROW hr
  have hbA : Below w.heap.size w (((w.alloc (.cells #[.string ⟨x.1.toArray⟩, .string ⟨x.2.1.toArray⟩, .slice (some ⟨b, o, none⟩) x.2.2.length cap] 26)).alloc (.cells #[.string ⟨#[]⟩, .string ⟨#[]⟩, .slice none 0 0] 26)).alloc (.cells #[] 3)) := (((Below.refl w.heap.size w).alloc (Nat.le_refl _) _).alloc (by simp) _).alloc (by simp; omega) _
  have hc2 := src_ints (W := ((w.alloc (.cells #[.string ⟨x.1.toArray⟩, .string ⟨x.2.1.toArray⟩, .slice (some ⟨b, o, none⟩) x.2.2.length cap] 26)).alloc (.cells #[.string ⟨#[]⟩, .string ⟨#[]⟩, .slice none 0 0] 26)).alloc (.cells #[] 3)) (b := b) (o := o) (P := x.2.2) (fun j hj => by rw [hbA.cell (p := ⟨b, o + j, none⟩) hbl]; exact hc j hj)
  have hown0 : (((w.alloc (.cells #[.string ⟨x.1.toArray⟩, .string ⟨x.2.1.toArray⟩, .slice (some ⟨b, o, none⟩) x.2.2.length cap] 26)).alloc (.cells #[.string ⟨#[]⟩, .string ⟨#[]⟩, .slice none 0 0] 26)).alloc (.cells #[] 3)).ownsRow (w.heap.size + 1 + 1) 3 1 (.slice (some ⟨w.heap.size + 1 + 1, 0, none⟩) 0 0) 0 [] := by simpa using own_empty ((w.alloc (.cells #[.string ⟨x.1.toArray⟩, .string ⟨x.2.1.toArray⟩, .slice (some ⟨b, o, none⟩) x.2.2.length cap] 26)).alloc (.cells #[.string ⟨#[]⟩, .string ⟨#[]⟩, .slice none 0 0] 26)) 3 1
  have HBX := gap_below2 (w := w) (a := #[.string ⟨x.1.toArray⟩, .string ⟨x.2.1.toArray⟩, .slice (some ⟨b, o, none⟩) x.2.2.length cap]) (b := #[.string ⟨#[]⟩, .string ⟨#[]⟩, .slice none 0 0]) (t1 := 26) (t2 := 26) (W := ((w.alloc (.cells #[.string ⟨x.1.toArray⟩, .string ⟨x.2.1.toArray⟩, .slice (some ⟨b, o, none⟩) x.2.2.length cap] 26)).alloc (.cells #[.string ⟨#[]⟩, .string ⟨#[]⟩, .slice none 0 0] 26)).alloc (.cells #[] 3)) ((Below.refl _ _).alloc (Nat.le_refl _) _)
  have HBY : Hid _ := HBX
  have HP : Hid (0 < x.2.2.length) := hp
  clear hc hp HBX
  go_enter Tryd.func20, Tryd.ntmps20
  go_wp2_with (at_builtin; refine wpList_append_own _ rfl (.tmp 3) (.tmp 5) 24 rfl (w.heap.size + 1 + 1) 3 i0 (.int .i64 0) 1 8 Tryd.underlying24 hi hz0 hz1 hz2 rfl (by decide) _ _ _ rfl hown0 ⟨b, o, none⟩ x.2.2.length cap (x.2.2.map (Value.int .i64)) rfl (by simp) hc2 (ints_oneZ x.2.2) ?d3 ?d4 ?d5 ?_)
  case d3 => unfold maxLen; omega
  case d4 => omega
  case d5 => simp
  intro v2 w2 hown2 hgrow2 _
  obtain ⟨t, cp, rfl, g1, g2, g3, g4⟩ := zs_of_own HP.out hown2
  have hsA : (((w.alloc (.cells #[.string ⟨x.1.toArray⟩, .string ⟨x.2.1.toArray⟩, .slice (some ⟨b, o, none⟩) x.2.2.length cap] 26)).alloc (.cells #[.string ⟨#[]⟩, .string ⟨#[]⟩, .slice none 0 0] 26)).alloc (.cells #[] 3)).heap.size = w.heap.size + 1 + 1 + 1 := by simp
  have hb2 : Below w.heap.size w w2 := hbA.grown hgrow2 hbA.size (fun k e => by cases e; show w.heap.size ≤ w.heap.size + 1 + 1; omega)
  have HK1 : Hid (w2.heap[w.heap.size]? = some (.cells #[.string ⟨x.1.toArray⟩, .string ⟨x.2.1.toArray⟩, .slice (some ⟨b, o, none⟩) x.2.2.length cap] 26)) := (hgrow2.block w.heap.size (by omega) (fun e => by injection e with e2; simp at e2; omega)).trans HBY.out.1
  have HK2 : Hid (w2.heap[w.heap.size + 1]? = some (.cells #[.string ⟨#[]⟩, .string ⟨#[]⟩, .slice none 0 0] 26)) := (hgrow2.block (w.heap.size + 1) (by omega) (fun e => by injection e with e2; simp at e2)).trans HBY.out.2.1
  have HZ : Hid (ZSRow w2 t x.2.2) := g4
  obtain ⟨⟨m0, m1, m2⟩, ⟨f0, f1, f2⟩⟩ := gap_cells HK1.out
  obtain ⟨⟨n0, n1, n2⟩, ⟨e0, e1, e2⟩⟩ := gap_cells HK2.out
  have hz2 : w.heap.size + 1 < w2.heap.size := by have := hgrow2.size; omega
  clear hown2 hgrow2 hc2 g4 hown0 hbA HBY hsA
  go_wp2_with fail
  (try simp only [Exit.inBlock, Exit.then])
  refine bodyPost_ret (results_cell_row rfl _ _ (w.heap.size + 1) 26 #[.string ⟨x.1.toArray⟩, .string ⟨x.2.1.toArray⟩, .slice (some ⟨t, 0, none⟩) x.2.2.length cp] (0, 0) _ rfl ?_ Tryd.underlying26 rfl (by kernel_rfl)) rfl ⟨t, cp, rfl, g1, g2, by omega, ?_, ?_⟩
  · exact gput3_heap (by rw [heap_setCell_other _ _ _ _ (show w.heap.size + 1 ≠ w.heap.size by omega)]; exact HK2.out)
  · exact gput3_far (HZ.out.far (by omega) _) (by omega)
  · exact gput3_below (hb2.setCell (p := ⟨w.heap.size, 2, none⟩) (Nat.le_refl _) _) (by omega) _ _ _

set_option maxRecDepth 20000 in
set_option maxHeartbeats 4000000 in
theorem copyGap_any (x : List UInt8 × List UInt8 × List Int) (a : Option Addr) (cap : Nat) (w : World) (hr : ZRow .i64 w (.slice a x.2.2.length cap) x.2.2) (hl : x.2.2.length ≤ 1048576) (hp : 0 < x.2.2.length) (h1 : x.1.length ≤ 1048576) (h2 : x.2.1.length ≤ 1048576) :
    Calls Tryd.prog 30 #[.agg #[.string ⟨x.1.toArray⟩, .string ⟨x.2.1.toArray⟩, .slice a x.2.2.length cap]] w fun e w' => ∃ t cap, e = .returned (.agg #[.string ⟨x.1.toArray⟩, .string ⟨x.2.1.toArray⟩, .slice (some ⟨t, 0, none⟩) x.2.2.length cap]) ∧ x.2.2.length ≤ cap ∧ cap ≤ 9223372036854775807 ∧ w.heap.size ≤ t ∧ ZSRow w' t x.2.2 ∧ Below w.heap.size w w' := by
  obtain ⟨W1, hW1⟩ : ∃ W1, W1 = (w.alloc (.cells #[.string ⟨x.1.toArray⟩, .string ⟨x.2.1.toArray⟩, .slice a x.2.2.length cap] 26)).alloc (.cells #[.string ⟨#[]⟩, .string ⟨#[]⟩, .slice none 0 0] 26) := ⟨_, rfl⟩
  have HW1 : Hid ((w.alloc (.cells #[.string ⟨x.1.toArray⟩, .string ⟨x.2.1.toArray⟩, .slice a x.2.2.length cap] 26)).alloc (.cells #[.string ⟨#[]⟩, .string ⟨#[]⟩, .slice none 0 0] 26) = W1) := hW1.symm
  have hs1 : W1.heap.size = w.heap.size + 1 + 1 := by rw [hW1]; simp
  have HB : Hid (∀ W, Below W1.heap.size W1 W → W.heap[w.heap.size]? = some (.cells #[.string ⟨x.1.toArray⟩, .string ⟨x.2.1.toArray⟩, .slice a x.2.2.length cap] 26) ∧ W.heap[w.heap.size + 1]? = some (.cells #[.string ⟨#[]⟩, .string ⟨#[]⟩, .slice none 0 0] 26) ∧ Below w.heap.size w W) := fun W hW => by rw [hW1] at hW; exact gap_below2 hW
  have HCL1 : Hid (∀ W, Calls Tryd.prog 54 #[.string ⟨x.1.toArray⟩] W fun e w' => e = .returned (.string ⟨x.1.toArray⟩) ∧ Below W.heap.size W w') := fun W => cloneR_any ⟨x.1.toArray⟩ W (by rw [size_list]; omega)
  have HCL2 : Hid (∀ W, Calls Tryd.prog 54 #[.string ⟨x.2.1.toArray⟩] W fun e w' => e = .returned (.string ⟨x.2.1.toArray⟩) ∧ Below W.heap.size W w') := fun W => cloneR_any ⟨x.2.1.toArray⟩ W (by rw [size_list]; omega)
  have hbd : Below W1.heap.size W1 W1.drew := (Below.refl _ _).drew
  have hS1 : (fun W : World => W.heap[w.heap.size]? = some (.cells #[.string ⟨x.1.toArray⟩, .string ⟨x.2.1.toArray⟩, .slice a x.2.2.length cap] 26) ∧ (∃ u0 u1 u2, W.heap[w.heap.size + 1]? = some (.cells #[u0, u1, u2] 26)) ∧ Below w.heap.size w W ∧ w.heap.size + 2 ≤ W.heap.size) W1.drew := ⟨(HB.out _ hbd).1, ⟨_, _, _, (HB.out _ hbd).2.1⟩, (HB.out _ hbd).2.2, by show w.heap.size + 2 ≤ W1.heap.size; omega⟩
  have HSK : Hid (∀ W W', (fun W : World => W.heap[w.heap.size]? = some (.cells #[.string ⟨x.1.toArray⟩, .string ⟨x.2.1.toArray⟩, .slice a x.2.2.length cap] 26) ∧ (∃ u0 u1 u2, W.heap[w.heap.size + 1]? = some (.cells #[u0, u1, u2] 26)) ∧ Below w.heap.size w W ∧ w.heap.size + 2 ≤ W.heap.size) W → Below W.heap.size W W' → (fun W : World => W.heap[w.heap.size]? = some (.cells #[.string ⟨x.1.toArray⟩, .string ⟨x.2.1.toArray⟩, .slice a x.2.2.length cap] 26) ∧ (∃ u0 u1 u2, W.heap[w.heap.size + 1]? = some (.cells #[u0, u1, u2] 26)) ∧ Below w.heap.size w W ∧ w.heap.size + 2 ≤ W.heap.size) W') := fun W W' h hb => by
    obtain ⟨k1, ⟨u0, u1, u2, k2⟩, k3, k4⟩ := h
    exact ⟨(hb.block w.heap.size (by omega)).trans k1, ⟨u0, u1, u2, (hb.block (w.heap.size + 1) (by omega)).trans k2⟩, k3.trans (hb.mono k3.size), Nat.le_trans k4 hb.size⟩
  have HZB : Hid (∀ W, (fun W : World => W.heap[w.heap.size]? = some (.cells #[.string ⟨x.1.toArray⟩, .string ⟨x.2.1.toArray⟩, .slice a x.2.2.length cap] 26) ∧ (∃ u0 u1 u2, W.heap[w.heap.size + 1]? = some (.cells #[u0, u1, u2] 26)) ∧ Below w.heap.size w W ∧ w.heap.size + 2 ≤ W.heap.size) W → ZRow .i64 W (.slice a x.2.2.length cap) x.2.2) := fun W h => hr.kept h.2.2.1
  have HCZ : Hid (∀ W, (fun W : World => W.heap[w.heap.size]? = some (.cells #[.string ⟨x.1.toArray⟩, .string ⟨x.2.1.toArray⟩, .slice a x.2.2.length cap] 26) ∧ (∃ u0 u1 u2, W.heap[w.heap.size + 1]? = some (.cells #[u0, u1, u2] 26)) ∧ Below w.heap.size w W ∧ w.heap.size + 2 ≤ W.heap.size) W → Calls Tryd.prog 55 #[.slice a x.2.2.length cap] W fun e w' => ∃ t cap, e = .returned (.slice (some ⟨t, 0, none⟩) x.2.2.length cap) ∧ x.2.2.length ≤ cap ∧ cap ≤ 9223372036854775807 ∧ W.heap.size ≤ t ∧ ZSRow w' t x.2.2 ∧ Below W.heap.size W w') := fun W hW => cloneZ_any _ x.2.2 W (HZB.out W hW) hl hp
  clear hr hW1 HB HZB
  go_enter Tryd.func30, Tryd.ntmps30
  go_wp2_with fail
  rw [HW1.out]
  refine wp_region_held_drew (S := (fun W : World => W.heap[w.heap.size]? = some (.cells #[.string ⟨x.1.toArray⟩, .string ⟨x.2.1.toArray⟩, .slice a x.2.2.length cap] 26) ∧ (∃ u0 u1 u2, W.heap[w.heap.size + 1]? = some (.cells #[u0, u1, u2] 26)) ∧ Below w.heap.size w W ∧ w.heap.size + 2 ≤ W.heap.size)) (by kernel_rfl) hS1 (fun hHeld => ?_)
  refine wpAnyH_take (i := 0) (v := .pointer (some ⟨w.heap.size, 0, none⟩)) rfl (by kernel_rfl) (by kernel_rfl) (by kernel_rfl) (fun _ _ _ h => h) (Or.inl ⟨by rfl, ?_⟩) (by assumption) ?_
  · intro W hSW
    go_simp
  simp only [Act.put, List.setIfInBounds_toArray]
  refine wpAnyH_take (i := 1) (v := .string ⟨x.1.toArray⟩) rfl (by kernel_rfl) (by kernel_rfl) (by kernel_rfl) (fun _ _ _ h => h) (Or.inl ⟨by rfl, ?_⟩) (by assumption) ?_
  · intro W hSW
    obtain ⟨⟨q0, q1, q2⟩, _⟩ := gap_cells hSW.1
    go_simp
  simp only [Act.put]
  refine wpAnyH_take (i := 3) (v := .pointer (some ⟨w.heap.size, 1, none⟩)) rfl (by kernel_rfl) (by kernel_rfl) (by kernel_rfl) (fun _ _ _ h => h) (Or.inl ⟨by rfl, ?_⟩) (by assumption) ?_
  · intro W hSW
    go_simp
  simp only [Act.put]
  refine wpAnyH_take (i := 4) (v := .string ⟨x.2.1.toArray⟩) rfl (by kernel_rfl) (by kernel_rfl) (by kernel_rfl) (fun _ _ _ h => h) (Or.inl ⟨by rfl, ?_⟩) (by assumption) ?_
  · intro W hSW
    obtain ⟨⟨q0, q1, q2⟩, _⟩ := gap_cells hSW.1
    go_simp
  simp only [Act.put]
  refine wpAnyH_take (i := 6) (v := .pointer (some ⟨w.heap.size, 2, none⟩)) rfl (by kernel_rfl) (by kernel_rfl) (by kernel_rfl) (fun _ _ _ h => h) (Or.inl ⟨by rfl, ?_⟩) (by assumption) ?_
  · intro W hSW
    go_simp
  simp only [Act.put]
  refine wpAnyH_take (i := 7) (v := .slice a x.2.2.length cap) rfl (by kernel_rfl) (by kernel_rfl) (by kernel_rfl) (fun _ _ _ h => h) (Or.inl ⟨by rfl, ?_⟩) (by assumption) ?_
  · intro W hSW
    obtain ⟨⟨q0, q1, q2⟩, _⟩ := gap_cells hSW.1
    go_simp
  simp only [Act.put]
  refine wpAnyH_ready (rs := [2]) (by kernel_rfl) (by simp) ?_
  refine AllReadyH.cons rfl (fun K hK => ?_) AllReadyH.nil
  rw [if_pos (by rfl)]
  go_simp
  refine (HCL1.out _).mono ?_
  rintro e w2 ⟨rfl, hb2⟩
  go_simp
  have hS2 := HSK.out _ _ hS1 hb2
  refine hK.out _ _ hS2 (fun hSS => ?_)
  clear hK
  refine wpAnyH_ready (rs := [5]) (by kernel_rfl) (by simp) ?_
  refine AllReadyH.cons rfl (fun K hK => ?_) AllReadyH.nil
  rw [if_pos (by rfl)]
  go_simp
  refine (HCL2.out _).mono ?_
  rintro e w3 ⟨rfl, hb3⟩
  go_simp
  have hS3 := HSK.out _ _ hS2 hb3
  refine hK.out _ _ hS3 (fun hSS => ?_)
  clear hK
  refine wpAnyH_ready (rs := [8]) (by kernel_rfl) (by simp) ?_
  refine AllReadyH.cons rfl (fun K hK => ?_) AllReadyH.nil
  rw [if_pos (by rfl)]
  go_simp
  refine (HCZ.out _ hS3).mono ?_
  rintro e w4 ⟨t, cp, rfl, g1, g2, g3, hz4, hb4⟩
  go_simp
  have hS4 := HSK.out _ _ hS3 hb4
  refine hK.out _ _ hS4 (fun hSS => ?_)
  clear hK
  refine wpAnyH_take (i := 9) (v := .agg #[.string ⟨x.1.toArray⟩, .string ⟨x.2.1.toArray⟩, .slice (some ⟨t, 0, none⟩) x.2.2.length cp]) rfl (by kernel_rfl) (by kernel_rfl) (by kernel_rfl) (fun _ _ _ h => h) (Or.inl ⟨by rfl, ?_⟩) (by assumption) ?_
  · intro W hSW
    go_simp
  simp only [Act.put, List.setIfInBounds_toArray]
  refine wpAnyH_ready (rs := [10]) (by kernel_rfl) (by simp) ?_
  refine AllReadyH.cons rfl (fun K hK => ?_) AllReadyH.nil
  rw [if_pos (by rfl)]
  have hsz3 : w.heap.size + 2 ≤ w3.heap.size := hS3.2.2.2
  obtain ⟨k1, ⟨u0, u1, u2, k2⟩, k3, k4⟩ := id hS4
  obtain ⟨⟨c0, c1, c2⟩, ⟨f0, f1, f2⟩⟩ := gap_cells k2
  go_simp
  have hg3 := gput3_heap (v0 := .string ⟨x.1.toArray⟩) (v1 := .string ⟨x.2.1.toArray⟩) (v2 := .slice (some ⟨t, 0, none⟩) x.2.2.length cp) k2
  have hgb := gput3_below k3 (g := w.heap.size + 1) (Nat.le_succ _) (.string ⟨x.1.toArray⟩) (.string ⟨x.2.1.toArray⟩) (.slice (some ⟨t, 0, none⟩) x.2.2.length cp)
  have hgz := gput3_far (v0 := .string ⟨x.1.toArray⟩) (v1 := .string ⟨x.2.1.toArray⟩) (v2 := .slice (some ⟨t, 0, none⟩) x.2.2.length cp) hz4 (show w.heap.size + 1 ≠ t by omega)
  have hgx : (gput3 w4 (w.heap.size + 1) (.string ⟨x.1.toArray⟩) (.string ⟨x.2.1.toArray⟩) (.slice (some ⟨t, 0, none⟩) x.2.2.length cp)).heap[w.heap.size]? = some (.cells #[.string ⟨x.1.toArray⟩, .string ⟨x.2.1.toArray⟩, .slice a x.2.2.length cap] 26) := by
    unfold gput3
    rw [heap_setCell_other _ _ _ _ (show w.heap.size ≠ w.heap.size + 1 by omega), heap_setCell_other _ _ _ _ (show w.heap.size ≠ w.heap.size + 1 by omega), heap_setCell_other _ _ _ _ (show w.heap.size ≠ w.heap.size + 1 by omega)]; exact k1
  have hgs : w.heap.size + 2 ≤ (gput3 w4 (w.heap.size + 1) (.string ⟨x.1.toArray⟩) (.string ⟨x.2.1.toArray⟩) (.slice (some ⟨t, 0, none⟩) x.2.2.length cp)).heap.size := by unfold gput3; simpa using k4
  unfold gput3 at hg3 hgb hgz hgx hgs
  refine hK.out _ _ ⟨hgx, ⟨_, _, _, hg3⟩, hgb, hgs⟩ (fun hS5 => ?_)
  clear hK
  refine wpAnyH_done (by kernel_rfl) ?_ _
  go_wp2_with fail
  (try simp only [Exit.inBlock, Exit.then])
  refine bodyPost_ret (results_cell_row rfl _ _ (w.heap.size + 1) 26 #[.string ⟨x.1.toArray⟩, .string ⟨x.2.1.toArray⟩, .slice (some ⟨t, 0, none⟩) x.2.2.length cp] (0, 0) _ rfl hg3 Tryd.underlying26 rfl (by kernel_rfl)) rfl ⟨t, cp, rfl, g1, g2, by omega, hgz, hgb⟩
end Go.Proofs.YtoeffplfkdogdaaDoor
