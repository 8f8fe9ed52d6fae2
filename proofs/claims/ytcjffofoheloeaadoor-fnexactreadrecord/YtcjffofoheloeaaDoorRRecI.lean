import Derived.Test.YtcjffofoheloeaaDoorRRecC
namespace Go.Proofs.YtcjffofoheloeaaDoor
open Go.RowKit

set_option maxRecDepth 20000 in
set_option maxHeartbeats 400000 in
theorem nameFrom_any (p : List UInt8) (w : World) (hl : p.length ≤ 1048576) : Calls Tryd.prog 13 #[.string ⟨p.toArray⟩] w fun e w' => e = .returned (.string ⟨(nmOf p).toArray⟩) ∧ Below w.heap.size w w' := by
  by_cases hp : p = [46]
  · subst hp
    go_enter Tryd.func13, Tryd.ntmps13
    go_wp2_with fail
    go_ret
    exact ⟨rfl, Below.refl _ _⟩
  · have e46 : (p == [46]) = false := by simpa using hp
    have HN : Hid (nmOf p = p) := if_neg hp
    go_enter Tryd.func13, Tryd.ntmps13
    go_wp2_with fail
    refine (cloneR_any ⟨p.toArray⟩ w (by rw [size_list]; omega)).mono ?_
    rintro e w1 ⟨rfl, hb⟩
    go_wp2_with fail
    go_ret
    exact ⟨by rw [HN.out]; rfl, hb⟩
theorem r4_heap {w : World} {g : Nat} {t : TypeId} {v0 v1 v2 v3 u0 u1 u2 u3 : Value} (h : w.heap[g]? = some (.cells #[u0, u1, u2, u3] t)) :
    ((((w.setCell ⟨g, 0, none⟩ v0).setCell ⟨g, 1, none⟩ v1).setCell ⟨g, 2, none⟩ v2).setCell ⟨g, 3, none⟩ v3).heap[g]? = some (.cells #[v0, v1, v2, v3] t) := by
  have e0 := heap_setCell_same _ _ 0 _ _ v0 h
  have e1 := heap_setCell_same _ _ 1 _ _ v1 e0
  have e2 := heap_setCell_same _ _ 2 _ _ v2 e1
  have e3 := heap_setCell_same _ _ 3 _ _ v3 e2
  simpa using e3
theorem r4_below {B : Nat} {a w : World} (h : Below B a w) {g : Nat} (hg : B ≤ g) (v0 v1 v2 v3 : Value) : Below B a ((((w.setCell ⟨g, 0, none⟩ v0).setCell ⟨g, 1, none⟩ v1).setCell ⟨g, 2, none⟩ v2).setCell ⟨g, 3, none⟩ v3) :=
  (((h.setCell (p := ⟨g, 0, none⟩) hg _).setCell (p := ⟨g, 1, none⟩) hg _).setCell (p := ⟨g, 2, none⟩) hg _).setCell (p := ⟨g, 3, none⟩) hg _
theorem r4_cells {W : World} {b : Nat} {v0 v1 v2 v3 : Value} {t : TypeId} (h : W.heap[b]? = some (.cells #[v0, v1, v2, v3] t)) :
    (W.cell? ⟨b, 0, none⟩ = some v0 ∧ W.cell? ⟨b, 1, none⟩ = some v1 ∧ W.cell? ⟨b, 2, none⟩ = some v2 ∧ W.cell? ⟨b, 3, none⟩ = some v3) ∧
    (W.frozen? ⟨b, 0, none⟩ = false ∧ W.frozen? ⟨b, 1, none⟩ = false ∧ W.frozen? ⟨b, 2, none⟩ = false ∧ W.frozen? ⟨b, 3, none⟩ = false) := by
  refine ⟨⟨?_, ?_, ?_, ?_⟩, ⟨?_, ?_, ?_, ?_⟩⟩
  all_goals first
    | (unfold World.cell?; rw [h]; rfl)
    | (unfold World.frozen?; rw [h]; simp)
theorem r4_new (w : World) (o : Obj) : (w.alloc o).heap[w.heap.size]? = some o := by unfold World.alloc; simp

theorem splitQ_short {l : List UInt8} (h : (cut 32 l).length < 4) : ¬ (Lib.splitK [32] 0 (min 4 (l.length + 1) - 1) l).length = 4 := by
  have hc := cut_length_le 32 l
  rw [splitK_cut _ l (by omega)]; omega
theorem splitQ_long {l p q t r : List UInt8} (hc : cut 32 l = p :: q :: t :: cut 32 r) (hk : Lib.splitK [32] 0 3 l = [p, q, t, r]) : Lib.splitK [32] 0 (min 4 (l.length + 1) - 1) l = [p, q, t, r] := by
  have h1 := cut_length_le 32 l
  rw [hc] at h1
  have h2 := List.length_pos_iff.2 (cut_ne 32 r)
  simp only [List.length_cons] at h1
  rw [show min 4 (l.length + 1) - 1 = 3 by omega]; exact hk


set_option maxRecDepth 20000 in
set_option maxHeartbeats 1000000 in
theorem iRead_short (s : ByteArray) (w : World) (hs : s.size ≤ 1048576) (hE : EnvR w) (h4 : Hid ((cut 32 s.data.toList).length < 4)) :
    Calls Tryd.prog 5 #[.string s] w fun e w' => e = .returned (.tuple #[RecV ⟨#[]⟩ 0 0 ⟨#[]⟩, .bool false]) ∧ Below w.heap.size w w' := by
  obtain ⟨W0, hW0⟩ : ∃ W0, W0 = w.alloc (.cells #[.string ⟨#[]⟩, .int .i64 0, .int .i64 0, .string ⟨#[]⟩] 23) := ⟨_, rfl⟩
  have HX : Hid (∀ W, Below W0.heap.size W0 W → (W.cell? ⟨w.heap.size, 0, none⟩ = some (.string ⟨#[]⟩) ∧ W.cell? ⟨w.heap.size, 1, none⟩ = some (.int .i64 0) ∧ W.cell? ⟨w.heap.size, 2, none⟩ = some (.int .i64 0) ∧ W.cell? ⟨w.heap.size, 3, none⟩ = some (.string ⟨#[]⟩) ∧ Below w.heap.size w W) ∧ (W.frozen? ⟨w.heap.size, 0, none⟩ = false ∧ W.frozen? ⟨w.heap.size, 1, none⟩ = false ∧ W.frozen? ⟨w.heap.size, 2, none⟩ = false ∧ W.frozen? ⟨w.heap.size, 3, none⟩ = false)) := fun W h => by rw [hW0] at h; exact ⟨box4 h, box4f h⟩
  have HW0 : Hid (w.alloc (.cells #[.string ⟨#[]⟩, .int .i64 0, .int .i64 0, .string ⟨#[]⟩] 23) = W0) := hW0.symm
  have hb00 : Below w.heap.size w W0 := by rw [hW0]; exact (Below.refl _ _).alloc (Nat.le_refl _) _
  have HTR : Hid (∀ W W', Below W0.heap.size W0 W → Below W.heap.size W W' → Below W0.heap.size W0 W') := fun W W' h1 h2 => h1.trans (h2.mono h1.size)
  have HENV : Hid (∀ W, Below W0.heap.size W0 W → EnvR W) := fun W h => hE.below (HX.out W h).1.2.2.2.2
  have hsn : Calls Tryd.prog 11 #[.string s, .string ⟨#[32]⟩, .int .i64 4] W0 fun e w' => ∃ (Q : List (List UInt8)) (cap : Nat), e = .returned (.slice (some ⟨W0.heap.size, 0, none⟩) Q.length cap) ∧ Q.length ≤ cap ∧ cap ≤ 1000 ∧ Q = Lib.splitK [32] 0 (min 4 (s.data.toList.length + 1) - 1) s.data.toList ∧ (∀ j, (hj : j < Q.length) → w'.cell? ⟨W0.heap.size, j, none⟩ = some (S Q[j])) ∧ W0.heap.size < w'.heap.size ∧ Below W0.heap.size W0 w' := splitN_row s 32 4 W0 hs (hE.1.below hb00) (by omega) (by omega)
  have HSN : Hid (Calls Tryd.prog 11 #[.string s, .string ⟨#[32]⟩, .int .i64 4] W0 fun e w' => ∃ (n cap : Nat), e = .returned (.slice (some ⟨W0.heap.size, 0, none⟩) n cap) ∧ n ≤ cap ∧ cap ≤ 1000 ∧ ¬ n = 4 ∧ Below W0.heap.size W0 w') := hsn.mono fun e w' h => by
    obtain ⟨Q, cap, rfl, h1, h2, hQ, _, _, h3⟩ := h
    exact ⟨Q.length, cap, rfl, h1, h2, by rw [hQ]; exact splitQ_short h4.out, h3⟩
  clear hW0 hsn
  unfold RecV
  go_enter Tryd.func5, Tryd.ntmps5
  go_wp2_with fail
  rw [HW0.out]
  refine HSN.out.mono ?_
  rintro e w1 ⟨n, cap, rfl, hcap, hcap2, hn4, hb⟩
  obtain ⟨⟨c0, c1, c2, c3, hbw⟩, ⟨f0, f1, f2, f3⟩⟩ := HX.out w1 hb
  have e4 : ((n : Int) != 4) = true := by simp; omega
  clear hb hn4
  go_wp2_with fail
  (try simp only [Exit.inBlock, Exit.then])
  refine bodyPost_ret (v := .tuple #[.agg #[.string ⟨#[]⟩, .int .i64 0, .int .i64 0, .string ⟨#[]⟩], .bool false]) ?_ rfl ⟨rfl, ?_⟩
  · rw [results_cell_tmp rfl]; go_simp
  · exact (((hbw.setCell (p := ⟨w.heap.size, 0, none⟩) (Nat.le_refl _) _).setCell (p := ⟨w.heap.size, 1, none⟩) (Nat.le_refl _) _).setCell (p := ⟨w.heap.size, 2, none⟩) (Nat.le_refl _) _).setCell (p := ⟨w.heap.size, 3, none⟩) (Nat.le_refl _) _

set_option maxRecDepth 20000 in
set_option maxHeartbeats 4000000 in
theorem iRead_bad (s : ByteArray) (p q t r nm : List UInt8) (w : World) (hs : s.size ≤ 1048576) (hE : EnvR w) (hl : Hid (s.data.toList = p ++ 32 :: (q ++ 32 :: (t ++ 32 :: r)))) (hQ4 : Hid (Lib.splitK [32] 0 (min 4 (s.data.toList.length + 1) - 1) s.data.toList = [p, q, t, r])) (hnm : Hid (nm = nmOf p)) (hG : Hid (recB nm (rdNum t 16) (rdNum q 100000) r = false)) :
    Calls Tryd.prog 5 #[.string s] w fun e w' => e = .returned (.tuple #[RecV ⟨#[]⟩ 0 0 ⟨#[]⟩, .bool false]) ∧ Below w.heap.size w w' := by
  obtain ⟨W0, hW0⟩ : ∃ W0, W0 = w.alloc (.cells #[.string ⟨#[]⟩, .int .i64 0, .int .i64 0, .string ⟨#[]⟩] 23) := ⟨_, rfl⟩
  have HX : Hid (∀ W, Below W0.heap.size W0 W → (W.cell? ⟨w.heap.size, 0, none⟩ = some (.string ⟨#[]⟩) ∧ W.cell? ⟨w.heap.size, 1, none⟩ = some (.int .i64 0) ∧ W.cell? ⟨w.heap.size, 2, none⟩ = some (.int .i64 0) ∧ W.cell? ⟨w.heap.size, 3, none⟩ = some (.string ⟨#[]⟩) ∧ Below w.heap.size w W) ∧ (W.frozen? ⟨w.heap.size, 0, none⟩ = false ∧ W.frozen? ⟨w.heap.size, 1, none⟩ = false ∧ W.frozen? ⟨w.heap.size, 2, none⟩ = false ∧ W.frozen? ⟨w.heap.size, 3, none⟩ = false)) := fun W h => by rw [hW0] at h; exact ⟨box4 h, box4f h⟩
  have HW0 : Hid (w.alloc (.cells #[.string ⟨#[]⟩, .int .i64 0, .int .i64 0, .string ⟨#[]⟩] 23) = W0) := hW0.symm
  have hzw0 : w.heap.size < W0.heap.size := by rw [hW0]; simp
  have hb00 : Below w.heap.size w W0 := by rw [hW0]; exact (Below.refl _ _).alloc (Nat.le_refl _) _
  have HTR : Hid (∀ W W', Below W0.heap.size W0 W → Below W.heap.size W W' → Below W0.heap.size W0 W') := fun W W' h1 h2 => h1.trans (h2.mono h1.size)
  have HENV : Hid (∀ W, Below W0.heap.size W0 W → EnvR W) := fun W h => hE.below (HX.out W h).1.2.2.2.2
  have hsn : Calls Tryd.prog 11 #[.string s, .string ⟨#[32]⟩, .int .i64 4] W0 fun e w' => ∃ (Q : List (List UInt8)) (cap : Nat), e = .returned (.slice (some ⟨W0.heap.size, 0, none⟩) Q.length cap) ∧ Q.length ≤ cap ∧ cap ≤ 1000 ∧ Q = Lib.splitK [32] 0 (min 4 (s.data.toList.length + 1) - 1) s.data.toList ∧ (∀ j, (hj : j < Q.length) → w'.cell? ⟨W0.heap.size, j, none⟩ = some (S Q[j])) ∧ W0.heap.size < w'.heap.size ∧ Below W0.heap.size W0 w' := splitN_row s 32 4 W0 hs (hE.1.below hb00) (by omega) (by omega)
  have hsz : s.data.toList.length = s.size := by simp
  have hlen : p.length + q.length + t.length + 3 + r.length = s.size := by
    rw [← hsz, hl.out]; simp; omega
  have hnl : nm.length ≤ 1048576 := by
    rw [hnm.out]
    unfold nmOf
    split
    · simp
    · omega
  have HSN : Hid (Calls Tryd.prog 11 #[.string s, .string ⟨#[32]⟩, .int .i64 4] W0 fun e w' => ∃ cap : Nat, e = .returned (.slice (some ⟨W0.heap.size, 0, none⟩) 4 cap) ∧ 4 ≤ cap ∧ cap ≤ 1000 ∧ w'.cell? ⟨W0.heap.size, 0, none⟩ = some (.string ⟨p.toArray⟩) ∧ w'.cell? ⟨W0.heap.size, 1, none⟩ = some (.string ⟨q.toArray⟩) ∧ w'.cell? ⟨W0.heap.size, 2, none⟩ = some (.string ⟨t.toArray⟩) ∧ w'.cell? ⟨W0.heap.size, 3, none⟩ = some (.string ⟨r.toArray⟩) ∧ W0.heap.size < w'.heap.size ∧ Below W0.heap.size W0 w') := hsn.mono fun e w' h => by
    obtain ⟨Q, cap, rfl, h1, h2, hQ, hcell, hlt, h3⟩ := h
    rw [hQ4.out] at hQ
    subst hQ
    exact ⟨cap, rfl, h1, h2, hcell 0 (by simp), hcell 1 (by simp), hcell 2 (by simp), hcell 3 (by simp), hlt, h3⟩
  have HR1 : Hid (∀ W, EnvR W → Calls Tryd.prog 12 #[.string ⟨q.toArray⟩, .int .i64 100000] W fun e w' => e = .returned (.tuple #[.int .i64 (rdNum q 100000), .bool (numIn q 100000)]) ∧ Below W.heap.size W w') := fun W hW => readNumber_any ⟨q.toArray⟩ 100000 W (by rw [size_list]; omega) (by omega) (by omega) hW
  have HR2 : Hid (∀ W, EnvR W → Calls Tryd.prog 12 #[.string ⟨t.toArray⟩, .int .i64 16] W fun e w' => e = .returned (.tuple #[.int .i64 (rdNum t 16), .bool (numIn t 16)]) ∧ Below W.heap.size W w') := fun W hW => readNumber_any ⟨t.toArray⟩ 16 W (by rw [size_list]; omega) (by omega) (by omega) hW
  have HC1 : Hid (∀ W, Calls Tryd.prog 13 #[.string ⟨p.toArray⟩] W fun e w' => e = .returned (.string ⟨nm.toArray⟩) ∧ Below W.heap.size W w') := fun W => by rw [hnm.out]; exact nameFrom_any p W (by omega)
  have HC2 : Hid (∀ W, Calls Tryd.prog 14 #[.string ⟨r.toArray⟩] W fun e w' => e = .returned (.string ⟨r.toArray⟩) ∧ Below W.heap.size W w') := fun W => cloneR_any ⟨r.toArray⟩ W (by rw [size_list]; omega)
  have HTX : Hid (∀ W, EnvR W → Calls Tryd.prog 15 #[RecV ⟨nm.toArray⟩ (rdNum t 16) (rdNum q 100000) ⟨r.toArray⟩] W fun e w' => e = .returned (.tuple #[.string ⟨#[]⟩, .bool false]) ∧ Below W.heap.size W w') := fun W hW => by
    have h := iRecordText_any ⟨nm.toArray⟩ ⟨r.toArray⟩ (rdNum t 16) (rdNum q 100000) W (by rw [size_list]; omega) (by rw [size_list]; omega) hW
    rw [show recB (⟨nm.toArray⟩ : ByteArray).data.toList (rdNum t 16) (rdNum q 100000) (⟨r.toArray⟩ : ByteArray).data.toList = false from hG.out, show recX (⟨nm.toArray⟩ : ByteArray).data.toList (rdNum t 16) (rdNum q 100000) (⟨r.toArray⟩ : ByteArray).data.toList = [] from if_neg (by rw [show recB (⟨nm.toArray⟩ : ByteArray).data.toList (rdNum t 16) (rdNum q 100000) (⟨r.toArray⟩ : ByteArray).data.toList = false from hG.out]; simp)] at h
    exact h
  obtain ⟨ty, hty⟩ : ∃ ty, ty = rdNum t 16 := ⟨_, rfl⟩
  obtain ⟨ttl, httl⟩ : ∃ ttl, ttl = rdNum q 100000 := ⟨_, rfl⟩
  rw [← hty, ← httl] at HTX
  rw [← httl] at HR1
  rw [← hty] at HR2
  clear hW0 hsn hsz hlen hty httl hG hnl
  unfold RecV at HTX ⊢
  go_enter Tryd.func5, Tryd.ntmps5
  go_wp2_with fail
  rw [HW0.out]
  refine HSN.out.mono ?_
  rintro e w1 ⟨cap, rfl, hcap, hcap2, d0, d1, d2, d3, hlt, hb⟩
  obtain ⟨g, hg⟩ : ∃ g, g = W0.heap.size := ⟨_, rfl⟩
  rw [← hg] at d0 d1 d2 d3 hlt ⊢
  have HD : Hid (∀ W, Below w1.heap.size w1 W → W.cell? ⟨g, 0, none⟩ = some (.string ⟨p.toArray⟩) ∧ W.cell? ⟨g, 1, none⟩ = some (.string ⟨q.toArray⟩) ∧ W.cell? ⟨g, 2, none⟩ = some (.string ⟨t.toArray⟩) ∧ W.cell? ⟨g, 3, none⟩ = some (.string ⟨r.toArray⟩)) := fun W h => by
    rw [h.cell (p := ⟨g, 0, none⟩) hlt, h.cell (p := ⟨g, 1, none⟩) hlt, h.cell (p := ⟨g, 2, none⟩) hlt, h.cell (p := ⟨g, 3, none⟩) hlt]; exact ⟨d0, d1, d2, d3⟩
  have HT1 : Hid (∀ W W', Below w1.heap.size w1 W → Below W.heap.size W W' → Below w1.heap.size w1 W') := fun W W' h1 h2 => h1.trans (h2.mono h1.size)
  have HB1 : Hid (Below W0.heap.size W0 w1) := hb
  have hz01 : W0.heap.size ≤ w1.heap.size := hb.size
  have HE1 : Hid (∀ W, Below w1.heap.size w1 W → EnvR W) := fun W h => HENV.out W (HTR.out _ _ hb h)
  have HX1 : Hid (∀ W, Below w1.heap.size w1 W → (W.cell? ⟨w.heap.size, 0, none⟩ = some (.string ⟨#[]⟩) ∧ W.cell? ⟨w.heap.size, 1, none⟩ = some (.int .i64 0) ∧ W.cell? ⟨w.heap.size, 2, none⟩ = some (.int .i64 0) ∧ W.cell? ⟨w.heap.size, 3, none⟩ = some (.string ⟨#[]⟩) ∧ Below w.heap.size w W) ∧ (W.frozen? ⟨w.heap.size, 0, none⟩ = false ∧ W.frozen? ⟨w.heap.size, 1, none⟩ = false ∧ W.frozen? ⟨w.heap.size, 2, none⟩ = false ∧ W.frozen? ⟨w.heap.size, 3, none⟩ = false)) := fun W h => HX.out W (HTR.out _ _ hb h)
  have hbz : Below w1.heap.size w1 w1 := Below.refl _ _
  clear hg hb hlt
  go_wp2_with fail
  refine (HR1.out _ (HE1.out _ hbz)).mono ?_
  rintro e w2 ⟨rfl, hb2⟩
  have hb12 := HT1.out _ _ hbz hb2
  clear d0 d1 d2 d3 hbz hb2
  obtain ⟨d0, d1, d2, d3⟩ := HD.out w2 hb12
  go_wp2_with fail
  refine (HR2.out _ (HE1.out _ hb12)).mono ?_
  rintro e w3 ⟨rfl, hb3⟩
  have hb13 := HT1.out _ _ hb12 hb3
  clear d0 d1 d2 d3 hb12 hb3
  have hS0 : (fun W : World => Below w1.heap.size w1 W) w3.drew := hb13.drew
  have hz13 : w1.heap.size ≤ w3.heap.size := hb13.size
  have h4c : ¬ (cap : Int) ≤ 0 := by omega
  go_wp2_with fail
  refine wp_region_noPanic ?_
  refine wp_region_held_drew (S := fun W => Below w1.heap.size w1 W) (by kernel_rfl) hS0 (fun hHeld => ?_)
  refine wpAnyH_take (i := 0) (v := .slice (some ⟨g, 0, none⟩) 4 cap) rfl (by kernel_rfl) (by kernel_rfl) (by kernel_rfl) (fun _ _ _ h => h) (Or.inl ⟨by rfl, ?_⟩) (by assumption) ?_
  · intro W hSW
    go_simp
    all_goals (try omega)
  simp only [Act.put, List.setIfInBounds_toArray]
  refine wpAnyH_take (i := 1) (v := .pointer (some ⟨g, 0, none⟩)) rfl (by kernel_rfl) (by kernel_rfl) (by kernel_rfl) (fun _ _ _ h => h) (Or.inl ⟨by rfl, ?_⟩) (by assumption) ?_
  · intro W hSW
    go_simp
    all_goals (try omega)
  simp only [Act.put]
  refine wpAnyH_take (i := 2) (v := .string ⟨p.toArray⟩) rfl (by kernel_rfl) (by kernel_rfl) (by kernel_rfl) (fun _ _ _ h => h) (Or.inl ⟨by rfl, ?_⟩) (by assumption) ?_
  · intro W hSW
    obtain ⟨d0, d1, d2, d3⟩ := HD.out W hSW
    go_simp
    all_goals (try omega)
  simp only [Act.put]
  refine wpAnyH_take (i := 4) (v := .int .i64 ty) rfl (by kernel_rfl) (by kernel_rfl) (by kernel_rfl) (fun _ _ _ h => h) (Or.inl ⟨by rfl, ?_⟩) (by assumption) ?_
  · intro W hSW
    go_simp
    all_goals (try omega)
  simp only [Act.put]
  refine wpAnyH_take (i := 5) (v := .int .i64 ttl) rfl (by kernel_rfl) (by kernel_rfl) (by kernel_rfl) (fun _ _ _ h => h) (Or.inl ⟨by rfl, ?_⟩) (by assumption) ?_
  · intro W hSW
    go_simp
    all_goals (try omega)
  simp only [Act.put]
  refine wpAnyH_take (i := 6) (v := .slice (some ⟨g, 0, none⟩) 4 cap) rfl (by kernel_rfl) (by kernel_rfl) (by kernel_rfl) (fun _ _ _ h => h) (Or.inl ⟨by rfl, ?_⟩) (by assumption) ?_
  · intro W hSW
    go_simp
    all_goals (try omega)
  simp only [Act.put]
  refine wpAnyH_take (i := 7) (v := .pointer (some ⟨g, 3, none⟩)) rfl (by kernel_rfl) (by kernel_rfl) (by kernel_rfl) (fun _ _ _ h => h) (Or.inl ⟨by rfl, ?_⟩) (by assumption) ?_
  · intro W hSW
    go_simp
    all_goals (try omega)
  simp only [Act.put]
  refine wpAnyH_take (i := 8) (v := .string ⟨r.toArray⟩) rfl (by kernel_rfl) (by kernel_rfl) (by kernel_rfl) (fun _ _ _ h => h) (Or.inl ⟨by rfl, ?_⟩) (by assumption) ?_
  · intro W hSW
    obtain ⟨d0, d1, d2, d3⟩ := HD.out W hSW
    go_simp
    all_goals (try omega)
  simp only [Act.put]
  refine wpAnyH_ready (rs := [3, 11]) (by kernel_rfl) (by simp) ?_
  refine AllReadyH.cons rfl (fun K hK => ?_) (AllReadyH.cons rfl (fun K hK => ?_) AllReadyH.nil)
  · rw [if_pos (by rfl)]
    go_simp
    refine (HC1.out _).mono ?_
    rintro e w4 ⟨rfl, hb14'⟩
    go_simp
    have hb14 := HT1.out _ _ hS0 hb14'
    refine hK.out _ _ hb14 (fun hS4 => ?_)
    clear hK
    refine wpAnyH_ready (rs := [9, 11]) (by kernel_rfl) (by simp) ?_
    refine AllReadyH.cons rfl (fun K hK => ?_) (AllReadyH.cons rfl (fun K hK => ?_) AllReadyH.nil)
    · rw [if_pos (by rfl)]
      go_simp
      refine (HC2.out _).mono ?_
      rintro e w5 ⟨rfl, hb15'⟩
      go_simp
      have hb15 := HT1.out _ _ hS4 hb15'
      refine hK.out _ _ hb15 (fun hS5 => ?_)
      clear hK
      refine wpAnyH_take (i := 10) (v := (.agg #[.string ⟨nm.toArray⟩, .int .i64 ty, .int .i64 ttl, .string ⟨r.toArray⟩])) rfl (by kernel_rfl) (by kernel_rfl) (by kernel_rfl) (fun _ _ _ h => h) (Or.inl ⟨by rfl, ?_⟩) (by assumption) ?_
      · intro W hSW
        go_simp
        all_goals (try omega)
      simp only [Act.put, List.setIfInBounds_toArray]
      refine wpAnyH_ready (rs := [11]) (by kernel_rfl) (by simp) ?_
      refine AllReadyH.cons rfl (fun K hK => ?_) AllReadyH.nil
      rw [if_pos (by rfl)]
      go_simp
      refine hK.out _ _ (hb15.alloc hb15.size _) (fun hS6 => ?_)
      clear hK
      obtain ⟨gb, hgb⟩ : ∃ gb, gb = w5.heap.size := ⟨_, rfl⟩
      have HBP : Hid ((w5.alloc (.cells #[.string ⟨#[]⟩, .int .i64 0, .int .i64 0, .string ⟨#[]⟩] 23)).heap[gb]? = some (.cells #[.string ⟨#[]⟩, .int .i64 0, .int .i64 0, .string ⟨#[]⟩] 23)) := by rw [hgb]; exact r4_new _ _
      have hbP : Below w1.heap.size w1 (w5.alloc (.cells #[.string ⟨#[]⟩, .int .i64 0, .int .i64 0, .string ⟨#[]⟩] 23)) := hS6
      have hgP : w1.heap.size ≤ gb ∧ gb < ((w5.alloc (.cells #[.string ⟨#[]⟩, .int .i64 0, .int .i64 0, .string ⟨#[]⟩] 23))).heap.size := ⟨by rw [hgb]; exact hb15.size, by rw [hgb]; simp⟩
      rw [← hgb]
      clear hgb
      obtain ⟨⟨u0, u1, u2, u3⟩, ⟨v0, v1, v2, v3⟩⟩ := r4_cells HBP.out
      refine wpAnyH_ready (rs := [12]) (by kernel_rfl) (by simp) ?_
      refine AllReadyH.cons rfl (fun K hK => ?_) AllReadyH.nil
      rw [if_pos (by rfl)]
      go_simp
      refine hK.out _ _ (r4_below hbP hgP.1 _ _ _ _) (fun hS9 => ?_)
      have hbF := hS9
      have HBX : Hid ((((((w5.alloc (.cells #[.string ⟨#[]⟩, .int .i64 0, .int .i64 0, .string ⟨#[]⟩] 23)).setCell ⟨gb, 0, none⟩ (.string ⟨nm.toArray⟩)).setCell ⟨gb, 1, none⟩ (.int .i64 ty)).setCell ⟨gb, 2, none⟩ (.int .i64 ttl)).setCell ⟨gb, 3, none⟩ (.string ⟨r.toArray⟩)).heap[gb]? = some (.cells #[.string ⟨nm.toArray⟩, .int .i64 ty, .int .i64 ttl, .string ⟨r.toArray⟩] 23)) := r4_heap HBP.out
      have hgF : gb < (w5.alloc (.cells #[.string ⟨#[]⟩, .int .i64 0, .int .i64 0, .string ⟨#[]⟩] 23)).heap.size := hgP.2
      clear u0 u1 u2 u3 v0 v1 v2 v3
      clear hK
      refine wpAnyH_done (by kernel_rfl) ?_ _
      refine NoPanic.normal ?_
      clear hS0 hHeld
      obtain ⟨⟨m0, m1, m2, m3⟩, _⟩ := r4_cells HBX.out
      go_wp2_with fail
      refine (HTX.out _ (HE1.out _ hbF)).mono ?_
      rintro e w6 ⟨rfl, hb6⟩
      have hb16 := HT1.out _ _ hbF hb6
      have HBX6 : Hid (w6.heap[gb]? = some (.cells #[.string ⟨nm.toArray⟩, .int .i64 ty, .int .i64 ttl, .string ⟨r.toArray⟩] 23)) := (hb6.block gb (by simpa using hgF)).trans HBX.out
      obtain ⟨⟨c0, c1, c2, c3, hbw⟩, ⟨f0, f1, f2, f3⟩⟩ := HX1.out w6 hb16
      clear m0 m1 m2 m3
      obtain ⟨⟨m0, m1, m2, m3⟩, _⟩ := r4_cells HBX6.out
      have hng : gb ≠ w.heap.size := by omega
      have hng2 : w.heap.size ≠ gb := by omega
      clear hb6 hb16
      go_wp2_with fail
      (try simp only [Exit.inBlock, Exit.then])
      refine bodyPost_ret (v := .tuple #[(.agg #[.string ⟨#[]⟩, .int .i64 0, .int .i64 0, .string ⟨#[]⟩]), .bool false]) ?_ rfl ⟨rfl, ?_⟩
      · rw [results_cell_tmp rfl]; go_simp
      · exact r4_below hbw (Nat.le_refl _) _ _ _ _
    · rw [if_pos (by rfl)]
      go_simp
      refine hK.out _ _ (hb14.alloc hb14.size _) (fun hS5 => ?_)
      clear hK
      refine wpAnyH_ready (rs := [9]) (by kernel_rfl) (by simp) ?_
      refine AllReadyH.cons rfl (fun K hK => ?_) AllReadyH.nil
      rw [if_pos (by rfl)]
      go_simp
      refine (HC2.out _).mono ?_
      rintro e w5 ⟨rfl, hb15'⟩
      go_simp
      have hb15 := HT1.out _ _ hS5 hb15'
      refine hK.out _ _ hb15 (fun hS6 => ?_)
      clear hK
      refine wpAnyH_take (i := 10) (v := (.agg #[.string ⟨nm.toArray⟩, .int .i64 ty, .int .i64 ttl, .string ⟨r.toArray⟩])) rfl (by kernel_rfl) (by kernel_rfl) (by kernel_rfl) (fun _ _ _ h => h) (Or.inl ⟨by rfl, ?_⟩) (by assumption) ?_
      · intro W hSW
        go_simp
        all_goals (try omega)
      simp only [Act.put, List.setIfInBounds_toArray]
      obtain ⟨gb, hgb⟩ : ∃ gb, gb = w4.heap.size := ⟨_, rfl⟩
      have HBP : Hid (w5.heap[gb]? = some (.cells #[.string ⟨#[]⟩, .int .i64 0, .int .i64 0, .string ⟨#[]⟩] 23)) := by rw [hgb]; exact (hb15'.block w4.heap.size (by simp)).trans (r4_new _ _)
      have hbP : Below w1.heap.size w1 w5 := hb15
      have hgP : w1.heap.size ≤ gb ∧ gb < (w5).heap.size := ⟨by rw [hgb]; exact hb14.size, by rw [hgb]; exact Nat.lt_of_lt_of_le (by simp) hb15'.size⟩
      rw [← hgb]
      clear hgb
      obtain ⟨⟨u0, u1, u2, u3⟩, ⟨v0, v1, v2, v3⟩⟩ := r4_cells HBP.out
      refine wpAnyH_ready (rs := [12]) (by kernel_rfl) (by simp) ?_
      refine AllReadyH.cons rfl (fun K hK => ?_) AllReadyH.nil
      rw [if_pos (by rfl)]
      go_simp
      refine hK.out _ _ (r4_below hbP hgP.1 _ _ _ _) (fun hS9 => ?_)
      have hbF := hS9
      have HBX : Hid (((((w5.setCell ⟨gb, 0, none⟩ (.string ⟨nm.toArray⟩)).setCell ⟨gb, 1, none⟩ (.int .i64 ty)).setCell ⟨gb, 2, none⟩ (.int .i64 ttl)).setCell ⟨gb, 3, none⟩ (.string ⟨r.toArray⟩)).heap[gb]? = some (.cells #[.string ⟨nm.toArray⟩, .int .i64 ty, .int .i64 ttl, .string ⟨r.toArray⟩] 23)) := r4_heap HBP.out
      have hgF : gb < w5.heap.size := hgP.2
      clear u0 u1 u2 u3 v0 v1 v2 v3
      clear hK
      refine wpAnyH_done (by kernel_rfl) ?_ _
      refine NoPanic.normal ?_
      clear hS0 hHeld
      obtain ⟨⟨m0, m1, m2, m3⟩, _⟩ := r4_cells HBX.out
      go_wp2_with fail
      refine (HTX.out _ (HE1.out _ hbF)).mono ?_
      rintro e w6 ⟨rfl, hb6⟩
      have hb16 := HT1.out _ _ hbF hb6
      have HBX6 : Hid (w6.heap[gb]? = some (.cells #[.string ⟨nm.toArray⟩, .int .i64 ty, .int .i64 ttl, .string ⟨r.toArray⟩] 23)) := (hb6.block gb (by simpa using hgF)).trans HBX.out
      obtain ⟨⟨c0, c1, c2, c3, hbw⟩, ⟨f0, f1, f2, f3⟩⟩ := HX1.out w6 hb16
      clear m0 m1 m2 m3
      obtain ⟨⟨m0, m1, m2, m3⟩, _⟩ := r4_cells HBX6.out
      have hng : gb ≠ w.heap.size := by omega
      have hng2 : w.heap.size ≠ gb := by omega
      clear hb6 hb16
      go_wp2_with fail
      (try simp only [Exit.inBlock, Exit.then])
      refine bodyPost_ret (v := .tuple #[(.agg #[.string ⟨#[]⟩, .int .i64 0, .int .i64 0, .string ⟨#[]⟩]), .bool false]) ?_ rfl ⟨rfl, ?_⟩
      · rw [results_cell_tmp rfl]; go_simp
      · exact r4_below hbw (Nat.le_refl _) _ _ _ _
  · rw [if_pos (by rfl)]
    go_simp
    refine hK.out _ _ (hS0.alloc hS0.size _) (fun hS4 => ?_)
    clear hK
    refine wpAnyH_ready (rs := [3]) (by kernel_rfl) (by simp) ?_
    refine AllReadyH.cons rfl (fun K hK => ?_) AllReadyH.nil
    rw [if_pos (by rfl)]
    go_simp
    refine (HC1.out _).mono ?_
    rintro e w4 ⟨rfl, hb14'⟩
    go_simp
    have hb14 := HT1.out _ _ hS4 hb14'
    refine hK.out _ _ hb14 (fun hS5 => ?_)
    clear hK
    refine wpAnyH_ready (rs := [9]) (by kernel_rfl) (by simp) ?_
    refine AllReadyH.cons rfl (fun K hK => ?_) AllReadyH.nil
    rw [if_pos (by rfl)]
    go_simp
    refine (HC2.out _).mono ?_
    rintro e w5 ⟨rfl, hb15'⟩
    go_simp
    have hb15 := HT1.out _ _ hS5 hb15'
    refine hK.out _ _ hb15 (fun hS6 => ?_)
    clear hK
    refine wpAnyH_take (i := 10) (v := (.agg #[.string ⟨nm.toArray⟩, .int .i64 ty, .int .i64 ttl, .string ⟨r.toArray⟩])) rfl (by kernel_rfl) (by kernel_rfl) (by kernel_rfl) (fun _ _ _ h => h) (Or.inl ⟨by rfl, ?_⟩) (by assumption) ?_
    · intro W hSW
      go_simp
      all_goals (try omega)
    simp only [Act.put, List.setIfInBounds_toArray]
    obtain ⟨gb, hgb⟩ : ∃ gb, gb = w3.heap.size := ⟨_, rfl⟩
    have HBP : Hid (w5.heap[gb]? = some (.cells #[.string ⟨#[]⟩, .int .i64 0, .int .i64 0, .string ⟨#[]⟩] 23)) := by rw [hgb]; exact (hb15'.block w3.heap.size (Nat.lt_of_lt_of_le (by simp) hb14'.size)).trans ((hb14'.block w3.heap.size (by simp)).trans (r4_new w3.drew _))
    have hbP : Below w1.heap.size w1 w5 := hb15
    have hgP : w1.heap.size ≤ gb ∧ gb < (w5).heap.size := ⟨by rw [hgb]; exact hS0.size, by rw [hgb]; exact Nat.lt_of_lt_of_le (Nat.lt_of_lt_of_le (by simp) hb14'.size) hb15'.size⟩
    rw [← hgb]
    clear hgb
    obtain ⟨⟨u0, u1, u2, u3⟩, ⟨v0, v1, v2, v3⟩⟩ := r4_cells HBP.out
    refine wpAnyH_ready (rs := [12]) (by kernel_rfl) (by simp) ?_
    refine AllReadyH.cons rfl (fun K hK => ?_) AllReadyH.nil
    rw [if_pos (by rfl)]
    go_simp
    refine hK.out _ _ (r4_below hbP hgP.1 _ _ _ _) (fun hS9 => ?_)
    have hbF := hS9
    have HBX : Hid (((((w5.setCell ⟨gb, 0, none⟩ (.string ⟨nm.toArray⟩)).setCell ⟨gb, 1, none⟩ (.int .i64 ty)).setCell ⟨gb, 2, none⟩ (.int .i64 ttl)).setCell ⟨gb, 3, none⟩ (.string ⟨r.toArray⟩)).heap[gb]? = some (.cells #[.string ⟨nm.toArray⟩, .int .i64 ty, .int .i64 ttl, .string ⟨r.toArray⟩] 23)) := r4_heap HBP.out
    have hgF : gb < w5.heap.size := hgP.2
    clear u0 u1 u2 u3 v0 v1 v2 v3
    clear hK
    refine wpAnyH_done (by kernel_rfl) ?_ _
    refine NoPanic.normal ?_
    clear hS0 hHeld
    obtain ⟨⟨m0, m1, m2, m3⟩, _⟩ := r4_cells HBX.out
    go_wp2_with fail
    refine (HTX.out _ (HE1.out _ hbF)).mono ?_
    rintro e w6 ⟨rfl, hb6⟩
    have hb16 := HT1.out _ _ hbF hb6
    have HBX6 : Hid (w6.heap[gb]? = some (.cells #[.string ⟨nm.toArray⟩, .int .i64 ty, .int .i64 ttl, .string ⟨r.toArray⟩] 23)) := (hb6.block gb (by simpa using hgF)).trans HBX.out
    obtain ⟨⟨c0, c1, c2, c3, hbw⟩, ⟨f0, f1, f2, f3⟩⟩ := HX1.out w6 hb16
    clear m0 m1 m2 m3
    obtain ⟨⟨m0, m1, m2, m3⟩, _⟩ := r4_cells HBX6.out
    have hng : gb ≠ w.heap.size := by omega
    have hng2 : w.heap.size ≠ gb := by omega
    clear hb6 hb16
    go_wp2_with fail
    (try simp only [Exit.inBlock, Exit.then])
    refine bodyPost_ret (v := .tuple #[(.agg #[.string ⟨#[]⟩, .int .i64 0, .int .i64 0, .string ⟨#[]⟩]), .bool false]) ?_ rfl ⟨rfl, ?_⟩
    · rw [results_cell_tmp rfl]; go_simp
    · exact r4_below hbw (Nat.le_refl _) _ _ _ _

set_option maxRecDepth 20000 in
set_option maxHeartbeats 4000000 in
theorem iRead_other (s : ByteArray) (p q t r nm : List UInt8) (w : World) (hs : s.size ≤ 1048576) (hE : EnvR w) (hl : Hid (s.data.toList = p ++ 32 :: (q ++ 32 :: (t ++ 32 :: r)))) (hQ4 : Hid (Lib.splitK [32] 0 (min 4 (s.data.toList.length + 1) - 1) s.data.toList = [p, q, t, r])) (hnm : Hid (nm = nmOf p)) (hG : Hid (recB nm (rdNum t 16) (rdNum q 100000) r = true)) (hD : Hid (¬ recT nm (rdNum t 16).toNat (rdNum q 100000).toNat r = s.data.toList)) :
    Calls Tryd.prog 5 #[.string s] w fun e w' => e = .returned (.tuple #[RecV ⟨#[]⟩ 0 0 ⟨#[]⟩, .bool false]) ∧ Below w.heap.size w w' := by
  obtain ⟨W0, hW0⟩ : ∃ W0, W0 = w.alloc (.cells #[.string ⟨#[]⟩, .int .i64 0, .int .i64 0, .string ⟨#[]⟩] 23) := ⟨_, rfl⟩
  have HX : Hid (∀ W, Below W0.heap.size W0 W → (W.cell? ⟨w.heap.size, 0, none⟩ = some (.string ⟨#[]⟩) ∧ W.cell? ⟨w.heap.size, 1, none⟩ = some (.int .i64 0) ∧ W.cell? ⟨w.heap.size, 2, none⟩ = some (.int .i64 0) ∧ W.cell? ⟨w.heap.size, 3, none⟩ = some (.string ⟨#[]⟩) ∧ Below w.heap.size w W) ∧ (W.frozen? ⟨w.heap.size, 0, none⟩ = false ∧ W.frozen? ⟨w.heap.size, 1, none⟩ = false ∧ W.frozen? ⟨w.heap.size, 2, none⟩ = false ∧ W.frozen? ⟨w.heap.size, 3, none⟩ = false)) := fun W h => by rw [hW0] at h; exact ⟨box4 h, box4f h⟩
  have HW0 : Hid (w.alloc (.cells #[.string ⟨#[]⟩, .int .i64 0, .int .i64 0, .string ⟨#[]⟩] 23) = W0) := hW0.symm
  have hzw0 : w.heap.size < W0.heap.size := by rw [hW0]; simp
  have hb00 : Below w.heap.size w W0 := by rw [hW0]; exact (Below.refl _ _).alloc (Nat.le_refl _) _
  have HTR : Hid (∀ W W', Below W0.heap.size W0 W → Below W.heap.size W W' → Below W0.heap.size W0 W') := fun W W' h1 h2 => h1.trans (h2.mono h1.size)
  have HENV : Hid (∀ W, Below W0.heap.size W0 W → EnvR W) := fun W h => hE.below (HX.out W h).1.2.2.2.2
  have hsn : Calls Tryd.prog 11 #[.string s, .string ⟨#[32]⟩, .int .i64 4] W0 fun e w' => ∃ (Q : List (List UInt8)) (cap : Nat), e = .returned (.slice (some ⟨W0.heap.size, 0, none⟩) Q.length cap) ∧ Q.length ≤ cap ∧ cap ≤ 1000 ∧ Q = Lib.splitK [32] 0 (min 4 (s.data.toList.length + 1) - 1) s.data.toList ∧ (∀ j, (hj : j < Q.length) → w'.cell? ⟨W0.heap.size, j, none⟩ = some (S Q[j])) ∧ W0.heap.size < w'.heap.size ∧ Below W0.heap.size W0 w' := splitN_row s 32 4 W0 hs (hE.1.below hb00) (by omega) (by omega)
  have hsz : s.data.toList.length = s.size := by simp
  have hlen : p.length + q.length + t.length + 3 + r.length = s.size := by
    rw [← hsz, hl.out]; simp; omega
  have hnl : nm.length ≤ 1048576 := by
    rw [hnm.out]
    unfold nmOf
    split
    · simp
    · omega
  have HSN : Hid (Calls Tryd.prog 11 #[.string s, .string ⟨#[32]⟩, .int .i64 4] W0 fun e w' => ∃ cap : Nat, e = .returned (.slice (some ⟨W0.heap.size, 0, none⟩) 4 cap) ∧ 4 ≤ cap ∧ cap ≤ 1000 ∧ w'.cell? ⟨W0.heap.size, 0, none⟩ = some (.string ⟨p.toArray⟩) ∧ w'.cell? ⟨W0.heap.size, 1, none⟩ = some (.string ⟨q.toArray⟩) ∧ w'.cell? ⟨W0.heap.size, 2, none⟩ = some (.string ⟨t.toArray⟩) ∧ w'.cell? ⟨W0.heap.size, 3, none⟩ = some (.string ⟨r.toArray⟩) ∧ W0.heap.size < w'.heap.size ∧ Below W0.heap.size W0 w') := hsn.mono fun e w' h => by
    obtain ⟨Q, cap, rfl, h1, h2, hQ, hcell, hlt, h3⟩ := h
    rw [hQ4.out] at hQ
    subst hQ
    exact ⟨cap, rfl, h1, h2, hcell 0 (by simp), hcell 1 (by simp), hcell 2 (by simp), hcell 3 (by simp), hlt, h3⟩
  have HR1 : Hid (∀ W, EnvR W → Calls Tryd.prog 12 #[.string ⟨q.toArray⟩, .int .i64 100000] W fun e w' => e = .returned (.tuple #[.int .i64 (rdNum q 100000), .bool (numIn q 100000)]) ∧ Below W.heap.size W w') := fun W hW => readNumber_any ⟨q.toArray⟩ 100000 W (by rw [size_list]; omega) (by omega) (by omega) hW
  have HR2 : Hid (∀ W, EnvR W → Calls Tryd.prog 12 #[.string ⟨t.toArray⟩, .int .i64 16] W fun e w' => e = .returned (.tuple #[.int .i64 (rdNum t 16), .bool (numIn t 16)]) ∧ Below W.heap.size W w') := fun W hW => readNumber_any ⟨t.toArray⟩ 16 W (by rw [size_list]; omega) (by omega) (by omega) hW
  have HC1 : Hid (∀ W, Calls Tryd.prog 13 #[.string ⟨p.toArray⟩] W fun e w' => e = .returned (.string ⟨nm.toArray⟩) ∧ Below W.heap.size W w') := fun W => by rw [hnm.out]; exact nameFrom_any p W (by omega)
  have HC2 : Hid (∀ W, Calls Tryd.prog 14 #[.string ⟨r.toArray⟩] W fun e w' => e = .returned (.string ⟨r.toArray⟩) ∧ Below W.heap.size W w') := fun W => cloneR_any ⟨r.toArray⟩ W (by rw [size_list]; omega)
  obtain ⟨tx, htx⟩ : ∃ tx, tx = recT nm (rdNum t 16).toNat (rdNum q 100000).toNat r := ⟨_, rfl⟩
  have HTX : Hid (∀ W, EnvR W → Calls Tryd.prog 15 #[RecV ⟨nm.toArray⟩ (rdNum t 16) (rdNum q 100000) ⟨r.toArray⟩] W fun e w' => e = .returned (.tuple #[.string ⟨tx.toArray⟩, .bool true]) ∧ Below W.heap.size W w') := fun W hW => by
    have h := iRecordText_any ⟨nm.toArray⟩ ⟨r.toArray⟩ (rdNum t 16) (rdNum q 100000) W (by rw [size_list]; omega) (by rw [size_list]; omega) hW
    rw [show recB (⟨nm.toArray⟩ : ByteArray).data.toList (rdNum t 16) (rdNum q 100000) (⟨r.toArray⟩ : ByteArray).data.toList = true from hG.out, show recX (⟨nm.toArray⟩ : ByteArray).data.toList (rdNum t 16) (rdNum q 100000) (⟨r.toArray⟩ : ByteArray).data.toList = tx from (if_pos hG.out).trans htx.symm] at h
    exact h
  rw [← htx] at hD
  have HTS : Hid (¬ tx = s.data.toList) := hD.out
  have es : (tx == s.toList) = false := by rw [ByteArray.toList_eq]; simpa using hD.out
  clear htx hD
  obtain ⟨ty, hty⟩ : ∃ ty, ty = rdNum t 16 := ⟨_, rfl⟩
  obtain ⟨ttl, httl⟩ : ∃ ttl, ttl = rdNum q 100000 := ⟨_, rfl⟩
  rw [← hty, ← httl] at HTX
  rw [← httl] at HR1
  rw [← hty] at HR2
  clear hW0 hsn hsz hlen hty httl hG hnl
  unfold RecV at HTX ⊢
  go_enter Tryd.func5, Tryd.ntmps5
  go_wp2_with fail
  rw [HW0.out]
  refine HSN.out.mono ?_
  rintro e w1 ⟨cap, rfl, hcap, hcap2, d0, d1, d2, d3, hlt, hb⟩
  obtain ⟨g, hg⟩ : ∃ g, g = W0.heap.size := ⟨_, rfl⟩
  rw [← hg] at d0 d1 d2 d3 hlt ⊢
  have HD : Hid (∀ W, Below w1.heap.size w1 W → W.cell? ⟨g, 0, none⟩ = some (.string ⟨p.toArray⟩) ∧ W.cell? ⟨g, 1, none⟩ = some (.string ⟨q.toArray⟩) ∧ W.cell? ⟨g, 2, none⟩ = some (.string ⟨t.toArray⟩) ∧ W.cell? ⟨g, 3, none⟩ = some (.string ⟨r.toArray⟩)) := fun W h => by
    rw [h.cell (p := ⟨g, 0, none⟩) hlt, h.cell (p := ⟨g, 1, none⟩) hlt, h.cell (p := ⟨g, 2, none⟩) hlt, h.cell (p := ⟨g, 3, none⟩) hlt]; exact ⟨d0, d1, d2, d3⟩
  have HT1 : Hid (∀ W W', Below w1.heap.size w1 W → Below W.heap.size W W' → Below w1.heap.size w1 W') := fun W W' h1 h2 => h1.trans (h2.mono h1.size)
  have HB1 : Hid (Below W0.heap.size W0 w1) := hb
  have hz01 : W0.heap.size ≤ w1.heap.size := hb.size
  have HE1 : Hid (∀ W, Below w1.heap.size w1 W → EnvR W) := fun W h => HENV.out W (HTR.out _ _ hb h)
  have HX1 : Hid (∀ W, Below w1.heap.size w1 W → (W.cell? ⟨w.heap.size, 0, none⟩ = some (.string ⟨#[]⟩) ∧ W.cell? ⟨w.heap.size, 1, none⟩ = some (.int .i64 0) ∧ W.cell? ⟨w.heap.size, 2, none⟩ = some (.int .i64 0) ∧ W.cell? ⟨w.heap.size, 3, none⟩ = some (.string ⟨#[]⟩) ∧ Below w.heap.size w W) ∧ (W.frozen? ⟨w.heap.size, 0, none⟩ = false ∧ W.frozen? ⟨w.heap.size, 1, none⟩ = false ∧ W.frozen? ⟨w.heap.size, 2, none⟩ = false ∧ W.frozen? ⟨w.heap.size, 3, none⟩ = false)) := fun W h => HX.out W (HTR.out _ _ hb h)
  have hbz : Below w1.heap.size w1 w1 := Below.refl _ _
  clear hg hb hlt
  go_wp2_with fail
  refine (HR1.out _ (HE1.out _ hbz)).mono ?_
  rintro e w2 ⟨rfl, hb2⟩
  have hb12 := HT1.out _ _ hbz hb2
  clear d0 d1 d2 d3 hbz hb2
  obtain ⟨d0, d1, d2, d3⟩ := HD.out w2 hb12
  go_wp2_with fail
  refine (HR2.out _ (HE1.out _ hb12)).mono ?_
  rintro e w3 ⟨rfl, hb3⟩
  have hb13 := HT1.out _ _ hb12 hb3
  clear d0 d1 d2 d3 hb12 hb3
  have hS0 : (fun W : World => Below w1.heap.size w1 W) w3.drew := hb13.drew
  have hz13 : w1.heap.size ≤ w3.heap.size := hb13.size
  have h4c : ¬ (cap : Int) ≤ 0 := by omega
  go_wp2_with fail
  refine wp_region_noPanic ?_
  refine wp_region_held_drew (S := fun W => Below w1.heap.size w1 W) (by kernel_rfl) hS0 (fun hHeld => ?_)
  refine wpAnyH_take (i := 0) (v := .slice (some ⟨g, 0, none⟩) 4 cap) rfl (by kernel_rfl) (by kernel_rfl) (by kernel_rfl) (fun _ _ _ h => h) (Or.inl ⟨by rfl, ?_⟩) (by assumption) ?_
  · intro W hSW
    go_simp
    all_goals (try omega)
  simp only [Act.put, List.setIfInBounds_toArray]
  refine wpAnyH_take (i := 1) (v := .pointer (some ⟨g, 0, none⟩)) rfl (by kernel_rfl) (by kernel_rfl) (by kernel_rfl) (fun _ _ _ h => h) (Or.inl ⟨by rfl, ?_⟩) (by assumption) ?_
  · intro W hSW
    go_simp
    all_goals (try omega)
  simp only [Act.put]
  refine wpAnyH_take (i := 2) (v := .string ⟨p.toArray⟩) rfl (by kernel_rfl) (by kernel_rfl) (by kernel_rfl) (fun _ _ _ h => h) (Or.inl ⟨by rfl, ?_⟩) (by assumption) ?_
  · intro W hSW
    obtain ⟨d0, d1, d2, d3⟩ := HD.out W hSW
    go_simp
    all_goals (try omega)
  simp only [Act.put]
  refine wpAnyH_take (i := 4) (v := .int .i64 ty) rfl (by kernel_rfl) (by kernel_rfl) (by kernel_rfl) (fun _ _ _ h => h) (Or.inl ⟨by rfl, ?_⟩) (by assumption) ?_
  · intro W hSW
    go_simp
    all_goals (try omega)
  simp only [Act.put]
  refine wpAnyH_take (i := 5) (v := .int .i64 ttl) rfl (by kernel_rfl) (by kernel_rfl) (by kernel_rfl) (fun _ _ _ h => h) (Or.inl ⟨by rfl, ?_⟩) (by assumption) ?_
  · intro W hSW
    go_simp
    all_goals (try omega)
  simp only [Act.put]
  refine wpAnyH_take (i := 6) (v := .slice (some ⟨g, 0, none⟩) 4 cap) rfl (by kernel_rfl) (by kernel_rfl) (by kernel_rfl) (fun _ _ _ h => h) (Or.inl ⟨by rfl, ?_⟩) (by assumption) ?_
  · intro W hSW
    go_simp
    all_goals (try omega)
  simp only [Act.put]
  refine wpAnyH_take (i := 7) (v := .pointer (some ⟨g, 3, none⟩)) rfl (by kernel_rfl) (by kernel_rfl) (by kernel_rfl) (fun _ _ _ h => h) (Or.inl ⟨by rfl, ?_⟩) (by assumption) ?_
  · intro W hSW
    go_simp
    all_goals (try omega)
  simp only [Act.put]
  refine wpAnyH_take (i := 8) (v := .string ⟨r.toArray⟩) rfl (by kernel_rfl) (by kernel_rfl) (by kernel_rfl) (fun _ _ _ h => h) (Or.inl ⟨by rfl, ?_⟩) (by assumption) ?_
  · intro W hSW
    obtain ⟨d0, d1, d2, d3⟩ := HD.out W hSW
    go_simp
    all_goals (try omega)
  simp only [Act.put]
  refine wpAnyH_ready (rs := [3, 11]) (by kernel_rfl) (by simp) ?_
  refine AllReadyH.cons rfl (fun K hK => ?_) (AllReadyH.cons rfl (fun K hK => ?_) AllReadyH.nil)
  · rw [if_pos (by rfl)]
    go_simp
    refine (HC1.out _).mono ?_
    rintro e w4 ⟨rfl, hb14'⟩
    go_simp
    have hb14 := HT1.out _ _ hS0 hb14'
    refine hK.out _ _ hb14 (fun hS4 => ?_)
    clear hK
    refine wpAnyH_ready (rs := [9, 11]) (by kernel_rfl) (by simp) ?_
    refine AllReadyH.cons rfl (fun K hK => ?_) (AllReadyH.cons rfl (fun K hK => ?_) AllReadyH.nil)
    · rw [if_pos (by rfl)]
      go_simp
      refine (HC2.out _).mono ?_
      rintro e w5 ⟨rfl, hb15'⟩
      go_simp
      have hb15 := HT1.out _ _ hS4 hb15'
      refine hK.out _ _ hb15 (fun hS5 => ?_)
      clear hK
      refine wpAnyH_take (i := 10) (v := (.agg #[.string ⟨nm.toArray⟩, .int .i64 ty, .int .i64 ttl, .string ⟨r.toArray⟩])) rfl (by kernel_rfl) (by kernel_rfl) (by kernel_rfl) (fun _ _ _ h => h) (Or.inl ⟨by rfl, ?_⟩) (by assumption) ?_
      · intro W hSW
        go_simp
        all_goals (try omega)
      simp only [Act.put, List.setIfInBounds_toArray]
      refine wpAnyH_ready (rs := [11]) (by kernel_rfl) (by simp) ?_
      refine AllReadyH.cons rfl (fun K hK => ?_) AllReadyH.nil
      rw [if_pos (by rfl)]
      go_simp
      refine hK.out _ _ (hb15.alloc hb15.size _) (fun hS6 => ?_)
      clear hK
      obtain ⟨gb, hgb⟩ : ∃ gb, gb = w5.heap.size := ⟨_, rfl⟩
      have HBP : Hid ((w5.alloc (.cells #[.string ⟨#[]⟩, .int .i64 0, .int .i64 0, .string ⟨#[]⟩] 23)).heap[gb]? = some (.cells #[.string ⟨#[]⟩, .int .i64 0, .int .i64 0, .string ⟨#[]⟩] 23)) := by rw [hgb]; exact r4_new _ _
      have hbP : Below w1.heap.size w1 (w5.alloc (.cells #[.string ⟨#[]⟩, .int .i64 0, .int .i64 0, .string ⟨#[]⟩] 23)) := hS6
      have hgP : w1.heap.size ≤ gb ∧ gb < ((w5.alloc (.cells #[.string ⟨#[]⟩, .int .i64 0, .int .i64 0, .string ⟨#[]⟩] 23))).heap.size := ⟨by rw [hgb]; exact hb15.size, by rw [hgb]; simp⟩
      rw [← hgb]
      clear hgb
      obtain ⟨⟨u0, u1, u2, u3⟩, ⟨v0, v1, v2, v3⟩⟩ := r4_cells HBP.out
      refine wpAnyH_ready (rs := [12]) (by kernel_rfl) (by simp) ?_
      refine AllReadyH.cons rfl (fun K hK => ?_) AllReadyH.nil
      rw [if_pos (by rfl)]
      go_simp
      refine hK.out _ _ (r4_below hbP hgP.1 _ _ _ _) (fun hS9 => ?_)
      have hbF := hS9
      have HBX : Hid ((((((w5.alloc (.cells #[.string ⟨#[]⟩, .int .i64 0, .int .i64 0, .string ⟨#[]⟩] 23)).setCell ⟨gb, 0, none⟩ (.string ⟨nm.toArray⟩)).setCell ⟨gb, 1, none⟩ (.int .i64 ty)).setCell ⟨gb, 2, none⟩ (.int .i64 ttl)).setCell ⟨gb, 3, none⟩ (.string ⟨r.toArray⟩)).heap[gb]? = some (.cells #[.string ⟨nm.toArray⟩, .int .i64 ty, .int .i64 ttl, .string ⟨r.toArray⟩] 23)) := r4_heap HBP.out
      have hgF : gb < (w5.alloc (.cells #[.string ⟨#[]⟩, .int .i64 0, .int .i64 0, .string ⟨#[]⟩] 23)).heap.size := hgP.2
      clear u0 u1 u2 u3 v0 v1 v2 v3
      clear hK
      refine wpAnyH_done (by kernel_rfl) ?_ _
      refine NoPanic.normal ?_
      clear hS0 hHeld
      obtain ⟨⟨m0, m1, m2, m3⟩, _⟩ := r4_cells HBX.out
      go_wp2_with fail
      refine (HTX.out _ (HE1.out _ hbF)).mono ?_
      rintro e w6 ⟨rfl, hb6⟩
      have hb16 := HT1.out _ _ hbF hb6
      have HBX6 : Hid (w6.heap[gb]? = some (.cells #[.string ⟨nm.toArray⟩, .int .i64 ty, .int .i64 ttl, .string ⟨r.toArray⟩] 23)) := (hb6.block gb (by simpa using hgF)).trans HBX.out
      obtain ⟨⟨c0, c1, c2, c3, hbw⟩, ⟨f0, f1, f2, f3⟩⟩ := HX1.out w6 hb16
      clear m0 m1 m2 m3
      obtain ⟨⟨m0, m1, m2, m3⟩, _⟩ := r4_cells HBX6.out
      have hng : gb ≠ w.heap.size := by omega
      have hng2 : w.heap.size ≠ gb := by omega
      clear hb6 hb16
      go_wp2_with fail
      (try simp only [Exit.inBlock, Exit.then])
      refine bodyPost_ret (v := .tuple #[(.agg #[.string ⟨#[]⟩, .int .i64 0, .int .i64 0, .string ⟨#[]⟩]), .bool false]) ?_ rfl ⟨rfl, ?_⟩
      · rw [results_cell_tmp rfl]; go_simp
      · exact r4_below hbw (Nat.le_refl _) _ _ _ _
    · rw [if_pos (by rfl)]
      go_simp
      refine hK.out _ _ (hb14.alloc hb14.size _) (fun hS5 => ?_)
      clear hK
      refine wpAnyH_ready (rs := [9]) (by kernel_rfl) (by simp) ?_
      refine AllReadyH.cons rfl (fun K hK => ?_) AllReadyH.nil
      rw [if_pos (by rfl)]
      go_simp
      refine (HC2.out _).mono ?_
      rintro e w5 ⟨rfl, hb15'⟩
      go_simp
      have hb15 := HT1.out _ _ hS5 hb15'
      refine hK.out _ _ hb15 (fun hS6 => ?_)
      clear hK
      refine wpAnyH_take (i := 10) (v := (.agg #[.string ⟨nm.toArray⟩, .int .i64 ty, .int .i64 ttl, .string ⟨r.toArray⟩])) rfl (by kernel_rfl) (by kernel_rfl) (by kernel_rfl) (fun _ _ _ h => h) (Or.inl ⟨by rfl, ?_⟩) (by assumption) ?_
      · intro W hSW
        go_simp
        all_goals (try omega)
      simp only [Act.put, List.setIfInBounds_toArray]
      obtain ⟨gb, hgb⟩ : ∃ gb, gb = w4.heap.size := ⟨_, rfl⟩
      have HBP : Hid (w5.heap[gb]? = some (.cells #[.string ⟨#[]⟩, .int .i64 0, .int .i64 0, .string ⟨#[]⟩] 23)) := by rw [hgb]; exact (hb15'.block w4.heap.size (by simp)).trans (r4_new _ _)
      have hbP : Below w1.heap.size w1 w5 := hb15
      have hgP : w1.heap.size ≤ gb ∧ gb < (w5).heap.size := ⟨by rw [hgb]; exact hb14.size, by rw [hgb]; exact Nat.lt_of_lt_of_le (by simp) hb15'.size⟩
      rw [← hgb]
      clear hgb
      obtain ⟨⟨u0, u1, u2, u3⟩, ⟨v0, v1, v2, v3⟩⟩ := r4_cells HBP.out
      refine wpAnyH_ready (rs := [12]) (by kernel_rfl) (by simp) ?_
      refine AllReadyH.cons rfl (fun K hK => ?_) AllReadyH.nil
      rw [if_pos (by rfl)]
      go_simp
      refine hK.out _ _ (r4_below hbP hgP.1 _ _ _ _) (fun hS9 => ?_)
      have hbF := hS9
      have HBX : Hid (((((w5.setCell ⟨gb, 0, none⟩ (.string ⟨nm.toArray⟩)).setCell ⟨gb, 1, none⟩ (.int .i64 ty)).setCell ⟨gb, 2, none⟩ (.int .i64 ttl)).setCell ⟨gb, 3, none⟩ (.string ⟨r.toArray⟩)).heap[gb]? = some (.cells #[.string ⟨nm.toArray⟩, .int .i64 ty, .int .i64 ttl, .string ⟨r.toArray⟩] 23)) := r4_heap HBP.out
      have hgF : gb < w5.heap.size := hgP.2
      clear u0 u1 u2 u3 v0 v1 v2 v3
      clear hK
      refine wpAnyH_done (by kernel_rfl) ?_ _
      refine NoPanic.normal ?_
      clear hS0 hHeld
      obtain ⟨⟨m0, m1, m2, m3⟩, _⟩ := r4_cells HBX.out
      go_wp2_with fail
      refine (HTX.out _ (HE1.out _ hbF)).mono ?_
      rintro e w6 ⟨rfl, hb6⟩
      have hb16 := HT1.out _ _ hbF hb6
      have HBX6 : Hid (w6.heap[gb]? = some (.cells #[.string ⟨nm.toArray⟩, .int .i64 ty, .int .i64 ttl, .string ⟨r.toArray⟩] 23)) := (hb6.block gb (by simpa using hgF)).trans HBX.out
      obtain ⟨⟨c0, c1, c2, c3, hbw⟩, ⟨f0, f1, f2, f3⟩⟩ := HX1.out w6 hb16
      clear m0 m1 m2 m3
      obtain ⟨⟨m0, m1, m2, m3⟩, _⟩ := r4_cells HBX6.out
      have hng : gb ≠ w.heap.size := by omega
      have hng2 : w.heap.size ≠ gb := by omega
      clear hb6 hb16
      go_wp2_with fail
      (try simp only [Exit.inBlock, Exit.then])
      refine bodyPost_ret (v := .tuple #[(.agg #[.string ⟨#[]⟩, .int .i64 0, .int .i64 0, .string ⟨#[]⟩]), .bool false]) ?_ rfl ⟨rfl, ?_⟩
      · rw [results_cell_tmp rfl]; go_simp
      · exact r4_below hbw (Nat.le_refl _) _ _ _ _
  · rw [if_pos (by rfl)]
    go_simp
    refine hK.out _ _ (hS0.alloc hS0.size _) (fun hS4 => ?_)
    clear hK
    refine wpAnyH_ready (rs := [3]) (by kernel_rfl) (by simp) ?_
    refine AllReadyH.cons rfl (fun K hK => ?_) AllReadyH.nil
    rw [if_pos (by rfl)]
    go_simp
    refine (HC1.out _).mono ?_
    rintro e w4 ⟨rfl, hb14'⟩
    go_simp
    have hb14 := HT1.out _ _ hS4 hb14'
    refine hK.out _ _ hb14 (fun hS5 => ?_)
    clear hK
    refine wpAnyH_ready (rs := [9]) (by kernel_rfl) (by simp) ?_
    refine AllReadyH.cons rfl (fun K hK => ?_) AllReadyH.nil
    rw [if_pos (by rfl)]
    go_simp
    refine (HC2.out _).mono ?_
    rintro e w5 ⟨rfl, hb15'⟩
    go_simp
    have hb15 := HT1.out _ _ hS5 hb15'
    refine hK.out _ _ hb15 (fun hS6 => ?_)
    clear hK
    refine wpAnyH_take (i := 10) (v := (.agg #[.string ⟨nm.toArray⟩, .int .i64 ty, .int .i64 ttl, .string ⟨r.toArray⟩])) rfl (by kernel_rfl) (by kernel_rfl) (by kernel_rfl) (fun _ _ _ h => h) (Or.inl ⟨by rfl, ?_⟩) (by assumption) ?_
    · intro W hSW
      go_simp
      all_goals (try omega)
    simp only [Act.put, List.setIfInBounds_toArray]
    obtain ⟨gb, hgb⟩ : ∃ gb, gb = w3.heap.size := ⟨_, rfl⟩
    have HBP : Hid (w5.heap[gb]? = some (.cells #[.string ⟨#[]⟩, .int .i64 0, .int .i64 0, .string ⟨#[]⟩] 23)) := by rw [hgb]; exact (hb15'.block w3.heap.size (Nat.lt_of_lt_of_le (by simp) hb14'.size)).trans ((hb14'.block w3.heap.size (by simp)).trans (r4_new w3.drew _))
    have hbP : Below w1.heap.size w1 w5 := hb15
    have hgP : w1.heap.size ≤ gb ∧ gb < (w5).heap.size := ⟨by rw [hgb]; exact hS0.size, by rw [hgb]; exact Nat.lt_of_lt_of_le (Nat.lt_of_lt_of_le (by simp) hb14'.size) hb15'.size⟩
    rw [← hgb]
    clear hgb
    obtain ⟨⟨u0, u1, u2, u3⟩, ⟨v0, v1, v2, v3⟩⟩ := r4_cells HBP.out
    refine wpAnyH_ready (rs := [12]) (by kernel_rfl) (by simp) ?_
    refine AllReadyH.cons rfl (fun K hK => ?_) AllReadyH.nil
    rw [if_pos (by rfl)]
    go_simp
    refine hK.out _ _ (r4_below hbP hgP.1 _ _ _ _) (fun hS9 => ?_)
    have hbF := hS9
    have HBX : Hid (((((w5.setCell ⟨gb, 0, none⟩ (.string ⟨nm.toArray⟩)).setCell ⟨gb, 1, none⟩ (.int .i64 ty)).setCell ⟨gb, 2, none⟩ (.int .i64 ttl)).setCell ⟨gb, 3, none⟩ (.string ⟨r.toArray⟩)).heap[gb]? = some (.cells #[.string ⟨nm.toArray⟩, .int .i64 ty, .int .i64 ttl, .string ⟨r.toArray⟩] 23)) := r4_heap HBP.out
    have hgF : gb < w5.heap.size := hgP.2
    clear u0 u1 u2 u3 v0 v1 v2 v3
    clear hK
    refine wpAnyH_done (by kernel_rfl) ?_ _
    refine NoPanic.normal ?_
    clear hS0 hHeld
    obtain ⟨⟨m0, m1, m2, m3⟩, _⟩ := r4_cells HBX.out
    go_wp2_with fail
    refine (HTX.out _ (HE1.out _ hbF)).mono ?_
    rintro e w6 ⟨rfl, hb6⟩
    have hb16 := HT1.out _ _ hbF hb6
    have HBX6 : Hid (w6.heap[gb]? = some (.cells #[.string ⟨nm.toArray⟩, .int .i64 ty, .int .i64 ttl, .string ⟨r.toArray⟩] 23)) := (hb6.block gb (by simpa using hgF)).trans HBX.out
    obtain ⟨⟨c0, c1, c2, c3, hbw⟩, ⟨f0, f1, f2, f3⟩⟩ := HX1.out w6 hb16
    clear m0 m1 m2 m3
    obtain ⟨⟨m0, m1, m2, m3⟩, _⟩ := r4_cells HBX6.out
    have hng : gb ≠ w.heap.size := by omega
    have hng2 : w.heap.size ≠ gb := by omega
    clear hb6 hb16
    go_wp2_with fail
    (try simp only [Exit.inBlock, Exit.then])
    refine bodyPost_ret (v := .tuple #[(.agg #[.string ⟨#[]⟩, .int .i64 0, .int .i64 0, .string ⟨#[]⟩]), .bool false]) ?_ rfl ⟨rfl, ?_⟩
    · rw [results_cell_tmp rfl]; go_simp
    · exact r4_below hbw (Nat.le_refl _) _ _ _ _

set_option maxRecDepth 20000 in
set_option maxHeartbeats 4000000 in
theorem iRead_same (s : ByteArray) (p q t r nm : List UInt8) (w : World) (hs : s.size ≤ 1048576) (hE : EnvR w) (hl : Hid (s.data.toList = p ++ 32 :: (q ++ 32 :: (t ++ 32 :: r)))) (hQ4 : Hid (Lib.splitK [32] 0 (min 4 (s.data.toList.length + 1) - 1) s.data.toList = [p, q, t, r])) (hnm : Hid (nm = nmOf p)) (hG : Hid (recB nm (rdNum t 16) (rdNum q 100000) r = true)) (hD : Hid (recT nm (rdNum t 16).toNat (rdNum q 100000).toNat r = s.data.toList)) :
    Calls Tryd.prog 5 #[.string s] w fun e w' => e = .returned (.tuple #[RecV ⟨nm.toArray⟩ (rdNum t 16) (rdNum q 100000) ⟨r.toArray⟩, .bool true]) ∧ Below w.heap.size w w' := by
  obtain ⟨W0, hW0⟩ : ∃ W0, W0 = w.alloc (.cells #[.string ⟨#[]⟩, .int .i64 0, .int .i64 0, .string ⟨#[]⟩] 23) := ⟨_, rfl⟩
  have HX : Hid (∀ W, Below W0.heap.size W0 W → (W.cell? ⟨w.heap.size, 0, none⟩ = some (.string ⟨#[]⟩) ∧ W.cell? ⟨w.heap.size, 1, none⟩ = some (.int .i64 0) ∧ W.cell? ⟨w.heap.size, 2, none⟩ = some (.int .i64 0) ∧ W.cell? ⟨w.heap.size, 3, none⟩ = some (.string ⟨#[]⟩) ∧ Below w.heap.size w W) ∧ (W.frozen? ⟨w.heap.size, 0, none⟩ = false ∧ W.frozen? ⟨w.heap.size, 1, none⟩ = false ∧ W.frozen? ⟨w.heap.size, 2, none⟩ = false ∧ W.frozen? ⟨w.heap.size, 3, none⟩ = false)) := fun W h => by rw [hW0] at h; exact ⟨box4 h, box4f h⟩
  have HW0 : Hid (w.alloc (.cells #[.string ⟨#[]⟩, .int .i64 0, .int .i64 0, .string ⟨#[]⟩] 23) = W0) := hW0.symm
  have hzw0 : w.heap.size < W0.heap.size := by rw [hW0]; simp
  have hb00 : Below w.heap.size w W0 := by rw [hW0]; exact (Below.refl _ _).alloc (Nat.le_refl _) _
  have HTR : Hid (∀ W W', Below W0.heap.size W0 W → Below W.heap.size W W' → Below W0.heap.size W0 W') := fun W W' h1 h2 => h1.trans (h2.mono h1.size)
  have HENV : Hid (∀ W, Below W0.heap.size W0 W → EnvR W) := fun W h => hE.below (HX.out W h).1.2.2.2.2
  have hsn : Calls Tryd.prog 11 #[.string s, .string ⟨#[32]⟩, .int .i64 4] W0 fun e w' => ∃ (Q : List (List UInt8)) (cap : Nat), e = .returned (.slice (some ⟨W0.heap.size, 0, none⟩) Q.length cap) ∧ Q.length ≤ cap ∧ cap ≤ 1000 ∧ Q = Lib.splitK [32] 0 (min 4 (s.data.toList.length + 1) - 1) s.data.toList ∧ (∀ j, (hj : j < Q.length) → w'.cell? ⟨W0.heap.size, j, none⟩ = some (S Q[j])) ∧ W0.heap.size < w'.heap.size ∧ Below W0.heap.size W0 w' := splitN_row s 32 4 W0 hs (hE.1.below hb00) (by omega) (by omega)
  have hsz : s.data.toList.length = s.size := by simp
  have hlen : p.length + q.length + t.length + 3 + r.length = s.size := by
    rw [← hsz, hl.out]; simp; omega
  have hnl : nm.length ≤ 1048576 := by
    rw [hnm.out]
    unfold nmOf
    split
    · simp
    · omega
  have HSN : Hid (Calls Tryd.prog 11 #[.string s, .string ⟨#[32]⟩, .int .i64 4] W0 fun e w' => ∃ cap : Nat, e = .returned (.slice (some ⟨W0.heap.size, 0, none⟩) 4 cap) ∧ 4 ≤ cap ∧ cap ≤ 1000 ∧ w'.cell? ⟨W0.heap.size, 0, none⟩ = some (.string ⟨p.toArray⟩) ∧ w'.cell? ⟨W0.heap.size, 1, none⟩ = some (.string ⟨q.toArray⟩) ∧ w'.cell? ⟨W0.heap.size, 2, none⟩ = some (.string ⟨t.toArray⟩) ∧ w'.cell? ⟨W0.heap.size, 3, none⟩ = some (.string ⟨r.toArray⟩) ∧ W0.heap.size < w'.heap.size ∧ Below W0.heap.size W0 w') := hsn.mono fun e w' h => by
    obtain ⟨Q, cap, rfl, h1, h2, hQ, hcell, hlt, h3⟩ := h
    rw [hQ4.out] at hQ
    subst hQ
    exact ⟨cap, rfl, h1, h2, hcell 0 (by simp), hcell 1 (by simp), hcell 2 (by simp), hcell 3 (by simp), hlt, h3⟩
  have HR1 : Hid (∀ W, EnvR W → Calls Tryd.prog 12 #[.string ⟨q.toArray⟩, .int .i64 100000] W fun e w' => e = .returned (.tuple #[.int .i64 (rdNum q 100000), .bool (numIn q 100000)]) ∧ Below W.heap.size W w') := fun W hW => readNumber_any ⟨q.toArray⟩ 100000 W (by rw [size_list]; omega) (by omega) (by omega) hW
  have HR2 : Hid (∀ W, EnvR W → Calls Tryd.prog 12 #[.string ⟨t.toArray⟩, .int .i64 16] W fun e w' => e = .returned (.tuple #[.int .i64 (rdNum t 16), .bool (numIn t 16)]) ∧ Below W.heap.size W w') := fun W hW => readNumber_any ⟨t.toArray⟩ 16 W (by rw [size_list]; omega) (by omega) (by omega) hW
  have HC1 : Hid (∀ W, Calls Tryd.prog 13 #[.string ⟨p.toArray⟩] W fun e w' => e = .returned (.string ⟨nm.toArray⟩) ∧ Below W.heap.size W w') := fun W => by rw [hnm.out]; exact nameFrom_any p W (by omega)
  have HC2 : Hid (∀ W, Calls Tryd.prog 14 #[.string ⟨r.toArray⟩] W fun e w' => e = .returned (.string ⟨r.toArray⟩) ∧ Below W.heap.size W w') := fun W => cloneR_any ⟨r.toArray⟩ W (by rw [size_list]; omega)
  obtain ⟨tx, htx⟩ : ∃ tx, tx = recT nm (rdNum t 16).toNat (rdNum q 100000).toNat r := ⟨_, rfl⟩
  have HTX : Hid (∀ W, EnvR W → Calls Tryd.prog 15 #[RecV ⟨nm.toArray⟩ (rdNum t 16) (rdNum q 100000) ⟨r.toArray⟩] W fun e w' => e = .returned (.tuple #[.string ⟨tx.toArray⟩, .bool true]) ∧ Below W.heap.size W w') := fun W hW => by
    have h := iRecordText_any ⟨nm.toArray⟩ ⟨r.toArray⟩ (rdNum t 16) (rdNum q 100000) W (by rw [size_list]; omega) (by rw [size_list]; omega) hW
    rw [show recB (⟨nm.toArray⟩ : ByteArray).data.toList (rdNum t 16) (rdNum q 100000) (⟨r.toArray⟩ : ByteArray).data.toList = true from hG.out, show recX (⟨nm.toArray⟩ : ByteArray).data.toList (rdNum t 16) (rdNum q 100000) (⟨r.toArray⟩ : ByteArray).data.toList = tx from (if_pos hG.out).trans htx.symm] at h
    exact h
  rw [← htx] at hD
  have es : (tx == s.toList) = true := by rw [ByteArray.toList_eq]; simpa using hD.out
  clear htx hD
  obtain ⟨ty, hty⟩ : ∃ ty, ty = rdNum t 16 := ⟨_, rfl⟩
  obtain ⟨ttl, httl⟩ : ∃ ttl, ttl = rdNum q 100000 := ⟨_, rfl⟩
  rw [← hty, ← httl] at HTX
  rw [← httl] at HR1
  rw [← hty] at HR2
  rw [← hty, ← httl]
  clear hW0 hsn hsz hlen hty httl hG hnl
  unfold RecV at HTX ⊢
  go_enter Tryd.func5, Tryd.ntmps5
  go_wp2_with fail
  rw [HW0.out]
  refine HSN.out.mono ?_
  rintro e w1 ⟨cap, rfl, hcap, hcap2, d0, d1, d2, d3, hlt, hb⟩
  obtain ⟨g, hg⟩ : ∃ g, g = W0.heap.size := ⟨_, rfl⟩
  rw [← hg] at d0 d1 d2 d3 hlt ⊢
  have HD : Hid (∀ W, Below w1.heap.size w1 W → W.cell? ⟨g, 0, none⟩ = some (.string ⟨p.toArray⟩) ∧ W.cell? ⟨g, 1, none⟩ = some (.string ⟨q.toArray⟩) ∧ W.cell? ⟨g, 2, none⟩ = some (.string ⟨t.toArray⟩) ∧ W.cell? ⟨g, 3, none⟩ = some (.string ⟨r.toArray⟩)) := fun W h => by
    rw [h.cell (p := ⟨g, 0, none⟩) hlt, h.cell (p := ⟨g, 1, none⟩) hlt, h.cell (p := ⟨g, 2, none⟩) hlt, h.cell (p := ⟨g, 3, none⟩) hlt]; exact ⟨d0, d1, d2, d3⟩
  have HT1 : Hid (∀ W W', Below w1.heap.size w1 W → Below W.heap.size W W' → Below w1.heap.size w1 W') := fun W W' h1 h2 => h1.trans (h2.mono h1.size)
  have HB1 : Hid (Below W0.heap.size W0 w1) := hb
  have hz01 : W0.heap.size ≤ w1.heap.size := hb.size
  have HE1 : Hid (∀ W, Below w1.heap.size w1 W → EnvR W) := fun W h => HENV.out W (HTR.out _ _ hb h)
  have HX1 : Hid (∀ W, Below w1.heap.size w1 W → (W.cell? ⟨w.heap.size, 0, none⟩ = some (.string ⟨#[]⟩) ∧ W.cell? ⟨w.heap.size, 1, none⟩ = some (.int .i64 0) ∧ W.cell? ⟨w.heap.size, 2, none⟩ = some (.int .i64 0) ∧ W.cell? ⟨w.heap.size, 3, none⟩ = some (.string ⟨#[]⟩) ∧ Below w.heap.size w W) ∧ (W.frozen? ⟨w.heap.size, 0, none⟩ = false ∧ W.frozen? ⟨w.heap.size, 1, none⟩ = false ∧ W.frozen? ⟨w.heap.size, 2, none⟩ = false ∧ W.frozen? ⟨w.heap.size, 3, none⟩ = false)) := fun W h => HX.out W (HTR.out _ _ hb h)
  have hbz : Below w1.heap.size w1 w1 := Below.refl _ _
  clear hg hb hlt
  go_wp2_with fail
  refine (HR1.out _ (HE1.out _ hbz)).mono ?_
  rintro e w2 ⟨rfl, hb2⟩
  have hb12 := HT1.out _ _ hbz hb2
  clear d0 d1 d2 d3 hbz hb2
  obtain ⟨d0, d1, d2, d3⟩ := HD.out w2 hb12
  go_wp2_with fail
  refine (HR2.out _ (HE1.out _ hb12)).mono ?_
  rintro e w3 ⟨rfl, hb3⟩
  have hb13 := HT1.out _ _ hb12 hb3
  clear d0 d1 d2 d3 hb12 hb3
  have hS0 : (fun W : World => Below w1.heap.size w1 W) w3.drew := hb13.drew
  have hz13 : w1.heap.size ≤ w3.heap.size := hb13.size
  have h4c : ¬ (cap : Int) ≤ 0 := by omega
  go_wp2_with fail
  refine wp_region_noPanic ?_
  refine wp_region_held_drew (S := fun W => Below w1.heap.size w1 W) (by kernel_rfl) hS0 (fun hHeld => ?_)
  refine wpAnyH_take (i := 0) (v := .slice (some ⟨g, 0, none⟩) 4 cap) rfl (by kernel_rfl) (by kernel_rfl) (by kernel_rfl) (fun _ _ _ h => h) (Or.inl ⟨by rfl, ?_⟩) (by assumption) ?_
  · intro W hSW
    go_simp
    all_goals (try omega)
  simp only [Act.put, List.setIfInBounds_toArray]
  refine wpAnyH_take (i := 1) (v := .pointer (some ⟨g, 0, none⟩)) rfl (by kernel_rfl) (by kernel_rfl) (by kernel_rfl) (fun _ _ _ h => h) (Or.inl ⟨by rfl, ?_⟩) (by assumption) ?_
  · intro W hSW
    go_simp
    all_goals (try omega)
  simp only [Act.put]
  refine wpAnyH_take (i := 2) (v := .string ⟨p.toArray⟩) rfl (by kernel_rfl) (by kernel_rfl) (by kernel_rfl) (fun _ _ _ h => h) (Or.inl ⟨by rfl, ?_⟩) (by assumption) ?_
  · intro W hSW
    obtain ⟨d0, d1, d2, d3⟩ := HD.out W hSW
    go_simp
    all_goals (try omega)
  simp only [Act.put]
  refine wpAnyH_take (i := 4) (v := .int .i64 ty) rfl (by kernel_rfl) (by kernel_rfl) (by kernel_rfl) (fun _ _ _ h => h) (Or.inl ⟨by rfl, ?_⟩) (by assumption) ?_
  · intro W hSW
    go_simp
    all_goals (try omega)
  simp only [Act.put]
  refine wpAnyH_take (i := 5) (v := .int .i64 ttl) rfl (by kernel_rfl) (by kernel_rfl) (by kernel_rfl) (fun _ _ _ h => h) (Or.inl ⟨by rfl, ?_⟩) (by assumption) ?_
  · intro W hSW
    go_simp
    all_goals (try omega)
  simp only [Act.put]
  refine wpAnyH_take (i := 6) (v := .slice (some ⟨g, 0, none⟩) 4 cap) rfl (by kernel_rfl) (by kernel_rfl) (by kernel_rfl) (fun _ _ _ h => h) (Or.inl ⟨by rfl, ?_⟩) (by assumption) ?_
  · intro W hSW
    go_simp
    all_goals (try omega)
  simp only [Act.put]
  refine wpAnyH_take (i := 7) (v := .pointer (some ⟨g, 3, none⟩)) rfl (by kernel_rfl) (by kernel_rfl) (by kernel_rfl) (fun _ _ _ h => h) (Or.inl ⟨by rfl, ?_⟩) (by assumption) ?_
  · intro W hSW
    go_simp
    all_goals (try omega)
  simp only [Act.put]
  refine wpAnyH_take (i := 8) (v := .string ⟨r.toArray⟩) rfl (by kernel_rfl) (by kernel_rfl) (by kernel_rfl) (fun _ _ _ h => h) (Or.inl ⟨by rfl, ?_⟩) (by assumption) ?_
  · intro W hSW
    obtain ⟨d0, d1, d2, d3⟩ := HD.out W hSW
    go_simp
    all_goals (try omega)
  simp only [Act.put]
  refine wpAnyH_ready (rs := [3, 11]) (by kernel_rfl) (by simp) ?_
  refine AllReadyH.cons rfl (fun K hK => ?_) (AllReadyH.cons rfl (fun K hK => ?_) AllReadyH.nil)
  · rw [if_pos (by rfl)]
    go_simp
    refine (HC1.out _).mono ?_
    rintro e w4 ⟨rfl, hb14'⟩
    go_simp
    have hb14 := HT1.out _ _ hS0 hb14'
    refine hK.out _ _ hb14 (fun hS4 => ?_)
    clear hK
    refine wpAnyH_ready (rs := [9, 11]) (by kernel_rfl) (by simp) ?_
    refine AllReadyH.cons rfl (fun K hK => ?_) (AllReadyH.cons rfl (fun K hK => ?_) AllReadyH.nil)
    · rw [if_pos (by rfl)]
      go_simp
      refine (HC2.out _).mono ?_
      rintro e w5 ⟨rfl, hb15'⟩
      go_simp
      have hb15 := HT1.out _ _ hS4 hb15'
      refine hK.out _ _ hb15 (fun hS5 => ?_)
      clear hK
      refine wpAnyH_take (i := 10) (v := (.agg #[.string ⟨nm.toArray⟩, .int .i64 ty, .int .i64 ttl, .string ⟨r.toArray⟩])) rfl (by kernel_rfl) (by kernel_rfl) (by kernel_rfl) (fun _ _ _ h => h) (Or.inl ⟨by rfl, ?_⟩) (by assumption) ?_
      · intro W hSW
        go_simp
        all_goals (try omega)
      simp only [Act.put, List.setIfInBounds_toArray]
      refine wpAnyH_ready (rs := [11]) (by kernel_rfl) (by simp) ?_
      refine AllReadyH.cons rfl (fun K hK => ?_) AllReadyH.nil
      rw [if_pos (by rfl)]
      go_simp
      refine hK.out _ _ (hb15.alloc hb15.size _) (fun hS6 => ?_)
      clear hK
      obtain ⟨gb, hgb⟩ : ∃ gb, gb = w5.heap.size := ⟨_, rfl⟩
      have HBP : Hid ((w5.alloc (.cells #[.string ⟨#[]⟩, .int .i64 0, .int .i64 0, .string ⟨#[]⟩] 23)).heap[gb]? = some (.cells #[.string ⟨#[]⟩, .int .i64 0, .int .i64 0, .string ⟨#[]⟩] 23)) := by rw [hgb]; exact r4_new _ _
      have hbP : Below w1.heap.size w1 (w5.alloc (.cells #[.string ⟨#[]⟩, .int .i64 0, .int .i64 0, .string ⟨#[]⟩] 23)) := hS6
      have hgP : w1.heap.size ≤ gb ∧ gb < ((w5.alloc (.cells #[.string ⟨#[]⟩, .int .i64 0, .int .i64 0, .string ⟨#[]⟩] 23))).heap.size := ⟨by rw [hgb]; exact hb15.size, by rw [hgb]; simp⟩
      rw [← hgb]
      clear hgb
      obtain ⟨⟨u0, u1, u2, u3⟩, ⟨v0, v1, v2, v3⟩⟩ := r4_cells HBP.out
      refine wpAnyH_ready (rs := [12]) (by kernel_rfl) (by simp) ?_
      refine AllReadyH.cons rfl (fun K hK => ?_) AllReadyH.nil
      rw [if_pos (by rfl)]
      go_simp
      refine hK.out _ _ (r4_below hbP hgP.1 _ _ _ _) (fun hS9 => ?_)
      have hbF := hS9
      have HBX : Hid ((((((w5.alloc (.cells #[.string ⟨#[]⟩, .int .i64 0, .int .i64 0, .string ⟨#[]⟩] 23)).setCell ⟨gb, 0, none⟩ (.string ⟨nm.toArray⟩)).setCell ⟨gb, 1, none⟩ (.int .i64 ty)).setCell ⟨gb, 2, none⟩ (.int .i64 ttl)).setCell ⟨gb, 3, none⟩ (.string ⟨r.toArray⟩)).heap[gb]? = some (.cells #[.string ⟨nm.toArray⟩, .int .i64 ty, .int .i64 ttl, .string ⟨r.toArray⟩] 23)) := r4_heap HBP.out
      have hgF : gb < (w5.alloc (.cells #[.string ⟨#[]⟩, .int .i64 0, .int .i64 0, .string ⟨#[]⟩] 23)).heap.size := hgP.2
      clear u0 u1 u2 u3 v0 v1 v2 v3
      clear hK
      refine wpAnyH_done (by kernel_rfl) ?_ _
      refine NoPanic.normal ?_
      clear hS0 hHeld
      obtain ⟨⟨m0, m1, m2, m3⟩, _⟩ := r4_cells HBX.out
      go_wp2_with fail
      refine (HTX.out _ (HE1.out _ hbF)).mono ?_
      rintro e w6 ⟨rfl, hb6⟩
      have hb16 := HT1.out _ _ hbF hb6
      have HBX6 : Hid (w6.heap[gb]? = some (.cells #[.string ⟨nm.toArray⟩, .int .i64 ty, .int .i64 ttl, .string ⟨r.toArray⟩] 23)) := (hb6.block gb (by simpa using hgF)).trans HBX.out
      obtain ⟨⟨c0, c1, c2, c3, hbw⟩, ⟨f0, f1, f2, f3⟩⟩ := HX1.out w6 hb16
      clear m0 m1 m2 m3
      obtain ⟨⟨m0, m1, m2, m3⟩, _⟩ := r4_cells HBX6.out
      have hng : gb ≠ w.heap.size := by omega
      have hng2 : w.heap.size ≠ gb := by omega
      clear hb6 hb16
      go_wp2_with fail
      (try simp only [Exit.inBlock, Exit.then])
      refine bodyPost_ret (v := .tuple #[(.agg #[.string ⟨nm.toArray⟩, .int .i64 ty, .int .i64 ttl, .string ⟨r.toArray⟩]), .bool true]) ?_ rfl ⟨rfl, ?_⟩
      · rw [results_cell_tmp rfl]; go_simp
      · exact r4_below hbw (Nat.le_refl _) _ _ _ _
    · rw [if_pos (by rfl)]
      go_simp
      refine hK.out _ _ (hb14.alloc hb14.size _) (fun hS5 => ?_)
      clear hK
      refine wpAnyH_ready (rs := [9]) (by kernel_rfl) (by simp) ?_
      refine AllReadyH.cons rfl (fun K hK => ?_) AllReadyH.nil
      rw [if_pos (by rfl)]
      go_simp
      refine (HC2.out _).mono ?_
      rintro e w5 ⟨rfl, hb15'⟩
      go_simp
      have hb15 := HT1.out _ _ hS5 hb15'
      refine hK.out _ _ hb15 (fun hS6 => ?_)
      clear hK
      refine wpAnyH_take (i := 10) (v := (.agg #[.string ⟨nm.toArray⟩, .int .i64 ty, .int .i64 ttl, .string ⟨r.toArray⟩])) rfl (by kernel_rfl) (by kernel_rfl) (by kernel_rfl) (fun _ _ _ h => h) (Or.inl ⟨by rfl, ?_⟩) (by assumption) ?_
      · intro W hSW
        go_simp
        all_goals (try omega)
      simp only [Act.put, List.setIfInBounds_toArray]
      obtain ⟨gb, hgb⟩ : ∃ gb, gb = w4.heap.size := ⟨_, rfl⟩
      have HBP : Hid (w5.heap[gb]? = some (.cells #[.string ⟨#[]⟩, .int .i64 0, .int .i64 0, .string ⟨#[]⟩] 23)) := by rw [hgb]; exact (hb15'.block w4.heap.size (by simp)).trans (r4_new _ _)
      have hbP : Below w1.heap.size w1 w5 := hb15
      have hgP : w1.heap.size ≤ gb ∧ gb < (w5).heap.size := ⟨by rw [hgb]; exact hb14.size, by rw [hgb]; exact Nat.lt_of_lt_of_le (by simp) hb15'.size⟩
      rw [← hgb]
      clear hgb
      obtain ⟨⟨u0, u1, u2, u3⟩, ⟨v0, v1, v2, v3⟩⟩ := r4_cells HBP.out
      refine wpAnyH_ready (rs := [12]) (by kernel_rfl) (by simp) ?_
      refine AllReadyH.cons rfl (fun K hK => ?_) AllReadyH.nil
      rw [if_pos (by rfl)]
      go_simp
      refine hK.out _ _ (r4_below hbP hgP.1 _ _ _ _) (fun hS9 => ?_)
      have hbF := hS9
      have HBX : Hid (((((w5.setCell ⟨gb, 0, none⟩ (.string ⟨nm.toArray⟩)).setCell ⟨gb, 1, none⟩ (.int .i64 ty)).setCell ⟨gb, 2, none⟩ (.int .i64 ttl)).setCell ⟨gb, 3, none⟩ (.string ⟨r.toArray⟩)).heap[gb]? = some (.cells #[.string ⟨nm.toArray⟩, .int .i64 ty, .int .i64 ttl, .string ⟨r.toArray⟩] 23)) := r4_heap HBP.out
      have hgF : gb < w5.heap.size := hgP.2
      clear u0 u1 u2 u3 v0 v1 v2 v3
      clear hK
      refine wpAnyH_done (by kernel_rfl) ?_ _
      refine NoPanic.normal ?_
      clear hS0 hHeld
      obtain ⟨⟨m0, m1, m2, m3⟩, _⟩ := r4_cells HBX.out
      go_wp2_with fail
      refine (HTX.out _ (HE1.out _ hbF)).mono ?_
      rintro e w6 ⟨rfl, hb6⟩
      have hb16 := HT1.out _ _ hbF hb6
      have HBX6 : Hid (w6.heap[gb]? = some (.cells #[.string ⟨nm.toArray⟩, .int .i64 ty, .int .i64 ttl, .string ⟨r.toArray⟩] 23)) := (hb6.block gb (by simpa using hgF)).trans HBX.out
      obtain ⟨⟨c0, c1, c2, c3, hbw⟩, ⟨f0, f1, f2, f3⟩⟩ := HX1.out w6 hb16
      clear m0 m1 m2 m3
      obtain ⟨⟨m0, m1, m2, m3⟩, _⟩ := r4_cells HBX6.out
      have hng : gb ≠ w.heap.size := by omega
      have hng2 : w.heap.size ≠ gb := by omega
      clear hb6 hb16
      go_wp2_with fail
      (try simp only [Exit.inBlock, Exit.then])
      refine bodyPost_ret (v := .tuple #[(.agg #[.string ⟨nm.toArray⟩, .int .i64 ty, .int .i64 ttl, .string ⟨r.toArray⟩]), .bool true]) ?_ rfl ⟨rfl, ?_⟩
      · rw [results_cell_tmp rfl]; go_simp
      · exact r4_below hbw (Nat.le_refl _) _ _ _ _
  · rw [if_pos (by rfl)]
    go_simp
    refine hK.out _ _ (hS0.alloc hS0.size _) (fun hS4 => ?_)
    clear hK
    refine wpAnyH_ready (rs := [3]) (by kernel_rfl) (by simp) ?_
    refine AllReadyH.cons rfl (fun K hK => ?_) AllReadyH.nil
    rw [if_pos (by rfl)]
    go_simp
    refine (HC1.out _).mono ?_
    rintro e w4 ⟨rfl, hb14'⟩
    go_simp
    have hb14 := HT1.out _ _ hS4 hb14'
    refine hK.out _ _ hb14 (fun hS5 => ?_)
    clear hK
    refine wpAnyH_ready (rs := [9]) (by kernel_rfl) (by simp) ?_
    refine AllReadyH.cons rfl (fun K hK => ?_) AllReadyH.nil
    rw [if_pos (by rfl)]
    go_simp
    refine (HC2.out _).mono ?_
    rintro e w5 ⟨rfl, hb15'⟩
    go_simp
    have hb15 := HT1.out _ _ hS5 hb15'
    refine hK.out _ _ hb15 (fun hS6 => ?_)
    clear hK
    refine wpAnyH_take (i := 10) (v := (.agg #[.string ⟨nm.toArray⟩, .int .i64 ty, .int .i64 ttl, .string ⟨r.toArray⟩])) rfl (by kernel_rfl) (by kernel_rfl) (by kernel_rfl) (fun _ _ _ h => h) (Or.inl ⟨by rfl, ?_⟩) (by assumption) ?_
    · intro W hSW
      go_simp
      all_goals (try omega)
    simp only [Act.put, List.setIfInBounds_toArray]
    obtain ⟨gb, hgb⟩ : ∃ gb, gb = w3.heap.size := ⟨_, rfl⟩
    have HBP : Hid (w5.heap[gb]? = some (.cells #[.string ⟨#[]⟩, .int .i64 0, .int .i64 0, .string ⟨#[]⟩] 23)) := by rw [hgb]; exact (hb15'.block w3.heap.size (Nat.lt_of_lt_of_le (by simp) hb14'.size)).trans ((hb14'.block w3.heap.size (by simp)).trans (r4_new w3.drew _))
    have hbP : Below w1.heap.size w1 w5 := hb15
    have hgP : w1.heap.size ≤ gb ∧ gb < (w5).heap.size := ⟨by rw [hgb]; exact hS0.size, by rw [hgb]; exact Nat.lt_of_lt_of_le (Nat.lt_of_lt_of_le (by simp) hb14'.size) hb15'.size⟩
    rw [← hgb]
    clear hgb
    obtain ⟨⟨u0, u1, u2, u3⟩, ⟨v0, v1, v2, v3⟩⟩ := r4_cells HBP.out
    refine wpAnyH_ready (rs := [12]) (by kernel_rfl) (by simp) ?_
    refine AllReadyH.cons rfl (fun K hK => ?_) AllReadyH.nil
    rw [if_pos (by rfl)]
    go_simp
    refine hK.out _ _ (r4_below hbP hgP.1 _ _ _ _) (fun hS9 => ?_)
    have hbF := hS9
    have HBX : Hid (((((w5.setCell ⟨gb, 0, none⟩ (.string ⟨nm.toArray⟩)).setCell ⟨gb, 1, none⟩ (.int .i64 ty)).setCell ⟨gb, 2, none⟩ (.int .i64 ttl)).setCell ⟨gb, 3, none⟩ (.string ⟨r.toArray⟩)).heap[gb]? = some (.cells #[.string ⟨nm.toArray⟩, .int .i64 ty, .int .i64 ttl, .string ⟨r.toArray⟩] 23)) := r4_heap HBP.out
    have hgF : gb < w5.heap.size := hgP.2
    clear u0 u1 u2 u3 v0 v1 v2 v3
    clear hK
    refine wpAnyH_done (by kernel_rfl) ?_ _
    refine NoPanic.normal ?_
    clear hS0 hHeld
    obtain ⟨⟨m0, m1, m2, m3⟩, _⟩ := r4_cells HBX.out
    go_wp2_with fail
    refine (HTX.out _ (HE1.out _ hbF)).mono ?_
    rintro e w6 ⟨rfl, hb6⟩
    have hb16 := HT1.out _ _ hbF hb6
    have HBX6 : Hid (w6.heap[gb]? = some (.cells #[.string ⟨nm.toArray⟩, .int .i64 ty, .int .i64 ttl, .string ⟨r.toArray⟩] 23)) := (hb6.block gb (by simpa using hgF)).trans HBX.out
    obtain ⟨⟨c0, c1, c2, c3, hbw⟩, ⟨f0, f1, f2, f3⟩⟩ := HX1.out w6 hb16
    clear m0 m1 m2 m3
    obtain ⟨⟨m0, m1, m2, m3⟩, _⟩ := r4_cells HBX6.out
    have hng : gb ≠ w.heap.size := by omega
    have hng2 : w.heap.size ≠ gb := by omega
    clear hb6 hb16
    go_wp2_with fail
    (try simp only [Exit.inBlock, Exit.then])
    refine bodyPost_ret (v := .tuple #[(.agg #[.string ⟨nm.toArray⟩, .int .i64 ty, .int .i64 ttl, .string ⟨r.toArray⟩]), .bool true]) ?_ rfl ⟨rfl, ?_⟩
    · rw [results_cell_tmp rfl]; go_simp
    · exact r4_below hbw (Nat.le_refl _) _ _ _ _

theorem iReadRecord_any (s : ByteArray) (w : World) (hs : s.size ≤ 1048576) (hE : EnvR w) :
    Calls Tryd.prog 5 #[.string s] w fun e w' => e = .returned (rrVal (rrO s.data.toList)) ∧ Below w.heap.size w w' := by
  by_cases h4 : (cut 32 s.data.toList).length < 4
  · rw [rr_short h4]; exact iRead_short s w hs hE h4
  · obtain ⟨p, q, t, r, hl, hc, hk⟩ := split_three (b := 32) (l := s.data.toList) (by omega)
    have hQ := splitQ_long hc hk
    have hrr := rr_split hl hc
    have hsame := rr_same hc
    by_cases hok : recB (nmOf p) (rdNum t 16) (rdNum q 100000) r = true ∧ recT (nmOf p) (rdNum t 16).toNat (rdNum q 100000).toNat r = s.data.toList
    · obtain ⟨e1, e2⟩ := rr_eq hc hok
      rw [hrr, if_pos (hsame.1 hok), ← e1, ← e2]
      exact iRead_same s p q t r _ w hs hE hl hQ rfl hok.1 hok.2
    · rw [hrr, if_neg (fun h => hok (hsame.2 h))]
      cases hG : recB (nmOf p) (rdNum t 16) (rdNum q 100000) r with
      | false => exact iRead_bad s p q t r _ w hs hE hl hQ rfl hG
      | true => exact iRead_other s p q t r _ w hs hE hl hQ rfl hG (fun h => hok ⟨hG, h⟩)
end Go.Proofs.YtcjffofoheloeaaDoor
