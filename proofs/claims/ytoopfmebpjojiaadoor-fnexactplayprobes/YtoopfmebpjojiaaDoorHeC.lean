import Derived.Test.YtoopfmebpjojiaaDoorHeG
import Derived.Test.YtoopfmebpjojiaaDoorLHstA
import Derived.Test.YtoopfmebpjojiaaDoorCloneR
namespace Go.Proofs.YtoopfmebpjojiaaDoor
open Go.RowKit

theorem hstrow_one (w : World) (x : HosT) (t : TypeId) (b : Nat) (hb : b = w.heap.size) : HstRow (w.alloc (.cells #[.string ⟨x.1.toArray⟩, .bool x.2.1, .int .i64 x.2.2] t)) (.slice (some ⟨b, 0, none⟩) 1 1) [x] := by
  subst hb
  refine ⟨_, 1, rfl, Nat.le_refl _, by unfold maxLen; omega, .inr ⟨w.heap.size, 0, rfl, by simp, fun j hj => ?_⟩⟩
  obtain rfl : j = 0 := by simpa using hj
  unfold HstAt
  simp
/-- A struct and a bool, told. -/
theorem results_hea {P : Program} {fn : Func} {p u : Tmp} {ty : TypeId} (h : fn.results = #[.cell p ty, .tmp u]) (tmps : Array Value) (w : World) (g : Nat) (t : TypeId) (cs : Array Value) (fr : Nat × Nat) (d : TypeDesc) (x : Value)
    (hp : tmps.getD p undef = .pointer (some ⟨g, 0, none⟩)) (hu : tmps.getD u undef = x) (hg : w.heap[g]? = some (.cells cs t fr))
    (hd0 : P.underlying ty = some d) (hd : (match d with | .struct _ | .array _ _ => true | _ => false) = true) (hi : (P.info? ty).map (·.size) = some cs.size) :
    (results fn tmps).run P w = .ok (.tuple #[.agg cs, x]) w := by
  have hp' : tmps[p]?.getD undef = .pointer (some ⟨g, 0, none⟩) := by simpa using hp
  have hu' : tmps[u]?.getD undef = x := by simpa using hu
  rw [results_cell_tmp h]
  simp [hp', hu', asAddr, run_loadVar_row w g t ty cs fr d hg hd0 hd hi, Result.andThen]
theorem hst_set2 {w : World} {g : Nat} {t : TypeId} {v0 v1 v2 u : Value} (h : w.heap[g]? = some (.cells #[v0, v1, v2] t)) : (w.setCell ⟨g, 2, none⟩ u).heap[g]? = some (.cells #[v0, v1, u] t) := by
  have e := heap_setCell_same _ _ 2 _ _ u h
  simpa using e

set_option maxRecDepth 20000 in
set_option maxHeartbeats 4000000 in
theorem copyHealth_any (ri fa : Int) (v : Value) (L : List HosT) (w : World) (hr : HstRow w v L) (hl : L.length ≤ 1048576) (hp : 0 < L.length) (hx : Hid (∀ x ∈ L, x.1.length ≤ 1048576)) :
    Calls Tryd.prog 41 #[HeaV ri fa v] w fun e w' => (∃ g cap, e = .returned (HeaV ri fa (.slice (some ⟨g, 0, none⟩) L.length cap)) ∧ L.length ≤ cap ∧ cap ≤ maxLen ∧ w.heap.size ≤ g ∧ HoRow w' g L) ∧ Below w.heap.size w w' := by
  unfold HeaV
  have HCH : Hid (∀ W, Below w.heap.size w W → Calls Tryd.prog 60 #[v] W fun e w' => (∃ u, e = .returned u ∧ OwnH w' W.heap.size u L) ∧ Below W.heap.size W w') := fun W hW => cloneHst_any v L W (hr.kept hW) hl (fun n c e => by
    obtain ⟨a, cap, rfl, _, _, h3⟩ := hr
    rcases h3 with h3 | ⟨b, o, rfl, _⟩
    · rw [h3] at hp; simp at hp
    · cases e)
  obtain ⟨aa, ca, rfl, _, hca, _⟩ := id hr
  clear hr
  obtain ⟨W0, hW0⟩ : ∃ W0, W0 = (w.alloc (.cells #[.int .i64 ri, .int .i64 fa, .slice aa L.length ca] 26)).alloc (.cells #[.int .i64 0, .int .i64 0, .slice none 0 0] 26) := ⟨_, rfl⟩
  have hb0 : Below w.heap.size w W0 := by rw [hW0]; exact ((Below.refl w.heap.size w).alloc (Nat.le_refl _) _).alloc (by simp) _
  have hz0 : W0.heap.size = w.heap.size + 2 := by rw [hW0]; simp
  have HB0 : Hid (∀ W, Below W0.heap.size W0 W → W.heap[w.heap.size]? = some (.cells #[.int .i64 ri, .int .i64 fa, .slice aa L.length ca] 26) ∧ W.heap[w.heap.size + 1]? = some (.cells #[.int .i64 0, .int .i64 0, .slice none 0 0] 26)) := fun W hW => by
    rw [hW0] at hW
    obtain ⟨h1, h2, _⟩ := hst_below2 hW
    exact ⟨h1, h2⟩
  have HW0 : Hid ((w.alloc (.cells #[.int .i64 ri, .int .i64 fa, .slice aa L.length ca] 26)).alloc (.cells #[.int .i64 0, .int .i64 0, .slice none 0 0] 26) = W0) := hW0.symm
  clear hW0
  go_enter Tryd.func41, Tryd.ntmps41
  go_wp2_with fail
  rw [HW0.out]
  refine (HCH.out _ hb0).mono ?_
  rintro e w1 ⟨⟨u, rfl, ho⟩, hb1⟩
  rcases ho with ⟨_, h0⟩ | ⟨g, cap, rfl, hcap, hmax, hbg, hs⟩
  · rw [h0] at hp; simp at hp
  · have hbx := HB0.out _ hb1
    have HX1 : Hid (w1.heap[w.heap.size]? = some (.cells #[.int .i64 ri, .int .i64 fa, .slice aa L.length ca] 26)) := hbx.1
    have HY1 : Hid (w1.heap[w.heap.size + 1]? = some (.cells #[.int .i64 0, .int .i64 0, .slice none 0 0] 26)) := hbx.2
    have HS1 : Hid (HoRow w1 g L) := hs
    have hbw1 := hb0.trans (hb1.mono hb0.size)
    obtain ⟨⟨c0, c1, c2⟩, ⟨f0, f1, f2⟩⟩ := hst_cells hbx.1
    have HX2 : Hid ((w1.setCell ⟨w.heap.size, 2, none⟩ (.slice (some ⟨g, 0, none⟩) L.length cap)).heap[w.heap.size]? = some (.cells #[.int .i64 ri, .int .i64 fa, .slice (some ⟨g, 0, none⟩) L.length cap] 26)) := hst_set2 HX1.out
    have HY2 : Hid ((w1.setCell ⟨w.heap.size, 2, none⟩ (.slice (some ⟨g, 0, none⟩) L.length cap)).heap[w.heap.size + 1]? = some (.cells #[.int .i64 0, .int .i64 0, .slice none 0 0] 26)) := by rw [heap_setCell_other _ _ _ _ (show w.heap.size + 1 ≠ w.heap.size by omega)]; exact HY1.out
    have HS2 : Hid (HoRow (w1.setCell ⟨w.heap.size, 2, none⟩ (.slice (some ⟨g, 0, none⟩) L.length cap)) g L) := HS1.out.far (by omega) _
    have hbw2 : Below w.heap.size w (w1.setCell ⟨w.heap.size, 2, none⟩ (.slice (some ⟨g, 0, none⟩) L.length cap)) := hbw1.setCell (p := ⟨w.heap.size, 2, none⟩) (Nat.le_refl _) _
    have HLE : Hid (L.length ≤ cap ∧ cap ≤ maxLen ∧ w.heap.size + 2 ≤ g) := ⟨hcap, hmax, by omega⟩
    unfold maxLen at hmax
    clear hs hbx hb1 hbw1 HX1 HY1 HS1
    go_wp2_with fail
    generalize w1.setCell ⟨w.heap.size, 2, none⟩ (.slice (some ⟨g, 0, none⟩) L.length cap) = w2 at *
    go_loopw [12] (fun i wr => ∃ k : Nat, k ≤ L.length ∧ i = .int .i64 (k : Int) ∧ Hid (wr.heap[w.heap.size]? = some (.cells #[.int .i64 ri, .int .i64 fa, .slice (some ⟨g, 0, none⟩) L.length cap] 26)) ∧ Hid (wr.heap[w.heap.size + 1]? = some (.cells #[.int .i64 0, .int .i64 0, .slice none 0 0] 26)) ∧ Hid (HoRow wr g L) ∧ Below w.heap.size w wr) (fun i _ => L.length - (intOf i).toNat)
    case atStart => exact ⟨0, Nat.zero_le _, rfl, HX2, HY2, HS2, hbw2⟩
    case round =>
      obtain ⟨k, hk, rfl, HX, HY, HS, hb⟩ := hrel
      clear HX2 HY2 HS2 hbw2
      by_cases hlt : k < L.length
      · have hcx := HS.out.2 k hlt
        obtain ⟨⟨d0, d1, d2⟩, _⟩ := hcx
        have hxl := hx.out _ (List.getElem_mem hlt)
        have hgl := HS.out.1
        have hwl : w.heap.size < wr.heap.size := (Array.getElem?_eq_some_iff.1 HX.out).1
        have hwl2 : w.heap.size + 1 < wr.heap.size := (Array.getElem?_eq_some_iff.1 HY.out).1
        have HST : Hid (∀ W, HoRow W g L → HoRow (W.setCell ⟨g, k * 3, none⟩ (.string ⟨(L[k]'hlt).1.toArray⟩)) g L) := fun W h => by
          have h1 := h.set0 k hlt (L[k]'hlt).1
          rw [show L.set k ((L[k]'hlt).1, (L[k]'hlt).2.1, (L[k]'hlt).2.2) = L from List.set_getElem_self hlt] at h1
          exact h1
        have HAT : Hid (∀ W, Below wr.heap.size wr W → HstAt W g (k * 3) (L[k]'hlt) ∧ FzH W g (k * 3)) := fun W hW => (HS.out.kept hW).2 k hlt
        obtain ⟨x, hxe⟩ : ∃ x, x = L[k]'hlt := ⟨_, rfl⟩
        rw [← hxe] at d0 d1 d2 hxl HST HAT
        obtain ⟨xn, up, r⟩ := x
        unfold HstAt FzH at HAT
        simp only at d0 d1 d2 hxl HST HAT
        obtain ⟨W1, hW1⟩ : ∃ W1, W1 = wr.alloc (.cells #[.string ⟨xn.toArray⟩, .bool up, .int .i64 r] 68) := ⟨_, rfl⟩
        have hb1 : Below wr.heap.size wr W1 := by rw [hW1]; exact (Below.refl _ _).alloc (Nat.le_refl _) _
        have HN1 : Hid (∀ W, Below W1.heap.size W1 W → W.heap[wr.heap.size]? = some (.cells #[.string ⟨xn.toArray⟩, .bool up, .int .i64 r] 68)) := fun W hW => by rw [hW1] at hW; exact (hst_below hW).1
        have HSS : Hid (∀ W, Below W1.heap.size W1 W → (W.cell? ⟨w.heap.size, 0, none⟩ = some (.int .i64 ri) ∧ W.cell? ⟨w.heap.size, 1, none⟩ = some (.int .i64 fa) ∧ W.cell? ⟨w.heap.size, 2, none⟩ = some (.slice (some ⟨g, 0, none⟩) L.length cap)) ∧ (W.cell? ⟨wr.heap.size, 0, none⟩ = some (.string ⟨xn.toArray⟩)) ∧ (W.cell? ⟨g, k * 3, none⟩ = some (.string ⟨xn.toArray⟩) ∧ W.frozen? ⟨g, k * 3, none⟩ = false) ∧ Below W1.heap.size W1 W) := fun W hW => by
          have h2 := hb1.trans (hW.mono hb1.size)
          have h3 := HAT.out W h2
          exact ⟨(hst_cells ((h2.block w.heap.size hwl).trans HX.out)).1, (hst_cells (HN1.out W hW)).1.1, ⟨h3.1.1, h3.2.1⟩, hW⟩
        have HCL : Hid (∀ W, Calls Tryd.prog 57 #[.string ⟨xn.toArray⟩] W fun e w' => e = .returned (.string ⟨xn.toArray⟩) ∧ Below W.heap.size W w') := fun W => cloneR_any ⟨xn.toArray⟩ W (by rw [size_list]; omega)
        have HTR : Hid (∀ W W', Below W1.heap.size W1 W → Below W.heap.size W W' → Below W1.heap.size W1 W') := fun W W' h1 h2 => h1.trans (h2.mono h1.size)
        have HEND : Hid (∀ W, Below W1.heap.size W1 W → Hid ((W.setCell ⟨g, k * 3, none⟩ (.string ⟨xn.toArray⟩)).heap[w.heap.size]? = some (.cells #[.int .i64 ri, .int .i64 fa, .slice (some ⟨g, 0, none⟩) L.length cap] 26)) ∧ Hid ((W.setCell ⟨g, k * 3, none⟩ (.string ⟨xn.toArray⟩)).heap[w.heap.size + 1]? = some (.cells #[.int .i64 0, .int .i64 0, .slice none 0 0] 26)) ∧ Hid (HoRow (W.setCell ⟨g, k * 3, none⟩ (.string ⟨xn.toArray⟩)) g L) ∧ Below w.heap.size w (W.setCell ⟨g, k * 3, none⟩ (.string ⟨xn.toArray⟩))) := fun W hW => by
          have h2 := hb1.trans (hW.mono hb1.size)
          have hg2 := HLE.out.2.2
          refine ⟨?_, ?_, HST.out W (HS.out.kept h2), (hb.trans (h2.mono hb.size)).setCell (p := ⟨g, k * 3, none⟩) (by show w.heap.size ≤ g; omega) _⟩
          · show (W.setCell ⟨g, k * 3, none⟩ (.string ⟨xn.toArray⟩)).heap[w.heap.size]? = _
            rw [heap_setCell_other _ _ _ _ (show w.heap.size ≠ g by omega)]; exact (h2.block w.heap.size hwl).trans HX.out
          · show (W.setCell ⟨g, k * 3, none⟩ (.string ⟨xn.toArray⟩)).heap[w.heap.size + 1]? = _
            rw [heap_setCell_other _ _ _ _ (show w.heap.size + 1 ≠ g by omega)]; exact (h2.block (w.heap.size + 1) hwl2).trans HY.out
        have HW1 : Hid (wr.alloc (.cells #[.string ⟨xn.toArray⟩, .bool up, .int .i64 r] 68) = W1) := hW1.symm
        have hbz : Below W1.heap.size W1 W1 := Below.refl _ _
        have hbd : Below W1.heap.size W1 W1.drew := (Below.refl _ _).drew
        have hki : (k : Int) < (L.length : Int) := by omega
        clear hW1 hxe HX HY HS HAT HST HN1 hx hbz HCH
        go_wp2_with fail
        rw [HW1.out]
        clear d0 d1 d2
        obtain ⟨⟨q0, q1, q2⟩, q3, ⟨q4, q5⟩, _⟩ := HSS.out _ hbd
        go_region_with (go_at_call 57; refine (HCL.out _).mono ?_; rintro e w6 ⟨rfl, hb6⟩; have hb16 := HTR.out _ _ hbd hb6; obtain ⟨⟨x0, x1, x2⟩, x3, ⟨x4, x5⟩, _⟩ := HSS.out _ hb16)
        all_goals
          obtain ⟨HX3, HY3, HS3, hb3⟩ := HEND.out _ hb16
          go_wp2_with fail
          go_roundw
          case rel => exact ⟨k + 1, by omega, by go_num, HX3, HY3, HS3, hb3⟩
          case measure => simp [intOf]; omega
      · obtain ⟨⟨q0, q1, q2⟩, _⟩ := hst_cells HX.out
        obtain ⟨⟨y0, y1, y2⟩, ⟨z0, z1, z2⟩⟩ := hst_cells HY.out
        go_wp2_with fail
        (try simp only [Exit.inBlock, Exit.then])
        have hg2 := HLE.out.2.2
        refine bodyPost_ret (results_cell_row rfl _ _ (w.heap.size + 1) 26 #[.int .i64 ri, .int .i64 fa, .slice (some ⟨g, 0, none⟩) L.length cap] (0, 0) _ rfl ?_ Tryd.underlying26 rfl (by kernel_rfl)) rfl ⟨⟨g, cap, rfl, HLE.out.1, HLE.out.2.1, by omega, ?_⟩, ?_⟩
        · exact put3h_heap HY.out
        · exact put3h_far HS.out (by omega)
        · exact put3h_below hb (by omega) _ _ _
end Go.Proofs.YtoopfmebpjojiaaDoor
