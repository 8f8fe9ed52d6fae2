import Derived.Test.YtbcgalhegkhmbaaGreatDoorZ45
import Derived.Test.YtbcgalhegkhmbaaGreatDoorZ43
namespace Go.Proofs.YtbcgalhegkhmbaaGreatDoor
open Go.RowKit

set_option maxRecDepth 20000 in
set_option maxHeartbeats 4000000 in
theorem copyDiff_any (f t : Int) (va vu : Value) (A U : List (List UInt8 × Int × Int × List UInt8)) (w : World) (ha : RRow w va A) (hu : RRow w vu U) (hla : A.length ≤ 1048576) (hlu : U.length ≤ 1048576)
    (hxa : Hid (∀ x ∈ A, x.1.length ≤ 1048576 ∧ x.2.2.2.length ≤ 1048576)) (hxu : Hid (∀ x ∈ U, x.1.length ≤ 1048576 ∧ x.2.2.2.length ≤ 1048576)) :
    Calls Tryz.prog 19 #[DifV f t va vu] w fun e w' => (∃ va' vu', e = .returned (DifV f t va' vu') ∧ OwnQ w' w.heap.size va' A ∧ OwnQ w' w.heap.size vu' U ∧ ∀ g, va'.ownBlock = some g → vu'.ownBlock ≠ some g) ∧ Below w.heap.size w w' := by
  unfold DifV
  obtain ⟨aa, ca, rfl, _, hca, _⟩ := id ha
  obtain ⟨au, cu, rfl, _, hcu, _⟩ := id hu
  have HRA : Hid (∀ W, Below w.heap.size w W → RRow W (.slice aa A.length ca) A) := fun W hW => ha.kept hW
  have HRU : Hid (∀ W, Below w.heap.size w W → RRow W (.slice au U.length cu) U) := fun W hW => hu.kept hW
  clear ha hu
  go_enter Tryz.func19, Tryz.ntmps19
  go_wp2_with fail
  refine (copyRecords_any _ A _ (HRA.out _ (((Below.refl w.heap.size w).alloc (Nat.le_refl _) _).alloc (by simp) _)) hla hxa).mono ?_
  rintro e w2 ⟨u1, rfl, ho1, hb2⟩
  obtain ⟨hm, hr, hbw2⟩ := heaps2 hb2
  obtain ⟨a1, k1, hu1, hk1⟩ := ho1.shape
  subst hu1
  have hz1 : w.heap.size + 2 ≤ w2.heap.size := by have h := hb2.size; simpa using h
  have HM2 : Hid (w2.heap[w.heap.size]? = some (.cells #[.int .i64 f, .int .i64 t, .slice aa A.length ca, .slice au U.length cu] 28)) := hm
  have HR2 : Hid (w2.heap[w.heap.size + 1]? = some (.cells #[.int .i64 0, .int .i64 0, .slice none 0 0, .slice none 0 0] 28)) := hr
  have HO1 : Hid (OwnQ w2 (w.heap.size + 2) (.slice a1 A.length k1) A) := by
    have h : OwnQ w2 (w.heap.size + 2) (.slice a1 A.length k1) A := by simpa using ho1
    exact h
  have HL1 : Hid (∀ g, (Value.slice a1 A.length k1).ownBlock = some g → g < w2.heap.size) := fun g hg => (ho1.lt g hg).2
  have hbw2s : Below w.heap.size w (w2.setCell ⟨w.heap.size, 2, none⟩ (.slice a1 A.length k1)) := hbw2.setCell (p := ⟨w.heap.size, 2, none⟩) (Nat.le_refl _) _
  obtain ⟨c0, c1, c2, c3⟩ := dif4 HM2.out
  obtain ⟨f0, f1, f2, f3⟩ := dif4_frozen HM2.out
  clear ho1 hb2 hm hr
  go_wp2_with fail
  refine (copyRecords_any _ U _ (HRU.out _ hbw2s) hlu hxu).mono ?_
  rintro e w3 ⟨u2, rfl, ho2, hb3⟩
  obtain ⟨a2, k2, hu2, hk2⟩ := ho2.shape
  subst hu2
  clear c0 c1 c2 c3 f0 f1 f2 f3
  have hz23 : w2.heap.size ≤ w3.heap.size := by simpa using hb3.size
  have HO2 : Hid (OwnQ w3 w2.heap.size (.slice a2 U.length k2) U) := by
    have h : OwnQ w3 w2.heap.size (.slice a2 U.length k2) U := by simpa using ho2
    exact h
  have HO3 : Hid (OwnQ w3 (w.heap.size + 2) (.slice a1 A.length k1) A) := (HO1.out.kpt (kpt_set w2 w.heap.size 2 (.slice a1 A.length k1) (S := fun k => k = w.heap.size) rfl) (fun g hg h => by have h1 := HO1.out.lt g hg; omega)).kept hb3
  have HM3 : Hid (w3.heap[w.heap.size]? = some (.cells #[.int .i64 f, .int .i64 t, .slice a1 A.length k1, .slice au U.length cu] 28)) := by
    have e1 := heap_setCell_same _ _ 2 _ _ (.slice a1 A.length k1) HM2.out
    exact ((hb3.block w.heap.size (by simp; omega)).trans e1).trans (by rfl)
  have HR3 : Hid (w3.heap[w.heap.size + 1]? = some (.cells #[.int .i64 0, .int .i64 0, .slice none 0 0, .slice none 0 0] 28)) := by
    show w3.heap[w.heap.size + 1]? = _
    rw [hb3.block (w.heap.size + 1) (by simp; omega), heap_setCell_other _ _ _ _ (show w.heap.size + 1 ≠ w.heap.size by omega)]; exact HR2.out
  have hbw3 : Below w.heap.size w w3 := hbw2s.trans (hb3.mono (by simpa using hbw2.size))
  have HRQ : Hid ((w3.setCell ⟨w.heap.size, 3, none⟩ (.slice a2 U.length k2)).heap[w.heap.size + 1]? = some (.cells #[.int .i64 0, .int .i64 0, .slice none 0 0, .slice none 0 0] 28)) := by
    show (w3.setCell ⟨w.heap.size, 3, none⟩ (.slice a2 U.length k2)).heap[w.heap.size + 1]? = _
    rw [heap_setCell_other _ _ _ _ (show w.heap.size + 1 ≠ w.heap.size by omega)]; exact HR3.out
  have hbw4 : Below w.heap.size w (w3.setCell ⟨w.heap.size, 3, none⟩ (.slice a2 U.length k2)) := hbw3.setCell (p := ⟨w.heap.size, 3, none⟩) (Nat.le_refl _) _
  obtain ⟨c0, c1, c2, c3⟩ := dif4 HM3.out
  obtain ⟨f0, f1, f2, f3⟩ := dif4_frozen HM3.out
  obtain ⟨d0, d1, d2, d3⟩ := dif4 HR3.out
  obtain ⟨g0, g1, g2, g3⟩ := dif4_frozen HR3.out
  clear ho2 hb3
  go_wp2_with fail
  (try simp only [Exit.inBlock, Exit.then])
  refine bodyPost_ret (results_cell_row rfl _ _ (w.heap.size + 1) 28 #[.int .i64 f, .int .i64 t, .slice a1 A.length k1, .slice a2 U.length k2] (0, 0) _ rfl ?_ Tryz.underlying28 rfl (by kernel_rfl)) rfl ⟨⟨_, _, rfl, ?_, ?_, ?_⟩, ?_⟩
  · exact put4v_heap HRQ.out
  · exact ((HO3.out.kpt (kpt_set w3 w.heap.size 3 (.slice a2 U.length k2) (S := fun k => k = w.heap.size) rfl) (fun g hg h => by have h1 := HO3.out.lt g hg; omega)).kpt (kpt_put4v _ (w.heap.size + 1) _ _ _ _ (S := fun k => k = w.heap.size + 1) rfl) (fun g hg h => by have h1 := HO3.out.lt g hg; omega)).base (by omega)
  · exact ((HO2.out.kpt (kpt_set w3 w.heap.size 3 (.slice a2 U.length k2) (S := fun k => k = w.heap.size) rfl) (fun g hg h => by have h1 := HO2.out.lt g hg; omega)).kpt (kpt_put4v _ (w.heap.size + 1) _ _ _ _ (S := fun k => k = w.heap.size + 1) rfl) (fun g hg h => by have h1 := HO2.out.lt g hg; omega)).base (by omega)
  · exact fun g hg hh => by have h1 := HL1.out g hg; have h2 := HO2.out.lt g hh; omega
  · exact put4v_below hbw4 (Nat.le_succ _) _ _ _ _

end Go.Proofs.YtbcgalhegkhmbaaGreatDoor
