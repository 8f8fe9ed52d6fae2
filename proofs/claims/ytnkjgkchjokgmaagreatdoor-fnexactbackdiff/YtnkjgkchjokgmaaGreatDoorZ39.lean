import Derived.Test.YtnkjgkchjokgmaaGreatDoorZ34
import Derived.Test.YtnkjgkchjokgmaaGreatDoorZ38
import Derived.Test.YtnkjgkchjokgmaaGreatDoorZ18
import Derived.Test.YtnkjgkchjokgmaaGreatDoorZ11
import Derived.Deep.RegionHeld3
namespace Go.Proofs.YtnkjgkchjokgmaaGreatDoor.backDiff
open Go.RowKit

theorem own_of {w : World} {base g : Nat} {L : List (List UInt8 × Int × Int × List UInt8)} (h : QRow w g L) (hb : base ≤ g) (hl : L.length ≤ 1048576) : OwnQ w base (.slice (some ⟨g, 0, none⟩) L.length L.length) L :=
  .inr ⟨g, L.length, rfl, Nat.le_refl _, by unfold maxLen; omega, hb, h⟩

set_option maxRecDepth 20000 in
set_option maxHeartbeats 16000000 in
theorem core (f t : Int) (va vu : Value) (A U : List (List UInt8 × Int × Int × List UInt8)) (w : World) (ok : Bool) (f2 t2 : Int) (A2 U2 : List (List UInt8 × Int × Int × List UInt8))
    (ha : RRow w va A) (hxa : Hid (∀ x ∈ A, x.1.length ≤ maxLen ∧ x.2.2.2.length ≤ maxLen)) (hu : RRow w vu U) (hxu : Hid (∀ x ∈ U, x.1.length ≤ maxLen ∧ x.2.2.2.length ≤ maxLen)) (hA2 : A2.length ≤ 1048576) (hU2 : U2.length ≤ 1048576) (hE : EnvR w)
    (HS0 : Hid (Hid (∀ x ∈ A, x.1.length ≤ 1048576 ∧ x.2.2.2.length ≤ 1048576) → Hid (∀ x ∈ U, x.1.length ≤ 1048576 ∧ x.2.2.2.length ≤ 1048576) → ∀ g1 g2 W, QRow W g1 A → QRow W g2 U → Calls Tryz.prog 11 #[DifV f t (.slice (some ⟨g1, 0, none⟩) A.length A.length) (.slice (some ⟨g2, 0, none⟩) U.length U.length)] W fun e w' => DRes w' ok f2 t2 A2 U2 e ∧ Below W.heap.size W w'))
    (HI0 : Hid (Hid (∀ x ∈ A, x.1.length ≤ 1048576 ∧ x.2.2.2.length ≤ 1048576) → Hid (∀ x ∈ U, x.1.length ≤ 1048576 ∧ x.2.2.2.length ≤ 1048576) → ∀ g1 g2 W, EnvR W → QRow W g1 A → QRow W g2 U → Calls Tryz.prog 12 #[DifV f t (.slice (some ⟨g1, 0, none⟩) A.length A.length) (.slice (some ⟨g2, 0, none⟩) U.length U.length)] W fun e w' => DOwn w' W.heap.size ok f2 t2 A2 U2 e ∧ Below W.heap.size W w')) :
    Calls Tryz.prog 4 #[DifV f t va vu] w fun e w' => e = .returned (.bool true) ∧ Below w.heap.size w w' := by
  obtain ⟨aa, ca, hva, _, hca, _⟩ := id ha
  obtain ⟨au, cu, hvu, _, hcu, _⟩ := id hu
  have HSZ : Hid (∀ W, Below w.heap.size w W → Calls Tryz.prog 6 #[DifV f t va vu, .int .i64 1048576] W fun e w' => (∃ q : Int, e = .returned (.int .i64 q) ∧ (q = -1 ∨ (0 ≤ q ∧ q = 1048576 - (A.length : Int) - (wtR A : Int) - (U.length : Int) - (wtR U : Int)))) ∧ Below W.heap.size W w') := fun W hW => szDiff_any f t va vu A U 1048576 W (ha.kept hW) (hu.kept hW) hxa hxu (by omega) (by omega)
  have HTO : Hid (A.length ≤ 1048576 → U.length ≤ 1048576 → ∀ W, Below w.heap.size w W → Calls Tryz.prog 8 #[DifV f t va vu] W fun e w' => (∃ g1 g2, e = .returned (DifV f t (.slice (some ⟨g1, 0, none⟩) A.length A.length) (.slice (some ⟨g2, 0, none⟩) U.length U.length)) ∧ W.heap.size ≤ g1 ∧ g1 < g2 ∧ QRow w' g1 A ∧ QRow w' g2 U) ∧ Below W.heap.size W w') := fun h1 h2 W hW => toDiff_any f t va vu A U W (ha.kept hW) (hu.kept hW) h1 h2
  have e2 : (ok != ok) = false := by simp
  subst hva
  subst hvu
  clear ha hu
  unfold DifV at HSZ ⊢
  go_enter Tryz.func4, Tryz.ntmps4
  go_wp2_with fail
  refine (HSZ.out _ ((Below.refl w.heap.size w).alloc (Nat.le_refl _) _)).mono ?_
  rintro e w1 ⟨⟨q, rfl, hq⟩, hb1⟩
  have hbw1 : Below w.heap.size w w1 := ((Below.refl w.heap.size w).alloc (Nat.le_refl _) _).trans (hb1.mono (by simp))
  have HP1 : Hid (w1.heap[w.heap.size]? = some (.cells #[.int .i64 f, .int .i64 t, .slice aa A.length ca, .slice au U.length cu] 24)) := (hb1.block w.heap.size (by simp)).trans (blk_new _ _)
  have hz1 : w.heap.size < w1.heap.size := Nat.lt_of_lt_of_le (by simp) hb1.size
  clear hb1 HSZ
  by_cases hq1 : q = -1
  · subst hq1
    clear hq
    go_wp2_with fail
    go_ret
    exact ⟨rfl, hbw1⟩
  rcases hq with rfl | ⟨hq0, hqe⟩
  · exact absurd rfl hq1
  obtain ⟨hA, hU, hAs, hUs⟩ := sz_dif hq0 hqe
  have HT : Hid (∀ W, Below w.heap.size w W → Calls Tryz.prog 8 #[DifV f t (.slice aa A.length ca) (.slice au U.length cu)] W fun e w' => (∃ g1 g2, e = .returned (DifV f t (.slice (some ⟨g1, 0, none⟩) A.length A.length) (.slice (some ⟨g2, 0, none⟩) U.length U.length)) ∧ W.heap.size ≤ g1 ∧ g1 < g2 ∧ QRow w' g1 A ∧ QRow w' g2 U) ∧ Below W.heap.size W w') := HTO.out hA hU
  have HS : Hid (∀ g1 g2 W, QRow W g1 A → QRow W g2 U → Calls Tryz.prog 11 #[DifV f t (.slice (some ⟨g1, 0, none⟩) A.length A.length) (.slice (some ⟨g2, 0, none⟩) U.length U.length)] W fun e w' => DRes w' ok f2 t2 A2 U2 e ∧ Below W.heap.size W w') := HS0.out hAs hUs
  have HI : Hid (∀ g1 g2 W, EnvR W → QRow W g1 A → QRow W g2 U → Calls Tryz.prog 12 #[DifV f t (.slice (some ⟨g1, 0, none⟩) A.length A.length) (.slice (some ⟨g2, 0, none⟩) U.length U.length)] W fun e w' => DOwn w' W.heap.size ok f2 t2 A2 U2 e ∧ Below W.heap.size W w') := HI0.out hAs hUs
  have HEX : Hid (∀ g1 g2 g3 g4 W, QRow W g1 A → QRow W g2 U → QRow W g3 A → QRow W g4 U → Calls Tryz.prog 10 #[DifV f t (.slice (some ⟨g1, 0, none⟩) A.length A.length) (.slice (some ⟨g2, 0, none⟩) U.length U.length), DifV f t (.slice (some ⟨g3, 0, none⟩) A.length A.length) (.slice (some ⟨g4, 0, none⟩) U.length U.length)] W fun e w' => e = .returned (.bool true) ∧ Below W.heap.size W w') := fun g1 g2 g3 g4 W h1 h2 h3 h4 => eqDiff_same f t _ _ _ _ A U W (h1.row (Nat.le_refl _) (by unfold maxLen; omega)) (h2.row (Nat.le_refl _) (by unfold maxLen; omega)) (h3.row (Nat.le_refl _) (by unfold maxLen; omega)) (h4.row (Nat.le_refl _) (by unfold maxLen; omega))
  have HEG : Hid (∀ va vu vb vc W, RRow W va A2 → RRow W vu U2 → RRow W vb A2 → RRow W vc U2 → Calls Tryz.prog 10 #[DifV f2 t2 va vu, DifV f2 t2 vb vc] W fun e w' => e = .returned (.bool true) ∧ Below W.heap.size W w') := fun va vu vb vc W h1 h2 h3 h4 => eqDiff_same f2 t2 va vu vb vc A2 U2 W h1 h2 h3 h4
  have HMX : Hid (∀ va vu base W, OwnQ W base va A → OwnQ W base vu U → (∀ g, va.ownBlock = some g → vu.ownBlock ≠ some g) → Calls Tryz.prog 13 #[DifV f t va vu, .int .i64 1] W fun e w' => e = .returned (.int .i64 (1 + 4 * (A.length : Int) + 4 * (U.length : Int))) ∧ OwnQ w' base va (mrks 1 A.length) ∧ OwnQ w' base vu (mrks (1 + 4 * A.length) U.length) ∧ Kpt W w' (fun k => va.ownBlock = some k ∨ vu.ownBlock = some k)) := fun va vu base W h1 h2 h3 => markDiff_any f t va vu A U base 1 W h1 h2 h3 hA hU (by omega) (by omega)
  have HMG : Hid (∀ va vu base W, OwnQ W base va A2 → OwnQ W base vu U2 → (∀ g, va.ownBlock = some g → vu.ownBlock ≠ some g) → Calls Tryz.prog 13 #[DifV f2 t2 va vu, .int .i64 1] W fun e w' => e = .returned (.int .i64 (1 + 4 * (A2.length : Int) + 4 * (U2.length : Int))) ∧ OwnQ w' base va (mrks 1 A2.length) ∧ OwnQ w' base vu (mrks (1 + 4 * A2.length) U2.length) ∧ Kpt W w' (fun k => va.ownBlock = some k ∨ vu.ownBlock = some k)) := fun va vu base W h1 h2 h3 => markDiff_any f2 t2 va vu A2 U2 base 1 W h1 h2 h3 hA2 hU2 (by omega) (by omega)
  have HHG : Hid (∀ va vu base W, OwnQ W base va (mrks 1 A2.length) → OwnQ W base vu (mrks (1 + 4 * A2.length) U2.length) → Calls Tryz.prog 14 #[DifV f2 t2 va vu, .int .i64 1] W fun e w' => e = .returned (.int .i64 (1 + 4 * (A2.length : Int) + 4 * (U2.length : Int))) ∧ Below W.heap.size W w') := fun va vu base W h1 h2 => heldDiff_any f2 t2 va vu A2.length U2.length 1 W h1.row h2.row hA2 hU2 (by omega) (by omega)
  obtain ⟨qx, hqx⟩ : ∃ q : Int, q = 1 + 4 * (A.length : Int) + 4 * (U.length : Int) := ⟨_, rfl⟩
  obtain ⟨qg, hqg⟩ : ∃ q : Int, q = 1 + 4 * (A2.length : Int) + 4 * (U2.length : Int) := ⟨_, rfl⟩
  rw [← hqx] at HMX
  rw [← hqg] at HMG HHG
  have hqx0 : decide (qx < 0) = false := by simp; omega
  have hqg0 : decide (qg < 0) = false := by simp; omega
  have hqq : (qg != qg) = false := by simp
  have hq10 : ¬ qx < 0 := by omega
  clear hqx hqg hqe hAs hUs HS0 HI0 HTO
  unfold DifV at HS HI HT HEX HEG HMX HMG HHG
  obtain ⟨p0, p1, p2, p3⟩ := dif4 HP1.out
  go_wp2_with fail
  refine (HT.out _ hbw1).mono ?_
  rintro e w2 ⟨⟨g1, g2, rfl, hg1, hg12, hqa, hqu⟩, hb2⟩
  clear p0 p1 p2 p3
  have hbw2 : Below w.heap.size w w2 := hbw1.trans (hb2.mono hbw1.size)
  have HP2 : Hid (w2.heap[w.heap.size]? = some (.cells #[.int .i64 f, .int .i64 t, .slice aa A.length ca, .slice au U.length cu] 24)) := (hb2.block w.heap.size hz1).trans HP1.out
  have hz2 : w.heap.size < w2.heap.size := Nat.lt_of_lt_of_le hz1 hb2.size
  have HQA : Hid (QRow w2 g1 A) := hqa
  have HQU : Hid (QRow w2 g2 U) := hqu
  clear hqa hqu hg1 hg12 hb2 HP1 hbw1
  go_wp2_with fail
  refine (HS.out g1 g2 _ HQA.out HQU.out).mono ?_
  rintro e w3 ⟨⟨vw6, vw7, rfl, hra, hru⟩, hb3⟩
  obtain ⟨aw6, cw6, hvw6, _, hcw6, _⟩ := id hra
  obtain ⟨aw7, cw7, hvw7, _, hcw7, _⟩ := id hru
  have HRA : Hid (∀ W, Below w3.heap.size w3 W → RRow W vw6 A2) := fun W hW => hra.kept hW
  have HRU : Hid (∀ W, Below w3.heap.size w3 W → RRow W vw7 U2) := fun W hW => hru.kept hW
  subst hvw6
  subst hvw7
  unfold DifV
  have hbw3 : Below w.heap.size w w3 := hbw2.trans (hb3.mono hbw2.size)
  have HP3 : Hid (w3.heap[w.heap.size]? = some (.cells #[.int .i64 f, .int .i64 t, .slice aa A.length ca, .slice au U.length cu] 24)) := (hb3.block w.heap.size hz2).trans HP2.out
  have hz3 : w.heap.size < w3.heap.size := Nat.lt_of_lt_of_le hz2 hb3.size
  obtain ⟨p0, p1, p2, p3⟩ := dif4 HP3.out
  clear HQA HQU hb3 HP2 hbw2 hra hru HS
  go_wp2_with fail
  refine (HT.out _ (hbw3.alloc hbw3.size _)).mono ?_
  rintro e w4 ⟨⟨g3, g4, rfl, hg3, hg34, hqa, hqu⟩, hb4⟩
  clear p0 p1 p2 p3
  have hb34 : Below w3.heap.size w3 w4 := ((Below.refl w3.heap.size w3).alloc (Nat.le_refl _) _).trans (hb4.mono (by simp))
  have hbw4 : Below w.heap.size w w4 := hbw3.trans (hb34.mono hbw3.size)
  have HP4 : Hid (w4.heap[w.heap.size]? = some (.cells #[.int .i64 f, .int .i64 t, .slice aa A.length ca, .slice au U.length cu] 24)) := (hb34.block w.heap.size hz3).trans HP3.out
  have HW4 : Hid (w4.heap[w3.heap.size]? = some (.cells #[.int .i64 f2, .int .i64 t2, .slice aw6 A2.length cw6, .slice aw7 U2.length cw7] 29)) := (hb4.block w3.heap.size (by simp)).trans (blk_new _ _)
  have hz34 : w3.heap.size < w4.heap.size := Nat.lt_of_lt_of_le (by simp) hb4.size
  have hg3' : w3.heap.size + 1 ≤ g3 := by simpa using hg3
  have HQA : Hid (QRow w4 g3 A) := hqa
  have HQU : Hid (QRow w4 g4 U) := hqu
  have hg4 : g4 < w4.heap.size := hqu.1
  clear hqa hqu hg3 hb4 HP3 hbw3
  go_wp2_with fail
  refine (HI.out g3 g4 _ (hE.below (hbw4.alloc hbw4.size _)) (HQA.out.kept ((Below.refl w4.heap.size w4).alloc (Nat.le_refl _) _)) (HQU.out.kept ((Below.refl w4.heap.size w4).alloc (Nat.le_refl _) _))).mono ?_
  rintro e w6 ⟨⟨vg6, vg7, rfl, hoa, hou, hap⟩, hb6⟩
  obtain ⟨ag6, cg6, hvg6, hcg6⟩ := hoa.shape
  obtain ⟨ag7, cg7, hvg7, hcg7⟩ := hou.shape
  subst hvg6
  subst hvg7
  unfold DifV
  have hb46 : Below w4.heap.size w4 w6 := ((Below.refl w4.heap.size w4).alloc (Nat.le_refl _) _).trans (hb6.mono (by simp))
  have hz46 : w4.heap.size < w6.heap.size := Nat.lt_of_lt_of_le (by simp) hb6.size
  have HOA : Hid (OwnQ w6 (w4.heap.size + 1) (.slice ag6 A2.length cg6) A2) := by
    have h : OwnQ w6 (w4.heap.size + 1) (.slice ag6 A2.length cg6) A2 := by simpa using hoa
    exact h
  have HOU : Hid (OwnQ w6 (w4.heap.size + 1) (.slice ag7 U2.length cg7) U2) := by
    have h : OwnQ w6 (w4.heap.size + 1) (.slice ag7 U2.length cg7) U2 := by simpa using hou
    exact h
  have HAP : Hid (∀ g, (Value.slice ag6 A2.length cg6).ownBlock = some g → (Value.slice ag7 U2.length cg7).ownBlock ≠ some g) := hap
  have HP6 : Hid (w6.heap[w.heap.size]? = some (.cells #[.int .i64 f, .int .i64 t, .slice aa A.length ca, .slice au U.length cu] 24)) := (hb46.block w.heap.size (by omega)).trans HP4.out
  have HW6 : Hid (w6.heap[w3.heap.size]? = some (.cells #[.int .i64 f2, .int .i64 t2, .slice aw6 A2.length cw6, .slice aw7 U2.length cw7] 29)) := (hb46.block w3.heap.size hz34).trans HW4.out
  have HX6 : Hid (w6.heap[w4.heap.size]? = some (.cells #[.int .i64 f, .int .i64 t, .slice (some ⟨g3, 0, none⟩) A.length A.length, .slice (some ⟨g4, 0, none⟩) U.length U.length] 29)) := (hb6.block w4.heap.size (by simp)).trans (blk_new _ _)
  have HQA6 : Hid (QRow w6 g3 A) := HQA.out.kept hb46
  have HQU6 : Hid (QRow w6 g4 U) := HQU.out.kept hb46
  have hb36 : Below w3.heap.size w3 w6 := hb34.trans (hb46.mono hb34.size)
  have hbw6 : Below w.heap.size w w6 := hbw4.trans (hb46.mono hbw4.size)
  obtain ⟨c0, c1, c2, c3⟩ := dif4 HW6.out
  have hlt36 : w3.heap.size < w6.heap.size := by omega
  clear hoa hou hap hb6 HQA HQU HP4 HW4 hb34 hb46 hbw4
  go_wp2_with fail
  refine (HEG.out _ _ _ _ _ (HOA.out.row.kept ((Below.refl w6.heap.size w6).alloc (Nat.le_refl _) _)) (HOU.out.row.kept ((Below.refl w6.heap.size w6).alloc (Nat.le_refl _) _)) (HRA.out _ (hb36.alloc hb36.size _)) (HRU.out _ (hb36.alloc hb36.size _))).mono ?_
  rintro e w7 ⟨rfl, hb7⟩
  clear c0 c1 c2 c3
  have hb67 : Below w6.heap.size w6 w7 := ((Below.refl w6.heap.size w6).alloc (Nat.le_refl _) _).trans (hb7.mono (by simp))
  have hz67 : w6.heap.size < w7.heap.size := Nat.lt_of_lt_of_le (by simp) hb7.size
  have HP7 : Hid (w7.heap[w.heap.size]? = some (.cells #[.int .i64 f, .int .i64 t, .slice aa A.length ca, .slice au U.length cu] 24)) := (hb67.block w.heap.size (by omega)).trans HP6.out
  have HW7 : Hid (w7.heap[w3.heap.size]? = some (.cells #[.int .i64 f2, .int .i64 t2, .slice aw6 A2.length cw6, .slice aw7 U2.length cw7] 29)) := (hb67.block w3.heap.size (by omega)).trans HW6.out
  have HX7 : Hid (w7.heap[w4.heap.size]? = some (.cells #[.int .i64 f, .int .i64 t, .slice (some ⟨g3, 0, none⟩) A.length A.length, .slice (some ⟨g4, 0, none⟩) U.length U.length] 29)) := (hb67.block w4.heap.size (by omega)).trans HX6.out
  have HG7 : Hid (w7.heap[w6.heap.size]? = some (.cells #[.int .i64 f2, .int .i64 t2, .slice ag6 A2.length cg6, .slice ag7 U2.length cg7] 29)) := (hb7.block w6.heap.size (by simp)).trans (blk_new _ _)
  have hb37 : Below w3.heap.size w3 w7 := hb36.trans (hb67.mono hb36.size)
  have hbw7 : Below w.heap.size w w7 := hbw6.trans (hb67.mono hbw6.size)
  have HC : Hid (∀ W, Below w7.heap.size w7 W → (W.cell? ⟨w.heap.size, 0, none⟩ = some (.int .i64 f) ∧ W.cell? ⟨w.heap.size, 1, none⟩ = some (.int .i64 t) ∧ W.cell? ⟨w.heap.size, 2, none⟩ = some (.slice aa A.length ca) ∧ W.cell? ⟨w.heap.size, 3, none⟩ = some (.slice au U.length cu)) ∧ (W.cell? ⟨w4.heap.size, 0, none⟩ = some (.int .i64 f) ∧ W.cell? ⟨w4.heap.size, 1, none⟩ = some (.int .i64 t) ∧ W.cell? ⟨w4.heap.size, 2, none⟩ = some (.slice (some ⟨g3, 0, none⟩) A.length A.length) ∧ W.cell? ⟨w4.heap.size, 3, none⟩ = some (.slice (some ⟨g4, 0, none⟩) U.length U.length)) ∧ Below w7.heap.size w7 W) := fun W hW =>
    ⟨dif4 ((hW.block w.heap.size (by omega)).trans HP7.out), dif4 ((hW.block w4.heap.size (by omega)).trans HX7.out), hW⟩
  have HT7 : Hid (∀ W, Below w7.heap.size w7 W → Calls Tryz.prog 8 #[.agg #[.int .i64 f, .int .i64 t, .slice aa A.length ca, .slice au U.length cu]] W fun e w' => (∃ g1 g2, e = .returned (.agg #[.int .i64 f, .int .i64 t, .slice (some ⟨g1, 0, none⟩) A.length A.length, .slice (some ⟨g2, 0, none⟩) U.length U.length]) ∧ W.heap.size ≤ g1 ∧ g1 < g2 ∧ QRow w' g1 A ∧ QRow w' g2 U) ∧ Below W.heap.size W w') := fun W hW => HT.out W (hbw7.trans (hW.mono hbw7.size))
  have HEX7 : Hid (∀ g1 g2 W, Below w7.heap.size w7 W → QRow W g1 A → QRow W g2 U → Calls Tryz.prog 10 #[.agg #[.int .i64 f, .int .i64 t, .slice (some ⟨g3, 0, none⟩) A.length A.length, .slice (some ⟨g4, 0, none⟩) U.length U.length], .agg #[.int .i64 f, .int .i64 t, .slice (some ⟨g1, 0, none⟩) A.length A.length, .slice (some ⟨g2, 0, none⟩) U.length U.length]] W fun e w' => e = .returned (.bool true) ∧ Below W.heap.size W w') := fun g1 g2 W hW h1 h2 => HEX.out g3 g4 g1 g2 W ((HQA6.out.kept hb67).kept hW) ((HQU6.out.kept hb67).kept hW) h1 h2
  have HTR : Hid (∀ W W', Below w7.heap.size w7 W → Below W.heap.size W W' → Below w7.heap.size w7 W') := fun W W' h1 h2 => h1.trans (h2.mono h1.size)
  have hbz : Below w7.heap.size w7 w7 := Below.refl _ _
  have hbd : Below w7.heap.size w7 w7.drew := (Below.refl _ _).drew
  have HQA7 : Hid (QRow w7 g3 A) := HQA6.out.kept hb67
  have HQU7 : Hid (QRow w7 g4 U) := HQU6.out.kept hb67
  have HOA7 : Hid (OwnQ w7 (w4.heap.size + 1) (.slice ag6 A2.length cg6) A2) := HOA.out.kept hb67
  have HOU7 : Hid (OwnQ w7 (w4.heap.size + 1) (.slice ag7 U2.length cg7) U2) := HOU.out.kept hb67
  have HLG : Hid (∀ k, (Value.slice ag6 A2.length cg6).ownBlock = some k ∨ (Value.slice ag7 U2.length cg7).ownBlock = some k → w4.heap.size + 1 ≤ k ∧ k < w6.heap.size) := fun k h => by
    rcases h with h | h
    · exact HOA.out.lt k h
    · exact HOU.out.lt k h
  clear hb7 hb67 hb36 hbw6 HP6 HW6 HX6 HQA6 HQU6 HOA HOU
  go_wp2_with fail
  go_region_held3 (fun W => (W.cell? ⟨w.heap.size, 0, none⟩ = some (.int .i64 f) ∧ W.cell? ⟨w.heap.size, 1, none⟩ = some (.int .i64 t) ∧ W.cell? ⟨w.heap.size, 2, none⟩ = some (.slice aa A.length ca) ∧ W.cell? ⟨w.heap.size, 3, none⟩ = some (.slice au U.length cu)) ∧ (W.cell? ⟨w4.heap.size, 0, none⟩ = some (.int .i64 f) ∧ W.cell? ⟨w4.heap.size, 1, none⟩ = some (.int .i64 t) ∧ W.cell? ⟨w4.heap.size, 2, none⟩ = some (.slice (some ⟨g3, 0, none⟩) A.length A.length) ∧ W.cell? ⟨w4.heap.size, 3, none⟩ = some (.slice (some ⟨g4, 0, none⟩) U.length U.length)) ∧ Below w7.heap.size w7 W) (first | exact HC.out _ (by assumption) | exact HC.out _ (Below.drew (by assumption)))
    (first
    | (go_at_call 8; refine (HT7.out _ (by assumption)).mono ?_; rintro e w8 ⟨⟨g5, g6, rfl, _, _, hqa8, hqu8⟩, hb8⟩; have hb78 := HTR.out _ _ (by assumption) hb8)
    | (go_at_call 10; refine (HEX7.out _ _ _ (by assumption) (by assumption) (by assumption)).mono ?_; rintro e w9 ⟨rfl, hb9⟩; have hb79 := HTR.out _ _ (by assumption) hb9))
  obtain ⟨W9, hW9⟩ : ∃ W9, W9 = w9 := ⟨_, rfl⟩
  have HP9 : Hid (w9.heap[w.heap.size]? = some (.cells #[.int .i64 f, .int .i64 t, .slice aa A.length ca, .slice au U.length cu] 24)) := (hb79.block w.heap.size (by omega)).trans HP7.out
  have HW9 : Hid (w9.heap[w3.heap.size]? = some (.cells #[.int .i64 f2, .int .i64 t2, .slice aw6 A2.length cw6, .slice aw7 U2.length cw7] 29)) := (hb79.block w3.heap.size (by omega)).trans HW7.out
  have HX9 : Hid (w9.heap[w4.heap.size]? = some (.cells #[.int .i64 f, .int .i64 t, .slice (some ⟨g3, 0, none⟩) A.length A.length, .slice (some ⟨g4, 0, none⟩) U.length U.length] 29)) := (hb79.block w4.heap.size (by omega)).trans HX7.out
  have HG9 : Hid (w9.heap[w6.heap.size]? = some (.cells #[.int .i64 f2, .int .i64 t2, .slice ag6 A2.length cg6, .slice ag7 U2.length cg7] 29)) := (hb79.block w6.heap.size (by omega)).trans HG7.out
  have HQA9 : Hid (QRow w9 g3 A) := HQA7.out.kept hb79
  have HQU9 : Hid (QRow w9 g4 U) := HQU7.out.kept hb79
  have HOA9 : Hid (OwnQ w9 (w4.heap.size + 1) (.slice ag6 A2.length cg6) A2) := HOA7.out.kept hb79
  have HOU9 : Hid (OwnQ w9 (w4.heap.size + 1) (.slice ag7 U2.length cg7) U2) := HOU7.out.kept hb79
  have hb39 : Below w3.heap.size w3 w9 := hb37.trans (hb79.mono hb37.size)
  have hbw9 : Below w.heap.size w w9 := hbw7.trans (hb79.mono hbw7.size)
  have hz79 : w7.heap.size ≤ w9.heap.size := hb79.size
  obtain ⟨x0, x1, x2, x3⟩ := dif4 HX9.out
  clear hW9 W9 HP7 HW7 HX7 HG7 HQA7 HQU7 HOA7 HOU7 HC HT7 HEX7 HTR hb79 hbw7 hb37 hbz hbd
  go_wp2_with fail
  refine (HMX.out _ _ (w3.heap.size + 1) _ (own_of HQA9.out hg3' hA) (own_of HQU9.out (by omega) hU) (fun g h1 h2 => by simp [Value.ownBlock] at h1 h2; omega)).mono ?_
  rintro e w10 ⟨rfl, _, _, hk10⟩
  clear x0 x1 x2 x3
  have HLX : Hid (∀ k, (Value.slice (some ⟨g3, 0, none⟩) A.length A.length).ownBlock = some k ∨ (Value.slice (some ⟨g4, 0, none⟩) U.length U.length).ownBlock = some k → w3.heap.size + 1 ≤ k ∧ k < w4.heap.size) := fun k h => by
    rcases h with h | h
    · simp [Value.ownBlock] at h; omega
    · simp [Value.ownBlock] at h; omega
  have HP10 : Hid (w10.heap[w.heap.size]? = some (.cells #[.int .i64 f, .int .i64 t, .slice aa A.length ca, .slice au U.length cu] 24)) := (hk10.block w.heap.size (by omega) (fun h => by have h1 := HLX.out _ h; omega)).trans HP9.out
  have HW10 : Hid (w10.heap[w3.heap.size]? = some (.cells #[.int .i64 f2, .int .i64 t2, .slice aw6 A2.length cw6, .slice aw7 U2.length cw7] 29)) := (hk10.block w3.heap.size (by omega) (fun h => by have h1 := HLX.out _ h; omega)).trans HW9.out
  have HG10 : Hid (w10.heap[w6.heap.size]? = some (.cells #[.int .i64 f2, .int .i64 t2, .slice ag6 A2.length cg6, .slice ag7 U2.length cg7] 29)) := (hk10.block w6.heap.size (by omega) (fun h => by have h1 := HLX.out _ h; omega)).trans HG9.out
  have HOA10 : Hid (OwnQ w10 (w4.heap.size + 1) (.slice ag6 A2.length cg6) A2) := HOA9.out.kpt hk10 (fun g hg h => by have h1 := HLX.out _ h; have h2 := HLG.out g (.inl hg); omega)
  have HOU10 : Hid (OwnQ w10 (w4.heap.size + 1) (.slice ag7 U2.length cg7) U2) := HOU9.out.kpt hk10 (fun g hg h => by have h1 := HLX.out _ h; have h2 := HLG.out g (.inr hg); omega)
  have hb310 : Below w3.heap.size w3 w10 := hb39.trans (hk10.below hb39.size (fun k hk h => by have h1 := HLX.out _ h; omega))
  have hbw10 : Below w.heap.size w w10 := hbw9.trans (hk10.below hbw9.size (fun k hk h => by have h1 := HLX.out _ h; omega))
  have hz910 : w9.heap.size ≤ w10.heap.size := hk10.size
  obtain ⟨c0, c1, c2, c3⟩ := dif4 HW10.out
  obtain ⟨d0, d1, d2, d3⟩ := dif4 HG10.out
  clear hk10 HP9 HW9 HX9 HG9 HQA9 HQU9 HOA9 HOU9 hb39 hbw9 HLX
  go_wp2_with fail
  refine (HEG.out _ _ _ _ _ HOA10.out.row HOU10.out.row (HRA.out _ hb310) (HRU.out _ hb310)).mono ?_
  rintro e w11 ⟨rfl, hb11⟩
  clear c0 c1 c2 c3 d0 d1 d2 d3
  have HP11 : Hid (w11.heap[w.heap.size]? = some (.cells #[.int .i64 f, .int .i64 t, .slice aa A.length ca, .slice au U.length cu] 24)) := (hb11.block w.heap.size (by omega)).trans HP10.out
  have HW11 : Hid (w11.heap[w3.heap.size]? = some (.cells #[.int .i64 f2, .int .i64 t2, .slice aw6 A2.length cw6, .slice aw7 U2.length cw7] 29)) := (hb11.block w3.heap.size (by omega)).trans HW10.out
  have HG11 : Hid (w11.heap[w6.heap.size]? = some (.cells #[.int .i64 f2, .int .i64 t2, .slice ag6 A2.length cg6, .slice ag7 U2.length cg7] 29)) := (hb11.block w6.heap.size (by omega)).trans HG10.out
  have HOA11 : Hid (OwnQ w11 (w4.heap.size + 1) (.slice ag6 A2.length cg6) A2) := HOA10.out.kept hb11
  have HOU11 : Hid (OwnQ w11 (w4.heap.size + 1) (.slice ag7 U2.length cg7) U2) := HOU10.out.kept hb11
  have hb311 : Below w3.heap.size w3 w11 := hb310.trans (hb11.mono hb310.size)
  have hbw11 : Below w.heap.size w w11 := hbw10.trans (hb11.mono hbw10.size)
  have hz1011 : w10.heap.size ≤ w11.heap.size := hb11.size
  obtain ⟨d0, d1, d2, d3⟩ := dif4 HG11.out
  clear hb11 HP10 HW10 HG10 HOA10 HOU10 hb310 hbw10
  go_wp2_with fail
  refine (HMG.out _ _ (w4.heap.size + 1) _ HOA11.out HOU11.out HAP.out).mono ?_
  rintro e w12 ⟨rfl, ho12, hu12, hk12⟩
  clear d0 d1 d2 d3
  have HP12 : Hid (w12.heap[w.heap.size]? = some (.cells #[.int .i64 f, .int .i64 t, .slice aa A.length ca, .slice au U.length cu] 24)) := (hk12.block w.heap.size (by omega) (fun h => by have h1 := HLG.out _ h; omega)).trans HP11.out
  have HW12 : Hid (w12.heap[w3.heap.size]? = some (.cells #[.int .i64 f2, .int .i64 t2, .slice aw6 A2.length cw6, .slice aw7 U2.length cw7] 29)) := (hk12.block w3.heap.size (by omega) (fun h => by have h1 := HLG.out _ h; omega)).trans HW11.out
  have HG12 : Hid (w12.heap[w6.heap.size]? = some (.cells #[.int .i64 f2, .int .i64 t2, .slice ag6 A2.length cg6, .slice ag7 U2.length cg7] 29)) := (hk12.block w6.heap.size (by omega) (fun h => by have h1 := HLG.out _ h; omega)).trans HG11.out
  have hb312 : Below w3.heap.size w3 w12 := hb311.trans (hk12.below hb311.size (fun k hk h => by have h1 := HLG.out _ h; omega))
  have hbw12 : Below w.heap.size w w12 := hbw11.trans (hk12.below hbw11.size (fun k hk h => by have h1 := HLG.out _ h; omega))
  have hz1112 : w11.heap.size ≤ w12.heap.size := hk12.size
  have HO12 : Hid (OwnQ w12 (w4.heap.size + 1) (.slice ag6 A2.length cg6) (mrks 1 A2.length)) := ho12
  have HU12 : Hid (OwnQ w12 (w4.heap.size + 1) (.slice ag7 U2.length cg7) (mrks (1 + 4 * A2.length) U2.length)) := hu12
  obtain ⟨d0, d1, d2, d3⟩ := dif4 HG12.out
  clear ho12 hu12 hk12 HP11 HW11 HG11 HOA11 HOU11 hb311 hbw11
  go_wp2_with fail
  refine (HHG.out _ _ _ _ HO12.out HU12.out).mono ?_
  rintro e w13 ⟨rfl, hb13⟩
  clear d0 d1 d2 d3
  have HP13 : Hid (w13.heap[w.heap.size]? = some (.cells #[.int .i64 f, .int .i64 t, .slice aa A.length ca, .slice au U.length cu] 24)) := (hb13.block w.heap.size (by omega)).trans HP12.out
  have HW13 : Hid (w13.heap[w3.heap.size]? = some (.cells #[.int .i64 f2, .int .i64 t2, .slice aw6 A2.length cw6, .slice aw7 U2.length cw7] 29)) := (hb13.block w3.heap.size (by omega)).trans HW12.out
  have HG13 : Hid (w13.heap[w6.heap.size]? = some (.cells #[.int .i64 f2, .int .i64 t2, .slice ag6 A2.length cg6, .slice ag7 U2.length cg7] 29)) := (hb13.block w6.heap.size (by omega)).trans HG12.out
  have HO13 : Hid (OwnQ w13 (w4.heap.size + 1) (.slice ag6 A2.length cg6) (mrks 1 A2.length)) := HO12.out.kept hb13
  have HU13 : Hid (OwnQ w13 (w4.heap.size + 1) (.slice ag7 U2.length cg7) (mrks (1 + 4 * A2.length) U2.length)) := HU12.out.kept hb13
  have hb313 : Below w3.heap.size w3 w13 := hb312.trans (hb13.mono hb312.size)
  have hbw13 : Below w.heap.size w w13 := hbw12.trans (hb13.mono hbw12.size)
  have hz1213 : w12.heap.size ≤ w13.heap.size := hb13.size
  obtain ⟨p0, p1, p2, p3⟩ := dif4 HP13.out
  clear hb13 HP12 HW12 HG12 HO12 HU12 hb312 hbw12
  go_wp2_with fail
  refine (HT.out _ hbw13).mono ?_
  rintro e w14 ⟨⟨g7, g8, rfl, _, _, hqa14, hqu14⟩, hb14⟩
  clear p0 p1 p2 p3
  have HQA14 : Hid (QRow w14 g7 A) := hqa14
  have HQU14 : Hid (QRow w14 g8 U) := hqu14
  have hbw14 : Below w.heap.size w w14 := hbw13.trans (hb14.mono hbw13.size)
  have HK14 : Hid (Below w13.heap.size w13 w14) := hb14
  clear hqa14 hqu14 hb14
  go_wp2_with fail
  refine (HI.out g7 g8 _ (hE.below hbw14) HQA14.out HQU14.out).mono ?_
  rintro e w15 ⟨⟨vh6, vh7, rfl, hoa15, hou15, _⟩, hb15⟩
  obtain ⟨ah6, ch6, hvh6, hch6⟩ := hoa15.shape
  obtain ⟨ah7, ch7, hvh7, hch7⟩ := hou15.shape
  subst hvh6
  subst hvh7
  unfold DifV
  have HRA15 : Hid (RRow w15 (.slice ah6 A2.length ch6) A2) := hoa15.row
  have HRU15 : Hid (RRow w15 (.slice ah7 U2.length ch7) U2) := hou15.row
  have hb1315 : Below w13.heap.size w13 w15 := HK14.out.trans (hb15.mono HK14.out.size)
  have HW15 : Hid (w15.heap[w3.heap.size]? = some (.cells #[.int .i64 f2, .int .i64 t2, .slice aw6 A2.length cw6, .slice aw7 U2.length cw7] 29)) := (hb1315.block w3.heap.size (by omega)).trans HW13.out
  have HG15 : Hid (w15.heap[w6.heap.size]? = some (.cells #[.int .i64 f2, .int .i64 t2, .slice ag6 A2.length cg6, .slice ag7 U2.length cg7] 29)) := (hb1315.block w6.heap.size (by omega)).trans HG13.out
  have HO15 : Hid (OwnQ w15 (w4.heap.size + 1) (.slice ag6 A2.length cg6) (mrks 1 A2.length)) := HO13.out.kept hb1315
  have HU15 : Hid (OwnQ w15 (w4.heap.size + 1) (.slice ag7 U2.length cg7) (mrks (1 + 4 * A2.length) U2.length)) := HU13.out.kept hb1315
  have hb315 : Below w3.heap.size w3 w15 := hb313.trans (hb1315.mono hb313.size)
  have hbw15 : Below w.heap.size w w15 := hbw13.trans (hb1315.mono hbw13.size)
  have hz1315 : w13.heap.size ≤ w15.heap.size := hb1315.size
  have hlt315 : w3.heap.size < w15.heap.size := by omega
  obtain ⟨c0, c1, c2, c3⟩ := dif4 HW15.out
  clear hoa15 hou15 hb15 hb1315 HK14 HP13 HW13 HG13 HO13 HU13 hb313 hbw13 hbw14 HQA14 HQU14
  go_wp2_with fail
  refine (HEG.out _ _ _ _ _ (HRA15.out.kept ((Below.refl w15.heap.size w15).alloc (Nat.le_refl _) _)) (HRU15.out.kept ((Below.refl w15.heap.size w15).alloc (Nat.le_refl _) _)) (HRA.out _ (hb315.alloc hb315.size _)) (HRU.out _ (hb315.alloc hb315.size _))).mono ?_
  rintro e w16 ⟨rfl, hb16⟩
  clear c0 c1 c2 c3
  have hb1516 : Below w15.heap.size w15 w16 := ((Below.refl w15.heap.size w15).alloc (Nat.le_refl _) _).trans (hb16.mono (by simp))
  have HG16 : Hid (w16.heap[w6.heap.size]? = some (.cells #[.int .i64 f2, .int .i64 t2, .slice ag6 A2.length cg6, .slice ag7 U2.length cg7] 29)) := (hb1516.block w6.heap.size (by omega)).trans HG15.out
  have HO16 : Hid (OwnQ w16 (w4.heap.size + 1) (.slice ag6 A2.length cg6) (mrks 1 A2.length)) := HO15.out.kept hb1516
  have HU16 : Hid (OwnQ w16 (w4.heap.size + 1) (.slice ag7 U2.length cg7) (mrks (1 + 4 * A2.length) U2.length)) := HU15.out.kept hb1516
  have hbw16 : Below w.heap.size w w16 := hbw15.trans (hb1516.mono hbw15.size)
  obtain ⟨d0, d1, d2, d3⟩ := dif4 HG16.out
  clear hb16 hb1516 HW15 HG15 HO15 HU15 hb315 hbw15
  go_wp2_with fail
  refine (HHG.out _ _ _ _ HO16.out HU16.out).mono ?_
  rintro e w17 ⟨rfl, hb17⟩
  have hbw17 : Below w.heap.size w w17 := hbw16.trans (hb17.mono hbw16.size)
  clear d0 d1 d2 d3 hb17 hbw16
  go_wp2_with fail
  go_ret
  exact ⟨rfl, hbw17⟩

set_option maxRecDepth 20000 in
set_option maxHeartbeats 1000000 in
theorem walk (f t : Int) (va vu : Value) (A U : List (List UInt8 × Int × Int × List UInt8)) (w : World)
    (ha : RRow w va A) (hxa : Hid (∀ x ∈ A, x.1.length ≤ maxLen ∧ x.2.2.2.length ≤ maxLen)) (hu : RRow w vu U) (hxu : Hid (∀ x ∈ U, x.1.length ≤ maxLen ∧ x.2.2.2.length ≤ maxLen)) (hE : EnvR w) :
    Calls Tryz.prog 4 #[DifV f t va vu] w fun e w' => e = .returned (.bool true) ∧ Below w.heap.size w w' := by
  have la : A.length ≤ maxLen := by obtain ⟨_, cap, _, h1, h2, _⟩ := ha; omega
  have lu : U.length ≤ maxLen := by obtain ⟨_, cap, _, h1, h2, _⟩ := hu; omega
  have hsome : ∀ (g n c : Nat) (m d : Nat), Value.slice (some ⟨g, 0, none⟩) n c = .slice none m d → d = 0 := fun g n c m d h => by cases h
  cases hB : difB f t A U with
  | false =>
    refine core f t va vu A U w false 0 0 [] [] ha hxa hu hxu (by simp) (by simp) hE (fun h1 h2 g1 g2 W q1 q2 => ?_) (fun h1 h2 g1 g2 W hW q1 q2 => ?_)
    · exact (sBackDiff_any f t _ _ A U W (q1.row (Nat.le_refl _) la) (q2.row (Nat.le_refl _) lu) h1 h2 (hsome _ _ _) (hsome _ _ _)).mono (fun e w' h' => ⟨h'.1.1 hB, h'.2⟩)
    · exact (iBackDiff_any f t _ _ A U W (q1.row (Nat.le_refl _) la) (q2.row (Nat.le_refl _) lu) h1 h2 hW).mono (fun e w' h' => ⟨h'.1.1 hB, h'.2⟩)
  | true =>
    obtain ⟨k1, k2⟩ := difB_lens hB
    refine core f t va vu A U w true t f U A ha hxa hu hxu (by omega) (by omega) hE (fun h1 h2 g1 g2 W q1 q2 => ?_) (fun h1 h2 g1 g2 W hW q1 q2 => ?_)
    · exact (sBackDiff_any f t _ _ A U W (q1.row (Nat.le_refl _) la) (q2.row (Nat.le_refl _) lu) h1 h2 (hsome _ _ _) (hsome _ _ _)).mono (fun e w' h' => ⟨h'.1.2 hB, h'.2⟩)
    · exact (iBackDiff_any f t _ _ A U W (q1.row (Nat.le_refl _) la) (q2.row (Nat.le_refl _) lu) h1 h2 hW).mono (fun e w' h' => ⟨h'.1.2 hB, h'.2⟩)
end Go.Proofs.YtnkjgkchjokgmaaGreatDoor.backDiff
