import Derived.Test.YtnkjgkchjokgmaaGreatDoorZ31
import Derived.Test.YtnkjgkchjokgmaaGreatDoorZ35
import Derived.Test.YtnkjgkchjokgmaaGreatDoorZ11
import Derived.Deep.RegionHeld3
namespace Go.Proofs.YtnkjgkchjokgmaaGreatDoor.goodDiff
open Go.RowKit

set_option maxRecDepth 20000 in
set_option maxHeartbeats 8000000 in
theorem core (f t : Int) (va vu : Value) (A U : List (List UInt8 × Int × Int × List UInt8)) (w : World) (ha : RRow w va A) (hxa : Hid (∀ x ∈ A, x.1.length ≤ maxLen ∧ x.2.2.2.length ≤ maxLen)) (hu : RRow w vu U) (hxu : Hid (∀ x ∈ U, x.1.length ≤ maxLen ∧ x.2.2.2.length ≤ maxLen)) (hE : EnvR w)
    (HI0 : Hid (∀ g1 g2 W, EnvR W → Hid (∀ x ∈ A, x.1.length ≤ 1048576 ∧ x.2.2.2.length ≤ 1048576) → Hid (∀ x ∈ U, x.1.length ≤ 1048576 ∧ x.2.2.2.length ≤ 1048576) → QRow W g1 A → QRow W g2 U →
      Calls Tryz.prog 9 #[DifV f t (.slice (some ⟨g1, 0, none⟩) A.length A.length) (.slice (some ⟨g2, 0, none⟩) U.length U.length)] W fun e w' => e = .returned (.bool (difB f t A U)) ∧ Below W.heap.size W w')) :
    Calls Tryz.prog 3 #[DifV f t va vu] w fun e w' => e = .returned (.bool true) ∧ Below w.heap.size w w' := by
  obtain ⟨aa, ca, hva, _, hca, _⟩ := id ha
  obtain ⟨au, cu, hvu, _, hcu, _⟩ := id hu
  have HRA : Hid (∀ W, Below w.heap.size w W → RRow W va A) := fun W hW => ha.kept hW
  have HRU : Hid (∀ W, Below w.heap.size w W → RRow W vu U) := fun W hW => hu.kept hW
  have HSZ : Hid (∀ W, Below w.heap.size w W → Calls Tryz.prog 6 #[DifV f t va vu, .int .i64 1048576] W fun e w' => (∃ q : Int, e = .returned (.int .i64 q) ∧ (q = -1 ∨ (0 ≤ q ∧ q = 1048576 - (A.length : Int) - (wtR A : Int) - (U.length : Int) - (wtR U : Int)))) ∧ Below W.heap.size W w') := fun W hW => szDiff_any f t va vu A U 1048576 W (ha.kept hW) (hu.kept hW) hxa hxu (by omega) (by omega)
  have HTO : Hid (A.length ≤ 1048576 → U.length ≤ 1048576 → ∀ W, Below w.heap.size w W → Calls Tryz.prog 8 #[DifV f t va vu] W fun e w' => (∃ g1 g2, e = .returned (DifV f t (.slice (some ⟨g1, 0, none⟩) A.length A.length) (.slice (some ⟨g2, 0, none⟩) U.length U.length)) ∧ W.heap.size ≤ g1 ∧ g1 < g2 ∧ QRow w' g1 A ∧ QRow w' g2 U) ∧ Below W.heap.size W w') := fun h1 h2 W hW => toDiff_any f t va vu A U W (ha.kept hW) (hu.kept hW) h1 h2
  subst hva
  subst hvu
  clear ha hu
  unfold DifV at HSZ HTO ⊢
  go_enter Tryz.func3, Tryz.ntmps3
  go_wp2_with fail
  refine (HSZ.out _ ((Below.refl w.heap.size w).alloc (Nat.le_refl _) _)).mono ?_
  rintro e w1 ⟨⟨q, rfl, hq⟩, hb1⟩
  have hbw1 : Below w.heap.size w w1 := ((Below.refl w.heap.size w).alloc (Nat.le_refl _) _).trans (hb1.mono (by simp))
  have HP1 : Hid (w1.heap[w.heap.size]? = some (.cells #[.int .i64 f, .int .i64 t, .slice aa A.length ca, .slice au U.length cu] 24)) := (hb1.block w.heap.size (by simp)).trans (blk_new _ _)
  have hz1 : w.heap.size < w1.heap.size := Nat.lt_of_lt_of_le (by simp) hb1.size
  clear hb1
  rcases hq with rfl | ⟨hq0, hqe⟩
  · go_wp2_with fail
    go_ret
    exact ⟨rfl, hbw1⟩
  · obtain ⟨hA, hU, hA2, hU2⟩ := sz_dif hq0 hqe
    have HA2 : Hid (∀ x ∈ A, x.1.length ≤ 1048576 ∧ x.2.2.2.length ≤ 1048576) := hA2
    have HU2 : Hid (∀ x ∈ U, x.1.length ≤ 1048576 ∧ x.2.2.2.length ≤ 1048576) := hU2
    have HT : Hid (∀ W, Below w.heap.size w W → Calls Tryz.prog 8 #[.agg #[.int .i64 f, .int .i64 t, .slice aa A.length ca, .slice au U.length cu]] W fun e w' => (∃ g1 g2, e = .returned (.agg #[.int .i64 f, .int .i64 t, .slice (some ⟨g1, 0, none⟩) A.length A.length, .slice (some ⟨g2, 0, none⟩) U.length U.length]) ∧ W.heap.size ≤ g1 ∧ g1 < g2 ∧ QRow w' g1 A ∧ QRow w' g2 U) ∧ Below W.heap.size W w') := HTO.out hA hU
    have HSP : Hid (∀ g1 g2 W, QRow W g1 A → QRow W g2 U → Calls Tryz.prog 7 #[DifV f t (.slice (some ⟨g1, 0, none⟩) A.length A.length) (.slice (some ⟨g2, 0, none⟩) U.length U.length)] W fun e w' => e = .returned (.bool (difB f t A U)) ∧ Below W.heap.size W w') := fun g1 g2 W h1 h2 => sGoodDiff_any f t _ _ A U W (h1.row (Nat.le_refl _) (by unfold maxLen; omega)) (h2.row (Nat.le_refl _) (by unfold maxLen; omega)) HA2 HU2
    have HI : Hid (∀ g1 g2 W, EnvR W → QRow W g1 A → QRow W g2 U → Calls Tryz.prog 9 #[DifV f t (.slice (some ⟨g1, 0, none⟩) A.length A.length) (.slice (some ⟨g2, 0, none⟩) U.length U.length)] W fun e w' => e = .returned (.bool (difB f t A U)) ∧ Below W.heap.size W w') := fun g1 g2 W hW h1 h2 => HI0.out g1 g2 W hW HA2 HU2 h1 h2
    have HEQ : Hid (∀ g1 g2 g3 g4 W, QRow W g1 A → QRow W g2 U → QRow W g3 A → QRow W g4 U → Calls Tryz.prog 10 #[DifV f t (.slice (some ⟨g1, 0, none⟩) A.length A.length) (.slice (some ⟨g2, 0, none⟩) U.length U.length), DifV f t (.slice (some ⟨g3, 0, none⟩) A.length A.length) (.slice (some ⟨g4, 0, none⟩) U.length U.length)] W fun e w' => e = .returned (.bool true) ∧ Below W.heap.size W w') := fun g1 g2 g3 g4 W h1 h2 h3 h4 => eqDiff_same f t _ _ _ _ A U W (h1.row (Nat.le_refl _) (by unfold maxLen; omega)) (h2.row (Nat.le_refl _) (by unfold maxLen; omega)) (h3.row (Nat.le_refl _) (by unfold maxLen; omega)) (h4.row (Nat.le_refl _) (by unfold maxLen; omega))
    obtain ⟨ok, hok⟩ : ∃ ok, ok = difB f t A U := ⟨_, rfl⟩
    rw [← hok] at HSP HI
    have e2 : (ok != ok) = false := by simp
    unfold DifV at HSP HI HEQ
    obtain ⟨p0, p1, p2, p3⟩ := dif4 HP1.out
    clear hok hqe hA2 hU2 HTO HI0 HSZ
    go_wp2_with fail
    refine (HT.out _ hbw1).mono ?_
    rintro e w2 ⟨⟨g1, g2, rfl, hg1, hg12, hqa, hqu⟩, hb2⟩
    clear p0 p1 p2 p3
    have hbw2 : Below w.heap.size w w2 := hbw1.trans (hb2.mono hbw1.size)
    have HP2 : Hid (w2.heap[w.heap.size]? = some (.cells #[.int .i64 f, .int .i64 t, .slice aa A.length ca, .slice au U.length cu] 24)) := (hb2.block w.heap.size hz1).trans HP1.out
    have hz2 : w.heap.size < w2.heap.size := Nat.lt_of_lt_of_le hz1 hb2.size
    have HQA : Hid (QRow w2 g1 A) := hqa
    have HQU : Hid (QRow w2 g2 U) := hqu
    clear hqa hqu hg1 hg12 hb2 HP1 hbw1
    go_wp2_with fail
    refine (HSP.out g1 g2 _ HQA.out HQU.out).mono ?_
    rintro e w3 ⟨rfl, hb3⟩
    have hbw3 : Below w.heap.size w w3 := hbw2.trans (hb3.mono hbw2.size)
    have HP3 : Hid (w3.heap[w.heap.size]? = some (.cells #[.int .i64 f, .int .i64 t, .slice aa A.length ca, .slice au U.length cu] 24)) := (hb3.block w.heap.size hz2).trans HP2.out
    have hz3 : w.heap.size < w3.heap.size := Nat.lt_of_lt_of_le hz2 hb3.size
    obtain ⟨p0, p1, p2, p3⟩ := dif4 HP3.out
    clear HQA HQU hb3 HP2 hbw2
    go_wp2_with fail
    refine (HT.out _ hbw3).mono ?_
    rintro e w4 ⟨⟨g3, g4, rfl, hg3, hg34, hqa, hqu⟩, hb4⟩
    clear p0 p1 p2 p3
    have hbw4 : Below w.heap.size w w4 := hbw3.trans (hb4.mono hbw3.size)
    have HP4 : Hid (w4.heap[w.heap.size]? = some (.cells #[.int .i64 f, .int .i64 t, .slice aa A.length ca, .slice au U.length cu] 24)) := (hb4.block w.heap.size hz3).trans HP3.out
    have hz4 : w.heap.size < w4.heap.size := Nat.lt_of_lt_of_le hz3 hb4.size
    have HQA : Hid (QRow w4 g3 A) := hqa
    have HQU : Hid (QRow w4 g4 U) := hqu
    clear hqa hqu hg3 hg34 hb4 HP3 hbw3
    go_wp2_with fail
    refine (HI.out g3 g4 _ (hE.below (hbw4.alloc hbw4.size _)) (HQA.out.kept ((Below.refl w4.heap.size w4).alloc (Nat.le_refl _) _)) (HQU.out.kept ((Below.refl w4.heap.size w4).alloc (Nat.le_refl _) _))).mono ?_
    rintro e w5 ⟨rfl, hb5⟩
    have hb45 : Below w4.heap.size w4 w5 := ((Below.refl w4.heap.size w4).alloc (Nat.le_refl _) _).trans (hb5.mono (by simp))
    have hbw5 : Below w.heap.size w w5 := hbw4.trans (hb45.mono hbw4.size)
    have hz5 : w.heap.size < w5.heap.size := Nat.lt_of_lt_of_le hz4 hb45.size
    have hz45 : w4.heap.size < w5.heap.size := Nat.lt_of_lt_of_le (by simp) hb5.size
    have HC : Hid (∀ W, Below w5.heap.size w5 W → (W.cell? ⟨w.heap.size, 0, none⟩ = some (.int .i64 f) ∧ W.cell? ⟨w.heap.size, 1, none⟩ = some (.int .i64 t) ∧ W.cell? ⟨w.heap.size, 2, none⟩ = some (.slice aa A.length ca) ∧ W.cell? ⟨w.heap.size, 3, none⟩ = some (.slice au U.length cu)) ∧
        (W.cell? ⟨w4.heap.size, 0, none⟩ = some (.int .i64 f) ∧ W.cell? ⟨w4.heap.size, 1, none⟩ = some (.int .i64 t) ∧ W.cell? ⟨w4.heap.size, 2, none⟩ = some (.slice (some ⟨g3, 0, none⟩) A.length A.length) ∧ W.cell? ⟨w4.heap.size, 3, none⟩ = some (.slice (some ⟨g4, 0, none⟩) U.length U.length)) ∧ Below w5.heap.size w5 W) := fun W hW =>
      ⟨dif4 ((hW.block w.heap.size hz5).trans ((hb45.block w.heap.size hz4).trans HP4.out)), dif4 ((hW.block w4.heap.size hz45).trans ((hb5.block w4.heap.size (by simp)).trans (blk_new _ _))), hW⟩
    have HT5 : Hid (∀ W, Below w5.heap.size w5 W → Calls Tryz.prog 8 #[.agg #[.int .i64 f, .int .i64 t, .slice aa A.length ca, .slice au U.length cu]] W fun e w' => (∃ g1 g2, e = .returned (.agg #[.int .i64 f, .int .i64 t, .slice (some ⟨g1, 0, none⟩) A.length A.length, .slice (some ⟨g2, 0, none⟩) U.length U.length]) ∧ W.heap.size ≤ g1 ∧ g1 < g2 ∧ QRow w' g1 A ∧ QRow w' g2 U) ∧ Below W.heap.size W w') := fun W hW => HT.out W (hbw5.trans (hW.mono hbw5.size))
    have HEQ5 : Hid (∀ g1 g2 W, Below w5.heap.size w5 W → QRow W g1 A → QRow W g2 U → Calls Tryz.prog 10 #[.agg #[.int .i64 f, .int .i64 t, .slice (some ⟨g3, 0, none⟩) A.length A.length, .slice (some ⟨g4, 0, none⟩) U.length U.length], .agg #[.int .i64 f, .int .i64 t, .slice (some ⟨g1, 0, none⟩) A.length A.length, .slice (some ⟨g2, 0, none⟩) U.length U.length]] W fun e w' => e = .returned (.bool true) ∧ Below W.heap.size W w') := fun g1 g2 W hW h1 h2 => HEQ.out g3 g4 g1 g2 W ((HQA.out.kept hb45).kept hW) ((HQU.out.kept hb45).kept hW) h1 h2
    have HTR : Hid (∀ W W', Below w5.heap.size w5 W → Below W.heap.size W W' → Below w5.heap.size w5 W') := fun W W' h1 h2 => h1.trans (h2.mono h1.size)
    have hbz : Below w5.heap.size w5 w5 := Below.refl _ _
    have hbd : Below w5.heap.size w5 w5.drew := (Below.refl _ _).drew
    clear hb5 hb45 hbw4 HP4 HQA HQU HT HI HSP HEQ
    go_wp2_with fail
    go_region_held3 (fun W => (W.cell? ⟨w.heap.size, 0, none⟩ = some (.int .i64 f) ∧ W.cell? ⟨w.heap.size, 1, none⟩ = some (.int .i64 t) ∧ W.cell? ⟨w.heap.size, 2, none⟩ = some (.slice aa A.length ca) ∧ W.cell? ⟨w.heap.size, 3, none⟩ = some (.slice au U.length cu)) ∧
        (W.cell? ⟨w4.heap.size, 0, none⟩ = some (.int .i64 f) ∧ W.cell? ⟨w4.heap.size, 1, none⟩ = some (.int .i64 t) ∧ W.cell? ⟨w4.heap.size, 2, none⟩ = some (.slice (some ⟨g3, 0, none⟩) A.length A.length) ∧ W.cell? ⟨w4.heap.size, 3, none⟩ = some (.slice (some ⟨g4, 0, none⟩) U.length U.length)) ∧ Below w5.heap.size w5 W) (first | exact HC.out _ (by assumption) | exact HC.out _ (Below.drew (by assumption)))
      (first
      | (go_at_call 8; refine (HT5.out _ (by assumption)).mono ?_; rintro e w6 ⟨⟨g5, g6, rfl, _, _, hqa6, hqu6⟩, hb6⟩; have hb56 := HTR.out _ _ (by assumption) hb6)
      | (go_at_call 10; refine (HEQ5.out _ _ _ (by assumption) (by assumption) (by assumption)).mono ?_; rintro e w7 ⟨rfl, hb7⟩; have hb57 := HTR.out _ _ (by assumption) hb7))
    have hbw7 := hbw5.trans (hb57.mono hbw5.size)
    go_wp2_with fail
    go_ret
    exact ⟨rfl, hbw7⟩

theorem walk (f t : Int) (va vu : Value) (A U : List (List UInt8 × Int × Int × List UInt8)) (w : World) (ha : RRow w va A) (hxa : Hid (∀ x ∈ A, x.1.length ≤ maxLen ∧ x.2.2.2.length ≤ maxLen)) (hu : RRow w vu U) (hxu : Hid (∀ x ∈ U, x.1.length ≤ maxLen ∧ x.2.2.2.length ≤ maxLen)) (hE : EnvR w) :
    Calls Tryz.prog 3 #[DifV f t va vu] w fun e w' => e = .returned (.bool true) ∧ Below w.heap.size w w' := by
  have la : A.length ≤ maxLen := by obtain ⟨_, cap, _, h1, h2, _⟩ := ha; omega
  have lu : U.length ≤ maxLen := by obtain ⟨_, cap, _, h1, h2, _⟩ := hu; omega
  exact core f t va vu A U w ha hxa hu hxu hE (fun g1 g2 W hW h1 h2 q1 q2 => iGoodDiff_any f t _ _ A U W (q1.row (Nat.le_refl _) la) (q2.row (Nat.le_refl _) lu) h1 h2 hW)
end Go.Proofs.YtnkjgkchjokgmaaGreatDoor.goodDiff
