import Derived.Test.YtebiigdhdmbboaaPkT
import Derived.Deep.RegionHeld3
namespace Go.Proofs.Ytebiigdhdmbboaa.goodTurn
open Go.RowKit

set_option maxRecDepth 20000 in
set_option maxHeartbeats 8000000 in
theorem core (va vu : Value) (A U : List Int) (w : World) (ha : ZRow .i64 w va A) (hu : ZRow .i64 w vu U)
    (HI0 : Hid (∀ g1 g2 W, A.length ≤ 1048576 → U.length ≤ 1048576 → ZSRow W g1 A → ZSRow W g2 U →
      Calls Try.prog 18 #[TrnV (.slice (some ⟨g1, 0, none⟩) A.length A.length) (.slice (some ⟨g2, 0, none⟩) U.length U.length)] W fun e w' => e = .returned (.bool (goodT A U)) ∧ Below W.heap.size W w')) :
    Calls Try.prog 4 #[TrnV va vu] w fun e w' => e = .returned (.bool true) ∧ Below w.heap.size w w' := by
  obtain ⟨aa, ca, hva, _, hca, _⟩ := id ha
  obtain ⟨au, cu, hvu, _, hcu, _⟩ := id hu
  have HRA : Hid (∀ W, Below w.heap.size w W → ZRow .i64 W va A) := fun W hW => ha.kept hW
  have HRU : Hid (∀ W, Below w.heap.size w W → ZRow .i64 W vu U) := fun W hW => hu.kept hW
  have HSZ : Hid (∀ W, Below w.heap.size w W → Calls Try.prog 15 #[TrnV va vu, .int .i64 1048576] W fun e w' => (∃ q : Int, e = .returned (.int .i64 q) ∧ (q = -1 ∨ (0 ≤ q ∧ q = 1048576 - (A.length : Int) - (U.length : Int)))) ∧ Below W.heap.size W w') := fun W hW => szTurn_any va vu A U W (ha.kept hW) (hu.kept hW)
  have HTO : Hid (A.length ≤ 1048576 → U.length ≤ 1048576 → ∀ W, Below w.heap.size w W → Calls Try.prog 17 #[TrnV va vu] W fun e w' => (∃ g1 g2, e = .returned (TrnV (.slice (some ⟨g1, 0, none⟩) A.length A.length) (.slice (some ⟨g2, 0, none⟩) U.length U.length)) ∧ W.heap.size ≤ g1 ∧ g1 < g2 ∧ ZSRow w' g1 A ∧ ZSRow w' g2 U) ∧ Below W.heap.size W w') := fun h1 h2 W hW => toTurn_any va vu A U W (ha.kept hW) (hu.kept hW) h1 h2
  subst hva
  subst hvu
  clear ha hu
  unfold TrnV at HSZ HTO ⊢
  go_enter Try.func4, Try.ntmps4
  go_wp2_with fail
  refine (HSZ.out _ ((Below.refl w.heap.size w).alloc (Nat.le_refl _) _)).mono ?_
  rintro e w1 ⟨⟨q, rfl, hq⟩, hb1⟩
  have hbw1 : Below w.heap.size w w1 := ((Below.refl w.heap.size w).alloc (Nat.le_refl _) _).trans (hb1.mono (by simp))
  have HP1 : Hid (w1.heap[w.heap.size]? = some (.cells #[.slice aa A.length ca, .slice au U.length cu] 33)) := (hb1.block w.heap.size (by simp)).trans (trn_new _ _)
  have hz1 : w.heap.size < w1.heap.size := Nat.lt_of_lt_of_le (by simp) hb1.size
  clear hb1
  rcases hq with rfl | ⟨hq0, hqe⟩
  · go_wp2_with fail
    go_ret
    exact ⟨rfl, hbw1⟩
  · have hA : A.length ≤ 1048576 := by omega
    have hU : U.length ≤ 1048576 := by omega
    have HT : Hid (∀ W, Below w.heap.size w W → Calls Try.prog 17 #[.agg #[.slice aa A.length ca, .slice au U.length cu]] W fun e w' => (∃ g1 g2, e = .returned (.agg #[.slice (some ⟨g1, 0, none⟩) A.length A.length, .slice (some ⟨g2, 0, none⟩) U.length U.length]) ∧ W.heap.size ≤ g1 ∧ g1 < g2 ∧ ZSRow w' g1 A ∧ ZSRow w' g2 U) ∧ Below W.heap.size W w') := HTO.out hA hU
    have HSP : Hid (∀ g1 g2 W, ZSRow W g1 A → ZSRow W g2 U → Calls Try.prog 16 #[TrnV (.slice (some ⟨g1, 0, none⟩) A.length A.length) (.slice (some ⟨g2, 0, none⟩) U.length U.length)] W fun e w' => e = .returned (.bool (goodT A U)) ∧ Below W.heap.size W w') := fun g1 g2 W h1 h2 => sGoodTurn_any _ _ A U W (h1.row hA) (h2.row hU) hA
    have HI : Hid (∀ g1 g2 W, ZSRow W g1 A → ZSRow W g2 U → Calls Try.prog 18 #[TrnV (.slice (some ⟨g1, 0, none⟩) A.length A.length) (.slice (some ⟨g2, 0, none⟩) U.length U.length)] W fun e w' => e = .returned (.bool (goodT A U)) ∧ Below W.heap.size W w') := fun g1 g2 W h1 h2 => HI0.out g1 g2 W hA hU h1 h2
    have HEQ : Hid (∀ g1 g2 g3 g4 W, ZSRow W g1 A → ZSRow W g2 U → ZSRow W g3 A → ZSRow W g4 U → Calls Try.prog 10 #[TrnV (.slice (some ⟨g1, 0, none⟩) A.length A.length) (.slice (some ⟨g2, 0, none⟩) U.length U.length), TrnV (.slice (some ⟨g3, 0, none⟩) A.length A.length) (.slice (some ⟨g4, 0, none⟩) U.length U.length)] W fun e w' => e = .returned (.bool true) ∧ Below W.heap.size W w') := fun g1 g2 g3 g4 W h1 h2 h3 h4 => eqTurn_same _ _ _ _ A U W (h1.row hA) (h2.row hU) (h3.row hA) (h4.row hU)
    obtain ⟨ok, hok⟩ : ∃ ok, ok = goodT A U := ⟨_, rfl⟩
    rw [← hok] at HSP HI
    have e2 : (ok != ok) = false := by simp
    unfold TrnV at HSP HI HEQ
    obtain ⟨p0, p1⟩ := (trn_cells HP1.out).1
    clear hok hqe HTO HI0 HSZ
    go_wp2_with fail
    refine (HT.out _ hbw1).mono ?_
    rintro e w2 ⟨⟨g1, g2, rfl, hg1, hg12, hqa, hqu⟩, hb2⟩
    clear p0 p1
    have hbw2 : Below w.heap.size w w2 := hbw1.trans (hb2.mono hbw1.size)
    have HP2 : Hid (w2.heap[w.heap.size]? = some (.cells #[.slice aa A.length ca, .slice au U.length cu] 33)) := (hb2.block w.heap.size hz1).trans HP1.out
    have hz2 : w.heap.size < w2.heap.size := Nat.lt_of_lt_of_le hz1 hb2.size
    have HQA : Hid (ZSRow w2 g1 A) := hqa
    have HQU : Hid (ZSRow w2 g2 U) := hqu
    clear hqa hqu hg1 hg12 hb2 HP1 hbw1
    go_wp2_with fail
    refine (HSP.out g1 g2 _ HQA.out HQU.out).mono ?_
    rintro e w3 ⟨rfl, hb3⟩
    have hbw3 : Below w.heap.size w w3 := hbw2.trans (hb3.mono hbw2.size)
    have HP3 : Hid (w3.heap[w.heap.size]? = some (.cells #[.slice aa A.length ca, .slice au U.length cu] 33)) := (hb3.block w.heap.size hz2).trans HP2.out
    have hz3 : w.heap.size < w3.heap.size := Nat.lt_of_lt_of_le hz2 hb3.size
    obtain ⟨p0, p1⟩ := (trn_cells HP3.out).1
    clear HQA HQU hb3 HP2 hbw2
    go_wp2_with fail
    refine (HT.out _ hbw3).mono ?_
    rintro e w4 ⟨⟨g3, g4, rfl, hg3, hg34, hqa, hqu⟩, hb4⟩
    clear p0 p1
    have hbw4 : Below w.heap.size w w4 := hbw3.trans (hb4.mono hbw3.size)
    have HP4 : Hid (w4.heap[w.heap.size]? = some (.cells #[.slice aa A.length ca, .slice au U.length cu] 33)) := (hb4.block w.heap.size hz3).trans HP3.out
    have hz4 : w.heap.size < w4.heap.size := Nat.lt_of_lt_of_le hz3 hb4.size
    have HQA : Hid (ZSRow w4 g3 A) := hqa
    have HQU : Hid (ZSRow w4 g4 U) := hqu
    clear hqa hqu hg3 hg34 hb4 HP3 hbw3
    go_wp2_with fail
    refine (HI.out g3 g4 _ (HQA.out.kept ((Below.refl w4.heap.size w4).alloc (Nat.le_refl _) _)) (HQU.out.kept ((Below.refl w4.heap.size w4).alloc (Nat.le_refl _) _))).mono ?_
    rintro e w5 ⟨rfl, hb5⟩
    have hb45 : Below w4.heap.size w4 w5 := ((Below.refl w4.heap.size w4).alloc (Nat.le_refl _) _).trans (hb5.mono (by simp))
    have hbw5 : Below w.heap.size w w5 := hbw4.trans (hb45.mono hbw4.size)
    have hz5 : w.heap.size < w5.heap.size := Nat.lt_of_lt_of_le hz4 hb45.size
    have hz45 : w4.heap.size < w5.heap.size := Nat.lt_of_lt_of_le (by simp) hb5.size
    have HC : Hid (∀ W, Below w5.heap.size w5 W → (W.cell? ⟨w.heap.size, 0, none⟩ = some (.slice aa A.length ca) ∧ W.cell? ⟨w.heap.size, 1, none⟩ = some (.slice au U.length cu)) ∧
        (W.cell? ⟨w4.heap.size, 0, none⟩ = some (.slice (some ⟨g3, 0, none⟩) A.length A.length) ∧ W.cell? ⟨w4.heap.size, 1, none⟩ = some (.slice (some ⟨g4, 0, none⟩) U.length U.length)) ∧ Below w5.heap.size w5 W) := fun W hW =>
      ⟨(trn_cells ((hW.block w.heap.size hz5).trans ((hb45.block w.heap.size hz4).trans HP4.out))).1, (trn_cells ((hW.block w4.heap.size hz45).trans ((hb5.block w4.heap.size (by simp)).trans (trn_new _ _)))).1, hW⟩
    have HT5 : Hid (∀ W, Below w5.heap.size w5 W → Calls Try.prog 17 #[.agg #[.slice aa A.length ca, .slice au U.length cu]] W fun e w' => (∃ g1 g2, e = .returned (.agg #[.slice (some ⟨g1, 0, none⟩) A.length A.length, .slice (some ⟨g2, 0, none⟩) U.length U.length]) ∧ W.heap.size ≤ g1 ∧ g1 < g2 ∧ ZSRow w' g1 A ∧ ZSRow w' g2 U) ∧ Below W.heap.size W w') := fun W hW => HT.out W (hbw5.trans (hW.mono hbw5.size))
    have HEQ5 : Hid (∀ g1 g2 W, Below w5.heap.size w5 W → ZSRow W g1 A → ZSRow W g2 U → Calls Try.prog 10 #[.agg #[.slice (some ⟨g3, 0, none⟩) A.length A.length, .slice (some ⟨g4, 0, none⟩) U.length U.length], .agg #[.slice (some ⟨g1, 0, none⟩) A.length A.length, .slice (some ⟨g2, 0, none⟩) U.length U.length]] W fun e w' => e = .returned (.bool true) ∧ Below W.heap.size W w') := fun g1 g2 W hW h1 h2 => HEQ.out g3 g4 g1 g2 W ((HQA.out.kept hb45).kept hW) ((HQU.out.kept hb45).kept hW) h1 h2
    have HTR : Hid (∀ W W', Below w5.heap.size w5 W → Below W.heap.size W W' → Below w5.heap.size w5 W') := fun W W' h1 h2 => h1.trans (h2.mono h1.size)
    have hbz : Below w5.heap.size w5 w5 := Below.refl _ _
    have hbd : Below w5.heap.size w5 w5.drew := (Below.refl _ _).drew
    clear hb5 hb45 hbw4 HP4 HQA HQU HT HI HSP HEQ
    go_wp2_with fail
    go_region_held3 (fun W => (W.cell? ⟨w.heap.size, 0, none⟩ = some (.slice aa A.length ca) ∧ W.cell? ⟨w.heap.size, 1, none⟩ = some (.slice au U.length cu)) ∧
        (W.cell? ⟨w4.heap.size, 0, none⟩ = some (.slice (some ⟨g3, 0, none⟩) A.length A.length) ∧ W.cell? ⟨w4.heap.size, 1, none⟩ = some (.slice (some ⟨g4, 0, none⟩) U.length U.length)) ∧ Below w5.heap.size w5 W) (first | exact HC.out _ (by assumption) | exact HC.out _ (Below.drew (by assumption)))
      (first
      | (go_at_call 17; refine (HT5.out _ (by assumption)).mono ?_; rintro e w6 ⟨⟨g5, g6, rfl, _, _, hqa6, hqu6⟩, hb6⟩; have hb56 := HTR.out _ _ (by assumption) hb6)
      | (go_at_call 10; refine (HEQ5.out _ _ _ (by assumption) (by assumption) (by assumption)).mono ?_; rintro e w7 ⟨rfl, hb7⟩; have hb57 := HTR.out _ _ (by assumption) hb7))
    have hbw7 := hbw5.trans (hb57.mono hbw5.size)
    go_wp2_with fail
    go_ret
    exact ⟨rfl, hbw7⟩

theorem walk (va vu : Value) (A U : List Int) (w : World) (ha : ZRow .i64 w va A) (hu : ZRow .i64 w vu U) :
    Calls Try.prog 4 #[TrnV va vu] w fun e w' => e = .returned (.bool true) ∧ Below w.heap.size w w' :=
  core va vu A U w ha hu (fun _ _ W h1 h2 q1 q2 => iGoodTurn_any _ _ A U W (q1.row h1) (q2.row h2))
end Go.Proofs.Ytebiigdhdmbboaa.goodTurn
