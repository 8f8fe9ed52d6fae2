import Derived.Test.YtbgkocjpenkijaaGreatDoorSMsgP
import Derived.Test.YtbgkocjpenkijaaGreatDoorRNum
import Derived.Test.YtbgkocjpenkijaaGreatDoorQMsg
namespace Go.Proofs.YtbgkocjpenkijaaGreatDoor.questionFor
open Go.RowKit

set_option maxRecDepth 20000 in
set_option maxHeartbeats 4000000 in
theorem core (mi0 : Int) (nm0 : ByteArray) (ty0 : Int) (ok : Bool) (mi : Int) (reply cutm : Bool) (code : Int) (nm : ByteArray) (ty : Int) (A U : List (List UInt8 × Int × Int × List UInt8)) (w : World) (hs0 : nm0.size ≤ 1048576) (hE : EnvR w) (hA : A.length ≤ 1048576) (hU : U.length ≤ 1048576)
    (HS : Hid (∀ W, Calls Tryz.prog 26 #[.int .i64 mi0, .string nm0, .int .i64 ty0] W fun e w' => MRes w' ok mi reply cutm code nm ty A U e ∧ Below W.heap.size W w'))
    (HI : Hid (∀ W, EnvR W → Calls Tryz.prog 27 #[.int .i64 mi0, .string nm0, .int .i64 ty0] W fun e w' => MOwn w' W.heap.size ok mi reply cutm code nm ty A U e ∧ Below W.heap.size W w')) :
    Calls Tryz.prog 8 #[.int .i64 mi0, .string nm0, .int .i64 ty0] w fun e w' => e = .returned (.bool true) ∧ Below w.heap.size w w' := by
  have g : ¬ (1048576 : Int) < (nm0.size : Int) := by omega
  have e2 : (ok != ok) = false := by simp
  have HMK : Hid (∀ va vu base W, OwnQ W base va A → OwnQ W base vu U → (∀ g, va.ownBlock = some g → vu.ownBlock ≠ some g) → Calls Tryz.prog 24 #[MsgV mi reply cutm code nm ty va vu, .int .i64 1] W fun e w' => e = .returned (.int .i64 (1 + 4 * (A.length : Int) + 4 * (U.length : Int))) ∧ OwnQ w' base va (mrks 1 A.length) ∧ OwnQ w' base vu (mrks (1 + 4 * A.length) U.length) ∧ Kpt W w' (fun k => va.ownBlock = some k ∨ vu.ownBlock = some k)) := fun va vu base W h1 h2 h3 => markMessage_any mi reply cutm code nm ty va vu A U base 1 W h1 h2 h3 hA hU (by omega) (by omega)
  have HHD : Hid (∀ va vu base W, OwnQ W base va (mrks 1 A.length) → OwnQ W base vu (mrks (1 + 4 * A.length) U.length) → Calls Tryz.prog 25 #[MsgV mi reply cutm code nm ty va vu, .int .i64 1] W fun e w' => e = .returned (.int .i64 (1 + 4 * (A.length : Int) + 4 * (U.length : Int))) ∧ Below W.heap.size W w') := fun va vu base W h1 h2 => heldMessage_any mi reply cutm code nm ty va vu A.length U.length 1 W h1.row h2.row hA hU (by omega) (by omega)
  obtain ⟨q, hq⟩ : ∃ q : Int, q = 1 + 4 * (A.length : Int) + 4 * (U.length : Int) := ⟨_, rfl⟩
  rw [← hq] at HMK HHD
  have hq0 : decide (q < 0) = false := by simp; omega
  have hqq : (q != q) = false := by simp
  clear hq
  unfold MsgV at HMK HHD
  go_enter Tryz.func8, Tryz.ntmps8
  go_wp2_with fail
  refine (HS.out _).mono ?_
  rintro e w1 ⟨⟨va1, vu1, rfl, hra, hru⟩, hb1⟩
  obtain ⟨aa1, ca1, hva1, _, hca1, _⟩ := id hra
  obtain ⟨au1, cu1, hvu1, _, hcu1, _⟩ := id hru
  have HRA : Hid (∀ W, Below w1.heap.size w1 W → RRow W va1 A) := fun W hW => hra.kept hW
  have HRU : Hid (∀ W, Below w1.heap.size w1 W → RRow W vu1 U) := fun W hW => hru.kept hW
  subst hva1
  subst hvu1
  clear hra hru
  unfold MsgV
  go_wp2_with fail
  refine (HI.out _ (hE.below (hb1.trans (((Below.refl w1.heap.size w1).alloc (Nat.le_refl _) _).mono hb1.size)))).mono ?_
  rintro e w2 ⟨⟨va2, vu2, rfl, hoa, hou, hap⟩, hb2⟩
  obtain ⟨aa2, ca2, hva2, hca2⟩ := hoa.shape
  obtain ⟨au2, cu2, hvu2, hcu2⟩ := hou.shape
  subst hva2
  subst hvu2
  unfold MsgV
  have hb12 : Below w1.heap.size w1 w2 := ((Below.refl w1.heap.size w1).alloc (Nat.le_refl _) _).trans (hb2.mono (by simp))
  have HW2 : Hid (w2.heap[w1.heap.size]? = some (.cells #[.int .i64 mi, .bool reply, .bool cutm, .int .i64 code, .string nm, .int .i64 ty, .slice aa1 A.length ca1, .slice au1 U.length cu1] 25)) := (hb2.block w1.heap.size (by simp)).trans (blk_new _ _)
  have hz2 : w1.heap.size < w2.heap.size := Nat.lt_of_lt_of_le (by simp) hb2.size
  have HOA : Hid (OwnQ w2 (w1.heap.size + 1) (.slice aa2 A.length ca2) A) := by
    have h : OwnQ w2 (w1.heap.size + 1) (.slice aa2 A.length ca2) A := by simpa using hoa
    exact h
  have HOU : Hid (OwnQ w2 (w1.heap.size + 1) (.slice au2 U.length cu2) U) := by
    have h : OwnQ w2 (w1.heap.size + 1) (.slice au2 U.length cu2) U := by simpa using hou
    exact h
  have HAP : Hid (∀ g, (Value.slice aa2 A.length ca2).ownBlock = some g → (Value.slice au2 U.length cu2).ownBlock ≠ some g) := hap
  obtain ⟨c0, c1, c2, c3, c4, c5, c6, c7⟩ := msg_cells HW2.out
  clear hoa hou hap hb2
  go_wp2_with fail
  refine (eqMessage_same mi reply cutm code nm ty _ _ _ _ A U _ (HOA.out.row.kept ((Below.refl w2.heap.size w2).alloc (Nat.le_refl _) _)) (HOU.out.row.kept ((Below.refl w2.heap.size w2).alloc (Nat.le_refl _) _)) (HRA.out _ (hb12.alloc hb12.size _)) (HRU.out _ (hb12.alloc hb12.size _))).mono ?_
  rintro e w3 ⟨rfl, hb3⟩
  clear c0 c1 c2 c3 c4 c5 c6 c7
  have hb23 : Below w2.heap.size w2 w3 := ((Below.refl w2.heap.size w2).alloc (Nat.le_refl _) _).trans (hb3.mono (by simp))
  have HW3 : Hid (w3.heap[w1.heap.size]? = some (.cells #[.int .i64 mi, .bool reply, .bool cutm, .int .i64 code, .string nm, .int .i64 ty, .slice aa1 A.length ca1, .slice au1 U.length cu1] 25)) := (hb23.block w1.heap.size hz2).trans HW2.out
  have HG3 : Hid (w3.heap[w2.heap.size]? = some (.cells #[.int .i64 mi, .bool reply, .bool cutm, .int .i64 code, .string nm, .int .i64 ty, .slice aa2 A.length ca2, .slice au2 U.length cu2] 25)) := (hb3.block w2.heap.size (by simp)).trans (blk_new _ _)
  have hz3 : w2.heap.size < w3.heap.size := Nat.lt_of_lt_of_le (by simp) hb3.size
  have hb13 : Below w1.heap.size w1 w3 := hb12.trans (hb23.mono hb12.size)
  obtain ⟨d0, d1, d2, d3, d4, d5, d6, d7⟩ := msg_cells HG3.out
  clear hb3 HW2
  go_wp2_with fail
  refine (HMK.out _ _ (w1.heap.size + 1) _ (HOA.out.kept hb23) (HOU.out.kept hb23) HAP.out).mono ?_
  rintro e w4 ⟨rfl, ho4, hu4, hk4⟩
  clear d0 d1 d2 d3 d4 d5 d6 d7
  have HLA : Hid (∀ k, (Value.slice aa2 A.length ca2).ownBlock = some k ∨ (Value.slice au2 U.length cu2).ownBlock = some k → w1.heap.size + 1 ≤ k ∧ k < w2.heap.size) := fun k h => by
    rcases h with h | h
    · exact HOA.out.lt k h
    · exact HOU.out.lt k h
  have HW4 : Hid (w4.heap[w1.heap.size]? = some (.cells #[.int .i64 mi, .bool reply, .bool cutm, .int .i64 code, .string nm, .int .i64 ty, .slice aa1 A.length ca1, .slice au1 U.length cu1] 25)) := (hk4.block w1.heap.size (by omega) (fun h => by have h1 := HLA.out _ h; omega)).trans HW3.out
  have HG4 : Hid (w4.heap[w2.heap.size]? = some (.cells #[.int .i64 mi, .bool reply, .bool cutm, .int .i64 code, .string nm, .int .i64 ty, .slice aa2 A.length ca2, .slice au2 U.length cu2] 25)) := (hk4.block w2.heap.size (by omega) (fun h => by have h1 := HLA.out _ h; omega)).trans HG3.out
  have hb14 : Below w1.heap.size w1 w4 := hb13.trans (hk4.below hb13.size (fun k hk h => by have h1 := HLA.out _ h; omega))
  have hz4 : w3.heap.size ≤ w4.heap.size := hk4.size
  have HO4 : Hid (OwnQ w4 (w1.heap.size + 1) (.slice aa2 A.length ca2) (mrks 1 A.length)) := ho4
  have HU4 : Hid (OwnQ w4 (w1.heap.size + 1) (.slice au2 U.length cu2) (mrks (1 + 4 * A.length) U.length)) := hu4
  obtain ⟨d0, d1, d2, d3, d4, d5, d6, d7⟩ := msg_cells HG4.out
  clear ho4 hu4 hk4 HW3 HG3 hb13 hb23 HLA
  go_wp2_with fail
  refine (HHD.out _ _ _ _ HO4.out HU4.out).mono ?_
  rintro e w5 ⟨rfl, hb5⟩
  clear d0 d1 d2 d3 d4 d5 d6 d7
  have hb15 : Below w1.heap.size w1 w5 := hb14.trans (hb5.mono hb14.size)
  have hbw5 : Below w.heap.size w w5 := hb1.trans (hb15.mono hb1.size)
  have HW5 : Hid (w5.heap[w1.heap.size]? = some (.cells #[.int .i64 mi, .bool reply, .bool cutm, .int .i64 code, .string nm, .int .i64 ty, .slice aa1 A.length ca1, .slice au1 U.length cu1] 25)) := (hb5.block w1.heap.size (by omega)).trans HW4.out
  have HG5 : Hid (w5.heap[w2.heap.size]? = some (.cells #[.int .i64 mi, .bool reply, .bool cutm, .int .i64 code, .string nm, .int .i64 ty, .slice aa2 A.length ca2, .slice au2 U.length cu2] 25)) := (hb5.block w2.heap.size (by omega)).trans HG4.out
  have hz5 : w4.heap.size ≤ w5.heap.size := hb5.size
  have HO5 : Hid (OwnQ w5 (w1.heap.size + 1) (.slice aa2 A.length ca2) (mrks 1 A.length)) := HO4.out.kept hb5
  have HU5 : Hid (OwnQ w5 (w1.heap.size + 1) (.slice au2 U.length cu2) (mrks (1 + 4 * A.length) U.length)) := HU4.out.kept hb5
  have HE5 : Hid (EnvR w5) := hE.below hbw5
  clear hb5 HW4 HG4 HO4 HU4 hb14
  go_wp2_with fail
  refine (HI.out _ HE5.out).mono ?_
  rintro e w6 ⟨⟨va3, vu3, rfl, hoa3, hou3, _⟩, hb6⟩
  obtain ⟨aa3, ca3, hva3, hca3⟩ := hoa3.shape
  obtain ⟨au3, cu3, hvu3, hcu3⟩ := hou3.shape
  subst hva3
  subst hvu3
  unfold MsgV
  have HRA3 : Hid (RRow w6 (.slice aa3 A.length ca3) A) := hoa3.row
  have HRU3 : Hid (RRow w6 (.slice au3 U.length cu3) U) := hou3.row
  have hz6 : w5.heap.size ≤ w6.heap.size := hb6.size
  have hb16 : Below w1.heap.size w1 w6 := hb15.trans (hb6.mono hb15.size)
  have HW6 : Hid (w6.heap[w1.heap.size]? = some (.cells #[.int .i64 mi, .bool reply, .bool cutm, .int .i64 code, .string nm, .int .i64 ty, .slice aa1 A.length ca1, .slice au1 U.length cu1] 25)) := (hb6.block w1.heap.size (by omega)).trans HW5.out
  have HG6 : Hid (w6.heap[w2.heap.size]? = some (.cells #[.int .i64 mi, .bool reply, .bool cutm, .int .i64 code, .string nm, .int .i64 ty, .slice aa2 A.length ca2, .slice au2 U.length cu2] 25)) := (hb6.block w2.heap.size (by omega)).trans HG5.out
  have HO6 : Hid (OwnQ w6 (w1.heap.size + 1) (.slice aa2 A.length ca2) (mrks 1 A.length)) := HO5.out.kept hb6
  have HU6 : Hid (OwnQ w6 (w1.heap.size + 1) (.slice au2 U.length cu2) (mrks (1 + 4 * A.length) U.length)) := HU5.out.kept hb6
  obtain ⟨c0, c1, c2, c3, c4, c5, c6, c7⟩ := msg_cells HW6.out
  have hlt6 : w1.heap.size < w6.heap.size := by omega
  clear hoa3 hou3 hb6 hb15 hbw5 HO5 HU5 HW5 HG5
  go_wp2_with fail
  refine (eqMessage_same mi reply cutm code nm ty _ _ _ _ A U _ (HRA3.out.kept ((Below.refl w6.heap.size w6).alloc (Nat.le_refl _) _)) (HRU3.out.kept ((Below.refl w6.heap.size w6).alloc (Nat.le_refl _) _)) (HRA.out _ (hb16.alloc hb16.size _)) (HRU.out _ (hb16.alloc hb16.size _))).mono ?_
  rintro e w7 ⟨rfl, hb7⟩
  clear c0 c1 c2 c3 c4 c5 c6 c7
  have hb67 : Below w6.heap.size w6 w7 := ((Below.refl w6.heap.size w6).alloc (Nat.le_refl _) _).trans (hb7.mono (by simp))
  have HG7 : Hid (w7.heap[w2.heap.size]? = some (.cells #[.int .i64 mi, .bool reply, .bool cutm, .int .i64 code, .string nm, .int .i64 ty, .slice aa2 A.length ca2, .slice au2 U.length cu2] 25)) := (hb67.block w2.heap.size (by omega)).trans HG6.out
  have HO7 : Hid (OwnQ w7 (w1.heap.size + 1) (.slice aa2 A.length ca2) (mrks 1 A.length)) := HO6.out.kept hb67
  have HU7 : Hid (OwnQ w7 (w1.heap.size + 1) (.slice au2 U.length cu2) (mrks (1 + 4 * A.length) U.length)) := HU6.out.kept hb67
  have hb17 : Below w1.heap.size w1 w7 := hb16.trans (hb67.mono hb16.size)
  obtain ⟨d0, d1, d2, d3, d4, d5, d6, d7⟩ := msg_cells HG7.out
  clear hb7 hb67 hb16 HO6 HU6 HW6 HG6
  go_wp2_with fail
  refine (HHD.out _ _ _ _ HO7.out HU7.out).mono ?_
  rintro e w8 ⟨rfl, hb8⟩
  have hb18 : Below w1.heap.size w1 w8 := hb17.trans (hb8.mono hb17.size)
  have hbw8 : Below w.heap.size w w8 := hb1.trans (hb18.mono hb1.size)
  clear d0 d1 d2 d3 d4 d5 d6 d7 hb8 hb17
  go_wp2_with fail
  go_ret
  exact ⟨rfl, hbw8⟩

theorem szCases (nm0 : ByteArray) : nm0.size ≤ 1048576 ∨ (1048576 : Int) < (nm0.size : Int) := by omega
set_option maxRecDepth 20000 in
set_option maxHeartbeats 1000000 in
theorem walk (mi0 : Int) (nm0 : ByteArray) (ty0 : Int) (w : World) (_h1 : -9223372036854775808 ≤ mi0 ∧ mi0 ≤ 9223372036854775807) (hs0 : nm0.size ≤ maxLen) (_h3 : -9223372036854775808 ≤ ty0 ∧ ty0 ≤ 9223372036854775807) (hE : EnvR w) :
    Calls Tryz.prog 8 #[.int .i64 mi0, .string nm0, .int .i64 ty0] w fun e w' => e = .returned (.bool true) ∧ Below w.heap.size w w' := by
  rcases szCases nm0 with h | h
  · cases hB : msgB mi0 false false 0 nm0.data.toList ty0 [] [] with
    | false =>
      refine core mi0 nm0 ty0 false 0 false false 0 ⟨#[]⟩ 0 [] [] w h hE (by simp) (by simp) (fun W => ?_) (fun W hW => ?_)
      · refine (sQuestionFor_any mi0 nm0 ty0 W h).mono ?_
        rintro e w' ⟨rfl, hb⟩
        rw [hB]
        exact ⟨⟨_, _, rfl, rrow_nil _, rrow_nil _⟩, hb⟩
      · exact (iQuestionFor_any mi0 nm0 ty0 W h hW).mono (fun e w' h' => ⟨h'.1 hB, h'.2.2⟩)
    | true =>
      refine core mi0 nm0 ty0 true mi0 false false 0 nm0 ty0 [] [] w h hE (by simp) (by simp) (fun W => ?_) (fun W hW => ?_)
      · refine (sQuestionFor_any mi0 nm0 ty0 W h).mono ?_
        rintro e w' ⟨rfl, hb⟩
        rw [hB]
        exact ⟨⟨_, _, rfl, rrow_nil _, rrow_nil _⟩, hb⟩
      · exact (iQuestionFor_any mi0 nm0 ty0 W h hW).mono (fun e w' h' => ⟨h'.2.1 hB, h'.2.2⟩)
  · have hs := hs0
    unfold maxLen at hs
    go_enter Tryz.func8, Tryz.ntmps8
    go_wp2_with fail
    go_ret
    exact ⟨rfl, Below.refl _ _⟩
end Go.Proofs.YtbgkocjpenkijaaGreatDoor.questionFor
