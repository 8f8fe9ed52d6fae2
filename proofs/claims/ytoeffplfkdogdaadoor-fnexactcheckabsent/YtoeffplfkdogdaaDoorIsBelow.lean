import Derived.Test.YtoeffplfkdogdaaDoorSplit
namespace Go.Proofs.YtoeffplfkdogdaaDoor
open Go.RowKit

/-- Whether the one is the other, or ends with a dot and it, or the other is the root. -/
def belowB (a b : List UInt8) : Bool := b == [] || (a == b || Lib.hasSuffix a (46 :: b))

theorem suffix_iff {a b : List UInt8} (h : b.length < a.length) : Lib.hasSuffix a (46 :: b) = (a.drop (a.length - b.length) == b && a[a.length - b.length - 1]'(by omega) == 46) := by
  rw [← Lib.hasSuffix_of_drop, decide_eq_true (by simp; omega), Bool.true_and]
  have e : a.length - (46 :: b).length = a.length - b.length - 1 := by simp; omega
  rw [e, List.drop_eq_getElem_cons (by omega : a.length - b.length - 1 < a.length), show a.length - b.length - 1 + 1 = a.length - b.length by omega]
  rw [Bool.eq_iff_iff]
  simp only [beq_iff_eq, List.cons.injEq, Bool.and_eq_true]
  exact ⟨fun h => ⟨h.2, h.1⟩, fun h => ⟨h.2, h.1⟩⟩
theorem suffix_no {a b : List UInt8} (h : a.length ≤ b.length) : Lib.hasSuffix a (46 :: b) = false := by
  rw [← Lib.hasSuffix_of_drop, decide_eq_false (by simp; omega), Bool.false_and]

theorem byte_eq (c : UInt8) : ((c.toNat : Int) == 46) = (c == 46) := by
  rw [Bool.eq_iff_iff]; simp only [beq_iff_eq]
  exact ⟨fun h => UInt8.toNat_inj.1 (by show c.toNat = 46; omega), fun h => by rw [h]; rfl⟩
theorem toList_beq (a b : ByteArray) : (a.toList == b.toList) = (a.data.toList == b.data.toList) := by rw [ByteArray.toList_eq, ByteArray.toList_eq]

set_option maxRecDepth 20000 in
set_option maxHeartbeats 1000000 in
theorem l1Below_any (a b : ByteArray) (w : World) (ha : a.size ≤ 4294967280) (hb : b.size ≤ 4294967280) :
    Calls Tryd.prog 19 #[.string a, .string b] w fun e w' => e = .returned (.bool (belowB a.data.toList b.data.toList)) ∧ w' = w := by
  have la : a.data.toList.length = a.size := by simp
  have lb : b.data.toList.length = b.size := by simp
  by_cases h1 : b.data.toList = []
  · have HB : Hid (belowB a.data.toList b.data.toList = true) := by unfold belowB; rw [h1]; exact rfl
    have e1 : (b.toList == []) = true := by rw [ByteArray.toList_eq]; simpa using h1
    clear h1 la lb
    go_enter Tryd.func19, Tryd.ntmps19
    go_wp2_with fail
    go_ret
    exact ⟨ret_bool HB.out.symm, rfl⟩
  · have e1 : (b.toList == []) = false := by rw [ByteArray.toList_eq]; simpa using h1
    by_cases h2 : a.data.toList = b.data.toList
    · have HB : Hid (belowB a.data.toList b.data.toList = true) := by unfold belowB; rw [h2]; exact (show (b.data.toList == [] || (b.data.toList == b.data.toList || _)) = true by simp)
      have e2 : (a.toList == b.toList) = true := by rw [toList_beq]; simpa using h2
      clear h1 h2 la lb
      go_enter Tryd.func19, Tryd.ntmps19
      go_wp2_with fail
      go_ret
      exact ⟨ret_bool HB.out.symm, rfl⟩
    · have e2 : (a.toList == b.toList) = false := by rw [toList_beq]; simpa using h2
      have hbe : belowB a.data.toList b.data.toList = Lib.hasSuffix a.data.toList (46 :: b.data.toList) := by
        unfold belowB; rw [beq_eq_false_iff_ne.2 h1, beq_eq_false_iff_ne.2 h2]; rfl
      by_cases h3 : a.size ≤ b.size
      · have HB : Hid (belowB a.data.toList b.data.toList = false) := by rw [hbe, suffix_no (by omega)]; exact rfl
        have d3 : decide ((0 : Int) < (a.size : Int) - (b.size : Int)) = false := by simp; omega
        clear h1 h2 la lb hbe
        go_enter Tryd.func19, Tryd.ntmps19
        go_wp2_with fail
        go_ret
        exact ⟨ret_bool HB.out.symm, rfl⟩
      · have hs := suffix_iff (a := a.data.toList) (b := b.data.toList) (by omega)
        have hd : a.data.toList.length - b.data.toList.length = a.size - b.size := by omega
        have hlt : a.size - b.size - 1 < a.size := by omega
        have hgi : a.data.toList[a.data.toList.length - b.data.toList.length - 1]'(by omega) = a[a.size - b.size - 1] := by
          show _ = a.data.toList[a.size - b.size - 1]'(by simpa using hlt)
          congr 1
        rw [hgi, hd] at hs
        have he : (a.extract (a.size - b.size) a.size).data.toList = a.data.toList.drop (a.size - b.size) := by
          rw [Lib.extract_data, List.take_of_length_le (by simp)]
        have d3 : decide ((0 : Int) < (a.size : Int) - (b.size : Int)) = true := by simp; omega
        have x1 : ((a.extract (a.size - b.size) a.size).toList == b.toList) = (a.data.toList.drop (a.size - b.size) == b.data.toList) := by rw [toList_beq, he]
        have HB : Hid (belowB a.data.toList b.data.toList = (((a.extract (a.size - b.size) a.size).toList == b.toList) && a[a.size - b.size - 1] == 46)) := by rw [hbe, hs, x1]; exact rfl
        cases h4 : ((a.extract (a.size - b.size) a.size).toList == b.toList) with
        | true =>
          have HB2 : Hid (belowB a.data.toList b.data.toList = (a[a.size - b.size - 1] == 46)) := by rw [HB.out, h4, Bool.true_and]; exact rfl
          clear h1 h2 la lb hbe hs hd hgi he x1 HB
          go_enter Tryd.func19, Tryd.ntmps19
          go_wp2_with fail
          go_ret
          exact ⟨ret_bool (by rw [HB2.out]; exact byte_eq _), rfl⟩
        | false =>
          have HB2 : Hid (belowB a.data.toList b.data.toList = false) := by rw [HB.out, h4, Bool.false_and]; exact rfl
          clear h1 h2 la lb hbe hs hd hgi he x1 HB
          go_enter Tryd.func19, Tryd.ntmps19
          go_wp2_with fail
          go_ret
          exact ⟨ret_bool HB2.out.symm, rfl⟩

set_option maxRecDepth 20000 in
set_option maxHeartbeats 400000 in
theorem liesBelow_any (a b : ByteArray) (w : World) (ha : a.size ≤ 4294967280) (hb : b.size ≤ 4294967280) :
    Calls Tryd.prog 25 #[.string a, .string b] w fun e w' => e = .returned (.bool (belowB a.data.toList b.data.toList)) ∧ w' = w := by
  by_cases h4 : a.data.toList = b.data.toList
  · have HB : Hid (belowB a.data.toList b.data.toList = true) := by unfold belowB; rw [h4]; exact (show (b.data.toList == [] || (b.data.toList == b.data.toList || _)) = true by simp)
    have e2 : (a.toList == b.toList) = true := by rw [toList_beq]; simpa using h4
    clear h4
    go_enter Tryd.func25, Tryd.ntmps25
    go_wp2_with fail
    go_ret
    exact ⟨ret_bool HB.out.symm, rfl⟩
  · have e2 : (a.toList == b.toList) = false := by rw [toList_beq]; simpa using h4
    by_cases h5 : b.data.toList = []
    · have HB : Hid (belowB a.data.toList b.data.toList = true) := by unfold belowB; rw [h5]; exact rfl
      have e1 : (b.toList == []) = true := by rw [ByteArray.toList_eq]; simpa using h5
      clear h4 h5
      go_enter Tryd.func25, Tryd.ntmps25
      go_wp2_with fail
      go_ret
      exact ⟨ret_bool HB.out.symm, rfl⟩
    · have HB : Hid (belowB a.data.toList b.data.toList = Lib.hasSuffix a.data.toList (46 :: b.data.toList)) := by unfold belowB; rw [beq_eq_false_iff_ne.2 h5, beq_eq_false_iff_ne.2 h4]; exact rfl
      have e1 : (b.toList == []) = false := by rw [ByteArray.toList_eq]; simpa using h5
      clear h4 h5
      go_enter Tryd.func25, Tryd.ntmps25
      go_wp2_with fail
      refine (Tryd.strings_HasSuffix _ _ w (by omega)).mono ?_
      rintro e w3 ⟨rfl, rfl⟩
      go_wp2_with fail
      go_ret
      exact ⟨ret_bool HB.out.symm, rfl⟩

/-- What IsBelow tells. -/
def belowT (a b : List UInt8) : Bool := (nameB a && nameB b) && belowB a b
def bothB (a b : List UInt8) : Bool := nameB a && nameB b

end Go.Proofs.YtoeffplfkdogdaaDoor
