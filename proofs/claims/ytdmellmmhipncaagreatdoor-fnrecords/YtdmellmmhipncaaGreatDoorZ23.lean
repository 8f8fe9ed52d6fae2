import Derived.Test.YtdmellmmhipncaaGreatDoorZ13
import Derived.Test.YtdmellmmhipncaaGreatDoorZ22
namespace Go.Proofs.YtdmellmmhipncaaGreatDoor
open Go.RowKit

/-- The name that bytes are, empty where they are none. -/
def nameP (b : List UInt8) : List UInt8 := if b = [] then [] else match takeN b 0 with
  | none => []
  | some (nm, e, _) => if e = b.length then nm else []

set_option maxRecDepth 20000 in
set_option maxHeartbeats 1000000 in
theorem l3Name_any (s : ByteArray) (w : World) (hs : s.size ≤ 600) :
    Calls Tryz.prog 37 #[.string s] w fun e w' => e = .returned (.string ⟨(nameP s.data.toList).toArray⟩) ∧ Below w.heap.size w w' := by
  by_cases h0 : s.size = 0
  · have hl : s.data.toList = [] := List.length_eq_zero_iff.1 (by rw [data_len]; exact h0)
    have HN : Hid (nameP s.data.toList = []) := if_pos hl
    have e0 : ((s.size : Int) == 0) = true := by rw [h0]; rfl
    clear hl h0
    go_enter Tryz.func37, Tryz.ntmps37
    go_wp2_with fail
    go_ret
    exact ⟨congrArg Ending.returned (val_strM HN.out.symm), Below.refl _ _⟩
  · have hl : ¬ s.data.toList = [] := fun h => h0 (by rw [← data_len, h]; rfl)
    have e0 : ((s.size : Int) == 0) = false := by rw [beq_eq_false_iff_ne]; omega
    have HNP : Hid (nameP s.data.toList = match takeN s.data.toList 0 with
      | none => []
      | some (nm, e, _) => if e = s.data.toList.length then nm else []) := if_neg hl
    clear hl h0
    go_enter Tryz.func37, Tryz.ntmps37
    go_wp2_with fail
    refine (l2Take_any s 0 w (by omega) (by omega)).mono ?_
    rintro e w1 ⟨hn, hsm, hb⟩
    cases hT : takeN s.data.toList 0 with
    | none =>
      obtain ⟨x, k, v, rfl⟩ := hn hT
      have HN : Hid (nameP s.data.toList = []) := by rw [HNP.out, hT]; exact rfl
      clear hn hsm hT HNP
      go_wp2_with fail
      go_ret
      exact ⟨congrArg Ending.returned (val_strM HN.out.symm), hb⟩
    | some q =>
      obtain ⟨nm, en, pl⟩ := q
      obtain ⟨v, rfl, _⟩ := hsm nm en pl hT
      by_cases he : en = s.size
      · have HN : Hid (nameP s.data.toList = nm) := by rw [HNP.out, hT]; exact if_pos (by rw [data_len]; exact he)
        have e1 : ((en : Int) != (s.size : Int)) = false := by rw [he]; simp
        clear hn hsm hT HNP he
        go_wp2_with fail
        go_ret
        exact ⟨congrArg Ending.returned (val_strM HN.out.symm), hb⟩
      · have HN : Hid (nameP s.data.toList = []) := by rw [HNP.out, hT]; exact if_neg (by rw [data_len]; exact he)
        have e1 : ((en : Int) != (s.size : Int)) = true := by simp; omega
        clear hn hsm hT HNP he
        go_wp2_with fail
        go_ret
        exact ⟨congrArg Ending.returned (val_strM HN.out.symm), hb⟩

/-- The data that bytes may be of. -/
def candP (k : Int) (b : List UInt8) : List UInt8 :=
  if k = 1 then joinD (b.map (fun c => numL c.toNat)) else if k = 2 ∨ k = 5 then nameP b else if k = 6 then (if b.length = 4 then numL (rdN b) else [])
  else if k = 15 then (if 2 < b.length then numL (rdN (b.take 2)) ++ (32 :: nameP (b.drop 2)) else []) else if k = 16 then b.drop 1 else []
def readR (k : Int) (b : List UInt8) : Option (List UInt8) := if b.length ≤ 600 ∧ dataP k (candP k b) = some b then some (candP k b) else none
def readVal (R : Option (List UInt8)) : Ending := .returned (.tuple #[.string ⟨(R.getD []).toArray⟩, .bool R.isSome])
theorem put_noneR {R : Option (List UInt8)} (h : R = none) : Ending.returned (.tuple #[.string ⟨#[]⟩, .bool false]) = readVal R := by rw [h]; rfl
theorem put_someR {R : Option (List UInt8)} {x : ByteArray} {y : List UInt8} (h : R = some y) (hx : x.data.toList = y) : Ending.returned (.tuple #[.string x, .bool true]) = readVal R := by
  rw [h]; unfold readVal; rw [data_eq hx]; rfl
theorem read_yes {k : Int} {b z : List UInt8} (hb : b.length ≤ 600) (hz : candP k b = z) (h : dataP k z = some b) : readR k b = some z := by
  unfold readR; rw [hz]; exact if_pos ⟨hb, h⟩
theorem read_no {k : Int} {b z : List UInt8} (hz : candP k b = z) (h : dataP k z ≠ some b) : readR k b = none := by
  unfold readR; rw [hz]; exact if_neg (fun hc => h hc.2)
theorem nameP_length (b : List UInt8) : (nameP b).length ≤ 60 := by
  unfold nameP
  split
  · simp
  · split
    · simp
    · rename_i nm e pl h
      split
      · unfold takeN at h
        cases hr : takeR b 0 with
        | none => rw [hr] at h; cases h
        | some q =>
          obtain ⟨R, e', q'⟩ := q
          rw [hr] at h
          unfold nmR at h
          simp only at h
          split at h
          · rename_i hn
            simp only [Option.some.injEq, Prod.mk.injEq] at h
            rw [← h.1]
            unfold nameOfB nameB at hn
            simp only [Bool.and_eq_true, decide_eq_true_eq] at hn
            exact hn.2.2.1
          · cases h
      · simp

set_option maxRecDepth 20000 in
set_option maxHeartbeats 1000000 in
theorem readN2 (s : ByteArray) (w : World) (hs : s.size ≤ 600) :
    Calls Tryz.prog 14 #[.int .i64 2, .string s] w fun e w' => e = readVal (readR 2 s.data.toList) ∧ Below w.heap.size w w' := by
  have hbl : s.data.toList.length ≤ 600 := by rw [data_len]; exact hs
  have hc : candP 2 s.data.toList = nameP s.data.toList := by unfold candP; rw [if_neg (by omega), if_pos (by omega)]
  have hzl := nameP_length s.data.toList
  obtain ⟨z, hz⟩ : ∃ z, z = nameP s.data.toList := ⟨_, rfl⟩
  rw [← hz] at hc hzl
  have HZ : Hid (nameP s.data.toList = z) := hz.symm
  have HYES : Hid (dataP 2 z = some s.data.toList → readR 2 s.data.toList = some z) := fun h => read_yes hbl hc h
  have HNO : Hid (dataP 2 z ≠ some s.data.toList → readR 2 s.data.toList = none) := fun h => read_no hc h
  have hzs : (⟨z.toArray⟩ : ByteArray).size ≤ 1048576 := by rw [size_list]; omega
  clear hc hz hbl
  go_enter Tryz.func14, Tryz.ntmps14
  go_wp2_with fail
  refine (l3Name_any s w hs).mono ?_
  rintro e w1 ⟨rfl, hb1⟩
  rw [HZ.out]
  go_wp2_with fail
  refine (l3Bytes_any 2 ⟨z.toArray⟩ _ hzs).mono ?_
  rintro e w9 ⟨⟨x, rfl, hx⟩, hb9⟩
  rw [show (⟨z.toArray⟩ : ByteArray).data.toList = z from rfl] at hx ⊢
  have hbq := hb1.trans (hb9.mono hb1.size)
  cases hD : dataP 2 z with
  | none =>
    have HR : Hid (readR 2 s.data.toList = none) := HNO.out (by rw [hD]; simp)
    clear hD hx
    go_wp2_with fail
    go_ret2
    exact ⟨put_noneR HR.out, hbq⟩
  | some y =>
    obtain rfl := hx y hD
    by_cases hyb : y = s.data.toList
    · have HR : Hid (readR 2 s.data.toList = some z) := HYES.out (by rw [hD, hyb])
      rw [show (⟨y.toArray⟩ : ByteArray) = s from data_eq hyb]
      have e9 : (s.toList != s.toList) = false := by simp
      clear hD hx hyb
      go_wp2_with fail
      go_ret2
      exact ⟨put_someR HR.out rfl, hbq⟩
    · have HR : Hid (readR 2 s.data.toList = none) := HNO.out (by rw [hD]; exact fun h => hyb (Option.some.inj h))
      have e5 : (y == s.toList) = false := by rw [ByteArray.toList_eq]; simpa using hyb
      clear hD hx hyb
      go_wp2_with fail
      go_ret2
      exact ⟨put_noneR HR.out, hbq⟩

set_option maxRecDepth 20000 in
set_option maxHeartbeats 1000000 in
theorem readN5 (s : ByteArray) (w : World) (hs : s.size ≤ 600) :
    Calls Tryz.prog 14 #[.int .i64 5, .string s] w fun e w' => e = readVal (readR 5 s.data.toList) ∧ Below w.heap.size w w' := by
  have hbl : s.data.toList.length ≤ 600 := by rw [data_len]; exact hs
  have hc : candP 5 s.data.toList = nameP s.data.toList := by unfold candP; rw [if_neg (by omega), if_pos (by omega)]
  have hzl := nameP_length s.data.toList
  obtain ⟨z, hz⟩ : ∃ z, z = nameP s.data.toList := ⟨_, rfl⟩
  rw [← hz] at hc hzl
  have HZ : Hid (nameP s.data.toList = z) := hz.symm
  have HYES : Hid (dataP 5 z = some s.data.toList → readR 5 s.data.toList = some z) := fun h => read_yes hbl hc h
  have HNO : Hid (dataP 5 z ≠ some s.data.toList → readR 5 s.data.toList = none) := fun h => read_no hc h
  have hzs : (⟨z.toArray⟩ : ByteArray).size ≤ 1048576 := by rw [size_list]; omega
  clear hc hz hbl
  go_enter Tryz.func14, Tryz.ntmps14
  go_wp2_with fail
  refine (l3Name_any s w hs).mono ?_
  rintro e w1 ⟨rfl, hb1⟩
  rw [HZ.out]
  go_wp2_with fail
  refine (l3Bytes_any 5 ⟨z.toArray⟩ _ hzs).mono ?_
  rintro e w9 ⟨⟨x, rfl, hx⟩, hb9⟩
  rw [show (⟨z.toArray⟩ : ByteArray).data.toList = z from rfl] at hx ⊢
  have hbq := hb1.trans (hb9.mono hb1.size)
  cases hD : dataP 5 z with
  | none =>
    have HR : Hid (readR 5 s.data.toList = none) := HNO.out (by rw [hD]; simp)
    clear hD hx
    go_wp2_with fail
    go_ret2
    exact ⟨put_noneR HR.out, hbq⟩
  | some y =>
    obtain rfl := hx y hD
    by_cases hyb : y = s.data.toList
    · have HR : Hid (readR 5 s.data.toList = some z) := HYES.out (by rw [hD, hyb])
      rw [show (⟨y.toArray⟩ : ByteArray) = s from data_eq hyb]
      have e9 : (s.toList != s.toList) = false := by simp
      clear hD hx hyb
      go_wp2_with fail
      go_ret2
      exact ⟨put_someR HR.out rfl, hbq⟩
    · have HR : Hid (readR 5 s.data.toList = none) := HNO.out (by rw [hD]; exact fun h => hyb (Option.some.inj h))
      have e5 : (y == s.toList) = false := by rw [ByteArray.toList_eq]; simpa using hyb
      clear hD hx hyb
      go_wp2_with fail
      go_ret2
      exact ⟨put_noneR HR.out, hbq⟩

set_option maxRecDepth 20000 in
set_option maxHeartbeats 1000000 in
theorem readT16 (s : ByteArray) (w : World) (hs : s.size ≤ 600) :
    Calls Tryz.prog 14 #[.int .i64 16, .string s] w fun e w' => e = readVal (readR 16 s.data.toList) ∧ Below w.heap.size w w' := by
  have hbl : s.data.toList.length ≤ 600 := by rw [data_len]; exact hs
  have hc : candP 16 s.data.toList = s.data.toList.drop 1 := by unfold candP; rw [if_neg (by omega), if_neg (by omega), if_neg (by omega), if_neg (by omega), if_pos rfl]
  have hzl : (s.data.toList.drop 1).length ≤ 600 := by rw [List.length_drop]; omega
  obtain ⟨z, hz⟩ : ∃ z, z = s.data.toList.drop 1 := ⟨_, rfl⟩
  rw [← hz] at hc hzl
  have HYES : Hid (dataP 16 z = some s.data.toList → readR 16 s.data.toList = some z) := fun h => read_yes hbl hc h
  have HNO : Hid (dataP 16 z ≠ some s.data.toList → readR 16 s.data.toList = none) := fun h => read_no hc h
  have hzs : (⟨z.toArray⟩ : ByteArray).size ≤ 1048576 := by rw [size_list]; omega
  by_cases h0 : 0 < s.size
  · have hx1 : s.extract 1 s.size = ⟨z.toArray⟩ := data_eq (by rw [Lib.extract_data, hz, List.take_of_length_le (by rw [List.length_drop, data_len]; omega)])
    have HX1 : Hid (s.extract 1 s.size = ⟨z.toArray⟩) := hx1
    clear hc hz hbl hx1
    go_enter Tryz.func14, Tryz.ntmps14
    go_wp2_with fail
    rw [HX1.out]
    refine (l3Bytes_any 16 ⟨z.toArray⟩ _ hzs).mono ?_
    rintro e w9 ⟨⟨x, rfl, hx⟩, hb9⟩
    rw [show (⟨z.toArray⟩ : ByteArray).data.toList = z from rfl] at hx ⊢
    have hbq := hb9
    cases hD : dataP 16 z with
    | none =>
      have HR : Hid (readR 16 s.data.toList = none) := HNO.out (by rw [hD]; simp)
      clear hD hx
      go_wp2_with fail
      go_ret2
      exact ⟨put_noneR HR.out, hbq⟩
    | some y =>
      obtain rfl := hx y hD
      by_cases hyb : y = s.data.toList
      · have HR : Hid (readR 16 s.data.toList = some z) := HYES.out (by rw [hD, hyb])
        rw [show (⟨y.toArray⟩ : ByteArray) = s from data_eq hyb]
        have e9 : (s.toList != s.toList) = false := by simp
        clear hD hx hyb
        go_wp2_with fail
        go_ret2
        exact ⟨put_someR HR.out rfl, hbq⟩
      · have HR : Hid (readR 16 s.data.toList = none) := HNO.out (by rw [hD]; exact fun h => hyb (Option.some.inj h))
        have e5 : (y == s.toList) = false := by rw [ByteArray.toList_eq]; simpa using hyb
        clear hD hx hyb
        go_wp2_with fail
        go_ret2
        exact ⟨put_noneR HR.out, hbq⟩
  · obtain rfl : s = ⟨#[]⟩ := data_eq (List.length_eq_zero_iff.1 (by rw [data_len]; omega))
    obtain rfl : z = [] := by rw [hz]; rfl
    clear hc hz hbl
    go_enter Tryz.func14, Tryz.ntmps14
    go_wp2_with fail
    have HR : Hid (readR 16 (⟨#[]⟩ : ByteArray).data.toList = none) := HNO.out (by decide)
    refine (l3Bytes_any 16 ⟨#[]⟩ _ (by decide)).mono ?_
    rintro e w9 ⟨⟨x, rfl, hx⟩, hb9⟩
    obtain ⟨y, hy, hyn⟩ : ∃ y, dataP 16 (⟨#[]⟩ : ByteArray).data.toList = some y ∧ y = [0] := ⟨_, rfl, rfl⟩
    obtain rfl := hx y hy
    subst hyn
    rw [hy]
    clear hx hy
    go_wp2_with fail
    go_ret2
    exact ⟨put_noneR HR.out, hb9⟩

set_option maxRecDepth 20000 in
set_option maxHeartbeats 1000000 in
theorem readS6 (s : ByteArray) (w : World) (hs : s.size ≤ 600) :
    Calls Tryz.prog 14 #[.int .i64 6, .string s] w fun e w' => e = readVal (readR 6 s.data.toList) ∧ Below w.heap.size w w' := by
  have hbl : s.data.toList.length ≤ 600 := by rw [data_len]; exact hs
  have hc0 : candP 6 s.data.toList = if s.data.toList.length = 4 then numL (rdN s.data.toList) else [] := by unfold candP; rw [if_neg (by omega), if_neg (by omega), if_pos rfl]
  by_cases h4 : s.size = 4
  · have hc1 : candP 6 s.data.toList = numL (rdN s.data.toList) := by rw [hc0]; exact if_pos (by rw [data_len]; exact h4)
    have hr4 := rdN_lt s.data.toList 4 (by rw [data_len]; omega)
    rw [List.take_of_length_le (by rw [data_len]; omega)] at hr4
    have hr5 : rdN s.data.toList < 4294967296 := hr4
    have hzl := numL_length 10 (rdN s.data.toList) (by omega)
    obtain ⟨z, hz⟩ : ∃ z, z = numL (rdN s.data.toList) := ⟨_, rfl⟩
    have hc : candP 6 s.data.toList = z := by rw [hc1, hz]
    rw [← hz] at hzl
    have HYES : Hid (dataP 6 z = some s.data.toList → readR 6 s.data.toList = some z) := fun h => read_yes hbl hc h
    have HNO : Hid (dataP 6 z ≠ some s.data.toList → readR 6 s.data.toList = none) := fun h => read_no hc h
    have hzs : (⟨z.toArray⟩ : ByteArray).size ≤ 1048576 := by rw [size_list]; omega
    have HZ : Hid (numL (rdN s.data.toList) = z) := hz.symm
    have e4 : ((s.size : Int) == 4) = true := by rw [h4]; rfl
    clear hc hc0 hc1 hz hbl hr4
    go_enter Tryz.func14, Tryz.ntmps14
    go_wp2_with fail
    refine (l3Read_any s w (by omega)).mono ?_
    rintro e w1 ⟨rfl, rfl⟩
    go_wp2_with fail
    refine (l1Num_any _ _ _ (Nat.le_refl _) (by omega)).mono ?_
    rintro e w2 ⟨rfl, hb1⟩
    rw [HZ.out]
    go_wp2_with fail
    refine (l3Bytes_any 6 ⟨z.toArray⟩ _ hzs).mono ?_
    rintro e w9 ⟨⟨x, rfl, hx⟩, hb9⟩
    rw [show (⟨z.toArray⟩ : ByteArray).data.toList = z from rfl] at hx ⊢
    have hbq := hb1.trans (hb9.mono hb1.size)
    cases hD : dataP 6 z with
    | none =>
      have HR : Hid (readR 6 s.data.toList = none) := HNO.out (by rw [hD]; simp)
      clear hD hx
      go_wp2_with fail
      go_ret2
      exact ⟨put_noneR HR.out, hbq⟩
    | some y =>
      obtain rfl := hx y hD
      by_cases hyb : y = s.data.toList
      · have HR : Hid (readR 6 s.data.toList = some z) := HYES.out (by rw [hD, hyb])
        rw [show (⟨y.toArray⟩ : ByteArray) = s from data_eq hyb]
        have e9 : (s.toList != s.toList) = false := by simp
        clear hD hx hyb
        go_wp2_with fail
        go_ret2
        exact ⟨put_someR HR.out rfl, hbq⟩
      · have HR : Hid (readR 6 s.data.toList = none) := HNO.out (by rw [hD]; exact fun h => hyb (Option.some.inj h))
        have e5 : (y == s.toList) = false := by rw [ByteArray.toList_eq]; simpa using hyb
        clear hD hx hyb
        go_wp2_with fail
        go_ret2
        exact ⟨put_noneR HR.out, hbq⟩
  · have hc : candP 6 s.data.toList = [] := by rw [hc0]; exact if_neg (by rw [data_len]; exact h4)
    have HR : Hid (readR 6 s.data.toList = none) := read_no hc (by rw [show dataP 6 [] = none from rfl]; simp)
    have e4 : ((s.size : Int) == 4) = false := by rw [beq_eq_false_iff_ne]; omega
    clear hc hc0 hbl h4
    go_enter Tryz.func14, Tryz.ntmps14
    go_wp2_with fail
    refine (l3Bytes_any 6 ⟨#[]⟩ _ (by decide)).mono ?_
    rintro e w9 ⟨⟨x, rfl, _⟩, hb9⟩
    rw [show dataP 6 (⟨#[]⟩ : ByteArray).data.toList = none from rfl]
    go_wp2_with fail
    go_ret2
    exact ⟨put_noneR HR.out, hb9⟩

set_option maxRecDepth 20000 in
set_option maxHeartbeats 1000000 in
theorem readO (k : Int) (s : ByteArray) (w : World) (hs : s.size ≤ 600) (h1 : (k == 1) = false) (h2 : (k == 2) = false) (h5 : (k == 5) = false) (h6 : (k == 6) = false) (h15 : (k == 15) = false) (h16 : (k == 16) = false) :
    Calls Tryz.prog 14 #[.int .i64 k, .string s] w fun e w' => e = readVal (readR k s.data.toList) ∧ Below w.heap.size w w' := by
  have q1 : k ≠ 1 := by simpa using h1
  have q2 : k ≠ 2 := by simpa using h2
  have q5 : k ≠ 5 := by simpa using h5
  have q6 : k ≠ 6 := by simpa using h6
  have q15 : k ≠ 15 := by simpa using h15
  have q16 : k ≠ 16 := by simpa using h16
  have hd : ∀ l, dataP k l = none := fun l => by unfold dataP; rw [if_neg q1, if_neg (by omega), if_neg q6, if_neg q15, if_neg q16]
  have HR : Hid (readR k s.data.toList = none) := read_no rfl (by rw [hd]; simp)
  have HD : Hid (dataP k (⟨#[]⟩ : ByteArray).data.toList = none) := hd _
  clear q1 q2 q5 q6 q15 q16 hd
  go_enter Tryz.func14, Tryz.ntmps14
  go_wp2_with fail
  refine (l3Bytes_any k ⟨#[]⟩ _ (by decide)).mono ?_
  rintro e w9 ⟨⟨x, rfl, _⟩, hb9⟩
  rw [HD.out]
  go_wp2_with fail
  go_ret2
  exact ⟨put_noneR HR.out, hb9⟩

set_option maxRecDepth 20000 in
set_option maxHeartbeats 1000000 in
theorem readBig (k : Int) (s : ByteArray) (w : World) (hs : (600 : Int) < (s.size : Int)) :
    Calls Tryz.prog 14 #[.int .i64 k, .string s] w fun e w' => e = readVal (readR k s.data.toList) ∧ Below w.heap.size w w' := by
  have HR : Hid (readR k s.data.toList = none) := if_neg (fun h => by have := h.1; rw [data_len] at this; omega)
  go_enter Tryz.func14, Tryz.ntmps14
  go_wp2_with fail
  go_ret2
  exact ⟨put_noneR HR.out, Below.refl _ _⟩

/-- Numbers with a dot between, so many of them. -/
def dots (b : List UInt8) (k : Nat) : List UInt8 := joinD ((b.take k).map (fun c => numL c.toNat))
theorem dots_step {b : List UInt8} {k : Nat} (h : k < b.length) : dots b (k + 1) = (if k = 0 then dots b k else dots b k ++ [46]) ++ numL b[k].toNat := by
  unfold dots
  have hm : k < (b.map (fun c => numL c.toNat)).length := by simpa using h
  have e : ∀ j, (b.take j).map (fun c => numL c.toNat) = (b.map (fun c => numL c.toNat)).take j := fun j => by rw [List.map_take]
  rw [e, e]
  by_cases h0 : k = 0
  · subst h0
    rw [if_pos rfl, show (0 + 1) = 1 from rfl, joinD_one _ hm]
    simp [joinD]
  · rw [if_neg h0, joinD_step _ k (by omega) hm]
    simp

set_option maxRecDepth 20000 in
set_option maxHeartbeats 1000000 in
theorem readA1 (s : ByteArray) (w : World) (hs : s.size ≤ 600) :
    Calls Tryz.prog 14 #[.int .i64 1, .string s] w fun e w' => e = readVal (readR 1 s.data.toList) ∧ Below w.heap.size w w' := by
  have hbl : s.data.toList.length ≤ 600 := by rw [data_len]; exact hs
  have hc1 : candP 1 s.data.toList = joinD (s.data.toList.map (fun c => numL c.toNat)) := by unfold candP; rw [if_pos rfl]
  have HNL : Hid (∀ c : UInt8, (numL c.toNat).length ≤ 3) := fun c => numL_length 2 c.toNat (by have := c.toNat_lt; omega)
  have HC : Hid (candP 1 s.data.toList = joinD (s.data.toList.map (fun c => numL c.toNat))) := hc1
  have HBL : Hid (s.data.toList.length ≤ 600) := hbl
  clear hc1 hbl
  go_enter Tryz.func14, Tryz.ntmps14
  go_wp2_with fail
  go_loopw [6, 7] (fun vs i wr => ∃ k : Nat, k ≤ s.size ∧ i = .int .i64 (k : Int) ∧ vs = .string ⟨(dots s.data.toList k).toArray⟩ ∧ (dots s.data.toList k).length ≤ 4 * k ∧ Below w.heap.size w wr) (fun _ i _ => s.size - (intOf i).toNat)
  case atStart => exact ⟨0, Nat.zero_le _, rfl, rfl, Nat.le_refl _, Below.refl _ _⟩
  case round =>
    obtain ⟨k, hk, rfl, rfl, hdl, hb⟩ := hrel
    by_cases hlt : k < s.size
    · have hkl : k < s.data.toList.length := by rw [data_len]; exact hlt
      have hc255 : s[k].toNat < 256 := s[k].toNat_lt
      have HST : Hid (dots s.data.toList (k + 1) = (if k = 0 then dots s.data.toList k else dots s.data.toList k ++ [46]) ++ numL s[k].toNat) := dots_step hkl
      have hnl := HNL.out s[k]
      obtain ⟨v, hv⟩ : ∃ v, v = dots s.data.toList k := ⟨_, rfl⟩
      rw [← hv] at hdl HST ⊢
      clear hv
      by_cases h0 : k = 0
      · subst h0
        rw [if_pos rfl] at HST
        go_wp2_with fail
        refine (l1Num_any _ _ _ (Nat.le_refl _) (by omega)).mono ?_
        rintro e w2 ⟨rfl, hb2⟩
        go_wp2_with fail
        go_roundw
        case rel => exact ⟨1, by omega, by go_num, val_strM (by rw [HST.out]; simp), by rw [HST.out, List.length_append]; omega, hb.trans (hb2.mono hb.size)⟩
        case measure => simp [intOf]; omega
      · rw [if_neg h0] at HST
        have hk0 : (0 : Int) < (k : Int) := by omega
        go_wp2_with fail
        refine (l1Num_any _ _ _ (Nat.le_refl _) (by omega)).mono ?_
        rintro e w2 ⟨rfl, hb2⟩
        go_wp2_with fail
        go_roundw
        case rel => exact ⟨k + 1, by omega, by go_num, val_strM (by rw [HST.out]; simp), by rw [HST.out, List.length_append, List.length_append]; simp only [List.length_cons, List.length_nil]; omega, hb.trans (hb2.mono hb.size)⟩
        case measure => simp [intOf]; omega
    · have hfull : dots s.data.toList k = joinD (s.data.toList.map (fun c => numL c.toNat)) := by unfold dots; rw [List.take_of_length_le (by rw [data_len]; omega)]
      obtain ⟨z, hz⟩ : ∃ z, z = dots s.data.toList k := ⟨_, rfl⟩
      have hc : candP 1 s.data.toList = z := by rw [HC.out, hz, hfull]
      have hbl := HBL.out
      have HYES : Hid (dataP 1 z = some s.data.toList → readR 1 s.data.toList = some z) := fun h => read_yes hbl hc h
      have HNO : Hid (dataP 1 z ≠ some s.data.toList → readR 1 s.data.toList = none) := fun h => read_no hc h
      rw [← hz] at hdl ⊢
      have hzs : (⟨z.toArray⟩ : ByteArray).size ≤ 1048576 := by rw [size_list]; omega
      clear hc hz hfull hbl
      go_wp2_with fail
      refine (l3Bytes_any 1 ⟨z.toArray⟩ _ hzs).mono ?_
      rintro e w9 ⟨⟨x, rfl, hx⟩, hb9⟩
      rw [show (⟨z.toArray⟩ : ByteArray).data.toList = z from rfl] at hx ⊢
      have hbq := hb.trans (hb9.mono hb.size)
      cases hD : dataP 1 z with
      | none =>
        have HR : Hid (readR 1 s.data.toList = none) := HNO.out (by rw [hD]; simp)
        clear hD hx
        go_wp2_with fail
        go_ret2
        exact ⟨put_noneR HR.out, hbq⟩
      | some y =>
        obtain rfl := hx y hD
        by_cases hyb : y = s.data.toList
        · have HR : Hid (readR 1 s.data.toList = some z) := HYES.out (by rw [hD, hyb])
          rw [show (⟨y.toArray⟩ : ByteArray) = s from data_eq hyb]
          have e9 : (s.toList != s.toList) = false := by simp
          clear hD hx hyb
          go_wp2_with fail
          go_ret2
          exact ⟨put_someR HR.out rfl, hbq⟩
        · have HR : Hid (readR 1 s.data.toList = none) := HNO.out (by rw [hD]; exact fun h => hyb (Option.some.inj h))
          have e5 : (y == s.toList) = false := by rw [ByteArray.toList_eq]; simpa using hyb
          clear hD hx hyb
          go_wp2_with fail
          go_ret2
          exact ⟨put_noneR HR.out, hbq⟩

end Go.Proofs.YtdmellmmhipncaaGreatDoor

namespace Go.Proofs.YtdmellmmhipncaaGreatDoor
open Go.RowKit

theorem cut_one_eq {c : UInt8} : ∀ {l a : List UInt8}, cut c l = [a] → l = a
  | [], a, h => by simp only [cut, List.cons.injEq, and_true] at h; exact h
  | d :: l, a, h => by
    by_cases hd : d = c
    · simp only [cut, hd, if_true, List.cons.injEq] at h
      exact absurd h.2 (cut_ne c l)
    · cases e : cut c l with
      | nil => exact absurd e (cut_ne c l)
      | cons p r =>
        simp only [cut, hd, if_false, e, List.cons.injEq] at h
        rw [h.2] at e
        rw [cut_one_eq e, h.1]
theorem cut_two_eq {c : UInt8} : ∀ {l a b : List UInt8}, cut c l = [a, b] → l = a ++ c :: b
  | [], a, b, h => by simp [cut] at h
  | d :: l, a, b, h => by
    by_cases hd : d = c
    · simp only [cut, hd, if_true, List.cons.injEq] at h
      rw [← h.1, cut_one_eq h.2, hd]; rfl
    · cases e : cut c l with
      | nil => exact absurd e (cut_ne c l)
      | cons p r =>
        simp only [cut, hd, if_false, e, List.cons.injEq] at h
        rw [h.2] at e
        rw [cut_two_eq e, ← h.1]; rfl

theorem rd_wire : ∀ (P : List (List UInt8)) (p : List UInt8) (n least : Nat) (raw : List (List UInt8)) (pl : List Nat), (∀ x ∈ P, x.length ≤ 20 ∧ 0 < x.length) → P.length < n →
    ∃ q, rd (p ++ wireL P) n p.length least none raw pl = some (raw ++ P, (p ++ wireL P).length, q)
  | [], p, n, least, raw, pl, _, hn => by
    obtain ⟨m, rfl⟩ : ∃ m, n = m + 1 := ⟨n - 1, by omega⟩
    refine ⟨pl, ?_⟩
    rw [rd_end (by simp [wireL]) (by simp [wireL])]
    simp [wireL]
  | x :: r, p, n, least, raw, pl, hx, hn => by
    obtain ⟨m, rfl⟩ : ∃ m, n = m + 1 := ⟨n - 1, by omega⟩
    obtain ⟨h20, h0⟩ := hx x (by simp)
    have hxn : (UInt8.ofNat x.length).toNat = x.length := by rw [UInt8.toNat_ofNat']; omega
    have hlt : p.length < (p ++ wireL (x :: r)).length := by simp [wireL]
    have hg : (p ++ wireL (x :: r))[p.length]'hlt = UInt8.ofNat x.length := by simp [wireL]
    have hgn : ((p ++ wireL (x :: r))[p.length]'hlt).toNat = x.length := by rw [hg, hxn]
    have hroom : p.length + ((p ++ wireL (x :: r))[p.length]'hlt).toNat < (p ++ wireL (x :: r)).length := by
      rw [hgn]; simp [wireL]; omega
    rw [rd_lab hlt (by omega) (by omega) hroom, hgn]
    have hlab : labAt (p ++ wireL (x :: r)) p.length x.length = x := by
      unfold labAt
      rw [show p.length + 1 + x.length = p.length + (1 + x.length) by omega, List.take_length_add_append, List.drop_length_add_append]
      simp [wireL, Nat.add_comm 1]
    have he : p ++ wireL (x :: r) = (p ++ (UInt8.ofNat x.length :: x)) ++ wireL r := by simp [wireL]
    have hlen : p.length + 1 + x.length = (p ++ (UInt8.ofNat x.length :: x)).length := by simp; omega
    obtain ⟨q, hq⟩ := rd_wire r (p ++ (UInt8.ofNat x.length :: x)) m least (raw ++ [x]) (if (none : Option Nat) = none then pl ++ [p.length] else pl) (fun y hy => hx y (by simp [hy])) (by simp at hn; omega)
    refine ⟨q, ?_⟩
    rw [hlab, he, hlen, hq]
    simp
theorem takeN_wire {nm p : List UInt8} (hn : nameB nm = true) : ∃ q, takeN (p ++ wireL (labelsOf nm)) p.length = some (nm, (p ++ wireL (labelsOf nm)).length, q) := by
  obtain ⟨h1, h2⟩ := name_labels hn
  obtain ⟨q, hq⟩ := rd_wire (labelsOf nm) p (p.length * 70002 + 70002) p.length [] [] h1 (by omega)
  refine ⟨q, ?_⟩
  have hall : (labelsOf nm).all labelB = true := by unfold nameB at hn; simp only [Bool.and_eq_true] at hn; exact hn.1
  have hf : (labelsOf nm).map foldL = labelsOf nm := by
    exact (List.map_congr_left (fun x hx => fold_label (List.all_eq_true.1 hall x hx))).trans (List.map_id' _)
  have hnb : nameOfB (labelsOf nm) = true := by unfold nameOfB; rw [hall, joinD_labels, hn]; rfl
  unfold takeN takeR
  rw [hq, List.nil_append]
  simp only [nmR]
  rw [hf, if_pos hnb, joinD_labels]
theorem wire_len {nm : List UInt8} (hn : nameB nm = true) : (wireL (labelsOf nm)).length ≤ 200 ∧ 0 < (wireL (labelsOf nm)).length := by
  obtain ⟨h1, h2⟩ := name_labels hn
  have h : ∀ P : List (List UInt8), (∀ x ∈ P, x.length ≤ 20 ∧ 0 < x.length) → (wireL P).length ≤ 21 * P.length + 1 ∧ 0 < (wireL P).length := by
    intro P
    induction P with
    | nil => intro _; simp [wireL]
    | cons x r ih =>
      intro hx
      have := ih (fun y hy => hx y (by simp [hy]))
      have hx1 := hx x (by simp)
      simp [wireL]; omega
  have := h _ h1
  omega
theorem nameP_wire {nm : List UInt8} (hn : nameB nm = true) : nameP (wireL (labelsOf nm)) = nm := by
  obtain ⟨q, hq⟩ := takeN_wire (p := []) hn
  rw [List.nil_append] at hq
  unfold nameP
  rw [if_neg (by intro e; have := (wire_len hn).2; rw [e] at this; simp at this), show (0 : Nat) = ([] : List UInt8).length from rfl, hq]
  simp
theorem rdN_app (l : List UInt8) (c : UInt8) : rdN (l ++ [c]) = rdN l * 256 + c.toNat := by unfold rdN; rw [List.foldl_append]; rfl
theorem rdN_beB : ∀ (k : Nat) (n : Nat), n < 256 ^ k → rdN (beB (n : Int) k) = n
  | 0, n, h => by have : n = 0 := by simpa using h
                  subst this; rfl
  | k + 1, n, h => by
    rw [beB, rdN_app, show ((n : Int) / 256) = ((n / 256 : Nat) : Int) by omega, rdN_beB k (n / 256) (by rw [Nat.pow_succ] at h; omega), UInt8.toNat_ofNat']
    omega
theorem targ_name {l : List UInt8} (h : targB l = true) : nameB l = true ∧ l ≠ [] := by
  unfold targB at h
  simp only [Bool.and_eq_true] at h
  refine ⟨h.1, fun e => ?_⟩
  rw [e] at h; simp at h
theorem map_numL {P : List (List UInt8)} (h : P.all (fun x => numIn x 255) = true) : (P.map (fun x => UInt8.ofNat (intV x).toNat)).map (fun c => numL c.toNat) = P := by
  rw [List.map_map]
  have : P.map ((fun c : UInt8 => numL c.toNat) ∘ fun x => UInt8.ofNat (intV x).toNat) = P.map id := by
    refine List.map_congr_left (fun x hx => ?_)
    have hx := List.all_eq_true.1 h x hx
    obtain ⟨_, h0, h1, _⟩ := num_atoi hx
    obtain ⟨n, e, _, hl⟩ := intV_nat h0
    show numL (UInt8.ofNat (intV x).toNat).toNat = x
    rw [e, Int.toNat_natCast, UInt8.toNat_ofNat', Nat.mod_eq_of_lt (by rw [e] at h1; omega)]
    exact hl.symm
  rw [this, List.map_id]
/-- The text that the program reads out of bytes of a type. -/
def candI (k : Int) (b : List UInt8) : Option (List UInt8) :=
  if k = 1 then (if b.length = 4 then some (joinD (b.map (fun c => numL c.toNat))) else none)
  else if k = 2 ∨ k = 5 then (tkI b 0).map (·.1)
  else if k = 6 then (if b.length = 4 then some (numL (rdN b)) else none)
  else if k = 15 then (tkI b 2).map (fun r => numL (rdN (b.take 2)) ++ (32 :: r.1))
  else if k = 16 then (if b = [] then none else some (b.drop 1)) else none
theorem tkI_wire {nm p : List UInt8} (hn : nameB nm = true) (hp : p.length ≤ 2) : ∃ q, tkI (p ++ wireL (labelsOf nm)) (p.length : Int) = some (nm, (p ++ wireL (labelsOf nm)).length, q) := by
  obtain ⟨q, hq⟩ := takeN_wire (p := p) hn
  have hw := wire_len hn
  refine ⟨q, ?_⟩
  unfold tkI
  rw [if_pos ⟨by rw [List.length_append]; omega, by omega, by rw [List.length_append]; omega⟩, Int.toNat_natCast, hq]
theorem beB_len2 {n : Int} (l : List UInt8) : (beB n 2 ++ l).take 2 = beB n 2 ∧ (beB n 2 ++ l).drop 2 = l := by
  have h := beB_length 2 n
  exact ⟨by rw [List.take_append_of_le_length (by omega), List.take_of_length_le (by omega)], by rw [List.drop_append_of_le_length (by omega), List.drop_eq_nil_of_le (by omega), List.nil_append]⟩
theorem rt_A {z b : List UInt8} (h : dataA z = some b) : b.length = 4 ∧ joinD (b.map (fun c => numL c.toNat)) = z := by
  unfold dataA at h
  split at h
  · rename_i hc
    have hb := (Option.some.inj h).symm
    refine ⟨by rw [hb, List.length_map]; exact hc.2, ?_⟩
    rw [hb, map_numL hc.1, joinD_cut]
  · cases h
theorem rt_N {z b : List UInt8} (h : dataN z = some b) : nameB z = true ∧ b = wireL (labelsOf z) := by
  unfold dataN at h
  split at h
  · rename_i hc; exact ⟨(targ_name hc).1, (Option.some.inj h).symm⟩
  · cases h
theorem rt_S {z b : List UInt8} (h : dataS z = some b) : b.length = 4 ∧ numL (rdN b) = z := by
  unfold dataS at h
  split at h
  · rename_i hc
    have hb := (Option.some.inj h).symm
    obtain ⟨_, h0, h1, _⟩ := num_atoi hc
    obtain ⟨n, e, _, hl⟩ := intV_nat h0
    refine ⟨by rw [hb, beB_length], ?_⟩
    rw [hb, e, rdN_beB 4 n (by rw [e] at h1; omega)]; exact hl.symm
  · cases h
theorem rt_M {z b : List UInt8} (h : dataM z = some b) : ∃ p nm, nameB nm = true ∧ p.length = 2 ∧ b = p ++ wireL (labelsOf nm) ∧ z = numL (rdN p) ++ (32 :: nm) := by
  unfold dataM at h
  split at h
  · rename_i a c hcut
    split at h
    · rename_i hc
      have hb := (Option.some.inj h).symm
      obtain ⟨_, h0, h1, _⟩ := num_atoi hc.1
      obtain ⟨n, e, _, hl⟩ := intV_nat h0
      refine ⟨beB (intV a) 2, c, (targ_name hc.2).1, beB_length _ _, hb, ?_⟩
      rw [e, rdN_beB 2 n (by rw [e] at h1; omega), ← hl]
      exact cut_two_eq hcut
    · cases h
  · cases h
theorem rt_T {z b : List UInt8} (h : dataT z = some b) : b.length ≤ 31 ∧ b ≠ [] ∧ b.drop 1 = z := by
  unfold dataT at h
  split at h
  · rename_i hc
    have hb := (Option.some.inj h).symm
    rw [hb]; refine ⟨?_, by simp, rfl⟩
    simp; omega
  · cases h
/-- Bytes of data come back, by both readings. -/
theorem data_back {k : Int} {z b : List UInt8} (h : dataP k z = some b) : candP k b = z ∧ candI k b = some z ∧ b.length ≤ 600 := by
  unfold dataP at h
  unfold candP candI
  by_cases h1 : k = 1
  · rw [if_pos h1] at h; rw [if_pos h1, if_pos h1]
    obtain ⟨e1, e2⟩ := rt_A h
    rw [if_pos e1, e2]; exact ⟨rfl, rfl, by omega⟩
  · rw [if_neg h1] at h; rw [if_neg h1, if_neg h1]
    by_cases h2 : k = 2 ∨ k = 5
    · rw [if_pos h2] at h; rw [if_pos h2, if_pos h2]
      obtain ⟨e1, e2⟩ := rt_N h
      obtain ⟨q, hq⟩ := tkI_wire (p := []) e1 (by simp)
      rw [List.nil_append] at hq
      have hw := wire_len e1
      rw [e2, nameP_wire e1]
      refine ⟨rfl, ?_, by omega⟩
      rw [show (0 : Int) = (([] : List UInt8).length : Int) from rfl, hq]; rfl
    · rw [if_neg h2] at h; rw [if_neg h2, if_neg h2]
      by_cases h6 : k = 6
      · rw [if_pos h6] at h; rw [if_pos h6, if_pos h6]
        obtain ⟨e1, e2⟩ := rt_S h
        rw [if_pos e1, if_pos e1, e2]; exact ⟨rfl, rfl, by omega⟩
      · rw [if_neg h6] at h; rw [if_neg h6, if_neg h6]
        by_cases h15 : k = 15
        · rw [if_pos h15] at h; rw [if_pos h15, if_pos h15]
          obtain ⟨p, nm, e1, e2, e3, e4⟩ := rt_M h
          obtain ⟨q, hq⟩ := tkI_wire (p := p) e1 (by omega)
          have hw := wire_len e1
          have ht : b.take 2 = p := by rw [e3, List.take_append_of_le_length (by omega), List.take_of_length_le (by omega)]
          have hd : b.drop 2 = wireL (labelsOf nm) := by rw [e3, List.drop_append_of_le_length (by omega), List.drop_eq_nil_of_le (by omega), List.nil_append]
          have hbl : b.length = 2 + (wireL (labelsOf nm)).length := by rw [e3, List.length_append, e2]
          rw [← e3, e2] at hq
          rw [if_pos (by omega), ht, hd, nameP_wire e1, e4]
          refine ⟨rfl, ?_, by omega⟩
          rw [show (2 : Int) = ((2 : Nat) : Int) from rfl, hq]; rfl
        · rw [if_neg h15] at h; rw [if_neg h15, if_neg h15]
          by_cases h16 : k = 16
          · rw [if_pos h16] at h; rw [if_pos h16, if_pos h16]
            obtain ⟨e1, e2, e3⟩ := rt_T h
            rw [if_neg e2, e3]; exact ⟨rfl, rfl, by omega⟩
          · rw [if_neg h16] at h; cases h
theorem readI_yes {k : Int} {b z : List UInt8} (hd : dataP k z = some b) : readR k b = some z :=
  read_yes (data_back hd).2.2 (data_back hd).1 hd
theorem readI_no {k : Int} {b : List UInt8} (h : ∀ z, candI k b = some z → dataP k z ≠ some b) : readR k b = none := by
  by_cases hd : dataP k (candP k b) = some b
  · exact absurd hd (h _ (data_back hd).2.1)
  · exact read_no rfl hd
end Go.Proofs.YtdmellmmhipncaaGreatDoor

namespace Go.Proofs.YtdmellmmhipncaaGreatDoor
open Go.RowKit

set_option maxRecDepth 20000 in
set_option maxHeartbeats 2000000 in
theorem readM15 (s : ByteArray) (w : World) (hs : s.size ≤ 600) :
    Calls Tryz.prog 14 #[.int .i64 15, .string s] w fun e w' => e = readVal (readR 15 s.data.toList) ∧ Below w.heap.size w w' := by
  have hbl : s.data.toList.length ≤ 600 := by rw [data_len]; exact hs
  have hc0 : candP 15 s.data.toList = if 2 < s.data.toList.length then numL (rdN (s.data.toList.take 2)) ++ (32 :: nameP (s.data.toList.drop 2)) else [] := by unfold candP; rw [if_neg (by omega), if_neg (by omega), if_neg (by omega), if_pos rfl]
  by_cases h2 : 2 < s.size
  · have hc1 : candP 15 s.data.toList = numL (rdN (s.data.toList.take 2)) ++ (32 :: nameP (s.data.toList.drop 2)) := by rw [hc0]; exact if_pos (by rw [data_len]; exact h2)
    obtain ⟨p, hp⟩ : ∃ p, p = s.data.toList.take 2 := ⟨_, rfl⟩
    obtain ⟨r, hr⟩ : ∃ r, r = s.data.toList.drop 2 := ⟨_, rfl⟩
    have hpl : p.length ≤ 2 := by rw [hp, List.length_take]; omega
    have hrl : r.length ≤ 600 := by rw [hr, List.length_drop]; omega
    have HP : Hid (s.extract 0 2 = ⟨p.toArray⟩) := data_eq (by rw [Lib.extract_data, hp]; simp)
    have HRR : Hid (s.extract 2 s.size = ⟨r.toArray⟩) := data_eq (by rw [Lib.extract_data, hr, List.take_of_length_le (by rw [List.length_drop, data_len]; omega)])
    rw [← hp, ← hr] at hc1
    have hn4 : rdN p < 4294967296 := by
      have h1 := rdN_lt p p.length (Nat.le_refl _)
      rw [List.take_length] at h1
      have h3 : 256 ^ p.length ≤ 256 ^ 2 := Nat.pow_le_pow_right (by omega) hpl
      omega
    have hql0 := numL_length 10 (rdN p) (by omega)
    have hml0 := nameP_length r
    have HL30 : ∀ W, Calls Tryz.prog 38 #[.string ⟨p.toArray⟩] W fun e w' => e = .returned (.int .i64 ((rdN p : Nat) : Int)) ∧ Below W.heap.size W w' := fun W => (l3Read_any ⟨p.toArray⟩ W (by rw [size_list]; omega)).mono fun e w' h => ⟨h.1, by rw [h.2]; exact Below.refl _ _⟩
    have HNM0 : ∀ W, Calls Tryz.prog 37 #[.string ⟨r.toArray⟩] W fun e w' => e = .returned (.string ⟨(nameP r).toArray⟩) ∧ Below W.heap.size W w' := fun W => l3Name_any ⟨r.toArray⟩ W (by rw [size_list]; omega)
    obtain ⟨n, hn⟩ : ∃ n, n = rdN p := ⟨_, rfl⟩
    rw [← hn] at hc1 hn4 hql0 HL30
    have HNU0 : ∀ W, Calls Tryz.prog 36 #[.int .i64 (n : Int)] W fun e w' => e = .returned (.string ⟨(numL n).toArray⟩) ∧ Below W.heap.size W w' := fun W => l1Num_any n n W (Nat.le_refl _) (by omega)
    obtain ⟨q, hq⟩ : ∃ q, q = numL n := ⟨_, rfl⟩
    obtain ⟨m, hm⟩ : ∃ m, m = nameP r := ⟨_, rfl⟩
    rw [← hq, ← hm] at hc1
    rw [← hq] at hql0 HNU0
    rw [← hm] at hml0 HNM0
    have HL3 : Hid (∀ W, Calls Tryz.prog 38 #[.string ⟨p.toArray⟩] W fun e w' => e = .returned (.int .i64 (n : Int)) ∧ Below W.heap.size W w') := HL30
    have HNU : Hid (∀ W, Calls Tryz.prog 36 #[.int .i64 (n : Int)] W fun e w' => e = .returned (.string ⟨q.toArray⟩) ∧ Below W.heap.size W w') := HNU0
    have HNM : Hid (∀ W, Calls Tryz.prog 37 #[.string ⟨r.toArray⟩] W fun e w' => e = .returned (.string ⟨m.toArray⟩) ∧ Below W.heap.size W w') := HNM0
    obtain ⟨z, hz⟩ : ∃ z, z = q ++ (32 :: m) := ⟨_, rfl⟩
    have hc : candP 15 s.data.toList = z := by rw [hc1, hz]
    have HYES : Hid (dataP 15 z = some s.data.toList → readR 15 s.data.toList = some z) := fun h => read_yes hbl hc h
    have HNO : Hid (dataP 15 z ≠ some s.data.toList → readR 15 s.data.toList = none) := fun h => read_no hc h
    have hzs : (⟨z.toArray⟩ : ByteArray).size ≤ 1048576 := by rw [size_list, hz, List.length_append, List.length_cons]; omega
    have HZ : Hid ((⟨q.toArray⟩ : ByteArray) ++ ⟨#[32]⟩ ++ ⟨m.toArray⟩ = ⟨z.toArray⟩) := data_eq (by rw [hz]; simp)
    clear hc hc0 hc1 hz hbl hp hr hn hq hm HL30 HNU0 HNM0
    go_enter Tryz.func14, Tryz.ntmps14
    go_wp2_with fail
    refine wp_region_quiet (C := fun W => Below w.heap.size w W) (by kernel_rfl) (by kernel_rfl) ((Below.refl _ _).drew) ?_
    refine wpQuiet_step (fun K hK => ?_)
    rw [if_pos (by rfl)]
    refine ⟨.string s, fun W hW => quiet_ok ?_, hK _ ?_⟩
    · go_simp
      all_goals (try omega)
    clear hK K
    simp only [Act.put, List.setIfInBounds_toArray, List.set_cons_succ, List.set_cons_zero]
    refine wpQuiet_step (fun K hK => ?_)
    rw [if_pos (by rfl)]
    refine ⟨.string ⟨p.toArray⟩, fun W hW => quiet_ok ?_, hK _ ?_⟩
    · rw [← HP.out]
      go_simp
      all_goals (try omega)
    clear hK K
    simp only [Act.put, List.setIfInBounds_toArray, List.set_cons_succ, List.set_cons_zero]
    refine wpQuiet_step (fun K hK => ?_)
    rw [if_pos (by rfl)]
    refine ⟨.int .i64 (n : Int), fun W hW => quiet_call (f := 38) (args := #[.string ⟨p.toArray⟩]) ?_ ?_, hK _ ?_⟩
    · go_simp
    · exact (HL3.out W).mono fun e w'' h => ⟨h.1, hW.trans (h.2.mono hW.size)⟩
    clear hK K
    simp only [Act.put, List.setIfInBounds_toArray, List.set_cons_succ, List.set_cons_zero]
    refine wpQuiet_step (fun K hK => ?_)
    rw [if_pos (by rfl)]
    refine ⟨.string ⟨q.toArray⟩, fun W hW => quiet_call (f := 36) (args := #[.int .i64 (n : Int)]) ?_ ?_, hK _ ?_⟩
    · go_simp
    · exact (HNU.out W).mono fun e w'' h => ⟨h.1, hW.trans (h.2.mono hW.size)⟩
    clear hK K
    simp only [Act.put, List.setIfInBounds_toArray, List.set_cons_succ, List.set_cons_zero]
    refine wpQuiet_step (fun K hK => ?_)
    rw [if_pos (by rfl)]
    refine ⟨.string (⟨q.toArray⟩ ++ ⟨#[32]⟩), fun W hW => quiet_ok ?_, hK _ ?_⟩
    · go_simp
      all_goals (try omega)
    clear hK K
    simp only [Act.put, List.setIfInBounds_toArray, List.set_cons_succ, List.set_cons_zero]
    refine wpQuiet_step (fun K hK => ?_)
    rw [if_pos (by rfl)]
    refine ⟨.string s, fun W hW => quiet_ok ?_, hK _ ?_⟩
    · go_simp
      all_goals (try omega)
    clear hK K
    simp only [Act.put, List.setIfInBounds_toArray, List.set_cons_succ, List.set_cons_zero]
    refine wpQuiet_step (fun K hK => ?_)
    rw [if_pos (by rfl)]
    refine ⟨.string ⟨r.toArray⟩, fun W hW => quiet_ok ?_, hK _ ?_⟩
    · rw [← HRR.out]
      go_simp
      all_goals (try omega)
    clear hK K
    simp only [Act.put, List.setIfInBounds_toArray, List.set_cons_succ, List.set_cons_zero]
    refine wpQuiet_step (fun K hK => ?_)
    rw [if_pos (by rfl)]
    refine ⟨.string ⟨m.toArray⟩, fun W hW => quiet_call (f := 37) (args := #[.string ⟨r.toArray⟩]) ?_ ?_, hK _ ?_⟩
    · go_simp
    · exact (HNM.out W).mono fun e w'' h => ⟨h.1, hW.trans (h.2.mono hW.size)⟩
    clear hK K
    simp only [Act.put, List.setIfInBounds_toArray, List.set_cons_succ, List.set_cons_zero]
    refine wpQuiet_step (fun K hK => ?_)
    rw [if_pos (by rfl)]
    refine ⟨.string (⟨q.toArray⟩ ++ ⟨#[32]⟩ ++ ⟨m.toArray⟩), fun W hW => quiet_ok ?_, hK _ ?_⟩
    · go_simp
      all_goals (try omega)
    clear hK K
    simp only [Act.put, List.setIfInBounds_toArray, List.set_cons_succ, List.set_cons_zero]
    refine wpQuiet_step (fun K hK => ?_)
    rw [if_pos (by rfl)]
    refine ⟨.string (⟨q.toArray⟩ ++ ⟨#[32]⟩ ++ ⟨m.toArray⟩), fun W hW => quiet_ok ?_, hK _ ?_⟩
    · go_simp
      all_goals (try omega)
    clear hK K
    simp only [Act.put, List.setIfInBounds_toArray, List.set_cons_succ, List.set_cons_zero]
    refine wpQuiet_nil ?_
    intro W hb
    rw [HZ.out]
    go_wp2_with fail
    refine (l3Bytes_any 15 ⟨z.toArray⟩ _ hzs).mono ?_
    rintro e w9 ⟨⟨x, rfl, hx⟩, hb9⟩
    rw [show (⟨z.toArray⟩ : ByteArray).data.toList = z from rfl] at hx ⊢
    have hbq := hb.trans (hb9.mono hb.size)
    cases hD : dataP 15 z with
    | none =>
      have HR : Hid (readR 15 s.data.toList = none) := HNO.out (by rw [hD]; simp)
      clear hD hx
      go_wp2_with fail
      go_ret2
      exact ⟨put_noneR HR.out, hbq⟩
    | some y =>
      obtain rfl := hx y hD
      by_cases hyb : y = s.data.toList
      · have HR : Hid (readR 15 s.data.toList = some z) := HYES.out (by rw [hD, hyb])
        rw [show (⟨y.toArray⟩ : ByteArray) = s from data_eq hyb]
        have e9 : (s.toList != s.toList) = false := by simp
        clear hD hx hyb
        go_wp2_with fail
        go_ret2
        exact ⟨put_someR HR.out rfl, hbq⟩
      · have HR : Hid (readR 15 s.data.toList = none) := HNO.out (by rw [hD]; exact fun h => hyb (Option.some.inj h))
        have e5 : (y == s.toList) = false := by rw [ByteArray.toList_eq]; simpa using hyb
        clear hD hx hyb
        go_wp2_with fail
        go_ret2
        exact ⟨put_noneR HR.out, hbq⟩
  · have hc : candP 15 s.data.toList = [] := by rw [hc0]; exact if_neg (by rw [data_len]; exact h2)
    have HR : Hid (readR 15 s.data.toList = none) := read_no hc (by rw [show dataP 15 [] = none from rfl]; simp)
    have g2 : (s.size : Int) ≤ 2 := by omega
    clear hc hc0 hbl h2
    go_enter Tryz.func14, Tryz.ntmps14
    go_wp2_with fail
    refine (l3Bytes_any 15 ⟨#[]⟩ _ (by decide)).mono ?_
    rintro e w9 ⟨⟨x, rfl, _⟩, hb9⟩
    rw [show dataP 15 (⟨#[]⟩ : ByteArray).data.toList = none from rfl]
    go_wp2_with fail
    go_ret2
    exact ⟨put_noneR HR.out, hb9⟩

theorem sReadData_any (k : Int) (s : ByteArray) (w : World) :
    Calls Tryz.prog 14 #[.int .i64 k, .string s] w fun e w' => e = readVal (readR k s.data.toList) ∧ Below w.heap.size w w' := by
  by_cases hs : s.size ≤ 600
  · by_cases h1 : k = 1
    · subst h1; exact readA1 s w hs
    · by_cases h2 : k = 2
      · subst h2; exact readN2 s w hs
      · by_cases h5 : k = 5
        · subst h5; exact readN5 s w hs
        · by_cases h6 : k = 6
          · subst h6; exact readS6 s w hs
          · by_cases h15 : k = 15
            · subst h15; exact readM15 s w hs
            · by_cases h16 : k = 16
              · subst h16; exact readT16 s w hs
              · exact readO k s w hs (by simpa using h1) (by simpa using h2) (by simpa using h5) (by simpa using h6) (by simpa using h15) (by simpa using h16)
  · exact readBig k s w (by omega)
end Go.Proofs.YtdmellmmhipncaaGreatDoor
