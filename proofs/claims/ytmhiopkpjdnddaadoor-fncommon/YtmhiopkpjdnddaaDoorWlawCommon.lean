import Derived.Test.YtmhiopkpjdnddaaDoorComP
import Derived.Test.YtmhiopkpjdnddaaDoorDrwA
namespace Go.Proofs.YtmhiopkpjdnddaaDoor.lawCommon
open Go.RowKit

theorem of_list (l : List UInt8) : (⟨l.toArray⟩ : ByteArray).data.toList = l := by simp
theorem list_beq (a b : List UInt8) : ((⟨a.toArray⟩ : ByteArray).toList == (⟨b.toArray⟩ : ByteArray).toList) = (a == b) := by rw [toList_beq, of_list, of_list]

set_option maxRecDepth 20000 in
set_option maxHeartbeats 4000000 in
theorem walk (v : Value) (P : List Int) (w : World) (hr : ZRow .u8 w v P) (hb : Hid (∀ x ∈ P, 0 ≤ x ∧ x ≤ 255)) (hE : Env w) :
    Calls Tryd.prog 5 #[v] w fun e w' => e = .returned (.bool true) ∧ Below w.heap.size w w' := by
  have HR : Hid (ZRow .u8 w v P) := hr
  obtain ⟨a1, cap1, rfl, hcap1, hmax1, _⟩ := zrow_value hr
  clear hr
  by_cases hbig : (1048576 : Int) < (P.length : Int)
  · go_enter Tryd.func5, Tryd.ntmps5
    go_wp2_with fail
    go_ret
    exact ⟨rfl, Below.refl _ _⟩
  · go_enter Tryd.func5, Tryd.ntmps5
    go_wp2_with fail
    refine (drawCommonOf_any _ P _ HR.out hb (by omega)).mono ?_
    rintro e w1 ⟨sa, sb, ⟨rfl, hsa, hsb⟩, hb1⟩
    obtain ⟨a, rfl⟩ : ∃ a : List UInt8, sa = ⟨a.toArray⟩ := ⟨sa.data.toList, by simp⟩
    obtain ⟨b, rfl⟩ : ∃ b : List UInt8, sb = ⟨b.toArray⟩ := ⟨sb.data.toList, by simp⟩
    have hE1 := hE.below hb1
    clear HR
    go_wp2_with fail
    refine (iCommonOf_any _ _ _ hE1).mono ?_
    rw [of_list, of_list]
    rintro e w2 ⟨rfl, hb2⟩
    have hb02 := hb1.trans (hb2.mono hb1.size)
    have hE2 := hE1.below hb2
    clear hb2 hE1 hb1
    cases hok : cmpB a b with
    | false =>
      have hc : commonT a b = [] := com_no hok
      rw [hc]
      have HC : Hid (commonT a b = []) := hc
      have HOK : Hid (cmpB a b = false) := hok
      clear hc hok
      go_wp2_with fail
      refine (sCommonOf_any _ _ _ (by omega) (by omega)).mono ?_
      rw [of_list, of_list, HC.out, HOK.out]
      rintro e w3 ⟨rfl, hb3⟩
      have hb03 := hb02.trans (hb3.mono hb02.size)
      have hE3 := hE2.below hb3
      clear hb3 hE2 hb02
      obtain ⟨x, hx⟩ : ∃ x, x = belowT a b := ⟨_, rfl⟩
      obtain ⟨y, hy⟩ : ∃ y, y = bothB a b := ⟨_, rfl⟩
      have HX : Hid (belowT a b = x ∧ bothB a b = y) := ⟨hx.symm, hy.symm⟩
      clear hx hy
      have e1 : (x != x) = false := by simp
      have e2 : (y != y) = false := by simp
      go_wp2_with fail
      refine (iIsBelow_any _ _ _ (by omega) (by omega) hE3).mono ?_
      rw [of_list, of_list, HX.out.1, HX.out.2]
      rintro e w4 ⟨rfl, hb4⟩
      have hb04 := hb03.trans (hb4.mono hb03.size)
      clear hb4 hE3 hb03
      go_wp2_with fail
      refine (sIsBelow_any _ _ _ (by omega) (by omega)).mono ?_
      rw [of_list, of_list, HX.out.1, HX.out.2]
      rintro e w5 ⟨rfl, hb5⟩
      have hb05 := hb04.trans (hb5.mono hb04.size)
      clear hb5 hb04
      go_wp2_with fail
      go_ret
      exact ⟨rfl, hb05⟩
    | true =>
      have hnm := cmp_both hok
      have HC : Hid (commonT a b = comL a b) := com_T hok
      have HC2 : Hid (commonT b a = comL a b ∧ cmpB b a = true) := com_T2 hok
      have HOK : Hid (cmpB a b = true) := hok
      have HB : Hid (belowT a b = belowB a b ∧ bothB a b = true) := below_T hnm.1 hnm.2
      have HBC : Hid (belowT a (comL a b) = true ∧ bothB a (comL a b) = true) := by
        have h := below_T hnm.1 (com_name b hnm.1)
        rw [com_above b hnm.1] at h; exact h
      have HBD : Hid (belowT b (comL a b) = true ∧ bothB b (comL a b) = true) := by
        have h := below_T hnm.2 (com_name a hnm.2)
        rw [com_above a hnm.2, com_comm] at h; exact h
      have HIS : Hid (belowB a b = (comL a b == b)) := com_is hnm.1 hnm.2
      have HSTEP : Hid (∀ j, j < comS a b → _) := fun j hj => com_step hnm.1 hnm.2 hj
      have hcl : (⟨(comL a b).toArray⟩ : ByteArray).size ≤ 30 := by
        rw [size_of]
        have h := drop_le (labelsOf a) (comS a b)
        rw [joinD_labels, com_end] at h
        rw [size_of] at hsa; omega
      rw [HC.out]
      clear hok
      obtain ⟨C, hC⟩ : ∃ C, C = comL a b := ⟨_, rfl⟩
      rw [← hC] at HC HC2 HBC HBD HIS hcl ⊢
      have HCD : Hid (C = comL a b) := hC
      obtain ⟨x, hx⟩ : ∃ x, x = belowB a b := ⟨_, rfl⟩
      rw [← hx] at HB HIS
      have e1 : (x != x) = false := by simp
      have e3 : ((⟨C.toArray⟩ : ByteArray).toList == (⟨b.toArray⟩ : ByteArray).toList) = x := by rw [list_beq, HIS.out]
      have e3' : (C == b) = x := HIS.out.symm
      have e5 : (!x == (C == b)) = false := by rw [e3']; simp
      have e4 : ((⟨C.toArray⟩ : ByteArray).toList != (⟨C.toArray⟩ : ByteArray).toList) = false := by simp
      clear hC hx HIS
      go_wp2_with fail
      refine (sCommonOf_any _ _ _ (by omega) (by omega)).mono ?_
      rw [of_list, of_list, HC.out, HOK.out]
      rintro e w3 ⟨rfl, hb3⟩
      have hb03 := hb02.trans (hb3.mono hb02.size)
      have hE3 := hE2.below hb3
      clear hb3 hE2 hb02
      go_wp2_with fail
      refine (iIsBelow_any _ _ _ (by omega) (by omega) hE3).mono ?_
      rw [of_list, of_list, HB.out.1, HB.out.2]
      rintro e w4 ⟨rfl, hb4⟩
      have hb04 := hb03.trans (hb4.mono hb03.size)
      have hE4 := hE3.below hb4
      clear hb4 hE3 hb03
      go_wp2_with fail
      refine (sIsBelow_any _ _ _ (by omega) (by omega)).mono ?_
      rw [of_list, of_list, HB.out.1, HB.out.2]
      rintro e w5 ⟨rfl, hb5⟩
      have hb05 := hb04.trans (hb5.mono hb04.size)
      have hE5 := hE4.below hb5
      clear hb5 hE4 hb04
      go_wp2_with fail
      refine (iCommonOf_any _ _ _ hE5).mono ?_
      rw [of_list, of_list, HC2.out.1, HC2.out.2]
      rintro e w6 ⟨rfl, hb6⟩
      have hb06 := hb05.trans (hb6.mono hb05.size)
      have hE6 := hE5.below hb6
      clear hb6 hE5 hb05
      go_wp2_with fail
      refine (iIsBelow_any _ _ _ (by omega) (by omega) hE6).mono ?_
      rw [of_list, of_list, HBC.out.1, HBC.out.2]
      rintro e w7 ⟨rfl, hb7⟩
      have hb07 := hb06.trans (hb7.mono hb06.size)
      have hE7 := hE6.below hb7
      clear hb7 hE6 hb06
      go_wp2_with fail
      refine (iIsBelow_any _ _ _ (by omega) (by omega) hE7).mono ?_
      rw [of_list, of_list, HBD.out.1, HBD.out.2]
      rintro e w8 ⟨rfl, hb8⟩
      have hb08 := hb07.trans (hb8.mono hb07.size)
      have hE8 := hE7.below hb8
      clear hb8 hE7 hb07
      go_wp2_with fail
      have HS0 : Hid (joinD ((labelsOf a).drop 0) = a) := com_start a
      have HSE : Hid (joinD ((labelsOf a).drop (comS a b)) = C) := (com_end a b).trans HCD.out.symm
      have HLE : Hid (∀ j, (joinD ((labelsOf a).drop j)).length ≤ 30) := fun j => by
        have h := drop_le (labelsOf a) j
        rw [joinD_labels] at h
        rw [size_of] at hsa; omega
      go_loopw [19] (fun vs wr => ∃ (j : Nat) (s : List UInt8), vs = .string ⟨s.toArray⟩ ∧ j ≤ comS a b ∧ Hid (s = joinD ((labelsOf a).drop j)) ∧ Below w.heap.size w wr ∧ Env wr) (fun vs _ => strSize vs)
      case atStart => exact ⟨0, a, rfl, Nat.zero_le _, HS0.out.symm, hb08, hE8⟩
      case round =>
        obtain ⟨j, s, rfl, hj, HJ, hbr, hEr⟩ := hrel
        by_cases hlt : j < comS a b
        · obtain ⟨h1, h2, h3, h4, h5, h6⟩ := HSTEP.out j hlt
          rw [← HJ.out] at h1 h2 h3 h4 h5 h6
          have hsl : (⟨s.toArray⟩ : ByteArray).size ≤ 30 := by rw [size_of, HJ.out]; exact HLE.out j
          have e6 : ((⟨s.toArray⟩ : ByteArray).toList != (⟨C.toArray⟩ : ByteArray).toList) = true := by
            rw [bne, list_beq, HCD.out]; simpa using h1
          have e7 : (s == C) = false := by rw [HCD.out]; simpa using h1
          have HA : Hid (belowT b s = false ∧ bothB b s = true) := ⟨h2, h3⟩
          have HP : Hid (parentT s = joinD ((labelsOf a).drop (j + 1)) ∧ parentB s = true) := ⟨h4, h5⟩
          have HLT : Hid ((joinD ((labelsOf a).drop (j + 1))).length < s.length) := h6
          clear h1 h2 h3 h4 h5 h6
          go_wp2_with fail
          refine (iIsBelow_any _ _ _ (by omega) (by omega) hEr).mono ?_
          rw [of_list, of_list, HA.out.1, HA.out.2]
          rintro e w9 ⟨rfl, hb9⟩
          have hb09 := hbr.trans (hb9.mono hbr.size)
          have hE9 := hEr.below hb9
          clear hb9
          go_wp2_with fail
          refine (iParentOf_any _ _ hE9).mono ?_
          rw [of_list, HP.out.1, HP.out.2]
          rintro e w10 ⟨rfl, hb10⟩
          have hb010 := hb09.trans (hb10.mono hb09.size)
          have hE10 := hE9.below hb10
          clear hb10
          go_wp2_with fail
          go_roundw
          case rel => exact ⟨j + 1, _, rfl, by omega, rfl, hb010, hE10⟩
          case measure => show ByteArray.size _ < ByteArray.size _; rw [size_of, size_of]; exact HLT.out
        · have hjj : j = comS a b := by omega
          have hsC : s = C := by rw [HJ.out, hjj, HSE.out]
          subst hsC
          go_wp2_with fail
          go_ret
          exact ⟨rfl, hbr⟩
end Go.Proofs.YtmhiopkpjdnddaaDoor.lawCommon
