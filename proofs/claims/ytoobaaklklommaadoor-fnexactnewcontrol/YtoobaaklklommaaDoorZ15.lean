import Derived.Test.YtoobaaklklommaaDoorZ13
import Derived.Test.YtoobaaklklommaaDoorZ11
namespace Go.Proofs.YtoobaaklklommaaDoor
open Go.RowKit



set_option maxRecDepth 20000 in
set_option maxHeartbeats 400000 in
theorem isHost_any (s : ByteArray) (w : World) (hE : Env w) :
    Calls Tryd.prog 34 #[.string s] w fun e w' => e = .returned (.bool (targB s.data.toList)) ∧ Below w.heap.size w w' := by
  have HT : Hid (targB s.data.toList = (!(s.data.toList == []) && (nameB s.data.toList && !decide (0 ≤ Lib.indexByte s.data.toList 42)))) := targ_host
  by_cases h0 : s.data.toList = []
  · obtain rfl : s = ⟨#[]⟩ := data_eq h0
    go_enter Tryd.func34, Tryd.ntmps34
    go_wp2_with fail
    go_ret
    exact ⟨ret_bool (by rw [HT.out]; rfl), Below.refl _ _⟩
  · have e0 : (s.toList == []) = false := by rw [ByteArray.toList_eq]; simpa using h0
    have e1 : (s.data.toList == []) = false := by simpa using h0
    rw [e1, Bool.not_false, Bool.true_and] at HT
    clear h0 e1
    cases hN : nameB s.data.toList with
    | false =>
      rw [hN] at HT
      have HN : Hid (nameB s.data.toList = false) := hN
      clear hN
      go_enter Tryd.func34, Tryd.ntmps34
      go_wp2_with fail
      refine (iGoodName_any s w hE).mono ?_
      rintro e w1 ⟨rfl, hb⟩
      rw [HN.out]
      go_wp2_with fail
      go_ret
      exact ⟨ret_bool (by rw [HT.out]; rfl), hb⟩
    | true =>
      rw [hN] at HT
      have HN : Hid (nameB s.data.toList = true) := hN
      clear hN
      go_enter Tryd.func34, Tryd.ntmps34
      go_wp2_with fail
      refine (iGoodName_any s w hE).mono ?_
      rintro e w1 ⟨rfl, hb⟩
      rw [HN.out]
      go_wp2_with fail
      refine (Tryd.strings_Contains_one s 42 w1).mono ?_
      rintro e w2 ⟨rfl, rfl⟩
      obtain ⟨b, hbb⟩ : ∃ b, b = decide (0 ≤ Lib.indexByte s.data.toList 42) := ⟨_, rfl⟩
      rw [← hbb] at HT ⊢
      clear hbb
      go_wp2_with fail
      go_ret
      exact ⟨ret_bool (by rw [HT.out]; rfl), hb⟩

end Go.Proofs.YtoobaaklklommaaDoor

namespace Go.Proofs.YtoobaaklklommaaDoor
open Go.RowKit

/-- A zone's name: the root, or a name without a star. -/
def apexB (s : List UInt8) : Bool := s == [] || targB s
theorem apex_labels (s : List UInt8) : apexB s = (nameB s && (labelsOf s).all (fun x => !(x == [42]))) := by
  unfold apexB
  by_cases h0 : s = []
  · subst h0; rfl
  · have e : (s == []) = false := by simpa using h0
    rw [targ_host, e]
    cases hn : nameB s with
    | false => rfl
    | true => rw [star_label hn h0]; simp
theorem apex_name {s : List UInt8} (h : apexB s = true) : nameB s = true := by
  rw [apex_labels, Bool.and_eq_true] at h; exact h.1

set_option maxRecDepth 20000 in
set_option maxHeartbeats 400000 in
theorem isApex_any (s : ByteArray) (w : World) (hE : Env w) :
    Calls Tryd.prog 28 #[.string s] w fun e w' => e = .returned (.bool (apexB s.data.toList)) ∧ Below w.heap.size w w' := by
  by_cases h0 : s.data.toList = []
  · obtain rfl : s = ⟨#[]⟩ := data_eq h0
    go_enter Tryd.func28, Tryd.ntmps28
    go_wp2_with fail
    go_ret
    exact ⟨rfl, Below.refl _ _⟩
  · have e0 : (s.toList == []) = false := by rw [ByteArray.toList_eq]; simpa using h0
    have HT : Hid (apexB s.data.toList = targB s.data.toList) := by
      have e1 : (s.data.toList == []) = false := by simpa using h0
      unfold apexB; rw [e1]; exact rfl
    clear h0
    go_enter Tryd.func28, Tryd.ntmps28
    go_wp2_with fail
    refine (isHost_any s w hE).mono ?_
    rintro e w1 ⟨rfl, hb⟩
    obtain ⟨b, hbb⟩ : ∃ b, b = targB s.data.toList := ⟨_, rfl⟩
    rw [← hbb] at HT ⊢
    clear hbb
    go_wp2_with fail
    go_ret
    exact ⟨ret_bool HT.out.symm, hb⟩

set_option maxRecDepth 20000 in
set_option maxHeartbeats 1000000 in
theorem l6Apex_any (s : ByteArray) (w : World) (hs : s.size ≤ 4294967280) :
    Calls Tryd.prog 19 #[.string s] w fun e w' => e = .returned (.bool (apexB s.data.toList)) ∧ Below w.heap.size w w' := by
  have HA : Hid (apexB s.data.toList = (nameB s.data.toList && (labelsOf s.data.toList).all (fun x => !(x == [42])))) := apex_labels _
  obtain ⟨r, hr⟩ : ∃ r, r = apexB s.data.toList := ⟨_, rfl⟩
  rw [← hr] at HA ⊢
  clear hr
  go_enter Tryd.func19, Tryd.ntmps19
  go_wp2_with fail
  refine (l1LabelsQ_any s w hs).mono ?_
  rintro e w1 ⟨v, rfl, hN, hb, Q, hQ⟩
  obtain ⟨P, hP, hPn⟩ : ∃ P, w1.ownsRow w.heap.size 9 1 v P.length (P.map S) ∧ (nameB s.data.toList = true → P = labelsOf s.data.toList) := by
    cases hc : nameB s.data.toList with
    | true => exact ⟨_, hN hc, fun _ => rfl⟩
    | false => exact ⟨Q, hQ, fun h => by cases h⟩
  have HR : Hid (r = (nameB s.data.toList && P.all (fun x => !(x == [42])))) := by
    show r = _
    rw [HA.out]
    cases hc : nameB s.data.toList with
    | true => rw [hPn hc]
    | false => rfl
  obtain ⟨a, cap, hv, hcap, hmax, HC⟩ : ∃ a cap, v = .slice a P.length cap ∧ P.length ≤ cap ∧ cap ≤ maxLen ∧ Hid (0 < P.length → ∃ g, a = some ⟨g, 0, none⟩ ∧ ∀ j, (hj : j < P.length) → w1.cell? ⟨g, j, none⟩ = some (S P[j])) := by
    obtain ⟨g, cap, ⟨rfl, rfl⟩ | ⟨rfl, hg, hgl, hcap, hmax, hcell⟩⟩ := shape_of_own hP
    · exact ⟨none, 0, rfl, Nat.le_refl _, Nat.zero_le _, fun h => by simp at h⟩
    · exact ⟨_, cap, rfl, hcap, hmax, fun _ => ⟨g, rfl, hcell⟩⟩
  subst hv
  obtain ⟨nb, hnb⟩ : ∃ nb, nb = nameB s.data.toList := ⟨_, rfl⟩
  rw [← hnb] at HR ⊢
  clear hN hQ hP hPn hnb HA
  unfold maxLen at hmax
  go_wp2_with fail
  go_loop [4, 14] (fun o i => ∃ (k : Nat) (ok : Bool), k ≤ P.length ∧ i = .int .i64 (k : Int) ∧ o = .bool ok ∧ Hid (ok = (nb && (P.take k).all (fun x => !(x == [42]))))) (fun _ i => P.length - (intOf i).toNat)
  case atStart => exact ⟨0, nb, Nat.zero_le _, rfl, rfl, by show nb = _; simp⟩
  case round =>
    obtain ⟨k, ok, hk, rfl, rfl, HO⟩ := hrel
    by_cases hlt : k < P.length
    · obtain ⟨g, rfl, hcell⟩ := HC.out (by omega)
      have hcx := hcell k hlt
      have HN : Hid (ok = false → false = (nb && (P.take (k + 1)).all (fun x => !(x == [42])))) := fun h => by
        have h1 := HO.out
        rw [List.take_succ_eq_append_getElem hlt, List.all_append, ← Bool.and_assoc, ← h1, h]; rfl
      have HM : Hid (ok = true → (!((P[k]'hlt) == [42])) = (nb && (P.take (k + 1)).all (fun x => !(x == [42])))) := fun h => by
        have h1 := HO.out
        rw [List.take_succ_eq_append_getElem hlt, List.all_append, ← Bool.and_assoc, ← h1, h]; simp
      obtain ⟨x, hx⟩ : ∃ x, x = P[k]'hlt := ⟨_, rfl⟩
      rw [← hx] at hcx HM
      unfold S at hcx
      clear hcell hx
      cases ok with
      | false =>
        go_wp2_with fail
        go_round
        case rel => exact ⟨k + 1, false, by omega, by go_num, rfl, HN.out rfl⟩
        case measure => simp [intOf]; omega
      | true =>
        go_wp2_with fail
        go_round
        case rel => exact ⟨k + 1, !(x == [42]), by omega, by go_num, by simp, HM.out rfl⟩
        case measure => simp [intOf]; omega
    · have HF : Hid (r = ok) := by
        show r = ok
        rw [HR.out, HO.out, List.take_of_length_le (by omega)]
      go_wp2_with fail
      go_ret
      exact ⟨ret_bool HF.out.symm, hb⟩
end Go.Proofs.YtoobaaklklommaaDoor
