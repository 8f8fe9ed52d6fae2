import Derived.Test.YtoeffplfkdogdaaDoorZ21
import Derived.Test.YtoeffplfkdogdaaDoorZ22
namespace Go.Proofs.YtoeffplfkdogdaaDoor
open Go.RowKit

/-- What CommonOf tells. -/
def commonL (a b : List UInt8) : List UInt8 := joinD ((labelsOf a).drop ((labelsOf a).length - alike (labelsOf a).reverse (labelsOf b).reverse))
def commonT (a b : List UInt8) : List UInt8 := if nameB a && nameB b then commonL a b else []
def strSize : Value → Nat
  | .string s => s.size
  | _ => 0

set_option maxRecDepth 20000 in
set_option maxHeartbeats 1000000 in
theorem l1Common_any (a b : ByteArray) (w : World) (ha : a.size ≤ 4294967280) (hb : b.size ≤ 4294967280) (hN : Hid (nameB a.data.toList = true ∧ nameB b.data.toList = true)) :
    Calls Tryd.prog 56 #[.string a, .string b] w fun e w' => e = .returned (.string ⟨(commonL a.data.toList b.data.toList).toArray⟩) ∧ w' = w := by
  have hpA := name_plain hN.out.1
  have hpB := name_plain hN.out.2
  have hja := joinD_labels a.data.toList
  have hjb := joinD_labels b.data.toList
  obtain ⟨A, hA⟩ : ∃ A, A = labelsOf a.data.toList := ⟨_, rfl⟩
  obtain ⟨B, hB⟩ : ∃ B, B = labelsOf b.data.toList := ⟨_, rfl⟩
  rw [← hA] at hpA hja
  rw [← hB] at hpB hjb
  have HAB : Hid (commonL a.data.toList b.data.toList = joinD (A.drop (A.length - alike A.reverse B.reverse))) := by unfold commonL; rw [← hA, ← hB]; exact rfl
  have hal := (alike_le A.reverse B.reverse).1
  simp only [List.length_reverse] at hal
  have H : Hid (Plain A ∧ Plain B ∧ joinD A = a.data.toList ∧ joinD B = b.data.toList ∧ alike A.reverse B.reverse ≤ A.length) := ⟨hpA, hpB, hja, hjb, hal⟩
  have hst : a = ⟨(joinD (A.drop 0)).toArray⟩ := data_eq (by rw [List.drop_zero, hja])
  have haz : a.data.toList.length = a.size := by simp
  have HSZ : Hid ((joinD A).length ≤ 4294967280) := by rw [hja, haz]; exact ha
  clear hA hB hpA hpB hja hjb hal haz
  go_enter Tryd.func56, Tryd.ntmps56
  go_wp2_with fail
  go_loop [0] (fun v => ∃ j : Nat, j ≤ A.length ∧ v = .string ⟨(joinD (A.drop j)).toArray⟩ ∧ Hid (alike A.reverse B.reverse ≤ A.length - j)) (fun v => strSize v)
  case atStart => exact ⟨0, Nat.zero_le _, by rw [← hst], H.out.2.2.2.2⟩
  case round =>
    obtain ⟨j, hj, rfl, HJ⟩ := hrel
    have hbd := below_drop H.out.1 H.out.2.1 j hj
    rw [H.out.2.2.2.1] at hbd
    have hsz : (⟨(joinD (A.drop j)).toArray⟩ : ByteArray).size ≤ 4294967280 := by
      rw [size_list]; exact Nat.le_trans (drop_le A j) HSZ.out
    by_cases hx : A.length - j ≤ alike A.reverse B.reverse
    · have HB : Hid (belowB b.data.toList (joinD (A.drop j)) = true) := by rw [hbd]; exact (decide_eq_true hx)
      have HE : Hid (j = A.length - alike A.reverse B.reverse) := by have := HJ.out; exact (show j = A.length - alike A.reverse B.reverse by omega)
      clear hbd hx hst
      go_wp2_with fail
      refine (l1Below_any b _ w hb hsz).mono ?_
      rintro e w1 ⟨rfl, rfl⟩
      rw [show (⟨(joinD (A.drop j)).toArray⟩ : ByteArray).data.toList = joinD (A.drop j) from rfl, HB.out]
      go_wp2_with fail
      go_ret
      exact ⟨ret_S (by rw [HAB.out, ← HE.out]), rfl⟩
    · have HB : Hid (belowB b.data.toList (joinD (A.drop j)) = false) := by rw [hbd]; exact (decide_eq_false hx)
      have hjl : j < A.length := by omega
      have HX : Hid (alike A.reverse B.reverse ≤ A.length - (j + 1)) := (show alike A.reverse B.reverse ≤ A.length - (j + 1) by omega)
      have HPD : Hid (parentL (joinD (A.drop j)) = joinD (A.drop (j + 1))) := parent_drop H.out.1 j hjl
      clear hbd hx hst
      go_wp2_with fail
      refine (l1Below_any b _ w hb hsz).mono ?_
      rintro e w1 ⟨rfl, rfl⟩
      rw [show (⟨(joinD (A.drop j)).toArray⟩ : ByteArray).data.toList = joinD (A.drop j) from rfl, HB.out]
      go_wp2_with fail
      refine (l1Parent_any _ _ hsz).mono ?_
      rintro e w2 ⟨rfl, rfl⟩
      rw [show (⟨(joinD (A.drop j)).toArray⟩ : ByteArray).data.toList = joinD (A.drop j) from rfl, HPD.out]
      go_wp2_with fail
      go_round
      case rel => exact ⟨j + 1, by omega, rfl, HX⟩
      case measure =>
        show (⟨(joinD (A.drop (j + 1))).toArray⟩ : ByteArray).size < (⟨(joinD (A.drop j)).toArray⟩ : ByteArray).size
        rw [size_list, size_list]; exact drop_shorter H.out.1 j hjl

theorem drop_row {w2 : World} {g ca n : Nat} {A : List (List UInt8)} (hal : n ≤ A.length) (hca : A.length ≤ ca) (hma : ca ≤ maxLen) (hgl : g < w2.heap.size) (hc : Hid (∀ j, (hj : j < A.length) → w2.cell? ⟨g, j, none⟩ = some (S A[j]))) :
    Hid ((ca = A.length - n → Row w2 (.slice (some ⟨g, 0, none⟩) (A.length - (A.length - n)) 0) (A.drop (A.length - n))) ∧ Row w2 (.slice (some ⟨g, A.length - n, none⟩) (A.length - (A.length - n)) (ca - (A.length - n))) (A.drop (A.length - n))) := by
  refine ⟨fun h => ?_, ?_⟩
  · have h0 : A.drop (A.length - n) = [] := List.drop_of_length_le (by omega)
    rw [h0, show A.length - (A.length - n) = 0 by omega]
    exact ⟨_, 0, rfl, Nat.le_refl _, by unfold maxLen; omega, .inl rfl⟩
  · refine ⟨_, _, (by rw [List.length_drop]), by rw [List.length_drop]; omega, by omega, .inr ⟨g, A.length - n, rfl, hgl, fun j hj => ?_⟩⟩
    rw [hc.out (A.length - n + j) (by rw [List.length_drop] at hj; omega), List.getElem_drop]

set_option maxRecDepth 20000 in
set_option maxHeartbeats 1000000 in
theorem iCommonOf_any (a b : ByteArray) (w : World) (hE : Env w) :
    Calls Tryd.prog 73 #[.string a, .string b] w fun e w' => e = .returned (.tuple #[.string ⟨(commonT a.data.toList b.data.toList).toArray⟩, .bool (cmpB a.data.toList b.data.toList)]) ∧ Below w.heap.size w w' := by
  go_enter Tryd.func73, Tryd.ntmps73
  go_wp2_with fail
  refine (splitBoth_any a b w hE).mono ?_
  rintro e w1 ⟨va, vb, rfl, hown, hb1⟩
  cases h1 : cmpB a.data.toList b.data.toList with
  | false =>
    have HP : Hid (commonT a.data.toList b.data.toList = [] ∧ cmpB a.data.toList b.data.toList = false) := by
      refine ⟨?_, h1⟩; unfold commonT; rw [show (nameB a.data.toList && nameB b.data.toList) = false from h1]; exact rfl
    clear h1 hown
    go_wp2_with fail
    go_ret2
    exact ⟨ret_two (by rw [HP.out.1]; rfl) (val_bool HP.out.2.symm), hb1⟩
  | true =>
    have hrA := row_own (hown h1).1
    have hrB := row_own (hown h1).2
    have hna : nameB a.data.toList = true := by unfold cmpB at h1; simp at h1; exact h1.1
    have hja := joinD_labels a.data.toList
    have h60 : a.data.toList.length ≤ 60 := by unfold nameB at hna; simp only [Bool.and_eq_true, decide_eq_true_eq] at hna; exact hna.2.1
    obtain ⟨A, hA⟩ : ∃ A, A = labelsOf a.data.toList := ⟨_, rfl⟩
    obtain ⟨B, hB⟩ : ∃ B, B = labelsOf b.data.toList := ⟨_, rfl⟩
    have HP : Hid (commonT a.data.toList b.data.toList = joinD (A.drop (A.length - alike A.reverse B.reverse)) ∧ cmpB a.data.toList b.data.toList = true) := by
      refine ⟨?_, h1⟩; unfold commonT commonL; rw [show (nameB a.data.toList && nameB b.data.toList) = true from h1, ← hA, ← hB]; exact rfl
    rw [← hA] at hrA hja
    rw [← hB] at hrB
    have HJL : Hid (∀ k, (joinD (A.drop k)).length ≤ 1048576) := fun k => by
      have := drop_le A k
      rw [hja] at this; omega
    have hal := (alike_le A.reverse B.reverse).1
    simp only [List.length_reverse] at hal
    obtain ⟨n, hn⟩ : ∃ n, n = alike A.reverse B.reverse := ⟨_, rfl⟩
    rw [← hn] at hal HP
    have HN : Hid (n = alike A.reverse B.reverse) := hn
    have hoA := (hown h1).1
    rw [← hA] at hoA
    clear h1 hown hna hja h60 hA hB hn
    go_wp2_with fail
    refine (alikeFromRight_any va vb A B w1 hrA hrB).mono ?_
    rintro e w2 ⟨rfl, hb2⟩
    have hbb := hb1.trans (hb2.mono hb1.size)
    rw [← HN.out]
    have hoA2 := own_below hoA hb2
    obtain ⟨g, ca, hsh⟩ := shape_of_own hoA2
    clear hrA hrB hb1 hb2 hoA hoA2
    rcases hsh with ⟨hva, hA0⟩ | ⟨hva, hg, hgl, hca, hma, hcell⟩
    · subst hA0
      obtain rfl : n = 0 := by simpa using hal
      have hrow : Row w2 (.slice none 0 0) ([] : List (List UInt8)) := row_nil w2
      have HJ0 := HJL.out 0
      have HJ1 : Hid ((joinD ([] : List (List UInt8))).length ≤ 1048576) := HJ0
      rw [hva]
      clear hva HJ0
      go_wp2_with fail
      refine (joinLabels_any _ [] w2 hrow HJ1).mono ?_
      rintro e w3 ⟨rfl, hb3⟩
      go_wp2_with fail
      go_ret2
      exact ⟨ret_two (by rw [HP.out.1]; rfl) (val_bool HP.out.2.symm), hbb.trans (hb3.mono hbb.size)⟩
    · have HCE : Hid (∀ j, (hj : j < A.length) → w2.cell? ⟨g, j, none⟩ = some (S A[j])) := hcell
      have HR := drop_row hal hca hma hgl HCE
      have HJ1 : Hid ((joinD (A.drop (A.length - n))).length ≤ 1048576) := HJL.out _
      rw [hva]
      clear hva hcell
      unfold maxLen at hma
      by_cases hc1 : ca = A.length - n
      · have hrow := HR.out.1 hc1
        have HC1 : Hid (ca = A.length - n) := hc1
        have e1 : (ca == A.length - n) = true := by simpa using hc1
        go_wp2_with fail
        refine (joinLabels_any _ (A.drop (A.length - n)) w2 hrow HJ1).mono ?_
        rintro e w3 ⟨rfl, hb3⟩
        go_wp2_with fail
        go_ret2
        exact ⟨ret_two (by rw [HP.out.1]; rfl) (val_bool HP.out.2.symm), hbb.trans (hb3.mono hbb.size)⟩
      · have hrow := HR.out.2
        go_wp2_with fail
        refine (joinLabels_any _ (A.drop (A.length - n)) w2 hrow HJ1).mono ?_
        rintro e w3 ⟨rfl, hb3⟩
        go_wp2_with fail
        go_ret2
        exact ⟨ret_two (by rw [HP.out.1]; rfl) (val_bool HP.out.2.symm), hbb.trans (hb3.mono hbb.size)⟩
end Go.Proofs.YtoeffplfkdogdaaDoor
