import Derived.Test.YtmhiopkpjdnddaaDoorNamP
import Derived.Test.YtmhiopkpjdnddaaDoorCommon
namespace Go.Proofs.YtmhiopkpjdnddaaDoor
open Go.RowKit

theorem cmp_both {a b : List UInt8} (h : cmpB a b = true) : nameB a = true ∧ nameB b = true := by
  unfold cmpB at h; simpa using h
theorem com_T {a b : List UInt8} (h : cmpB a b = true) : commonT a b = comL a b := by
  obtain ⟨ha, hb⟩ := cmp_both h
  unfold commonT; rw [ha, hb]; rfl
theorem com_T2 {a b : List UInt8} (h : cmpB a b = true) : commonT b a = comL a b ∧ cmpB b a = true := by
  obtain ⟨ha, hb⟩ := cmp_both h
  have h2 : cmpB b a = true := by unfold cmpB; rw [ha, hb]; rfl
  exact ⟨by rw [com_T h2, com_comm], h2⟩
theorem com_no {a b : List UInt8} (h : cmpB a b = false) : commonT a b = [] := by
  unfold cmpB at h
  unfold commonT; rw [h]; rfl
theorem below_T {a b : List UInt8} (ha : nameB a = true) (hb : nameB b = true) : belowT a b = belowB a b ∧ bothB a b = true := by
  unfold belowT bothB; rw [ha, hb]; exact ⟨rfl, rfl⟩
/-- How many steps lie between a name and what it has in common with another. -/
def comS (a b : List UInt8) : Nat := (labelsOf a).length - comN a b
theorem comS_le (a b : List UInt8) : comS a b ≤ (labelsOf a).length := Nat.sub_le _ _
theorem com_end (a b : List UInt8) : joinD ((labelsOf a).drop (comS a b)) = comL a b := rfl
theorem com_start (a : List UInt8) : joinD ((labelsOf a).drop 0) = a := by rw [List.drop_zero, joinD_labels]
theorem com_step {a b : List UInt8} (ha : nameB a = true) (hb : nameB b = true) {j : Nat} (hj : j < comS a b) :
    joinD ((labelsOf a).drop j) ≠ comL a b ∧ belowT b (joinD ((labelsOf a).drop j)) = false ∧ bothB b (joinD ((labelsOf a).drop j)) = true ∧
      parentT (joinD ((labelsOf a).drop j)) = joinD ((labelsOf a).drop (j + 1)) ∧ parentB (joinD ((labelsOf a).drop j)) = true ∧
      (joinD ((labelsOf a).drop (j + 1))).length < (joinD ((labelsOf a).drop j)).length := by
  have hle := comS_le a b
  have hp := name_plain ha
  have hn := name_drop ha j
  have hlt := drop_shorter hp j (by omega)
  have hne : joinD ((labelsOf a).drop j) ≠ [] := by
    intro e; rw [e] at hlt; simp at hlt
  refine ⟨fun e => ?_, ?_, ?_, ?_, ?_, hlt⟩
  · have e2 := congrArg labelsOf e
    rw [← com_end, labels_join (hp.drop j), labels_join (hp.drop _)] at e2
    have e3 := congrArg List.length e2
    rw [List.length_drop, List.length_drop] at e3
    omega
  · rw [(below_T hb hn).1]
    have h := below_drop hp (name_plain hb) j (by omega)
    rw [joinD_labels] at h
    rw [h, decide_eq_false_iff_not]
    unfold comS comN at hj
    omega
  · exact (below_T hb hn).2
  · unfold parentT; rw [if_pos ⟨hn, hne⟩]; exact parent_drop hp j (by omega)
  · unfold parentB; rw [hn]; simp [hne]
end Go.Proofs.YtmhiopkpjdnddaaDoor
