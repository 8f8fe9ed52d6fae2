import Derived.Test.YtoobaaklklommaaGreatDoorZ24
import Derived.Test.YtoobaaklklommaaGreatDoorZ04
import Derived.Test.YtoobaaklklommaaGreatDoorZ07
namespace Go.Proofs.YtoobaaklklommaaGreatDoor
open Go.RowKit

theorem suffix_below {Q B : List (List UInt8)} (hQ : Plain Q) (hB : Plain B) : belowB (joinD B) (joinD Q) = true ↔ Q <:+ B := by
  unfold belowB
  by_cases q0 : Q = []
  · subst q0; simp [joinD]
  · have jq := plain_ne q0 hQ
    have cq := cut_joinD Q q0 (fun p hp => (hQ p hp).2)
    rw [beq_eq_false_iff_ne.2 jq, Bool.false_or, Bool.or_eq_true, beq_iff_eq]
    constructor
    · rintro (h | h)
      · have b0 : B ≠ [] := by intro e; subst e; exact jq (by rw [← h]; rfl)
        have cb := cut_joinD B b0 (fun p hp => (hB p hp).2)
        rw [h, cq] at cb
        rw [cb]; exact List.suffix_refl _
      · have h := List.isSuffixOf_iff_suffix.1 h
        obtain ⟨x, hx⟩ := h
        have b0 : B ≠ [] := by intro e; subst e; simp [joinD] at hx
        have cb := cut_joinD B b0 (fun p hp => (hB p hp).2)
        rw [← hx, cut_append, cq] at cb
        exact ⟨_, cb⟩
    · rintro ⟨C, rfl⟩
      by_cases c0 : C = []
      · left; rw [c0]; rfl
      · right
        rw [joinD_append C Q c0 q0]
        exact List.isSuffixOf_iff_suffix.2 ⟨joinD C, rfl⟩

theorem alike_ge : ∀ (a b : List (List UInt8)) (m : Nat), m ≤ a.length → (m ≤ alike a b ↔ a.take m <+: b)
  | _, _, 0, _ => by simp
  | [], _, m + 1, h => by simp at h
  | p :: a, [], m + 1, _ => by simp [alike]
  | p :: a, q :: b, m + 1, h => by
    have ih := alike_ge a b m (by simpa using h)
    by_cases hpq : p = q
    · simp [alike, hpq, ih]
    · simp [alike, hpq]

theorem below_drop {A B : List (List UInt8)} (hA : Plain A) (hB : Plain B) (j : Nat) (_hj : j ≤ A.length) :
    belowB (joinD B) (joinD (A.drop j)) = decide (A.length - j ≤ alike A.reverse B.reverse) := by
  rw [Bool.eq_iff_iff, suffix_below (hA.drop j) hB, decide_eq_true_eq, alike_ge _ _ _ (by simp), ← List.reverse_prefix]
  rw [List.reverse_drop]

theorem parent_drop {A : List (List UInt8)} (hA : Plain A) (j : Nat) (hj : j < A.length) : parentL (joinD (A.drop j)) = joinD (A.drop (j + 1)) := by
  have h0 : A.drop j ≠ [] := by simp; omega
  rw [parent_join, cut_joinD _ h0 (fun p hp => (hA.drop j p hp).2), List.tail_drop]
theorem drop_shorter {A : List (List UInt8)} (hA : Plain A) (j : Nat) (hj : j < A.length) : (joinD (A.drop (j + 1))).length < (joinD (A.drop j)).length := by
  rw [List.drop_eq_getElem_cons hj, joinD]
  have hp := (hA A[j] (List.getElem_mem _)).1
  have := List.length_pos_iff.2 hp
  split
  · rename_i h; rw [h]; simpa [joinD] using this
  · simp; omega
theorem drop_le (A : List (List UInt8)) (j : Nat) : (joinD (A.drop j)).length ≤ (joinD A).length := by
  by_cases h0 : A.take j = []
  · have : A.drop j = A := by
      have e := List.take_append_drop j A
      rw [h0] at e; exact e
    rw [this]; exact Nat.le_refl _
  · by_cases h1 : A.drop j = []
    · rw [h1]; simp [joinD]
    · have := joinD_append _ _ h0 h1
      rw [List.take_append_drop] at this
      rw [this]; simp; omega
end Go.Proofs.YtoobaaklklommaaGreatDoor

namespace Go.Proofs.YtoobaaklklommaaGreatDoor
open Go.RowKit

theorem labels_join {Q : List (List UInt8)} (hQ : Plain Q) : labelsOf (joinD Q) = Q := by
  unfold labelsOf
  by_cases q0 : Q = []
  · subst q0; rfl
  · rw [if_neg (plain_ne q0 hQ)]
    exact cut_joinD Q q0 (fun p hp => (hQ p hp).2)
theorem name_parts {l : List UInt8} (h : nameB l = true) : (∀ p ∈ labelsOf l, labelB p = true) ∧ l.length ≤ 60 ∧ (labelsOf l).length ≤ 8 := by
  unfold nameB at h
  simp only [Bool.and_eq_true, List.all_eq_true, decide_eq_true_eq] at h
  exact ⟨h.1, h.2.1, h.2.2⟩
theorem name_mk {l : List UInt8} (h1 : ∀ p ∈ labelsOf l, labelB p = true) (h2 : l.length ≤ 60) (h3 : (labelsOf l).length ≤ 8) : nameB l = true := by
  unfold nameB
  simp only [Bool.and_eq_true, List.all_eq_true, decide_eq_true_eq]
  exact ⟨h1, h2, h3⟩
/-- What is above a name is one. -/
theorem name_drop {l : List UInt8} (h : nameB l = true) (j : Nat) : nameB (joinD ((labelsOf l).drop j)) = true := by
  have hp := name_plain h
  obtain ⟨h1, h2, h3⟩ := name_parts h
  have e := labels_join (hp.drop j)
  refine name_mk ?_ ?_ ?_
  · rw [e]; exact fun p hpp => h1 p (List.mem_of_mem_drop hpp)
  · have := drop_le (labelsOf l) j
    rw [joinD_labels] at this; omega
  · rw [e, List.length_drop]; omega
theorem names_back {l : List UInt8} (h : nameB l = true) : nameOfB (labelsOf l) = true ∧ nameOfT (labelsOf l) = l := by
  have h1 : nameOfB (labelsOf l) = true := by
    unfold nameOfB
    rw [joinD_labels, h, Bool.and_true, List.all_eq_true]
    exact (name_parts h).1
  exact ⟨h1, by unfold nameOfT; rw [if_pos h1, joinD_labels]⟩
theorem labels_nil {l : List UInt8} : labelsOf l = [] ↔ l = [] := by
  unfold labelsOf
  split
  · simp_all
  · rename_i h; simp [cut_ne, h]
theorem parent_one {l : List UInt8} (h : nameB l = true) (h0 : l ≠ []) : parentL l = joinD ((labelsOf l).drop 1) := by
  have hp := name_plain h
  have hl : 0 < (labelsOf l).length := List.length_pos_iff.2 (fun e => h0 (labels_nil.1 e))
  have e := parent_drop hp 0 hl
  rw [List.drop_zero, joinD_labels] at e
  exact e
theorem parent_name {l : List UInt8} (h : nameB l = true) (h0 : l ≠ []) : nameB (parentL l) = true ∧ labelsOf (parentL l) = (labelsOf l).drop 1 ∧ belowB l (parentL l) = true := by
  rw [parent_one h h0]
  refine ⟨name_drop h 1, labels_join ((name_plain h).drop 1), ?_⟩
  have e := (suffix_below ((name_plain h).drop 1) (name_plain h)).2 (List.drop_suffix 1 _)
  rw [joinD_labels] at e
  exact e

theorem foldC_twice (c : UInt8) : foldC (foldC c) = foldC c := by
  by_cases h : 65 ≤ c.toNat ∧ c.toNat ≤ 90
  · have e := foldC_toNat h.1 h.2
    exact foldC_same (by omega)
  · rw [foldC_same h, foldC_same h]
theorem fold_twice {l : List UInt8} (h : foldB l = true) : foldB (foldT l) = true ∧ foldT (foldT l) = foldT l := by
  have h' := h
  unfold foldB at h'
  simp only [Bool.and_eq_true, decide_eq_true_eq] at h'
  have e : foldT l = l.map foldC := by unfold foldT; rw [if_pos h']
  have e2 : (l.map foldC).map foldC = l.map foldC := by rw [List.map_map]; exact List.map_congr_left (fun c _ => foldC_twice c)
  have hl : (l.map foldC).length ≤ 60 := by simpa using h'.1
  rw [e]
  refine ⟨?_, ?_⟩
  · unfold foldB; rw [e2, h'.2]; simpa using h'.1
  · unfold foldT; rw [e2, if_pos ⟨hl, h'.2⟩]

theorem alike_comm : ∀ a b : List (List UInt8), alike a b = alike b a
  | [], [] => rfl
  | [], _ :: _ => rfl
  | _ :: _, [] => rfl
  | p :: a, q :: b => by
    by_cases h : p = q
    · simp [alike, h, alike_comm a b]
    · simp [alike, h, Ne.symm h]
theorem alike_take : ∀ a b : List (List UInt8), a.take (alike a b) = b.take (alike a b)
  | [], [] => rfl
  | [], _ :: _ => rfl
  | _ :: _, [] => rfl
  | p :: a, q :: b => by
    by_cases h : p = q
    · simp [alike, h, alike_take a b]
    · simp [alike, h]
def comN (a b : List UInt8) : Nat := alike (labelsOf a).reverse (labelsOf b).reverse
theorem drop_rev (A : List (List UInt8)) (n : Nat) : A.drop (A.length - n) = (A.reverse.take n).reverse := by
  rw [List.take_reverse, List.reverse_reverse]
theorem com_drops (a b : List UInt8) : (labelsOf a).drop ((labelsOf a).length - comN a b) = (labelsOf b).drop ((labelsOf b).length - comN b a) := by
  rw [drop_rev, drop_rev]
  unfold comN
  rw [alike_comm (labelsOf b).reverse, alike_take]
/-- The name above both. -/
def comL (a b : List UInt8) : List UInt8 := joinD ((labelsOf a).drop ((labelsOf a).length - comN a b))
theorem com_comm (a b : List UInt8) : comL b a = comL a b := by unfold comL; rw [com_drops a b]
theorem com_name {a : List UInt8} (b : List UInt8) (ha : nameB a = true) : nameB (comL a b) = true := name_drop ha _
theorem com_above {a : List UInt8} (b : List UInt8) (ha : nameB a = true) : belowB a (comL a b) = true := by
  have e := (suffix_below ((name_plain ha).drop ((labelsOf a).length - comN a b)) (name_plain ha)).2 (List.drop_suffix _ _)
  rw [joinD_labels] at e
  exact e
theorem com_is {a b : List UInt8} (ha : nameB a = true) (hb : nameB b = true) : belowB a b = (comL a b == b) := by
  have h := below_drop (name_plain hb) (name_plain ha) 0 (Nat.zero_le _)
  rw [List.drop_zero, joinD_labels, joinD_labels, Nat.sub_zero] at h
  rw [h, ← com_comm, Bool.eq_iff_iff, decide_eq_true_eq, beq_iff_eq]
  constructor
  · intro hl
    unfold comL comN
    rw [Nat.sub_eq_zero_of_le hl, List.drop_zero, joinD_labels]
  · intro e
    have e2 := congrArg labelsOf e
    unfold comL at e2
    rw [labels_join ((name_plain hb).drop _)] at e2
    have e3 := congrArg List.length e2
    rw [List.length_drop] at e3
    unfold comN at e3
    have := (alike_le (labelsOf b).reverse (labelsOf a).reverse).1
    simp at this
    by_cases h0 : (labelsOf b).length = 0
    · omega
    · omega
end Go.Proofs.YtoobaaklklommaaGreatDoor
