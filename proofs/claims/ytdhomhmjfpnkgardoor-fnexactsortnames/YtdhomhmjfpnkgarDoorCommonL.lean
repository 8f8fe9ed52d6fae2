import Derived.Test.YtdhomhmjfpnkgarDoorCompare
import Derived.Test.YtdhomhmjfpnkgarDoorIsBelow
import Derived.Test.YtdhomhmjfpnkgarDoorParent
namespace Go.Proofs.YtdhomhmjfpnkgarDoor
open Go.RowKit

theorem cut_append (b : UInt8) : ∀ (x y : List UInt8), cut b (x ++ b :: y) = cut b x ++ cut b y
  | [], y => by simp [cut]
  | c :: x, y => by
    have ih := cut_append b x y
    by_cases h : c = b
    · simp [cut, h, ih]
    · cases e : cut b x with
      | nil => exact absurd e (cut_ne b x)
      | cons p r => rw [e] at ih; simp [cut, h, ih, e]
theorem cut_no (b : UInt8) : ∀ l, ∀ p ∈ cut b l, b ∉ p
  | [], p, hp => by simp [cut] at hp; simp [hp]
  | c :: l, p, hp => by
    have ih := cut_no b l
    by_cases h : c = b
    · simp only [cut, h, if_true, List.mem_cons] at hp
      rcases hp with rfl | hp
      · simp
      · exact ih p hp
    · cases e : cut b l with
      | nil => exact absurd e (cut_ne b l)
      | cons q r =>
        simp only [cut, h, if_false, e, List.mem_cons] at hp
        rcases hp with rfl | hp
        · have := ih q (by rw [e]; simp)
          simp only [List.mem_cons, not_or]; exact ⟨fun e => h e.symm, this⟩
        · exact ih p (by rw [e]; simp [hp])
theorem cut_plain (b : UInt8) : ∀ l : List UInt8, b ∉ l → cut b l = [l]
  | [], _ => rfl
  | c :: l, h => by
    simp only [List.mem_cons, not_or] at h
    have ih := cut_plain b l h.2
    simp [cut, Ne.symm h.1, ih]
theorem cut_joinD : ∀ Q : List (List UInt8), Q ≠ [] → (∀ p ∈ Q, 46 ∉ p) → cut 46 (joinD Q) = Q
  | [], h, _ => absurd rfl h
  | [p], _, h => by simp [joinD, cut_plain 46 p (h p (by simp))]
  | p :: q :: r, _, h => by
    have ih := cut_joinD (q :: r) (by simp) (fun x hx => h x (by simp at hx ⊢; right; exact hx))
    rw [joinD, if_neg (by simp), cut_append, ih, cut_plain 46 p (h p (by simp))]
    rfl

/-- Labels that are not empty and hold no dot. -/
def Plain (Q : List (List UInt8)) : Prop := ∀ p ∈ Q, p ≠ [] ∧ 46 ∉ p
theorem Plain.drop {Q : List (List UInt8)} (h : Plain Q) (k : Nat) : Plain (Q.drop k) := fun p hp => h p (List.mem_of_mem_drop hp)
theorem plain_ne {r : List (List UInt8)} (hr : r ≠ []) (h : Plain r) : joinD r ≠ [] := by
  match r, hr with
  | p :: q, _ =>
    have hp := (h p (by simp)).1
    unfold joinD
    split
    · exact hp
    · simp
theorem lab_ne {p : List UInt8} (h : labelB p = true) : p ≠ [] := by
  intro e; subst e; revert h; decide
theorem name_plain {l : List UInt8} (h : nameB l = true) : Plain (labelsOf l) := by
  intro p hp
  have h1 : labelB p = true := by
    unfold nameB at h; simp only [Bool.and_eq_true, List.all_eq_true] at h; exact h.1 p hp
  refine ⟨lab_ne h1, ?_⟩
  unfold labelsOf at hp
  split at hp
  · simp at hp
  · exact cut_no 46 l p hp
theorem joinD_labels (l : List UInt8) : joinD (labelsOf l) = l := by
  unfold labelsOf
  split
  · rename_i h; rw [h]; rfl
  · exact joinD_cut l

theorem suffix_below {Q B : List (List UInt8)} (hQ : Plain Q) (hB : Plain B) : belowB (joinD B) (joinD Q) = true ↔ Q <:+ B := by
  unfold belowB
  by_cases q0 : Q = []
  · subst q0; simp [joinD]
  · have jq := plain_ne q0 hQ
    have cq := cut_joinD Q q0 (fun p hp => (hQ p hp).2)
    rw [beq_eq_false_iff_ne.2 jq, Bool.false_or, Bool.or_eq_true, beq_iff_eq]
    constructor
    · rintro (h | h)
      · have b0 : B ≠ [] := by intro e; subst e; exact jq (by rw [← h]; rfl)
        have cb := cut_joinD B b0 (fun p hp => (hB p hp).2)
        rw [h, cq] at cb
        rw [cb]; exact List.suffix_refl _
      · have h := List.isSuffixOf_iff_suffix.1 h
        obtain ⟨x, hx⟩ := h
        have b0 : B ≠ [] := by intro e; subst e; simp [joinD] at hx
        have cb := cut_joinD B b0 (fun p hp => (hB p hp).2)
        rw [← hx, cut_append, cq] at cb
        exact ⟨_, cb⟩
    · rintro ⟨C, rfl⟩
      by_cases c0 : C = []
      · left; rw [c0]; rfl
      · right
        rw [joinD_append C Q c0 q0]
        exact List.isSuffixOf_iff_suffix.2 ⟨joinD C, rfl⟩

theorem alike_ge : ∀ (a b : List (List UInt8)) (m : Nat), m ≤ a.length → (m ≤ alike a b ↔ a.take m <+: b)
  | _, _, 0, _ => by simp
  | [], _, m + 1, h => by simp at h
  | p :: a, [], m + 1, _ => by simp [alike]
  | p :: a, q :: b, m + 1, h => by
    have ih := alike_ge a b m (by simpa using h)
    by_cases hpq : p = q
    · simp [alike, hpq, ih]
    · simp [alike, hpq]

theorem below_drop {A B : List (List UInt8)} (hA : Plain A) (hB : Plain B) (j : Nat) (_hj : j ≤ A.length) :
    belowB (joinD B) (joinD (A.drop j)) = decide (A.length - j ≤ alike A.reverse B.reverse) := by
  rw [Bool.eq_iff_iff, suffix_below (hA.drop j) hB, decide_eq_true_eq, alike_ge _ _ _ (by simp), ← List.reverse_prefix]
  rw [List.reverse_drop]

theorem parent_drop {A : List (List UInt8)} (hA : Plain A) (j : Nat) (hj : j < A.length) : parentL (joinD (A.drop j)) = joinD (A.drop (j + 1)) := by
  have h0 : A.drop j ≠ [] := by simp; omega
  rw [parent_join, cut_joinD _ h0 (fun p hp => (hA.drop j p hp).2), List.tail_drop]
theorem drop_shorter {A : List (List UInt8)} (hA : Plain A) (j : Nat) (hj : j < A.length) : (joinD (A.drop (j + 1))).length < (joinD (A.drop j)).length := by
  rw [List.drop_eq_getElem_cons hj, joinD]
  have hp := (hA A[j] (List.getElem_mem _)).1
  have := List.length_pos_iff.2 hp
  split
  · rename_i h; rw [h]; simpa [joinD] using this
  · simp; omega
theorem drop_le (A : List (List UInt8)) (j : Nat) : (joinD (A.drop j)).length ≤ (joinD A).length := by
  by_cases h0 : A.take j = []
  · have : A.drop j = A := by
      have e := List.take_append_drop j A
      rw [h0] at e; exact e
    rw [this]; exact Nat.le_refl _
  · by_cases h1 : A.drop j = []
    · rw [h1]; simp [joinD]
    · have := joinD_append _ _ h0 h1
      rw [List.take_append_drop] at this
      rw [this]; simp; omega
end Go.Proofs.YtdhomhmjfpnkgarDoor
