import Derived.Test.YtdmellmmhipncaaGreatDoorZ27
import Derived.Test.YtdmellmmhipncaaGreatDoorZ05
import Derived.Test.YtdmellmmhipncaaGreatDoorZ10
namespace Go.Proofs.YtdmellmmhipncaaGreatDoor
open Go.RowKit

theorem suffix_below {Q B : List (List UInt8)} (hQ : Plain Q) (hB : Plain B) : belowB (joinD B) (joinD Q) = true ↔ Q <:+ B := by
  unfold belowB
  by_cases q0 : Q = []
  · subst q0; simp [joinD]
  · have jq := plain_ne q0 hQ
    have cq := cut_joinD Q q0 (fun p hp => (hQ p hp).2)
    rw [beq_eq_false_iff_ne.2 jq, Bool.false_or, Bool.or_eq_true, beq_iff_eq]
    constructor
    · rintro (h | h)
      · have b0 : B ≠ [] := by intro e; subst e; exact jq (by rw [← h]; rfl)
        have cb := cut_joinD B b0 (fun p hp => (hB p hp).2)
        rw [h, cq] at cb
        rw [cb]; exact List.suffix_refl _
      · have h := List.isSuffixOf_iff_suffix.1 h
        obtain ⟨x, hx⟩ := h
        have b0 : B ≠ [] := by intro e; subst e; simp [joinD] at hx
        have cb := cut_joinD B b0 (fun p hp => (hB p hp).2)
        rw [← hx, cut_append, cq] at cb
        exact ⟨_, cb⟩
    · rintro ⟨C, rfl⟩
      by_cases c0 : C = []
      · left; rw [c0]; rfl
      · right
        rw [joinD_append C Q c0 q0]
        exact List.isSuffixOf_iff_suffix.2 ⟨joinD C, rfl⟩

theorem alike_ge : ∀ (a b : List (List UInt8)) (m : Nat), m ≤ a.length → (m ≤ alike a b ↔ a.take m <+: b)
  | _, _, 0, _ => by simp
  | [], _, m + 1, h => by simp at h
  | p :: a, [], m + 1, _ => by simp [alike]
  | p :: a, q :: b, m + 1, h => by
    have ih := alike_ge a b m (by simpa using h)
    by_cases hpq : p = q
    · simp [alike, hpq, ih]
    · simp [alike, hpq]

theorem below_drop {A B : List (List UInt8)} (hA : Plain A) (hB : Plain B) (j : Nat) (_hj : j ≤ A.length) :
    belowB (joinD B) (joinD (A.drop j)) = decide (A.length - j ≤ alike A.reverse B.reverse) := by
  rw [Bool.eq_iff_iff, suffix_below (hA.drop j) hB, decide_eq_true_eq, alike_ge _ _ _ (by simp), ← List.reverse_prefix]
  rw [List.reverse_drop]

theorem parent_drop {A : List (List UInt8)} (hA : Plain A) (j : Nat) (hj : j < A.length) : parentL (joinD (A.drop j)) = joinD (A.drop (j + 1)) := by
  have h0 : A.drop j ≠ [] := by simp; omega
  rw [parent_join, cut_joinD _ h0 (fun p hp => (hA.drop j p hp).2), List.tail_drop]
theorem drop_shorter {A : List (List UInt8)} (hA : Plain A) (j : Nat) (hj : j < A.length) : (joinD (A.drop (j + 1))).length < (joinD (A.drop j)).length := by
  rw [List.drop_eq_getElem_cons hj, joinD]
  have hp := (hA A[j] (List.getElem_mem _)).1
  have := List.length_pos_iff.2 hp
  split
  · rename_i h; rw [h]; simpa [joinD] using this
  · simp; omega
theorem drop_le (A : List (List UInt8)) (j : Nat) : (joinD (A.drop j)).length ≤ (joinD A).length := by
  by_cases h0 : A.take j = []
  · have : A.drop j = A := by
      have e := List.take_append_drop j A
      rw [h0] at e; exact e
    rw [this]; exact Nat.le_refl _
  · by_cases h1 : A.drop j = []
    · rw [h1]; simp [joinD]
    · have := joinD_append _ _ h0 h1
      rw [List.take_append_drop] at this
      rw [this]; simp; omega
end Go.Proofs.YtdmellmmhipncaaGreatDoor
