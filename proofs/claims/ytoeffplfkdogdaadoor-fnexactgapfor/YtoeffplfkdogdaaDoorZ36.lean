import Derived.Test.YtoeffplfkdogdaaDoorZ26
import Derived.Test.YtoeffplfkdogdaaDoorZ24
import Derived.Test.YtoeffplfkdogdaaDoorZ35
namespace Go.Proofs.YtoeffplfkdogdaaDoor
open Go.RowKit

theorem below_iff {a b : List UInt8} (ha : nameB a = true) (hb : nameB b = true) : belowB a b = true ↔ (labelsOf b).reverse <+: (labelsOf a).reverse := by
  have h := suffix_below (name_plain hb) (name_plain ha)
  rw [joinD_labels, joinD_labels] at h
  rw [h, List.reverse_prefix]
theorem pre_le : ∀ p z : List (List UInt8), p <+: z → cmpR p z ≠ 1
  | [], [], _ => by decide
  | [], _ :: _, _ => by simp [cmpR]
  | p :: a, [], h => by simp at h
  | p :: a, q :: z, h => by
    have h' := List.cons_prefix_cons.1 h
    obtain ⟨rfl, h2⟩ := h'
    have ih := pre_le a z h2
    simp [cmpR, ih]
/-- What lies between a name and one below it is below it, too. -/
theorem pre_mid : ∀ p x z : List (List UInt8), cmpR p x = -1 → cmpR x z = -1 → p <+: z → p <+: x
  | [], _, _, _, _, _ => List.nil_prefix
  | p :: a, [], _, h1, _, _ => by simp [cmpR] at h1
  | p :: a, q :: x, [], _, _, h3 => by simp at h3
  | p :: a, q :: x, r :: z, h1, h2, h3 => by
    obtain ⟨rfl, h4⟩ := List.cons_prefix_cons.1 h3
    by_cases e : p = q
    · subst e
      simp [cmpR] at h1 h2
      exact List.cons_prefix_cons.2 ⟨rfl, pre_mid a x z h1 h2 h4⟩
    · simp [cmpR, e, Ne.symm e] at h1 h2
      have := cmp_swap p q
      omega
theorem cmp_below {a b : List UInt8} (ha : nameB a = true) (hb : nameB b = true) (h : belowB a b = true) : cmpN a b ≠ -1 := by
  have h1 := pre_le _ _ ((below_iff ha hb).1 h)
  have h2 := cmpN_swap b a
  unfold cmpN at h2 ⊢
  omega
/-- In a list that rises those below one stand right behind it. -/
theorem block_of {S : List (List UInt8)} (hs : S.Pairwise ltN) (hn : ∀ x ∈ S, nameB x = true) {i j k : Nat} (hij : i ≤ j) (hjk : j < k) (hk : k < S.length) (h : belowB S[k] (S[i]'(by omega)) = true) : belowB (S[j]'(by omega)) (S[i]'(by omega)) = true := by
  have ni := hn (S[i]'(by omega)) (List.getElem_mem _)
  have nj := hn (S[j]'(by omega)) (List.getElem_mem _)
  have nk := hn S[k] (List.getElem_mem _)
  rw [below_iff nj ni]
  rw [below_iff nk ni] at h
  rcases Nat.lt_or_ge i j with hlt | hge
  · have h1 : ltN (S[i]'(by omega)) (S[j]'(by omega)) := List.pairwise_iff_getElem.1 hs i j (by omega) (by omega) hlt
    have h2 : ltN (S[j]'(by omega)) S[k] := List.pairwise_iff_getElem.1 hs j k (by omega) hk hjk
    exact pre_mid _ _ _ h1 h2 h
  · have e : i = j := by omega
    subst e; exact List.prefix_refl _
theorem cmp_T {a b : List UInt8} (ha : nameB a = true) (hb : nameB b = true) : cmpT a b = cmpN a b ∧ cmpB a b = true := by
  unfold cmpT cmpB cmpN; rw [ha, hb]; exact ⟨rfl, rfl⟩
theorem cmp_iff (a b : List UInt8) : (cmpN a b == 0) = (a == b) := by
  rw [Bool.eq_iff_iff, beq_iff_eq, beq_iff_eq]
  exact ⟨cmpN_zero, fun e => by rw [e, cmpN_self]⟩
end Go.Proofs.YtoeffplfkdogdaaDoor
