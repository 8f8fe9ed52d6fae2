import Derived.Test.YtgccbkoklhohfaaDoorZ23
import Derived.Test.YtgccbkoklhohfaaDoorZ24
namespace Go.Proofs.YtgccbkoklhohfaaDoor
open Go.RowKit

theorem ptr_two (n : Nat) : (ptr n).length = 2 := rfl
theorem pack_le (T : List (List UInt8)) (ps : List Nat) : ∀ P : List (List UInt8), (∀ p ∈ P, p ≠ []) → (packL T ps P).length ≤ (wireL P).length
  | [], _ => Nat.le_refl _
  | x :: r, h => by
    have ih := pack_le T ps r (fun p hp => h p (by simp [hp]))
    have hx := List.length_pos_iff.2 (h x (by simp))
    have hw : 1 ≤ (wireL r).length := by cases r <;> simp [wireL]
    unfold packL wireL
    split
    · rw [ptr_two]; simp; omega
    · simp; omega
theorem packAll_le : ∀ (P : List (List UInt8)) (b : List UInt8), (∀ p ∈ P, nameB p = true) → (packAll b P).length ≤ b.length + sumN P
  | [], b, _ => by simp [packAll]
  | s :: r, b, h => by
    have ih := packAll_le r (b ++ packed b s) (fun p hp => h p (by simp [hp]))
    have hp := pack_le (putT b (sufs b)) (sufs b) (labelsOf s) (fun p hpp => (name_plain (h s (by simp)) p hpp).1)
    have hs : sumN (s :: r) = (wireL (labelsOf s)).length + sumN r := by simp [sumN]
    rw [packAll, hs]
    rw [List.length_append] at ih
    unfold packed at ih
    unfold packed
    omega
theorem pk_good : ∀ (P : List (List UInt8)) (b z : List UInt8), pkR b P = some z → ∀ p ∈ P, nameB p = true
  | [], _, _, _, p, hp => by cases hp
  | s :: r, b, z, h, p, hp => by
    rw [pkR] at h
    cases hq : putR b s with
    | none => rw [hq] at h; cases h
    | some y =>
      rw [hq] at h
      have hn : nameB s = true := by
        unfold putR at hq
        split at hq
        · rename_i hc; exact hc.2.1
        · cases hq
      rcases List.mem_cons.1 hp with e | e
      · rw [e]; exact hn
      · exact pk_good r y z h p e
theorem chain_unp (l : List UInt8) : ∀ (P : List (List UInt8)) (a : Nat), Chain l a P → unp l P.length a = some P
  | [], a, h => by
    have h' : a = l.length := h
    rw [List.length_nil, unp, if_pos h']
  | s :: r, a, h => by
    obtain ⟨e, q, ht, hr⟩ := h
    rw [List.length_cons, unp, ht]
    simp only [chain_unp l r e hr, Option.map_some]
/-- Names come back from their bytes, which are no more than without pointers. -/
theorem pack_back {P : List (List UInt8)} {z : List UInt8} (h : packR P = some z) : unpI z (P.length : Int) = some P ∧ (z.length : Int) ≤ ((sumN P : Nat) : Int) ∧ P.length ≤ 20 ∧ z.length ≤ 600 := by
  unfold packR at h
  split at h
  · rename_i hl
    have hg := pk_good P [] z h
    rw [pkR_all P [] hg (by simp)] at h
    split at h
    · rename_i h6
      cases h
      have hc := chain_pack hg (by omega)
      have hle := packAll_le P [] hg
      refine ⟨?_, ?_, hl, h6⟩
      · rw [unpI_in _ _ h6 hl]; exact chain_unp _ P 0 hc
      · simp at hle; omega
    · cases h
  · cases h
theorem unp_good (l : List UInt8) : ∀ (m a : Nat) (X : List (List UInt8)), unp l m a = some X → ∀ x ∈ X, nameB x = true
  | 0, a, X, h, x, hx => by
    rw [unp] at h
    split at h
    · cases h; cases hx
    · cases h
  | m + 1, a, X, h, x, hx => by
    rw [unp] at h
    cases ht : takeN l a with
    | none => rw [ht] at h; cases h
    | some t =>
      obtain ⟨nm, e, q⟩ := t
      rw [ht] at h
      simp only at h
      cases hu : unp l m e with
      | none => rw [hu] at h; cases h
      | some Y =>
        rw [hu] at h
        simp only [Option.map_some, Option.some.injEq] at h
        subst h
        rcases List.mem_cons.1 hx with e1 | e1
        · subst e1
          unfold takeN at ht
          cases hr : takeR l a with
          | none => rw [hr] at ht; cases ht
          | some t2 =>
            obtain ⟨R, e2, q2⟩ := t2
            rw [hr] at ht
            simp only [nmR] at ht
            by_cases hn : nameOfB (R.map foldL) = true
            · rw [if_pos hn] at ht
              simp only [Option.some.injEq, Prod.mk.injEq] at ht
              rw [← ht.1]
              unfold nameOfB at hn
              exact (Bool.and_eq_true_iff.1 hn).2
            · rw [if_neg hn] at ht; cases ht
        · exact unp_good l m e Y hu x e1
theorem unpI_good {l : List UInt8} {m : Int} {X : List (List UInt8)} (h : unpI l m = some X) : ∀ x ∈ X, nameB x = true := by
  unfold unpI at h
  split at h
  · exact unp_good l _ 0 X h
  · cases h
end Go.Proofs.YtgccbkoklhohfaaDoor
