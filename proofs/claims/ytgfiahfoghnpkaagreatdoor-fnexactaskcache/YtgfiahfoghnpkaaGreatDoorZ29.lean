import Derived.Test.YtgfiahfoghnpkaaGreatDoorZ27
import Derived.Test.YtgfiahfoghnpkaaGreatDoorZ28
import Derived.Test.YtgfiahfoghnpkaaGreatDoorZ14
import Derived.Test.YtgfiahfoghnpkaaGreatDoorZ11
namespace Go.Proofs.YtgfiahfoghnpkaaGreatDoor
open Go.RowKit

/-- All neighbours of a list are so. -/
def adjB (p : (List UInt8 × Int × Int × List UInt8) → (List UInt8 × Int × Int × List UInt8) → Bool) : List (List UInt8 × Int × Int × List UInt8) → Bool
  | [] => true
  | [_] => true
  | x :: y :: r => p x y && adjB p (y :: r)
theorem adj_iff (p : (List UInt8 × Int × Int × List UInt8) → (List UInt8 × Int × Int × List UInt8) → Bool) : ∀ L : List (List UInt8 × Int × Int × List UInt8), adjB p L = true ↔ ∀ j, (h : j + 1 < L.length) → p (L[j]'(by omega)) L[j + 1] = true
  | [] => ⟨fun _ j h => by simp at h, fun _ => rfl⟩
  | [_] => ⟨fun _ j h => by simp at h, fun _ => rfl⟩
  | x :: y :: r => by
    have ih := adj_iff p (y :: r)
    rw [adjB, Bool.and_eq_true, ih]
    constructor
    · rintro ⟨h1, h2⟩ j h
      cases j with
      | zero => exact h1
      | succ j => exact h2 j (by simpa using h)
    · intro h
      exact ⟨h 0 (by simp), fun j hj => h (j + 1) (by simpa using hj)⟩
theorem adj_bad {p : (List UInt8 × Int × Int × List UInt8) → (List UInt8 × Int × Int × List UInt8) → Bool} {L : List (List UInt8 × Int × Int × List UInt8)} (j : Nat) (h : j + 1 < L.length) (hp : p (L[j]'(by omega)) L[j + 1] = false) : adjB p L = false := by
  cases hc : adjB p L with
  | false => exact rfl
  | true => exact absurd ((adj_iff p L).1 hc j h) (by rw [hp]; simp)
/-- The order of records. -/
def cmp4 (x y : (List UInt8 × Int × Int × List UInt8)) : Int := ordR x.1 x.2.1 x.2.2.1 x.2.2.2 y.1 y.2.1 y.2.2.1 y.2.2.2
def risesB (L : List (List UInt8 × Int × Int × List UInt8)) : Bool := adjB (fun x y => decide (cmp4 x y < 0)) L
end Go.Proofs.YtgfiahfoghnpkaaGreatDoor

namespace Go.Proofs.YtgfiahfoghnpkaaGreatDoor
open Go.RowKit

/-- A comparison that tells an order: of two one is less, or neither. -/
structure TP {α : Type} (c : α → α → Int) : Prop where
  anti : ∀ x y, c x y < 0 ↔ 0 < c y x
  tr : ∀ x y z, c x y ≤ 0 → c y z ≤ 0 → c x z ≤ 0
theorem TP.ltr {α : Type} {c : α → α → Int} (h : TP c) {x y z : α} (h1 : c x y < 0) (h2 : c y z ≤ 0) : c x z < 0 := by
  have h3 := h.tr x y z (by omega) h2
  rcases Int.lt_or_eq_of_le h3 with k | k
  · exact k
  · have a1 := h.anti x z
    have a2 := h.anti y x
    have a3 := h.anti x y
    have h4 := h.tr y z x h2 (by omega)
    omega
theorem TP.ltl {α : Type} {c : α → α → Int} (h : TP c) {x y z : α} (h1 : c x y ≤ 0) (h2 : c y z < 0) : c x z < 0 := by
  have h3 := h.tr x y z h1 (by omega)
  rcases Int.lt_or_eq_of_le h3 with k | k
  · exact k
  · have a1 := h.anti x z
    have a2 := h.anti z y
    have a3 := h.anti y z
    have h4 := h.tr z x y (by omega) h1
    omega
theorem TP.pull {α β : Type} {c : α → α → Int} (h : TP c) (f : β → α) : TP (fun x y => c (f x) (f y)) := ⟨fun _ _ => h.anti _ _, fun _ _ _ => h.tr _ _ _⟩
theorem TP.lex {α : Type} {c d : α → α → Int} (h : TP c) (k : TP d) : TP (fun x y => orI (c x y) (d x y)) where
  anti x y := by
    have a1 := h.anti x y
    have a2 := h.anti y x
    have a3 := k.anti x y
    unfold orI
    split <;> split <;> omega
  tr x y z h1 h2 := by
    have a1 := h.anti x y
    have a2 := h.anti y z
    have a3 := h.anti x z
    have b1 := h.anti y x
    have b2 := h.anti z y
    have b3 := h.anti z x
    unfold orI at *
    by_cases e1 : c x y = 0
    · rw [if_neg (by omega)] at h1
      by_cases e2 : c y z = 0
      · rw [if_neg (by omega)] at h2
        have t1 := h.tr x y z (by omega) (by omega)
        have t2 := h.tr z y x (by omega) (by omega)
        have e3 : c x z = 0 := by omega
        rw [if_neg (by omega)]
        exact k.tr x y z h1 h2
      · rw [if_pos e2] at h2
        have t1 := h.ltl (x := x) (y := y) (z := z) (by omega) (by omega)
        rw [if_pos (by omega)]
        omega
    · rw [if_pos e1] at h1
      have hyz : c y z ≤ 0 := by
        by_cases e2 : c y z = 0
        · omega
        · rw [if_pos e2] at h2; exact h2
      have t1 := h.ltr (x := x) (y := y) (z := z) (by omega) hyz
      rw [if_pos (by omega)]
      omega
theorem tp_int : TP (fun x y : Int => Lib.compareInt x y) where
  anti x y := by
    unfold Lib.compareInt
    split <;> split <;> (try split) <;> (try split) <;> omega
  tr x y z := by
    unfold Lib.compareInt
    intro h1 h2
    split at h1 <;> split at h2 <;> split <;> (try (split at h1)) <;> (try (split at h2)) <;> (try split) <;> omega
theorem tp_of {α : Type} {c : α → α → Int} (hv : ∀ x y, c x y = -1 ∨ c x y = 0 ∨ c x y = 1) (hs : ∀ x y, c y x = - c x y) (hz : ∀ x y, c x y = 0 → x = y) (ht : ∀ x y z, c x y = -1 → c y z = -1 → c x z = -1) : TP c where
  anti x y := by have h := hs x y; omega
  tr x y z h1 h2 := by
    rcases hv x y with e1 | e1 | e1
    · rcases hv y z with e2 | e2 | e2
      · have h := ht x y z e1 e2; omega
      · have h := hz y z e2; rw [← h]; omega
      · omega
    · have h := hz x y e1; rw [h]; exact h2
    · omega
theorem tp_names : TP (fun x y : List UInt8 => cmpN x y) := tp_of (fun _ _ => cmpR_vals _ _) (fun x y => cmpN_swap x y) (fun _ _ h => cmpN_zero h) (fun _ _ _ h1 h2 => cmpR_trans _ _ _ h1 h2)

theorem orI_ne {a b : Int} (h : ¬ a = 0) : orI a b = a := if_pos h
theorem orI_eq {a b : Int} (h : a = 0) : orI a b = b := if_neg (fun k => k h)
end Go.Proofs.YtgfiahfoghnpkaaGreatDoor
