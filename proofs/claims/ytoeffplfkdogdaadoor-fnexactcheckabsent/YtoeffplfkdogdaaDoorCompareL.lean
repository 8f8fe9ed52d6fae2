import Derived.Test.YtoeffplfkdogdaaDoorCompare
import Derived.Lib.Small
import Derived.Lib.Bytealg
namespace Go.Proofs.YtoeffplfkdogdaaDoor
open Go.RowKit

theorem less_cmp : ∀ a b : List UInt8, Op.bytesLess a b = decide (Lib.compareBytes a b = -1)
  | [], [] => by simp [Op.bytesLess, Lib.compareBytes]
  | [], _ :: _ => by simp [Op.bytesLess, Lib.compareBytes]
  | _ :: _, [] => by simp [Op.bytesLess, Lib.compareBytes]
  | a :: al, b :: bl => by
    have ih := less_cmp al bl
    by_cases h1 : a < b
    · simp [Op.bytesLess, Lib.compareBytes, h1]
    · by_cases h2 : b < a
      · simp [Op.bytesLess, Lib.compareBytes, h1, h2]
        intro h; subst h; exact absurd h2 h1
      · have : a = b := by
          apply UInt8.le_antisymm
          · exact UInt8.not_lt.1 h2
          · exact UInt8.not_lt.1 h1
        subst this
        simp [Op.bytesLess, Lib.compareBytes, ih]
theorem cmp_zero : ∀ a b : List UInt8, Lib.compareBytes a b = 0 → a = b
  | [], [], _ => rfl
  | [], _ :: _, h => by simp [Lib.compareBytes] at h
  | _ :: _, [], h => by simp [Lib.compareBytes] at h
  | a :: al, b :: bl, h => by
    unfold Lib.compareBytes at h
    by_cases h1 : a < b
    · rw [if_pos h1] at h; cases h
    · by_cases h2 : b < a
      · rw [if_neg h1, if_pos h2] at h; cases h
      · rw [if_neg h1, if_neg h2] at h
        have : a = b := UInt8.le_antisymm (UInt8.not_lt.1 h2) (UInt8.not_lt.1 h1)
        rw [this, cmp_zero al bl h]
theorem cmp_swap : ∀ a b : List UInt8, Lib.compareBytes b a = - Lib.compareBytes a b
  | [], [] => by simp [Lib.compareBytes]
  | [], _ :: _ => by simp [Lib.compareBytes]
  | _ :: _, [] => by simp [Lib.compareBytes]
  | a :: al, b :: bl => by
    have ih := cmp_swap al bl
    unfold Lib.compareBytes
    by_cases h1 : a < b
    · have h2 : ¬ b < a := fun h => absurd (UInt8.lt_trans h1 h) (UInt8.lt_irrefl a)
      simp [h1, h2]
    · by_cases h2 : b < a
      · simp [h1, h2]
      · simp [h1, h2, ih]
theorem cmp_self (a : List UInt8) : Lib.compareBytes a a = 0 := by have := cmp_swap a a; omega
theorem cmp_vals : ∀ a b : List UInt8, Lib.compareBytes a b = -1 ∨ Lib.compareBytes a b = 0 ∨ Lib.compareBytes a b = 1
  | [], [] => by simp [Lib.compareBytes]
  | [], _ :: _ => by simp [Lib.compareBytes]
  | _ :: _, [] => by simp [Lib.compareBytes]
  | a :: al, b :: bl => by
    have ih := cmp_vals al bl
    unfold Lib.compareBytes
    split
    · simp
    · split
      · simp
      · exact ih

/-- The order of two names, by their labels from the right. -/
def cmpR : List (List UInt8) → List (List UInt8) → Int
  | [], [] => 0
  | [], _ :: _ => -1
  | _ :: _, [] => 1
  | p :: a, q :: b => if p = q then cmpR a b else Lib.compareBytes p q
theorem cmpR_end : ∀ a b : List (List UInt8), (alike a b = a.length ∨ alike a b = b.length) → cmpR a b = Lib.compareInt a.length b.length
  | [], [], _ => by simp [cmpR, Lib.compareInt]
  | [], _ :: _, _ => by simp [cmpR, Lib.compareInt]; try omega
  | _ :: _, [], _ => by simp [cmpR, Lib.compareInt]; try omega
  | p :: a, q :: b, h => by
    by_cases hpq : p = q
    · simp only [alike, hpq, if_true, List.length_cons] at h
      have := cmpR_end a b (by omega)
      simp only [cmpR, hpq, if_true, this, Lib.compareInt, List.length_cons]
      (repeat' split) <;> omega
    · simp [alike, hpq] at h
theorem cmpR_mid : ∀ (a b : List (List UInt8)) (ha : alike a b < a.length) (hb : alike a b < b.length), cmpR a b = Lib.compareBytes (a[alike a b]) (b[alike a b])
  | [], _, ha, _ => by simp at ha
  | _ :: _, [], _, hb => by simp at hb
  | p :: a, q :: b, ha, hb => by
    by_cases hpq : p = q
    · have e : alike (p :: a) (q :: b) = alike a b + 1 := by simp [alike, hpq]
      have := cmpR_mid a b (by simp [e] at ha; omega) (by simp [e] at hb; omega)
      simp only [cmpR, hpq, if_true, this]
      congr 1 <;> (simp only [alike, if_true]; rfl)
    · have e : alike (p :: a) (q :: b) = 0 := by simp [alike, hpq]
      simp only [cmpR, hpq, if_false]
      congr 1 <;> simp [alike, hpq]
end Go.Proofs.YtoeffplfkdogdaaDoor
