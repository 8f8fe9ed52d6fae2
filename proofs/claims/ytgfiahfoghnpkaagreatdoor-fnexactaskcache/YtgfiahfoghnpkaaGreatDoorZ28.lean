import Derived.Test.YtgfiahfoghnpkaaGreatDoorZ24
import Derived.Test.YtgfiahfoghnpkaaGreatDoorZ05
import Derived.Test.YtgfiahfoghnpkaaGreatDoorZ08
import Derived.Test.YtgfiahfoghnpkaaGreatDoorZ25
import Derived.Laws.AppendOwnNone
namespace Go.Proofs.YtgfiahfoghnpkaaGreatDoor
open Go.RowKit

end Go.Proofs.YtgfiahfoghnpkaaGreatDoor

namespace Go.Proofs.YtgfiahfoghnpkaaGreatDoor
open Go.RowKit

end Go.Proofs.YtgfiahfoghnpkaaGreatDoor

namespace Go.Proofs.YtgfiahfoghnpkaaGreatDoor
open Go.RowKit

theorem cb_trans : ∀ a b c : List UInt8, Lib.compareBytes a b = -1 → Lib.compareBytes b c = -1 → Lib.compareBytes a c = -1
  | [], [], _, h, _ => by simp [Lib.compareBytes] at h
  | [], _ :: _, [], _, h => by simp [Lib.compareBytes] at h
  | [], _ :: _, _ :: _, _, _ => by simp [Lib.compareBytes]
  | _ :: _, [], _, h, _ => by simp [Lib.compareBytes] at h
  | _ :: _, _ :: _, [], _, h => by simp [Lib.compareBytes] at h
  | a :: al, b :: bl, c :: cl, h1, h2 => by
    unfold Lib.compareBytes at h1 h2 ⊢
    by_cases ab : a < b
    · by_cases bc : b < c
      · rw [if_pos (UInt8.lt_trans ab bc)]
      · rw [if_neg bc] at h2
        by_cases cb : c < b
        · rw [if_pos cb] at h2; cases h2
        · have e : b = c := UInt8.le_antisymm (UInt8.not_lt.1 cb) (UInt8.not_lt.1 bc)
          subst e; rw [if_pos ab]
    · rw [if_neg ab] at h1
      by_cases ba : b < a
      · rw [if_pos ba] at h1; cases h1
      · have e : a = b := UInt8.le_antisymm (UInt8.not_lt.1 ba) (UInt8.not_lt.1 ab)
        subst e
        rw [if_neg ba] at h1
        by_cases ac : a < c
        · rw [if_pos ac]
        · rw [if_neg ac] at h2 ⊢
          by_cases ca : c < a
          · rw [if_pos ca] at h2; cases h2
          · rw [if_neg ca] at h2 ⊢
            exact cb_trans al bl cl h1 h2
theorem cmpR_vals : ∀ a b, cmpR a b = -1 ∨ cmpR a b = 0 ∨ cmpR a b = 1
  | [], [] => by simp [cmpR]
  | [], _ :: _ => by simp [cmpR]
  | _ :: _, [] => by simp [cmpR]
  | p :: a, q :: b => by
    unfold cmpR; split
    · exact cmpR_vals a b
    · exact cmp_vals p q
theorem cmpR_swap : ∀ a b, cmpR b a = - cmpR a b
  | [], [] => by simp [cmpR]
  | [], _ :: _ => by simp [cmpR]
  | _ :: _, [] => by simp [cmpR]
  | p :: a, q :: b => by
    unfold cmpR
    by_cases h : p = q
    · subst h; simp [cmpR_swap a b]
    · rw [if_neg h, if_neg (Ne.symm h)]; exact cmp_swap p q
theorem cmpR_zero : ∀ a b, cmpR a b = 0 → a = b
  | [], [], _ => rfl
  | [], _ :: _, h => by simp [cmpR] at h
  | _ :: _, [], h => by simp [cmpR] at h
  | p :: a, q :: b, h => by
    unfold cmpR at h
    by_cases e : p = q
    · rw [if_pos e] at h; rw [e, cmpR_zero a b h]
    · rw [if_neg e] at h; exact absurd (cmp_zero p q h) e
theorem cmpR_trans : ∀ a b c, cmpR a b = -1 → cmpR b c = -1 → cmpR a c = -1
  | [], [], _, h, _ => by simp [cmpR] at h
  | [], _ :: _, [], _, h => by simp [cmpR] at h
  | [], _ :: _, _ :: _, _, _ => by simp [cmpR]
  | _ :: _, [], _, h, _ => by simp [cmpR] at h
  | _ :: _, _ :: _, [], _, h => by simp [cmpR] at h
  | p :: a, q :: b, r :: c, h1, h2 => by
    unfold cmpR at h1 h2 ⊢
    by_cases pq : p = q
    · subst pq
      rw [if_pos rfl] at h1
      by_cases pr : p = r
      · subst pr; rw [if_pos rfl] at h2 ⊢; exact cmpR_trans a b c h1 h2
      · rw [if_neg pr] at h2 ⊢; exact h2
    · rw [if_neg pq] at h1
      by_cases qr : q = r
      · subst qr; rw [if_neg pq]; exact h1
      · rw [if_neg qr] at h2
        have h3 := cb_trans p q r h1 h2
        by_cases pr : p = r
        · subst pr; rw [cmp_self] at h3; cases h3
        · rw [if_neg pr]; exact h3

/-- The order of names. -/
def cmpN (x y : List UInt8) : Int := cmpR (labelsOf x).reverse (labelsOf y).reverse
theorem cmpN_zero {x y : List UInt8} (h : cmpN x y = 0) : x = y := by
  have e := cmpR_zero _ _ h
  have e2 : labelsOf x = labelsOf y := by rw [← List.reverse_reverse (labelsOf x), e, List.reverse_reverse]
  rw [← joinD_labels x, e2, joinD_labels]
theorem cmpN_swap (x y : List UInt8) : cmpN y x = - cmpN x y := cmpR_swap _ _
/-- How many stand ahead of a name in a rising list. -/
def ahead (L : List (List UInt8)) (s : List UInt8) : Nat := (L.takeWhile (fun x => decide (cmpN x s = -1))).length
def put (L : List (List UInt8)) (s : List UInt8) : List (List UInt8) := if L[ahead L s]? = some s then L else L.take (ahead L s) ++ [s] ++ L.drop (ahead L s)
end Go.Proofs.YtgfiahfoghnpkaaGreatDoor

namespace Go.Proofs.YtgfiahfoghnpkaaGreatDoor
open Go.RowKit

/-- A row of names that are rising, or nil. -/
def NRow (w : World) (v : Value) (L : List (List UInt8)) : Prop := (v = .slice none 0 0 ∧ L = []) ∨ (L ≠ [] ∧ Row w v L)
theorem NRow.row {w : World} {v : Value} {L : List (List UInt8)} (h : NRow w v L) : Row w v L := by
  rcases h with ⟨rfl, rfl⟩ | ⟨_, h⟩
  · exact row_nil w
  · exact h
theorem NRow.kept {w w' : World} {v : Value} {L : List (List UInt8)} (h : NRow w v L) (hb : Below w.heap.size w w') : NRow w' v L := by
  rcases h with h | ⟨h1, h⟩
  · exact .inl h
  · exact .inr ⟨h1, h.kept hb⟩

end Go.Proofs.YtgfiahfoghnpkaaGreatDoor

namespace Go.Proofs.YtgfiahfoghnpkaaGreatDoor
open Go.RowKit

end Go.Proofs.YtgfiahfoghnpkaaGreatDoor
