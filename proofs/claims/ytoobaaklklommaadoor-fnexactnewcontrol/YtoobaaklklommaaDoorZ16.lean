import Derived.Test.YtoobaaklklommaaDoorZ15
import Derived.Test.YtoobaaklklommaaDoorZ08
namespace Go.Proofs.YtoobaaklklommaaDoor
open Go.RowKit

theorem brow_zero (w : World) (t : TypeId) : BRow (w.alloc (.cells #[.int .u8 0, .int .u8 0, .int .u8 0, .int .u8 0] t)) w.heap.size [0, 0, 0, 0] := by
  refine ⟨by simp, fun j hj => ?_⟩
  match j, hj with
  | 0, _ => exact ⟨by simp, by simp⟩
  | 1, _ => exact ⟨by simp, by simp⟩
  | 2, _ => exact ⟨by simp, by simp⟩
  | 3, _ => exact ⟨by simp, by simp⟩
theorem cell_other {w : World} {a p : Addr} {u : Value} (h : p.block ≠ a.block) : (w.setCell a u).cell? p = w.cell? p :=
  World.cell?_of_block (w := w) (Below.heap_setCell _ _ _ _ h)
def zeros (n : Nat) : List UInt8 := List.replicate n 0
theorem set_next {a : List UInt8} {n : Nat} {c : UInt8} : (a ++ zeros (n + 1)).set a.length c = (a ++ [c]) ++ zeros n := by
  unfold zeros; rw [List.set_append_right _ _ (Nat.le_refl _), Nat.sub_self, List.replicate_succ, List.set_cons_zero, List.append_assoc]; rfl
theorem of_none {D : Option (List UInt8)} {q : List UInt8 → Prop} (h : D = none) : ∀ y, D = some y → q y := fun y hy => by rw [h] at hy; cases hy
theorem four_of {y : List UInt8} (h : y.length = 4) : ∃ a b c d, y = [a, b, c, d] := by
  match y, h with
  | [a, b, c, d], _ => exact ⟨a, b, c, d, rfl⟩

end Go.Proofs.YtoobaaklklommaaDoor
