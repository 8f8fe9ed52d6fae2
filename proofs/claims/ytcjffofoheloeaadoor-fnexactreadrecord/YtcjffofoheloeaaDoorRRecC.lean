import Derived.Test.YtcjffofoheloeaaDoorRRecP
namespace Go.Proofs.YtcjffofoheloeaaDoor
open Go.RowKit

theorem cells_at {w : World} {a b c d : Value} {t : TypeId} : (w.alloc (.cells #[a, b, c, d] t)).drew.cell? ⟨w.heap.size, 0, none⟩ = some a ∧ (w.alloc (.cells #[a, b, c, d] t)).drew.cell? ⟨w.heap.size, 1, none⟩ = some b ∧ (w.alloc (.cells #[a, b, c, d] t)).drew.cell? ⟨w.heap.size, 2, none⟩ = some c ∧ (w.alloc (.cells #[a, b, c, d] t)).drew.cell? ⟨w.heap.size, 3, none⟩ = some d ∧ (w.alloc (.cells #[a, b, c, d] t)).drew.frozen? ⟨w.heap.size, 0, none⟩ = false := by
  refine ⟨?_, ?_, ?_, ?_, ?_⟩ <;> simp


end Go.Proofs.YtcjffofoheloeaaDoor
