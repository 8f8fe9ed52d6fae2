import Derived.Test.YtcjffofoheloeaaDoorRGood
namespace Go.Proofs.YtcjffofoheloeaaDoor
open Go.RowKit

/-- What szRecord tells. -/
def szR (a b left : Int) : Int := if left - a < 0 then -1 else if left - a - b < 0 then -1 else left - a - b


theorem sz_cases {a b : Nat} : szR (a : Int) (b : Int) 1048576 = -1 ∧ ¬ a + b ≤ 1048576 ∨ szR (a : Int) (b : Int) 1048576 = 1048576 - (a : Int) - (b : Int) ∧ a + b ≤ 1048576 := by
  unfold szR
  split
  · exact .inl ⟨rfl, by omega⟩
  · split
    · exact .inl ⟨rfl, by omega⟩
    · exact .inr ⟨rfl, by omega⟩
end Go.Proofs.YtcjffofoheloeaaDoor
