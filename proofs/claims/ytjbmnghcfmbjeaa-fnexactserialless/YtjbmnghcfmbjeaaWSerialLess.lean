import Derived.Test.YtjbmnghcfmbjeaaZs
namespace Go.Proofs.Ytjbmnghcfmbjeaa.serialLess
open Go.RowKit

theorem walk (a b : Int) (w : World) (_ : -9223372036854775808 ≤ a ∧ a ≤ 9223372036854775807) (_ : -9223372036854775808 ≤ b ∧ b ≤ 9223372036854775807) :
    Calls Try.prog 6 #[.int .i64 a, .int .i64 b] w fun e w' => e = .returned (.bool true) ∧ Below w.heap.size w w' := by
  obtain ⟨x, b0, hx⟩ : ∃ x b0, lesV a b = .tuple #[.bool x, .bool b0] := ⟨_, _, rfl⟩
  have HX : Hid (lesV a b = .tuple #[.bool x, .bool b0]) := hx
  clear hx
  have e1 : (x != x) = false := by simp
  have e2 : (b0 != b0) = false := by simp
  go_enter Try.func6, Try.ntmps6
  go_wp2_with fail
  refine (sSerialLess_any _ _ _).mono ?_
  rintro e w1 ⟨rfl, rfl⟩
  rw [HX.out]
  go_wp2_with fail
  refine (iSerialLess_any _ _ _).mono ?_
  rintro e w1 ⟨rfl, rfl⟩
  rw [HX.out]
  go_wp2_with fail
  go_ret
  exact ⟨rfl, Below.refl _ _⟩
end Go.Proofs.Ytjbmnghcfmbjeaa.serialLess
