import Derived.Test.YtjbmnghcfmbjeaaZs
namespace Go.Proofs.Ytjbmnghcfmbjeaa.serialAdd
open Go.RowKit

theorem walk (s n : Int) (w : World) (_ : -9223372036854775808 ≤ s ∧ s ≤ 9223372036854775807) (_ : -9223372036854775808 ≤ n ∧ n ≤ 9223372036854775807) :
    Calls Try.prog 5 #[.int .i64 s, .int .i64 n] w fun e w' => e = .returned (.bool true) ∧ Below w.heap.size w w' := by
  obtain ⟨x, b0, hx⟩ : ∃ x b0, addV s n = .tuple #[.int .i64 x, .bool b0] := ⟨_, _, rfl⟩
  have HX : Hid (addV s n = .tuple #[.int .i64 x, .bool b0]) := hx
  clear hx
  have e1 : (x != x) = false := by simp
  have e2 : (b0 != b0) = false := by simp
  go_enter Try.func5, Try.ntmps5
  go_wp2_with fail
  refine (sSerialAdd_any _ _ _).mono ?_
  rintro e w1 ⟨rfl, rfl⟩
  rw [HX.out]
  go_wp2_with fail
  refine (iSerialAdd_any _ _ _).mono ?_
  rintro e w1 ⟨rfl, rfl⟩
  rw [HX.out]
  go_wp2_with fail
  go_ret
  exact ⟨rfl, Below.refl _ _⟩
end Go.Proofs.Ytjbmnghcfmbjeaa.serialAdd
