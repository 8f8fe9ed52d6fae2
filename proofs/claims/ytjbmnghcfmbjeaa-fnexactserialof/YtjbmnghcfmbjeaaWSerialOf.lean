import Derived.Test.YtjbmnghcfmbjeaaZs
namespace Go.Proofs.Ytjbmnghcfmbjeaa.serialOf
open Go.RowKit

theorem walk (n : Int) (w : World) (_ : -9223372036854775808 ≤ n ∧ n ≤ 9223372036854775807) :
    Calls Try.prog 7 #[.int .i64 n] w fun e w' => e = .returned (.bool true) ∧ Below w.heap.size w w' := by
  obtain ⟨x, b0, hx⟩ : ∃ x b0, ofV n = .tuple #[.int .i64 x, .bool b0] := ⟨_, _, rfl⟩
  have HX : Hid (ofV n = .tuple #[.int .i64 x, .bool b0]) := hx
  clear hx
  have e1 : (x != x) = false := by simp
  have e2 : (b0 != b0) = false := by simp
  go_enter Try.func7, Try.ntmps7
  go_wp2_with fail
  refine (sSerialOf_any _ _).mono ?_
  rintro e w1 ⟨rfl, rfl⟩
  rw [HX.out]
  go_wp2_with fail
  refine (iSerialOf_any _ _).mono ?_
  rintro e w1 ⟨rfl, rfl⟩
  rw [HX.out]
  go_wp2_with fail
  go_ret
  exact ⟨rfl, Below.refl _ _⟩
end Go.Proofs.Ytjbmnghcfmbjeaa.serialOf
