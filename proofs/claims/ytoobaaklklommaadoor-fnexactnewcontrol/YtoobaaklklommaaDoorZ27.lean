import Derived.Test.YtoobaaklklommaaDoorZ26
import Derived.Test.YtoobaaklklommaaDoorZ08
namespace Go.Proofs.YtoobaaklklommaaDoor
open Go.RowKit

theorem iWithin_any (n lo hi : Int) (w : World) : Calls Tryd.prog 52 #[.int .i64 n, .int .i64 lo, .int .i64 hi] w fun e w' => e = .returned (.bool (inB n lo hi)) ∧ w' = w := by
  by_cases h1 : lo ≤ n
  · go_enter Tryd.func52, Tryd.ntmps52
    go_wp2
    go_ret
    exact ⟨ret_bool (by simp [inB, h1]), rfl⟩
  · go_enter Tryd.func52, Tryd.ntmps52
    go_wp2
    go_ret
    exact ⟨ret_bool (by simp [inB]; omega), rfl⟩
theorem isCounter_any (n : Int) (w : World) : Calls Tryd.prog 47 #[.int .i64 n] w fun e w' => e = .returned (.bool (inB n 0 1152921504606846976)) ∧ w' = w := by
  go_enter Tryd.func47, Tryd.ntmps47
  go_wp2_with fail
  refine (iWithin_any _ _ _ _).mono ?_
  rintro e w1 ⟨rfl, rfl⟩
  go_wp2_with fail
  go_ret
  exact ⟨rfl, rfl⟩

def ofV (n : Int) : Value := .tuple #[.int .i64 (if inB n 0 1152921504606846976 then n % 4294967296 else 0), .bool (inB n 0 1152921504606846976)]
theorem iSerialOf_any (n : Int) (w : World) : Calls Tryd.prog 42 #[.int .i64 n] w fun e w' => e = .returned (ofV n) ∧ w' = w := by
  cases h1 : inB n 0 1152921504606846976 with
  | false =>
    go_enter Tryd.func42, Tryd.ntmps42
    go_wp2_with fail
    refine (isCounter_any _ _).mono ?_
    rintro e w1 ⟨rfl, rfl⟩
    rw [h1]
    go_wp2_with fail
    go_ret2
    exact ⟨by unfold ofV; rw [h1]; rfl, rfl⟩
  | true =>
    have hn : 0 ≤ n ∧ n ≤ 1152921504606846976 := by simpa [inB] using h1
    go_enter Tryd.func42, Tryd.ntmps42
    go_wp2_with fail
    refine (isCounter_any _ _).mono ?_
    rintro e w1 ⟨rfl, rfl⟩
    rw [h1]
    go_wp2_with fail
    go_ret2
    exact ⟨by unfold ofV; rw [h1]; rfl, rfl⟩
end Go.Proofs.YtoobaaklklommaaDoor
