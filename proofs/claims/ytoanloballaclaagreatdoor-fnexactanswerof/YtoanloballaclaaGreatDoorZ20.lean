import Derived.Test.YtoanloballaclaaGreatDoorZ19
import Derived.Test.YtoanloballaclaaGreatDoorZ08
namespace Go.Proofs.YtoanloballaclaaGreatDoor
open Go.RowKit

theorem iWithin_any (n lo hi : Int) (w : World) : Calls Tryz.prog 50 #[.int .i64 n, .int .i64 lo, .int .i64 hi] w fun e w' => e = .returned (.bool (inB n lo hi)) ∧ w' = w := by
  by_cases h1 : lo ≤ n
  · go_enter Tryz.func50, Tryz.ntmps50
    go_wp2
    go_ret
    exact ⟨ret_bool (by simp [inB, h1]), rfl⟩
  · go_enter Tryz.func50, Tryz.ntmps50
    go_wp2
    go_ret
    exact ⟨ret_bool (by simp [inB]; omega), rfl⟩
def ofV (n : Int) : Value := .tuple #[.int .i64 (if inB n 0 1152921504606846976 then n % 4294967296 else 0), .bool (inB n 0 1152921504606846976)]
end Go.Proofs.YtoanloballaclaaGreatDoor
