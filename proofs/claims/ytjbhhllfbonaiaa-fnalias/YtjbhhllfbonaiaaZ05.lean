import Derived.Test.YtjbhhllfbonaiaaZ04
import Derived.Test.YtjbhhllfbonaiaaProg
import Derived.WalkKit
import Derived.WalkSpells
import Derived.WalkLawsBesides
import Derived.Handy
namespace Go.Proofs.Ytjbhhllfbonaiaa
open Go.RowKit

theorem ret_boolY {a b : Bool} (h : a = b) : Ending.returned (.bool a) = .returned (.bool b) := by rw [h]
theorem ret_intY {k : IntKind} {a b : Int} (h : a = b) : Ending.returned (.int k a) = .returned (.int k b) := by rw [h]

/-- A serial. -/
def serB (n : Int) : Bool := inB n 0 4294967295

theorem iWithin_anyY (n lo hi : Int) (w : World) : Calls Try.prog 21 #[.int .i64 n, .int .i64 lo, .int .i64 hi] w fun e w' => e = .returned (.bool (inB n lo hi)) ∧ w' = w := by
  by_cases h1 : lo ≤ n
  · go_enter Try.func21, Try.ntmps21
    go_wp2
    go_ret
    exact ⟨ret_boolY (by simp [inB, h1]), rfl⟩
  · go_enter Try.func21, Try.ntmps21
    go_wp2
    go_ret
    exact ⟨ret_boolY (by simp [inB]; omega), rfl⟩
theorem l1In_anyY (n lo hi : Int) (w : World) : Calls Try.prog 26 #[.int .i64 n, .int .i64 lo, .int .i64 hi] w fun e w' => e = .returned (.bool (inB n lo hi)) ∧ w' = w := by
  by_cases h1 : lo ≤ n
  · go_enter Try.func26, Try.ntmps26
    go_wp2
    go_ret
    exact ⟨ret_boolY (by simp [inB, h1]), rfl⟩
  · go_enter Try.func26, Try.ntmps26
    go_wp2
    go_ret
    exact ⟨ret_boolY (by simp [inB]; omega), rfl⟩
/-- As many steps lie between two serials. -/
def stp (a b : Int) : Int := (b - a) % 4294967296
theorem stp_in (a b : Int) : 0 ≤ stp a b ∧ stp a b ≤ 4294967295 := by unfold stp; omega
theorem ser_in {n : Int} (h : serB n = true) : 0 ≤ n ∧ n ≤ 4294967295 := by simpa [serB, inB] using h

/-- What SerialLess tells of two serials. -/
def newB (a b : Int) : Bool := inB (stp a b) 1 2147483647
def tldB (a b : Int) : Bool := stp a b != 2147483648
def addV (s n : Int) : Value := .tuple #[.int .i64 (if serB s && inB n 0 2147483647 then (s + n) % 4294967296 else 0), .bool (serB s && inB n 0 2147483647)]
def stpV (a b : Int) : Value := .tuple #[.int .i64 (if serB a && serB b then stp a b else 0), .bool (serB a && serB b)]
def lesV (a b : Int) : Value := .tuple #[.bool (serB a && serB b && newB a b), .bool (serB a && serB b && tldB a b)]
def ofVY (n : Int) : Value := .tuple #[.int .i64 (if inB n 0 1152921504606846976 then n % 4294967296 else 0), .bool (inB n 0 1152921504606846976)]
end Go.Proofs.Ytjbhhllfbonaiaa
