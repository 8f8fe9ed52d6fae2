import Derived.Test.YtoobaaklklommaaGreatDoorZ21
import Derived.Test.YtoobaaklklommaaGreatDoorProg
import Derived.WalkKit
import Derived.WalkSpells
import Derived.WalkLawsBesides
import Derived.Handy
namespace Go.Proofs.YtoobaaklklommaaGreatDoor
open Go.RowKit

theorem ret_boolY {a b : Bool} (h : a = b) : Ending.returned (.bool a) = .returned (.bool b) := by rw [h]
theorem ret_intY {k : IntKind} {a b : Int} (h : a = b) : Ending.returned (.int k a) = .returned (.int k b) := by rw [h]

/-- A serial. -/
def serB (n : Int) : Bool := inB n 0 4294967295

theorem iWithin_anyY (n lo hi : Int) (w : World) : Calls Tryz.prog 49 #[.int .i64 n, .int .i64 lo, .int .i64 hi] w fun e w' => e = .returned (.bool (inB n lo hi)) ∧ w' = w := by
  by_cases h1 : lo ≤ n
  · go_enter Tryz.func49, Tryz.ntmps49
    go_wp2
    go_ret
    exact ⟨ret_boolY (by simp [inB, h1]), rfl⟩
  · go_enter Tryz.func49, Tryz.ntmps49
    go_wp2
    go_ret
    exact ⟨ret_boolY (by simp [inB]; omega), rfl⟩
theorem l1In_anyY (n lo hi : Int) (w : World) : Calls Tryz.prog 42 #[.int .i64 n, .int .i64 lo, .int .i64 hi] w fun e w' => e = .returned (.bool (inB n lo hi)) ∧ w' = w := by
  by_cases h1 : lo ≤ n
  · go_enter Tryz.func42, Tryz.ntmps42
    go_wp2
    go_ret
    exact ⟨ret_boolY (by simp [inB, h1]), rfl⟩
  · go_enter Tryz.func42, Tryz.ntmps42
    go_wp2
    go_ret
    exact ⟨ret_boolY (by simp [inB]; omega), rfl⟩
theorem isSerial_any (n : Int) (w : World) : Calls Tryz.prog 127 #[.int .i64 n] w fun e w' => e = .returned (.bool (serB n)) ∧ w' = w := by
  go_enter Tryz.func127, Tryz.ntmps127
  go_wp2_with fail
  refine (iWithin_anyY _ _ _ _).mono ?_
  rintro e w1 ⟨rfl, rfl⟩
  go_wp2_with fail
  go_ret
  exact ⟨rfl, rfl⟩
theorem l5Serial_any (n : Int) (w : World) : Calls Tryz.prog 43 #[.int .i64 n] w fun e w' => e = .returned (.bool (serB n)) ∧ w' = w := by
  go_enter Tryz.func43, Tryz.ntmps43
  go_wp2_with fail
  refine (l1In_anyY _ _ _ _).mono ?_
  rintro e w1 ⟨rfl, rfl⟩
  go_wp2_with fail
  go_ret
  exact ⟨rfl, rfl⟩
theorem isCounter_anyY (n : Int) (w : World) : Calls Tryz.prog 84 #[.int .i64 n] w fun e w' => e = .returned (.bool (inB n 0 1152921504606846976)) ∧ w' = w := by
  go_enter Tryz.func84, Tryz.ntmps84
  go_wp2_with fail
  refine (iWithin_anyY _ _ _ _).mono ?_
  rintro e w1 ⟨rfl, rfl⟩
  go_wp2_with fail
  go_ret
  exact ⟨rfl, rfl⟩

/-- As many steps lie between two serials. -/
def stp (a b : Int) : Int := (b - a) % 4294967296
theorem stp_in (a b : Int) : 0 ≤ stp a b ∧ stp a b ≤ 4294967295 := by unfold stp; omega
theorem ser_in {n : Int} (h : serB n = true) : 0 ≤ n ∧ n ≤ 4294967295 := by simpa [serB, inB] using h

/-- What SerialLess tells of two serials. -/
def newB (a b : Int) : Bool := inB (stp a b) 1 2147483647
def tldB (a b : Int) : Bool := stp a b != 2147483648
def addV (s n : Int) : Value := .tuple #[.int .i64 (if serB s && inB n 0 2147483647 then (s + n) % 4294967296 else 0), .bool (serB s && inB n 0 2147483647)]
def stpV (a b : Int) : Value := .tuple #[.int .i64 (if serB a && serB b then stp a b else 0), .bool (serB a && serB b)]
def lesV (a b : Int) : Value := .tuple #[.bool (serB a && serB b && newB a b), .bool (serB a && serB b && tldB a b)]
def ofVY (n : Int) : Value := .tuple #[.int .i64 (if inB n 0 1152921504606846976 then n % 4294967296 else 0), .bool (inB n 0 1152921504606846976)]
theorem iSerialOf_anyY (n : Int) (w : World) : Calls Tryz.prog 164 #[.int .i64 n] w fun e w' => e = .returned (ofVY n) ∧ w' = w := by
  cases h1 : inB n 0 1152921504606846976 with
  | false =>
    go_enter Tryz.func164, Tryz.ntmps164
    go_wp2_with fail
    refine (isCounter_anyY _ _).mono ?_
    rintro e w1 ⟨rfl, rfl⟩
    rw [h1]
    go_wp2_with fail
    go_ret2
    exact ⟨by unfold ofVY; rw [h1]; rfl, rfl⟩
  | true =>
    have hn : 0 ≤ n ∧ n ≤ 1152921504606846976 := by simpa [inB] using h1
    go_enter Tryz.func164, Tryz.ntmps164
    go_wp2_with fail
    refine (isCounter_anyY _ _).mono ?_
    rintro e w1 ⟨rfl, rfl⟩
    rw [h1]
    go_wp2_with fail
    go_ret2
    exact ⟨by unfold ofVY; rw [h1]; rfl, rfl⟩
end Go.Proofs.YtoobaaklklommaaGreatDoor
