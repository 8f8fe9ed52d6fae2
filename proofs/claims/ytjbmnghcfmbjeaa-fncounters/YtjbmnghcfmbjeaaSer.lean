import Derived.Test.YtjbmnghcfmbjeaaProg
import Derived.WalkKit
import Derived.WalkSpells
import Derived.WalkLawsBesides
import Derived.Handy
namespace Go.Proofs.Ytjbmnghcfmbjeaa
open Go.RowKit

theorem ret_bool {a b : Bool} (h : a = b) : Ending.returned (.bool a) = .returned (.bool b) := by rw [h]
theorem ret_int {k : IntKind} {a b : Int} (h : a = b) : Ending.returned (.int k a) = .returned (.int k b) := by rw [h]

/-- A number that lies between two. -/
def inB (n lo hi : Int) : Bool := decide (lo ≤ n) && decide (n ≤ hi)
/-- A serial. -/
def serB (n : Int) : Bool := inB n 0 4294967295

theorem iWithin_any (n lo hi : Int) (w : World) : Calls Try.prog 34 #[.int .i64 n, .int .i64 lo, .int .i64 hi] w fun e w' => e = .returned (.bool (inB n lo hi)) ∧ w' = w := by
  by_cases h1 : lo ≤ n
  · go_enter Try.func34, Try.ntmps34
    go_wp2
    go_ret
    exact ⟨ret_bool (by simp [inB, h1]), rfl⟩
  · go_enter Try.func34, Try.ntmps34
    go_wp2
    go_ret
    exact ⟨ret_bool (by simp [inB]; omega), rfl⟩
theorem uWithin_any (n lo hi : Int) (w : World) : Calls Try.prog 48 #[.int .u32 n, .int .u32 lo, .int .u32 hi] w fun e w' => e = .returned (.bool (inB n lo hi)) ∧ w' = w := by
  by_cases h1 : lo ≤ n
  · go_enter Try.func48, Try.ntmps48
    go_wp2
    go_ret
    exact ⟨ret_bool (by simp [inB, h1]), rfl⟩
  · go_enter Try.func48, Try.ntmps48
    go_wp2
    go_ret
    exact ⟨ret_bool (by simp [inB]; omega), rfl⟩
theorem l1In_any (n lo hi : Int) (w : World) : Calls Try.prog 36 #[.int .i64 n, .int .i64 lo, .int .i64 hi] w fun e w' => e = .returned (.bool (inB n lo hi)) ∧ w' = w := by
  by_cases h1 : lo ≤ n
  · go_enter Try.func36, Try.ntmps36
    go_wp2
    go_ret
    exact ⟨ret_bool (by simp [inB, h1]), rfl⟩
  · go_enter Try.func36, Try.ntmps36
    go_wp2
    go_ret
    exact ⟨ret_bool (by simp [inB]; omega), rfl⟩
theorem isSerial_any (n : Int) (w : World) : Calls Try.prog 33 #[.int .i64 n] w fun e w' => e = .returned (.bool (serB n)) ∧ w' = w := by
  go_enter Try.func33, Try.ntmps33
  go_wp2_with fail
  refine (iWithin_any _ _ _ _).mono ?_
  rintro e w1 ⟨rfl, rfl⟩
  go_wp2_with fail
  go_ret
  exact ⟨rfl, rfl⟩
theorem l5Serial_any (n : Int) (w : World) : Calls Try.prog 35 #[.int .i64 n] w fun e w' => e = .returned (.bool (serB n)) ∧ w' = w := by
  go_enter Try.func35, Try.ntmps35
  go_wp2_with fail
  refine (l1In_any _ _ _ _).mono ?_
  rintro e w1 ⟨rfl, rfl⟩
  go_wp2_with fail
  go_ret
  exact ⟨rfl, rfl⟩
theorem isCounter_any (n : Int) (w : World) : Calls Try.prog 41 #[.int .i64 n] w fun e w' => e = .returned (.bool (inB n 0 1152921504606846976)) ∧ w' = w := by
  go_enter Try.func41, Try.ntmps41
  go_wp2_with fail
  refine (iWithin_any _ _ _ _).mono ?_
  rintro e w1 ⟨rfl, rfl⟩
  go_wp2_with fail
  go_ret
  exact ⟨rfl, rfl⟩

/-- As many steps lie between two serials. -/
def stp (a b : Int) : Int := (b - a) % 4294967296
theorem steps_any (a b : Int) (w : World) :
    Calls Try.prog 38 #[.int .u32 a, .int .u32 b] w fun e w' => e = .returned (.int .u32 (stp a b)) ∧ w' = w := by
  go_enter Try.func38, Try.ntmps38
  go_wp2
  go_ret
  exact ⟨ret_int (by unfold stp; rfl), rfl⟩
theorem l5Steps_any (a b : Int) (w : World) (ha : 0 ≤ a ∧ a ≤ 4294967295) (hb : 0 ≤ b ∧ b ≤ 4294967295) :
    Calls Try.prog 39 #[.int .i64 a, .int .i64 b] w fun e w' => e = .returned (.int .i64 (stp a b)) ∧ w' = w := by
  go_enter Try.func39, Try.ntmps39
  go_wp2
  go_ret
  exact ⟨ret_int (by unfold stp; omega), rfl⟩
theorem stp_in (a b : Int) : 0 ≤ stp a b ∧ stp a b ≤ 4294967295 := by unfold stp; omega
theorem ser_in {n : Int} (h : serB n = true) : 0 ≤ n ∧ n ≤ 4294967295 := by simpa [serB, inB] using h

/-- What SerialLess tells of two serials. -/
def newB (a b : Int) : Bool := inB (stp a b) 1 2147483647
def tldB (a b : Int) : Bool := stp a b != 2147483648
theorem isNewer_any (a b : Int) (w : World) :
    Calls Try.prog 37 #[.int .u32 b, .int .u32 a] w fun e w' => e = .returned (.tuple #[.bool (newB a b), .bool (tldB a b)]) ∧ w' = w := by
  go_enter Try.func37, Try.ntmps37
  go_wp2_with fail
  refine (steps_any _ _ _).mono ?_
  rintro e w1 ⟨rfl, rfl⟩
  go_wp2_with fail
  refine (uWithin_any _ _ _ _).mono ?_
  rintro e w1 ⟨rfl, rfl⟩
  go_wp2_with fail
  go_ret2
  exact ⟨rfl, rfl⟩

def addV (s n : Int) : Value := .tuple #[.int .i64 (if serB s && inB n 0 2147483647 then (s + n) % 4294967296 else 0), .bool (serB s && inB n 0 2147483647)]
theorem iSerialAdd_any (s n : Int) (w : World) : Calls Try.prog 12 #[.int .i64 s, .int .i64 n] w fun e w' => e = .returned (addV s n) ∧ w' = w := by
  cases h1 : serB s with
  | false =>
      go_enter Try.func12, Try.ntmps12
      go_wp2_with fail
      refine (isSerial_any _ _).mono ?_
      rintro e w1 ⟨rfl, rfl⟩
      rw [h1]
      go_wp2_with fail
      go_ret2
      exact ⟨by unfold addV; rw [h1]; rfl, rfl⟩
  | true =>
    cases h2 : inB n 0 2147483647 with
    | false =>
      go_enter Try.func12, Try.ntmps12
      go_wp2_with fail
      refine (isSerial_any _ _).mono ?_
      rintro e w1 ⟨rfl, rfl⟩
      rw [h1]
      go_wp2_with fail
      refine (iWithin_any _ _ _ _).mono ?_
      rintro e w1 ⟨rfl, rfl⟩
      rw [h2]
      go_wp2_with fail
      go_ret2
      exact ⟨by unfold addV; rw [h1, h2]; rfl, rfl⟩
    | true =>
      have hs := ser_in h1
      have hn : 0 ≤ n ∧ n ≤ 2147483647 := by simpa [inB] using h2
      go_enter Try.func12, Try.ntmps12
      go_wp2_with fail
      refine (isSerial_any _ _).mono ?_
      rintro e w1 ⟨rfl, rfl⟩
      rw [h1]
      go_wp2_with fail
      refine (iWithin_any _ _ _ _).mono ?_
      rintro e w1 ⟨rfl, rfl⟩
      rw [h2]
      go_wp2_with fail
      go_ret2
      exact ⟨by unfold addV; rw [h1, h2]; rfl, rfl⟩

theorem sSerialAdd_any (s n : Int) (w : World) : Calls Try.prog 13 #[.int .i64 s, .int .i64 n] w fun e w' => e = .returned (addV s n) ∧ w' = w := by
  cases h1 : serB s with
  | false =>
      go_enter Try.func13, Try.ntmps13
      go_wp2_with fail
      refine (l5Serial_any _ _).mono ?_
      rintro e w1 ⟨rfl, rfl⟩
      rw [h1]
      go_wp2_with fail
      go_ret2
      exact ⟨by unfold addV; rw [h1]; rfl, rfl⟩
  | true =>
    cases h2 : inB n 0 2147483647 with
    | false =>
      go_enter Try.func13, Try.ntmps13
      go_wp2_with fail
      refine (l5Serial_any _ _).mono ?_
      rintro e w1 ⟨rfl, rfl⟩
      rw [h1]
      go_wp2_with fail
      refine (l1In_any _ _ _ _).mono ?_
      rintro e w1 ⟨rfl, rfl⟩
      rw [h2]
      go_wp2_with fail
      go_ret2
      exact ⟨by unfold addV; rw [h1, h2]; rfl, rfl⟩
    | true =>
      have hs := ser_in h1
      have hn : 0 ≤ n ∧ n ≤ 2147483647 := by simpa [inB] using h2
      go_enter Try.func13, Try.ntmps13
      go_wp2_with fail
      refine (l5Serial_any _ _).mono ?_
      rintro e w1 ⟨rfl, rfl⟩
      rw [h1]
      go_wp2_with fail
      refine (l1In_any _ _ _ _).mono ?_
      rintro e w1 ⟨rfl, rfl⟩
      rw [h2]
      go_wp2_with fail
      go_ret2
      exact ⟨by unfold addV; rw [h1, h2]; rfl, rfl⟩

def stpV (a b : Int) : Value := .tuple #[.int .i64 (if serB a && serB b then stp a b else 0), .bool (serB a && serB b)]
theorem iStepsBetween_any (a b : Int) (w : World) : Calls Try.prog 15 #[.int .i64 a, .int .i64 b] w fun e w' => e = .returned (stpV a b) ∧ w' = w := by
  cases h1 : serB a with
  | false =>
      go_enter Try.func15, Try.ntmps15
      go_wp2_with fail
      refine (isSerial_any _ _).mono ?_
      rintro e w1 ⟨rfl, rfl⟩
      rw [h1]
      go_wp2_with fail
      go_ret2
      exact ⟨by unfold stpV; rw [h1]; rfl, rfl⟩
  | true =>
    cases h2 : serB b with
    | false =>
      go_enter Try.func15, Try.ntmps15
      go_wp2_with fail
      refine (isSerial_any _ _).mono ?_
      rintro e w1 ⟨rfl, rfl⟩
      rw [h1]
      go_wp2_with fail
      refine (isSerial_any _ _).mono ?_
      rintro e w1 ⟨rfl, rfl⟩
      rw [h2]
      go_wp2_with fail
      go_ret2
      exact ⟨by unfold stpV; rw [h1, h2]; rfl, rfl⟩
    | true =>
      have ha := ser_in h1
      have hb := ser_in h2
      go_enter Try.func15, Try.ntmps15
      go_wp2_with fail
      refine (isSerial_any _ _).mono ?_
      rintro e w1 ⟨rfl, rfl⟩
      rw [h1]
      go_wp2_with fail
      refine (isSerial_any _ _).mono ?_
      rintro e w1 ⟨rfl, rfl⟩
      rw [h2]
      go_wp2_with fail
      have hi := stp_in a b
      refine (steps_any _ _ _).mono ?_
      rintro e w1 ⟨rfl, rfl⟩
      go_wp2_with fail
      go_ret2
      exact ⟨by unfold stpV; rw [h1, h2]; rfl, rfl⟩

theorem sStepsBetween_any (a b : Int) (w : World) : Calls Try.prog 18 #[.int .i64 a, .int .i64 b] w fun e w' => e = .returned (stpV a b) ∧ w' = w := by
  cases h1 : serB a with
  | false =>
      go_enter Try.func18, Try.ntmps18
      go_wp2_with fail
      refine (l5Serial_any _ _).mono ?_
      rintro e w1 ⟨rfl, rfl⟩
      rw [h1]
      go_wp2_with fail
      go_ret2
      exact ⟨by unfold stpV; rw [h1]; rfl, rfl⟩
  | true =>
    cases h2 : serB b with
    | false =>
      go_enter Try.func18, Try.ntmps18
      go_wp2_with fail
      refine (l5Serial_any _ _).mono ?_
      rintro e w1 ⟨rfl, rfl⟩
      rw [h1]
      go_wp2_with fail
      refine (l5Serial_any _ _).mono ?_
      rintro e w1 ⟨rfl, rfl⟩
      rw [h2]
      go_wp2_with fail
      go_ret2
      exact ⟨by unfold stpV; rw [h1, h2]; rfl, rfl⟩
    | true =>
      have ha := ser_in h1
      have hb := ser_in h2
      go_enter Try.func18, Try.ntmps18
      go_wp2_with fail
      refine (l5Serial_any _ _).mono ?_
      rintro e w1 ⟨rfl, rfl⟩
      rw [h1]
      go_wp2_with fail
      refine (l5Serial_any _ _).mono ?_
      rintro e w1 ⟨rfl, rfl⟩
      rw [h2]
      go_wp2_with fail
      refine (l5Steps_any _ _ _ ha hb).mono ?_
      rintro e w1 ⟨rfl, rfl⟩
      go_wp2_with fail
      go_ret2
      exact ⟨by unfold stpV; rw [h1, h2]; rfl, rfl⟩

def lesV (a b : Int) : Value := .tuple #[.bool (serB a && serB b && newB a b), .bool (serB a && serB b && tldB a b)]
theorem iSerialLess_any (a b : Int) (w : World) : Calls Try.prog 14 #[.int .i64 a, .int .i64 b] w fun e w' => e = .returned (lesV a b) ∧ w' = w := by
  cases h1 : serB a with
  | false =>
      go_enter Try.func14, Try.ntmps14
      go_wp2_with fail
      refine (isSerial_any _ _).mono ?_
      rintro e w1 ⟨rfl, rfl⟩
      rw [h1]
      go_wp2_with fail
      go_ret2
      exact ⟨by unfold lesV; rw [h1]; rfl, rfl⟩
  | true =>
    cases h2 : serB b with
    | false =>
      go_enter Try.func14, Try.ntmps14
      go_wp2_with fail
      refine (isSerial_any _ _).mono ?_
      rintro e w1 ⟨rfl, rfl⟩
      rw [h1]
      go_wp2_with fail
      refine (isSerial_any _ _).mono ?_
      rintro e w1 ⟨rfl, rfl⟩
      rw [h2]
      go_wp2_with fail
      go_ret2
      exact ⟨by unfold lesV; rw [h1, h2]; rfl, rfl⟩
    | true =>
      have ha := ser_in h1
      have hb := ser_in h2
      go_enter Try.func14, Try.ntmps14
      go_wp2_with fail
      refine (isSerial_any _ _).mono ?_
      rintro e w1 ⟨rfl, rfl⟩
      rw [h1]
      go_wp2_with fail
      refine (isSerial_any _ _).mono ?_
      rintro e w1 ⟨rfl, rfl⟩
      rw [h2]
      go_wp2_with fail
      refine (isNewer_any _ _ _).mono ?_
      rintro e w1 ⟨rfl, rfl⟩
      go_wp2_with fail
      go_ret2
      exact ⟨by unfold lesV; rw [h1, h2]; rfl, rfl⟩

theorem sSerialLess_any (a b : Int) (w : World) : Calls Try.prog 17 #[.int .i64 a, .int .i64 b] w fun e w' => e = .returned (lesV a b) ∧ w' = w := by
  cases h1 : serB a with
  | false =>
      go_enter Try.func17, Try.ntmps17
      go_wp2_with fail
      refine (l5Serial_any _ _).mono ?_
      rintro e w1 ⟨rfl, rfl⟩
      rw [h1]
      go_wp2_with fail
      go_ret2
      exact ⟨by unfold lesV; rw [h1]; rfl, rfl⟩
  | true =>
    cases h2 : serB b with
    | false =>
      go_enter Try.func17, Try.ntmps17
      go_wp2_with fail
      refine (l5Serial_any _ _).mono ?_
      rintro e w1 ⟨rfl, rfl⟩
      rw [h1]
      go_wp2_with fail
      refine (l5Serial_any _ _).mono ?_
      rintro e w1 ⟨rfl, rfl⟩
      rw [h2]
      go_wp2_with fail
      go_ret2
      exact ⟨by unfold lesV; rw [h1, h2]; rfl, rfl⟩
    | true =>
      have ha := ser_in h1
      have hb := ser_in h2
      cases h3 : (stp a b == 2147483648) with
      | true =>
        go_enter Try.func17, Try.ntmps17
        go_wp2_with fail
        refine (l5Serial_any _ _).mono ?_
        rintro e w1 ⟨rfl, rfl⟩
        rw [h1]
        go_wp2_with fail
        refine (l5Serial_any _ _).mono ?_
        rintro e w1 ⟨rfl, rfl⟩
        rw [h2]
        go_wp2_with fail
        refine (l5Steps_any _ _ _ ha hb).mono ?_
        rintro e w1 ⟨rfl, rfl⟩
        go_wp2_with fail
        go_ret2
        have e3 : stp a b = 2147483648 := by simpa using h3
        exact ⟨by unfold lesV newB tldB; rw [h1, h2, e3]; rfl, rfl⟩
      | false =>
        go_enter Try.func17, Try.ntmps17
        go_wp2_with fail
        refine (l5Serial_any _ _).mono ?_
        rintro e w1 ⟨rfl, rfl⟩
        rw [h1]
        go_wp2_with fail
        refine (l5Serial_any _ _).mono ?_
        rintro e w1 ⟨rfl, rfl⟩
        rw [h2]
        go_wp2_with fail
        refine (l5Steps_any _ _ _ ha hb).mono ?_
        rintro e w1 ⟨rfl, rfl⟩
        go_wp2_with fail
        refine (l5Steps_any _ _ _ ha hb).mono ?_
        rintro e w1 ⟨rfl, rfl⟩
        go_wp2_with fail
        refine (l1In_any _ _ _ _).mono ?_
        rintro e w1 ⟨rfl, rfl⟩
        go_wp2_with fail
        go_ret2
        exact ⟨by unfold lesV newB tldB; rw [h1, h2, bne, h3]; rfl, rfl⟩

def ofV (n : Int) : Value := .tuple #[.int .i64 (if inB n 0 1152921504606846976 then n % 4294967296 else 0), .bool (inB n 0 1152921504606846976)]
theorem iSerialOf_any (n : Int) (w : World) : Calls Try.prog 20 #[.int .i64 n] w fun e w' => e = .returned (ofV n) ∧ w' = w := by
  cases h1 : inB n 0 1152921504606846976 with
  | false =>
    go_enter Try.func20, Try.ntmps20
    go_wp2_with fail
    refine (isCounter_any _ _).mono ?_
    rintro e w1 ⟨rfl, rfl⟩
    rw [h1]
    go_wp2_with fail
    go_ret2
    exact ⟨by unfold ofV; rw [h1]; rfl, rfl⟩
  | true =>
    have hn : 0 ≤ n ∧ n ≤ 1152921504606846976 := by simpa [inB] using h1
    go_enter Try.func20, Try.ntmps20
    go_wp2_with fail
    refine (isCounter_any _ _).mono ?_
    rintro e w1 ⟨rfl, rfl⟩
    rw [h1]
    go_wp2_with fail
    go_ret2
    exact ⟨by unfold ofV; rw [h1]; rfl, rfl⟩
theorem sSerialOf_any (n : Int) (w : World) : Calls Try.prog 21 #[.int .i64 n] w fun e w' => e = .returned (ofV n) ∧ w' = w := by
  cases h1 : inB n 0 1152921504606846976 with
  | false =>
    go_enter Try.func21, Try.ntmps21
    go_wp2_with fail
    refine (l1In_any _ _ _ _).mono ?_
    rintro e w1 ⟨rfl, rfl⟩
    rw [h1]
    go_wp2_with fail
    go_ret2
    exact ⟨by unfold ofV; rw [h1]; rfl, rfl⟩
  | true =>
    have hn : 0 ≤ n ∧ n ≤ 1152921504606846976 := by simpa [inB] using h1
    go_enter Try.func21, Try.ntmps21
    go_wp2_with fail
    refine (l1In_any _ _ _ _).mono ?_
    rintro e w1 ⟨rfl, rfl⟩
    rw [h1]
    go_wp2_with fail
    go_ret2
    exact ⟨by unfold ofV; rw [h1]; rfl, rfl⟩
end Go.Proofs.Ytjbmnghcfmbjeaa
