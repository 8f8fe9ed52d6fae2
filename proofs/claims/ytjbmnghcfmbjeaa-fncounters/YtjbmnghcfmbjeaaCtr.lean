import Derived.Test.YtjbmnghcfmbjeaaSer
namespace Go.Proofs.Ytjbmnghcfmbjeaa
open Go.RowKit

def top60 : Int := 1152921504606846976
/-- How far two numbers lie from each other. -/
def far (a b : Int) : Int := if a < b then b - a else a - b
theorem farFrom_any (a b : Int) (w : World) (ha : 0 ≤ a ∧ a ≤ 1152921504606846976) (hb : 0 ≤ b ∧ b ≤ 1152921504606846976) :
    Calls Try.prog 42 #[.int .i64 a, .int .i64 b] w fun e w' => e = .returned (.int .i64 (far a b)) ∧ w' = w := by
  go_enter Try.func42, Try.ntmps42
  go_wp2
  all_goals go_ret
  all_goals exact ⟨ret_int (by unfold far; split <;> omega), rfl⟩
theorem l5Gap_any (a b : Int) (w : World) (ha : 0 ≤ a ∧ a ≤ 1152921504606846976) (hb : 0 ≤ b ∧ b ≤ 1152921504606846976) :
    Calls Try.prog 43 #[.int .i64 a, .int .i64 b] w fun e w' => e = .returned (.int .i64 (far a b)) ∧ w' = w := by
  go_enter Try.func43, Try.ntmps43
  go_wp2
  all_goals go_ret
  all_goals exact ⟨ret_int (by unfold far; split <;> omega), rfl⟩

/-- The counter of a serial in the round of one near; the three that may be nearest. -/
def base5 (s n : Int) : Int := n - n % 4294967296 + s
def cand (N : Int) (k : Nat) : Int := N + ((k : Int) - 1) * 4294967296
/-- The nearest one of the first k. -/
def stepO (n : Int) (o : Option Int) (x : Int) : Option Int :=
  if inB x 0 1152921504606846976 then (match o with | none => some x | some b => if far x n < far b n then some x else some b) else o
def cf (N n : Int) : Nat → Option Int
  | 0 => none
  | k + 1 => stepO n (cf N n k) (cand N k)
def cfN (o : Option Int) : Int := o.getD 0
theorem cf_in {N n : Int} : ∀ (k : Nat) (b : Int), cf N n k = some b → 0 ≤ b ∧ b ≤ 1152921504606846976
  | 0, b, h => by cases h
  | k + 1, b, h => by
    unfold cf stepO at h
    split at h
    · rename_i hi
      have hx : 0 ≤ cand N k ∧ cand N k ≤ 1152921504606846976 := by simpa [inB] using hi
      cases ho : cf N n k with
      | none => rw [ho] at h; cases h; exact hx
      | some b' =>
        rw [ho] at h
        simp only at h
        have ih := cf_in k b' ho
        split at h <;> (cases h; assumption)
    · exact cf_in k b h
theorem cf_out {N n : Int} {k : Nat} (h : inB (cand N k) 0 1152921504606846976 = false) : cf N n (k + 1) = cf N n k := by
  show stepO _ _ _ = _; unfold stepO; rw [h]; rfl
theorem cf_first {N n : Int} {k : Nat} (h : inB (cand N k) 0 1152921504606846976 = true) (h0 : cf N n k = none) : cf N n (k + 1) = some (cand N k) := by
  show stepO _ _ _ = _; unfold stepO; rw [h, h0]; rfl
theorem cf_take {N n b : Int} {k : Nat} (h : inB (cand N k) 0 1152921504606846976 = true) (h0 : cf N n k = some b) (hf : far (cand N k) n < far b n) : cf N n (k + 1) = some (cand N k) := by
  show stepO _ _ _ = _; unfold stepO; rw [h, h0]; simp [hf]
theorem cf_keep {N n b : Int} {k : Nat} (h : inB (cand N k) 0 1152921504606846976 = true) (h0 : cf N n k = some b) (hf : ¬ far (cand N k) n < far b n) : cf N n (k + 1) = some b := by
  show stepO _ _ _ = _; unfold stepO; rw [h, h0]; simp [hf]
theorem ix30 (a b c : Int) (W : World) : Sem.run Try.prog (Instr.index 51 (.agg #[.int .i64 a, .int .i64 b, .int .i64 c]) (.int .i64 0)) W = .ok (.int .i64 a) W := by kernel_rfl
theorem ix31 (a b c : Int) (W : World) : Sem.run Try.prog (Instr.index 51 (.agg #[.int .i64 a, .int .i64 b, .int .i64 c]) (.int .i64 1)) W = .ok (.int .i64 b) W := by kernel_rfl
theorem ix32 (a b c : Int) (W : World) : Sem.run Try.prog (Instr.index 51 (.agg #[.int .i64 a, .int .i64 b, .int .i64 c]) (.int .i64 2)) W = .ok (.int .i64 c) W := by kernel_rfl
theorem cand0 (N : Int) : cand N 0 = N - 4294967296 := by unfold cand; omega
theorem cand1 (N : Int) : cand N 1 = N := by unfold cand; omega
theorem cand2 (N : Int) : cand N 2 = N + 4294967296 := by unfold cand; omega
theorem ix3 (N : Int) (k : Nat) (hk : k < 3) (W : World) : Sem.run Try.prog (Instr.index 51 (.agg #[.int .i64 (N - 4294967296), .int .i64 N, .int .i64 (N + 4294967296)]) (.int .i64 (k : Int))) W = .ok (.int .i64 (cand N k)) W := by
  match k, hk with
  | 0, _ => rw [cand0]; exact ix30 _ _ _ W
  | 1, _ => rw [cand1]; exact ix31 _ _ _ W
  | 2, _ => rw [cand2]; exact ix32 _ _ _ W

theorem iCounterFor_any (s n : Int) (w : World) (h1 : serB s = true) (h2 : inB n 0 1152921504606846976 = true) : Calls Try.prog 23 #[.int .i64 s, .int .i64 n] w fun e w' => e = .returned (.tuple #[.int .i64 (cfN (cf (base5 s n) n 3)), .bool (cf (base5 s n) n 3).isSome]) ∧ w' = w := by
  have hs := ser_in h1
  have hn : 0 ≤ n ∧ n ≤ 1152921504606846976 := by simpa [inB] using h2
  go_enter Try.func23, Try.ntmps23
  go_wp2_with fail
  refine (isSerial_any _ _).mono ?_
  rintro e w1 ⟨rfl, rfl⟩
  rw [h1]
  go_wp2_with fail
  refine (isCounter_any _ _).mono ?_
  rintro e w1 ⟨rfl, rfl⟩
  rw [h2]
  go_wp2_with fail
  obtain ⟨N, hN⟩ : ∃ N, N = n - n % 4294967296 + s := ⟨_, rfl⟩
  rw [← hN]
  have HN : Hid (N = base5 s n) := hN
  clear hN h1 h2 hs
  go_loopw [7, 8, 31] (fun a b i wr => ∃ k : Nat, k ≤ 3 ∧ i = .int .i64 (k : Int) ∧ a = .int .i64 (cfN (cf N n k)) ∧ b = .bool (cf N n k).isSome ∧ wr = w1) (fun _ _ i _ => 3 - (intOf i).toNat)
  case atStart => exact ⟨0, Nat.zero_le _, rfl, rfl, rfl, rfl⟩
  case round =>
    obtain ⟨k, hk, rfl, rfl, rfl, rfl⟩ := hrel
    by_cases hlt : k < 3
    · have hix := ix3 N k hlt
      obtain ⟨x, hx⟩ : ∃ x, x = cand N k := ⟨_, rfl⟩
      rw [← hx] at hix
      cases hc : inB x 0 1152921504606846976 with
      | false =>
        have HC : Hid (cf N n (k + 1) = cf N n k) := cf_out (by rw [← hx]; exact hc)
        have HR : Hid (x = cand N k) := hx
        clear hx
        go_wp2_with fail
        refine (isCounter_any _ _).mono ?_
        rintro e w1 ⟨rfl, rfl⟩
        rw [hc]
        go_wp2_with fail
        go_roundw
        case rel => exact ⟨k + 1, by omega, by go_num, by rw [HC.out], by rw [HC.out], by trivial⟩
        case measure => simp [intOf]; omega
      | true =>
        have hxi : 0 ≤ x ∧ x ≤ 1152921504606846976 := by simpa [inB] using hc
        cases ho : cf N n k with
        | none =>
          have HC : Hid (cf N n (k + 1) = some x) := by rw [hx]; exact cf_first (by rw [← hx]; exact hc) ho
          clear hx ho
          go_wp2_with fail
          refine (isCounter_any _ _).mono ?_
          rintro e w1 ⟨rfl, rfl⟩
          rw [hc]
          go_wp2_with fail
          go_roundw
          case rel => exact ⟨k + 1, by omega, by go_num, by rw [HC.out]; rfl, by rw [HC.out]; rfl, by trivial⟩
          case measure => simp [intOf]; omega
        | some b =>
          have hbi := cf_in k b ho
          have ef : cfN (some b) = b := rfl
          rw [ef]
          by_cases hf : far x n < far b n
          · have HC : Hid (cf N n (k + 1) = some x) := by rw [hx]; exact cf_take (by rw [← hx]; exact hc) ho (by rw [← hx]; exact hf)
            clear hx ho
            go_wp2_with fail
            refine (isCounter_any _ _).mono ?_
            rintro e w1 ⟨rfl, rfl⟩
            rw [hc]
            go_wp2_with fail
            refine (farFrom_any _ _ _ hxi hn).mono ?_
            rintro e w1 ⟨rfl, rfl⟩
            go_wp2_with fail
            refine (farFrom_any _ _ _ hbi hn).mono ?_
            rintro e w1 ⟨rfl, rfl⟩
            go_wp2_with fail
            go_roundw
            case rel => exact ⟨k + 1, by omega, by go_num, by rw [HC.out]; rfl, by rw [HC.out]; rfl, by trivial⟩
            case measure => simp [intOf]; omega
          · have HC : Hid (cf N n (k + 1) = some b) := cf_keep (by rw [← hx]; exact hc) ho (by rw [← hx]; exact hf)
            clear hx ho
            go_wp2_with fail
            refine (isCounter_any _ _).mono ?_
            rintro e w1 ⟨rfl, rfl⟩
            rw [hc]
            go_wp2_with fail
            refine (farFrom_any _ _ _ hxi hn).mono ?_
            rintro e w1 ⟨rfl, rfl⟩
            go_wp2_with fail
            refine (farFrom_any _ _ _ hbi hn).mono ?_
            rintro e w1 ⟨rfl, rfl⟩
            go_wp2_with fail
            go_roundw
            case rel => exact ⟨k + 1, by omega, by go_num, by rw [HC.out]; rfl, by rw [HC.out]; rfl, by trivial⟩
            case measure => simp [intOf]; omega
    · have hk3 : k = 3 := by omega
      subst hk3
      go_wp2_with fail
      go_ret2
      exact ⟨by rw [← HN.out]; rfl, rfl⟩
end Go.Proofs.Ytjbmnghcfmbjeaa
