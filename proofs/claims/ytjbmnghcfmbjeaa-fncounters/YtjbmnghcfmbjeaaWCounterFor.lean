import Derived.Test.YtjbmnghcfmbjeaaCtrS
import Derived.Test.YtjbmnghcfmbjeaaZs
namespace Go.Proofs.Ytjbmnghcfmbjeaa

theorem stepO_some {n x : Int} {o : Option Int} (h : o.isSome = true ∨ inB x 0 1152921504606846976 = true) : (stepO n o x).isSome = true := by
  unfold stepO
  split
  · cases o with
    | none => rfl
    | some b => simp only; split <;> rfl
  · rename_i hx
    rcases h with h | h
    · exact h
    · exact absurd h hx
theorem cf_some {s n : Int} (hs : 0 ≤ s ∧ s ≤ 4294967295) (hn : 0 ≤ n ∧ n ≤ 1152921504606846976) : (cf (base5 s n) n 3).isSome = true := by
  refine stepO_some (.inl ?_)
  by_cases h : base5 s n ≤ 1152921504606846976
  · refine stepO_some (.inr ?_)
    rw [cand1]; unfold base5 at h ⊢
    simp only [inB, Bool.and_eq_true, decide_eq_true_eq]; omega
  · refine stepO_some (.inl (stepO_some (.inr ?_)))
    rw [cand0]; unfold base5 at h ⊢
    simp only [inB, Bool.and_eq_true, decide_eq_true_eq]; omega
end Go.Proofs.Ytjbmnghcfmbjeaa
namespace Go.Proofs.Ytjbmnghcfmbjeaa.counterFor
open Go.RowKit

/-- What both tell. -/
def cntV (s n : Int) : Value := .tuple #[.int .i64 (if serB s && inB n 0 1152921504606846976 then cfN (cf (base5 s n) n 3) else 0), .bool (serB s && inB n 0 1152921504606846976)]
theorem iAll (s n : Int) (w : World) : Calls Try.prog 23 #[.int .i64 s, .int .i64 n] w fun e w' => e = .returned (cntV s n) ∧ w' = w := by
  cases h1 : serB s with
  | false =>
    go_enter Try.func23, Try.ntmps23
    go_wp2_with fail
    refine (isSerial_any _ _).mono ?_
    rintro e w1 ⟨rfl, rfl⟩
    rw [h1]
    go_wp2_with fail
    go_ret2
    exact ⟨by unfold cntV; rw [h1]; rfl, rfl⟩
  | true =>
    cases h2 : inB n 0 1152921504606846976 with
    | false =>
      go_enter Try.func23, Try.ntmps23
      go_wp2_with fail
      refine (isSerial_any _ _).mono ?_
      rintro e w1 ⟨rfl, rfl⟩
      rw [h1]
      go_wp2_with fail
      refine (isCounter_any _ _).mono ?_
      rintro e w1 ⟨rfl, rfl⟩
      rw [h2]
      go_wp2_with fail
      go_ret2
      exact ⟨by unfold cntV; rw [h1, h2]; rfl, rfl⟩
    | true =>
      refine (iCounterFor_any s n w h1 h2).mono ?_
      rintro e w1 ⟨rfl, rfl⟩
      have := cf_some (ser_in h1) (show 0 ≤ n ∧ n ≤ 1152921504606846976 by simpa [inB] using h2)
      exact ⟨by unfold cntV; rw [h1, h2, this]; rfl, rfl⟩
theorem sAll (s n : Int) (w : World) : Calls Try.prog 25 #[.int .i64 s, .int .i64 n] w fun e w' => e = .returned (cntV s n) ∧ Below w.heap.size w w' := by
  cases h1 : serB s with
  | false =>
    go_enter Try.func25, Try.ntmps25
    go_wp2_with fail
    refine (l5Serial_any _ _).mono ?_
    rintro e w1 ⟨rfl, rfl⟩
    rw [h1]
    go_wp2_with fail
    go_ret2
    exact ⟨by unfold cntV; rw [h1]; rfl, Below.refl _ _⟩
  | true =>
    cases h2 : inB n 0 1152921504606846976 with
    | false =>
      go_enter Try.func25, Try.ntmps25
      go_wp2_with fail
      refine (l5Serial_any _ _).mono ?_
      rintro e w1 ⟨rfl, rfl⟩
      rw [h1]
      go_wp2_with fail
      refine (l1In_any _ _ _ _).mono ?_
      rintro e w1 ⟨rfl, rfl⟩
      rw [h2]
      go_wp2_with fail
      go_ret2
      exact ⟨by unfold cntV; rw [h1, h2]; rfl, Below.refl _ _⟩
    | true =>
      refine (sCounterFor_any s n w h1 h2).mono ?_
      rintro e w1 ⟨rfl, hb⟩
      have hso := cf_some (ser_in h1) (show 0 ≤ n ∧ n ≤ 1152921504606846976 by simpa [inB] using h2)
      obtain ⟨b, hb'⟩ := Option.isSome_iff_exists.1 hso
      exact ⟨by unfold cntV; rw [h1, h2, hb']; rfl, hb⟩

theorem walk (s n : Int) (w : World) (_ : -9223372036854775808 ≤ s ∧ s ≤ 9223372036854775807) (_ : -9223372036854775808 ≤ n ∧ n ≤ 9223372036854775807) :
    Calls Try.prog 10 #[.int .i64 s, .int .i64 n] w fun e w' => e = .returned (.bool true) ∧ Below w.heap.size w w' := by
  obtain ⟨x, b0, hx⟩ : ∃ x b0, cntV s n = .tuple #[.int .i64 x, .bool b0] := ⟨_, _, rfl⟩
  have HX : Hid (cntV s n = .tuple #[.int .i64 x, .bool b0]) := hx
  clear hx
  have e1 : (x != x) = false := by simp
  have e2 : (b0 != b0) = false := by simp
  go_enter Try.func10, Try.ntmps10
  go_wp2_with fail
  refine (sAll _ _ _).mono ?_
  rintro e w1 ⟨rfl, hb1⟩
  rw [HX.out]
  go_wp2_with fail
  refine (iAll _ _ _).mono ?_
  rintro e w2 ⟨rfl, rfl⟩
  rw [HX.out]
  go_wp2_with fail
  go_ret
  exact ⟨rfl, hb1⟩
end Go.Proofs.Ytjbmnghcfmbjeaa.counterFor
