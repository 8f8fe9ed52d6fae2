import Derived.Test.YtjbmnghcfmbjeaaCtr
namespace Go.Proofs.Ytjbmnghcfmbjeaa
open Go.RowKit

def cfS (o : Option Int) : Int := o.getD (-1)
theorem cf_rise {N n : Int} : ∀ (k : Nat) (b : Int), cf N n k = some b → b < cand N k
  | 0, b, h => by cases h
  | k + 1, b, h => by
    have hs : cand N k < cand N (k + 1) := by unfold cand; omega
    unfold cf stepO at h
    split at h
    · cases ho : cf N n k with
      | none => rw [ho] at h; cases h; exact hs
      | some b' =>
        rw [ho] at h
        simp only at h
        have ih := cf_rise k b' ho
        split at h <;> (cases h; omega)
    · have := cf_rise k b h; omega
theorem cells3 (w : World) (N : Int) (k : Nat) (hk : k < 3) : (w.alloc (.cells #[.int .i64 (N - 4294967296), .int .i64 N, .int .i64 (N + 4294967296)] 3)).cell? ⟨w.heap.size, k, none⟩ = some (.int .i64 (cand N k)) := by
  match k, hk with
  | 0, _ => rw [cand0]; simp
  | 1, _ => rw [cand1]; simp
  | 2, _ => rw [cand2]; simp

set_option maxRecDepth 20000 in
set_option maxHeartbeats 1000000 in
theorem sCounterFor_any (s n : Int) (w : World) (h1 : serB s = true) (h2 : inB n 0 1152921504606846976 = true) : Calls Try.prog 25 #[.int .i64 s, .int .i64 n] w fun e w' => e = .returned (.tuple #[.int .i64 (cfS (cf (base5 s n) n 3)), .bool true]) ∧ Below w.heap.size w w' := by
  have hs := ser_in h1
  have hn : 0 ≤ n ∧ n ≤ 1152921504606846976 := by simpa [inB] using h2
  go_enter Try.func25, Try.ntmps25
  go_wp2_with fail
  refine (l5Serial_any _ _).mono ?_
  rintro e w1 ⟨rfl, rfl⟩
  rw [h1]
  go_wp2_with fail
  refine (l1In_any _ _ _ _).mono ?_
  rintro e w1 ⟨rfl, rfl⟩
  rw [h2]
  go_wp2_with fail
  obtain ⟨N, hN⟩ : ∃ N, N = n - n % 4294967296 + s := ⟨_, rfl⟩
  rw [← hN]
  have HN : Hid (N = base5 s n) := hN
  clear hN h1 h2 hs
  have HCL : Hid (∀ k, k < 3 → (w1.alloc (.cells #[.int .i64 (N - 4294967296), .int .i64 N, .int .i64 (N + 4294967296)] 3)).cell? ⟨w1.heap.size, k, none⟩ = some (.int .i64 (cand N k))) := cells3 w1 N
  have hbel : Below w1.heap.size w1 (w1.alloc (.cells #[.int .i64 (N - 4294967296), .int .i64 N, .int .i64 (N + 4294967296)] 3)) := by go_grown
  obtain ⟨g, hg⟩ : ∃ g, g = w1.heap.size := ⟨_, rfl⟩
  obtain ⟨W, hW⟩ : ∃ W, W = w1.alloc (.cells #[.int .i64 (N - 4294967296), .int .i64 N, .int .i64 (N + 4294967296)] 3) := ⟨_, rfl⟩
  rw [← hW] at HCL hbel ⊢
  rw [← hg] at HCL ⊢
  clear hW hg
  have HB : Hid (Below w1.heap.size w1 W) := hbel
  clear hbel
  go_loopw [7, 31] (fun a i wr => ∃ k : Nat, k ≤ 3 ∧ i = .int .i64 (k : Int) ∧ a = .int .i64 (cfS (cf N n k)) ∧ wr = W) (fun _ i _ => 3 - (intOf i).toNat)
  case atStart => exact ⟨0, Nat.zero_le _, rfl, rfl, rfl⟩
  case round =>
    obtain ⟨k, hk, rfl, rfl, rfl⟩ := hrel
    by_cases hlt : k < 3
    · have hix := HCL.out k hlt
      have HLT : Hid (∀ b, cf N n k = some b → b < cand N k) := cf_rise k
      obtain ⟨x, hx⟩ : ∃ x, x = cand N k := ⟨_, rfl⟩
      rw [← hx] at hix
      cases hc : inB x 0 1152921504606846976 with
      | false =>
        have HC : Hid (cf N n (k + 1) = cf N n k) := cf_out (by rw [← hx]; exact hc)
        clear hx
        go_wp2_with fail
        refine (l1In_any _ _ _ _).mono ?_
        rintro e w2 ⟨rfl, rfl⟩
        rw [hc]
        go_wp2_with fail
        go_roundw
        case rel => exact ⟨k + 1, by omega, by go_num, by rw [HC.out], by trivial⟩
        case measure => simp [intOf]; omega
      | true =>
        have hxi : 0 ≤ x ∧ x ≤ 1152921504606846976 := by simpa [inB] using hc
        cases ho : cf N n k with
        | none =>
          have HC : Hid (cf N n (k + 1) = some x) := by rw [hx]; exact cf_first (by rw [← hx]; exact hc) ho
          have ef : cfS none = -1 := rfl
          rw [ef]
          clear hx ho ef
          go_wp2_with fail
          refine (l1In_any _ _ _ _).mono ?_
          rintro e w2 ⟨rfl, rfl⟩
          rw [hc]
          go_wp2_with fail
          go_roundw
          case rel => exact ⟨k + 1, by omega, by go_num, by rw [HC.out]; rfl, by trivial⟩
          case measure => simp [intOf]; omega
        | some b =>
          have hbi := cf_in k b ho
          have hbx : b < x := by rw [hx]; exact HLT.out b ho
          have ef : cfS (some b) = b := rfl
          rw [ef]
          clear ef
          rcases Int.lt_trichotomy (far x n) (far b n) with hf | hf | hf
          · have HC : Hid (cf N n (k + 1) = some x) := by rw [hx]; exact cf_take (by rw [← hx]; exact hc) ho (by rw [← hx]; exact hf)
            clear hx ho
            go_wp2_with fail
            refine (l1In_any _ _ _ _).mono ?_
            rintro e w2 ⟨rfl, rfl⟩
            rw [hc]
            go_wp2_with fail
            refine (l5Gap_any _ _ _ hxi hn).mono ?_
            rintro e w2 ⟨rfl, rfl⟩
            go_wp2_with fail
            refine (l5Gap_any _ _ _ hbi hn).mono ?_
            rintro e w2 ⟨rfl, rfl⟩
            go_wp2_with fail
            go_roundw
            case rel => exact ⟨k + 1, by omega, by go_num, by rw [HC.out]; rfl, by trivial⟩
            case measure => simp [intOf]; omega
          · have HC : Hid (cf N n (k + 1) = some b) := cf_keep (by rw [← hx]; exact hc) ho (by rw [← hx]; omega)
            have hle : far b n ≤ far x n := by omega
            have he : (far x n == far b n) = true := by simpa using hf
            clear hx ho hf
            go_wp2_with fail
            refine (l1In_any _ _ _ _).mono ?_
            rintro e w2 ⟨rfl, rfl⟩
            rw [hc]
            go_wp2_with fail
            refine (l5Gap_any _ _ _ hxi hn).mono ?_
            rintro e w2 ⟨rfl, rfl⟩
            go_wp2_with fail
            refine (l5Gap_any _ _ _ hbi hn).mono ?_
            rintro e w2 ⟨rfl, rfl⟩
            go_wp2_with fail
            refine (l5Gap_any _ _ _ hxi hn).mono ?_
            rintro e w2 ⟨rfl, rfl⟩
            go_wp2_with fail
            refine (l5Gap_any _ _ _ hbi hn).mono ?_
            rintro e w2 ⟨rfl, rfl⟩
            go_wp2_with fail
            go_roundw
            case rel => exact ⟨k + 1, by omega, by go_num, by rw [HC.out]; rfl, by trivial⟩
            case measure => simp [intOf]; omega
          · have HC : Hid (cf N n (k + 1) = some b) := cf_keep (by rw [← hx]; exact hc) ho (by rw [← hx]; omega)
            have hle : far b n ≤ far x n := by omega
            have he : (far x n == far b n) = false := by simp; omega
            clear hx ho hf
            go_wp2_with fail
            refine (l1In_any _ _ _ _).mono ?_
            rintro e w2 ⟨rfl, rfl⟩
            rw [hc]
            go_wp2_with fail
            refine (l5Gap_any _ _ _ hxi hn).mono ?_
            rintro e w2 ⟨rfl, rfl⟩
            go_wp2_with fail
            refine (l5Gap_any _ _ _ hbi hn).mono ?_
            rintro e w2 ⟨rfl, rfl⟩
            go_wp2_with fail
            refine (l5Gap_any _ _ _ hxi hn).mono ?_
            rintro e w2 ⟨rfl, rfl⟩
            go_wp2_with fail
            refine (l5Gap_any _ _ _ hbi hn).mono ?_
            rintro e w2 ⟨rfl, rfl⟩
            go_wp2_with fail
            go_roundw
            case rel => exact ⟨k + 1, by omega, by go_num, by rw [HC.out]; rfl, by trivial⟩
            case measure => simp [intOf]; omega
    · have hk3 : k = 3 := by omega
      subst hk3
      go_wp2_with fail
      go_ret2
      exact ⟨by rw [← HN.out]; rfl, HB.out⟩
end Go.Proofs.Ytjbmnghcfmbjeaa
