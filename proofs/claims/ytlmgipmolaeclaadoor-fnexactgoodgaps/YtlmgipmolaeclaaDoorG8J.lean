import Derived.Test.YtlmgipmolaeclaaDoorG8P
namespace Go.Proofs.YtlmgipmolaeclaaDoor
open Go.RowKit

theorem isTypeG_any (n : Int) (w : World) : Calls Tryd.prog 38 #[.int .i64 n] w fun e w' => e = .returned (.bool (typB n)) ∧ w' = w := by
  by_cases h : n = 1 ∨ n = 2 ∨ n = 5 ∨ n = 6 ∨ n = 15 ∨ n = 16
  · have HR : Hid (typB n = true) := by rcases h with rfl | rfl | rfl | rfl | rfl | rfl <;> rfl
    rcases h with rfl | rfl | rfl | rfl | rfl | rfl <;> (go_enter Tryd.func38, Tryd.ntmps38; go_wp2_with fail; go_ret; exact ⟨ret_bool HR.out.symm, rfl⟩)
  · have HR : Hid (typB n = false) := by
      cases hc : typB n with
      | false => exact rfl
      | true => exfalso; unfold typB hasB at hc; simp at hc; omega
    have e1 : (n == 1) = false := by simp; omega
    have e2 : (n == 2) = false := by simp; omega
    have e3 : (n == 5) = false := by simp; omega
    have e4 : (n == 6) = false := by simp; omega
    have e5 : (n == 15) = false := by simp; omega
    have e6 : (n == 16) = false := by simp; omega
    clear h
    go_enter Tryd.func38, Tryd.ntmps38
    go_wp2_with fail
    go_ret
    exact ⟨ret_bool HR.out.symm, rfl⟩

set_option maxRecDepth 20000 in
set_option maxHeartbeats 2000000 in
theorem areTypes_any (v : Value) (T : List Int) (w : World) (hr : ZRow .i64 w v T) :
    Calls Tryd.prog 25 #[v] w fun e w' => e = .returned (.bool (!(T == []) && typesB T)) ∧ w' = w := by
  obtain ⟨a, cap, rfl, hcap, hmax, HROW⟩ := zrow_value hr
  have HIT : Hid (∀ (n : Int) W, Calls Tryd.prog 38 #[.int .i64 n] W fun e w' => e = .returned (.bool (typB n)) ∧ w' = W) := fun n W => isTypeG_any n W
  clear hr
  obtain ⟨r, hrr⟩ : ∃ r, r = (!(T == []) && typesB T) := ⟨_, rfl⟩
  have HRR : Hid (r = (!(T == []) && typesB T)) := hrr
  rw [← hrr]
  clear hrr
  go_enter Tryd.func25, Tryd.ntmps25
  go_wp2_with fail
  go_loop [7] (fun i => ∃ k : Nat, k ≤ T.length ∧ i = .int .i64 (k : Int) ∧ Hid (∀ j, j < k → tyB T j = true)) (fun i => T.length - (intOf i).toNat)
  case atStart => exact ⟨0, Nat.zero_le _, rfl, fun j h => absurd h (Nat.not_lt_zero _)⟩
  case round =>
    obtain ⟨k, hk, rfl, HA⟩ := hrel
    by_cases hlt : k < T.length
    · obtain ⟨b, o, ha, hbl, hc⟩ := HROW.out (by omega)
      rw [ha]
      have hcx := hc k hlt
      have HBAD : Hid (tyB T k = false → r = false) := fun h => HRR.out.trans (by rw [types_bad k hlt h]; simp)
      cases k with
      | zero =>
        have HT0 : Hid (tyB T 0 = typB (T[0]'hlt)) := ty_zero hlt
        obtain ⟨x, hx⟩ : ∃ x, x = T[0]'hlt := ⟨_, rfl⟩
        rw [← hx] at HT0 hcx
        simp only [Nat.add_zero] at hcx
        have HI : Hid (∀ W, Calls Tryd.prog 38 #[.int .i64 x] W fun e w' => e = .returned (.bool (typB x)) ∧ w' = W) := fun W => HIT.out x W
        clear hc hx HIT
        cases ht : typB x with
        | false =>
          have HF : Hid (r = false) := HBAD.out (HT0.out.trans ht)
          rw [ht] at HI
          clear HBAD HT0 ht
          go_wp2_with fail
          refine (HI.out _).mono ?_
          rintro e w1 ⟨rfl, rfl⟩
          go_wp2_with fail
          go_ret
          exact ⟨ret_bool HF.out.symm, rfl⟩
        | true =>
          have HU : Hid (∀ j, j < 0 + 1 → tyB T j = true) := all_up HA.out (HT0.out.trans ht)
          rw [ht] at HI
          clear HBAD HT0 ht
          go_wp2_with fail
          refine (HI.out _).mono ?_
          rintro e w1 ⟨rfl, rfl⟩
          go_wp2_with fail
          go_round
          case rel => exact ⟨1, by omega, by go_num, HU⟩
          case measure => simp [intOf]; omega
      | succ k =>
        have HT0 : Hid (tyB T (k + 1) = (typB (T[k + 1]'hlt) && decide (T[k]'(by omega) < T[k + 1]'hlt))) := ty_succ k hlt
        have hcy := hc k (by omega)
        obtain ⟨x, hx⟩ : ∃ x, x = T[k + 1]'hlt := ⟨_, rfl⟩
        obtain ⟨y, hy⟩ : ∃ y, y = T[k]'(by omega) := ⟨_, rfl⟩
        rw [← hx, ← hy] at HT0
        rw [← hx] at hcx
        rw [← hy] at hcy
        have HI : Hid (∀ W, Calls Tryd.prog 38 #[.int .i64 x] W fun e w' => e = .returned (.bool (typB x)) ∧ w' = W) := fun W => HIT.out x W
        have e1 : ((k : Int) + 1).toNat = k + 1 := by omega
        have hk1 : (k : Int) + 1 < (T.length : Int) := by omega
        clear hc hx hy HIT
        rw [show ((k + 1 : Nat) : Int) = (k : Int) + 1 by omega]
        cases ht : typB x with
        | false =>
          have HF : Hid (r = false) := HBAD.out (HT0.out.trans (by rw [ht]; rfl))
          rw [ht] at HI
          clear HBAD HT0 ht
          go_wp2_with fail
          refine (HI.out _).mono ?_
          rintro e w1 ⟨rfl, rfl⟩
          go_wp2_with fail
          go_ret
          exact ⟨ret_bool HF.out.symm, rfl⟩
        | true =>
          rw [ht] at HI
          by_cases hyx : y < x
          · have HU : Hid (∀ j, j < k + 1 + 1 → tyB T j = true) := all_up HA.out (HT0.out.trans (by rw [ht, decide_eq_true hyx]; rfl))
            clear HBAD HT0 ht
            go_wp2_with fail
            refine (HI.out _).mono ?_
            rintro e w1 ⟨rfl, rfl⟩
            go_wp2_with fail
            go_round
            case rel => exact ⟨k + 1 + 1, by omega, by go_num, HU⟩
            case measure => simp [intOf]; omega
          · have HF : Hid (r = false) := HBAD.out (HT0.out.trans (by rw [ht, decide_eq_false hyx]; rfl))
            clear HBAD HT0 ht
            go_wp2_with fail
            refine (HI.out _).mono ?_
            rintro e w1 ⟨rfl, rfl⟩
            go_wp2_with fail
            go_ret
            exact ⟨ret_bool HF.out.symm, rfl⟩
    · have HF : Hid (r = decide (0 < T.length)) := HRR.out.trans (by rw [types_all (fun j hj => HA.out j (by omega))]; cases T <;> simp)
      go_wp2_with fail
      go_ret
      exact ⟨ret_bool HF.out.symm, rfl⟩

set_option maxRecDepth 20000 in
set_option maxHeartbeats 2000000 in
theorem leadsOn_any (x y : List UInt8 × List UInt8 × List Int) (va vb : Value) (w : World) (hE : Env w) (hN : Hid (nameB x.1 = true ∧ nameB y.1 = true)) :
    Calls Tryd.prog 26 #[.agg #[.string ⟨x.1.toArray⟩, .string ⟨x.2.1.toArray⟩, va], .agg #[.string ⟨y.1.toArray⟩, .string ⟨y.2.1.toArray⟩, vb]] w fun e w' => e = .returned (.bool (x.2.1 == y.1 && decide (cmpN x.1 y.1 < 0))) ∧ Below w.heap.size w w' := by
  have HO : Hid (∀ W, Below w.heap.size w W → Calls Tryd.prog 39 #[.string ⟨x.1.toArray⟩, .string ⟨y.1.toArray⟩] W fun e w' => e = .returned (.int .i64 (cmpN x.1 y.1)) ∧ Below W.heap.size W w') := fun W hW => ordN_any ⟨x.1.toArray⟩ ⟨y.1.toArray⟩ W (hE.below hW) ⟨hN.out.1, hN.out.2⟩
  obtain ⟨c, hc⟩ : ∃ c, c = cmpN x.1 y.1 := ⟨_, rfl⟩
  rw [← hc] at HO ⊢
  clear hc
  have HA : Hid (Below w.heap.size w ((w.alloc (.cells #[.string ⟨x.1.toArray⟩, .string ⟨x.2.1.toArray⟩, va] 35)).alloc (.cells #[.string ⟨y.1.toArray⟩, .string ⟨y.2.1.toArray⟩, vb] 35))) := ((Below.refl w.heap.size w).alloc (Nat.le_refl _) _).alloc (by simp) _
  by_cases he : x.2.1 = y.1
  · have HE : Hid (x.2.1 = y.1) := he
    have e1 : (x.2.1 == y.1) = true := by simp [he]
    clear he
    go_enter Tryd.func26, Tryd.ntmps26
    go_wp2_with fail
    refine (HO.out _ HA.out).mono ?_
    rintro e w1 ⟨rfl, hb1⟩
    have hbw : Below w.heap.size w w1 := HA.out.trans (hb1.mono HA.out.size)
    go_wp2_with fail
    go_ret
    exact ⟨ret_bool (by rw [HE.out]; simp), hbw⟩
  · have HF : Hid ((x.2.1 == y.1) = false) := (by simpa using he : (x.2.1 == y.1) = false)
    have e1 := HF.out
    clear he
    go_enter Tryd.func26, Tryd.ntmps26
    go_wp2_with fail
    go_ret
    exact ⟨ret_bool (by rw [HF.out]; rfl), HA.out⟩
end Go.Proofs.YtlmgipmolaeclaaDoor
