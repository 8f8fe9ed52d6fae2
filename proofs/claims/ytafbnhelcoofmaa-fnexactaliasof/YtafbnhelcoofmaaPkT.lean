import Derived.Test.YtafbnhelcoofmaaLTrn
namespace Go.Proofs.Ytafbnhelcoofmaa
open Go.RowKit

/-- A good turn. -/
def goodT (A U : List Int) : Bool := goodW A && decide (U.length = A.length) && U.all smB && decide (U.sum = 0)
theorem good12 {L : List Int} (h : goodW L = true) : L.length ≤ 12 := by
  unfold goodW inB at h
  simp only [Bool.and_eq_true, decide_eq_true_eq] at h
  omega

set_option maxRecDepth 20000 in
set_option maxHeartbeats 2000000 in
theorem sGoodTurn_any (va vu : Value) (A U : List Int) (w : World) (ha : ZRow .i64 w va A) (hu : ZRow .i64 w vu U) (hla : A.length ≤ 1048576) :
    Calls Try.prog 37 #[TrnV va vu] w fun e w' => e = .returned (.bool (goodT A U)) ∧ Below w.heap.size w w' := by
  unfold TrnV
  obtain ⟨aa, ca, rfl, hcc, hca, _⟩ := id ha
  obtain ⟨au, cu, rfl, hcv, hcu, _⟩ := id hu
  have hb0 : Below w.heap.size w (w.alloc (.cells #[.slice aa A.length ca, .slice au U.length cu] 33)) := (Below.refl w.heap.size w).alloc (Nat.le_refl _) _
  have HRA : Hid (ZRow .i64 (w.alloc (.cells #[.slice aa A.length ca, .slice au U.length cu] 33)) (.slice aa A.length ca) A) := ha.kept hb0
  have HRU : Hid (ZRow .i64 (w.alloc (.cells #[.slice aa A.length ca, .slice au U.length cu] 33)) (.slice au U.length cu) U) := hu.kept hb0
  unfold maxLen at hca hcu
  clear ha hu
  cases hg : goodW A with
  | false =>
    have HT : Hid (goodT A U = false) := by show _ = _; unfold goodT; rw [hg]; simp
    go_enter Try.func37, Try.ntmps37
    go_wp2_with fail
    refine (sGoodWeights_any _ A _ HRA.out hla).mono ?_
    rintro e w1 ⟨rfl, rfl⟩
    rw [hg]
    go_wp2_with fail
    go_ret
    exact ⟨ret_bool HT.out.symm, hb0⟩
  | true =>
    by_cases hl : U.length = A.length
    · have hl12 : U.length ≤ 12 := by have := good12 hg; omega
      have e0 : ((U.length : Int) != (A.length : Int)) = false := by simp; omega
      have HTG : Hid (goodT A U = (U.all smB && decide (U.sum = 0))) := by show _ = _; unfold goodT; rw [hg, decide_eq_true hl]; simp
      have HBAD : Hid (U.all smB = false → goodT A U = false) := fun h => by rw [HTG.out, h]; rfl
      clear hl
      go_enter Try.func37, Try.ntmps37
      go_wp2_with fail
      refine (sGoodWeights_any _ A _ HRA.out hla).mono ?_
      rintro e w1 ⟨rfl, rfl⟩
      rw [hg]
      clear hg
      go_wp2_with fail
      go_loopw [3, 22] (fun s i wr => ∃ k : Nat, k ≤ U.length ∧ i = .int .i64 (k : Int) ∧ s = .int .i64 (U.take k).sum ∧ Hid ((U.take k).all smB = true) ∧ wr = w.alloc (.cells #[.slice aa A.length ca, .slice au U.length cu] 33)) (fun _ i _ => U.length - (intOf i).toNat)
      case atStart => exact ⟨0, Nat.zero_le _, rfl, rfl, rfl, rfl⟩
      case round =>
        obtain ⟨k, hk, rfl, rfl, HA, rfl⟩ := hrel
        have hs1 := sm_sum (U.take k) HA.out
        rw [List.length_take, Nat.min_eq_left hk] at hs1
        by_cases hlt : k < U.length
        · obtain ⟨a2, c2, hv2, _, _, HROW⟩ := zrow_value HRU.out
          injection hv2 with hv3 _ hv4
          subst hv3 hv4
          obtain ⟨b, o, haa, hbl, hc⟩ := HROW.out (by omega)
          subst haa
          have hcx := hc k hlt
          have HN : Hid ((U.take (k + 1)).sum = (U.take k).sum + U[k]'hlt) := sum_on hlt
          have HNA : Hid ((U.take (k + 1)).all smB = ((U.take k).all smB && smB (U[k]'hlt))) := all_on hlt
          have HB0 : Hid (smB (U[k]'hlt) = false → goodT A U = false) := fun h => HBAD.out (all_bad hlt h)
          obtain ⟨x, hx⟩ : ∃ x, x = U[k]'hlt := ⟨_, rfl⟩
          rw [← hx] at hcx HN HNA HB0
          obtain ⟨s, hse⟩ : ∃ s, s = (U.take k).sum := ⟨_, rfl⟩
          rw [← hse] at HN hs1 ⊢
          clear hc hx hse HROW
          cases hq : inB x (-10000) 10000 with
          | false =>
            have HB : Hid (goodT A U = false) := HB0.out hq
            go_wp2_with fail
            refine (l1In_any _ _ _ _).mono ?_
            rintro e w2 ⟨rfl, rfl⟩
            rw [hq]
            go_wp2_with fail
            go_ret
            exact ⟨ret_bool HB.out.symm, hb0⟩
          | true =>
            have hx1 := sm_in hq
            go_wp2_with fail
            refine (l1In_any _ _ _ _).mono ?_
            rintro e w2 ⟨rfl, rfl⟩
            rw [hq]
            have HQ : Hid (smB x = true) := hq
            clear hq
            go_wp2_with fail
            go_roundw
            case rel => exact ⟨k + 1, by omega, by go_num, by rw [HN.out], by show _ = true; rw [HNA.out, HA.out, HQ.out]; rfl, by trivial⟩
            case measure => simp [intOf]; omega
        · have HE : Hid ((U.take k).sum = U.sum) := by show _ = _; rw [List.take_of_length_le (by omega)]
          have HALL : Hid (U.all smB = true) := by have := HA.out; rw [List.take_of_length_le (by omega)] at this; exact this
          have HG : Hid (goodT A U = decide (U.sum = 0)) := by show _ = _; rw [HTG.out, HALL.out]; simp
          rw [HE.out]
          obtain ⟨s, hse⟩ : ∃ s, s = U.sum := ⟨_, rfl⟩
          rw [← hse] at HG ⊢
          clear hs1 hse HE
          have HD : Hid ((s == 0) = decide (s = 0)) := by show _ = _; by_cases h : s = 0 <;> simp [h]
          go_wp2_with fail
          go_ret
          exact ⟨ret_bool (by rw [HG.out]; first | exact HD.out | rfl | simp), hb0⟩
    · have e0 : ((U.length : Int) != (A.length : Int)) = true := by simp; omega
      have HT : Hid (goodT A U = false) := by show _ = _; unfold goodT; rw [decide_eq_false hl]; simp
      clear hl
      go_enter Try.func37, Try.ntmps37
      go_wp2_with fail
      refine (sGoodWeights_any _ A _ HRA.out hla).mono ?_
      rintro e w1 ⟨rfl, rfl⟩
      rw [hg]
      go_wp2_with fail
      go_ret
      exact ⟨ret_bool HT.out.symm, hb0⟩

set_option maxRecDepth 20000 in
set_option maxHeartbeats 2000000 in
theorem iGoodTurn_any (va vu : Value) (A U : List Int) (w : World) (ha : ZRow .i64 w va A) (hu : ZRow .i64 w vu U) :
    Calls Try.prog 39 #[TrnV va vu] w fun e w' => e = .returned (.bool (goodT A U)) ∧ Below w.heap.size w w' := by
  unfold TrnV
  obtain ⟨aa, ca, rfl, hcc, hca, _⟩ := id ha
  obtain ⟨au, cu, rfl, hcv, hcu, _⟩ := id hu
  have hb0 : Below w.heap.size w (w.alloc (.cells #[.slice aa A.length ca, .slice au U.length cu] 33)) := (Below.refl w.heap.size w).alloc (Nat.le_refl _) _
  have HRA : Hid (ZRow .i64 (w.alloc (.cells #[.slice aa A.length ca, .slice au U.length cu] 33)) (.slice aa A.length ca) A) := ha.kept hb0
  have HRU : Hid (ZRow .i64 (w.alloc (.cells #[.slice aa A.length ca, .slice au U.length cu] 33)) (.slice au U.length cu) U) := hu.kept hb0
  unfold maxLen at hca hcu
  clear ha hu
  cases hg : goodW A with
  | false =>
    have HT : Hid (goodT A U = false) := by show _ = _; unfold goodT; rw [hg]; simp
    go_enter Try.func39, Try.ntmps39
    go_wp2_with fail
    refine (iGoodWeights_any _ A _ HRA.out).mono ?_
    rintro e w1 ⟨rfl, rfl⟩
    rw [hg]
    go_wp2_with fail
    go_ret
    exact ⟨ret_bool HT.out.symm, hb0⟩
  | true =>
    by_cases hl : U.length = A.length
    · have hl12 : U.length ≤ 12 := by have := good12 hg; omega
      have e0 : ((U.length : Int) != (A.length : Int)) = false := by simp; omega
      have HTG : Hid (goodT A U = (U.all smB && decide (U.sum = 0))) := by show _ = _; unfold goodT; rw [hg, decide_eq_true hl]; simp
      have HBAD : Hid (U.all smB = false → goodT A U = false) := fun h => by rw [HTG.out, h]; rfl
      clear hl
      go_enter Try.func39, Try.ntmps39
      go_wp2_with fail
      refine (iGoodWeights_any _ A _ HRA.out).mono ?_
      rintro e w1 ⟨rfl, rfl⟩
      rw [hg]
      clear hg
      go_wp2_with fail
      go_loopw [21] (fun i wr => ∃ k : Nat, k ≤ U.length ∧ i = .int .i64 (k : Int) ∧ Hid ((U.take k).all smB = true) ∧ wr = w.alloc (.cells #[.slice aa A.length ca, .slice au U.length cu] 33)) (fun i _ => U.length - (intOf i).toNat)
      case atStart => exact ⟨0, Nat.zero_le _, rfl, rfl, rfl⟩
      case round =>
        obtain ⟨k, hk, rfl, HA, rfl⟩ := hrel
        have hs1 := sm_sum (U.take k) HA.out
        rw [List.length_take, Nat.min_eq_left hk] at hs1
        by_cases hlt : k < U.length
        · obtain ⟨a2, c2, hv2, _, _, HROW⟩ := zrow_value HRU.out
          injection hv2 with hv3 _ hv4
          subst hv3 hv4
          obtain ⟨b, o, haa, hbl, hc⟩ := HROW.out (by omega)
          subst haa
          have hcx := hc k hlt
          have HN : Hid ((U.take (k + 1)).sum = (U.take k).sum + U[k]'hlt) := sum_on hlt
          have HNA : Hid ((U.take (k + 1)).all smB = ((U.take k).all smB && smB (U[k]'hlt))) := all_on hlt
          have HB0 : Hid (smB (U[k]'hlt) = false → goodT A U = false) := fun h => HBAD.out (all_bad hlt h)
          obtain ⟨x, hx⟩ : ∃ x, x = U[k]'hlt := ⟨_, rfl⟩
          rw [← hx] at hcx HN HNA HB0
          obtain ⟨s, hse⟩ : ∃ s, s = (U.take k).sum := ⟨_, rfl⟩
          rw [← hse] at HN hs1
          clear hc hx hse HROW
          cases hq : inB x (-10000) 10000 with
          | false =>
            have HB : Hid (goodT A U = false) := HB0.out hq
            go_wp2_with fail
            refine (iWithin_any _ _ _ _).mono ?_
            rintro e w2 ⟨rfl, rfl⟩
            rw [hq]
            go_wp2_with fail
            go_ret
            exact ⟨ret_bool HB.out.symm, hb0⟩
          | true =>
            have hx1 := sm_in hq
            go_wp2_with fail
            refine (iWithin_any _ _ _ _).mono ?_
            rintro e w2 ⟨rfl, rfl⟩
            rw [hq]
            have HQ : Hid (smB x = true) := hq
            clear hq
            go_wp2_with fail
            go_roundw
            case rel => exact ⟨k + 1, by omega, by go_num, by show _ = true; rw [HNA.out, HA.out, HQ.out]; rfl, by trivial⟩
            case measure => simp [intOf]; omega
        · have HE : Hid ((U.take k).sum = U.sum) := by show _ = _; rw [List.take_of_length_le (by omega)]
          have HALL : Hid (U.all smB = true) := by have := HA.out; rw [List.take_of_length_le (by omega)] at this; exact this
          have HG : Hid (goodT A U = decide (U.sum = 0)) := by show _ = _; rw [HTG.out, HALL.out]; simp
          clear hs1 HE
          go_wp2_with fail
          refine (sumOf_any _ U _ HRU.out (by omega) HALL.out).mono ?_
          rintro e w2 ⟨rfl, rfl⟩
          obtain ⟨s, hse⟩ : ∃ s, s = U.sum := ⟨_, rfl⟩
          rw [← hse] at HG ⊢
          have HD : Hid ((s == 0) = decide (s = 0)) := by show _ = _; by_cases h : s = 0 <;> simp [h]
          clear hse
          go_wp2_with fail
          go_ret
          exact ⟨ret_bool (by rw [HG.out]; first | exact HD.out | rfl | simp), hb0⟩
    · have e0 : ((U.length : Int) != (A.length : Int)) = true := by simp; omega
      have HT : Hid (goodT A U = false) := by show _ = _; unfold goodT; rw [decide_eq_false hl]; simp
      clear hl
      go_enter Try.func39, Try.ntmps39
      go_wp2_with fail
      refine (iGoodWeights_any _ A _ HRA.out).mono ?_
      rintro e w1 ⟨rfl, rfl⟩
      rw [hg]
      go_wp2_with fail
      go_ret
      exact ⟨ret_bool HT.out.symm, hb0⟩
end Go.Proofs.Ytafbnhelcoofmaa
