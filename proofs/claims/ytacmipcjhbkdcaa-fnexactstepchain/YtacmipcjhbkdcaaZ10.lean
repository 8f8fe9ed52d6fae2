import Derived.Test.YtacmipcjhbkdcaaZ08
import Derived.Laws.EntriesVeiled
import Derived.Shelf.Abstract
namespace Go.Proofs.Ytacmipcjhbkdcaa
open Go.RowKit


theorem iWithin_anyC (n lo hi : Int) (w : World) : Calls Try.prog 44 #[.int .i64 n, .int .i64 lo, .int .i64 hi] w fun e w' => e = .returned (.bool (decide (lo ≤ n) && decide (n ≤ hi))) ∧ w' = w := by
  by_cases h1 : lo ≤ n
  · go_enter Try.func44, Try.ntmps44
    go_wp2_with fail
    go_ret
    exact ⟨ret_bool (by simp [h1]), rfl⟩
  · go_enter Try.func44, Try.ntmps44
    go_wp2_with fail
    go_ret
    exact ⟨ret_bool (by rw [decide_eq_false (show ¬ lo ≤ n by omega)]; rfl), rfl⟩

set_option maxRecDepth 20000 in
set_option maxHeartbeats 400000 in
theorem isLong_any (s : List UInt8) (w : World) : Calls Try.prog 71 #[.string ⟨s.toArray⟩] w fun e w' => e = .returned (.bool (decide (20 < s.length))) ∧ w' = w := by
  have HD : Hid (decide ((20 : Int) < (s.length : Int)) = decide (20 < s.length)) := by show _ = _; exact decide_eq_decide.2 (by omega)
  go_enter Try.func71, Try.ntmps71
  go_wp2_with fail
  go_ret
  exact ⟨ret_bool HD.out, rfl⟩

set_option maxRecDepth 20000 in
set_option maxHeartbeats 1000000 in
theorem indexLong_any (v : Value) (P : List (List UInt8)) (w : World) (hr : Row w v P) (eg : ∀ args w, (callFunc 71 args).run Try.prog w = .ok (.enter 71 args) w) :
    Calls Try.prog 74 #[v, .func (.func 71) #[] #[]] w fun e w' => (∃ i : Int, e = .returned (.int .i64 i) ∧ decide (0 ≤ i) = P.any (fun p => decide (20 < p.length))) ∧ Below w.heap.size w w' := by
  obtain ⟨a, cap, rfl, hcap, hmax, HROW⟩ := row_value hr
  clear hr
  go_enter Try.func74, Try.ntmps74
  go_wp2_with fail
  go_loopw [8] (fun i wr => ∃ k : Nat, k ≤ P.length ∧ i = .int .i64 (k : Int) ∧ Hid (∀ j, (hj : j < P.length) → j < k → decide (20 < P[j].length) = false) ∧ Below w.heap.size w wr) (fun i _ => P.length - (intOf i).toNat)
  case atStart => exact ⟨0, Nat.zero_le _, rfl, fun j _ h => absurd h (Nat.not_lt_zero _), Below.refl _ _⟩
  case round =>
    obtain ⟨k, hk, rfl, HA, hb⟩ := hrel
    by_cases hlt : k < P.length
    · obtain ⟨b, o, ha, hbl, hcel⟩ := HROW.out (by omega)
      rw [ha]
      have c0 := hcel k hlt
      rw [← hb.cell (p := ⟨b, o + k, none⟩) hbl] at c0
      have HHIT : Hid (decide (20 < (P[k]'hlt).length) = true → decide ((0 : Int) ≤ (k : Int)) = P.any (fun p => decide (20 < p.length))) := fun h => by
        have h1 : P.any (fun p => decide (20 < p.length)) = true := List.any_eq_true.2 ⟨_, List.getElem_mem hlt, h⟩
        rw [h1]; simp
      have HOK : Hid (decide (20 < (P[k]'hlt).length) = false → ∀ j, (hj : j < P.length) → j < k + 1 → decide (20 < P[j].length) = false) := fun h j hj h1 => by
        rcases Nat.lt_or_ge j k with h' | h'
        · exact HA.out j hj h'
        · obtain rfl : j = k := by omega
          exact h
      obtain ⟨x, hxe⟩ : ∃ x, x = P[k]'hlt := ⟨_, rfl⟩
      rw [← hxe] at c0 HHIT HOK
      have hcall := isLong_any x wr
      unfold S at c0
      clear hcel hxe
      obtain ⟨R, hR⟩ : ∃ R, R = decide (20 < x.length) := ⟨_, rfl⟩
      rw [← hR] at HHIT HOK hcall
      clear hR
      cases R with
      | true =>
        have HR := HHIT.out rfl
        go_wp2_with (go_at_fn 71; refine hcall.mono ?_; rintro e w' ⟨rfl, rfl⟩)
        go_ret
        exact ⟨⟨(k : Int), rfl, HR⟩, hb⟩
      | false =>
        have HR := HOK.out rfl
        go_wp2_with (go_at_fn 71; refine hcall.mono ?_; rintro e w' ⟨rfl, rfl⟩)
        go_roundw
        case rel => exact ⟨k + 1, by omega, by go_num, HR, hb⟩
        case measure => simp [intOf]; omega
    · have HR : Hid (P.any (fun p => decide (20 < p.length)) = false) := by
        show P.any _ = false
        rw [List.any_eq_false]
        intro x hx
        obtain ⟨j, hj, rfl⟩ := List.getElem_of_mem hx
        rw [HA.out j hj (by omega)]; simp
      go_wp2_with fail
      go_ret
      exact ⟨⟨-1, rfl, by rw [HR.out]; rfl⟩, hb⟩

set_option maxRecDepth 20000 in
set_option maxHeartbeats 400000 in
theorem anyLong_any (v : Value) (P : List (List UInt8)) (w : World) (hr : Row w v P) (eg : ∀ args w, (callFunc 71 args).run Try.prog w = .ok (.enter 71 args) w) :
    Calls Try.prog 70 #[v, .func (.func 71) #[] #[]] w fun e w' => e = .returned (.bool (P.any (fun p => decide (20 < p.length)))) ∧ Below w.heap.size w w' := by
  have HC : Hid (Calls Try.prog 74 #[v, .func (.func 71) #[] #[]] w fun e w' => (∃ i : Int, e = .returned (.int .i64 i) ∧ decide (0 ≤ i) = P.any (fun p => decide (20 < p.length))) ∧ Below w.heap.size w w') := indexLong_any v P w hr eg
  obtain ⟨a, cap, rfl, hcap, hmax, _⟩ := hr
  clear eg
  go_enter Try.func70, Try.ntmps70
  go_wp2_with fail
  refine HC.out.mono ?_
  rintro e w1 ⟨⟨i, rfl, hi⟩, hb⟩
  have HI : Hid (decide (0 ≤ i) = P.any (fun p => decide (20 < p.length))) := hi
  clear hi
  go_wp2_with fail
  go_ret
  exact ⟨ret_bool HI.out, hb⟩

theorem logB_any (P : List (List UInt8)) : P.all (fun p => decide (p.length ≤ 20)) = !(P.any (fun p => decide (20 < p.length))) := by
  rw [List.not_any_eq_all_not]
  congr 1
  funext p
  by_cases h : p.length ≤ 20
  · simp [h]
  · simp [h]; omega

set_option maxRecDepth 20000 in
set_option maxHeartbeats 400000 in
theorem isLog_any (v : Value) (P : List (List UInt8)) (w : World) (hr : Row w v P) :
    Calls Try.prog 58 #[v] w fun e w' => e = .returned (.bool (logB P)) ∧ Below w.heap.size w w' := by
  have HC : Hid (Calls Try.prog 70 #[v, .func (.func 71) #[] #[]] w fun e w' => e = .returned (.bool (P.any (fun p => decide (20 < p.length)))) ∧ Below w.heap.size w w') := anyLong_any v P w hr (fun _ _ => by kernel_rfl)
  obtain ⟨a, cap, rfl, hcap, hmax, _⟩ := hr
  by_cases h : (40 : Int) < (P.length : Int)
  · go_enter Try.func58, Try.ntmps58
    go_wp2_with fail
    go_ret
    exact ⟨ret_bool (by unfold logB; rw [decide_eq_false (by omega)]; rfl), Below.refl _ _⟩
  · go_enter Try.func58, Try.ntmps58
    go_wp2_with fail
    refine HC.out.mono ?_
    rintro e w1 ⟨rfl, hb⟩
    go_wp2_with fail
    go_ret
    exact ⟨ret_bool (by unfold logB; rw [decide_eq_true (by omega), logB_any]; rfl), hb⟩
end Go.Proofs.Ytacmipcjhbkdcaa

namespace Go.Proofs.Ytacmipcjhbkdcaa
open Go.RowKit

theorem row_take {w : World} {a : Option Addr} {n cap : Nat} {P : List (List UInt8)} (h : Row w (.slice a P.length cap) P) (hn : n ≤ P.length) : Row w (.slice a n cap) (P.take n) := by
  obtain ⟨a', cap', e, h1, h2, h3⟩ := h
  cases e
  refine ⟨a, cap, by rw [List.length_take, Nat.min_eq_left hn], by rw [List.length_take, Nat.min_eq_left hn]; omega, h2, ?_⟩
  rcases h3 with rfl | ⟨b, o, rfl, hb, hc⟩
  · exact .inl (by simp)
  · refine .inr ⟨b, o, rfl, hb, fun j hj => ?_⟩
    rw [List.length_take, Nat.min_eq_left hn] at hj
    rw [List.getElem_take]
    exact hc j (by omega)

set_option maxRecDepth 20000 in
set_option maxHeartbeats 1000000 in
theorem sEqualStr_any (va vb : Value) (A B : List (List UInt8)) (w : World) (hra : Row w va A) (hrb : Row w vb B) :
    Calls Try.prog 72 #[va, vb] w fun e w' => e = .returned (.bool (A == B)) ∧ Below w.heap.size w w' := by
  obtain ⟨aa, ca, rfl, hca, hma, HA⟩ := row_value hra
  obtain ⟨ab, cb, rfl, hcb, hmb, HB⟩ := row_value hrb
  clear hra hrb
  by_cases hl : A.length = B.length
  · have e0 : ((A.length : Int) != (B.length : Int)) = false := by simp; omega
    have HL : Hid (A.length = B.length) := hl
    have hl1 : A.length ≤ B.length := by omega
    have hl2 : B.length ≤ A.length := by omega
    clear hl
    go_enter Try.func72, Try.ntmps72
    go_wp2_with fail
    go_loopw [13] (fun i wr => ∃ k : Nat, k ≤ A.length ∧ i = .int .i64 k ∧ Hid (A.take k = B.take k) ∧ Below w.heap.size w wr) (fun i _ => A.length - (intOf i).toNat)
    case atStart => exact ⟨0, Nat.zero_le _, rfl, rfl, Below.refl _ _⟩
    case round =>
      obtain ⟨k, hk, rfl, HK, hb⟩ := hrel
      by_cases hlt : k < A.length
      · have hltB : k < B.length := by omega
        obtain ⟨ba, oa, ha, hba, hcA⟩ := HA.out (by omega)
        obtain ⟨bb, ob, hb', hbb, hcB⟩ := HB.out (by omega)
        rw [ha, hb']
        have cA := hcA k hlt
        have cB := hcB k hltB
        rw [← hb.cell (p := ⟨ba, oa + k, none⟩) hba] at cA
        rw [← hb.cell (p := ⟨bb, ob + k, none⟩) hbb] at cB
        have HT : Hid (A.take (k + 1) = A.take k ++ [A[k]'hlt] ∧ B.take (k + 1) = B.take k ++ [B[k]'hltB]) := ⟨List.take_succ_eq_append_getElem hlt, List.take_succ_eq_append_getElem hltB⟩
        have HNE : Hid (A[k]'hlt ≠ B[k]'hltB → A ≠ B) := fun h e => by subst e; exact h rfl
        obtain ⟨x, hx⟩ : ∃ x, x = A[k]'hlt := ⟨_, rfl⟩
        obtain ⟨y, hy⟩ : ∃ y, y = B[k]'hltB := ⟨_, rfl⟩
        rw [← hx] at cA HT HNE
        rw [← hy] at cB HT HNE
        unfold S at cA cB
        clear hcA hcB hx hy
        by_cases hxy : x = y
        · subst hxy
          go_wp2_with fail
          go_quiet (fail)
          go_wp2_with fail
          go_roundw
          case rel => exact ⟨k + 1, by omega, by go_num, by show _ = _; rw [HT.out.1, HT.out.2, HK.out], below_drewN hb _⟩
          case measure => simp [intOf]; omega
        · have e1 : (x == y) = false := by simpa using hxy
          have HN : Hid (A ≠ B) := HNE.out hxy
          clear hxy HT HNE
          go_wp2_with fail
          go_quiet (fail)
          go_wp2_with fail
          go_ret
          exact ⟨ret_bool (by rw [beq_eq_false_iff_ne.2 HN.out]), below_drewN hb _⟩
      · have HE : Hid (A = B) := by
          have := HK.out
          rw [List.take_of_length_le (by omega), List.take_of_length_le (by omega)] at this; exact this
        go_wp2_with fail
        go_ret
        exact ⟨ret_bool (by rw [HE.out]; simp), hb⟩
  · have e0 : ((A.length : Int) != (B.length : Int)) = true := by simp; omega
    have HN : Hid (A ≠ B) := fun e => hl (by rw [e])
    clear hl
    go_enter Try.func72, Try.ntmps72
    go_wp2_with fail
    go_ret
    exact ⟨ret_bool (by rw [beq_eq_false_iff_ne.2 HN.out]), Below.refl _ _⟩

set_option maxRecDepth 20000 in
set_option maxHeartbeats 400000 in
theorem isBeginning_any (va vb : Value) (A B : List (List UInt8)) (w : World) (hra : Row w va A) (hrb : Row w vb B) :
    Calls Try.prog 59 #[va, vb] w fun e w' => e = .returned (.bool (begB A B)) ∧ Below w.heap.size w w' := by
  obtain ⟨aa, ca, rfl, hca, hma, _⟩ := row_value hra
  obtain ⟨ab, cb, rfl, hcb, hmb, _⟩ := row_value hrb
  by_cases hl : (A.length : Int) ≤ (B.length : Int)
  · have hln : A.length ≤ B.length := by omega
    have HC : Hid (Calls Try.prog 72 #[.slice aa A.length ca, .slice ab A.length cb] w fun e w' => e = .returned (.bool (A == B.take A.length)) ∧ Below w.heap.size w w') := sEqualStr_any _ _ A (B.take A.length) w hra (row_take hrb hln)
    have hcb2 : A.length ≤ cb := by omega
    clear hra hrb
    go_enter Try.func59, Try.ntmps59
    go_wp2_with fail
    refine HC.out.mono ?_
    rintro e w1 ⟨rfl, hb⟩
    go_wp2_with fail
    go_ret
    exact ⟨ret_bool (by unfold begB; rw [decide_eq_true hln, Bool.true_and]), hb⟩
  · have hln : ¬ A.length ≤ B.length := by omega
    clear hra hrb
    go_enter Try.func59, Try.ntmps59
    go_wp2_with fail
    go_ret
    exact ⟨ret_bool (by unfold begB; rw [decide_eq_false hln]; rfl), Below.refl _ _⟩

set_option maxRecDepth 20000 in
set_option maxHeartbeats 1000000 in
theorem isTail_any (v : Value) (x : LkT) (w : World) (hr : Row w v x.1) :
    Calls Try.prog 45 #[.agg #[v, .int .i64 x.2.1, .int .i64 x.2.2]] w fun e w' => e = .returned (.bool (tailB x)) ∧ Below w.heap.size w w' := by
  obtain ⟨P, se, su⟩ := x
  simp only at hr ⊢
  have HC : Hid (∀ W, Below w.heap.size w W → Calls Try.prog 58 #[v] W fun e w' => e = .returned (.bool (logB P)) ∧ Below W.heap.size W w') := fun W hW => isLog_any v P W (hr.kept hW)
  obtain ⟨aa, ca, rfl, hca, hma, _⟩ := row_value hr
  have HA : Hid (tailB (P, se, su) = (logB P && decide (se = 0) && decide (su = (P.length : Int)))) := rfl
  rw [HA.out]
  obtain ⟨g, hg⟩ : ∃ g, g = logB P := ⟨_, rfl⟩
  rw [← hg] at HC ⊢
  have hb0 : Below w.heap.size w (w.alloc (.cells #[.slice aa P.length ca, .int .i64 se, .int .i64 su] 71)) := (Below.refl _ _).alloc (Nat.le_refl _) _
  clear hg hr HA
  cases g with
  | false =>
    go_enter Try.func45, Try.ntmps45
    go_wp2_with fail
    refine (HC.out _ hb0).mono ?_
    rintro e w1 ⟨rfl, hb⟩
    have hbw := hb0.trans (hb.mono hb0.size)
    go_wp2_with fail
    go_ret
    exact ⟨rfl, hbw⟩
  | true =>
    by_cases h0 : se = 0
    · by_cases h1 : su = (P.length : Int)
      · have e0 : (se == 0) = true := by simp [h0]
        have e1 : (su == (P.length : Int)) = true := by simp [h1]
        have HH : Hid (se = 0 ∧ su = (P.length : Int)) := ⟨h0, h1⟩
        clear h0 h1
        go_enter Try.func45, Try.ntmps45
        go_wp2_with fail
        refine (HC.out _ hb0).mono ?_
        rintro e w1 ⟨rfl, hb⟩
        obtain ⟨c, hbw⟩ := box1k hb
        have c0 := c 0
        have c1 := c 1
        have c2 := c 2
        simp at c0 c1 c2
        clear c
        go_wp2_with fail
        go_ret
        exact ⟨ret_bool (by simp [HH.out.1, HH.out.2]), hbw⟩
      · have e0 : (se == 0) = true := by simp [h0]
        have e1 : (su == (P.length : Int)) = false := by simp [h1]
        have HH : Hid (¬ su = (P.length : Int)) := h1
        clear h0 h1
        go_enter Try.func45, Try.ntmps45
        go_wp2_with fail
        refine (HC.out _ hb0).mono ?_
        rintro e w1 ⟨rfl, hb⟩
        obtain ⟨c, hbw⟩ := box1k hb
        have c0 := c 0
        have c1 := c 1
        have c2 := c 2
        simp at c0 c1 c2
        clear c
        go_wp2_with fail
        go_ret
        exact ⟨ret_bool (by simp [HH.out]), hbw⟩
    · have e0 : (se == 0) = false := by simp [h0]
      have HH : Hid (¬ se = 0) := h0
      clear h0
      go_enter Try.func45, Try.ntmps45
      go_wp2_with fail
      refine (HC.out _ hb0).mono ?_
      rintro e w1 ⟨rfl, hb⟩
      obtain ⟨c, hbw⟩ := box1k hb
      have c0 := c 0
      have c1 := c 1
      have c2 := c 2
      simp at c0 c1 c2
      clear c
      go_wp2_with fail
      go_ret
      exact ⟨ret_bool (by simp [HH.out]), hbw⟩

set_option maxRecDepth 20000 in
set_option maxHeartbeats 2000000 in
theorem isAhead_any (v v2 : Value) (x y : LkT) (w : World) (hr : Row w v x.1) (hr2 : Row w v2 y.1) :
    Calls Try.prog 46 #[.agg #[v, .int .i64 x.2.1, .int .i64 x.2.2], .agg #[v2, .int .i64 y.2.1, .int .i64 y.2.2]] w fun e w' => e = .returned (.bool (aheadB x y)) ∧ Below w.heap.size w w' := by
  obtain ⟨P, se, su⟩ := x
  obtain ⟨R, te, tu⟩ := y
  simp only at hr hr2 ⊢
  have HC : Hid (∀ W, Below w.heap.size w W → Calls Try.prog 58 #[v] W fun e w' => e = .returned (.bool (logB P)) ∧ Below W.heap.size W w') := fun W hW => isLog_any v P W (hr.kept hW)
  have HG : Hid (∀ W, Below w.heap.size w W → Calls Try.prog 59 #[v2, v] W fun e w' => e = .returned (.bool (begB R P)) ∧ Below W.heap.size W w') := fun W hW => isBeginning_any v2 v R P W (hr2.kept hW) (hr.kept hW)
  obtain ⟨aa, ca, rfl, hca, hma, _⟩ := row_value hr
  obtain ⟨ab, cb, rfl, hcb, hmb, _⟩ := row_value hr2
  have HA : Hid (aheadB (P, se, su) (R, te, tu) = (logB P && begB R P && (decide (0 ≤ se) && decide (se ≤ (R.length : Int))) && (decide (0 ≤ su) && decide (su ≤ tu)))) := rfl
  rw [HA.out]
  have HW1 : Hid (∀ W, Calls Try.prog 44 #[.int .i64 se, .int .i64 0, .int .i64 (R.length : Int)] W fun e w' => e = .returned (.bool (decide (0 ≤ se) && decide (se ≤ (R.length : Int)))) ∧ w' = W) := fun W => iWithin_anyC _ _ _ W
  have HW2 : Hid (∀ W, Calls Try.prog 44 #[.int .i64 su, .int .i64 0, .int .i64 tu] W fun e w' => e = .returned (.bool (decide (0 ≤ su) && decide (su ≤ tu))) ∧ w' = W) := fun W => iWithin_anyC _ _ _ W
  obtain ⟨g, hg⟩ : ∃ g, g = logB P := ⟨_, rfl⟩
  obtain ⟨q, hq⟩ : ∃ q, q = begB R P := ⟨_, rfl⟩
  obtain ⟨b1, hb1⟩ : ∃ b1, b1 = (decide (0 ≤ se) && decide (se ≤ (R.length : Int))) := ⟨_, rfl⟩
  obtain ⟨b2, hb2⟩ : ∃ b2, b2 = (decide (0 ≤ su) && decide (su ≤ tu)) := ⟨_, rfl⟩
  rw [← hg] at HC ⊢
  rw [← hq] at HG ⊢
  rw [← hb1] at HW1 ⊢
  rw [← hb2] at HW2 ⊢
  obtain ⟨W0, hW0⟩ : ∃ W0, W0 = (w.alloc (.cells #[.slice aa P.length ca, .int .i64 se, .int .i64 su] 71)).alloc (.cells #[.slice ab R.length cb, .int .i64 te, .int .i64 tu] 71) := ⟨_, rfl⟩
  have hb0 : Below w.heap.size w ((w.alloc (.cells #[.slice aa P.length ca, .int .i64 se, .int .i64 su] 71)).alloc (.cells #[.slice ab R.length cb, .int .i64 te, .int .i64 tu] 71)) := ((Below.refl _ _).alloc (Nat.le_refl _) _).alloc (by simp) _
  clear hg hq hb1 hb2 hr hr2 HA hW0
  go_enter Try.func46, Try.ntmps46
  go_wp2_with fail
  refine (HC.out _ hb0).mono ?_
  rintro e w1 ⟨rfl, hb⟩
  have hbK := hb
  obtain ⟨c, d, hbw⟩ := box2 hb
  have c0 := c 0
  have c1 := c 1
  have c2 := c 2
  have d0 := d 0
  have d1 := d 1
  have d2 := d 2
  simp at c0 c1 c2 d0 d1 d2
  clear c d hb
  cases g with
  | false =>
    go_wp2_with fail
    go_ret
    exact ⟨rfl, hbw⟩
  | true =>
    go_wp2_with fail
    refine (HG.out _ hbw).mono ?_
    rintro e w2 ⟨rfl, hb⟩
    obtain ⟨c, d, hbw2⟩ := box2 (hbK.trans (hb.mono hbK.size))
    clear c0 c1 c2 d0 d1 d2
    have c0 := c 0
    have c1 := c 1
    have c2 := c 2
    have d0 := d 0
    have d1 := d 1
    have d2 := d 2
    simp at c0 c1 c2 d0 d1 d2
    clear c d hb hbK hbw
    cases q with
    | false =>
      go_wp2_with fail
      go_ret
      exact ⟨rfl, hbw2⟩
    | true =>
      go_wp2_with fail
      refine (HW1.out _).mono ?_
      rintro e w3 ⟨rfl, rfl⟩
      cases b1 with
      | false =>
        go_wp2_with fail
        go_ret
        exact ⟨rfl, hbw2⟩
      | true =>
        go_wp2_with fail
        refine (HW2.out _).mono ?_
        rintro e w4 ⟨rfl, rfl⟩
        go_wp2_with fail
        go_ret
        exact ⟨ret_bool (by simp), hbw2⟩

set_option maxRecDepth 20000 in
set_option maxHeartbeats 4000000 in
theorem iGoodChain_any (v : Value) (L : List LkT) (w : World) (hr : LkRow w v L) :
    Calls Try.prog 28 #[ChV v] w fun e w' => e = .returned (.bool (chB L)) ∧ Below w.heap.size w w' := by
  unfold ChV
  obtain ⟨a, cap, rfl, hcap, hmax, HROW⟩ := lkrow_value hr
  have HW1 : Hid (∀ W, Calls Try.prog 44 #[.int .i64 (L.length : Int), .int .i64 1, .int .i64 6] W fun e w' => e = .returned (.bool (decide (1 ≤ (L.length : Int)) && decide ((L.length : Int) ≤ 6))) ∧ w' = W) := fun W => iWithin_anyC _ _ _ W
  have HT : Hid (∀ (x : LkT) (va : Value) W, Row W va x.1 → Calls Try.prog 45 #[.agg #[va, .int .i64 x.2.1, .int .i64 x.2.2]] W fun e w' => e = .returned (.bool (tailB x)) ∧ Below W.heap.size W w') := fun x va W h => isTail_any va x W h
  have HH : Hid (∀ (x y : LkT) (va vb : Value) W, Row W va x.1 → Row W vb y.1 → Calls Try.prog 46 #[.agg #[va, .int .i64 x.2.1, .int .i64 x.2.2], .agg #[vb, .int .i64 y.2.1, .int .i64 y.2.2]] W fun e w' => e = .returned (.bool (aheadB x y)) ∧ Below W.heap.size W w') := fun x y va vb W h1 h2 => isAhead_any va vb x y W h1 h2
  clear hr
  have hb0 : Below w.heap.size w (w.alloc (.cells #[.slice a L.length cap] 31)) := (Below.refl _ _).alloc (Nat.le_refl _) _
  by_cases hin : 1 ≤ L.length ∧ L.length ≤ 6
  · obtain ⟨h1, h6⟩ := hin
    rw [show (decide (1 ≤ (L.length : Int)) && decide ((L.length : Int) ≤ 6)) = true by simp; omega] at HW1
    have HCB : Hid (chB L = goodL L) := by show _ = _; unfold chB; simp [h1, h6]
    rw [HCB.out]
    obtain ⟨b, o, ha, hbl, hcel⟩ := HROW.out (by omega)
    have HCEL : Hid (∀ j, (hj : j < L.length) → ∃ va, LkAt w b (o + j * 3) L[j] va) := hcel
    subst ha
    obtain ⟨n, hn⟩ : ∃ n, n + 1 = L.length := ⟨L.length - 1, by omega⟩
    have hlt : n < L.length := by omega
    obtain ⟨va, hx⟩ := hcel n hlt
    have hxk := hx.kept hb0
    have HTL : Hid (goodL (L.drop n) = tailB (L[n]'hlt)) := goodL_last hn
    obtain ⟨x, hxe⟩ : ∃ x, x = L[n]'hlt := ⟨_, rfl⟩
    rw [← hxe] at hx hxk HTL
    have HTX : Hid (∀ W, Below w.heap.size w W → Calls Try.prog 45 #[.agg #[va, .int .i64 x.2.1, .int .i64 x.2.2]] W fun e w' => e = .returned (.bool (tailB x)) ∧ Below W.heap.size W w') := fun W hW => HT.out x va W (hx.kept hW).2
    unfold LkAt at hxk
    obtain ⟨⟨c0, c1, c2⟩, hzr⟩ := hxk
    obtain ⟨aa, ca, rfl, _, _, _⟩ := hzr
    have hni : ((L.length : Int) - 1) = (n : Int) := by omega
    have HND : Hid (L.length = n + 1) := hn.symm
    have hnL : (n : Int) < (L.length : Int) := by omega
    obtain ⟨tb, htb⟩ : ∃ tb, tb = tailB x := ⟨_, rfl⟩
    rw [← htb] at HTX HTL
    clear hcel hx hxe HROW hn htb HT
    go_enter Try.func28, Try.ntmps28
    go_wp2_with fail
    refine (HW1.out _).mono ?_
    rintro e w1 ⟨rfl, rfl⟩
    (try rw [hni])
    go_wp2_with fail
    refine (HTX.out _ hb0).mono ?_
    rintro e w2 ⟨rfl, hb2⟩
    obtain ⟨cc, hbw2⟩ := box1k hb2
    have p0 := cc 0
    simp at p0
    clear c0 c1 c2 cc HTX
    cases tb with
    | false =>
      have HF : Hid (goodL L = false) := by
        show _ = _
        cases hg : goodL L with
        | false => rfl
        | true =>
          have h2 : chB L = true := by rw [HCB.out, hg]
          have h3 := chB_drop h2 n (by have := HND.out; omega)
          rw [HTL.out] at h3; cases h3
      clear hb2
      go_wp2_with fail
      go_ret
      exact ⟨ret_bool HF.out.symm, hbw2⟩
    | true =>
      have HB2 : Hid (Below (w.alloc (.cells #[.slice (some ⟨b, o, none⟩) L.length cap] 31)).heap.size (w.alloc (.cells #[.slice (some ⟨b, o, none⟩) L.length cap] 31)) w2) := hb2
      clear hb2 p0
      go_wp2_with fail
      go_loopw [4] (fun kv wr => ∃ k : Int, -1 ≤ k ∧ k + 1 ≤ (n : Int) ∧ kv = .int .i64 k ∧ Hid (∀ j : Nat, (j : Int) = k + 1 → goodL (L.drop j) = true) ∧ Below w.heap.size w wr ∧ Hid (wr.cell? ⟨w.heap.size, 0, none⟩ = some (.slice (some ⟨b, o, none⟩) L.length cap))) (fun kv _ => (intOf kv + 1).toNat)
      case atStart => exact ⟨(n : Int) - 1, by omega, by omega, by go_num, fun j hj => by (obtain rfl : j = n := (by omega)); exact HTL.out, hbw2, (box1k HB2.out).1 0⟩
      case round =>
        obtain ⟨k, hk0, hk1, rfl, HG, hb, HP⟩ := hrel
        clear HB2 hbw2
        by_cases hk : 0 ≤ k
        · obtain ⟨j, rfl⟩ : ∃ j : Nat, k = (j : Int) := ⟨k.toNat, by omega⟩
          have hjl : j + 1 < L.length := by omega
          obtain ⟨va, hx⟩ := HCEL.out j (by omega)
          obtain ⟨vb, hy⟩ := HCEL.out (j + 1) hjl
          have HGN : Hid (goodL (L.drop j) = (aheadB (L[j]'(by omega)) (L[j + 1]'hjl) && goodL (L.drop (j + 1)))) := goodL_next hjl
          obtain ⟨x, hxe⟩ : ∃ x, x = L[j]'(by omega) := ⟨_, rfl⟩
          obtain ⟨y, hye⟩ : ∃ y, y = L[j + 1]'hjl := ⟨_, rfl⟩
          rw [← hxe] at hx HGN
          rw [← hye] at hy HGN
          have HC : Hid (∀ W, Below wr.heap.size wr W → (W.cell? ⟨w.heap.size, 0, none⟩ = some (.slice (some ⟨b, o, none⟩) L.length cap)) ∧ LkAt W b (o + j * 3) x va ∧ LkAt W b (o + (j + 1) * 3) y vb) := fun W hW => ⟨by rw [hW.cell (p := ⟨w.heap.size, 0, none⟩) (World.block_lt_of_cell? _ _ HP.out)]; exact HP.out, hx.kept (hb.trans (hW.mono hb.size)), hy.kept (hb.trans (hW.mono hb.size))⟩
          have HQ : Hid (∀ W, Below wr.heap.size wr W → Calls Try.prog 46 #[.agg #[va, .int .i64 x.2.1, .int .i64 x.2.2], .agg #[vb, .int .i64 y.2.1, .int .i64 y.2.2]] W fun e w' => e = .returned (.bool (aheadB x y)) ∧ Below W.heap.size W w') := fun W hW => HH.out x y va vb W (HC.out W hW).2.1.2 (HC.out W hW).2.2.2
          have hG1 := HG.out (j + 1) (by omega)
          have HAH : Hid (goodL (L.drop j) = aheadB x y) := by show _ = _; rw [HGN.out, hG1, Bool.and_true]
          obtain ⟨m, hm⟩ : ∃ m, m = j + 1 := ⟨_, rfl⟩
          obtain ⟨ab, hab⟩ : ∃ ab, ab = aheadB x y := ⟨_, rfl⟩
          rw [← hab] at HQ HAH
          have hbd : Below wr.heap.size wr wr.drew := (Below.refl _ _).drew
          rw [← hm] at HC
          have hjL : (m : Int) < (L.length : Int) := by omega
          have hjL0 : (j : Int) < (L.length : Int) := by omega
          have wj : IntKind.i64.wrap ((j : Int) + 1) = (m : Int) := by rw [wrap_small _ (by omega) (by omega)]; omega
          have w64 : wrap64 ((j : Int) + 1) = (m : Int) := by unfold wrap64; omega
          unfold LkAt at HC
          clear hx hy hxe hye hab HGN hG1 hm
          go_wp2_with fail
          refine wp_region_quiet (C := fun W => Below wr.heap.size wr W) (by kernel_rfl) (by kernel_rfl) hbd ?_
          refine wpQuiet_step (fun K hK => ?_)
          rw [if_pos (by rfl)]
          refine ⟨.pointer (some ⟨w.heap.size, 0, none⟩), fun W hW => quiet_ok ?_, hK _ ?_⟩
          · have f := HC.out W hW
            obtain ⟨p0, ⟨⟨c0, c1, c2⟩, _⟩, ⟨⟨e0, e1, e2⟩, _⟩⟩ := f
            go_simp
            all_goals (try omega)
          clear hK K
          simp only [Act.put, List.setIfInBounds_toArray, List.set_cons_succ, List.set_cons_zero]
          refine wpQuiet_step (fun K hK => ?_)
          rw [if_pos (by rfl)]
          refine ⟨.slice (some ⟨b, o, none⟩) L.length cap, fun W hW => quiet_ok ?_, hK _ ?_⟩
          · have f := HC.out W hW
            obtain ⟨p0, ⟨⟨c0, c1, c2⟩, _⟩, ⟨⟨e0, e1, e2⟩, _⟩⟩ := f
            go_simp
            all_goals (try omega)
          clear hK K
          simp only [Act.put, List.setIfInBounds_toArray, List.set_cons_succ, List.set_cons_zero]
          refine wpQuiet_step (fun K hK => ?_)
          rw [if_pos (by rfl)]
          refine ⟨.int .i64 (j : Int), fun W hW => quiet_ok ?_, hK _ ?_⟩
          · have f := HC.out W hW
            obtain ⟨p0, ⟨⟨c0, c1, c2⟩, _⟩, ⟨⟨e0, e1, e2⟩, _⟩⟩ := f
            go_simp
            all_goals (try omega)
          clear hK K
          simp only [Act.put, List.setIfInBounds_toArray, List.set_cons_succ, List.set_cons_zero]
          refine wpQuiet_step (fun K hK => ?_)
          rw [if_pos (by rfl)]
          refine ⟨.pointer (some ⟨b, o + j * 3, none⟩), fun W hW => quiet_ok ?_, hK _ ?_⟩
          · have f := HC.out W hW
            obtain ⟨p0, ⟨⟨c0, c1, c2⟩, _⟩, ⟨⟨e0, e1, e2⟩, _⟩⟩ := f
            go_simp
            all_goals (try omega)
          clear hK K
          simp only [Act.put, List.setIfInBounds_toArray, List.set_cons_succ, List.set_cons_zero]
          refine wpQuiet_step (fun K hK => ?_)
          rw [if_pos (by rfl)]
          refine ⟨.agg #[va, .int .i64 x.2.1, .int .i64 x.2.2], fun W hW => quiet_ok ?_, hK _ ?_⟩
          · have f := HC.out W hW
            obtain ⟨p0, ⟨⟨c0, c1, c2⟩, _⟩, ⟨⟨e0, e1, e2⟩, _⟩⟩ := f
            go_simp
            all_goals (try omega)
          clear hK K
          simp only [Act.put, List.setIfInBounds_toArray, List.set_cons_succ, List.set_cons_zero]
          refine wpQuiet_step (fun K hK => ?_)
          rw [if_pos (by rfl)]
          refine ⟨.pointer (some ⟨w.heap.size, 0, none⟩), fun W hW => quiet_ok ?_, hK _ ?_⟩
          · have f := HC.out W hW
            obtain ⟨p0, ⟨⟨c0, c1, c2⟩, _⟩, ⟨⟨e0, e1, e2⟩, _⟩⟩ := f
            go_simp
            all_goals (try omega)
          clear hK K
          simp only [Act.put, List.setIfInBounds_toArray, List.set_cons_succ, List.set_cons_zero]
          refine wpQuiet_step (fun K hK => ?_)
          rw [if_pos (by rfl)]
          refine ⟨.slice (some ⟨b, o, none⟩) L.length cap, fun W hW => quiet_ok ?_, hK _ ?_⟩
          · have f := HC.out W hW
            obtain ⟨p0, ⟨⟨c0, c1, c2⟩, _⟩, ⟨⟨e0, e1, e2⟩, _⟩⟩ := f
            go_simp
            all_goals (try omega)
          clear hK K
          simp only [Act.put, List.setIfInBounds_toArray, List.set_cons_succ, List.set_cons_zero]
          refine wpQuiet_step (fun K hK => ?_)
          rw [if_pos (by rfl)]
          refine ⟨.int .i64 (j : Int), fun W hW => quiet_ok ?_, hK _ ?_⟩
          · have f := HC.out W hW
            obtain ⟨p0, ⟨⟨c0, c1, c2⟩, _⟩, ⟨⟨e0, e1, e2⟩, _⟩⟩ := f
            go_simp
            all_goals (try omega)
          clear hK K
          simp only [Act.put, List.setIfInBounds_toArray, List.set_cons_succ, List.set_cons_zero]
          refine wpQuiet_step (fun K hK => ?_)
          rw [if_pos (by rfl)]
          refine ⟨.int .i64 (m : Int), fun W hW => quiet_ok ?_, hK _ ?_⟩
          · have f := HC.out W hW
            obtain ⟨p0, ⟨⟨c0, c1, c2⟩, _⟩, ⟨⟨e0, e1, e2⟩, _⟩⟩ := f
            go_simp
            all_goals (try omega)
          clear hK K
          simp only [Act.put, List.setIfInBounds_toArray, List.set_cons_succ, List.set_cons_zero]
          refine wpQuiet_step (fun K hK => ?_)
          rw [if_pos (by rfl)]
          refine ⟨.pointer (some ⟨b, o + m * 3, none⟩), fun W hW => quiet_ok ?_, hK _ ?_⟩
          · have f := HC.out W hW
            obtain ⟨p0, ⟨⟨c0, c1, c2⟩, _⟩, ⟨⟨e0, e1, e2⟩, _⟩⟩ := f
            go_simp
            all_goals (try omega)
          clear hK K
          simp only [Act.put, List.setIfInBounds_toArray, List.set_cons_succ, List.set_cons_zero]
          refine wpQuiet_step (fun K hK => ?_)
          rw [if_pos (by rfl)]
          refine ⟨.agg #[vb, .int .i64 y.2.1, .int .i64 y.2.2], fun W hW => quiet_ok ?_, hK _ ?_⟩
          · have f := HC.out W hW
            obtain ⟨p0, ⟨⟨c0, c1, c2⟩, _⟩, ⟨⟨e0, e1, e2⟩, _⟩⟩ := f
            go_simp
            all_goals (try omega)
          clear hK K
          simp only [Act.put, List.setIfInBounds_toArray, List.set_cons_succ, List.set_cons_zero]
          refine wpQuiet_step (fun K hK => ?_)
          rw [if_pos (by rfl)]
          refine ⟨.bool ab, fun W hW => quiet_call (f := 46) (args := #[.agg #[va, .int .i64 x.2.1, .int .i64 x.2.2], .agg #[vb, .int .i64 y.2.1, .int .i64 y.2.2]]) ?_ ?_, hK _ ?_⟩
          · go_simp
          · exact (HQ.out W hW).mono fun e w'' h => ⟨h.1, hW.trans (h.2.mono hW.size)⟩
          clear hK K
          simp only [Act.put, List.setIfInBounds_toArray, List.set_cons_succ, List.set_cons_zero]
          refine wpQuiet_step (fun K hK => ?_)
          rw [if_pos (by rfl)]
          refine ⟨.bool (!ab), fun W hW => quiet_ok ?_, hK _ ?_⟩
          · have f := HC.out W hW
            obtain ⟨p0, ⟨⟨c0, c1, c2⟩, _⟩, ⟨⟨e0, e1, e2⟩, _⟩⟩ := f
            go_simp
            all_goals (try omega)
          clear hK K
          simp only [Act.put, List.setIfInBounds_toArray, List.set_cons_succ, List.set_cons_zero]
          refine wpQuiet_nil ?_
          intro W hW
          have hbW := hb.trans (hW.mono hb.size)
          have HPW : Hid (W.cell? ⟨w.heap.size, 0, none⟩ = some (.slice (some ⟨b, o, none⟩) L.length cap)) := (HC.out W hW).1
          clear HC HQ
          cases ab with
          | true =>
            go_wp2_with fail
            go_roundw
            case rel => exact ⟨(j : Int) - 1, by omega, by omega, (by first | rfl | go_num), fun i hi => by (obtain rfl : i = j := (by omega)); exact HAH.out, hbW, HPW⟩
            case measure => (simp [intOf] <;> omega)
          | false =>
            have HF : Hid (goodL L = false) := by
              show _ = _
              cases hg : goodL L with
              | false => rfl
              | true =>
                have h2 : chB L = true := by rw [HCB.out, hg]
                have h3 := chB_drop h2 j (by omega)
                rw [HAH.out] at h3; cases h3
            go_wp2_with fail
            go_ret
            exact ⟨ret_bool HF.out.symm, hbW⟩
        · have HF : Hid (goodL L = true) := by
            have h := HG.out 0 (by omega)
            show _ = _
            simpa using h
          go_wp2_with fail
          go_ret
          exact ⟨ret_bool HF.out.symm, hb⟩
  · rw [show (decide (1 ≤ (L.length : Int)) && decide ((L.length : Int) ≤ 6)) = false by
      rw [Bool.and_eq_false_iff]; simp only [decide_eq_false_iff_not]; omega] at HW1
    have HF : Hid (chB L = false) := by
      show _ = _
      unfold chB
      rw [show (decide (1 ≤ L.length) && decide (L.length ≤ 6)) = false by rw [Bool.and_eq_false_iff]; simp only [decide_eq_false_iff_not]; omega]
      rfl
    clear hin HROW
    go_enter Try.func28, Try.ntmps28
    go_wp2_with fail
    refine (HW1.out _).mono ?_
    rintro e w1 ⟨rfl, rfl⟩
    go_wp2_with fail
    go_ret
    exact ⟨ret_bool HF.out.symm, hb0⟩
end Go.Proofs.Ytacmipcjhbkdcaa
