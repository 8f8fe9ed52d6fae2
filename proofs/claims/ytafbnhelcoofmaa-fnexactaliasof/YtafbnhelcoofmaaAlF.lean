import Derived.Test.YtafbnhelcoofmaaAlI
import Derived.Shelf.Abstract
namespace Go.Proofs.Ytafbnhelcoofmaa
open Go.RowKit

theorem cells_extract (R : List ColT) (k : Nat) (h : k < R.length) : (cellsL R).toArray.extract (k * 2) (k * 2 + 2) = #[.int .i64 (R.getD k (0, 0)).1, .int .i64 (R.getD k (0, 0)).2] := by
  have hl := cellsL_length R
  obtain ⟨h1, h2⟩ := cellsL_get R k h
  rw [cgetD h]
  apply Array.ext_getElem?
  intro i
  rw [Array.getElem?_extract]
  have hsz : (cellsL R).toArray.size = R.length * 2 := by rw [List.size_toArray, hl]
  rw [hsz]
  match i with
  | 0 => rw [if_pos (by omega)]; simpa using h1
  | 1 => rw [if_pos (by omega)]; simpa using h2
  | i + 2 => rw [if_neg (by omega)]; simp
theorem wpList_index_rowT {ops : Array Oper} {rest : List Oper} {op : Oper} {a : Act} {w : World} {Q : Exit → Act → World → Prop} (hgd : op.guard = none) (x i : Operand) (ho : op.op = .index 52 x i)
    (R : List ColT) (k : Nat) (hx : a.eval x = .agg (cellsL R).toArray) (hi : a.eval i = .int .i64 (k : Int)) (hk : k < 12) (hl : R.length = 12)
    (h : wpList Try.prog ops Q rest (a.put op.dst (.agg #[.int .i64 (R.getD k (0, 0)).1, .int .i64 (R.getD k (0, 0)).2])) w) : wpList Try.prog ops Q (op :: rest) a w := by
  have hrun : (Instr.index 52 (.agg (cellsL R).toArray) (.int .i64 (k : Int))).run Try.prog w = .ok (.agg #[.int .i64 (R.getD k (0, 0)).1, .int .i64 (R.getD k (0, 0)).2]) w := by
    have hb : (0 : Int) ≤ (k : Int) ∧ (k : Int) < ((12 : Nat) : Int) := by omega
    have he := cells_extract R k (by omega)
    have hu : (underlying 52).run Try.prog w = .ok (.array 12 50) w := Try.runUnderlying52 w
    have hs : (sizeOf 50).run Try.prog w = .ok 2 w := Try.sizeOf50 w
    have ha : (isAgg 50).run Try.prog w = .ok true w := Try.isAgg50 w
    simp only [Instr.index, asIntOf, Sem.run_bind, Sem.run_pure, Result.andThen, hu, hs, if_pos hb, part, ha, if_true, Int.toNat_natCast, he]
  refine wpList_plain hgd fun K' hK' => ?_
  unfold Oper.wp
  simp [execOp, ho, hx, hi, hrun, Result.andThen]
  exact hK' _ _ h
/-- A function value that tells of each column whether it is so. -/
def PredC (g : Nat) (lb : Array Value) (p : ColT → Bool) (L : List ColT) (w : World) : Prop :=
  ∀ (W : World) (x : ColT), x ∈ L → Below w.heap.size w W → Calls Try.prog g (#[.agg #[.int .i64 x.1, .int .i64 x.2]] ++ lb) W fun e w' => e = .returned (.bool (p x)) ∧ Below W.heap.size W w'

set_option maxRecDepth 20000 in
set_option maxHeartbeats 1000000 in
theorem indexFuncC_any (g : Nat) (lb : Array Value) (p : ColT → Bool) (v : Value) (L : List ColT) (w : World) (hr : ColRow w v L) (hp : Hid (PredC g lb p L w)) (eg : ∀ args w, (callFunc g args).run Try.prog w = .ok (.enter g args) w) :
    Calls Try.prog 44 #[v, .func (.func g) #[] lb] w fun e w' => e = .returned (.int .i64 (optI (firstN (fun i => p (L.getD i (0, 0))) L.length))) ∧ Below w.heap.size w w' := by
  obtain ⟨a, cap, rfl, hcap, hmax, HROW⟩ := col_value hr
  clear hr
  go_enter Try.func44, Try.ntmps44
  go_wp2_with fail
  go_loopw [8] (fun i wr => ∃ k : Nat, k ≤ L.length ∧ i = .int .i64 (k : Int) ∧ Hid (∀ j, j < k → p (L.getD j (0, 0)) = false) ∧ Below w.heap.size w wr) (fun i _ => L.length - (intOf i).toNat)
  case atStart => exact ⟨0, Nat.zero_le _, rfl, fun j h => absurd h (Nat.not_lt_zero _), Below.refl _ _⟩
  case round =>
    obtain ⟨k, hk, rfl, HA, hb⟩ := hrel
    by_cases hlt : k < L.length
    · obtain ⟨b, o, ha, hbl, hcel⟩ := HROW.out (by omega)
      rw [ha]
      have hcx := (hcel k hlt).kept hb
      unfold ColAt at hcx
      obtain ⟨c0, c1⟩ := hcx
      have hcall := hp.out wr _ (List.getElem_mem hlt) hb
      have HHIT : Hid (p (L[k]'hlt) = true → optI (firstN (fun i => p (L.getD i (0, 0))) L.length) = (k : Int)) := fun h => by
        cases hf : firstN (fun i => p (L.getD i (0, 0))) L.length with
        | none =>
          have h2 := firstN_none hf k hlt
          have h9 : p (L.getD k (0, 0)) = false := h2
          rw [cgetD hlt, h] at h9; cases h9
        | some j =>
          obtain ⟨h3, h4, h5⟩ := firstN_some hf
          rcases Nat.lt_trichotomy j k with h6 | h6 | h6
          · have h8 := HA.out j h6
            have h9 : p (L.getD j (0, 0)) = true := h4
            rw [h8] at h9; cases h9
          · rw [h6]; rfl
          · have h7 := h5 k h6
            have h9 : p (L.getD k (0, 0)) = false := h7
            rw [cgetD hlt, h] at h9; cases h9
      have HOK : Hid (p (L[k]'hlt) = false → ∀ j, j < k + 1 → p (L.getD j (0, 0)) = false) := fun h j h1 => by
        rcases Nat.lt_or_ge j k with h' | h'
        · exact HA.out j h'
        · obtain rfl : j = k := by omega
          rw [cgetD hlt]; exact h
      obtain ⟨x, hxe⟩ : ∃ x, x = L[k]'hlt := ⟨_, rfl⟩
      rw [← hxe] at c0 c1 hcall HHIT HOK
      clear hcel hxe
      cases hR : p x with
      | true =>
        have HR : Hid (optI (firstN (fun i => p (L.getD i (0, 0))) L.length) = (k : Int)) := HHIT.out hR
        rw [hR] at hcall
        go_wp2_with (go_at_fn g; refine hcall.mono ?_; rintro e w' ⟨rfl, hb'⟩)
        go_ret
        exact ⟨ret_int HR.out.symm, hb.trans (hb'.mono hb.size)⟩
      | false =>
        have HR := HOK.out hR
        rw [hR] at hcall
        have HRR : Hid (∀ j, j < k + 1 → p (L.getD j (0, 0)) = false) := HR
        clear HR
        go_wp2_with (go_at_fn g; refine hcall.mono ?_; rintro e w' ⟨rfl, hb'⟩)
        go_roundw
        case rel => exact ⟨k + 1, by omega, by go_num, HRR, hb.trans (hb'.mono hb.size)⟩
        case measure => simp [intOf]; omega
    · have HR : Hid (optI (firstN (fun i => p (L.getD i (0, 0))) L.length) = -1) := by
        show _ = _
        cases hf : firstN (fun i => p (L.getD i (0, 0))) L.length with
        | none => rfl
        | some j =>
          obtain ⟨h3, h4, _⟩ := firstN_some hf
          have h8 := HA.out j (by omega)
          have h9 : p (L.getD j (0, 0)) = true := h4
          rw [h8] at h9; cases h9
      go_wp2_with fail
      go_ret
      exact ⟨ret_int HR.out.symm, hb⟩

set_option maxRecDepth 20000 in
set_option maxHeartbeats 400000 in
theorem muchC_any (x y T : Int) (g : Nat) (w : World) (h0 : w.cell? ⟨g, 0, none⟩ = some (.int .i64 T)) (hg : g < w.heap.size) :
    Calls Try.prog 45 #[.agg #[.int .i64 x, .int .i64 y], .pointer (some ⟨g, 0, none⟩)] w fun e w' => e = .returned (.bool (decide (T < x))) ∧ Below w.heap.size w w' := by
  have hb0 : Below w.heap.size w (w.alloc (.cells #[.int .i64 x, .int .i64 y] 50)) := (Below.refl _ _).alloc (Nat.le_refl _) _
  by_cases h : T < x
  · have HD : Hid (decide (T < x) = true) := decide_eq_true h
    go_enter Try.func45, Try.ntmps45
    go_wp2_with fail
    go_ret
    exact ⟨ret_bool HD.out.symm, hb0⟩
  · have HD : Hid (decide (T < x) = false) := decide_eq_false h
    go_enter Try.func45, Try.ntmps45
    go_wp2_with fail
    go_ret
    exact ⟨ret_bool HD.out.symm, hb0⟩
end Go.Proofs.Ytafbnhelcoofmaa
