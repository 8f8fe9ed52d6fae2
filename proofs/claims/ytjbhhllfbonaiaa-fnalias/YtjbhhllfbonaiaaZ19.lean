import Derived.Test.YtjbhhllfbonaiaaZ15
import Derived.Shelf.Abstract
import Derived.ChangeKeysEq
import Derived.Laws.StructEq
import Derived.Test.YtjbhhllfbonaiaaZ07
namespace Go.Proofs.Ytjbhhllfbonaiaa
open Go.RowKit

theorem cells_extract (R : List ColT) (k : Nat) (h : k < R.length) : (cellsL R).toArray.extract (k * 2) (k * 2 + 2) = #[.int .i64 (R.getD k (0, 0)).1, .int .i64 (R.getD k (0, 0)).2] := by
  have hl := cellsL_length R
  obtain ⟨h1, h2⟩ := cellsL_get R k h
  rw [cgetD h]
  apply Array.ext_getElem?
  intro i
  rw [Array.getElem?_extract]
  have hsz : (cellsL R).toArray.size = R.length * 2 := by rw [List.size_toArray, hl]
  rw [hsz]
  match i with
  | 0 => rw [if_pos (by omega)]; simpa using h1
  | 1 => rw [if_pos (by omega)]; simpa using h2
  | i + 2 => rw [if_neg (by omega)]; simp
theorem wpList_index_rowT {ops : Array Oper} {rest : List Oper} {op : Oper} {a : Act} {w : World} {Q : Exit → Act → World → Prop} (hgd : op.guard = none) (x i : Operand) (ho : op.op = .index 42 x i)
    (R : List ColT) (k : Nat) (hx : a.eval x = .agg (cellsL R).toArray) (hi : a.eval i = .int .i64 (k : Int)) (hk : k < 12) (hl : R.length = 12)
    (h : wpList Try.prog ops Q rest (a.put op.dst (.agg #[.int .i64 (R.getD k (0, 0)).1, .int .i64 (R.getD k (0, 0)).2])) w) : wpList Try.prog ops Q (op :: rest) a w := by
  have hrun : (Instr.index 42 (.agg (cellsL R).toArray) (.int .i64 (k : Int))).run Try.prog w = .ok (.agg #[.int .i64 (R.getD k (0, 0)).1, .int .i64 (R.getD k (0, 0)).2]) w := by
    have hb : (0 : Int) ≤ (k : Int) ∧ (k : Int) < ((12 : Nat) : Int) := by omega
    have he := cells_extract R k (by omega)
    have hu : (underlying 42).run Try.prog w = .ok (.array 12 30) w := Try.runUnderlying42 w
    have hs : (sizeOf 30).run Try.prog w = .ok 2 w := Try.sizeOf30 w
    have ha : (isAgg 30).run Try.prog w = .ok true w := Try.isAgg30 w
    simp only [Instr.index, asIntOf, Sem.run_bind, Sem.run_pure, Result.andThen, hu, hs, if_pos hb, part, ha, if_true, Int.toNat_natCast, he]
  refine wpList_plain hgd fun K' hK' => ?_
  unfold Oper.wp
  simp [execOp, ho, hx, hi, hrun, Result.andThen]
  exact hK' _ _ h
/-- A function value that tells of each column whether it is so. -/
def PredC (g : Nat) (lb : Array Value) (p : ColT → Bool) (L : List ColT) (w : World) : Prop :=
  ∀ (W : World) (x : ColT), x ∈ L → Below w.heap.size w W → Calls Try.prog g (#[.agg #[.int .i64 x.1, .int .i64 x.2]] ++ lb) W fun e w' => e = .returned (.bool (p x)) ∧ Below W.heap.size W w'

set_option maxRecDepth 20000 in
set_option maxHeartbeats 1000000 in
theorem indexFuncC_any (g : Nat) (lb : Array Value) (p : ColT → Bool) (v : Value) (L : List ColT) (w : World) (hr : ColRow w v L) (hp : Hid (PredC g lb p L w)) (eg : ∀ args w, (callFunc g args).run Try.prog w = .ok (.enter g args) w) :
    Calls Try.prog 28 #[v, .func (.func g) #[] lb] w fun e w' => e = .returned (.int .i64 (optI (firstN (fun i => p (L.getD i (0, 0))) L.length))) ∧ Below w.heap.size w w' := by
  obtain ⟨a, cap, rfl, hcap, hmax, HROW⟩ := col_value hr
  clear hr
  go_enter Try.func28, Try.ntmps28
  go_wp2_with fail
  go_loopw [8] (fun i wr => ∃ k : Nat, k ≤ L.length ∧ i = .int .i64 (k : Int) ∧ Hid (∀ j, j < k → p (L.getD j (0, 0)) = false) ∧ Below w.heap.size w wr) (fun i _ => L.length - (intOf i).toNat)
  case atStart => exact ⟨0, Nat.zero_le _, rfl, fun j h => absurd h (Nat.not_lt_zero _), Below.refl _ _⟩
  case round =>
    obtain ⟨k, hk, rfl, HA, hb⟩ := hrel
    by_cases hlt : k < L.length
    · obtain ⟨b, o, ha, hbl, hcel⟩ := HROW.out (by omega)
      rw [ha]
      have hcx := (hcel k hlt).kept hb
      unfold ColAt at hcx
      obtain ⟨c0, c1⟩ := hcx
      have hcall := hp.out wr _ (List.getElem_mem hlt) hb
      have HHIT : Hid (p (L[k]'hlt) = true → optI (firstN (fun i => p (L.getD i (0, 0))) L.length) = (k : Int)) := fun h => by
        cases hf : firstN (fun i => p (L.getD i (0, 0))) L.length with
        | none =>
          have h2 := firstN_none hf k hlt
          have h9 : p (L.getD k (0, 0)) = false := h2
          rw [cgetD hlt, h] at h9; cases h9
        | some j =>
          obtain ⟨h3, h4, h5⟩ := firstN_some hf
          rcases Nat.lt_trichotomy j k with h6 | h6 | h6
          · have h8 := HA.out j h6
            have h9 : p (L.getD j (0, 0)) = true := h4
            rw [h8] at h9; cases h9
          · rw [h6]; rfl
          · have h7 := h5 k h6
            have h9 : p (L.getD k (0, 0)) = false := h7
            rw [cgetD hlt, h] at h9; cases h9
      have HOK : Hid (p (L[k]'hlt) = false → ∀ j, j < k + 1 → p (L.getD j (0, 0)) = false) := fun h j h1 => by
        rcases Nat.lt_or_ge j k with h' | h'
        · exact HA.out j h'
        · obtain rfl : j = k := by omega
          rw [cgetD hlt]; exact h
      obtain ⟨x, hxe⟩ : ∃ x, x = L[k]'hlt := ⟨_, rfl⟩
      rw [← hxe] at c0 c1 hcall HHIT HOK
      clear hcel hxe
      cases hR : p x with
      | true =>
        have HR : Hid (optI (firstN (fun i => p (L.getD i (0, 0))) L.length) = (k : Int)) := HHIT.out hR
        rw [hR] at hcall
        go_wp2_with (go_at_fn g; refine hcall.mono ?_; rintro e w' ⟨rfl, hb'⟩)
        go_ret
        exact ⟨ret_intY HR.out.symm, hb.trans (hb'.mono hb.size)⟩
      | false =>
        have HR := HOK.out hR
        rw [hR] at hcall
        have HRR : Hid (∀ j, j < k + 1 → p (L.getD j (0, 0)) = false) := HR
        clear HR
        go_wp2_with (go_at_fn g; refine hcall.mono ?_; rintro e w' ⟨rfl, hb'⟩)
        go_roundw
        case rel => exact ⟨k + 1, by omega, by go_num, HRR, hb.trans (hb'.mono hb.size)⟩
        case measure => simp [intOf]; omega
    · have HR : Hid (optI (firstN (fun i => p (L.getD i (0, 0))) L.length) = -1) := by
        show _ = _
        cases hf : firstN (fun i => p (L.getD i (0, 0))) L.length with
        | none => rfl
        | some j =>
          obtain ⟨h3, h4, _⟩ := firstN_some hf
          have h8 := HA.out j (by omega)
          have h9 : p (L.getD j (0, 0)) = true := h4
          rw [h8] at h9; cases h9
      go_wp2_with fail
      go_ret
      exact ⟨ret_intY HR.out.symm, hb⟩

set_option maxRecDepth 20000 in
set_option maxHeartbeats 400000 in
theorem muchC_any (x y T : Int) (g : Nat) (w : World) (h0 : w.cell? ⟨g, 0, none⟩ = some (.int .i64 T)) (hg : g < w.heap.size) :
    Calls Try.prog 29 #[.agg #[.int .i64 x, .int .i64 y], .pointer (some ⟨g, 0, none⟩)] w fun e w' => e = .returned (.bool (decide (T < x))) ∧ Below w.heap.size w w' := by
  have hb0 : Below w.heap.size w (w.alloc (.cells #[.int .i64 x, .int .i64 y] 30)) := (Below.refl _ _).alloc (Nat.le_refl _) _
  by_cases h : T < x
  · have HD : Hid (decide (T < x) = true) := decide_eq_true h
    go_enter Try.func29, Try.ntmps29
    go_wp2_with fail
    go_ret
    exact ⟨ret_boolY HD.out.symm, hb0⟩
  · have HD : Hid (decide (T < x) = false) := decide_eq_false h
    go_enter Try.func29, Try.ntmps29
    go_wp2_with fail
    go_ret
    exact ⟨ret_boolY HD.out.symm, hb0⟩
end Go.Proofs.Ytjbhhllfbonaiaa

namespace Go.Proofs.Ytjbhhllfbonaiaa
open Go.RowKit

set_option maxRecDepth 20000 in
set_option maxHeartbeats 8000000 in
theorem fillFirst_any (X : List ColT) (T : Int) (w : World) (hX : X.length = 12) (hbd : ∀ i, i < X.length → 0 ≤ (X.getD i (0, 0)).1 ∧ (X.getD i (0, 0)).1 ≤ 600) (hT : 0 < T ∧ T ≤ 600) (hgr : ∀ s, firstN (smP T X) X.length = some s → ∃ g, firstN (grP T X) X.length = some g) :
    Calls Try.prog 17 #[.agg (cellsL X).toArray, .int .i64 T] w fun e w' => e = .returned (.agg (cellsL (stepR T X)).toArray) ∧ Below w.heap.size w w' := by
  have HBD : Hid (∀ i, i < 12 → 0 ≤ (X.getD i (0, 0)).1 ∧ (X.getD i (0, 0)).1 ≤ 600) := fun i hi => hbd i (by omega)
  have HST : Hid (∀ k, k < 12 → (∀ j, j < k → smP T X j = false) → smP T X k = true → ∃ g : Nat, g < 12 ∧ optI (firstN (grP T X) X.length) = (g : Int) ∧ stepR T X = fillS T X k g ∧ T < (X.getD g (0, 0)).1 ∧ (X.getD k (0, 0)).1 < T) := fun k hk hn hs => by
    have hf : firstN (smP T X) X.length = some k := by
      cases h : firstN (smP T X) X.length with
      | none => have := firstN_none h k (by omega); rw [hs] at this; cases this
      | some j =>
        obtain ⟨h1, h2, h3⟩ := firstN_some h
        rcases Nat.lt_trichotomy j k with h4 | h4 | h4
        · have := hn j h4; rw [this] at h2; cases h2
        · rw [h4]
        · have := h3 k h4; rw [hs] at this; cases this
    obtain ⟨g, hg⟩ := hgr k hf
    obtain ⟨h1, h2, _⟩ := firstN_some hg
    refine ⟨g, by omega, by rw [hg]; rfl, stepR_some hf hg, ?_, ?_⟩
    · unfold grP at h2; simpa using h2
    · unfold smP at hs; rw [Bool.and_eq_true, decide_eq_true_eq] at hs; exact hs.2
  have HSN : Hid ((∀ j, j < 12 → smP T X j = false) → stepR T X = X) := fun h => stepR_none (by
    cases hf : firstN (smP T X) X.length with
    | none => rfl
    | some j => obtain ⟨h1, h2, _⟩ := firstN_some hf; rw [h j (by omega)] at h2; cases h2)
  have HSL : Hid ((stepR T X).length = 12) := by show _ = _; rw [stepR_length]; exact hX
  have HSM : Hid (∀ k, k < 12 → smP T X k = (((X.getD k (0, 0)).2 == (k : Int)) && decide ((X.getD k (0, 0)).1 < T))) := fun k _ => rfl
  obtain ⟨W0, hW0⟩ : ∃ W0, W0 = ((w.alloc (.cells (cellsL X).toArray 42)).alloc (.cells #[.int .i64 T] 3)).alloc (.cells (cellsL (List.replicate 12 (0, 0))).toArray 42) := ⟨_, rfl⟩
  obtain ⟨hx1, hx2, hx3, hs3, hb0⟩ := trn_below3 (Below.refl (((w.alloc (.cells (cellsL X).toArray 42)).alloc (.cells #[.int .i64 T] 3)).alloc (.cells (cellsL (List.replicate 12 (0, 0))).toArray 42)).heap.size _)
  rw [← hW0] at hx1 hx2 hx3 hs3 hb0
  have HX : Hid (BoxR W0 w.heap.size X) := hx1
  have HTC : Hid (W0.heap[w.heap.size + 1]? = some (.cells #[.int .i64 T] 3)) := hx2
  have HZ : Hid (BoxR W0 (w.heap.size + 1 + 1) (List.replicate 12 (0, 0))) := hx3
  rw [box_zero] at hW0
  have HW0 : Hid (((w.alloc (.cells (cellsL X).toArray 42)).alloc (.cells #[.int .i64 T] 3)).alloc (.cells #[.int .i64 0, .int .i64 0, .int .i64 0, .int .i64 0, .int .i64 0, .int .i64 0, .int .i64 0, .int .i64 0, .int .i64 0, .int .i64 0, .int .i64 0, .int .i64 0, .int .i64 0, .int .i64 0, .int .i64 0, .int .i64 0, .int .i64 0, .int .i64 0, .int .i64 0, .int .i64 0, .int .i64 0, .int .i64 0, .int .i64 0, .int .i64 0] 42) = W0) := hW0.symm
  have hrng := HX.out.range
  have hris := row_is X hX
  clear hW0 hx1 hx2 hx3 hbd hgr
  go_enter Try.func17, Try.ntmps17
  go_wp2_with (first | rw [HW0.out] | (refine wpList_load_mid rfl 42 (.tmp 2) rfl w.heap.size 0 rfl (cellsL X) _ hrng Try.underlying42 rfl hris ?_))
  (try rw [HW0.out])
  clear HW0 hrng hris
  go_loopw [9] (fun iv wr => ∃ k : Nat, k ≤ 12 ∧ iv = .int .i64 (k : Int) ∧ Hid (∀ j, j < k → smP T X j = false) ∧ Below W0.heap.size W0 wr) (fun iv _ => 12 - (intOf iv).toNat)
  case atStart => exact ⟨0, Nat.zero_le _, rfl, fun j h => absurd h (Nat.not_lt_zero _), Below.refl _ _⟩
  case round =>
    obtain ⟨k, hk, rfl, HA, hb⟩ := hrel
    have hbw := hb0.trans (hb.mono hb0.size)
    have HXr : Hid (BoxR wr w.heap.size X) := HX.out.kept hb
    have HTr : Hid (wr.heap[w.heap.size + 1]? = some (.cells #[.int .i64 T] 3)) := (hb.block _ (by omega)).trans HTC.out
    have HZr : Hid (BoxR wr (w.heap.size + 1 + 1) (List.replicate 12 (0, 0))) := HZ.out.kept hb
    by_cases hlt : k < 12
    · have hki : (k : Int) < 12 := by omega
      have hsm := HSM.out k hlt
      have hkb := HBD.out k hlt
      have hst := HST.out k hlt HA.out
      obtain ⟨kp, hkp⟩ : ∃ x, x = (X.getD k (0, 0)).1 := ⟨_, rfl⟩
      obtain ⟨ot, hot⟩ : ∃ x, x = (X.getD k (0, 0)).2 := ⟨_, rfl⟩
      rw [← hkp] at hkb hst
      rw [← hkp, ← hot] at hsm
      have HKP : Hid (kp = (X.getD k (0, 0)).1 ∧ ot = (X.getD k (0, 0)).2) := ⟨hkp, hot⟩
      have HSMK : Hid (smP T X k = ((ot == (k : Int)) && decide (kp < T))) := hsm
      have HSTK : Hid (smP T X k = true → ∃ g : Nat, g < 12 ∧ optI (firstN (grP T X) X.length) = (g : Int) ∧ stepR T X = fillS T X k g ∧ T < (X.getD g (0, 0)).1 ∧ kp < T) := hst
      have HIX : Hid (.agg #[.int .i64 (X.getD k (0, 0)).1, .int .i64 (X.getD k (0, 0)).2] = (.agg #[.int .i64 kp, .int .i64 ot] : Value)) := by show _ = _; rw [hkp, hot]
      obtain ⟨W1, hW1⟩ : ∃ W, W = wr.alloc (.cells #[.int .i64 kp, .int .i64 ot] 30) := ⟨_, rfl⟩
      have hb1 : Below wr.heap.size wr W1 := by rw [hW1]; exact (Below.refl _ _).alloc (Nat.le_refl _) _
      have hn1 : W1.heap[wr.heap.size]? = some (.cells #[.int .i64 kp, .int .i64 ot] 30) := by rw [hW1]; exact trn_new _ _
      have HN1 : Hid (W1.heap[wr.heap.size]? = some (.cells #[.int .i64 kp, .int .i64 ot] 30)) := hn1
      have hz1 : wr.heap.size < W1.heap.size := by rw [hW1]; simp
      have hsr := hb.size
      have hbW1 : Below W0.heap.size W0 W1 := hb.trans (hb1.mono hb.size)
      have HX1 : Hid (BoxR W1 w.heap.size X) := HXr.out.kept hb1
      have hT1 : W1.heap[w.heap.size + 1]? = some (.cells #[.int .i64 T] 3) := (hb1.block _ (by omega)).trans HTr.out
      have HT1 : Hid (W1.heap[w.heap.size + 1]? = some (.cells #[.int .i64 T] 3)) := hT1
      have HZ1 : Hid (BoxR W1 (w.heap.size + 1 + 1) (List.replicate 12 (0, 0))) := HZr.out.kept hb1
      have HW1 : Hid (wr.alloc (.cells #[.int .i64 kp, .int .i64 ot] 30) = W1) := hW1.symm
      obtain ⟨⟨c0, c1⟩, _⟩ := trn_cells hn1
      have t0 : W1.cell? ⟨w.heap.size + 1, 0, none⟩ = some (.int .i64 T) := by unfold World.cell?; rw [hT1]; rfl
      clear hkp hot hsm hst hW1 hn1 hT1 HXr HTr HZr
      by_cases hu : ot = (k : Int)
      · subst hu
        have e1 : ((k : Int) != (k : Int)) = false := by simp
        by_cases hl : kp < T
        · obtain ⟨g, hg12, hgo, hstep, hgT, _⟩ := HSTK.out (by rw [HSMK.out]; simp [hl])
          have HGO : Hid (optI (firstN (grP T X) X.length) = (g : Int)) := hgo
          have HIF : Hid (Calls Try.prog 28 #[.slice (some ⟨w.heap.size, 0, none⟩) 12 12, .func (.func 29) #[] #[.pointer (some ⟨w.heap.size + 1, 0, none⟩)]] W1 fun e w' => e = .returned (.int .i64 (g : Int)) ∧ Below W1.heap.size W1 w') := by
            have h := indexFuncC_any 29 #[.pointer (some ⟨w.heap.size + 1, 0, none⟩)] (fun x => decide (T < x.1)) (.slice (some ⟨w.heap.size, 0, none⟩) 12 12) X W1 (by
              have h2 := HX1.out.corow.row (cap := 12) (by omega) (by unfold maxLen; omega)
              rw [hX] at h2
              exact h2) (fun W x _ hW => muchC_any x.1 x.2 T (w.heap.size + 1) W ((hW.cell (p := ⟨w.heap.size + 1, 0, none⟩) (by show w.heap.size + 1 < W1.heap.size; omega)).trans (by unfold World.cell?; rw [HT1.out]; rfl)) (by have := hW.size; omega)) (fun _ _ => by kernel_rfl)
            have h3 : optI (firstN (fun i => decide (T < (X.getD i (0, 0)).1)) X.length) = (g : Int) := HGO.out
            rw [h3] at h
            exact h
          have HFE : Hid (stepR T X = fillS T X k g) := hstep
          have hgb := HBD.out g hg12
          obtain ⟨kg, hkg⟩ : ∃ x, x = (X.getD g (0, 0)).1 := ⟨_, rfl⟩
          rw [← hkg] at hgb hgT
          have HKG : Hid (kg = (X.getD g (0, 0)).1) := hkg
          have hne : k ≠ g := fun e => by subst e; have := HKP.out.1; omega
          clear hgo hstep hkg
          go_wp2_with (first | rw [HW1.out] | (refine wpList_index_rowT rfl (.tmp 8) (.tmp 9) rfl X k rfl rfl hlt hX ?_; rw [HIX.out]))
          refine HIF.out.mono ?_
          rintro e W2 ⟨rfl, hb2⟩
          have hbW2 : Below W0.heap.size W0 W2 := hbW1.trans (hb2.mono hbW1.size)
          have hX2 : BoxR W2 w.heap.size X := HX1.out.kept hb2
          have hT2 : W2.heap[w.heap.size + 1]? = some (.cells #[.int .i64 T] 3) := (hb2.block _ (by omega)).trans HT1.out
          have hZ2 : BoxR W2 (w.heap.size + 1 + 1) (List.replicate 12 (0, 0)) := HZ1.out.kept hb2
          have hN2 : W2.heap[wr.heap.size]? = some (.cells #[.int .i64 kp, .int .i64 (k : Int)] 30) := (hb2.block _ hz1).trans HN1.out
          have hz2 := hb2.size
          clear c0 c1 t0 hb2
          have hkX : k < X.length := by omega
          have hgX : g < X.length := by omega
          obtain ⟨⟨x0, x1⟩, ⟨f0, f1⟩⟩ := hX2.corow.2 k hkX
          have hput := hX2.put1 k hkX (g : Int)
          obtain ⟨W3, hW3⟩ : ∃ W, W = W2.setCell ⟨w.heap.size, k * 2 + 1, none⟩ (.int .i64 (g : Int)) := ⟨_, rfl⟩
          have hk3 : Kpt W2 W3 (fun j => j = w.heap.size) := by rw [hW3]; exact kpt_set _ _ _ _ rfl
          rw [← hW3] at hput
          have hX3 : BoxR W3 w.heap.size (X.set k (kp, (g : Int))) := by
            have e : ((X[k]'hkX).1, (g : Int)) = (kp, (g : Int)) := by rw [← cgetD hkX, ← HKP.out.1]
            rw [← e]; exact hput
          have hgX3 : g < (X.set k (kp, (g : Int))).length := by simpa using hgX
          obtain ⟨⟨y0, y1⟩, ⟨q0, q1⟩⟩ := hX3.corow.2 g hgX3
          have hput4 := hX3.put0 g hgX3 (kg - (T - kp))
          have e2 : (X.set k (kp, (g : Int)))[g]'hgX3 = X[g]'hgX := by rw [List.getElem_set_ne hne]
          rw [e2] at y0 y1 hput4
          rw [← cgetD hgX] at y0 y1 hput4
          rw [← HKG.out] at y0
          obtain ⟨W4, hW4⟩ : ∃ W, W = W3.setCell ⟨w.heap.size, g * 2, none⟩ (.int .i64 (kg - (T - kp))) := ⟨_, rfl⟩
          have hk4 : Kpt W3 W4 (fun j => j = w.heap.size) := by rw [hW4]; exact kpt_set _ _ _ _ rfl
          rw [← hW4] at hput4
          have HX4 : Hid (BoxR W4 w.heap.size (stepR T X)) := by
            rw [HFE.out]
            unfold fillS
            rw [← HKP.out.1, ← HKG.out]
            exact hput4
          have hT3 : W3.heap[w.heap.size + 1]? = some (.cells #[.int .i64 T] 3) := (hk3.block _ (by omega) (by omega)).trans hT2
          have hN3 : W3.heap[wr.heap.size]? = some (.cells #[.int .i64 kp, .int .i64 (k : Int)] 30) := (hk3.block _ (by omega) (by omega)).trans hN2
          have HZ4 : Hid (BoxR W4 (w.heap.size + 1 + 1) (List.replicate 12 (0, 0))) := (hZ2.apart hk3 (by omega)).apart hk4 (by omega)
          have hbw4 : Below w.heap.size w W4 := ((hb0.trans (hbW2.mono hb0.size)).trans (hk3.below (by have := hb0.size; have := hbW2.size; omega) (fun j hj h => by omega))).trans (hk4.below (by have := hb0.size; have := hbW2.size; have := hk3.size; omega) (fun j hj h => by omega))
          have HW3 : Hid (W2.setCell ⟨w.heap.size, k * 2 + 1, none⟩ (.int .i64 (g : Int)) = W3) := hW3.symm
          have HW4 : Hid (W3.setCell ⟨w.heap.size, g * 2, none⟩ (.int .i64 (kg - (T - kp))) = W4) := hW4.symm
          have hgi : (g : Int) < 12 ∧ 0 ≤ (g : Int) := by omega
          have hwr1 : IntKind.i64.wrap (T - kp) = T - kp := i64_wrap (by omega) (by omega)
          have hwr2 : IntKind.i64.wrap (kg - (T - kp)) = kg - (T - kp) := i64_wrap (by omega) (by omega)
          have r0 : W3.cell? ⟨w.heap.size + 1, 0, none⟩ = some (.int .i64 T) := by unfold World.cell?; rw [hT3]; rfl
          obtain ⟨⟨s0, s1⟩, _⟩ := trn_cells hN3
          obtain ⟨z1, hz1e⟩ : ∃ z, z = (X[k]'hkX).2 := ⟨_, rfl⟩
          rw [← hz1e] at x1
          have hel := HSL.out
          clear hX2 hT2 hZ2 hN2 hput hW3 hk3 hX3 hgX3 hput4 e2 hW4 hk4 hT3 hN3 hkX hgX hz1e y1 x0 f0 q1 HIF hbW2
          go_wp2_with (rw [HW3.out])
          go_region
          have hrng4 := HX4.out.range
          have hris4 := row_is _ hel
          have hZ4 := HZ4.out
          rw [HW4.out]
          go_wp2_with (first | (refine wpList_load_mid rfl 42 (.tmp 2) rfl w.heap.size 0 rfl (cellsL (stepR T X)) _ hrng4 Try.underlying42 rfl hris4 ?_) | (refine wpList_store_rowT rfl (.tmp 4) (.tmp 41) rfl (w.heap.size + 1 + 1) (List.replicate 12 (0, 0)) (stepR T X) rfl rfl hZ4 rfl hel ?_; intro w5 hbx5 hk5))
          (try simp only [Exit.inBlock, Exit.then])
          have hb5 : Below w.heap.size w w5 := hbw4.drew.trans (hk5.below hbw4.size (fun j hj h => by omega))
          exact bodyPost_ret (results_cell_row rfl _ _ (w.heap.size + 1 + 1) 42 (cellsL (stepR T X)).toArray (0, 0) _ rfl hbx5 Try.underlying42 rfl (row_is2 _ hel)) rfl ⟨rfl, hb5⟩
        · have HN : Hid (∀ j, j < k + 1 → smP T X j = false) := fun j hj => by
            by_cases h : j < k
            · exact HA.out j h
            · obtain rfl : j = k := by omega
              rw [HSMK.out, decide_eq_false hl]; simp
          have hge : T ≤ kp := by omega
          clear HSTK HSMK HX1 HZ1 HT1 HN1
          go_wp2_with (first | rw [HW1.out] | (refine wpList_index_rowT rfl (.tmp 8) (.tmp 9) rfl X k rfl rfl hlt hX ?_; rw [HIX.out]))
          (try rw [HW1.out])
          go_roundw
          case rel => exact ⟨k + 1, by omega, by go_num, HN, hbW1⟩
          case measure => simp [intOf]; omega
      · have HN : Hid (∀ j, j < k + 1 → smP T X j = false) := fun j hj => by
          by_cases h : j < k
          · exact HA.out j h
          · obtain rfl : j = k := by omega
            rw [HSMK.out]
            have e : (ot == (j : Int)) = false := by simp; exact hu
            rw [e]; rfl
        have e1 : (ot != (k : Int)) = true := by simp; exact hu
        clear HSTK HSMK HX1 HZ1 HT1 HN1
        go_wp2_with (first | rw [HW1.out] | (refine wpList_index_rowT rfl (.tmp 8) (.tmp 9) rfl X k rfl rfl hlt hX ?_; rw [HIX.out]))
        (try rw [HW1.out])
        go_roundw
        case rel => exact ⟨k + 1, by omega, by go_num, HN, hbW1⟩
        case measure => simp [intOf]; omega
    · have hk12 : k = 12 := by omega
      subst hk12
      have HE : Hid (stepR T X = X) := HSN.out HA.out
      have hrng := HXr.out.range
      have hris := row_is X hX
      have hZ := HZr.out
      go_wp2_with (first | (refine wpList_load_mid rfl 42 (.tmp 2) rfl w.heap.size 0 rfl (cellsL X) _ hrng Try.underlying42 rfl hris ?_) | (refine wpList_store_rowT rfl (.tmp 4) (.tmp 43) rfl (w.heap.size + 1 + 1) (List.replicate 12 (0, 0)) X rfl rfl hZ rfl hX ?_; intro w5 hbx5 hk5))
      (try simp only [Exit.inBlock, Exit.then])
      have hb5 : Below w.heap.size w w5 := hbw.trans (hk5.below hbw.size (fun j hj h => by omega))
      exact bodyPost_ret (results_cell_row rfl _ _ (w.heap.size + 1 + 1) 42 (cellsL X).toArray (0, 0) _ rfl hbx5 Try.underlying42 rfl (row_is2 _ hX)) rfl ⟨by rw [HE.out], hb5⟩
end Go.Proofs.Ytjbhhllfbonaiaa

namespace Go.Proofs.Ytjbhhllfbonaiaa
open Go.RowKit

theorem part_col (R : List ColT) (k : Nat) (h : k < R.length) (w : World) : (part 30 (cellsL R).toArray (k * 2)).run Try.prog w = .ok (.agg #[.int .i64 (R.getD k (0, 0)).1, .int .i64 (R.getD k (0, 0)).2]) w := by
  have hs : (sizeOf 30).run Try.prog w = .ok 2 w := Try.sizeOf30 w
  have ha : (isAgg 30).run Try.prog w = .ok true w := Try.isAgg30 w
  simp only [part, Sem.run_bind, ha, Result.andThen_ok, if_true, hs, Sem.run_pure, cells_extract R k h]
theorem eq_col (a b c d : Int) (w : World) : (Op.equalIn 9999 30 (.agg #[.int .i64 a, .int .i64 b]) (.agg #[.int .i64 c, .int .i64 d])).run Try.prog w = .ok (a == c && b == d) w := by
  have h0 : (Op.equalIn 9999 30 (.agg #[.int .i64 a, .int .i64 b]) (.agg #[.int .i64 c, .int .i64 d])).run Try.prog w = _ := run_equalIn_agg (P := Try.prog) w 9998 30 #[.int .i64 a, .int .i64 b] #[.int .i64 c, .int .i64 d] (by kernel_rfl) (by kernel_rfl)
  rw [h0]
  have hf : (Try.prog.fieldsOf 30).toList.map (fun f => (f.type, f.offset, (f.name == "_"))) = [(3, 0, false), (3, 1, false)] := by kernel_rfl
  obtain ⟨f, g, hfg⟩ : ∃ f g, (Try.prog.fieldsOf 30).toList = [f, g] := by
    have hl := congrArg List.length hf
    simp only [List.length_map, List.length_cons, List.length_nil] at hl
    match h : (Try.prog.fieldsOf 30).toList, hl with
    | [f, g], _ => exact ⟨f, g, rfl⟩
  rw [hfg] at hf ⊢
  simp only [List.map_cons, List.map_nil, List.cons.injEq, Prod.mk.injEq, and_true] at hf
  obtain ⟨⟨f1, f2, f3⟩, g1, g2, g3⟩ := hf
  have fn : f.name ≠ "_" := by simpa using f3
  have gn : g.name ≠ "_" := by simpa using g3
  have p3 : ∀ (cs : Array Value) (o : Nat) (v : Value), cs[o]? = some v → (part 3 cs o).run Try.prog w = .ok v w := fun cs o v h => by
    have ha : (isAgg 3).run Try.prog w = .ok false w := Try.isAgg3 w
    simp only [part, Sem.run_bind, ha, Result.andThen_ok, Bool.false_eq_true, if_false, h, Sem.run_pure]
  have q1 := p3 #[.int .i64 a, .int .i64 b] 0 (.int .i64 a) rfl
  have q2 := p3 #[.int .i64 c, .int .i64 d] 0 (.int .i64 c) rfl
  have q3 := p3 #[.int .i64 a, .int .i64 b] 1 (.int .i64 b) rfl
  have q4 := p3 #[.int .i64 c, .int .i64 d] 1 (.int .i64 d) rfl
  have e1 := run_equalIn_int (P := Try.prog) w 9997 3 .i64 .i64 a c Try.underlying3
  have e2 := run_equalIn_int (P := Try.prog) w 9997 3 .i64 .i64 b d Try.underlying3
  simp only [Op.eqFields, fn, gn, ne_eq, not_false_eq_true, if_true, Sem.run_bind, f1, f2, g1, g2, q1, q2, Result.andThen_ok, e1]
  cases h : (a == c) with
  | false => simp
  | true =>
    simp only [Bool.not_true, Bool.false_eq_true, if_false, Sem.run_bind, q3, q4, Result.andThen_ok, e2, Bool.true_and]
    cases h2 : (b == d) <;> simp
theorem eqItems_cols (X Y : List ColT) (w : World) : ∀ is : List Nat, (∀ i ∈ is, i < X.length ∧ i < Y.length) → (Op.eqItems 9999 30 2 (cellsL X).toArray (cellsL Y).toArray is).run Try.prog w = .ok (is.all (fun i => X.getD i (0, 0) == Y.getD i (0, 0))) w
  | [], _ => by simp [Op.eqItems]
  | i :: is, h => by
    obtain ⟨h1, h2⟩ := h i (List.mem_cons_self)
    have ih := eqItems_cols X Y w is (fun j hj => h j (List.mem_cons_of_mem _ hj))
    simp only [Op.eqItems, Sem.run_bind, part_col X i h1 w, part_col Y i h2 w, Result.andThen_ok, eq_col]
    have e : (X.getD i (0, 0) == Y.getD i (0, 0)) = ((X.getD i (0, 0)).1 == (Y.getD i (0, 0)).1 && (X.getD i (0, 0)).2 == (Y.getD i (0, 0)).2) := rfl
    rw [List.all_cons, e]
    cases hb : ((X.getD i (0, 0)).1 == (Y.getD i (0, 0)).1 && (X.getD i (0, 0)).2 == (Y.getD i (0, 0)).2) with
    | false => simp
    | true => simpa using ih
theorem all_eq {X Y : List ColT} (hX : X.length = 12) (hY : Y.length = 12) : (List.range 12).all (fun i => X.getD i (0, 0) == Y.getD i (0, 0)) = decide (X = Y) := by
  by_cases h : X = Y
  · subst h
    rw [decide_eq_true rfl, List.all_eq_true]
    intro i _; simp
  · rw [decide_eq_false h, Bool.eq_false_iff]
    intro h2
    rw [List.all_eq_true] at h2
    apply h
    apply List.ext_getElem (by omega)
    intro i h3 h4
    have h5 := h2 i (List.mem_range.2 (by omega))
    rw [cgetD h3, cgetD h4] at h5
    simpa using h5
theorem wpList_neq_rowT {ops : Array Oper} {rest : List Oper} {op : Oper} {a : Act} {w : World} {Q : Exit → Act → World → Prop} (hgd : op.guard = none) (x y : Operand) (ty : TypeId) (ho : op.op = .binOp .neq 42 x y ty)
    (X Y : List ColT) (hx : a.eval x = .agg (cellsL X).toArray) (hy : a.eval y = .agg (cellsL Y).toArray) (hX : X.length = 12) (hY : Y.length = 12)
    (h : wpList Try.prog ops Q rest (a.put op.dst (.bool (!decide (X = Y)))) w) : wpList Try.prog ops Q (op :: rest) a w := by
  obtain ⟨i0, hi, _, _, _⟩ := info_parts info_col
  have hu : Try.prog.underlying 42 = some (.array 12 30) := Try.underlying42
  have hc : Try.prog.cellsOf 30 = 2 := by kernel_rfl
  have h1 := run_equalIn_array (P := Try.prog) w 9999 (cellsL X).toArray (cellsL Y).toArray hu hi
  rw [hc, eqItems_cols X Y w (List.range 12) (fun i hi => by have := List.mem_range.1 hi; omega), all_eq hX hY] at h1
  have h2 := run_neq_struct (P := Try.prog) w 42 (cellsL X).toArray (cellsL Y).toArray
  rw [show (10000 : Nat) = 9999 + 1 from rfl, h1] at h2
  have h3 : ∀ p q, (eqGuard .neq 42 p q (.agg (cellsL X).toArray) (.agg (cellsL Y).toArray)).run Try.prog w = .ok () w := fun p q => run_eqGuard_agg (P := Try.prog) w .neq 42 p q _ _ (by kernel_rfl)
  refine wpList_plain hgd fun K' hK' => ?_
  unfold Oper.wp
  simp only [execOp, ho, hx, hy, Sem.run_bind, h3, Result.andThen_ok, h2, Sem.run_pure, Oper.upon]
  exact hK' _ _ h
theorem firstN_step (p : Nat → Bool) (k : Nat) : firstN p (k + 1) = (match firstN p k with | some j => some j | none => if p k = true then some k else none) := rfl
/-- More columns behind make no difference. -/
theorem firstN_more {p q : Nat → Bool} {n : Nat} (h1 : ∀ i, i < n → p i = q i) : ∀ d, (∀ i, n ≤ i → i < n + d → p i = false) → firstN p (n + d) = firstN q n
  | 0, _ => firstN_congr h1
  | d + 1, h2 => by
    have ih := firstN_more h1 d (fun i hi hi2 => h2 i hi (by omega))
    rw [show n + (d + 1) = (n + d) + 1 from rfl, firstN_step, ih, h2 (n + d) (by omega) (by omega)]
    cases firstN q n <;> rfl
theorem ext_sm {T : Int} {R : List ColT} (h : R.length ≤ 12) : firstN (smP T (extR T R)) (extR T R).length = firstN (smP T R) R.length := by
  rw [extR_length h]
  have h2 := firstN_more (p := smP T (extR T R)) (q := smP T R) (n := R.length) (fun i hi => by unfold smP isU; rw [extR_lo hi]) (12 - R.length) (fun i hi hi2 => by unfold smP; rw [extR_hi hi (by omega)]; simp)
  rwa [show R.length + (12 - R.length) = 12 by omega] at h2
theorem ext_gr {T : Int} {R : List ColT} (h : R.length ≤ 12) : firstN (grP T (extR T R)) (extR T R).length = firstN (grP T R) R.length := by
  rw [extR_length h]
  have h2 := firstN_more (p := grP T (extR T R)) (q := grP T R) (n := R.length) (fun i hi => by unfold grP; rw [extR_lo hi]) (12 - R.length) (fun i hi hi2 => by unfold grP; rw [extR_hi hi (by omega)]; simp)
  rwa [show R.length + (12 - R.length) = 12 by omega] at h2
theorem ext_step {T : Int} {R : List ColT} (h : R.length ≤ 12) : stepR T (extR T R) = extR T (stepR T R) := by
  unfold stepR
  rw [ext_sm h, ext_gr h]
  cases hs : firstN (smP T R) R.length with
  | none => rfl
  | some s =>
    cases hg : firstN (grP T R) R.length with
    | none => rfl
    | some g =>
      have h1 := (firstN_some hs).1
      have h2 := (firstN_some hg).1
      simp only
      unfold fillS
      rw [extR_lo h1, extR_lo h2]
      unfold extR
      rw [List.set_append_left _ _ h1, List.set_append_left _ _ (by simpa using h2)]
      simp
theorem ext_inj {T : Int} {R S : List ColT} (h : R.length = S.length) (he : extR T R = extR T S) : R = S := by
  unfold extR at he
  exact (List.append_inj he h).1
theorem InvR.step {T : Int} {R : List ColT} (h : InvR T R) : InvR T (stepR T R) ∧ (stepR T R = R ↔ firstN (smP T R) R.length = none) ∧ (firstN (smP T R) R.length ≠ none → cntU (stepR T R) = cntU R - 1) := by
  cases hs : firstN (smP T R) R.length with
  | none => exact ⟨by rw [stepR_none hs]; exact h, ⟨fun _ => rfl, fun _ => stepR_none hs⟩, fun h2 => absurd rfl h2⟩
  | some s =>
    obtain ⟨g, hg⟩ := h.great hs
    rw [stepR_some hs hg]
    obtain ⟨h1, h2⟩ := h.next hs hg
    refine ⟨h1, ⟨fun e => ?_, fun e => by cases e⟩, fun _ => h2⟩
    rw [e] at h2; omega
theorem ext_bound {T : Int} {R : List ColT} (h : InvR T R) (hT : 0 < T ∧ T ≤ 600) (hl : R.length ≤ 12) : ∀ i, i < (extR T R).length → 0 ≤ ((extR T R).getD i (0, 0)).1 ∧ ((extR T R).getD i (0, 0)).1 ≤ 600 := fun i hi => by
  rw [extR_length hl] at hi
  by_cases e : i < R.length
  · rw [extR_lo e]; exact h.bound i e
  · rw [extR_hi (by omega) hi]; simp only; omega
end Go.Proofs.Ytjbhhllfbonaiaa

namespace Go.Proofs.Ytjbhhllfbonaiaa
open Go.RowKit

theorem cellsL_idx {L : List ColT} {j : Nat} {u : Value} (h : (cellsL L)[j]? = some u) : ∃ k, ∃ hk : k < L.length, (j = k * 2 ∧ u = .int .i64 (L[k]).1) ∨ (j = k * 2 + 1 ∧ u = .int .i64 (L[k]).2) := by
  have hj : j < (cellsL L).length := (List.getElem?_eq_some_iff.1 h).1
  rw [cellsL_length] at hj
  have hk : j / 2 < L.length := by omega
  obtain ⟨h1, h2⟩ := cellsL_get L (j / 2) hk
  refine ⟨j / 2, hk, ?_⟩
  by_cases e : j % 2 = 0
  · left
    have e2 : j = j / 2 * 2 := by omega
    refine ⟨e2, ?_⟩
    rw [e2] at h
    rw [h1] at h
    exact (Option.some.inj h).symm
  · right
    have e2 : j = j / 2 * 2 + 1 := by omega
    refine ⟨e2, ?_⟩
    rw [e2] at h
    rw [h2] at h
    exact (Option.some.inj h).symm
theorem src_cols {W : World} {b o : Nat} {L : List ColT} (hc : ∀ j, (hj : j < L.length) → ColAt W b (o + j * 2) L[j]) : ∀ j u, (cellsL L)[j]? = some u → W.cell? ((⟨b, o, none⟩ : Addr).add j) = some u := fun j u h => by
  rw [add_0T]
  obtain ⟨k, hk, h1 | h1⟩ := cellsL_idx h
  · rw [h1.1, h1.2]; exact (hc k hk).1
  · rw [h1.1, h1.2]; exact (hc k hk).2
theorem cols_one (L : List ColT) : ∀ u ∈ cellsL L, u.oneCell' = true := fun u hu => by
  unfold cellsL at hu
  rw [List.mem_flatMap] at hu
  obtain ⟨c, _, hc⟩ := hu
  simp only [List.mem_cons, List.not_mem_nil, or_false] at hc
  rcases hc with rfl | rfl <;> rfl
theorem co_of_own {w : World} {base : Nat} {v : Value} {L : List ColT} (hp : 0 < L.length) (h : w.ownsRow base 30 2 v L.length (cellsL L)) : ∃ t cap, v = .slice (some ⟨t, 0, none⟩) L.length cap ∧ L.length ≤ cap ∧ cap ≤ maxLen ∧ base ≤ t ∧ CoRow w t L := by
  have h0 := h
  obtain ⟨_, ⟨_, hn⟩ | ⟨g, cap, cur, rfl, hg, _, h1, h2, _, _⟩⟩ := h
  · omega
  · refine ⟨g, cap, rfl, h1, h2, hg, (h0.lt g rfl).2, fun j hj => ⟨⟨?_, ?_⟩, ⟨h0.frozenAt _, h0.frozenAt _⟩⟩⟩
    · rw [h0.cellAt (j * 2) (by omega)]; exact (cellsL_get L j hj).1
    · rw [h0.cellAt (j * 2 + 1) (by omega)]; exact (cellsL_get L j hj).2
theorem own_emptyC (w : World) (e : TypeId) (size : Nat) : (w.alloc (.cells #[] e)).ownsRow w.heap.size e size (.slice (some ⟨w.heap.size, 0, none⟩) 0 0) 0 [] :=
  ⟨by simp, .inr ⟨w.heap.size, 0, #[], rfl, Nat.le_refl _, trn_new _ _, Nat.le_refl _, Nat.zero_le _, by simp, by simp⟩⟩
set_option maxRecDepth 20000 in
set_option maxHeartbeats 1000000 in
theorem cloneC_any (v : Value) (L : List ColT) (w : World) (hr : ColRow w v L) (hl : L.length ≤ 1048576) (hp : 0 < L.length) :
    Calls Try.prog 18 #[v] w fun e w' => ∃ t cap, e = .returned (.slice (some ⟨t, 0, none⟩) L.length cap) ∧ L.length ≤ cap ∧ cap ≤ maxLen ∧ w.heap.size ≤ t ∧ CoRow w' t L ∧ Below w.heap.size w w' := by
  obtain ⟨i0, hi, hz0, hz1, hz2⟩ := info_parts info_col
  obtain ⟨a, cap, rfl, hcap, hmax, HROW⟩ := col_value hr
  obtain ⟨b, o, ha, hbl, hc⟩ := HROW.out hp
  subst ha
  clear HROW hr
  have hb0 : Below w.heap.size w (w.alloc (.cells #[] 30)) := (Below.refl _ _).alloc (Nat.le_refl _) _
  have hc2 := src_cols (W := w.alloc (.cells #[] 30)) (b := b) (o := o) (L := L) (fun j hj => (hc j hj).kept hb0)
  have hnil : ∀ W : World, Sem.run Try.prog (binOp .eql 25 (.slice (some ⟨b, o, none⟩) L.length cap) (.slice none 0 0)) W = .ok (.bool false) W := fun W => by rfl
  have HP : Hid (0 < L.length) := hp
  have hcl := cellsL_length L
  clear hc hp
  go_enter Try.func18, Try.ntmps18
  go_wp2_with (at_builtin; refine wpList_append_own _ rfl (.tmp 5) (.tmp 6) 25 rfl w.heap.size 30 i0 (.agg #[.int .i64 0, .int .i64 0]) 2 16 Try.underlying25 hi hz0 hz1 hz2 rfl (by decide) _ _ _ rfl (own_emptyC w 30 2) ⟨b, o, none⟩ L.length cap (cellsL L) rfl hcl hc2 (cols_one L) ?d3 ?d4 ?d5 ?_)
  case d3 => unfold maxLen; omega
  case d4 => omega
  case d5 => simp
  intro v2 w2 hown2 hgrow2 _
  obtain ⟨t, cp, rfl, g1, g2, g3, g4⟩ := co_of_own HP.out (by simpa using hown2)
  have hb2 : Below w.heap.size w w2 := hb0.grown hgrow2 hb0.size (fun k e => by cases e; exact Nat.le_refl _)
  have HZ : Hid (CoRow w2 t L) := g4
  clear hown2 hgrow2 hc2 g4 hcl
  go_wp2_with fail
  go_ret
  exact ⟨t, cp, rfl, g1, g2, g3, HZ.out, hb2⟩
end Go.Proofs.Ytjbhhllfbonaiaa

namespace Go.Proofs.Ytjbhhllfbonaiaa
open Go.RowKit

theorem box_fresh (w : World) : BoxR (w.alloc (.cells #[.int .i64 0, .int .i64 0, .int .i64 0, .int .i64 0, .int .i64 0, .int .i64 0, .int .i64 0, .int .i64 0, .int .i64 0, .int .i64 0, .int .i64 0, .int .i64 0, .int .i64 0, .int .i64 0, .int .i64 0, .int .i64 0, .int .i64 0, .int .i64 0, .int .i64 0, .int .i64 0, .int .i64 0, .int .i64 0, .int .i64 0, .int .i64 0] 42)) w.heap.size (List.replicate 12 (0, 0)) := trn_new _ _
theorem fresh_below (w : World) (x : Obj) : Below w.heap.size w (w.alloc x) := (Below.refl _ _).alloc (Nat.le_refl _) _
theorem BoxR.front {w : World} {b : Nat} {T : Int} {R : List ColT} (h : BoxR w b (extR T R)) (hl : R.length ≤ 12) : CoRow w b R :=
  ⟨h.lt, fun j hj => by
    have h1 := h.corow.2 j (by rw [extR_length hl]; omega)
    have e : (extR T R)[j]'(by rw [extR_length hl]; omega) = R[j] := by rw [← cgetD, extR_lo hj, cgetD hj]
    rw [e] at h1; exact h1⟩
theorem BoxR.rowOf {w : World} {b : Nat} {T : Int} {R : List ColT} (h : BoxR w b (extR T R)) (hl : R.length ≤ 12) : ColRow w (.slice (some ⟨b, 0, none⟩) R.length 12) R :=
  (h.front hl).row hl (by unfold maxLen; omega)

set_option maxRecDepth 20000 in
set_option maxHeartbeats 8000000 in
theorem iAliasOf_any (v : Value) (A : List Int) (w : World) (hr : ZRow .i64 w v A) (hl : A.length ≤ 1048576) :
    Calls Try.prog 5 #[v] w fun e w' => AlA w' w.heap.size (goodW A) (aliL A) e ∧ Below w.heap.size w w' := by
  have HG : Hid (Calls Try.prog 7 #[v] w fun e w' => e = .returned (.bool (goodW A)) ∧ w' = w) := iGoodWeights_any v A w hr
  cases hg : goodW A with
  | false =>
    rw [hg] at HG
    obtain ⟨va, vc, rfl, _, _, _⟩ := zrow_value hr
    clear hr hg
    go_enter Try.func5, Try.ntmps5
    go_wp2_with fail
    refine HG.out.mono ?_
    rintro e w1 ⟨rfl, rfl⟩
    go_wp2_with fail
    go_ret2
    exact ⟨ala_off _ _ _, Below.refl _ _⟩
  | true =>
    rw [hg] at HG
    obtain ⟨⟨hp1, hp12⟩, hwt, hpos⟩ := goodW_parts hg
    have HTT : Hid (Calls Try.prog 15 #[v] w fun e w' => e = .returned (.int .i64 A.sum) ∧ w' = w) := sumOf_any v A w hr hl (all_sm hwt)
    have HI0 : Hid (InvR A.sum (begR A) ∧ cntU (begR A) = (A.length : Int)) := begR_inv hg
    have hT : 0 < A.sum ∧ A.sum ≤ 600 := by have := wt_sum A hwt; omega
    have HAL : Hid (aliL A = itR A.sum (begR A) A.length) := rfl
    obtain ⟨T, hTe⟩ : ∃ T, T = A.sum := ⟨_, rfl⟩
    rw [← hTe] at HTT HI0 hT HAL
    have HUF : Hid (Calls Try.prog 16 #[v, .int .i64 T] w fun e w' => e = .returned (.agg (cellsL (extR T (begR A))).toArray) ∧ Below w.heap.size w w') := unfilledRow_any v A T w hr hg
    have HBL : Hid ((begR A).length = A.length) := begR_length A
    have HFF : Hid (∀ R W, InvR T R → R.length = A.length → Calls Try.prog 17 #[.agg (cellsL (extR T R)).toArray, .int .i64 T] W fun e w' => e = .returned (.agg (cellsL (extR T (stepR T R))).toArray) ∧ Below W.heap.size W w') := fun R W hi he => by
      have hle : R.length ≤ 12 := by omega
      have h := fillFirst_any (extR T R) T W (extR_length hle) (ext_bound hi hT hle) hT (fun s hs => by
        rw [ext_sm hle] at hs
        rw [ext_gr hle]
        exact hi.great hs)
      rw [ext_step hle] at h
      exact h
    obtain ⟨va, vc, rfl, hvc, hvm, _⟩ := zrow_value hr
    obtain ⟨n, hn⟩ : ∃ n, n = A.length := ⟨_, rfl⟩
    have HNA : Hid (A.length = n) := hn.symm
    rw [HNA.out] at HG HTT HI0 HAL HUF HBL HFF ⊢
    have hpn : 0 < n ∧ n ≤ 12 := by omega
    have hni : (n : Int) ≤ 12 ∧ 0 ≤ (n : Int) := by omega
    have hlb : (extR T (begR A)).length = 12 := extR_length (by rw [HBL.out]; omega)
    have HGD : Hid (goodW A = true) := hg
    clear hr hg hwt hpos hTe hn hvc hl hp1 hp12 hT
    go_enter Try.func5, Try.ntmps5
    go_wp2_with fail
    refine HG.out.mono ?_
    rintro e w0 ⟨rfl, rfl⟩
    go_wp2_with fail
    refine HTT.out.mono ?_
    rintro e w ⟨rfl, rfl⟩
    clear HG HTT
    go_wp2_with fail
    refine HUF.out.mono ?_
    rintro e w1 ⟨rfl, hb1⟩
    clear HUF
    have hz1 := box_fresh w1
    have hrg1 : ∀ W, BoxR W w1.heap.size (extR T (begR A)) → W.rangeAt w1.heap.size 0 (cellsL (extR T (begR A))) := fun W h => h.range
    have hris1 := row_is _ hlb
    go_wp2_with (first | (refine wpList_store_rowT rfl (.tmp 5) (.tmp 14) rfl w1.heap.size (List.replicate 12 (0, 0)) (extR T (begR A)) rfl rfl hz1 rfl hlb ?_; intro w2 hbx2 hk2) | (refine wpList_load_mid rfl 42 (.tmp 5) rfl w1.heap.size 0 rfl (cellsL (extR T (begR A))) _ (hrg1 _ hbx2) Try.underlying42 rfl hris1 ?_))
    refine (HFF.out _ _ HI0.out.1 HBL.out).mono ?_
    rintro e w3 ⟨rfl, hb3⟩
    have h12 : w1.heap.size < w2.heap.size := hbx2.lt
    have hz3 := box_fresh w3
    have HX3 : Hid (BoxR (w3.alloc (.cells #[.int .i64 0, .int .i64 0, .int .i64 0, .int .i64 0, .int .i64 0, .int .i64 0, .int .i64 0, .int .i64 0, .int .i64 0, .int .i64 0, .int .i64 0, .int .i64 0, .int .i64 0, .int .i64 0, .int .i64 0, .int .i64 0, .int .i64 0, .int .i64 0, .int .i64 0, .int .i64 0, .int .i64 0, .int .i64 0, .int .i64 0, .int .i64 0] 42)) w1.heap.size (extR T (begR A))) := (hbx2.kept hb3).kept (fresh_below _ _)
    have hls : (extR T (stepR T (begR A))).length = 12 := extR_length (by rw [stepR_length, HBL.out]; omega)
    have h23 := hb3.size
    go_wp2_with (refine wpList_store_rowT rfl (.tmp 6) (.tmp 17) rfl w3.heap.size (List.replicate 12 (0, 0)) (extR T (stepR T (begR A))) rfl rfl hz3 rfl hls ?_; intro w4 hbx4 hk4)
    have hbw2 : Below w.heap.size w w2 := (hb1.trans ((fresh_below _ _).mono hb1.size)).trans (hk2.below (by have := hb1.size; simp; omega) (fun j hj h => by have := hb1.size; omega))
    have hbw4 : Below w.heap.size w w4 := ((hbw2.trans (hb3.mono hbw2.size)).trans ((fresh_below _ _).mono (by have := hbw2.size; omega))).trans (hk4.below (by have := hbw2.size; simp; omega) (fun j hj h => by have := hbw2.size; omega))
    have HX4 : Hid (BoxR w4 w1.heap.size (extR T (itR T (begR A) 0))) := HX3.out.apart hk4 (by omega)
    have HY4 : Hid (BoxR w4 w3.heap.size (extR T (stepR T (itR T (begR A) 0)))) := hbx4
    have HIN : Hid (InvR T (itR T (begR A) 0) ∧ cntU (itR T (begR A) 0) + (0 : Nat) = (n : Int)) := ⟨HI0.out.1, by have := HI0.out.2; show cntU (begR A) + _ = _; omega⟩
    obtain ⟨b5, hb5⟩ : ∃ b, b = w1.heap.size := ⟨_, rfl⟩
    have hw5 : w.heap.size ≤ b5 := by have := hb1.size; omega
    have hne4 : w3.heap.size ≠ b5 := by omega
    have hw3 : w.heap.size ≤ w3.heap.size := by have := hbw2.size; omega
    rw [← hb5] at HX4 ⊢
    clear hz1 hrg1 hris1 hbx2 hk2 hb3 hz3 HX3 hls h23 hbx4 hk4 hbw2 hb1 hb5 HI0 hlb
    simp only [Act.put]
    go_loopg [6] n (fun g p wr => ∃ (kk b6 : Nat), kk + g = n ∧ p = .pointer (some ⟨b6, 0, none⟩) ∧ b6 ≠ b5 ∧ w.heap.size ≤ b6 ∧ Hid (BoxR wr b5 (extR T (itR T (begR A) kk))) ∧ Hid (BoxR wr b6 (extR T (stepR T (itR T (begR A) kk)))) ∧ Hid (InvR T (itR T (begR A) kk) ∧ cntU (itR T (begR A) kk) + (kk : Int) = (n : Int)) ∧ Below w.heap.size w wr)
    case atStart => exact ⟨0, _, by omega, rfl, hne4, hw3, HX4, HY4, HIN, hbw4⟩
    case round =>
      obtain ⟨kk, b6, hkg, rfl, h65, hw6, HX, HY, HI, hb⟩ := hrel
      have HRL : Hid ((itR T (begR A) kk).length = n) := by show _ = _; rw [itR_length]; exact HBL.out
      have HAK : Hid (firstN (smP T (itR T (begR A) kk)) (itR T (begR A) kk).length = none → itR T (begR A) kk = aliL A) := fun h => by
        rw [HAL.out, show n = kk + gk by omega, itR_stop h gk]
      have HNK : Hid (itR T (begR A) (kk + 1) = stepR T (itR T (begR A) kk)) := rfl
      obtain ⟨R, hR⟩ : ∃ R, R = itR T (begR A) kk := ⟨_, rfl⟩
      rw [← hR] at HX HY HI HRL HAK HNK
      have hlR : R.length ≤ 12 := by rw [HRL.out]; omega
      have hlX : (extR T R).length = 12 := extR_length hlR
      have hlY : (extR T (stepR T R)).length = 12 := extR_length (by rw [stepR_length]; exact hlR)
      have hisX := row_is _ hlX
      have hisY := row_is _ hlY
      have hrX := HX.out.range
      have hrY := HY.out.range
      clear hR HX4 HY4 HIN hbw4
      by_cases hs : firstN (smP T R) R.length = none
      · have HDE : Hid ((!decide (extR T (stepR T R) = extR T R)) = false) := by show _ = _; rw [stepR_none hs]; simp
        have HRA : Hid (R = aliL A) := HAK.out hs
        have HRO : Hid (ColRow wr (.slice (some ⟨b5, 0, none⟩) n 12) R) := by
          have h := HX.out.rowOf hlR
          rw [HRL.out] at h; exact h
        have hRp : 0 < R.length := by rw [HRL.out]; exact hpn.1
        have HCL : Hid (Calls Try.prog 18 #[.slice (some ⟨b5, 0, none⟩) n 12] wr fun e w' => ∃ t cap, e = .returned (.slice (some ⟨t, 0, none⟩) R.length cap) ∧ R.length ≤ cap ∧ cap ≤ maxLen ∧ wr.heap.size ≤ t ∧ CoRow w' t R ∧ Below wr.heap.size wr w') := cloneC_any _ R wr HRO.out (by omega) hRp
        clear hs hRp HRO HAK HNK HFF HX HY HI
        go_wp2_with (first | (refine wpList_load_mid rfl 42 (.tmp 6) rfl b6 0 rfl (cellsL (extR T (stepR T R))) _ hrY Try.underlying42 rfl hisY ?_) | (refine wpList_load_mid rfl 42 (.tmp 5) rfl b5 0 rfl (cellsL (extR T R)) _ hrX Try.underlying42 rfl hisX ?_) | (refine wpList_neq_rowT rfl (.tmp 18) (.tmp 19) _ rfl (extR T (stepR T R)) (extR T R) rfl rfl hlY hlX ?_; rw [HDE.out]))
        refine HCL.out.mono ?_
        rintro e w5 ⟨t, cap, rfl, h1, h2, h3, h4, h5⟩
        have HCO : Hid (CoRow w5 t R) := h4
        clear hrX hrY hisX hisY hlX hlY h4
        go_wp2_with fail
        go_ret2
        refine ⟨⟨.slice (some ⟨t, 0, none⟩) R.length cap, rfl, .inr ⟨t, cap, by show _ = Value.slice _ (aliL A).length cap; rw [← HRA.out], by show (aliL A).length ≤ cap; rw [← HRA.out]; exact h1, h2, by have := hb.size; omega, by show CoRow _ t (aliL A); rw [← HRA.out]; exact HCO.out⟩⟩, hb.trans (h5.mono hb.size)⟩
      · obtain ⟨hI1, hI2, hI3⟩ := HI.out.1.step
        have hcc := hI3 hs
        have hcn := cntU_nonneg (stepR T R)
        have hc0 := HI.out.2
        have hgk : kk + 1 ≤ n := by omega
        have HDE : Hid ((!decide (extR T (stepR T R) = extR T R)) = true) := by
          show _ = _
          have h1 : ¬ (extR T (stepR T R) = extR T R) := fun e => hs (hI2.1 (ext_inj (stepR_length T R) e))
          simp [h1]
        have HIN : Hid (InvR T (itR T (begR A) (kk + 1)) ∧ cntU (itR T (begR A) (kk + 1)) + ((kk + 1 : Nat) : Int) = (n : Int)) := by
          rw [HNK.out]
          exact ⟨hI1, by omega⟩
        have HSL : Hid ((stepR T R).length = n) := by show _ = _; rw [stepR_length, HRL.out]
        have HI2 : Hid (InvR T (stepR T R)) := hI1
        have hX := HX.out
        have HYB : Hid (BoxR wr b6 (extR T (stepR T R))) := HY
        have hnk : kk + 1 + (gk - 1) = n := by omega
        have hgk0 : gk - 1 < gk := by omega
        clear hI1 hI2 hI3 hcc hcn hc0 hs HI HAK HX HY
        go_wp2_with (first | (refine wpList_load_mid rfl 42 (.tmp 6) rfl b6 0 rfl (cellsL (extR T (stepR T R))) _ hrY Try.underlying42 rfl hisY ?_) | (refine wpList_load_mid rfl 42 (.tmp 5) rfl b5 0 rfl (cellsL (extR T R)) _ hrX Try.underlying42 rfl hisX ?_) | (refine wpList_neq_rowT rfl (.tmp 18) (.tmp 19) _ rfl (extR T (stepR T R)) (extR T R) rfl rfl hlY hlX ?_; rw [HDE.out]) | (refine wpList_store_rowT rfl (.tmp 5) (.tmp 24) rfl b5 (extR T R) (extR T (stepR T R)) rfl rfl hX hlX hlY ?_; intro w5 hbx5 hk5; have hrY5 := (HYB.out.apart hk5 h65).range; have hz5 := box_fresh w5) | (refine wpList_load_mid rfl 42 (.tmp 6) rfl b6 0 rfl (cellsL (extR T (stepR T R))) _ hrY5 Try.underlying42 rfl hisY ?_) | (refine wpList_store_rowT rfl (.tmp 6) (.tmp 25) rfl w5.heap.size (List.replicate 12 (0, 0)) (extR T (stepR T R)) rfl rfl hz5 rfl hlY ?_; intro w6 hbx6 hk6; have hb56 := hbx5.lt; have hX6 := (hbx5.kept (fresh_below w5 _)).apart hk6 (by omega); have hrX6 := hX6.range) | (refine wpList_load_mid rfl 42 (.tmp 5) rfl b5 0 rfl (cellsL (extR T (stepR T R))) _ hrX6 Try.underlying42 rfl hisY ?_))
        refine (HFF.out _ _ HI2.out HSL.out).mono ?_
        rintro e w7 ⟨rfl, hb7⟩
        have HX7 : Hid (BoxR w7 b5 (extR T (stepR T R))) := hX6.kept hb7
        have hz7 : BoxR w7 w5.heap.size (extR T (stepR T R)) := hbx6.kept hb7
        have hl2 : (extR T (stepR T (stepR T R))).length = 12 := extR_length (by rw [stepR_length, HSL.out]; omega)
        have hbw5 : Below w.heap.size w w5 := hb.trans (hk5.below hb.size (fun j hj h => by omega))
        have hbw6 : Below w.heap.size w w6 := (hbw5.trans ((fresh_below _ _).mono hbw5.size)).trans (hk6.below (by have := hbw5.size; simp; omega) (fun j hj h => by have := hbw5.size; omega))
        have hbw7 : Below w.heap.size w w7 := hbw6.trans (hb7.mono hbw6.size)
        have hw65 : w5.heap.size ≠ b5 := by omega
        have hww5 := hbw5.size
        clear hrX hrY hrY5 hrX6 hz5 hX
        go_wp2_with (refine wpList_store_rowT rfl (.tmp 6) (.tmp 23) rfl w5.heap.size (extR T (stepR T R)) (extR T (stepR T (stepR T R))) rfl rfl hz7 hlY hl2 ?_; intro w8 hbx8 hk8)
        simp only [Act.put]
        have HX8 : Hid (BoxR w8 b5 (extR T (itR T (begR A) (kk + 1)))) := by rw [HNK.out]; exact HX7.out.apart hk8 (by omega)
        have HY8 : Hid (BoxR w8 w5.heap.size (extR T (stepR T (itR T (begR A) (kk + 1))))) := by rw [HNK.out]; exact hbx8
        have hbw8 : Below w.heap.size w w8 := hbw7.trans (hk8.below hbw7.size (fun j hj h => by omega))
        go_roundg (gk - 1)
        case measure => exact hgk0
        case rel => exact ⟨kk + 1, _, hnk, rfl, hw65, hww5, HX8, HY8, HIN, hbw8⟩
end Go.Proofs.Ytjbhhllfbonaiaa
