import Derived.Test.YtafbnhelcoofmaaAlS
import Derived.Test.YtafbnhelcoofmaaApT
import Derived.Deep.MidRow
namespace Go.Proofs.Ytafbnhelcoofmaa
open Go.RowKit

/-- The cells of columns that lie behind one another. -/
def cellsL (R : List ColT) : List Value := R.flatMap (fun x => [.int .i64 x.1, .int .i64 x.2])
theorem cellsL_length (R : List ColT) : (cellsL R).length = R.length * 2 := by
  unfold cellsL
  induction R with
  | nil => rfl
  | cons x R ih => rw [List.flatMap_cons, List.length_append, ih, List.length_cons]; simp; omega
theorem cellsL_get : ∀ (R : List ColT) (k : Nat), (h : k < R.length) → (cellsL R)[k * 2]? = some (.int .i64 (R[k]).1) ∧ (cellsL R)[k * 2 + 1]? = some (.int .i64 (R[k]).2)
  | [], k, h => by simp at h
  | x :: R, 0, _ => by unfold cellsL; rw [List.flatMap_cons]; exact ⟨rfl, rfl⟩
  | x :: R, k + 1, h => by
    have ih := cellsL_get R k (by simpa using h)
    unfold cellsL at ih ⊢
    rw [List.flatMap_cons, show (k + 1) * 2 = k * 2 + 1 + 1 by omega, List.getElem_cons_succ]
    exact ih
theorem cellsL_set : ∀ (R : List ColT) (k : Nat) (x : ColT), (h : k < R.length) → ((cellsL R).set (k * 2) (.int .i64 x.1)).set (k * 2 + 1) (.int .i64 x.2) = cellsL (R.set k x)
  | [], k, x, h => by simp at h
  | y :: R, 0, x, _ => by unfold cellsL; rw [List.flatMap_cons, List.set_cons_zero, List.flatMap_cons]; rfl
  | y :: R, k + 1, x, h => by
    have ih := cellsL_set R k x (by simpa using h)
    unfold cellsL at ih ⊢
    rw [List.flatMap_cons, List.set_cons_succ, List.flatMap_cons, ← ih, show (k + 1) * 2 = k * 2 + 1 + 1 by omega]
    rfl
/-- Columns in a box of their own. -/
def BoxR (w : World) (b : Nat) (R : List ColT) : Prop := w.heap[b]? = some (.cells (cellsL R).toArray 52)
theorem BoxR.lt {w : World} {b : Nat} {R : List ColT} (h : BoxR w b R) : b < w.heap.size := (Array.getElem?_eq_some_iff.1 h).1
theorem BoxR.kept {w w' : World} {b : Nat} {R : List ColT} (h : BoxR w b R) (hb : Below w.heap.size w w') : BoxR w' b R := (hb.block b h.lt).trans h
theorem BoxR.apart {w w' : World} {b : Nat} {S : Nat → Prop} {R : List ColT} (h : BoxR w b R) (hk : Kpt w w' S) (hn : ¬ S b) : BoxR w' b R := (hk.block b h.lt hn).trans h
theorem BoxR.cell {w : World} {b : Nat} {R : List ColT} (h : BoxR w b R) (j : Nat) (v : Value) (hv : (cellsL R)[j]? = some v) : w.cell? ⟨b, j, none⟩ = some v := by
  have h1 := cell_of_row w b j _ _ (0, 0) h
  rw [h1]
  simpa using hv
theorem BoxR.frozen {w : World} {b : Nat} {R : List ColT} (h : BoxR w b R) (j : Nat) : w.frozen? ⟨b, j, none⟩ = false := by
  have h1 : w.heap[b]? = some (.cells (cellsL R).toArray 52) := h
  unfold World.frozen?; rw [h1]; simp
theorem BoxR.corow {w : World} {b : Nat} {R : List ColT} (h : BoxR w b R) : CoRow w b R :=
  ⟨h.lt, fun j hj => ⟨⟨h.cell _ _ (cellsL_get R j hj).1, h.cell _ _ (cellsL_get R j hj).2⟩, ⟨h.frozen _, h.frozen _⟩⟩⟩
theorem BoxR.range {w : World} {b : Nat} {R : List ColT} (h : BoxR w b R) : w.rangeAt b 0 (cellsL R) := fun j v hv => by rw [Nat.zero_add]; exact h.cell j v hv
theorem BoxR.put {w : World} {b : Nat} {R : List ColT} (h : BoxR w b R) (k : Nat) (hk : k < R.length) (x : ColT) : BoxR (putC w b (k * 2) x) b (R.set k x) := by
  have e0 := heap_setCell_same _ _ (k * 2) _ _ (.int .i64 x.1) h
  have e1 := heap_setCell_same _ _ (k * 2 + 1) _ _ (.int .i64 x.2) e0
  unfold BoxR putC
  rw [e1]
  have h2 := cellsL_set R k x hk
  rw [← h2]
  simp
theorem BoxR.put0 {w : World} {b : Nat} {R : List ColT} (h : BoxR w b R) (k : Nat) (hk : k < R.length) (x : Int) : BoxR (w.setCell ⟨b, k * 2, none⟩ (.int .i64 x)) b (R.set k (x, (R[k]).2)) := by
  have e0 := heap_setCell_same _ _ (k * 2) _ _ (.int .i64 x) h
  unfold BoxR
  rw [e0, ← cellsL_set R k (x, (R[k]).2) hk]
  have h2 := (cellsL_get R k hk).2
  have h3 : ((cellsL R).set (k * 2) (.int .i64 x)).set (k * 2 + 1) (.int .i64 (R[k]).2) = (cellsL R).set (k * 2) (.int .i64 x) := by
    apply List.ext_getElem?
    intro i
    rw [List.getElem?_set]
    by_cases e : k * 2 + 1 = i
    · subst e
      rw [if_pos rfl, if_pos (by rw [List.length_set, cellsL_length]; omega), List.getElem?_set_ne (by omega), h2]
    · rw [if_neg e]
  rw [h3]
  simp
theorem BoxR.put1 {w : World} {b : Nat} {R : List ColT} (h : BoxR w b R) (k : Nat) (hk : k < R.length) (x : Int) : BoxR (w.setCell ⟨b, k * 2 + 1, none⟩ (.int .i64 x)) b (R.set k ((R[k]).1, x)) := by
  have e0 := heap_setCell_same _ _ (k * 2 + 1) _ _ (.int .i64 x) h
  unfold BoxR
  rw [e0, ← cellsL_set R k ((R[k]).1, x) hk]
  have h2 := (cellsL_get R k hk).1
  have h3 : (cellsL R).set (k * 2) (.int .i64 (R[k]).1) = cellsL R := by
    apply List.ext_getElem?
    intro i
    rw [List.getElem?_set]
    by_cases e : k * 2 = i
    · subst e
      rw [if_pos rfl, if_pos (by rw [cellsL_length]; omega), h2]
    · rw [if_neg e]
  simp only
  rw [h3]
  simp
theorem box_new (w : World) (R : List ColT) : BoxR (w.alloc (.cells (cellsL R).toArray 52)) w.heap.size R := trn_new _ _
/-- A whole row stored. -/
theorem wpList_store_rowT {ops : Array Oper} {rest : List Oper} {op : Oper} {a : Act} {w : World} {Q : Exit → Act → World → Prop} (hgd : op.guard = none) (x y : Operand) (ho : op.op = .store 52 x y)
    (b : Nat) (R R' : List ColT) (hx : a.eval x = .pointer (some ⟨b, 0, none⟩)) (hy : a.eval y = .agg (cellsL R').toArray) (hb : BoxR w b R) (hl : R.length = 12) (hl' : R'.length = 12)
    (h : ∀ w', BoxR w' b R' → Kpt w w' (fun j => j = b) → wpList Try.prog ops Q rest (a.put op.dst undef) w') : wpList Try.prog ops Q (op :: rest) a w := by
  have hi : (Try.prog.info? 52).map (fun i => i.size) = some (cellsL R').toArray.size := by
    rw [List.size_toArray, cellsL_length, hl']; kernel_rfl
  have h1 : (cellsL R').toArray.all (fun x => x.oneCell') = true := by
    rw [Array.all_eq_true_iff_forall_mem]
    intro v hv
    have hv2 : v ∈ cellsL R' := by simpa using hv
    unfold cellsL at hv2
    rw [List.mem_flatMap] at hv2
    obtain ⟨c, _, hc⟩ := hv2
    simp only [List.mem_cons, List.not_mem_nil, or_false] at hc
    rcases hc with rfl | rfl <;> rfl
  have hrun := run_storeVar_row (P := Try.prog) w b 52 52 (cellsL R).toArray (cellsL R').toArray hb hi (by simp only [List.size_toArray, cellsL_length, hl, hl']) h1
  have hbx : BoxR (w.setRow b (cellsL R').toArray) b R' := setRow_heap w b _ _ _ _ hb
  have hkp : Kpt w (w.setRow b (cellsL R').toArray) (fun j => j = b) := ⟨rfl, rfl, rfl, by simp, fun k _ hk => setRow_other w b k _ hk⟩
  refine wpList_plain hgd fun K' hK' => ?_
  unfold Oper.wp
  simp [execOp, ho, hx, hy, Instr.storeAt, Instr.sureAddr, hrun, Result.andThen]
  exact hK' _ _ (h _ hbx hkp)
end Go.Proofs.Ytafbnhelcoofmaa
