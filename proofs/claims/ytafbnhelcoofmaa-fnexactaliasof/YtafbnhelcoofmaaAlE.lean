import Derived.Test.YtafbnhelcoofmaaAlG
import Derived.ChangeKeysEq
import Derived.Laws.StructEq
namespace Go.Proofs.Ytafbnhelcoofmaa
open Go.RowKit

theorem part_col (R : List ColT) (k : Nat) (h : k < R.length) (w : World) : (part 50 (cellsL R).toArray (k * 2)).run Try.prog w = .ok (.agg #[.int .i64 (R.getD k (0, 0)).1, .int .i64 (R.getD k (0, 0)).2]) w := by
  have hs : (sizeOf 50).run Try.prog w = .ok 2 w := Try.sizeOf50 w
  have ha : (isAgg 50).run Try.prog w = .ok true w := Try.isAgg50 w
  simp only [part, Sem.run_bind, ha, Result.andThen_ok, if_true, hs, Sem.run_pure, cells_extract R k h]
theorem eq_col (a b c d : Int) (w : World) : (Op.equalIn 9999 50 (.agg #[.int .i64 a, .int .i64 b]) (.agg #[.int .i64 c, .int .i64 d])).run Try.prog w = .ok (a == c && b == d) w := by
  have h0 : (Op.equalIn 9999 50 (.agg #[.int .i64 a, .int .i64 b]) (.agg #[.int .i64 c, .int .i64 d])).run Try.prog w = _ := run_equalIn_agg (P := Try.prog) w 9998 50 #[.int .i64 a, .int .i64 b] #[.int .i64 c, .int .i64 d] (by kernel_rfl) (by kernel_rfl)
  rw [h0]
  have hf : (Try.prog.fieldsOf 50).toList.map (fun f => (f.type, f.offset, (f.name == "_"))) = [(3, 0, false), (3, 1, false)] := by kernel_rfl
  obtain ⟨f, g, hfg⟩ : ∃ f g, (Try.prog.fieldsOf 50).toList = [f, g] := by
    have hl := congrArg List.length hf
    simp only [List.length_map, List.length_cons, List.length_nil] at hl
    match h : (Try.prog.fieldsOf 50).toList, hl with
    | [f, g], _ => exact ⟨f, g, rfl⟩
  rw [hfg] at hf ⊢
  simp only [List.map_cons, List.map_nil, List.cons.injEq, Prod.mk.injEq, and_true] at hf
  obtain ⟨⟨f1, f2, f3⟩, g1, g2, g3⟩ := hf
  have fn : f.name ≠ "_" := by simpa using f3
  have gn : g.name ≠ "_" := by simpa using g3
  have p3 : ∀ (cs : Array Value) (o : Nat) (v : Value), cs[o]? = some v → (part 3 cs o).run Try.prog w = .ok v w := fun cs o v h => by
    have ha : (isAgg 3).run Try.prog w = .ok false w := Try.isAgg3 w
    simp only [part, Sem.run_bind, ha, Result.andThen_ok, Bool.false_eq_true, if_false, h, Sem.run_pure]
  have q1 := p3 #[.int .i64 a, .int .i64 b] 0 (.int .i64 a) rfl
  have q2 := p3 #[.int .i64 c, .int .i64 d] 0 (.int .i64 c) rfl
  have q3 := p3 #[.int .i64 a, .int .i64 b] 1 (.int .i64 b) rfl
  have q4 := p3 #[.int .i64 c, .int .i64 d] 1 (.int .i64 d) rfl
  have e1 := run_equalIn_int (P := Try.prog) w 9997 3 .i64 .i64 a c Try.underlying3
  have e2 := run_equalIn_int (P := Try.prog) w 9997 3 .i64 .i64 b d Try.underlying3
  simp only [Op.eqFields, fn, gn, ne_eq, not_false_eq_true, if_true, Sem.run_bind, f1, f2, g1, g2, q1, q2, Result.andThen_ok, e1]
  cases h : (a == c) with
  | false => simp
  | true =>
    simp only [Bool.not_true, Bool.false_eq_true, if_false, Sem.run_bind, q3, q4, Result.andThen_ok, e2, Bool.true_and]
    cases h2 : (b == d) <;> simp
theorem eqItems_cols (X Y : List ColT) (w : World) : ∀ is : List Nat, (∀ i ∈ is, i < X.length ∧ i < Y.length) → (Op.eqItems 9999 50 2 (cellsL X).toArray (cellsL Y).toArray is).run Try.prog w = .ok (is.all (fun i => X.getD i (0, 0) == Y.getD i (0, 0))) w
  | [], _ => by simp [Op.eqItems]
  | i :: is, h => by
    obtain ⟨h1, h2⟩ := h i (List.mem_cons_self)
    have ih := eqItems_cols X Y w is (fun j hj => h j (List.mem_cons_of_mem _ hj))
    simp only [Op.eqItems, Sem.run_bind, part_col X i h1 w, part_col Y i h2 w, Result.andThen_ok, eq_col]
    have e : (X.getD i (0, 0) == Y.getD i (0, 0)) = ((X.getD i (0, 0)).1 == (Y.getD i (0, 0)).1 && (X.getD i (0, 0)).2 == (Y.getD i (0, 0)).2) := rfl
    rw [List.all_cons, e]
    cases hb : ((X.getD i (0, 0)).1 == (Y.getD i (0, 0)).1 && (X.getD i (0, 0)).2 == (Y.getD i (0, 0)).2) with
    | false => simp
    | true => simpa using ih
theorem all_eq {X Y : List ColT} (hX : X.length = 12) (hY : Y.length = 12) : (List.range 12).all (fun i => X.getD i (0, 0) == Y.getD i (0, 0)) = decide (X = Y) := by
  by_cases h : X = Y
  · subst h
    rw [decide_eq_true rfl, List.all_eq_true]
    intro i _; simp
  · rw [decide_eq_false h, Bool.eq_false_iff]
    intro h2
    rw [List.all_eq_true] at h2
    apply h
    apply List.ext_getElem (by omega)
    intro i h3 h4
    have h5 := h2 i (List.mem_range.2 (by omega))
    rw [cgetD h3, cgetD h4] at h5
    simpa using h5
theorem wpList_neq_rowT {ops : Array Oper} {rest : List Oper} {op : Oper} {a : Act} {w : World} {Q : Exit → Act → World → Prop} (hgd : op.guard = none) (x y : Operand) (ty : TypeId) (ho : op.op = .binOp .neq 52 x y ty)
    (X Y : List ColT) (hx : a.eval x = .agg (cellsL X).toArray) (hy : a.eval y = .agg (cellsL Y).toArray) (hX : X.length = 12) (hY : Y.length = 12)
    (h : wpList Try.prog ops Q rest (a.put op.dst (.bool (!decide (X = Y)))) w) : wpList Try.prog ops Q (op :: rest) a w := by
  obtain ⟨i0, hi, _, _, _⟩ := info_parts info_col
  have hu : Try.prog.underlying 52 = some (.array 12 50) := Try.underlying52
  have hc : Try.prog.cellsOf 50 = 2 := by kernel_rfl
  have h1 := run_equalIn_array (P := Try.prog) w 9999 (cellsL X).toArray (cellsL Y).toArray hu hi
  rw [hc, eqItems_cols X Y w (List.range 12) (fun i hi => by have := List.mem_range.1 hi; omega), all_eq hX hY] at h1
  have h2 := run_neq_struct (P := Try.prog) w 52 (cellsL X).toArray (cellsL Y).toArray
  rw [show (10000 : Nat) = 9999 + 1 from rfl, h1] at h2
  have h3 : ∀ p q, (eqGuard .neq 52 p q (.agg (cellsL X).toArray) (.agg (cellsL Y).toArray)).run Try.prog w = .ok () w := fun p q => run_eqGuard_agg (P := Try.prog) w .neq 52 p q _ _ (by kernel_rfl)
  refine wpList_plain hgd fun K' hK' => ?_
  unfold Oper.wp
  simp only [execOp, ho, hx, hy, Sem.run_bind, h3, Result.andThen_ok, h2, Sem.run_pure, Oper.upon]
  exact hK' _ _ h
theorem firstN_step (p : Nat → Bool) (k : Nat) : firstN p (k + 1) = (match firstN p k with | some j => some j | none => if p k = true then some k else none) := rfl
/-- More columns behind make no difference. -/
theorem firstN_more {p q : Nat → Bool} {n : Nat} (h1 : ∀ i, i < n → p i = q i) : ∀ d, (∀ i, n ≤ i → i < n + d → p i = false) → firstN p (n + d) = firstN q n
  | 0, _ => firstN_congr h1
  | d + 1, h2 => by
    have ih := firstN_more h1 d (fun i hi hi2 => h2 i hi (by omega))
    rw [show n + (d + 1) = (n + d) + 1 from rfl, firstN_step, ih, h2 (n + d) (by omega) (by omega)]
    cases firstN q n <;> rfl
theorem ext_sm {T : Int} {R : List ColT} (h : R.length ≤ 12) : firstN (smP T (extR T R)) (extR T R).length = firstN (smP T R) R.length := by
  rw [extR_length h]
  have h2 := firstN_more (p := smP T (extR T R)) (q := smP T R) (n := R.length) (fun i hi => by unfold smP isU; rw [extR_lo hi]) (12 - R.length) (fun i hi hi2 => by unfold smP; rw [extR_hi hi (by omega)]; simp)
  rwa [show R.length + (12 - R.length) = 12 by omega] at h2
theorem ext_gr {T : Int} {R : List ColT} (h : R.length ≤ 12) : firstN (grP T (extR T R)) (extR T R).length = firstN (grP T R) R.length := by
  rw [extR_length h]
  have h2 := firstN_more (p := grP T (extR T R)) (q := grP T R) (n := R.length) (fun i hi => by unfold grP; rw [extR_lo hi]) (12 - R.length) (fun i hi hi2 => by unfold grP; rw [extR_hi hi (by omega)]; simp)
  rwa [show R.length + (12 - R.length) = 12 by omega] at h2
theorem ext_step {T : Int} {R : List ColT} (h : R.length ≤ 12) : stepR T (extR T R) = extR T (stepR T R) := by
  unfold stepR
  rw [ext_sm h, ext_gr h]
  cases hs : firstN (smP T R) R.length with
  | none => rfl
  | some s =>
    cases hg : firstN (grP T R) R.length with
    | none => rfl
    | some g =>
      have h1 := (firstN_some hs).1
      have h2 := (firstN_some hg).1
      simp only
      unfold fillS
      rw [extR_lo h1, extR_lo h2]
      unfold extR
      rw [List.set_append_left _ _ h1, List.set_append_left _ _ (by simpa using h2)]
      simp
theorem ext_inj {T : Int} {R S : List ColT} (h : R.length = S.length) (he : extR T R = extR T S) : R = S := by
  unfold extR at he
  exact (List.append_inj he h).1
theorem InvR.step {T : Int} {R : List ColT} (h : InvR T R) : InvR T (stepR T R) ∧ (stepR T R = R ↔ firstN (smP T R) R.length = none) ∧ (firstN (smP T R) R.length ≠ none → cntU (stepR T R) = cntU R - 1) := by
  cases hs : firstN (smP T R) R.length with
  | none => exact ⟨by rw [stepR_none hs]; exact h, ⟨fun _ => rfl, fun _ => stepR_none hs⟩, fun h2 => absurd rfl h2⟩
  | some s =>
    obtain ⟨g, hg⟩ := h.great hs
    rw [stepR_some hs hg]
    obtain ⟨h1, h2⟩ := h.next hs hg
    refine ⟨h1, ⟨fun e => ?_, fun e => by cases e⟩, fun _ => h2⟩
    rw [e] at h2; omega
theorem ext_bound {T : Int} {R : List ColT} (h : InvR T R) (hT : 0 < T ∧ T ≤ 600) (hl : R.length ≤ 12) : ∀ i, i < (extR T R).length → 0 ≤ ((extR T R).getD i (0, 0)).1 ∧ ((extR T R).getD i (0, 0)).1 ≤ 600 := fun i hi => by
  rw [extR_length hl] at hi
  by_cases e : i < R.length
  · rw [extR_lo e]; exact h.bound i e
  · rw [extR_hi (by omega) hi]; simp only; omega
end Go.Proofs.Ytafbnhelcoofmaa
