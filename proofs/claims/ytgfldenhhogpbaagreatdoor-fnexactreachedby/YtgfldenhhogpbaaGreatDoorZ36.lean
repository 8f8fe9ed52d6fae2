import Derived.Test.YtgfldenhhogpbaaGreatDoorZ33
import Derived.Test.YtgfldenhhogpbaaGreatDoorZ35
import Derived.Test.YtgfldenhhogpbaaGreatDoorCards
import Derived.Test.YtgfldenhhogpbaaGreatDoorTie
import Derived.Test.YtgfldenhhogpbaaGreatDoorZ05
import Derived.Test.YtgfldenhhogpbaaGreatDoorZ10
import Derived.Test.YtgfldenhhogpbaaGreatDoorZ51
namespace Go.Proofs.YtgfldenhhogpbaaGreatDoor
open Go.ChangeShapes Go.WideShapes Go.ChangeAt Go.RowKit Go.Deep

theorem zlist_of_each {α : Type} {p : Nat → α → Prop} : ∀ n : Nat, (∀ i, i < n → ∃ x, p i x) → ∃ L : List α, L.length = n ∧ ∀ i, (h : i < L.length) → p i L[i]
  | 0, _ => ⟨[], rfl, fun i h => by simp at h⟩
  | n + 1, h => by
    obtain ⟨L, hl, hL⟩ := zlist_of_each n (fun i hi => h i (by omega))
    obtain ⟨x, hx⟩ := h n (by omega)
    refine ⟨L ++ [x], by simp [hl], fun i hi => ?_⟩
    by_cases hi2 : i < L.length
    · rw [List.getElem_append_left hi2]; exact hL i hi2
    · have hin : i = n := by simp at hi; omega
      subst hin
      rw [List.getElem_append_right (by omega)]
      simpa [hl] using hx
theorem zadd_at (b o k : Nat) : (⟨b, o, none⟩ : Addr).add k = ⟨b, o + k, none⟩ := by unfold Addr.add; split <;> simp_all
section
variable {H : Type} {enc : TypeId × Value → H} {P : Program} {w : World} {base : Nat} {spare : Nat → Bool} {held : Bool}
/-- A struct of three one-cell fields in memory. -/
theorem cells_agg3 {t : TypeId} {f0 f1 f2 : Field} {cs : List Value} {y : DataW H × List MemPlace} {fuel : Nat} (hs : P.underlying t = some (.struct #[f0, f1, f2])) (hone : oneCellFields P #[f0, f1, f2] = true) (hC : P.cellsOf t = 3)
    (hf : DataW.trod enc P w base spare held fuel t cs = some y) :
    ∃ (v0 v1 v2 : Value) (y0 y1 y2 : DataW H × List MemPlace) (n : Nat), cs = [v0, v1, v2] ∧
      DataW.trod enc P w base spare held n f0.type [v0] = some y0 ∧ DataW.trod enc P w base spare held n f1.type [v1] = some y1 ∧ DataW.trod enc P w base spare held n f2.type [v2] = some y2 := by
  obtain ⟨xs, n, _, hx, hl, hlen, hff⟩ := DataW.trod_struct hs hf
  rw [hC] at hl
  obtain ⟨c0, c1, c2, rfl⟩ := list3 hl
  obtain ⟨y0, y1, y2, rfl⟩ := list3 hlen
  have h0 := hff 0 f0 rfl
  have h1 := hff 1 f1 rfl
  have h2 := hff 2 f2 rfl
  obtain ⟨o0, k0⟩ := hone_of hone 0 f0 rfl
  obtain ⟨o1, k1⟩ := hone_of hone 1 f1 rfl
  obtain ⟨o2, k2⟩ := hone_of hone 2 f2 rfl
  rw [o0, k0] at h0
  rw [o1, k1] at h1
  rw [o2, k2] at h2
  exact ⟨c0, c1, c2, y0, y1, y2, n, rfl, h0, h1, h2⟩
end
set_option maxRecDepth 100000 in
/-- The cells of a zone, as they are read. -/
theorem zon_read_cells {H : Type} {enc : TypeId × Value → H} {W : World} {cs : List Value} {y : DataW H × List MemPlace} {n : Nat} {sp : Nat → Bool} {base : Nat} {held : Bool}
    (h : DataW.trod enc Tryz.prog W base sp held n 46 cs = some y) :
    ∃ (x : ZonT) (va : Value), cs = [.string ⟨x.1.toArray⟩, .int .i64 x.2.1, va] ∧ RRow W va x.2.2 ∧ ZFit x := by
  obtain ⟨v0, v1, v2, y0, y1, y2, m, rfl, h0, h1, h2⟩ := cells_agg3 Tryz.underlying46 (by kernel_rfl) (by kernel_rfl) h
  obtain ⟨s0, e0, _, hs0⟩ := DataW.trod_string Tryz.underlying9 h0
  obtain ⟨n1, e1, _, _⟩ := DataW.trod_int Tryz.underlying3 h1
  obtain ⟨a2, l2, k2, e2⟩ := Go.Joins.slice_form Tryz.underlying44 h2
  simp only [List.cons.injEq, and_true] at e0 e1 e2
  subst e0 e1 e2
  obtain ⟨A, hA, HA⟩ := rrow_of_read (h := ⟨m, by simpa [Value.cells] using h2⟩)
  exact ⟨(s0.data.toList, n1, A), _, rfl, hA, by simpa using hs0, HA.out⟩
set_option maxRecDepth 100000 in
/-- A list of zones that came in, as the walks take it. -/
theorem znrow_of_read {H : Type} {enc : TypeId × Value → H} {W : World} {a : Option Addr} {len cap : Nat} {d : DataW H} {p : List MemPlace} {sp : Nat → Bool} {base : Nat} {held : Bool}
    (h : DataW.Trod enc Tryz.prog W base sp held 22 (.slice a len cap) d p) : ∃ L, ZnRow W (.slice a len cap) L ∧ Hid (∀ x ∈ L, ZFit x) := by
  obtain ⟨fuel, hf⟩ := h
  have c3 : Tryz.prog.cellsOf 46 = 3 := by kernel_rfl
  rcases DataW.trod_slice Tryz.underlying22 hf with ⟨hcs, _⟩ | ⟨x, l, c, elems, rest, n, _, hcs, _, _, hl, hm, hlen, hel, _, _⟩
  · simp [Value.cells] at hcs
    obtain ⟨rfl, rfl, rfl⟩ := hcs
    exact ⟨[], ⟨none, 0, rfl, Nat.le_refl _, by unfold maxLen; omega, .inl rfl⟩, fun x hx => by cases hx⟩
  · simp [Value.cells] at hcs
    obtain ⟨rfl, rfl, rfl⟩ := hcs
    rw [c3] at hel
    by_cases h0 : len = 0
    · subst h0
      exact ⟨[], ⟨some x, cap, rfl, Nat.zero_le _, hm, .inl rfl⟩, fun x hx => by cases hx⟩
    · obtain ⟨b, off, spot⟩ := x
      have each : ∀ i, i < len → ∃ cs, W.cells? base ((⟨b, off, spot⟩ : Addr).add (i * 3)) 3 = some cs ∧ ∃ y, DataW.trod enc Tryz.prog W base sp held n 46 cs = some y := fun i hi => by
        have h1 := hel i hi
        rw [List.getElem?_eq_getElem (by omega), Option.bind_eq_some_iff] at h1
        obtain ⟨cs, h2, h3⟩ := h1
        exact ⟨cs, h2, _, h3⟩
      have hspot : spot = none := by
        obtain ⟨cs, h2, y, h3⟩ := each 0 (by omega)
        obtain ⟨q, va, rfl, _⟩ := zon_read_cells h3
        have hc := (World.cells?_some h2).2.2 0 (by simp)
        simpa [Addr.add] using World.cell?_spot hc
      subst hspot
      obtain ⟨L, hL, hp⟩ := zlist_of_each (p := fun i (x : ZonT) => (∃ va, ZonAt W b (off + i * 3) x va) ∧ ZFit x) len (fun i hi => by
        obtain ⟨cs, h2, y, h3⟩ := each i hi
        obtain ⟨q, va, rfl, g0, g1⟩ := zon_read_cells h3
        refine ⟨q, ⟨va, ?_⟩, g1⟩
        have hc := (World.cells?_some h2).2.2
        rw [zadd_at] at hc
        have q0 := hc 0 (by simp)
        have q1 := hc 1 (by simp)
        have q2 := hc 2 (by simp)
        rw [zadd_at] at q0 q1 q2
        exact ⟨q0, q1, q2, g0⟩)
      have hblk : b < W.heap.size := by obtain ⟨va, h⟩ := (hp 0 (by omega)).1; exact World.block_lt_of_cell? _ _ h.1
      refine ⟨L, ⟨some ⟨b, off, none⟩, cap, by rw [hL], by rw [hL]; exact hl, hm, .inr ⟨b, off, rfl, hblk, fun j hj => (hp j hj).1⟩⟩, ?_⟩
      intro x hx
      obtain ⟨j, hj, rfl⟩ := List.getElem_of_mem hx
      exact (hp j hj).2
theorem array1 {α : Type} {cs : Array α} (h : cs.size = 1) : ∃ c0, cs = #[c0] := by
  obtain ⟨l⟩ := cs
  match l, h with
  | [c0], _ => exact ⟨c0, rfl⟩
theorem list1 {α : Type} {cs : List α} (h : cs.length = 1) : ∃ c0, cs = [c0] := by
  match cs, h with
  | [c0], _ => exact ⟨c0, rfl⟩
section
variable {H : Type} {enc : TypeId × Value → H} {P : Program} {w : World} {base : Nat} {spare : Nat → Bool} {held : Bool}
/-- A struct of one one-cell field that came in by value. -/
theorem open_agg1 {r : Reach} {b0 : Nat} {t : TypeId} {f0 : Field} {v : Value} {d : DataW H} {p : List MemPlace} (hs : P.underlying t = some (.struct #[f0])) (hone : oneCellFields P #[f0] = true) (hC : P.cellsOf t = 1)
    (hv : Value.okWide P w r b0 t v) (h : DataW.Trod enc P w base spare held t v d p) :
    ∃ (v0 : Value) (y0 : DataW H × List MemPlace) (n : Nat), v = .agg #[v0] ∧ DataW.trod enc P w base spare held n f0.type [v0] = some y0 := by
  obtain ⟨cs, rfl, hsz⟩ := okWide_struct hs hv
  obtain ⟨c0, rfl⟩ := array1 (hsz.trans hC)
  obtain ⟨fuel, hf⟩ := h
  obtain ⟨xs, n, _, hx, hl, hlen, hff⟩ := DataW.trod_struct hs hf
  obtain ⟨y0, rfl⟩ := list1 hlen
  have h0 := hff 0 f0 rfl
  obtain ⟨o0, k0⟩ := hone_of hone 0 f0 rfl
  rw [o0, k0] at h0
  exact ⟨c0, y0, n, rfl, h0⟩
end
set_option maxRecDepth 100000 in
/-- A world that came in. -/
theorem wld_of_read {H : Type} {enc : TypeId × Value → H} {W : World} {v : Value} {d : DataW H} {p : List MemPlace} {sp : Nat → Bool} {base b0 : Nat} {held : Bool} {r : Reach}
    (hv : Value.okWide Tryz.prog W r b0 24 v) (h : DataW.Trod enc Tryz.prog W base sp held 24 v d p) :
    ∃ (va : Value) (L : List ZonT), v = WldV va ∧ ZnRow W va L ∧ Hid (∀ x ∈ L, ZFit x) := by
  obtain ⟨v0, y0, n, rfl, t0⟩ := open_agg1 Tryz.underlying24 (by kernel_rfl) (by kernel_rfl) hv h
  obtain ⟨a0, l0, c0, e0⟩ := Go.Joins.slice_form Tryz.underlying22 t0
  simp only [List.cons.injEq, and_true] at e0
  subst e0
  obtain ⟨L, hL, HL⟩ := znrow_of_read (h := ⟨n, by simpa [Value.cells] using t0⟩)
  exact ⟨_, L, rfl, hL, HL⟩
end Go.Proofs.YtgfldenhhogpbaaGreatDoor

/- Whatever the arguments: the law FnExactReachedBy returns true, and each argument reads behind the call as it read before. Condition: the listed package variables start as the program's own text lays them (the card ties them). -/
namespace Go.Proofs.YtgfldenhhogpbaaGreatDoor.reachedBy
open Go.ChangeShapes Go.WideShapes Go.ChangeAt Go.RowKit Go.Deep
open Go.ChangeMaps (open_string shut_string)

set_option maxRecDepth 100000 in
theorem contract (H : Type) (enc : TypeId × Value → H) (W : World) (base : Nat) (args : Array Value) (ds gs : List (DataW H)) (before : List MemPlace)
    (hval : ∀ (j : Nat) t v, Tryz.f5.params[j]? = some t → args[j]? = some v → Value.okWide Tryz.prog W .any base t v)
    (hW : DataW.Whole enc Tryz.prog Tryz.f5.params.toList Rows.fnExactReachedBySpec.vars false W args.toList ds gs before) (hL : laidMetH Tryz.prog Rows.fnExactReachedByRow.laid W) (hsh : W.ShapedOpen Tryz.prog) :
    Calls Tryz.prog 5 args W fun e W' => ∃ v, e = .returned v ∧ Rows.fnExactReachedBySpec.post enc Tryz.prog Tryz.f5 false true false false W args v W' := by
  have hW' := hW
  obtain ⟨p, q, hA0, hV, rfl, hfz, hnd⟩ := hW
  have hA : DataW.TrodAll enc Tryz.prog W 0 (fun _ => true) true Tryz.f5.params.toList args.toList ds p := hA0
  rw [Tryz.params5] at hA hval
  obtain ⟨v0, vs0, d0, ds0, p0, q0, hargs, rfl, rfl, h0, r0⟩ := trodAll_cons hA
  obtain ⟨v1, vs1, d1, ds1, p1, q1, rfl, rfl, rfl, h1, r1⟩ := trodAll_cons r0
  obtain ⟨rfl, rfl, rfl⟩ := trodAll_nil r1
  obtain rfl : args = #[v0, v1] := by cases args; simp_all
  obtain ⟨ga, ta, csa, fa, da, pa, gb, tb, csb, fb, db, pb, rfl, _⟩ := trodVars_two hV
  have k0 := h0
  have lt0 : ∀ x ∈ p0, x.block < W.heap.size := by obtain ⟨m, hm⟩ := k0; exact DataW.trod_lt m _ _ _ hm
  obtain ⟨va0, L0, rfl, ha0, hxa0⟩ := wld_of_read (hval 0 24 v0 rfl rfl) h0
  obtain ⟨s1, rfl, rfl, rfl, hs1⟩ := open_string Tryz.underlying9 (hval 1 9 v1 rfl rfl) h1
  clear hA0
  have hE := envZ_of hL (by kernel_rfl) (by kernel_rfl) (by kernel_rfl) (by kernel_rfl) (by kernel_rfl) hsh
  refine (walk va0 L0 s1 W ha0 hxa0 hs1 hE).mono fun e W' ⟨he, bel⟩ => ?_
  subst he
  exact ⟨_, rfl, _, _, _, [], _, q, hW', trodAll_mk1 (shut_bool Tryz.underlying4 _), (trodAll_cons_mk (Below.trod laidOut (by kernel_rfl) (of_decide_eq_true (by kernel_rfl)) k0 bel lt0) (trodAll_cons_mk (shut_string Tryz.underlying9 hs1) trodAll_mk0)), Below.trodVars laidOut bel (by kernel_rfl) hV, bel.frame _, fun h => by cases h⟩

set_option maxRecDepth 100000 in
theorem lifted (os : Os) (started : os.Started) (H : Type) (enc : TypeId × Value → H) (F : Stop.Interp) :
    ReturnsInHanded {} Tryz.checked os 5 .any ((OpenSpec.ofChange Rows.fnExactReachedBySpec).preRow enc Tryz.prog Tryz.f5 Rows.fnExactReachedByRow.domain false Rows.fnExactReachedByRow.laid) (((OpenSpec.ofChange Rows.fnExactReachedBySpec).at F).post enc Tryz.prog Tryz.f5 false true false false) := by
  refine returnsInHanded_of_row (C := Tryz.checked) (s := OpenSpec.ofChange Rows.fnExactReachedBySpec) own started (by kernel_rfl) Tryz.func5
    (witness_laid (enc := enc) (C := Tryz.checked) false (World.laidAll Tryz.prog os Rows.fnExactReachedByRow.laid) #[.agg #[.slice none 0 0], .string ByteArray.empty] (World.laidAll_os _ _ _) (World.shaped_of_ZipB (by kernel_rfl) (by kernel_rfl)) (by kernel_rfl)
      (pre_laid 8 (by kernel_rfl) (by kernel_rfl) (by rw [MakeChecks.laidMetH_plain _ _ _ (by kernel_rfl)]; exact laidMet_laidAll _ (by kernel_rfl) (by kernel_rfl)))) ?_
  intro W base args ds gs before hval hW _ _ _ hL hsh _
  exact contract H enc W base args ds gs before hval hW hL hsh

set_option maxRecDepth 100000 in
theorem said : Rows.FnExactReachedBySaid :=
  OpenClaim.holds_of_cond 5 Tryz.f5 rfl rfl rfl rfl rfl rfl rfl ⟨rfl, rfl, rfl, rfl, rfl⟩ rfl rfl rfl rfl rfl (by kernel_rfl) Tryz.func5 closed
    (of_decide_eq_true (by kernel_rfl)) (by unfold Func.isWrapper; first | (rw [if_pos (by decide +kernel)]; kernel_rfl) | (rw [if_neg (by decide +kernel)]; exact ⟨rfl, rfl⟩))
    (fun os started H enc _ F => by rw [OpenClaim.pre_eq_preRow]; exact lifted os started H enc F)

set_option maxRecDepth 100000 in
theorem plain (f : FuncId) (fn : Func) (hf : Tryz.pinned.checked.prog.funcNamed "loop.example/g00300/laws.FnExactReachedBy" = some f) (hfn : Tryz.pinned.checked.prog.funcs[f]? = some fn) :
    true = Tryz.pinned.checked.prog.looks [] ∧ ∀ (j : Nat) t, fn.params[j]? = some t → Tryz.pinned.checked.prog.wantsStandIn t = false := by
  obtain rfl : f = 5 := Option.some.inj ((show Tryz.prog.funcNamed "loop.example/g00300/laws.FnExactReachedBy" = some 5 by kernel_rfl).symm.trans hf) |>.symm
  obtain rfl : fn = Tryz.f5 := (Option.some.inj (Tryz.func5.symm.trans hfn)).symm
  refine ⟨by kernel_rfl, fun j t ht => ?_⟩
  rw [Tryz.params5] at ht
  have hm : t ∈ [24, 9] := by simpa using Array.mem_of_getElem? ht
  have hall : ([24, 9].all fun u => !Tryz.prog.wantsStandIn u) = true := by kernel_rfl
  exact (show Tryz.prog.wantsStandIn t = false by simpa using List.all_eq_true.1 hall t hm)
end Go.Proofs.YtgfldenhhogpbaaGreatDoor.reachedBy

namespace Go.Proofs.YtgfldenhhogpbaaGreatDoor
set_option maxRecDepth 100000 in
theorem fnExactReachedBy_card : Rows.FnExactReachedByCardSaid :=
  Claim7.holds_tied_plain_at .later [] _ _ _ _ reachedBy.said (fun _ h => by cases h) (by kernel_rfl) (fun _ h => by cases h) fnExactReachedBy_row_tie rfl ⟨rfl, rfl⟩ (by kernel_rfl) rfl reachedBy.plain (by kernel_rfl)
end Go.Proofs.YtgfldenhhogpbaaGreatDoor
