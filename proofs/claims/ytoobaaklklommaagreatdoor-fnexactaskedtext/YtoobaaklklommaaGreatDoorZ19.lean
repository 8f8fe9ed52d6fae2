import Derived.Test.YtoobaaklklommaaGreatDoorZ13
import Derived.Test.YtoobaaklklommaaGreatDoorZ18
import Derived.Test.YtoobaaklklommaaGreatDoorCards
import Derived.Test.YtoobaaklklommaaGreatDoorTie
import Derived.Test.YtoobaaklklommaaGreatDoorZ06
import Derived.Test.YtoobaaklklommaaGreatDoorZ51
namespace Go.Proofs.YtoobaaklklommaaGreatDoor
open Go.ChangeShapes Go.WideShapes Go.ChangeAt Go.RowKit Go.Deep

set_option maxRecDepth 100000 in
/-- The cells of a change, as they are read. -/
theorem chg_read_cells {H : Type} {enc : TypeId × Value → H} {W : World} {cs : List Value} {y : DataW H × List MemPlace} {n : Nat} {sp : Nat → Bool} {base : Nat} {held : Bool}
    (h : DataW.trod enc Tryz.prog W base sp held n 128 cs = some y) : ∃ x : ChgT, cs = chgc x ∧ x.2.1.length ≤ maxLen ∧ x.2.2.2.2.length ≤ maxLen := by
  obtain ⟨y0, y1, m, _, hl, h0, h1⟩ := trod_struct2 Tryz.underlying128 h
  have c3 : Tryz.prog.cellsOf 3 = 1 := by kernel_rfl
  have c4 : Tryz.prog.cellsOf 126 = 4 := by kernel_rfl
  have c5 : Tryz.prog.cellsOf 128 = 5 := by kernel_rfl
  simp only [c3] at h0
  simp only [c4] at h1
  rw [c5] at hl
  match cs, hl with
  | [k, a, b, c, d], _ =>
    have g0 : DataW.trod enc Tryz.prog W base sp held m 3 [k] = some y0 := h0
    have g1 : DataW.trod enc Tryz.prog W base sp held m 126 [a, b, c, d] = some y1 := h1
    obtain ⟨n0, e0, _, _⟩ := DataW.trod_int Tryz.underlying3 g0
    obtain ⟨x, e1, l1, l2, _⟩ := rec_cells g1
    simp only [List.cons.injEq, and_true] at e0 e1
    obtain ⟨r0, r1, r2, r3⟩ := e1
    subst e0 r0 r1 r2 r3
    exact ⟨(n0, x.1, x.2.1, x.2.2.1, x.2.2.2), rfl, l1, l2⟩
set_option maxRecDepth 100000 in
/-- Rows of such that came in, as the walks take them. -/
theorem chgrow_of_read {H : Type} {enc : TypeId × Value → H} {W : World} {a : Option Addr} {len cap : Nat} {d : DataW H} {p : List MemPlace} {sp : Nat → Bool} {base : Nat} {held : Bool}
    (h : DataW.Trod enc Tryz.prog W base sp held 39 (.slice a len cap) d p) : ∃ L, ChgRow W (.slice a len cap) L ∧ Hid (∀ x ∈ L, x.2.1.length ≤ maxLen ∧ x.2.2.2.2.length ≤ maxLen) := by
  obtain ⟨fuel, hf⟩ := h
  have c5 : Tryz.prog.cellsOf 128 = 5 := by kernel_rfl
  rcases DataW.trod_slice Tryz.underlying39 hf with ⟨hcs, _⟩ | ⟨x, l, c, elems, rest, n, _, hcs, _, _, hl, hm, hlen, hel, _, _⟩
  · simp [Value.cells] at hcs
    obtain ⟨rfl, rfl, rfl⟩ := hcs
    exact ⟨[], ⟨none, 0, rfl, Nat.le_refl _, by unfold maxLen; omega, .inl rfl⟩, fun x hx => by cases hx⟩
  · simp [Value.cells] at hcs
    obtain ⟨rfl, rfl, rfl⟩ := hcs
    rw [c5] at hel
    by_cases h0 : len = 0
    · subst h0
      exact ⟨[], ⟨some x, cap, rfl, Nat.zero_le _, hm, .inl rfl⟩, fun x hx => by cases hx⟩
    · obtain ⟨b, off, spot⟩ := x
      have each : ∀ i, i < len → ∃ cs, W.cells? base ((⟨b, off, spot⟩ : Addr).add (i * 5)) 5 = some cs ∧ ∃ y, DataW.trod enc Tryz.prog W base sp held n 128 cs = some y := fun i hi => by
        have h1 := hel i hi
        rw [List.getElem?_eq_getElem (by omega), Option.bind_eq_some_iff] at h1
        obtain ⟨cs, h2, h3⟩ := h1
        exact ⟨cs, h2, _, h3⟩
      have hspot : spot = none := by
        obtain ⟨cs, h2, y, h3⟩ := each 0 (by omega)
        obtain ⟨q, rfl, _⟩ := chg_read_cells h3
        have hc := (World.cells?_some h2).2.2 0 (by simp)
        simpa [Addr.add] using World.cell?_spot hc
      subst hspot
      obtain ⟨L, hL, hp⟩ := list_of_each (p := fun i (x : ChgT) => ChgAt W b (off + i * 5) x ∧ x.2.1.length ≤ maxLen ∧ x.2.2.2.2.length ≤ maxLen) len (fun i hi => by
        obtain ⟨cs, h2, y, h3⟩ := each i hi
        obtain ⟨q, rfl, l1, l2⟩ := chg_read_cells h3
        refine ⟨q, ?_, l1, l2⟩
        have hc := (World.cells?_some h2).2.2
        rw [add_at] at hc
        have q0 := hc 0 (by simp)
        have q1 := hc 1 (by simp)
        have q2 := hc 2 (by simp)
        have q3 := hc 3 (by simp)
        have q4 := hc 4 (by simp)
        rw [add_at] at q0 q1 q2 q3 q4
        exact ChgAt.of q0 q1 q2 q3 q4)
      have hblk : b < W.heap.size := World.block_lt_of_cell? _ _ (hp 0 (by omega)).1.cells.1
      refine ⟨L, ⟨some ⟨b, off, none⟩, cap, by rw [hL], by rw [hL]; exact hl, hm, .inr ⟨b, off, rfl, hblk, fun j hj => (hp j hj).1⟩⟩, ?_⟩
      intro x hx
      obtain ⟨j, hj, rfl⟩ := List.getElem_of_mem hx
      exact (hp j hj).2
set_option maxRecDepth 100000 in
/-- An asked thing that came in. -/
theorem ask_of_read {H : Type} {enc : TypeId × Value → H} {W : World} {v : Value} {d : DataW H} {p : List MemPlace} {sp : Nat → Bool} {base b0 : Nat} {held : Bool} {r : Reach}
    (hv : Value.okWide Tryz.prog W r b0 41 v) (h : DataW.Trod enc Tryz.prog W base sp held 41 v d p) :
    ∃ (c n : Int) (va : Value) (L : List ChgT), v = AskV c n va ∧ ChgRow W va L ∧ Hid (∀ x ∈ L, x.2.1.length ≤ maxLen ∧ x.2.2.2.2.length ≤ maxLen) := by
  have ka : Tryz.prog.cellsOf 41 = 3 := by kernel_rfl
  have k3 : Tryz.prog.cellsOf 3 = 1 := by kernel_rfl
  have ks : Tryz.prog.cellsOf 39 = 1 := by kernel_rfl
  obtain ⟨cs, rfl, hsz⟩ := okWide_struct Tryz.underlying41 hv
  obtain ⟨c0, c1, c2, rfl⟩ := array3 (hsz.trans ka)
  obtain ⟨fuel, hf⟩ := h
  obtain ⟨xs, n, _, hx, hl, hlen, hff⟩ := DataW.trod_struct Tryz.underlying41 hf
  obtain ⟨y0, y1, y2, rfl⟩ := list3 hlen
  have h0 : DataW.trod enc Tryz.prog W base sp held n 3 (([c0, c1, c2].drop 0).take (Tryz.prog.cellsOf 3)) = some y0 := hff 0 _ rfl
  have h1 : DataW.trod enc Tryz.prog W base sp held n 3 (([c0, c1, c2].drop 1).take (Tryz.prog.cellsOf 3)) = some y1 := hff 1 _ rfl
  have h2 : DataW.trod enc Tryz.prog W base sp held n 39 (([c0, c1, c2].drop 2).take (Tryz.prog.cellsOf 39)) = some y2 := hff 2 _ rfl
  rw [k3] at h0 h1
  rw [ks] at h2
  have g0 : DataW.trod enc Tryz.prog W base sp held n 3 [c0] = some y0 := h0
  have g1 : DataW.trod enc Tryz.prog W base sp held n 3 [c1] = some y1 := h1
  have g2 : DataW.trod enc Tryz.prog W base sp held n 39 [c2] = some y2 := h2
  obtain ⟨n0, e0, _, _⟩ := DataW.trod_int Tryz.underlying3 g0
  obtain ⟨n1, e1, _, _⟩ := DataW.trod_int Tryz.underlying3 g1
  obtain ⟨a2, l2, p2, e2⟩ := Go.Joins.slice_form Tryz.underlying39 g2
  simp only [List.cons.injEq, and_true] at e0 e1 e2
  subst e0 e1 e2
  obtain ⟨L, hL, HL⟩ := chgrow_of_read (h := ⟨n, by simpa [Value.cells] using g2⟩)
  exact ⟨n0, n1, _, L, rfl, hL, HL⟩
end Go.Proofs.YtoobaaklklommaaGreatDoor

/- Whatever the arguments: the law FnExactAskedText returns true, and each argument reads behind the call as it read before. Condition: the listed package variables start as the program's own text lays them (the card ties them). -/
namespace Go.Proofs.YtoobaaklklommaaGreatDoor.askedText
open Go.ChangeShapes Go.WideShapes Go.ChangeAt Go.RowKit Go.Deep
open Go.ChangeMaps (open_string shut_string)

set_option maxRecDepth 100000 in
theorem contract (H : Type) (enc : TypeId × Value → H) (W : World) (base : Nat) (args : Array Value) (ds gs : List (DataW H)) (before : List MemPlace)
    (hval : ∀ (j : Nat) t v, Tryz.f7.params[j]? = some t → args[j]? = some v → Value.okWide Tryz.prog W .any base t v)
    (hW : DataW.Whole enc Tryz.prog Tryz.f7.params.toList Rows.fnExactAskedTextSpec.vars false W args.toList ds gs before) (hL : laidMetH Tryz.prog Rows.fnExactAskedTextRow.laid W) (hsh : W.ShapedOpen Tryz.prog) :
    Calls Tryz.prog 7 args W fun e W' => ∃ v, e = .returned v ∧ Rows.fnExactAskedTextSpec.post enc Tryz.prog Tryz.f7 false true false false W args v W' := by
  have hW' := hW
  obtain ⟨p, q, hA0, hV, rfl, hfz, hnd⟩ := hW
  have hA : DataW.TrodAll enc Tryz.prog W 0 (fun _ => true) true Tryz.f7.params.toList args.toList ds p := hA0
  rw [Tryz.params7] at hA hval
  obtain ⟨v0, vs0, d0, ds0, p0, q0, hargs, rfl, rfl, h0, r0⟩ := trodAll_cons hA
  obtain ⟨rfl, rfl, rfl⟩ := trodAll_nil r0
  obtain rfl : args = #[v0] := by cases args; simp_all
  obtain ⟨g, t, cs, fuel, d, pv, rfl, _⟩ := trodVars_one hV
  have k0 := h0
  have lt0 : ∀ x ∈ p0, x.block < W.heap.size := by obtain ⟨m, hm⟩ := k0; exact DataW.trod_lt m _ _ _ hm
  obtain ⟨cn0, no0, va0, L0, rfl, ha0, hxa0⟩ := ask_of_read (hval 0 41 v0 rfl rfl) h0
  clear hA0
  have hE := envR_of hL (by kernel_rfl) (by kernel_rfl) (by kernel_rfl) (by kernel_rfl) hsh
  refine (walk cn0 no0 va0 L0 W ha0 hxa0 hE).mono fun e W' ⟨he, bel⟩ => ?_
  subst he
  exact ⟨_, rfl, _, _, _, [], _, q, hW', trodAll_mk1 (shut_bool Tryz.underlying4 _), (trodAll_cons_mk (Below.trod laidOut (by kernel_rfl) (of_decide_eq_true (by kernel_rfl)) k0 bel lt0) trodAll_mk0), Below.trodVars laidOut bel (by kernel_rfl) hV, bel.frame _, fun h => by cases h⟩

set_option maxRecDepth 100000 in
theorem lifted (os : Os) (started : os.Started) (H : Type) (enc : TypeId × Value → H) (F : Stop.Interp) :
    ReturnsInHanded {} Tryz.checked os 7 .any ((OpenSpec.ofChange Rows.fnExactAskedTextSpec).preRow enc Tryz.prog Tryz.f7 Rows.fnExactAskedTextRow.domain false Rows.fnExactAskedTextRow.laid) (((OpenSpec.ofChange Rows.fnExactAskedTextSpec).at F).post enc Tryz.prog Tryz.f7 false true false false) := by
  refine returnsInHanded_of_row (C := Tryz.checked) (s := OpenSpec.ofChange Rows.fnExactAskedTextSpec) own started (by kernel_rfl) Tryz.func7
    (witness_laid (enc := enc) (C := Tryz.checked) false (World.laidAll Tryz.prog os Rows.fnExactAskedTextRow.laid) #[.agg #[.int .i64 0, .int .i64 0, .slice none 0 0]] (World.laidAll_os _ _ _) (World.shaped_of_ZipB (by kernel_rfl) (by kernel_rfl)) (by kernel_rfl)
      (pre_laid 8 (by kernel_rfl) (by kernel_rfl) (by rw [MakeChecks.laidMetH_plain _ _ _ (by kernel_rfl)]; exact laidMet_laidAll _ (by kernel_rfl) (by kernel_rfl)))) ?_
  intro W base args ds gs before hval hW _ _ _ hL hsh _
  exact contract H enc W base args ds gs before hval hW hL hsh

set_option maxRecDepth 100000 in
theorem said : Rows.FnExactAskedTextSaid :=
  OpenClaim.holds_of_cond 7 Tryz.f7 rfl rfl rfl rfl rfl rfl rfl ⟨rfl, rfl, rfl, rfl, rfl⟩ rfl rfl rfl rfl rfl (by kernel_rfl) Tryz.func7 closed
    (of_decide_eq_true (by kernel_rfl)) (by unfold Func.isWrapper; first | (rw [if_pos (by decide +kernel)]; kernel_rfl) | (rw [if_neg (by decide +kernel)]; exact ⟨rfl, rfl⟩))
    (fun os started H enc _ F => by rw [OpenClaim.pre_eq_preRow]; exact lifted os started H enc F)

set_option maxRecDepth 100000 in
theorem plain (f : FuncId) (fn : Func) (hf : Tryz.pinned.checked.prog.funcNamed "loop.example/g00300/laws.FnExactAskedText" = some f) (hfn : Tryz.pinned.checked.prog.funcs[f]? = some fn) :
    true = Tryz.pinned.checked.prog.looks [] ∧ ∀ (j : Nat) t, fn.params[j]? = some t → Tryz.pinned.checked.prog.wantsStandIn t = false := by
  obtain rfl : f = 7 := Option.some.inj ((show Tryz.prog.funcNamed "loop.example/g00300/laws.FnExactAskedText" = some 7 by kernel_rfl).symm.trans hf) |>.symm
  obtain rfl : fn = Tryz.f7 := (Option.some.inj (Tryz.func7.symm.trans hfn)).symm
  refine ⟨by kernel_rfl, fun j t ht => ?_⟩
  rw [Tryz.params7] at ht
  have hm : t ∈ [41] := by simpa using Array.mem_of_getElem? ht
  have hall : ([41].all fun u => !Tryz.prog.wantsStandIn u) = true := by kernel_rfl
  exact (show Tryz.prog.wantsStandIn t = false by simpa using List.all_eq_true.1 hall t hm)
end Go.Proofs.YtoobaaklklommaaGreatDoor.askedText

namespace Go.Proofs.YtoobaaklklommaaGreatDoor
set_option maxRecDepth 100000 in
theorem fnExactAskedText_card : Rows.FnExactAskedTextCardSaid :=
  Claim7.holds_tied_plain_at .later [] _ _ _ _ askedText.said (fun _ h => by cases h) (by kernel_rfl) (fun _ h => by cases h) fnExactAskedText_row_tie rfl ⟨rfl, rfl⟩ (by kernel_rfl) rfl askedText.plain (by kernel_rfl)
end Go.Proofs.YtoobaaklklommaaGreatDoor
