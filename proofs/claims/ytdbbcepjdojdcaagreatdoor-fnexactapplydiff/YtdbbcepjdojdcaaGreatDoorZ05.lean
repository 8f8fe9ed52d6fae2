import Derived.Test.YtdbbcepjdojdcaaGreatDoorZ04
import Derived.Test.YtdbbcepjdojdcaaGreatDoorRows
import Derived.ProofKit
import Derived.OpenShut
import Derived.LaidSub
import Derived.Deep.Strs
import Derived.Deep.DeepHandedRow
import Derived.OpenVars
import Derived.ShutString
import Derived.Lay
import Derived.LaidMore
import Derived.SevenTiedAt
import Derived.Test.YtdbbcepjdojdcaaGreatDoorZ09
import Derived.LaidLaws
import Derived.Lib.SmallJoins
import Derived.Test.YtdbbcepjdojdcaaGreatDoorZ29
import Derived.Test.YtdbbcepjdojdcaaGreatDoorCards
namespace Go.Proofs.YtdbbcepjdojdcaaGreatDoor
open Go.ChangeShapes Go.WideShapes Go.ChangeAt Go.RowKit Go.Deep

theorem gTab : Tryz.prog.globalNamed "loop.example/g00300/impl.byteRanges" = some 2 := by kernel_rfl
theorem gTabType : (Tryz.prog.globals[2]?).map (·.type) = some 199 := by kernel_rfl
theorem cellsE : Tryz.prog.cellsOf 198 = 3 := by kernel_rfl
theorem cellsB : Tryz.prog.cellsOf 5 = 1 := by kernel_rfl
theorem cellsI : Tryz.prog.cellsOf 3 = 1 := by kernel_rfl

/-- One row of the table. -/
theorem tab_elem {W : World} {base : Nat} {sp : Nat → Bool} {held : Bool} {fuel : Nat} {c : List Value} {x : DataW Unit × List MemPlace} {a b k : Int}
    (h : DataW.trod (fun _ => ()) Tryz.prog W base sp held fuel 198 c = some x) (hx : x.1 = .agg [.lit (.int .u8 a), .lit (.int .u8 b), .lit (.int .i64 k)]) :
    c = [.int .u8 a, .int .u8 b, .int .i64 k] := by
  obtain ⟨y0, y1, y2, n, rfl, hl, h0, h1, h2⟩ := trod_struct3 Tryz.underlying198 h
  simp only [cellsB, cellsI] at h0 h1 h2
  obtain ⟨n0, e0, rfl, _⟩ := DataW.trod_int Tryz.underlying5 h0
  obtain ⟨n1, e1, rfl, _⟩ := DataW.trod_int Tryz.underlying5 h1
  obtain ⟨n2, e2, rfl, _⟩ := DataW.trod_int Tryz.underlying3 h2
  rw [cellsE] at hl
  simp only [DataW.agg.injEq, List.cons.injEq, DataW.lit.injEq, Lit.int.injEq, true_and, and_true] at hx
  obtain ⟨rfl, rfl, rfl⟩ := hx
  match c, hl with
  | [c0, c1, c2], _ =>
    simp at e0 e1 e2
    rw [e0, e1, e2]

theorem at_chunk {cs : List Value} {q r : Nat} {a b c : Value} (h : (cs.drop (q * 3)).take 3 = [a, b, c]) (hr : r < 3) : cs[q * 3 + r]? = [a, b, c][r]? := by
  rw [← h, List.getElem?_take_of_lt hr, List.getElem?_drop]

/-- What the row's list gives. -/
theorem tab_of_laid {W : World} {laid : List (String × DataW Unit)} (h : laidMetH Tryz.prog laid W)
    (hf : laid.filter (fun x => x.1 == "loop.example/g00300/impl.byteRanges") = [("loop.example/g00300/impl.byteRanges", Rows.laid_loop_example_g00300_impl_byteRanges)]) : TabIn W := by
  have h := laidMetH.filter (fun x => x.1 == "loop.example/g00300/impl.byteRanges") h
  rw [hf, MakeChecks.laidMetH_plain _ _ _ (by kernel_rfl)] at h
  obtain ⟨ps, ⟨g, t, cs, fuel, p, q, hg, ht, hv, hd, _, _⟩, _, _⟩ := h
  obtain rfl := Option.some.inj (gTab.symm.trans hg)
  obtain rfl := Option.some.inj (gTabType.symm.trans ht)
  obtain ⟨xs, m, _, ex, hlen, hn, hel⟩ := DataW.trod_array Tryz.underlying199 hd
  rw [cellsE] at hel
  have ex1 := (Prod.mk.inj ex).1
  unfold Rows.laid_loop_example_g00300_impl_byteRanges at ex1
  match xs, hn, ex1, hel with
  | [x0, x1, x2, x3, x4], _, ex1, hel =>
    simp only [List.map_cons, List.map_nil, DataW.agg.injEq, List.cons.injEq, and_true] at ex1
    obtain ⟨d0, d1, d2, d3, d4⟩ := ex1
    have c0 := tab_elem (hel 0 (by decide)) d0.symm
    have c1 := tab_elem (hel 1 (by decide)) d1.symm
    have c2 := tab_elem (hel 2 (by decide)) d2.symm
    have c3 := tab_elem (hel 3 (by decide)) d3.symm
    have c4 := tab_elem (hel 4 (by decide)) d4.symm
    intro i hi
    rw [World.var?_cell hg hv i]
    have hi5 : i / 3 < 5 := by omega
    have hr3 : i % 3 < 3 := by omega
    obtain ⟨a, r, rfl, hr⟩ : ∃ a r, i = a * 3 + r ∧ r < 3 := ⟨i / 3, i % 3, by omega, by omega⟩
    have ha : a < 5 := by omega
    rw [← Array.getElem?_toList]
    match a, ha, r, hr with
    | 0, _, r, hr => rw [at_chunk c0 hr]; match r, hr with | 0, _ => rfl | 1, _ => rfl | 2, _ => rfl
    | 1, _, r, hr => rw [at_chunk c1 hr]; match r, hr with | 0, _ => rfl | 1, _ => rfl | 2, _ => rfl
    | 2, _, r, hr => rw [at_chunk c2 hr]; match r, hr with | 0, _ => rfl | 1, _ => rfl | 2, _ => rfl
    | 3, _, r, hr => rw [at_chunk c3 hr]; match r, hr with | 0, _ => rfl | 1, _ => rfl | 2, _ => rfl
    | 4, _, r, hr => rw [at_chunk c4 hr]; match r, hr with | 0, _ => rfl | 1, _ => rfl | 2, _ => rfl

theorem env_of {W : World} {laid : List (String × DataW Unit)} (h : laidMetH Tryz.prog laid W)
    (hf : laid.filter (fun x => x.1 == "loop.example/g00300/impl.byteRanges") = [("loop.example/g00300/impl.byteRanges", Rows.laid_loop_example_g00300_impl_byteRanges)]) (hsh : W.ShapedOpen Tryz.prog) : Env W :=
  ⟨tab_of_laid h hf, Tryz.laysM146.s1_3 W hsh⟩
end Go.Proofs.YtdbbcepjdojdcaaGreatDoor

namespace Go.Proofs.YtdbbcepjdojdcaaGreatDoor
open Go.ChangeShapes Go.WideShapes Go.ChangeAt Go.RowKit

theorem own : ownKnob Tryz.prog.godebug = none := by kernel_rfl
theorem laidOut : laidOutB Tryz.prog = true := by kernel_rfl

/-- There is an input that fits: at a world in which the listed variables are laid. -/
theorem witness_laid {H : Type} {enc : TypeId × Value → H} {C : Checked} {os : Os} {f : FuncId} {fn : Func} {s : OpenSpec} {conds : List PathCond} {apart : Bool} {laid : List (String × DataW Unit)} (modest : Bool) (w0 : World) (args : Array Value) (hos : w0.os = os)
    (hsh : (w0.forCall (fun _ _ => 0) ⟨#[], args, []⟩).Shaped C.prog)
    (hok : Input.okWideB C.prog (w0.forCall (fun _ _ => 0) ⟨#[], args, []⟩) f ⟨#[], args, []⟩ = true)
    (hrow : s.preRow enc C.prog fn conds apart laid (w0.forCall (fun _ _ => 0) ⟨#[], args, []⟩).memory args) :
    ∃ (w : World) (tape : Tape) (i : Input), w.os = os ∧ (w.forCall tape i).Shaped C.prog ∧ i.vars = [] ∧ Input.okWide C.prog (w.forCall tape i) .any w.heap.size f i ∧
      s.preRow enc C.prog fn conds apart laid (w.forCall tape i).memory i.args ∧ ({ modest := modest } : Assume).holds C.prog (lone (Frame.enter C.prog f i.args .normal) [] (w.forCall tape i)) :=
  ⟨w0, fun _ _ => 0, ⟨#[], args, []⟩, hos, hsh, (Input.okWide_of_okWideB (base := 0) hok).1, (Input.okWide_of_okWideB hok).2, hrow, by
    simp only [Assume.holds]
    exact ⟨by simp, by simp, fun _ => Modest.zero, by simp, by simp⟩⟩

/-- What is read at the witness, with no condition asked of it. -/
theorem pre_laid {H : Type} {enc : TypeId × Value → H} {P : Program} {f : Func} {s : ChangeSpec} {laid : List (String × DataW Unit)} {w : World} {args : Array Value} (fuel : Nat)
    (hx : (DataW.whole enc P w f.params.toList (OpenSpec.ofChange s).vars false args.toList fuel).isSome = true)
    (hsz : (OpenSpec.ofChange s).bare.sizedB enc P f false w args fuel = true) (hl : laidMetH P laid w) : (OpenSpec.ofChange s).preRow enc P f [] false laid w args := by
  obtain ⟨x, hx⟩ := Option.isSome_iff_exists.1 hx
  exact OpenSpec.preRow_of_cond fuel hx rfl (fun k hk => by cases hk) hsz hl
theorem int_wf {n : Int} (h : (Lit.int .i64 n).wf = true) : -9223372036854775808 ≤ n ∧ n ≤ 9223372036854775807 := by
  simp only [Lit.wf, IntKind.min, IntKind.max, IntKind.signed, IntKind.bits, Bool.and_eq_true, decide_eq_true_eq, if_true] at h
  omega
end Go.Proofs.YtdbbcepjdojdcaaGreatDoor

namespace Go.Proofs.YtdbbcepjdojdcaaGreatDoor
open Go.ChangeShapes Go.WideShapes Go.ChangeAt Go.RowKit Go.Deep

set_option maxRecDepth 100000 in
theorem pow_of_laid {W : World} {laid : List (String × DataW Unit)} (h : laidMetH Tryz.prog laid W)
    (hf : laid.filter (fun x => x.1 == "internal/strconv.uint64pow10") = [("internal/strconv.uint64pow10", Rows.laid_internal_strconv_uint64pow10)]) : Lib.TabIs Tryz.prog W "internal/strconv.uint64pow10" .u64 Lib.pow10Tab := by
  have h := laidMetH.filter (fun x => x.1 == "internal/strconv.uint64pow10") h
  rw [hf, MakeChecks.laidMetH_plain _ _ _ (by kernel_rfl)] at h
  have e : (Rows.laid_internal_strconv_uint64pow10 : DataW Unit) = Lib.tabData .u64 Lib.pow10Tab := by kernel_rfl
  rw [e] at h
  exact Lib.tabIs_of_head (g := 3) (by kernel_rfl) (by kernel_rfl) Tryz.underlying201 Tryz.underlying142 (by kernel_rfl) (by kernel_rfl) h
set_option maxRecDepth 100000 in
theorem envT_of {W : World} {laid : List (String × DataW Unit)} (h : laidMetH Tryz.prog laid W)
    (h1 : laid.filter (fun x => x.1 == "loop.example/g00300/impl.byteRanges") = [("loop.example/g00300/impl.byteRanges", Rows.laid_loop_example_g00300_impl_byteRanges)])
    (h2 : laid.filter (fun x => x.1 == "internal/strconv.uint64pow10") = [("internal/strconv.uint64pow10", Rows.laid_internal_strconv_uint64pow10)]) (hsh : W.ShapedOpen Tryz.prog) : EnvT W :=
  ⟨env_of h h1 hsh, pow_of_laid h h2⟩
end Go.Proofs.YtdbbcepjdojdcaaGreatDoor

namespace Go.Proofs.YtdbbcepjdojdcaaGreatDoor
open Go.ChangeShapes Go.WideShapes Go.ChangeAt Go.RowKit Go.Deep

set_option maxRecDepth 100000 in
theorem err_of_laid {W : World} {laid : List (String × DataW Unit)} {name nm : String} {d : DataW Unit} {g : Nat} (h : laidMetH Tryz.prog laid W)
    (hf : laid.filter (fun x => x.1 == name) = [(name, .iface nm d)]) (hp : laidMetH Tryz.prog [(name, DataW.iface nm d)] W → laidMet Tryz.prog [(name, DataW.iface nm d)] W)
    (hgt : Tryz.prog.globalNamed name = some g) (htt : (Tryz.prog.globals[g]?).map (·.type) = some 89) : VarIn W name := by
  have h := laidMetH.filter (fun x => x.1 == name) h
  rw [hf] at h
  obtain ⟨ps, ⟨g', t, cs, fuel, p, q, hg, ht, hv, hd, _, _⟩, _, _⟩ := hp h
  obtain rfl := Option.some.inj (hgt.symm.trans hg)
  obtain rfl := Option.some.inj (htt.symm.trans ht)
  obtain ⟨_, u, v, hcs, _, _⟩ := iface_of_trod Tryz.underlying89 hd
  refine ⟨u, v, ?_⟩
  rw [hv]
  congr 1
  exact Array.toList_inj.1 hcs
set_option maxRecDepth 100000 in
theorem envR_of {W : World} {laid : List (String × DataW Unit)} (h : laidMetH Tryz.prog laid W)
    (h1 : laid.filter (fun x => x.1 == "loop.example/g00300/impl.byteRanges") = [("loop.example/g00300/impl.byteRanges", Rows.laid_loop_example_g00300_impl_byteRanges)])
    (h2 : laid.filter (fun x => x.1 == "internal/strconv.uint64pow10") = [("internal/strconv.uint64pow10", Rows.laid_internal_strconv_uint64pow10)])
    (h3 : laid.filter (fun x => x.1 == "strconv.ErrSyntax") = [("strconv.ErrSyntax", Rows.laid_strconv_ErrSyntax)])
    (h4 : laid.filter (fun x => x.1 == "strconv.ErrRange") = [("strconv.ErrRange", Rows.laid_strconv_ErrRange)]) (hsh : W.ShapedOpen Tryz.prog) : EnvR W :=
  ⟨env_of h h1 hsh, pow_of_laid h h2,
   err_of_laid (g := 8) h h3 (fun x => by rwa [MakeChecks.laidMetH_plain _ _ _ (by kernel_rfl)] at x) (by kernel_rfl) (by kernel_rfl),
   err_of_laid (g := 9) h h4 (fun x => by rwa [MakeChecks.laidMetH_plain _ _ _ (by kernel_rfl)] at x) (by kernel_rfl) (by kernel_rfl)⟩

set_option maxRecDepth 100000 in
/-- A record that came in. -/
theorem rec_of_read {H : Type} {enc : TypeId × Value → H} {W : World} {v : Value} {d : DataW H} {p : List MemPlace} {sp : Nat → Bool} {base b0 : Nat} {held : Bool} {r : Reach}
    (hv : Value.okWide Tryz.prog W r b0 80 v) (h : DataW.Trod enc Tryz.prog W base sp held 80 v d p) :
    ∃ (nm : ByteArray) (ty ttl : Int) (dd : ByteArray), v = RecV nm ty ttl dd ∧ p = [] ∧ nm.size ≤ maxLen ∧ dd.size ≤ maxLen ∧ (-9223372036854775808 ≤ ty ∧ ty ≤ 9223372036854775807) ∧ (-9223372036854775808 ≤ ttl ∧ ttl ≤ 9223372036854775807) := by
  obtain ⟨v0, v1, v2, v3, y0, y1, y2, y3, n, rfl, rfl, rfl, t0, t1, t2, t3⟩ := Go.Joins.open_agg4 Tryz.underlying80 (by kernel_rfl) (by kernel_rfl) hv h
  obtain ⟨s0, e0, rfl, hs0⟩ := DataW.trod_string Tryz.underlying9 t0
  obtain ⟨n1, e1, rfl, hn1⟩ := DataW.trod_int Tryz.underlying3 t1
  obtain ⟨n2, e2, rfl, hn2⟩ := DataW.trod_int Tryz.underlying3 t2
  obtain ⟨s3, e3, rfl, hs3⟩ := DataW.trod_string Tryz.underlying9 t3
  simp only [List.cons.injEq, and_true] at e0 e1 e2 e3
  subst e0 e1 e2 e3
  exact ⟨s0, n1, n2, s3, rfl, rfl, hs0, hs3, int_wf hn1, int_wf hn2⟩
end Go.Proofs.YtdbbcepjdojdcaaGreatDoor

namespace Go.Proofs.YtdbbcepjdojdcaaGreatDoor
open Go.ChangeShapes Go.WideShapes Go.ChangeAt Go.RowKit Go.Deep

theorem cell_of_var {w : World} {n : String} {g : Nat} {tp : TypeId} {p : Value} (hg : Tryz.prog.globalNamed n = some g) (h : w.var? Tryz.prog n = some #[.iface tp p]) : w.cell? ⟨g, 0, none⟩ = some (.iface tp p) := by
  unfold World.var? at h
  rw [hg] at h
  simp only [Option.bind_some] at h
  unfold World.cell?
  cases hh : w.heap[g]? with
  | none => rw [hh] at h; simp at h
  | some o =>
    rw [hh] at h
    cases o with
    | cells cs t fr => simp at h; subst h; rfl
    | _ => simp at h
set_option maxRecDepth 100000 in
theorem envZ_of {W : World} {laid : List (String × DataW Unit)} (h : laidMetH Tryz.prog laid W)
    (h1 : laid.filter (fun x => x.1 == "loop.example/g00300/impl.byteRanges") = [("loop.example/g00300/impl.byteRanges", Rows.laid_loop_example_g00300_impl_byteRanges)])
    (h2 : laid.filter (fun x => x.1 == "internal/strconv.uint64pow10") = [("internal/strconv.uint64pow10", Rows.laid_internal_strconv_uint64pow10)])
    (h3 : laid.filter (fun x => x.1 == "strconv.ErrSyntax") = [("strconv.ErrSyntax", Rows.laid_strconv_ErrSyntax)])
    (h4 : laid.filter (fun x => x.1 == "strconv.ErrRange") = [("strconv.ErrRange", Rows.laid_strconv_ErrRange)])
    (h5 : laid.filter (fun x => x.1 == "loop.example/g00300/impl.errUnsaid") = [("loop.example/g00300/impl.errUnsaid", Rows.laid_loop_example_g00300_impl_errUnsaid)]) (hsh : W.ShapedOpen Tryz.prog) : EnvZ W := by
  refine ⟨envR_of h h1 h2 h3 h4 hsh, ?_⟩
  obtain ⟨tp, p, hv⟩ := err_of_laid (g := 0) h h5 (fun x => by rwa [MakeChecks.laidMetH_plain _ _ _ (by kernel_rfl)] at x) (by kernel_rfl) (by kernel_rfl)
  exact ⟨tp, p, cell_of_var (by kernel_rfl) hv⟩
end Go.Proofs.YtdbbcepjdojdcaaGreatDoor

namespace Go.Proofs.YtdbbcepjdojdcaaGreatDoor.applyDiff
open Go.ChangeShapes Go.WideShapes Go.ChangeAt Go.RowKit Go.Deep

set_option maxRecDepth 100000 in
/-- What the row asks of the program's text alone. -/
theorem closed : joinedFacts Tryz.pinned.checked.prog 3 Tryz.f3 (OpenSpec.ofChange Rows.fnExactApplyDiffSpec).bare Rows.fnExactApplyDiffRow = true := by kernel_rfl
end Go.Proofs.YtdbbcepjdojdcaaGreatDoor.applyDiff
