import Derived.Test.YtoobaaklklommaaGreatDoorZ04
import Derived.Test.YtoobaaklklommaaGreatDoorRows
import Derived.ProofKit
import Derived.OpenShut
import Derived.LaidSub
import Derived.Deep.Strs
namespace Go.Proofs.YtoobaaklklommaaGreatDoor
open Go.ChangeShapes Go.WideShapes Go.ChangeAt Go.RowKit Go.Deep

theorem gTab : Tryz.prog.globalNamed "loop.example/g00300/impl.byteRanges" = some 12 := by kernel_rfl
theorem gTabType : (Tryz.prog.globals[12]?).map (·.type) = some 309 := by kernel_rfl
theorem cellsE : Tryz.prog.cellsOf 308 = 3 := by kernel_rfl
theorem cellsB : Tryz.prog.cellsOf 5 = 1 := by kernel_rfl
theorem cellsI : Tryz.prog.cellsOf 3 = 1 := by kernel_rfl

/-- One row of the table. -/
theorem tab_elem {W : World} {base : Nat} {sp : Nat → Bool} {held : Bool} {fuel : Nat} {c : List Value} {x : DataW Unit × List MemPlace} {a b k : Int}
    (h : DataW.trod (fun _ => ()) Tryz.prog W base sp held fuel 308 c = some x) (hx : x.1 = .agg [.lit (.int .u8 a), .lit (.int .u8 b), .lit (.int .i64 k)]) :
    c = [.int .u8 a, .int .u8 b, .int .i64 k] := by
  obtain ⟨y0, y1, y2, n, rfl, hl, h0, h1, h2⟩ := trod_struct3 Tryz.underlying308 h
  simp only [cellsB, cellsI] at h0 h1 h2
  obtain ⟨n0, e0, rfl, _⟩ := DataW.trod_int Tryz.underlying5 h0
  obtain ⟨n1, e1, rfl, _⟩ := DataW.trod_int Tryz.underlying5 h1
  obtain ⟨n2, e2, rfl, _⟩ := DataW.trod_int Tryz.underlying3 h2
  rw [cellsE] at hl
  simp only [DataW.agg.injEq, List.cons.injEq, DataW.lit.injEq, Lit.int.injEq, true_and, and_true] at hx
  obtain ⟨rfl, rfl, rfl⟩ := hx
  match c, hl with
  | [c0, c1, c2], _ =>
    simp at e0 e1 e2
    rw [e0, e1, e2]

theorem at_chunk {cs : List Value} {q r : Nat} {a b c : Value} (h : (cs.drop (q * 3)).take 3 = [a, b, c]) (hr : r < 3) : cs[q * 3 + r]? = [a, b, c][r]? := by
  rw [← h, List.getElem?_take_of_lt hr, List.getElem?_drop]

/-- What the row's list gives. -/
theorem tab_of_laid {W : World} {laid : List (String × DataW Unit)} (h : laidMetH Tryz.prog laid W)
    (hf : laid.filter (fun x => x.1 == "loop.example/g00300/impl.byteRanges") = [("loop.example/g00300/impl.byteRanges", Rows.laid_loop_example_g00300_impl_byteRanges)]) : TabIn W := by
  have h := laidMetH.filter (fun x => x.1 == "loop.example/g00300/impl.byteRanges") h
  rw [hf, MakeChecks.laidMetH_plain _ _ _ (by kernel_rfl)] at h
  obtain ⟨ps, ⟨g, t, cs, fuel, p, q, hg, ht, hv, hd, _, _⟩, _, _⟩ := h
  obtain rfl := Option.some.inj (gTab.symm.trans hg)
  obtain rfl := Option.some.inj (gTabType.symm.trans ht)
  obtain ⟨xs, m, _, ex, hlen, hn, hel⟩ := DataW.trod_array Tryz.underlying309 hd
  rw [cellsE] at hel
  have ex1 := (Prod.mk.inj ex).1
  unfold Rows.laid_loop_example_g00300_impl_byteRanges at ex1
  match xs, hn, ex1, hel with
  | [x0, x1, x2, x3, x4], _, ex1, hel =>
    simp only [List.map_cons, List.map_nil, DataW.agg.injEq, List.cons.injEq, and_true] at ex1
    obtain ⟨d0, d1, d2, d3, d4⟩ := ex1
    have c0 := tab_elem (hel 0 (by decide)) d0.symm
    have c1 := tab_elem (hel 1 (by decide)) d1.symm
    have c2 := tab_elem (hel 2 (by decide)) d2.symm
    have c3 := tab_elem (hel 3 (by decide)) d3.symm
    have c4 := tab_elem (hel 4 (by decide)) d4.symm
    intro i hi
    rw [World.var?_cell hg hv i]
    have hi5 : i / 3 < 5 := by omega
    have hr3 : i % 3 < 3 := by omega
    obtain ⟨a, r, rfl, hr⟩ : ∃ a r, i = a * 3 + r ∧ r < 3 := ⟨i / 3, i % 3, by omega, by omega⟩
    have ha : a < 5 := by omega
    rw [← Array.getElem?_toList]
    match a, ha, r, hr with
    | 0, _, r, hr => rw [at_chunk c0 hr]; match r, hr with | 0, _ => rfl | 1, _ => rfl | 2, _ => rfl
    | 1, _, r, hr => rw [at_chunk c1 hr]; match r, hr with | 0, _ => rfl | 1, _ => rfl | 2, _ => rfl
    | 2, _, r, hr => rw [at_chunk c2 hr]; match r, hr with | 0, _ => rfl | 1, _ => rfl | 2, _ => rfl
    | 3, _, r, hr => rw [at_chunk c3 hr]; match r, hr with | 0, _ => rfl | 1, _ => rfl | 2, _ => rfl
    | 4, _, r, hr => rw [at_chunk c4 hr]; match r, hr with | 0, _ => rfl | 1, _ => rfl | 2, _ => rfl

theorem env_of {W : World} {laid : List (String × DataW Unit)} (h : laidMetH Tryz.prog laid W)
    (hf : laid.filter (fun x => x.1 == "loop.example/g00300/impl.byteRanges") = [("loop.example/g00300/impl.byteRanges", Rows.laid_loop_example_g00300_impl_byteRanges)]) (hsh : W.ShapedOpen Tryz.prog) : Env W :=
  ⟨tab_of_laid h hf, Tryz.laysM146.s1_3 W hsh⟩
end Go.Proofs.YtoobaaklklommaaGreatDoor
