import Derived.Test.YtobjmmiebmfobaaGreatDoorZ12
import Derived.Test.YtobjmmiebmfobaaGreatDoorZ38
import Derived.Test.YtobjmmiebmfobaaGreatDoorZ41
import Derived.LaidHandle
import Derived.LaidSub
import Derived.Lay
namespace Go.Proofs.YtobjmmiebmfobaaGreatDoor
open Go.ChangeShapes Go.WideShapes Go.ChangeAt Go.RowKit Go.Deep

theorem star_err : "*" ++ "errors.errorString" = "*errors.errorString" := by decide
set_option maxRecDepth 100000 in
theorem errT_row (u : TypeId) (h : Tryz.prog.typeName? 3 u = some "*errors.errorString") : u = 171 :=
  typeName_ptr_named (nm := "errors.errorString") (by rw [star_err]; kernel_rfl) (by kernel_rfl) (by decide) u (by rw [star_err]; exact h)
set_option maxRecDepth 100000 in
theorem errT_of {W : World} {laid : List (String × DataW Unit)} {d : DataW Unit} (h : laidMetH Tryz.prog laid W)
    (hf : laid.filter (fun x => x.1 == "loop.example/g00300/impl.errUnsaid") = [("loop.example/g00300/impl.errUnsaid", .iface "*errors.errorString" d)])
    (hp : laidMetH Tryz.prog [("loop.example/g00300/impl.errUnsaid", DataW.iface "*errors.errorString" d)] W → laidMet Tryz.prog [("loop.example/g00300/impl.errUnsaid", DataW.iface "*errors.errorString" d)] W) : ErrT W := by
  have h := laidMetH.filter (fun x => x.1 == "loop.example/g00300/impl.errUnsaid") h
  rw [hf] at h
  obtain ⟨ps, ⟨g', t, cs, fuel, p, q, hg, ht, hv, hd, _, _⟩, _, _⟩ := hp h
  obtain rfl := Option.some.inj ((show Tryz.prog.globalNamed "loop.example/g00300/impl.errUnsaid" = some 0 by kernel_rfl).symm.trans hg)
  obtain rfl := Option.some.inj ((show (Tryz.prog.globals[0]?).map (·.type) = some 37 by kernel_rfl).symm.trans ht)
  obtain ⟨_, u, v, hcs, hn, _⟩ := iface_of_trod Tryz.underlying37 hd
  obtain rfl := errT_row u hn
  refine ⟨v, cell_of_var (n := "loop.example/g00300/impl.errUnsaid") (by kernel_rfl) ?_⟩
  rw [hv]
  congr 1
  exact Array.toList_inj.1 hcs
theorem et_one : ((List.range 217).filter fun t => Tryz.prog.rowNamed t [101, 114, 114, 111, 114]) = [37] := by kernel_rfl
theorem et_size : Tryz.prog.types.size = 217 := by kernel_rfl
theorem et_rt : (Tryz.prog.cutTypes.find? (·.1 == "internal/reflectlite.rtype")).map (·.2) = some 77 := by kernel_rfl
set_option maxRecDepth 100000 in
/-- What the listed handle gives a walk: the variable's one cell. -/
theorem et_of {W : World} {laid : List (String × DataW Unit)} (h : laidMetH Tryz.prog laid W)
    (hf : laid.filter (fun x => x.1 == "errors.errorType") = [("errors.errorType", Rows.laid_errors_errorType)]) : EtIn W := by
  have h := laidMetH.filter (fun x => x.1 == "errors.errorType") h
  rw [hf] at h
  have h' : laidMet Tryz.prog [] W ∧ handlesMet Tryz.prog [("errors.errorType", Rows.laid_errors_errorType)] W := h
  obtain ⟨name, u, ty, e1, e2, e3, e4, e5⟩ := h'.2 _ (List.mem_singleton.2 rfl)
  have en : name = [101, 114, 114, 111, 114] := (Option.some.inj e1).symm
  subst en
  obtain rfl := Option.some.inj (et_rt.symm.trans e2)
  have hm : ty ∈ (List.range 217).filter fun t => Tryz.prog.rowNamed t [101, 114, 114, 111, 114] := List.mem_filter.2 ⟨List.mem_range.2 (by rw [← et_size]; exact e3), e4⟩
  rw [et_one] at hm
  obtain rfl := List.mem_singleton.1 hm
  have hh : typeHandle Tryz.prog 37 = .pointer (some ⟨12, 37, none⟩) := by kernel_rfl
  rw [hh] at e5
  exact cell_of_var (n := "errors.errorType") (by kernel_rfl) e5
set_option maxRecDepth 100000 in
theorem envA_of {W : World} {laid : List (String × DataW Unit)} (h : laidMetH Tryz.prog laid W)
    (h1 : laid.filter (fun x => x.1 == "loop.example/g00300/impl.byteRanges") = [("loop.example/g00300/impl.byteRanges", Rows.laid_loop_example_g00300_impl_byteRanges)])
    (h2 : laid.filter (fun x => x.1 == "internal/strconv.uint64pow10") = [("internal/strconv.uint64pow10", Rows.laid_internal_strconv_uint64pow10)])
    (h3 : laid.filter (fun x => x.1 == "strconv.ErrSyntax") = [("strconv.ErrSyntax", Rows.laid_strconv_ErrSyntax)])
    (h4 : laid.filter (fun x => x.1 == "strconv.ErrRange") = [("strconv.ErrRange", Rows.laid_strconv_ErrRange)])
    (h5 : laid.filter (fun x => x.1 == "loop.example/g00300/impl.errUnsaid") = [("loop.example/g00300/impl.errUnsaid", Rows.laid_loop_example_g00300_impl_errUnsaid)])
    (h6 : laid.filter (fun x => x.1 == "errors.errorType") = [("errors.errorType", Rows.laid_errors_errorType)]) (hsh : W.ShapedOpen Tryz.prog) : EnvA W :=
  ⟨envR_of h h1 h2 h3 h4 hsh, errT_of h h5 (fun x => by rwa [MakeChecks.laidMetH_plain _ _ _ (by kernel_rfl)] at x), et_of h h6⟩

/-- A start that lays what is listed: the handle by hand, the rest by the kit's function. -/
noncomputable def baseA (os : Os) : World :=
  let w0 := World.holding Tryz.prog os ⟨#[], #[], []⟩
  { w0 with heap := w0.heap.modify 1 fun
      | .cells _ t frozen => .cells #[(.iface 77 (.agg #[.pointer (some ⟨12, 37, none⟩)]))] t frozen
      | o => o }
noncomputable def laidA (os : Os) (laid : List (String × DataW Unit)) : World := (baseA os).layVars Tryz.prog (laid.filter fun x => x.2.handleName?.isNone)
theorem laidA_os (os : Os) (laid : List (String × DataW Unit)) : (laidA os laid).os = os := World.layVars_os _ _ _
theorem laidMet_base {P : Program} {w0 : World} {laid : List (String × DataW Unit)} (args : Array Value) (hf : w0.layFits P laid [] = true) (hi : w0.layIfaces P laid (w0.layVars P laid) = true) :
    laidMet P laid ((w0.layVars P laid).forCall (fun _ _ => 0) ⟨#[], args, []⟩).memory := by
  have e1 : (laid.filter fun x => (laid.map (·.1)).contains x.1) = laid := List.filter_eq_self.2 fun x hx => List.contains_iff_mem.2 (List.mem_map.2 ⟨x, hx, rfl⟩)
  have e2 : (laid.filter fun x => !(laid.map (·.1)).contains x.1) = [] := List.filter_eq_nil_iff.2 fun x hx => by rw [List.contains_iff_mem.2 (List.mem_map.2 ⟨x, hx, rfl⟩)]; simp
  have h : laidMet P laid (w0.layVars P laid) := laidMet_layVars (w0 := w0) (laid.map (·.1)) [] (by rw [e1]) (by rw [e1]; exact hf) (by rw [e1]; exact hi) (by rw [e2]; exact LaidIn.none)
  exact h.of_heap (by simp [World.memory, World.forCall, Input.heap])
end Go.Proofs.YtobjmmiebmfobaaGreatDoor
