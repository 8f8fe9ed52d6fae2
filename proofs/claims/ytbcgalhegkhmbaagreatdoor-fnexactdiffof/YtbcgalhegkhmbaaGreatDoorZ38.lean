import Derived.Test.YtbcgalhegkhmbaaGreatDoorZ12
import Derived.Test.YtbcgalhegkhmbaaGreatDoorZ37
namespace Go.Proofs.YtbcgalhegkhmbaaGreatDoor
open Go.ChangeShapes Go.WideShapes Go.ChangeAt Go.RowKit Go.Deep

theorem cell_of_var {w : World} {n : String} {g : Nat} {tp : TypeId} {p : Value} (hg : Tryz.prog.globalNamed n = some g) (h : w.var? Tryz.prog n = some #[.iface tp p]) : w.cell? ⟨g, 0, none⟩ = some (.iface tp p) := by
  unfold World.var? at h
  rw [hg] at h
  simp only [Option.bind_some] at h
  unfold World.cell?
  cases hh : w.heap[g]? with
  | none => rw [hh] at h; simp at h
  | some o =>
    rw [hh] at h
    cases o with
    | cells cs t fr => simp at h; subst h; rfl
    | _ => simp at h
set_option maxRecDepth 100000 in
theorem envZ_of {W : World} {laid : List (String × DataW Unit)} (h : laidMetH Tryz.prog laid W)
    (h1 : laid.filter (fun x => x.1 == "loop.example/g00300/impl.byteRanges") = [("loop.example/g00300/impl.byteRanges", Rows.laid_loop_example_g00300_impl_byteRanges)])
    (h2 : laid.filter (fun x => x.1 == "internal/strconv.uint64pow10") = [("internal/strconv.uint64pow10", Rows.laid_internal_strconv_uint64pow10)])
    (h3 : laid.filter (fun x => x.1 == "strconv.ErrSyntax") = [("strconv.ErrSyntax", Rows.laid_strconv_ErrSyntax)])
    (h4 : laid.filter (fun x => x.1 == "strconv.ErrRange") = [("strconv.ErrRange", Rows.laid_strconv_ErrRange)])
    (h5 : laid.filter (fun x => x.1 == "loop.example/g00300/impl.errUnsaid") = [("loop.example/g00300/impl.errUnsaid", Rows.laid_loop_example_g00300_impl_errUnsaid)]) (hsh : W.ShapedOpen Tryz.prog) : EnvZ W := by
  refine ⟨envR_of h h1 h2 h3 h4 hsh, ?_⟩
  obtain ⟨tp, p, hv⟩ := err_of_laid (g := 0) h h5 (fun x => by rwa [MakeChecks.laidMetH_plain _ _ _ (by kernel_rfl)] at x) (by kernel_rfl) (by kernel_rfl)
  exact ⟨tp, p, cell_of_var (by kernel_rfl) hv⟩
end Go.Proofs.YtbcgalhegkhmbaaGreatDoor
