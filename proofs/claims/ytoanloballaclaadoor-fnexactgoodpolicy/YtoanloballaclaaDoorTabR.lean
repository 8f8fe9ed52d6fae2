import Derived.Test.YtoanloballaclaaDoorTab
import Derived.Test.YtoanloballaclaaDoorRNum
import Derived.Test.YtoanloballaclaaDoorSGood
import Derived.Test.YtoanloballaclaaDoorLift
import Derived.Test.YtoanloballaclaaDoorTabT
import Derived.LaidLaws
import Derived.Lib.SmallJoins
namespace Go.Proofs.YtoanloballaclaaDoor
open Go.ChangeShapes Go.WideShapes Go.ChangeAt Go.RowKit Go.Deep

set_option maxRecDepth 100000 in
theorem err_of_laid {W : World} {laid : List (String × DataW Unit)} {name nm : String} {d : DataW Unit} {g : Nat} (h : laidMetH Tryd.prog laid W)
    (hf : laid.filter (fun x => x.1 == name) = [(name, .iface nm d)]) (hp : laidMetH Tryd.prog [(name, DataW.iface nm d)] W → laidMet Tryd.prog [(name, DataW.iface nm d)] W)
    (hgt : Tryd.prog.globalNamed name = some g) (htt : (Tryd.prog.globals[g]?).map (·.type) = some 77) : VarIn W name := by
  have h := laidMetH.filter (fun x => x.1 == name) h
  rw [hf] at h
  obtain ⟨ps, ⟨g', t, cs, fuel, p, q, hg, ht, hv, hd, _, _⟩, _, _⟩ := hp h
  obtain rfl := Option.some.inj (hgt.symm.trans hg)
  obtain rfl := Option.some.inj (htt.symm.trans ht)
  obtain ⟨_, u, v, hcs, _, _⟩ := iface_of_trod Tryd.underlying77 hd
  refine ⟨u, v, ?_⟩
  rw [hv]
  congr 1
  exact Array.toList_inj.1 hcs
set_option maxRecDepth 100000 in
theorem envR_of {W : World} {laid : List (String × DataW Unit)} (h : laidMetH Tryd.prog laid W)
    (h1 : laid.filter (fun x => x.1 == "loop.example/g00300/impl.byteRanges") = [("loop.example/g00300/impl.byteRanges", Rows.laid_loop_example_g00300_impl_byteRanges)])
    (h2 : laid.filter (fun x => x.1 == "internal/strconv.uint64pow10") = [("internal/strconv.uint64pow10", Rows.laid_internal_strconv_uint64pow10)])
    (h3 : laid.filter (fun x => x.1 == "strconv.ErrSyntax") = [("strconv.ErrSyntax", Rows.laid_strconv_ErrSyntax)])
    (h4 : laid.filter (fun x => x.1 == "strconv.ErrRange") = [("strconv.ErrRange", Rows.laid_strconv_ErrRange)]) (hsh : W.ShapedOpen Tryd.prog) : EnvR W :=
  ⟨env_of h h1 hsh, pow_of_laid h h2,
   err_of_laid (g := 2) h h3 (fun x => by rwa [MakeChecks.laidMetH_plain _ _ _ (by kernel_rfl)] at x) (by kernel_rfl) (by kernel_rfl),
   err_of_laid (g := 3) h h4 (fun x => by rwa [MakeChecks.laidMetH_plain _ _ _ (by kernel_rfl)] at x) (by kernel_rfl) (by kernel_rfl)⟩

end Go.Proofs.YtoanloballaclaaDoor
