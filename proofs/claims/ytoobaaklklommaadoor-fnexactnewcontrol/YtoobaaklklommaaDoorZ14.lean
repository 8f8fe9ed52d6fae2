import Derived.Test.YtoobaaklklommaaDoorZ06
import Derived.Test.YtoobaaklklommaaDoorZ13
import Derived.Test.YtoobaaklklommaaDoorZ07
import Derived.LaidLaws
import Derived.Lib.SmallJoins
namespace Go.Proofs.YtoobaaklklommaaDoor
open Go.ChangeShapes Go.WideShapes Go.ChangeAt Go.RowKit Go.Deep

set_option maxRecDepth 100000 in
theorem pow_of_laid {W : World} {laid : List (String × DataW Unit)} (h : laidMetH Tryd.prog laid W)
    (hf : laid.filter (fun x => x.1 == "internal/strconv.uint64pow10") = [("internal/strconv.uint64pow10", Rows.laid_internal_strconv_uint64pow10)]) : Lib.TabIs Tryd.prog W "internal/strconv.uint64pow10" .u64 Lib.pow10Tab := by
  have h := laidMetH.filter (fun x => x.1 == "internal/strconv.uint64pow10") h
  rw [hf, MakeChecks.laidMetH_plain _ _ _ (by kernel_rfl)] at h
  have e : (Rows.laid_internal_strconv_uint64pow10 : DataW Unit) = Lib.tabData .u64 Lib.pow10Tab := by kernel_rfl
  rw [e] at h
  exact Lib.tabIs_of_head (g := 1) (by kernel_rfl) (by kernel_rfl) Tryd.underlying88 Tryd.underlying77 (by kernel_rfl) (by kernel_rfl) h
set_option maxRecDepth 100000 in
theorem envT_of {W : World} {laid : List (String × DataW Unit)} (h : laidMetH Tryd.prog laid W)
    (h1 : laid.filter (fun x => x.1 == "loop.example/g00300/impl.byteRanges") = [("loop.example/g00300/impl.byteRanges", Rows.laid_loop_example_g00300_impl_byteRanges)])
    (h2 : laid.filter (fun x => x.1 == "internal/strconv.uint64pow10") = [("internal/strconv.uint64pow10", Rows.laid_internal_strconv_uint64pow10)]) (hsh : W.ShapedOpen Tryd.prog) : EnvT W :=
  ⟨env_of h h1 hsh, pow_of_laid h h2⟩
end Go.Proofs.YtoobaaklklommaaDoor
