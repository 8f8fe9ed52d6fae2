import Derived.Test.YtafbnhelcoofmaaReadZ
namespace Go.Proofs.Ytafbnhelcoofmaa
open Go.ChangeShapes Go.WideShapes Go.ChangeAt Go.RowKit Go.Deep

theorem own : ownKnob Try.prog.godebug = none := by kernel_rfl
theorem laidOut : laidOutB Try.prog = true := by kernel_rfl
theorem int_wf {n : Int} (h : (Lit.int .i64 n).wf = true) : -9223372036854775808 ≤ n ∧ n ≤ 9223372036854775807 := int_wfZ h
end Go.Proofs.Ytafbnhelcoofmaa
