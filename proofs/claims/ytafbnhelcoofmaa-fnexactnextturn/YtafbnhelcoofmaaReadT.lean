import Derived.Test.YtafbnhelcoofmaaReadZ
import Derived.Test.YtafbnhelcoofmaaLTrn
import Derived.Lib.SmallJoins
namespace Go.Proofs.Ytafbnhelcoofmaa
open Go.ChangeShapes Go.WideShapes Go.ChangeAt Go.RowKit Go.Deep

set_option maxRecDepth 100000 in
/-- A turn that came in. -/
theorem trn_of_read {H : Type} {enc : TypeId × Value → H} {W : World} {v : Value} {d : DataW H} {p : List MemPlace} {sp : Nat → Bool} {base b0 : Nat} {held : Bool} {r : Reach}
    (hv : Value.okWide Try.prog W r b0 38 v) (h : DataW.Trod enc Try.prog W base sp held 38 v d p) :
    ∃ (va vu : Value) (A U : List Int), v = TrnV va vu ∧ ZRow .i64 W va A ∧ ZRow .i64 W vu U := by
  obtain ⟨v2, v3, y2, y3, n, rfl, _, _, t2, t3⟩ := Go.Joins.open_agg2 Try.underlying38 (by kernel_rfl) (by kernel_rfl) hv h
  obtain ⟨a2, l2, c2, e2⟩ := Go.Joins.slice_form Try.underlying22 t2
  obtain ⟨a3, l3, c3, e3⟩ := Go.Joins.slice_form Try.underlying22 t3
  simp only [List.cons.injEq, and_true] at e2 e3
  subst e2 e3
  obtain ⟨A, hA, _⟩ := zrow_of_read (h := ⟨n, by simpa [Value.cells] using t2⟩)
  obtain ⟨U, hU, _⟩ := zrow_of_read (h := ⟨n, by simpa [Value.cells] using t3⟩)
  exact ⟨_, _, A, U, rfl, hA, hU⟩
end Go.Proofs.Ytafbnhelcoofmaa
