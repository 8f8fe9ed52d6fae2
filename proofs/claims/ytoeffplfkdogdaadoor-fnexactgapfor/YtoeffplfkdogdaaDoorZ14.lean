import Derived.Test.YtoeffplfkdogdaaDoorZ08
import Derived.Test.YtoeffplfkdogdaaDoorZ10
import Derived.Test.YtoeffplfkdogdaaDoorZ13
namespace Go.Proofs.YtoeffplfkdogdaaDoor
open Go.ChangeShapes Go.WideShapes Go.ChangeAt Go.RowKit Go.Deep

set_option maxRecDepth 100000 in
/-- A gap that came in. -/
theorem gap_of_read {H : Type} {enc : TypeId × Value → H} {W : World} {v : Value} {d : DataW H} {p : List MemPlace} {sp : Nat → Bool} {base b0 : Nat} {held : Bool} {r : Reach}
    (hv : Value.okWide Tryd.prog W r b0 40 v) (h : DataW.Trod enc Tryd.prog W base sp held 40 v d p) :
    ∃ (nm nx : ByteArray) (va : Value) (L : List Int), v = GapV nm nx va ∧ nm.size ≤ maxLen ∧ nx.size ≤ maxLen ∧ ZRow .i64 W va L := by
  obtain ⟨v0, v1, v2, y0, y1, y2, n, rfl, t0, t1, t2⟩ := open_agg3 Tryd.underlying40 (by kernel_rfl) (by kernel_rfl) hv h
  obtain ⟨s0, e0, _, hs0⟩ := DataW.trod_string Tryd.underlying9 t0
  obtain ⟨s1, e1, _, hs1⟩ := DataW.trod_string Tryd.underlying9 t1
  obtain ⟨a2, l2, c2, e2⟩ := Go.Joins.slice_form Tryd.underlying24 t2
  simp only [List.cons.injEq, and_true] at e0 e1 e2
  subst e0 e1 e2
  obtain ⟨A, hA, _⟩ := zrow_of_read (h := ⟨n, by simpa [Value.cells] using t2⟩)
  exact ⟨s0, s1, _, A, rfl, hs0, hs1, hA⟩
end Go.Proofs.YtoeffplfkdogdaaDoor
