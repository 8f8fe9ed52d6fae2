import Derived.Test.YtnkjgkchjokgmaaGreatDoorZ15
import Derived.Test.YtnkjgkchjokgmaaGreatDoorZ18
import Derived.Lib.SmallJoins
namespace Go.Proofs.YtnkjgkchjokgmaaGreatDoor
open Go.ChangeShapes Go.WideShapes Go.ChangeAt Go.RowKit Go.Deep

set_option maxRecDepth 100000 in
/-- A diff that came in. -/
theorem dif_of_read {H : Type} {enc : TypeId × Value → H} {W : World} {v : Value} {d : DataW H} {p : List MemPlace} {sp : Nat → Bool} {base b0 : Nat} {held : Bool} {r : Reach}
    (hv : Value.okWide Tryz.prog W r b0 24 v) (h : DataW.Trod enc Tryz.prog W base sp held 24 v d p) :
    ∃ (f t : Int) (va vu : Value) (A U : List (List UInt8 × Int × Int × List UInt8)), v = DifV f t va vu ∧ RRow W va A ∧ Hid (∀ x ∈ A, x.1.length ≤ maxLen ∧ x.2.2.2.length ≤ maxLen) ∧ RRow W vu U ∧ Hid (∀ x ∈ U, x.1.length ≤ maxLen ∧ x.2.2.2.length ≤ maxLen) := by
  obtain ⟨v0, v1, v2, v3, y0, y1, y2, y3, n, rfl, _, _, t0, t1, t2, t3⟩ := Go.Joins.open_agg4 Tryz.underlying24 (by kernel_rfl) (by kernel_rfl) hv h
  obtain ⟨n0, e0, _, _⟩ := DataW.trod_int Tryz.underlying3 t0
  obtain ⟨n1, e1, _, _⟩ := DataW.trod_int Tryz.underlying3 t1
  obtain ⟨a2, l2, c2, e2⟩ := Go.Joins.slice_form Tryz.underlying22 t2
  obtain ⟨a3, l3, c3, e3⟩ := Go.Joins.slice_form Tryz.underlying22 t3
  simp only [List.cons.injEq, and_true] at e0 e1 e2 e3
  subst e0 e1 e2 e3
  obtain ⟨A, hA, HA⟩ := rrow_of_read (h := ⟨n, by simpa [Value.cells] using t2⟩)
  obtain ⟨U, hU, HU⟩ := rrow_of_read (h := ⟨n, by simpa [Value.cells] using t3⟩)
  exact ⟨n0, n1, _, _, A, U, rfl, hA, HA, hU, HU⟩
end Go.Proofs.YtnkjgkchjokgmaaGreatDoor
