import Derived.Test.YtoopfmebpjojiaaDoorLift
import Derived.Lib.SmallJoins
namespace Go.Proofs.YtoopfmebpjojiaaDoor
open Go.ChangeShapes Go.WideShapes Go.ChangeAt Go.RowKit Go.Deep

set_option maxRecDepth 100000 in
/-- A probe that came in. -/
theorem prb_of_read {H : Type} {enc : TypeId × Value → H} {W : World} {v : Value} {d : DataW H} {p : List MemPlace} {sp : Nat → Bool} {base b0 : Nat} {held : Bool} {r : Reach}
    (hv : Value.okWide Tryd.prog W r b0 42 v) (h : DataW.Trod enc Tryd.prog W base sp held 42 v d p) :
    ∃ (n : Int) (fi : Bool), v = .agg #[.int .i64 n, .bool fi] := by
  obtain ⟨v0, v1, y0, y1, m, rfl, _, _, t0, t1⟩ := Go.Joins.open_agg2 Tryd.underlying42 (by kernel_rfl) (by kernel_rfl) hv h
  obtain ⟨n0, e0, _, _⟩ := DataW.trod_int Tryd.underlying3 t0
  obtain ⟨b1, e1, _⟩ := DataW.trod_bool Tryd.underlying4 t1
  simp only [List.cons.injEq, and_true] at e0 e1
  subst e0 e1
  exact ⟨n0, b1, rfl⟩
end Go.Proofs.YtoopfmebpjojiaaDoor
