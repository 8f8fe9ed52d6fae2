import Derived.Test.YtbcgalhegkhmbaaGreatDoorZ40
import Derived.Test.YtbcgalhegkhmbaaGreatDoorZ29
import Derived.Test.YtbcgalhegkhmbaaGreatDoorZ41
import Derived.Lib.SmallJoins
namespace Go.Proofs.YtbcgalhegkhmbaaGreatDoor
open Go.ChangeShapes Go.WideShapes Go.ChangeAt Go.RowKit Go.Deep

set_option maxRecDepth 100000 in
/-- A zone that came in. -/
theorem zone_of_read {H : Type} {enc : TypeId × Value → H} {W : World} {v : Value} {d : DataW H} {p : List MemPlace} {sp : Nat → Bool} {base b0 : Nat} {held : Bool} {r : Reach}
    (hv : Value.okWide Tryz.prog W r b0 24 v) (h : DataW.Trod enc Tryz.prog W base sp held 24 v d p) :
    ∃ (nm : ByteArray) (ct : Int) (va : Value) (L : List (List UInt8 × Int × Int × List UInt8)), v = ZonV nm ct va ∧ nm.size ≤ maxLen ∧ RRow W va L ∧ Hid (∀ x ∈ L, x.1.length ≤ maxLen ∧ x.2.2.2.length ≤ maxLen) ∧ (-9223372036854775808 ≤ ct ∧ ct ≤ 9223372036854775807) := by
  obtain ⟨v0, v1, v2, y0, y1, y2, n, rfl, t0, t1, t2⟩ := open_agg3 Tryz.underlying24 (by kernel_rfl) (by kernel_rfl) hv h
  obtain ⟨s0, e0, _, hs0⟩ := DataW.trod_string Tryz.underlying9 t0
  obtain ⟨n1, e1, _, hw1⟩ := DataW.trod_int Tryz.underlying3 t1
  obtain ⟨a2, l2, c2, e2⟩ := Go.Joins.slice_form Tryz.underlying22 t2
  simp only [List.cons.injEq, and_true] at e0 e1 e2
  subst e0 e1 e2
  obtain ⟨A, hA, HA⟩ := rrow_of_read (h := ⟨n, by simpa [Value.cells] using t2⟩)
  exact ⟨s0, n1, _, A, rfl, hs0, hA, HA, int_wf hw1⟩
end Go.Proofs.YtbcgalhegkhmbaaGreatDoor
