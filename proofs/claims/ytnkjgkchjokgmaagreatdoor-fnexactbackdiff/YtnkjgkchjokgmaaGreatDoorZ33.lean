import Derived.Test.YtnkjgkchjokgmaaGreatDoorZ18
import Derived.Test.YtnkjgkchjokgmaaGreatDoorZ28
import Derived.Test.YtnkjgkchjokgmaaGreatDoorZ16
import Derived.Test.YtnkjgkchjokgmaaGreatDoorZ10
namespace Go.Proofs.YtnkjgkchjokgmaaGreatDoor
open Go.RowKit

/-- A diff and a bool, told: the lists lie somewhere. -/
def DRes (w' : World) (ok : Bool) (f t : Int) (A U : List (List UInt8 × Int × Int × List UInt8)) (e : Ending) : Prop :=
  ∃ va vu, e = .returned (.tuple #[DifV f t va vu, .bool ok]) ∧ RRow w' va A ∧ RRow w' vu U
/-- The same, in blocks of the call's own. -/
def DOwn (w' : World) (base : Nat) (ok : Bool) (f t : Int) (A U : List (List UInt8 × Int × Int × List UInt8)) (e : Ending) : Prop :=
  ∃ va vu, e = .returned (.tuple #[DifV f t va vu, .bool ok]) ∧ OwnQ w' base va A ∧ OwnQ w' base vu U ∧ ∀ g, va.ownBlock = some g → vu.ownBlock ≠ some g
theorem dres_no (w : World) : DRes w false 0 0 [] [] (.returned (.tuple #[DifV 0 0 (.slice none 0 0) (.slice none 0 0), .bool false])) := ⟨_, _, rfl, rrow_nil _, rrow_nil _⟩
theorem down_no (w : World) (base : Nat) : DOwn w base false 0 0 [] [] (.returned (.tuple #[DifV 0 0 (.slice none 0 0) (.slice none 0 0), .bool false])) := ⟨_, _, rfl, .inl ⟨rfl, rfl⟩, .inl ⟨rfl, rfl⟩, fun g h => by cases h⟩
theorem kpt_put4v (w : World) (g : Nat) (v0 v1 v2 v3 : Value) {S : Nat → Prop} (hs : S g) : Kpt w (put4v w g v0 v1 v2 v3) S := by
  unfold put4v
  exact (((kpt_set _ _ _ _ hs).trans (kpt_set _ _ _ _ hs)).trans (kpt_set _ _ _ _ hs)).trans (kpt_set _ _ _ _ hs)
theorem dif4_frozen {W : World} {b : Nat} {cs : Array Value} {t : TypeId} (h : W.heap[b]? = some (.cells cs t)) :
    W.frozen? ⟨b, 0, none⟩ = false ∧ W.frozen? ⟨b, 1, none⟩ = false ∧ W.frozen? ⟨b, 2, none⟩ = false ∧ W.frozen? ⟨b, 3, none⟩ = false := by
  refine ⟨?_, ?_, ?_, ?_⟩ <;> (unfold World.frozen?; rw [h]; simp)
theorem listB_len {L : List (List UInt8 × Int × Int × List UInt8)} (h : listB L = true) : L.length ≤ 40 := by
  unfold listB at h
  simp only [Bool.and_eq_true, decide_eq_true_eq] at h
  exact h.1
theorem difB_lens {f t : Int} {A U : List (List UInt8 × Int × Int × List UInt8)} (h : difB f t A U = true) : A.length ≤ 40 ∧ U.length ≤ 40 := by
  unfold difB at h
  simp only [Bool.and_eq_true] at h
  exact ⟨listB_len h.1.1.2, listB_len h.1.2⟩
end Go.Proofs.YtnkjgkchjokgmaaGreatDoor
