import Derived.Test.YtoobaaklklommaaGreatDoorZ12
import Derived.Test.YtoobaaklklommaaGreatDoorZ04
namespace Go.Proofs.YtoobaaklklommaaGreatDoor
open Go.RowKit

/-- A good section. -/
def recsB (L : List (List UInt8 × Int × Int × List UInt8)) : Bool := L.all (fun x => recB x.1 x.2.1 x.2.2.1 x.2.2.2) && decide ((L.length : Int) ≤ 12)
theorem recsB_bad {L : List (List UInt8 × Int × Int × List UInt8)} (k : Nat) (hk : k < L.length) (h : recB L[k].1 L[k].2.1 L[k].2.2.1 L[k].2.2.2 = false) : recsB L = false := by
  unfold recsB
  have : L.all (fun x => recB x.1 x.2.1 x.2.2.1 x.2.2.2) = false := by
    rw [List.all_eq_false]; exact ⟨_, List.getElem_mem hk, by simpa using h⟩
  rw [this]; rfl
theorem recsB_all {L : List (List UInt8 × Int × Int × List UInt8)} (h : ∀ j, (hj : j < L.length) → recB L[j].1 L[j].2.1 L[j].2.2.1 L[j].2.2.2 = true) : recsB L = decide ((L.length : Int) ≤ 12) := by
  unfold recsB
  have : L.all (fun x => recB x.1 x.2.1 x.2.2.1 x.2.2.2) = true := by
    rw [List.all_eq_true]; intro x hx
    obtain ⟨j, hj, rfl⟩ := List.getElem_of_mem hx
    exact h j hj
  rw [this]; rfl

end Go.Proofs.YtoobaaklklommaaGreatDoor
