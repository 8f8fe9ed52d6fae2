import Derived.Test.YtdbbcepjdojdcaaGreatDoorZ10
import Derived.Test.YtdbbcepjdojdcaaGreatDoorZ18
import Derived.Test.YtdbbcepjdojdcaaGreatDoorZ12
import Derived.Test.YtdbbcepjdojdcaaGreatDoorZ04
namespace Go.Proofs.YtdbbcepjdojdcaaGreatDoor
open Go.RowKit

def lessI (b : Bool) : Int := if b = true then -1 else 1
set_option maxRecDepth 20000 in
set_option maxHeartbeats 400000 in
theorem l3Less_any (b : Bool) (w : World) :
    Calls Tryz.prog 108 #[.bool b] w fun e w' => e = .returned (.int .i64 (lessI b)) ∧ w' = w := by
  cases b
  all_goals
    go_enter Tryz.func108, Tryz.ntmps108
    go_wp2_with fail
    go_ret
    exact ⟨rfl, rfl⟩

/-- The order of good records. -/
def cmpRec (n1 : List UInt8) (t1 l1 : Int) (d1 : List UInt8) (n2 : List UInt8) (t2 l2 : Int) (d2 : List UInt8) : Int :=
  if cmpR (labelsOf n1).reverse (labelsOf n2).reverse ≠ 0 then cmpR (labelsOf n1).reverse (labelsOf n2).reverse
  else if t1 ≠ t2 then lessI (decide (t1 < t2))
  else if (dataP t1 d1).getD [] ≠ (dataP t2 d2).getD [] then lessI (Op.bytesLess ((dataP t1 d1).getD []) ((dataP t2 d2).getD []))
  else if l1 ≠ l2 then lessI (decide (l1 < l2)) else 0
theorem recB_name {nm d : List UInt8} {ty ttl : Int} (h : recB nm ty ttl d = true) : nameB nm = true ∧ (dataP ty d).isSome = true := by
  unfold recB at h; simp only [Bool.and_eq_true] at h; exact ⟨h.2.1, h.1⟩
theorem some_of {D : Option (List UInt8)} (h : D.isSome = true) : D = some (D.getD []) := by
  cases D with
  | none => cases h
  | some y => rfl

end Go.Proofs.YtdbbcepjdojdcaaGreatDoor

namespace Go.Proofs.YtdbbcepjdojdcaaGreatDoor
open Go.RowKit

/-- A good section. -/
def recsB (L : List (List UInt8 × Int × Int × List UInt8)) : Bool := L.all (fun x => recB x.1 x.2.1 x.2.2.1 x.2.2.2) && decide ((L.length : Int) ≤ 12)
theorem recsB_bad {L : List (List UInt8 × Int × Int × List UInt8)} (k : Nat) (hk : k < L.length) (h : recB L[k].1 L[k].2.1 L[k].2.2.1 L[k].2.2.2 = false) : recsB L = false := by
  unfold recsB
  have : L.all (fun x => recB x.1 x.2.1 x.2.2.1 x.2.2.2) = false := by
    rw [List.all_eq_false]; exact ⟨_, List.getElem_mem hk, by simpa using h⟩
  rw [this]; rfl
theorem recsB_all {L : List (List UInt8 × Int × Int × List UInt8)} (h : ∀ j, (hj : j < L.length) → recB L[j].1 L[j].2.1 L[j].2.2.1 L[j].2.2.2 = true) : recsB L = decide ((L.length : Int) ≤ 12) := by
  unfold recsB
  have : L.all (fun x => recB x.1 x.2.1 x.2.2.1 x.2.2.2) = true := by
    rw [List.all_eq_true]; intro x hx
    obtain ⟨j, hj, rfl⟩ := List.getElem_of_mem hx
    exact h j hj
  rw [this]; rfl

end Go.Proofs.YtdbbcepjdojdcaaGreatDoor
