import Derived.Test.YtgfiahfoghnpkaaGreatDoorZ11
import Derived.Test.YtgfiahfoghnpkaaGreatDoorZ25
namespace Go.Proofs.YtgfiahfoghnpkaaGreatDoor
open Go.RowKit

def lessI (b : Bool) : Int := if b = true then -1 else 1
set_option maxRecDepth 20000 in
set_option maxHeartbeats 400000 in
theorem l3Less_any (b : Bool) (w : World) :
    Calls Tryz.prog 85 #[.bool b] w fun e w' => e = .returned (.int .i64 (lessI b)) ∧ w' = w := by
  cases b
  all_goals
    go_enter Tryz.func85, Tryz.ntmps85
    go_wp2_with fail
    go_ret
    exact ⟨rfl, rfl⟩

/-- The order of good records. -/
def cmpRec (n1 : List UInt8) (t1 l1 : Int) (d1 : List UInt8) (n2 : List UInt8) (t2 l2 : Int) (d2 : List UInt8) : Int :=
  if cmpR (labelsOf n1).reverse (labelsOf n2).reverse ≠ 0 then cmpR (labelsOf n1).reverse (labelsOf n2).reverse
  else if t1 ≠ t2 then lessI (decide (t1 < t2))
  else if (dataP t1 d1).getD [] ≠ (dataP t2 d2).getD [] then lessI (Op.bytesLess ((dataP t1 d1).getD []) ((dataP t2 d2).getD []))
  else if l1 ≠ l2 then lessI (decide (l1 < l2)) else 0
theorem recB_name {nm d : List UInt8} {ty ttl : Int} (h : recB nm ty ttl d = true) : nameB nm = true ∧ (dataP ty d).isSome = true := by
  unfold recB at h; simp only [Bool.and_eq_true] at h; exact ⟨h.2.1, h.1⟩
theorem some_of {D : Option (List UInt8)} (h : D.isSome = true) : D = some (D.getD []) := by
  cases D with
  | none => cases h
  | some y => rfl

end Go.Proofs.YtgfiahfoghnpkaaGreatDoor
