import Derived.Test.YtacmipcjhbkdcaaZ13
import Derived.Test.YtacmipcjhbkdcaaZ10
import Derived.Test.YtacmipcjhbkdcaaZ08
namespace Go.Proofs.Ytacmipcjhbkdcaa
open Go.RowKit

/-- Texts and a bool told, in memory of the call's own. -/
def TxAns (w' : World) (base : Nat) (ok : Bool) (R : List (List UInt8)) (e : Ending) : Prop := ∃ u, e = .returned (.tuple #[u, .bool ok]) ∧ w'.ownsRow base 9 1 u R.length (R.map S)
theorem TxAns.no (w' : World) (base : Nat) : TxAns w' base false [] (.returned (.tuple #[.slice none 0 0, .bool false])) := ⟨_, rfl, World.ownsRow_nil _ _ _ _⟩
def tailL (L : List LkT) : List (List UInt8) := if chB L then (L.getD (L.length - 1) zLk).1 else []
def sureL (L : List LkT) : List (List UInt8) := if chB L then (L.getD 0 zLk).1.take (L.getD 0 zLk).2.2.toNat else []
theorem tailL_no {L : List LkT} (h : chB L = false) : tailL L = [] := by unfold tailL; rw [h]; rfl
theorem sureL_no {L : List LkT} (h : chB L = false) : sureL L = [] := by unfold sureL; rw [h]; rfl

end Go.Proofs.Ytacmipcjhbkdcaa

namespace Go.Proofs.Ytacmipcjhbkdcaa
open Go.RowKit

end Go.Proofs.Ytacmipcjhbkdcaa
