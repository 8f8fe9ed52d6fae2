import Derived.Test.YtphhgjdpfcmpgaaGreatDoorZ26
import Derived.Test.YtphhgjdpfcmpgaaGreatDoorZ27
namespace Go.Proofs.YtphhgjdpfcmpgaaGreatDoor
open Go.RowKit

/-- A message and a bool, told: the lists lie somewhere. -/
def MRes (w' : World) (ok : Bool) (mi : Int) (reply cutm : Bool) (code : Int) (nm : ByteArray) (ty : Int) (A U : List (List UInt8 × Int × Int × List UInt8)) (e : Ending) : Prop :=
  ∃ va vu, e = .returned (.tuple #[MsgV mi reply cutm code nm ty va vu, .bool ok]) ∧ RRow w' va A ∧ RRow w' vu U
/-- The same, in blocks of the call's own. -/
def MOwn (w' : World) (base : Nat) (ok : Bool) (mi : Int) (reply cutm : Bool) (code : Int) (nm : ByteArray) (ty : Int) (A U : List (List UInt8 × Int × Int × List UInt8)) (e : Ending) : Prop :=
  ∃ va vu, e = .returned (.tuple #[MsgV mi reply cutm code nm ty va vu, .bool ok]) ∧ OwnQ w' base va A ∧ OwnQ w' base vu U ∧ ∀ g, va.ownBlock = some g → vu.ownBlock ≠ some g
theorem mres_no (w : World) : MRes w false 0 false false 0 ⟨#[]⟩ 0 [] [] (.returned (.tuple #[noMsg, .bool false])) := ⟨_, _, rfl, rrow_nil _, rrow_nil _⟩
theorem own4_shape {w : World} {base n : Nat} {e : TypeId} {v : Value} {xs : List Value} (h : w.ownsRow base e 4 v n xs) : ∃ a cap, v = .slice a n cap ∧ cap ≤ maxLen ∧ ∀ m c, v = .slice none m c → c = 0 := by
  rcases h.2 with ⟨rfl, rfl⟩ | ⟨g, cap, cur, rfl, _, _, _, hm, _⟩
  · exact ⟨none, 0, rfl, by unfold maxLen; omega, fun m c e => by cases e; rfl⟩
  · exact ⟨_, cap, rfl, hm, fun m c e => by cases e⟩
theorem own_lit (w : World) (base : Nat) (hb : base ≤ w.heap.size) : (w.alloc (.cells #[] 51)).ownsRow base 51 4 (.slice (some ⟨w.heap.size, 0, none⟩) 0 0) 0 (rcells []) :=
  World.ownsRow_lit w #[] 0 hb (by unfold maxLen; omega) rfl
theorem own_lit' (w : World) (base b : Nat) (e : b = w.heap.size) (hb : base ≤ w.heap.size) : (w.alloc (.cells #[] 51)).ownsRow base 51 4 (.slice (some ⟨b, 0, none⟩) 0 0) 0 (rcells []) := by
  subst e; exact own_lit w base hb

end Go.Proofs.YtphhgjdpfcmpgaaGreatDoor
