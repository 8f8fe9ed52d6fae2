import Derived.Test.YtphhgjdpfcmpgaaGreatDoorZ23
import Derived.Test.YtphhgjdpfcmpgaaGreatDoorZ24
namespace Go.Proofs.YtphhgjdpfcmpgaaGreatDoor
open Go.RowKit

/-- A message and a bool, told: the lists lie somewhere. -/
def MRes (w' : World) (ok : Bool) (mi : Int) (reply cutm : Bool) (code : Int) (nm : ByteArray) (ty : Int) (A U : List (List UInt8 × Int × Int × List UInt8)) (e : Ending) : Prop :=
  ∃ va vu, e = .returned (.tuple #[MsgV mi reply cutm code nm ty va vu, .bool ok]) ∧ RRow w' va A ∧ RRow w' vu U
/-- The same, in blocks of the call's own. -/
def MOwn (w' : World) (base : Nat) (ok : Bool) (mi : Int) (reply cutm : Bool) (code : Int) (nm : ByteArray) (ty : Int) (A U : List (List UInt8 × Int × Int × List UInt8)) (e : Ending) : Prop :=
  ∃ va vu, e = .returned (.tuple #[MsgV mi reply cutm code nm ty va vu, .bool ok]) ∧ OwnQ w' base va A ∧ OwnQ w' base vu U ∧ ∀ g, va.ownBlock = some g → vu.ownBlock ≠ some g
theorem mres_no (w : World) : MRes w false 0 false false 0 ⟨#[]⟩ 0 [] [] (.returned (.tuple #[noMsg, .bool false])) := ⟨_, _, rfl, rrow_nil _, rrow_nil _⟩
theorem own4_shape {w : World} {base n : Nat} {e : TypeId} {v : Value} {xs : List Value} (h : w.ownsRow base e 4 v n xs) : ∃ a cap, v = .slice a n cap ∧ cap ≤ maxLen ∧ ∀ m c, v = .slice none m c → c = 0 := by
  rcases h.2 with ⟨rfl, rfl⟩ | ⟨g, cap, cur, rfl, _, _, _, hm, _⟩
  · exact ⟨none, 0, rfl, by unfold maxLen; omega, fun m c e => by cases e; rfl⟩
  · exact ⟨_, cap, rfl, hm, fun m c e => by cases e⟩
theorem own_lit (w : World) (base : Nat) (hb : base ≤ w.heap.size) : (w.alloc (.cells #[] 51)).ownsRow base 51 4 (.slice (some ⟨w.heap.size, 0, none⟩) 0 0) 0 (rcells []) :=
  World.ownsRow_lit w #[] 0 hb (by unfold maxLen; omega) rfl
theorem own_lit' (w : World) (base b : Nat) (e : b = w.heap.size) (hb : base ≤ w.heap.size) : (w.alloc (.cells #[] 51)).ownsRow base 51 4 (.slice (some ⟨b, 0, none⟩) 0 0) 0 (rcells []) := by
  subst e; exact own_lit w base hb

end Go.Proofs.YtphhgjdpfcmpgaaGreatDoor

namespace Go.Proofs.YtphhgjdpfcmpgaaGreatDoor
open Go.RowKit

/-- No record. -/
def noRec : List UInt8 × Int × Int × List UInt8 := ([], 0, 0, [])
/-- Where the last set begins, from a place on. -/
def lessK (L : List (List UInt8 × Int × Int × List UInt8)) (z : List UInt8 × Int × Int × List UInt8) : Nat → Nat
  | 0 => 0
  | k + 1 => if (L.getD k noRec).1 = z.1 ∧ (L.getD k noRec).2.1 = z.2.1 then lessK L z k else k + 1
/-- A list without its last set. -/
def lessL (L : List (List UInt8 × Int × Int × List UInt8)) : List (List UInt8 × Int × Int × List UInt8) := L.take (lessK L (L.getD (L.length - 1) noRec) (L.length - 1))
theorem lessK_le (L : List (List UInt8 × Int × Int × List UInt8)) (z : List UInt8 × Int × Int × List UInt8) : ∀ k, lessK L z k ≤ k
  | 0 => Nat.le_refl _
  | k + 1 => by
    have := lessK_le L z k
    unfold lessK; split <;> omega
theorem lessL_lt {L : List (List UInt8 × Int × Int × List UInt8)} (h : 0 < L.length) : (lessL L).length < L.length := by
  have := lessK_le L (L.getD (L.length - 1) noRec) (L.length - 1)
  unfold lessL; rw [List.length_take]; omega
theorem lessL_mem {L : List (List UInt8 × Int × Int × List UInt8)} {x : List UInt8 × Int × Int × List UInt8} (h : x ∈ lessL L) : x ∈ L := List.mem_of_mem_take h
theorem lessK_go {L : List (List UInt8 × Int × Int × List UInt8)} {z : List UInt8 × Int × Int × List UInt8} {k : Nat} (hk : k < L.length) (h1 : L[k].1 = z.1) (h2 : L[k].2.1 = z.2.1) : lessK L z (k + 1) = lessK L z k := by
  rw [lessK, if_pos]
  rw [List.getD_eq_getElem?_getD, List.getElem?_eq_getElem hk]; exact ⟨h1, h2⟩
theorem lessK_stop {L : List (List UInt8 × Int × Int × List UInt8)} {z : List UInt8 × Int × Int × List UInt8} {k : Nat} (hk : k < L.length) (h : ¬ (L[k].1 = z.1 ∧ L[k].2.1 = z.2.1)) : lessK L z (k + 1) = k + 1 := by
  rw [lessK, if_neg]
  rw [List.getD_eq_getElem?_getD, List.getElem?_eq_getElem hk]; exact h

theorem some_nil' (b o n m : Nat) : ∀ n' c, Value.slice (some ⟨b, o, none⟩) n m = .slice none n' c → c = 0 := fun n' c h => by cases h

end Go.Proofs.YtphhgjdpfcmpgaaGreatDoor
