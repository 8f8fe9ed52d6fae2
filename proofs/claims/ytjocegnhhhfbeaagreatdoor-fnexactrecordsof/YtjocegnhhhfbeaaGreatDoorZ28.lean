import Derived.Test.YtjocegnhhhfbeaaGreatDoorZ25
import Derived.Test.YtjocegnhhhfbeaaGreatDoorZ27
import Derived.Test.YtjocegnhhhfbeaaGreatDoorZ05
namespace Go.Proofs.YtjocegnhhhfbeaaGreatDoor
open Go.RowKit

theorem rrow_one (w : World) (x : List UInt8 × Int × Int × List UInt8) (t : TypeId) (b : Nat) (hb : b = w.heap.size) : RRow (w.alloc (.cells #[.string ⟨x.1.toArray⟩, .int .i64 x.2.1, .int .i64 x.2.2.1, .string ⟨x.2.2.2.toArray⟩] t)) (.slice (some ⟨b, 0, none⟩) 1 1) [x] := by
  subst hb
  refine ⟨_, 1, rfl, Nat.le_refl _, by unfold maxLen; omega, .inr ⟨w.heap.size, 0, rfl, by simp, fun j hj => ?_⟩⟩
  obtain rfl : j = 0 := by simpa using hj
  unfold RecAt
  simp

theorem rec4_cells {W : World} {b : Nat} {v0 v1 v2 v3 : Value} {t : TypeId} (h : W.heap[b]? = some (.cells #[v0, v1, v2, v3] t)) :
    W.cell? ⟨b, 0, none⟩ = some v0 ∧ W.cell? ⟨b, 1, none⟩ = some v1 ∧ W.cell? ⟨b, 2, none⟩ = some v2 ∧ W.cell? ⟨b, 3, none⟩ = some v3 := by
  refine ⟨?_, ?_, ?_, ?_⟩ <;> (unfold World.cell?; rw [h]; rfl)
theorem rec4_frozen {W : World} {b : Nat} {cs : Array Value} {t : TypeId} (h : W.heap[b]? = some (.cells cs t)) :
    W.frozen? ⟨b, 0, none⟩ = false ∧ W.frozen? ⟨b, 1, none⟩ = false ∧ W.frozen? ⟨b, 2, none⟩ = false ∧ W.frozen? ⟨b, 3, none⟩ = false := by
  refine ⟨?_, ?_, ?_, ?_⟩ <;> (unfold World.frozen?; rw [h]; simp)
theorem own_setN {W : World} {base g k n s : Nat} {e : TypeId} {v u : Value} {xs : List Value} (h : W.ownsRow base e s v n xs) (hg : v.ownBlock ≠ some g) : (W.setCell ⟨g, k, none⟩ u).ownsRow base e s v n xs :=
  h.kept (grown_set (grown_refl W _)) (.inr (fun hc => hg hc))

theorem OwnQ.base {w : World} {a b : Nat} {v : Value} {L : List (List UInt8 × Int × Int × List UInt8)} (h : OwnQ w b v L) (hab : a ≤ b) : OwnQ w a v L := by
  rcases h with h | ⟨g, cap, h0, h1, h2, h3, hs⟩
  · exact .inl h
  · exact .inr ⟨g, cap, h0, h1, h2, Nat.le_trans hab h3, hs⟩


end Go.Proofs.YtjocegnhhhfbeaaGreatDoor
