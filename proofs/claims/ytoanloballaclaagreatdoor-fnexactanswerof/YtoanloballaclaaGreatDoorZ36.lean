import Derived.Test.YtoanloballaclaaGreatDoorZ33
import Derived.Test.YtoanloballaclaaGreatDoorZ34
namespace Go.Proofs.YtoanloballaclaaGreatDoor
open Go.RowKit

/-- A row in a block that is not written to is kept. -/
theorem ZSRow.apart {w w' : World} {g : Nat} {S : Nat → Prop} {L : List Int} (h : ZSRow w g L) (hk : Kpt w w' S) (hn : ¬ S g) : ZSRow w' g L := by
  have hblk : w'.heap[g]? = w.heap[g]? := hk.block g h.1 hn
  refine ⟨Nat.lt_of_lt_of_le h.1 hk.size, fun j hj => ⟨hk.cell (h.2 j hj).1 hn, ?_⟩⟩
  have h2 := (h.2 j hj).2
  unfold World.frozen? at h2 ⊢
  rw [hblk]; exact h2
theorem ZSRow.rowc {w : World} {g cap : Nat} {L : List Int} (h : ZSRow w g L) (hc : L.length ≤ cap) (hm : cap ≤ 9223372036854775807) : ZRow .i64 w (.slice (some ⟨g, 0, none⟩) L.length cap) L :=
  ⟨_, cap, rfl, hc, by unfold maxLen; omega, .inr ⟨g, 0, rfl, h.1, fun j hj => by rw [Nat.zero_add]; exact (h.2 j hj).1⟩⟩

end Go.Proofs.YtoanloballaclaaGreatDoor
