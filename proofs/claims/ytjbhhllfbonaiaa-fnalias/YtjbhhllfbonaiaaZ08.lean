import Derived.Test.YtjbhhllfbonaiaaZ07
import Derived.Test.YtjbhhllfbonaiaaZ02
namespace Go.Proofs.Ytjbhhllfbonaiaa
open Go.RowKit

/-- Numbers from one on. -/
def mksZ (K n : Nat) : List Int := (List.range n).map (fun i : Nat => (K : Int) + (i : Int))
theorem mksZ_length (K n : Nat) : (mksZ K n).length = n := by simp [mksZ]
theorem mksZ_get (K n k : Nat) (h : k < n) : (mksZ K n)[k]'(by rw [mksZ_length]; exact h) = (K : Int) + (k : Int) := by simp [mksZ]
def halfZ (P : List Int) (K k : Nat) : List Int := mksZ K k ++ P.drop k
theorem halfZ_length (P : List Int) (K k : Nat) (h : k ≤ P.length) : (halfZ P K k).length = P.length := by simp [halfZ, mksZ]; omega
theorem halfZ_zero (P : List Int) (K : Nat) : halfZ P K 0 = P := by simp [halfZ, mksZ]
theorem halfZ_end (P : List Int) (K : Nat) : halfZ P K P.length = mksZ K P.length := by simp [halfZ]
theorem halfZ_next (P : List Int) (K k : Nat) (h : k < P.length) : halfZ P K (k + 1) = (halfZ P K k).set k ((K : Int) + (k : Int)) := by
  unfold halfZ
  have hm : (mksZ K k).length = k := mksZ_length K k
  rw [List.set_append_right _ _ (by omega), hm, Nat.sub_self, List.drop_eq_getElem_cons h]
  simp only [mksZ, List.range_succ, List.map_append, List.map_cons, List.map_nil, List.set_cons_zero, List.append_assoc, List.singleton_append]
theorem growz_refl (w : World) (row : Option Nat) : w.grownBy w row := ⟨rfl, rfl, rfl, Nat.le_refl _, fun _ _ _ => rfl⟩
theorem growz_set {w a : World} {g k : Nat} {u : Value} (h : w.grownBy a (some g)) : w.grownBy (a.setCell ⟨g, k, none⟩ u) (some g) :=
  ⟨h.os, h.tape, h.output, by simpa using h.size, fun i hi hne => (Below.heap_setCell a ⟨g, k, none⟩ u i (fun e => hne (by rw [e]))).trans (h.block i hi hne)⟩


end Go.Proofs.Ytjbhhllfbonaiaa

namespace Go.Proofs.Ytjbhhllfbonaiaa
open Go.RowKit

/-- A row in a block that is not written to is kept. -/
theorem ZSRow.apart {w w' : World} {g : Nat} {S : Nat → Prop} {L : List Int} (h : ZSRow w g L) (hk : Kpt w w' S) (hn : ¬ S g) : ZSRow w' g L := by
  have hblk : w'.heap[g]? = w.heap[g]? := hk.block g h.1 hn
  refine ⟨Nat.lt_of_lt_of_le h.1 hk.size, fun j hj => ⟨hk.cell (h.2 j hj).1 hn, ?_⟩⟩
  have h2 := (h.2 j hj).2
  unfold World.frozen? at h2 ⊢
  rw [hblk]; exact h2
theorem ZSRow.rowc {w : World} {g cap : Nat} {L : List Int} (h : ZSRow w g L) (hc : L.length ≤ cap) (hm : cap ≤ 9223372036854775807) : ZRow .i64 w (.slice (some ⟨g, 0, none⟩) L.length cap) L :=
  ⟨_, cap, rfl, hc, by unfold maxLen; omega, .inr ⟨g, 0, rfl, h.1, fun j hj => by rw [Nat.zero_add]; exact (h.2 j hj).1⟩⟩

end Go.Proofs.Ytjbhhllfbonaiaa
