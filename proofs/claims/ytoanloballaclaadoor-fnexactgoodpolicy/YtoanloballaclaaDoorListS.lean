import Derived.Test.YtoanloballaclaaDoorPlain
namespace Go.Proofs.YtoanloballaclaaDoor
open Go.RowKit

/-- Texts as they lie in a block of the call's own. -/
def SRow (w : World) (g : Nat) (P : List (List UInt8)) : Prop := g < w.heap.size ∧ ∀ j, (hj : j < P.length) → w.cell? ⟨g, j, none⟩ = some (S P[j]) ∧ w.frozen? ⟨g, j, none⟩ = false
theorem SRow.kept {w w' : World} {g : Nat} {P : List (List UInt8)} (h : SRow w g P) (hb : Below w.heap.size w w') : SRow w' g P :=
  ⟨Nat.lt_of_lt_of_le h.1 hb.size, fun j hj => by rw [hb.cell (p := ⟨g, j, none⟩) h.1, hb.frozen (p := ⟨g, j, none⟩) h.1]; exact h.2 j hj⟩
theorem SRow.set {w : World} {g : Nat} {P : List (List UInt8)} (h : SRow w g P) (k : Nat) (hk : k < P.length) (c : List UInt8) : SRow (w.setCell ⟨g, k, none⟩ (.string ⟨c.toArray⟩)) g (P.set k c) := by
  refine ⟨by simpa using h.1, fun j hj => ?_⟩
  have hj' : j < P.length := by simpa using hj
  refine ⟨?_, by simpa using (h.2 j hj').2⟩
  rw [List.getElem_set]
  split
  · rename_i e; subst e; exact World.cell?_setCell_same _ _ _ (h.2 k hk).1
  · rename_i e
    rw [World.cell?_setCell_other _ _ _ _ (show (⟨g, k, none⟩ : Addr) ≠ ⟨g, j, none⟩ by intro h; cases h; exact e rfl)]
    exact (h.2 j hj').1
theorem SRow.far {w : World} {g g' k : Nat} {P : List (List UInt8)} (h : SRow w g P) (hne : g' ≠ g) (u : Value) : SRow (w.setCell ⟨g', k, none⟩ u) g P := by
  refine ⟨by simpa using h.1, fun j hj => ⟨?_, by simpa using (h.2 j hj).2⟩⟩
  rw [World.cell?_setCell_other _ _ _ _ (show (⟨g', k, none⟩ : Addr) ≠ ⟨g, j, none⟩ by intro h; cases h; exact hne rfl)]
  exact (h.2 j hj).1
theorem SRow.row {w : World} {g cap : Nat} {P : List (List UInt8)} (h : SRow w g P) (hc : P.length ≤ cap) (hm : cap ≤ maxLen) : Row w (.slice (some ⟨g, 0, none⟩) P.length cap) P :=
  ⟨_, cap, rfl, hc, hm, .inr ⟨g, 0, rfl, h.1, fun j hj => by rw [Nat.zero_add]; exact (h.2 j hj).1⟩⟩
theorem srow_own {w : World} {base g cap n : Nat} {P : List (List UInt8)} (h : w.ownsRow base 9 1 (.slice (some ⟨g, 0, none⟩) n cap) n (P.map S)) (hn : n = P.length) : SRow w g P := by
  subst hn
  refine ⟨(h.lt g rfl).2, fun j hj => ⟨?_, h.frozenAt j⟩⟩
  rw [h.cellAt j (by omega), List.getElem?_map, List.getElem?_eq_getElem hj]; rfl

end Go.Proofs.YtoanloballaclaaDoor
