import Derived.Test.YtoanloballaclaaDoorJoin
namespace Go.Proofs.YtoanloballaclaaDoor
open Go.RowKit

def I64 (n : Nat) : Value := .int .i64 (n : Int)
theorem info_int : (Tryd.prog.info? 3).map (fun i => (i.zero, i.size, i.bytes)) = some (some (.int .i64 0), 1, 8) := by kernel_rfl
theorem one_int (n : Int) : ∀ u ∈ [Value.int .i64 n], u.oneCell' = true := by
  intro u hu; simp at hu; subst hu; rfl

/-- A list of places as it lies in memory. -/
def IRow (w : World) (v : Value) (ps : List Nat) : Prop :=
  ∃ a cap, v = .slice a ps.length cap ∧ ps.length ≤ cap ∧ cap ≤ maxLen ∧ (ps = [] ∨ ∃ b o, a = some ⟨b, o, none⟩ ∧ b < w.heap.size ∧ ∀ j, (hj : j < ps.length) → w.cell? ⟨b, o + j, none⟩ = some (.int .i64 ((ps[j] : Nat) : Int)))
theorem irow_nil (w : World) : IRow w (.slice none 0 0) [] := ⟨none, 0, rfl, Nat.le_refl _, by unfold maxLen; omega, .inl rfl⟩
theorem IRow.kept {w w' : World} {v : Value} {ps : List Nat} (h : IRow w v ps) (hb : Below w.heap.size w w') : IRow w' v ps := by
  obtain ⟨a, cap, rfl, h1, h2, h3⟩ := h
  refine ⟨a, cap, rfl, h1, h2, ?_⟩
  rcases h3 with h3 | ⟨b, o, rfl, hb1, hc⟩
  · exact .inl h3
  · exact .inr ⟨b, o, rfl, Nat.lt_of_lt_of_le hb1 hb.size, fun j hj => by rw [hb.cell (p := ⟨b, o + j, none⟩) hb1]; exact hc j hj⟩
theorem irow_value {w : World} {v : Value} {ps : List Nat} (h : IRow w v ps) :
    ∃ a cap, v = .slice a ps.length cap ∧ ps.length ≤ cap ∧ cap ≤ 9223372036854775807 ∧ Hid (0 < ps.length → ∃ b o, a = some ⟨b, o, none⟩ ∧ b < w.heap.size ∧ ∀ j, (hj : j < ps.length) → w.cell? ⟨b, o + j, none⟩ = some (.int .i64 ((ps[j] : Nat) : Int))) := by
  obtain ⟨a, cap, rfl, h1, h2, h3⟩ := h
  refine ⟨a, cap, rfl, h1, by unfold maxLen at h2; omega, fun hp => ?_⟩
  rcases h3 with h3 | h3
  · rw [h3] at hp; simp at hp
  · exact h3


theorem irow_own {w : World} {base : Nat} {v : Value} {ps : List Nat} (h : w.ownsRow base 3 1 v ps.length (ps.map I64)) : IRow w v ps := by
  have h0 := h
  obtain ⟨_, ⟨rfl, hn⟩ | ⟨g, cap, cur, rfl, hg, hh, hc, hm, hs, hx⟩⟩ := h
  · obtain rfl : ps = [] := List.length_eq_zero_iff.1 hn
    exact irow_nil w
  · exact ⟨_, cap, rfl, hc, hm, .inr ⟨g, 0, rfl, (h0.lt g rfl).2, fun j hj => by rw [Nat.zero_add, h0.cellAt j (by omega), List.getElem?_map, List.getElem?_eq_getElem hj]; rfl⟩⟩

/-- Places as they lie in a block of the call's own. -/
def ISRow (w : World) (g : Nat) (ps : List Nat) : Prop := g < w.heap.size ∧ ∀ j, (hj : j < ps.length) → w.cell? ⟨g, j, none⟩ = some (.int .i64 ((ps[j] : Nat) : Int)) ∧ w.frozen? ⟨g, j, none⟩ = false
theorem ISRow.kept {w w' : World} {g : Nat} {ps : List Nat} (h : ISRow w g ps) (hb : Below w.heap.size w w') : ISRow w' g ps :=
  ⟨Nat.lt_of_lt_of_le h.1 hb.size, fun j hj => by rw [hb.cell (p := ⟨g, j, none⟩) h.1, hb.frozen (p := ⟨g, j, none⟩) h.1]; exact h.2 j hj⟩
theorem ISRow.set {w : World} {g : Nat} {ps : List Nat} (h : ISRow w g ps) (k : Nat) (hk : k < ps.length) (c : Nat) : ISRow (w.setCell ⟨g, k, none⟩ (.int .i64 (c : Int))) g (ps.set k c) := by
  refine ⟨by simpa using h.1, fun j hj => ?_⟩
  have hj' : j < ps.length := by simpa using hj
  refine ⟨?_, by simpa using (h.2 j hj').2⟩
  rw [List.getElem_set]
  split
  · rename_i e; subst e; exact World.cell?_setCell_same _ _ _ (h.2 k hk).1
  · rename_i e
    rw [World.cell?_setCell_other _ _ _ _ (show (⟨g, k, none⟩ : Addr) ≠ ⟨g, j, none⟩ by intro h; cases h; exact e rfl)]
    exact (h.2 j hj').1
/-- A list of places that the call owns, or nil. -/
def OwnI (w : World) (base : Nat) (v : Value) (ps : List Nat) : Prop :=
  (v = .slice none 0 0 ∧ ps = []) ∨ ∃ g cap, v = .slice (some ⟨g, 0, none⟩) ps.length cap ∧ ps.length ≤ cap ∧ cap ≤ maxLen ∧ base ≤ g ∧ ISRow w g ps
theorem OwnI.row {w : World} {base : Nat} {v : Value} {ps : List Nat} (h : OwnI w base v ps) : IRow w v ps := by
  rcases h with ⟨rfl, rfl⟩ | ⟨g, cap, rfl, h1, h2, _, hs⟩
  · exact irow_nil w
  · exact ⟨_, cap, rfl, h1, h2, .inr ⟨g, 0, rfl, hs.1, fun j hj => by rw [Nat.zero_add]; exact (hs.2 j hj).1⟩⟩
theorem OwnI.kept {w w' : World} {base : Nat} {v : Value} {ps : List Nat} (h : OwnI w base v ps) (hb : Below w.heap.size w w') : OwnI w' base v ps := by
  rcases h with h | ⟨g, cap, rfl, h1, h2, h3, hs⟩
  · exact .inl h
  · exact .inr ⟨g, cap, rfl, h1, h2, h3, hs.kept hb⟩
theorem OwnI.block {w : World} {base : Nat} {v : Value} {ps : List Nat} (h : OwnI w base v ps) : ∀ k, v.ownBlock = some k → base ≤ k := by
  rcases h with ⟨rfl, _⟩ | ⟨g, cap, rfl, _, _, hb, _⟩
  · intro k hk; cases hk
  · intro k hk; cases hk; exact hb
theorem owni_own {w : World} {base : Nat} {v : Value} {ps : List Nat} (h : w.ownsRow base 3 1 v ps.length (ps.map I64)) : OwnI w base v ps := by
  have h0 := h
  obtain ⟨_, ⟨rfl, hn⟩ | ⟨g, cap, cur, rfl, hg, hh, hc, hm, hs, hx⟩⟩ := h
  · exact .inl ⟨rfl, List.length_eq_zero_iff.1 hn⟩
  · exact .inr ⟨g, cap, rfl, hc, hm, hg, (h0.lt g rfl).2, fun j hj => ⟨by rw [h0.cellAt j (by omega), List.getElem?_map, List.getElem?_eq_getElem hj]; rfl, h0.frozenAt j⟩⟩
end Go.Proofs.YtoanloballaclaaDoor
