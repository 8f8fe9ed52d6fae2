import Derived.Test.YtacmipcjhbkdcaaProg
import Derived.WalkKit
import Derived.WalkSpells
import Derived.WalkLawsBesides
import Derived.Handy
namespace Go.Proofs.Ytacmipcjhbkdcaa
open Go.RowKit

/-- A list of numbers as it lies in memory. -/
def ZRow (k : IntKind) (w : World) (v : Value) (zs : List Int) : Prop :=
  ∃ a cap, v = .slice a zs.length cap ∧ zs.length ≤ cap ∧ cap ≤ maxLen ∧ (zs = [] ∨ ∃ b o, a = some ⟨b, o, none⟩ ∧ b < w.heap.size ∧ ∀ j, (hj : j < zs.length) → w.cell? ⟨b, o + j, none⟩ = some (.int k zs[j]))
theorem zrow_nil (k : IntKind) (w : World) : ZRow k w (.slice none 0 0) [] := ⟨none, 0, rfl, Nat.le_refl _, by unfold maxLen; omega, .inl rfl⟩
theorem ZRow.kept {k : IntKind} {w w' : World} {v : Value} {zs : List Int} (h : ZRow k w v zs) (hb : Below w.heap.size w w') : ZRow k w' v zs := by
  obtain ⟨a, cap, rfl, h1, h2, h3⟩ := h
  refine ⟨a, cap, rfl, h1, h2, ?_⟩
  rcases h3 with h3 | ⟨b, o, rfl, hb1, hc⟩
  · exact .inl h3
  · exact .inr ⟨b, o, rfl, Nat.lt_of_lt_of_le hb1 hb.size, fun j hj => by rw [hb.cell (p := ⟨b, o + j, none⟩) hb1]; exact hc j hj⟩
theorem zrow_value {k : IntKind} {w : World} {v : Value} {zs : List Int} (h : ZRow k w v zs) :
    ∃ a cap, v = .slice a zs.length cap ∧ zs.length ≤ cap ∧ cap ≤ 9223372036854775807 ∧ Hid (0 < zs.length → ∃ b o, a = some ⟨b, o, none⟩ ∧ b < w.heap.size ∧ ∀ j, (hj : j < zs.length) → w.cell? ⟨b, o + j, none⟩ = some (.int k zs[j])) := by
  obtain ⟨a, cap, rfl, h1, h2, h3⟩ := h
  refine ⟨a, cap, rfl, h1, by unfold maxLen at h2; omega, fun hp => ?_⟩
  rcases h3 with h3 | h3
  · rw [h3] at hp; simp at hp
  · exact h3
end Go.Proofs.Ytacmipcjhbkdcaa
