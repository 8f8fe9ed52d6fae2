import Derived.Test.YtmhiopkpjdnddaaDoorMark
import Derived.Deep.RegionWith
namespace Go.Proofs.YtmhiopkpjdnddaaDoor
open Go.RowKit

theorem grown_refl (w : World) (row : Option Nat) : w.grownBy w row := ⟨rfl, rfl, rfl, Nat.le_refl _, fun _ _ _ => rfl⟩
theorem grown_below {w a b : World} {row : Option Nat} (h : w.grownBy a row) (k : Below a.heap.size a b) : w.grownBy b row :=
  ⟨k.os.trans h.os, k.tape.trans h.tape, k.output.trans h.output, Nat.le_trans h.size k.size, fun i hi hne => (k.block i (Nat.lt_of_lt_of_le hi h.size)).trans (h.block i hi hne)⟩
theorem grown_set {w a : World} {g k : Nat} {u : Value} (h : w.grownBy a (some g)) : w.grownBy (a.setCell ⟨g, k, none⟩ u) (some g) :=
  ⟨h.os, h.tape, h.output, by simpa using h.size, fun i hi hne => (Below.heap_setCell a ⟨g, k, none⟩ u i (fun e => hne (by rw [e]))).trans (h.block i hi hne)⟩
theorem grown_row {w a : World} {g : Nat} {v : Value} {P : List (List UInt8)} (h : w.grownBy a (some g)) (hr : Row w v P) (hne : ∀ b o n c, v = .slice (some ⟨b, o, none⟩) n c → P ≠ [] → b ≠ g) : Row a v P := by
  obtain ⟨x, cap, rfl, h1, h2, h3⟩ := hr
  refine ⟨x, cap, rfl, h1, h2, ?_⟩
  rcases h3 with h3 | ⟨b, o, rfl, hb1, hc⟩
  · exact .inl h3
  · by_cases hp : P = []
    · exact .inl hp
    · exact .inr ⟨b, o, rfl, Nat.lt_of_lt_of_le hb1 h.size, fun j hj => h.cell (hc j hj) (fun e => hne b o _ _ rfl hp (Option.some.inj e))⟩

/-- A list of texts that the call owns, or nil. -/
def OwnS (w : World) (base : Nat) (v : Value) (L : List (List UInt8)) : Prop :=
  (v = .slice none 0 0 ∧ L = []) ∨ ∃ g cap, v = .slice (some ⟨g, 0, none⟩) L.length cap ∧ L.length ≤ cap ∧ cap ≤ maxLen ∧ base ≤ g ∧ SRow w g L
theorem OwnS.row {w : World} {base : Nat} {v : Value} {L : List (List UInt8)} (h : OwnS w base v L) : Row w v L := by
  rcases h with ⟨rfl, rfl⟩ | ⟨g, cap, rfl, h1, h2, _, hs⟩
  · exact row_nil w
  · exact hs.row h1 h2
theorem OwnS.kept {w w' : World} {base : Nat} {v : Value} {L : List (List UInt8)} (h : OwnS w base v L) (hb : Below w.heap.size w w') : OwnS w' base v L := by
  rcases h with h | ⟨g, cap, rfl, h1, h2, h3, hs⟩
  · exact .inl h
  · exact .inr ⟨g, cap, rfl, h1, h2, h3, hs.kept hb⟩

def marks (n : Nat) : List (List UInt8) := (List.range n).map (fun i => mark (i + 1))
theorem marks_length (n : Nat) : (marks n).length = n := by simp [marks]
theorem marks_get (n k : Nat) (h : k < n) : (marks n)[k]'(by rw [marks_length]; exact h) = mark (k + 1) := by simp [marks]
/-- Behind k rounds. -/
def half (L : List (List UInt8)) (k : Nat) : List (List UInt8) := marks k ++ L.drop k
theorem half_length (L : List (List UInt8)) (k : Nat) (h : k ≤ L.length) : (half L k).length = L.length := by simp [half, marks]; omega
theorem half_zero (L : List (List UInt8)) : half L 0 = L := by simp [half, marks]
theorem half_end (L : List (List UInt8)) : half L L.length = marks L.length := by simp [half]
theorem half_next (L : List (List UInt8)) (k : Nat) (h : k < L.length) : half L (k + 1) = (half L k).set k (mark (k + 1)) := by
  unfold half
  have hm : (marks k).length = k := marks_length k
  rw [List.set_append_right _ _ (by omega), hm, Nat.sub_self, List.drop_eq_getElem_cons h]
  simp only [marks, List.range_succ, List.map_append, List.map_cons, List.map_nil, List.set_cons_zero, List.append_assoc, List.singleton_append]

theorem below_any {w wr w1 : World} (hb : Below w.heap.size w wr) (hb1 : Below wr.drew.heap.size wr.drew w1) : Below w.heap.size w w1 := hb.drew.trans (hb1.mono hb.size)

end Go.Proofs.YtmhiopkpjdnddaaDoor
