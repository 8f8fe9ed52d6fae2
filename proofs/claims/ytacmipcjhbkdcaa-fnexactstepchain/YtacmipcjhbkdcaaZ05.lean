import Derived.Test.YtacmipcjhbkdcaaZ04
import Derived.Test.YtacmipcjhbkdcaaZ03
namespace Go.Proofs.Ytacmipcjhbkdcaa
open Go.RowKit

/-- A name's labels; whether a text is a name. -/
def labelsOf (l : List UInt8) : List (List UInt8) := if l = [] then [] else cut 46 l
def nameB (l : List UInt8) : Bool := (labelsOf l).all labelB && (decide (l.length ≤ 60) && decide ((labelsOf l).length ≤ 8))

theorem ret_two {a b : Value} {c d : Value} (h : a = c) (k : b = d) : Ending.returned (.tuple #[a, b]) = .returned (.tuple #[c, d]) := by rw [h, k]
theorem val_bool {a b : Bool} (h : a = b) : Value.bool a = .bool b := by rw [h]

/-- The shape of a row that the call owns and that is not empty. -/
theorem own_shape {w : World} {base : Nat} {v : Value} {n : Nat} {xs : List Value} (h : w.ownsRow base 9 1 v n xs) (hn : 0 < n) :
    ∃ g cap, v = .slice (some ⟨g, 0, none⟩) n cap ∧ base ≤ g ∧ g < w.heap.size ∧ n ≤ cap ∧ cap ≤ maxLen ∧ ∀ j, j < n → w.cell? ⟨g, j, none⟩ = xs[j]? := by
  have h0 := h
  obtain ⟨hl, ⟨rfl, rfl⟩ | ⟨g, cap, cur, rfl, hg, hh, hc, hm, hs, hx⟩⟩ := h
  · omega
  · have := h0.lt g rfl
    exact ⟨g, cap, rfl, this.1, this.2, hc, hm, fun j hj => h0.cellAt j (by omega)⟩

theorem pieces_step {P : List (List UInt8)} {k : Nat} (h : (P.take k).all labelB = true) (hk : k < P.length) (ho : labelB P[k] = true) : (P.take (k + 1)).all labelB = true := by
  rw [List.take_succ_eq_append_getElem hk]; simp only [List.all_append, h, List.all_cons, ho, List.all_nil, Bool.and_true]
theorem pieces_full {P : List (List UInt8)} {k : Nat} (h : (P.take k).all labelB = true) (hk : ¬ k < P.length) : P.all labelB = true := by
  rwa [List.take_of_length_le (by omega)] at h
theorem pieces_not {P : List (List UInt8)} {k : Nat} (hk : k < P.length) (ho : labelB P[k] = false) : P.all labelB = false := by
  rw [Bool.eq_false_iff]; intro h
  have := List.all_eq_true.1 h P[k] (List.getElem_mem _)
  rw [ho] at this; cases this

theorem name_not {l : List UInt8} (hl : ¬ l = []) (h : (cut 46 l).all labelB = false) : nameB l = false := by
  unfold nameB labelsOf; rw [if_neg hl, h]; rfl
theorem name_is {l : List UInt8} (hl : ¬ l = []) (h : (cut 46 l).all labelB = true) : nameB l = (decide ((l.length : Int) ≤ 60) && decide (((cut 46 l).length : Int) ≤ 8)) := by
  unfold nameB labelsOf; rw [if_neg hl, h, Bool.true_and, Bool.eq_iff_iff]; simp; omega

end Go.Proofs.Ytacmipcjhbkdcaa
