import Derived.Test.YtfbnigicigajeaaZ07
import Derived.Test.YtfbnigicigajeaaZ12
namespace Go.Proofs.Ytfbnigicigajeaa
open Go.RowKit

/-- The two cells of a column at a place of a block. -/
def ColAt (w : World) (b o : Nat) (x : Int × Int) : Prop := w.cell? ⟨b, o, none⟩ = some (.int .i64 x.1) ∧ w.cell? ⟨b, o + 1, none⟩ = some (.int .i64 x.2)
/-- A list of columns as it lies in memory. -/
def ColRow (w : World) (v : Value) (L : List (Int × Int)) : Prop :=
  ∃ a cap, v = .slice a L.length cap ∧ L.length ≤ cap ∧ cap ≤ maxLen ∧ (L = [] ∨ ∃ b o, a = some ⟨b, o, none⟩ ∧ b < w.heap.size ∧ ∀ j, (hj : j < L.length) → ColAt w b (o + j * 2) L[j])
theorem ColAt.kept {w w' : World} {b o : Nat} {x : Int × Int} (h : ColAt w b o x) (hb : Below w.heap.size w w') : ColAt w' b o x := by
  have hlt := World.block_lt_of_cell? _ _ h.1
  unfold ColAt
  rw [hb.cell (p := ⟨b, o, none⟩) hlt, hb.cell (p := ⟨b, o + 1, none⟩) hlt]
  exact h
theorem ColRow.kept {w w' : World} {v : Value} {L : List (Int × Int)} (h : ColRow w v L) (hb : Below w.heap.size w w') : ColRow w' v L := by
  obtain ⟨a, cap, rfl, h1, h2, h3⟩ := h
  refine ⟨a, cap, rfl, h1, h2, ?_⟩
  rcases h3 with h3 | ⟨b, o, rfl, hb1, hc⟩
  · exact .inl h3
  · exact .inr ⟨b, o, rfl, Nat.lt_of_lt_of_le hb1 hb.size, fun j hj => (hc j hj).kept hb⟩
theorem col_value {w : World} {v : Value} {L : List (Int × Int)} (h : ColRow w v L) : ∃ a cap, v = .slice a L.length cap ∧ L.length ≤ cap ∧ cap ≤ 9223372036854775807 ∧ Hid (0 < L.length → ∃ b o, a = some ⟨b, o, none⟩ ∧ b < w.heap.size ∧ ∀ j, (hj : j < L.length) → ColAt w b (o + j * 2) L[j]) := by
  obtain ⟨a, cap, rfl, h1, h2, h3⟩ := h
  unfold maxLen at h2
  refine ⟨a, cap, rfl, h1, by omega, fun hp => ?_⟩
  rcases h3 with rfl | h3
  · simp at hp
  · exact h3
def FzC (w : World) (b o : Nat) : Prop := w.frozen? ⟨b, o, none⟩ = false ∧ w.frozen? ⟨b, o + 1, none⟩ = false
/-- Columns as they lie in a block of the call's own. -/
def CoRow (w : World) (g : Nat) (L : List (Int × Int)) : Prop := g < w.heap.size ∧ ∀ j, (hj : j < L.length) → ColAt w g (j * 2) L[j] ∧ FzC w g (j * 2)
theorem CoRow.kept {w w' : World} {g : Nat} {L : List (Int × Int)} (h : CoRow w g L) (hb : Below w.heap.size w w') : CoRow w' g L := by
  refine ⟨Nat.lt_of_lt_of_le h.1 hb.size, fun j hj => ⟨(h.2 j hj).1.kept hb, ?_⟩⟩
  unfold FzC
  rw [hb.frozen (p := ⟨g, j * 2, none⟩) h.1, hb.frozen (p := ⟨g, j * 2 + 1, none⟩) h.1]
  exact (h.2 j hj).2
theorem CoRow.row {w : World} {g cap : Nat} {L : List (Int × Int)} (h : CoRow w g L) (hc : L.length ≤ cap) (hm : cap ≤ maxLen) : ColRow w (.slice (some ⟨g, 0, none⟩) L.length cap) L :=
  ⟨_, cap, rfl, hc, hm, .inr ⟨g, 0, rfl, h.1, fun j hj => by rw [Nat.zero_add]; exact (h.2 j hj).1⟩⟩
/-- A column stored. -/
def putC (w : World) (g o : Nat) (x : Int × Int) : World := (w.setCell ⟨g, o, none⟩ (.int .i64 x.1)).setCell ⟨g, o + 1, none⟩ (.int .i64 x.2)
theorem putC_size (w : World) (g o : Nat) (x : Int × Int) : (putC w g o x).heap.size = w.heap.size := by unfold putC; simp
theorem putC_frozen (w : World) (g o : Nat) (x : Int × Int) (p : Addr) : (putC w g o x).frozen? p = w.frozen? p := by unfold putC; simp
theorem putC_other {w : World} {g o : Nat} {x : Int × Int} {b c : Nat} (h : b ≠ g ∨ (c < o ∨ o + 1 < c)) : (putC w g o x).cell? ⟨b, c, none⟩ = w.cell? ⟨b, c, none⟩ := by
  have hn : ∀ k, k ≤ 1 → (⟨g, o + k, none⟩ : Addr) ≠ ⟨b, c, none⟩ := fun k hk e => by
    injection e with e1 e2
    rcases h with h | h
    · exact h e1.symm
    · omega
  unfold putC
  rw [World.cell?_setCell_other _ _ _ _ (hn 1 (by omega)), World.cell?_setCell_other _ _ _ _ (show (⟨g, o, none⟩ : Addr) ≠ ⟨b, c, none⟩ from hn 0 (by omega))]
theorem putC_at {w : World} {g o : Nat} {x y : Int × Int} (h : ColAt w g o y) : ColAt (putC w g o x) g o x := by
  have n : (⟨g, o, none⟩ : Addr) ≠ ⟨g, o + 1, none⟩ := fun e => by injection e with _ e2; omega
  obtain ⟨h0, h1⟩ := h
  unfold putC ColAt
  refine ⟨?_, ?_⟩
  · rw [World.cell?_setCell_other _ _ _ _ n.symm]
    exact World.cell?_setCell_same _ _ _ h0
  · exact World.cell?_setCell_same _ _ _ (by rw [World.cell?_setCell_other _ _ _ _ n]; exact h1)
theorem putC_below {B : Nat} {a w : World} (h : Below B a w) {g o : Nat} (hg : B ≤ g) (x : Int × Int) : Below B a (putC w g o x) :=
  (h.setCell (p := ⟨g, o, none⟩) hg _).setCell (p := ⟨g, o + 1, none⟩) hg _
theorem CoRow.set {w : World} {g : Nat} {L : List (Int × Int)} (h : CoRow w g L) (k : Nat) (hk : k < L.length) (x : Int × Int) : CoRow (putC w g (k * 2) x) g (L.set k x) := by
  refine ⟨by rw [putC_size]; exact h.1, fun j hj => ?_⟩
  have hj' : j < L.length := by simpa using hj
  refine ⟨?_, ?_⟩
  · rw [List.getElem_set]
    split
    · rename_i e; subst e; exact putC_at (h.2 k hk).1
    · rename_i e
      have h0 := (h.2 j hj').1
      unfold ColAt at h0 ⊢
      rw [putC_other (.inr (by omega)), putC_other (.inr (by omega))]
      exact h0
  · have h0 := (h.2 j hj').2
    unfold FzC at h0 ⊢
    rw [putC_frozen, putC_frozen]; exact h0
/-- What has been copied behind k rounds. -/
def partC (L : List (Int × Int)) (k : Nat) : List (Int × Int) := L.take k ++ List.replicate (L.length - k) (0, 0)
theorem partC_length (L : List (Int × Int)) (k : Nat) (h : k ≤ L.length) : (partC L k).length = L.length := by simp [partC]; omega
theorem partC_next (L : List (Int × Int)) (k : Nat) (h : k < L.length) : partC L (k + 1) = (partC L k).set k L[k] := by
  unfold partC
  have hm : (L.take k).length = k := by simp; omega
  rw [List.take_succ_eq_append_getElem h, List.set_append_right _ _ (by omega), hm, Nat.sub_self]
  obtain ⟨m, hm2⟩ : ∃ m, L.length - k = m + 1 := ⟨L.length - k - 1, by omega⟩
  rw [hm2, show L.length - (k + 1) = m by omega, List.replicate_succ]
  simp only [List.set_cons_zero, List.append_assoc, List.singleton_append]
theorem partC_end (L : List (Int × Int)) : partC L L.length = L := by simp [partC]
theorem made_at2 {n k r : Nat} {a b : Value} (hk : k < n) (hr : r < 2) : (madeCells #[a, b] (n * 2)).toList[k * 2 + r]? = [a, b][r]? := by
  unfold madeCells
  have h1 : k * 2 + r < n * 2 := by omega
  simp only [Array.toList_map, Array.toList_range, List.getElem?_map, List.getElem?_range h1, Option.map_some]
  rw [show (#[a, b] : Array Value).size = 2 from rfl, show (k * 2 + r) % 2 = r by omega]
  match r, hr with
  | 0, _ => rfl
  | 1, _ => rfl
end Go.Proofs.Ytfbnigicigajeaa

namespace Go.Proofs.Ytfbnigicigajeaa
open Go.RowKit

/-- A column among n; good columns; columns that can be picked by. -/
def colB (n : Int) (x : Int × Int) : Bool := decide (0 ≤ x.1) && inB x.2 0 (n - 1)
def goodA (L : List (Int × Int)) : Bool := inB (L.length : Int) 1 12 && L.all (colB L.length)
def mostB (t : Int) (x : Int × Int) : Bool := decide (x.1 ≤ t)
def fitA (t : Int) (L : List (Int × Int)) : Bool := L.all (mostB t) && goodA L && inB t 1 600
theorem call_on {L : List (Int × Int)} {p : Int × Int → Bool} {k : Nat} (hk : k < L.length) : (L.take (k + 1)).all p = ((L.take k).all p && p L[k]) := by
  rw [List.take_succ_eq_append_getElem hk, List.all_append]; simp
theorem call_bad {L : List (Int × Int)} {p : Int × Int → Bool} {k : Nat} (hk : k < L.length) (h : p L[k] = false) : L.all p = false := by
  rw [Bool.eq_false_iff]; intro h2
  have h3 := List.all_eq_true.1 h2 _ (List.getElem_mem hk)
  rw [h] at h3; cases h3
theorem goodA_bad {L : List (Int × Int)} {k : Nat} (hk : k < L.length) (h : colB L.length L[k] = false) : goodA L = false := by unfold goodA; rw [call_bad hk h]; simp
theorem goodA_len {L : List (Int × Int)} (h : inB (L.length : Int) 1 12 = false) : goodA L = false := by unfold goodA; rw [h]; simp
theorem goodA_all {L : List (Int × Int)} (h : L.all (colB L.length) = true) : goodA L = inB (L.length : Int) 1 12 := by unfold goodA; rw [h]; simp
theorem fitA_bad {t : Int} {L : List (Int × Int)} {k : Nat} (hk : k < L.length) (h : mostB t L[k] = false) : fitA t L = false := by unfold fitA; rw [call_bad hk h]; simp
theorem fitA_all {t : Int} {L : List (Int × Int)} (h : L.all (mostB t) = true) : fitA t L = (goodA L && inB t 1 600) := by unfold fitA; rw [h]; simp

end Go.Proofs.Ytfbnigicigajeaa

namespace Go.Proofs.Ytfbnigicigajeaa
open Go.RowKit

end Go.Proofs.Ytfbnigicigajeaa

namespace Go.Proofs.Ytfbnigicigajeaa
open Go.RowKit

/-- Who is picked by a draw. -/
def pkN (L : List (Int × Int)) (t d : Int) : Int := match L[(d.tdiv t).toNat]? with | some x => if d.tmod t < x.1 then d.tdiv t else x.2 | none => 0
def pkB (L : List (Int × Int)) (t d : Int) : Bool := fitA t L && inB d 0 ((L.length : Int) * t - 1)
def pkV (L : List (Int × Int)) (t d : Int) : Value := .tuple #[.int .i64 (if pkB L t d then pkN L t d else 0), .bool (pkB L t d)]
theorem pk_no {L : List (Int × Int)} {t d : Int} (h : pkB L t d = false) : pkV L t d = .tuple #[.int .i64 0, .bool false] := by unfold pkV; rw [h]; rfl
theorem pk_at {L : List (Int × Int)} {t d : Int} {k : Nat} (h : pkB L t d = true) (hk : k < L.length) (e : d.tdiv t = (k : Int)) : pkV L t d = .tuple #[.int .i64 (if d.tmod t < (L[k]).1 then (k : Int) else (L[k]).2), .bool true] := by
  unfold pkV pkN; rw [h, if_pos rfl, e, Int.toNat_natCast, List.getElem?_eq_getElem hk]
theorem pk_facts {L : List (Int × Int)} {t d : Int} (h : pkB L t d = true) : 1 ≤ t ∧ t ≤ 600 ∧ 0 ≤ d ∧ d ≤ (L.length : Int) * t - 1 ∧ L.length ≤ 12 ∧ ∃ k : Nat, k < L.length ∧ d.tdiv t = (k : Int) ∧ 0 ≤ d.tmod t ∧ d.tmod t < t := by
  unfold pkB fitA goodA inB at h
  simp only [Bool.and_eq_true, decide_eq_true_eq] at h
  obtain ⟨⟨⟨_, ⟨⟨_, hl⟩, _⟩⟩, ht1, ht2⟩, hd1, hd2⟩ := h
  have h0 : 0 ≤ d.tdiv t := Int.tdiv_nonneg hd1 (by omega)
  have h1 : d.tdiv t < (L.length : Int) := by
    rw [Int.tdiv_eq_ediv_of_nonneg hd1]
    exact Int.ediv_lt_of_lt_mul (by omega) (by omega)
  refine ⟨ht1, ht2, hd1, hd2, by omega, (d.tdiv t).toNat, by omega, by omega, ?_, ?_⟩
  · rw [Int.tmod_eq_emod_of_nonneg hd1]; exact Int.emod_nonneg _ (by omega)
  · rw [Int.tmod_eq_emod_of_nonneg hd1]; exact Int.emod_lt_of_pos _ (by omega)
theorem pk_ret {L : List (Int × Int)} {t d x : Int} {b : Bool} (h : pkV L t d = .tuple #[.int .i64 x, .bool b]) : Ending.returned (.tuple #[.int .i64 x, .bool b]) = .returned (pkV L t d) := by rw [h]
theorem mul_small {n t : Int} (h1 : 1 ≤ t) (h2 : t ≤ 600) (h3 : 0 ≤ n) (h4 : n ≤ 12) : 0 ≤ n * t ∧ n * t ≤ 7200 := by
  constructor
  · exact Int.mul_nonneg h3 (by omega)
  · have := Int.mul_le_mul h4 h2 (by omega) (by omega)
    omega
theorem fit_facts {L : List (Int × Int)} {t : Int} (h : fitA t L = true) : 1 ≤ t ∧ t ≤ 600 ∧ L.length ≤ 12 := by
  unfold fitA goodA inB at h
  simp only [Bool.and_eq_true, decide_eq_true_eq] at h
  omega

end Go.Proofs.Ytfbnigicigajeaa
