import Derived.Test.YtoobaaklklommaaGreatDoorZ15
import Derived.Test.YtoobaaklklommaaGreatDoorZ12
import Derived.Test.YtoobaaklklommaaGreatDoorZ14
import Derived.Test.YtoobaaklklommaaGreatDoorZ11
import Derived.Test.YtoobaaklklommaaGreatDoorZ08
import Derived.Test.YtoobaaklklommaaGreatDoorZ17
import Derived.Deep.QuietTactic
import Derived.BigQuiet
namespace Go.Proofs.YtoobaaklklommaaGreatDoor
open Go.RowKit

/-! Changes in memory: five cells each (a kind, and a record's four); rows of such, for the laws. -/
abbrev ChgT : Type := Int × List UInt8 × Int × Int × List UInt8
def chgc (x : ChgT) : List Value := [.int .i64 x.1, .string ⟨x.2.1.toArray⟩, .int .i64 x.2.2.1, .int .i64 x.2.2.2.1, .string ⟨x.2.2.2.2.toArray⟩]
/-- The four cells of one at a place of a block. -/
def ChgAt (w : World) (b o : Nat) (x : ChgT) : Prop := ∀ r, r < 5 → w.cell? ⟨b, o + r, none⟩ = (chgc x)[r]?
theorem ChgAt.cells {w : World} {b o : Nat} {x : ChgT} (h : ChgAt w b o x) : w.cell? ⟨b, o, none⟩ = some (.int .i64 x.1) ∧ w.cell? ⟨b, o + 1, none⟩ = some (.string ⟨x.2.1.toArray⟩) ∧ w.cell? ⟨b, o + 2, none⟩ = some (.int .i64 x.2.2.1) ∧ w.cell? ⟨b, o + 3, none⟩ = some (.int .i64 x.2.2.2.1) ∧ w.cell? ⟨b, o + 4, none⟩ = some (.string ⟨x.2.2.2.2.toArray⟩) :=
  ⟨h 0 (by omega), h 1 (by omega), h 2 (by omega), h 3 (by omega), h 4 (by omega)⟩
theorem ChgAt.of {w : World} {b o : Nat} {x : ChgT} (h0 : w.cell? ⟨b, o, none⟩ = some (.int .i64 x.1)) (h1 : w.cell? ⟨b, o + 1, none⟩ = some (.string ⟨x.2.1.toArray⟩)) (h2 : w.cell? ⟨b, o + 2, none⟩ = some (.int .i64 x.2.2.1)) (h3 : w.cell? ⟨b, o + 3, none⟩ = some (.int .i64 x.2.2.2.1)) (h4 : w.cell? ⟨b, o + 4, none⟩ = some (.string ⟨x.2.2.2.2.toArray⟩)) : ChgAt w b o x := fun r hr => by
  match r, hr with
  | 0, _ => exact h0
  | 1, _ => exact h1
  | 2, _ => exact h2
  | 3, _ => exact h3
  | 4, _ => exact h4
/-- A list of such as it lies in memory. -/
def ChgRow (w : World) (v : Value) (L : List ChgT) : Prop :=
  ∃ a cap, v = .slice a L.length cap ∧ L.length ≤ cap ∧ cap ≤ maxLen ∧ (L = [] ∨ ∃ b o, a = some ⟨b, o, none⟩ ∧ b < w.heap.size ∧ ∀ j, (hj : j < L.length) → ChgAt w b (o + j * 5) L[j])
theorem ChgAt.kept {w w' : World} {b o : Nat} {x : ChgT} (h : ChgAt w b o x) (hb : Below w.heap.size w w') : ChgAt w' b o x := fun r hr => by
  have hlt := World.block_lt_of_cell? _ _ h.cells.1
  rw [hb.cell (p := ⟨b, o + r, none⟩) hlt]
  exact h r hr
theorem ChgRow.kept {w w' : World} {v : Value} {L : List ChgT} (h : ChgRow w v L) (hb : Below w.heap.size w w') : ChgRow w' v L := by
  obtain ⟨a, cap, rfl, h1, h2, h3⟩ := h
  refine ⟨a, cap, rfl, h1, h2, ?_⟩
  rcases h3 with h3 | ⟨b, o, rfl, hb1, hc⟩
  · exact .inl h3
  · exact .inr ⟨b, o, rfl, Nat.lt_of_lt_of_le hb1 hb.size, fun j hj => (hc j hj).kept hb⟩
theorem chg_value {w : World} {v : Value} {L : List ChgT} (h : ChgRow w v L) : ∃ a cap, v = .slice a L.length cap ∧ L.length ≤ cap ∧ cap ≤ 9223372036854775807 ∧ Hid (0 < L.length → ∃ b o, a = some ⟨b, o, none⟩ ∧ b < w.heap.size ∧ ∀ j, (hj : j < L.length) → ChgAt w b (o + j * 5) L[j]) := by
  obtain ⟨a, cap, rfl, h1, h2, h3⟩ := h
  unfold maxLen at h2
  refine ⟨a, cap, rfl, h1, by omega, fun hp => ?_⟩
  rcases h3 with rfl | h3
  · simp at hp
  · exact h3
theorem ChgRow.nil (w : World) : ChgRow w (.slice none 0 0) [] := ⟨none, 0, rfl, Nat.le_refl _, Nat.zero_le _, .inl rfl⟩
def FzC (w : World) (b o : Nat) : Prop := ∀ r, r < 5 → w.frozen? ⟨b, o + r, none⟩ = false
/-- Such in a block of the call's own. -/
def ChR5 (w : World) (g : Nat) (L : List ChgT) : Prop := g < w.heap.size ∧ ∀ j, (hj : j < L.length) → ChgAt w g (j * 5) L[j] ∧ FzC w g (j * 5)
theorem ChR5.kept {w w' : World} {g : Nat} {L : List ChgT} (h : ChR5 w g L) (hb : Below w.heap.size w w') : ChR5 w' g L := by
  refine ⟨Nat.lt_of_lt_of_le h.1 hb.size, fun j hj => ⟨(h.2 j hj).1.kept hb, fun r hr => ?_⟩⟩
  rw [hb.frozen (p := ⟨g, j * 5 + r, none⟩) h.1]
  exact (h.2 j hj).2 r hr
theorem ChR5.row {w : World} {g cap : Nat} {L : List ChgT} (h : ChR5 w g L) (hc : L.length ≤ cap) (hm : cap ≤ maxLen) : ChgRow w (.slice (some ⟨g, 0, none⟩) L.length cap) L :=
  ⟨_, cap, rfl, hc, hm, .inr ⟨g, 0, rfl, h.1, fun j hj => by rw [Nat.zero_add]; exact (h.2 j hj).1⟩⟩
theorem ChR5.row1 {w : World} {g : Nat} {L : List ChgT} (h : ChR5 w g L) (hl : L.length ≤ 1048576) : ChgRow w (.slice (some ⟨g, 0, none⟩) L.length L.length) L := h.row (Nat.le_refl _) (by unfold maxLen; omega)
theorem ChR5.kpt {w w' : World} {S : Nat → Prop} {g : Nat} {L : List ChgT} (h : ChR5 w g L) (hk : Kpt w w' S) (hn : ¬ S g) : ChR5 w' g L := by
  refine ⟨Nat.lt_of_lt_of_le h.1 hk.size, fun j hj => ?_⟩
  have hb := hk.block g h.1 hn
  have h0 := h.2 j hj
  refine ⟨fun r hr => ?_, fun r hr => ?_⟩
  · have h1 := h0.1 r hr
    unfold World.cell? at h1 ⊢
    simp only [hb] at h1 ⊢
    exact h1
  · have h1 := h0.2 r hr
    unfold World.frozen? at h1 ⊢
    simp only [hb] at h1 ⊢
    exact h1
theorem ChR5.put {w : World} {g : Nat} {L : List ChgT} (h : ChR5 w g L) (k : Nat) (hk : k < L.length) (r : Nat) (hr : r < 5) (u : Value) (x : ChgT) (hx : chgc x = (chgc L[k]).set r u) : ChR5 (w.setCell ⟨g, k * 5 + r, none⟩ u) g (L.set k x) := by
  refine ⟨by simp; exact h.1, fun j hj => ?_⟩
  have hj' : j < L.length := by simpa using hj
  refine ⟨fun q hq => ?_, ?_⟩
  · rw [List.getElem_set]
    by_cases e : k = j
    · subst e
      rw [if_pos rfl, hx]
      have h0 := (h.2 k hk).1 q hq
      by_cases e2 : q = r
      · subst e2
        have hs : (chgc L[k])[q]? = some ((chgc L[k])[q]'hq) := List.getElem?_eq_getElem hq
        rw [World.cell?_setCell_same _ _ _ (h0.trans hs), List.getElem?_set_self (by exact hq)]
      · rw [World.cell?_setCell_other _ _ _ _ (fun e => by injection e with _ e; omega), h0, List.getElem?_set_ne (fun e => e2 e.symm)]
    · rw [if_neg e, World.cell?_setCell_other _ _ _ _ (fun e => by injection e with _ e; omega)]
      exact (h.2 j hj').1 q hq
  · have h0 := (h.2 j hj').2
    unfold FzC at h0 ⊢
    simpa using h0
/-- One stored. -/
def putC5 (w : World) (g o : Nat) (x : ChgT) : World := ((((w.setCell ⟨g, o, none⟩ (.int .i64 x.1)).setCell ⟨g, o + 1, none⟩ (.string ⟨x.2.1.toArray⟩)).setCell ⟨g, o + 2, none⟩ (.int .i64 x.2.2.1)).setCell ⟨g, o + 3, none⟩ (.int .i64 x.2.2.2.1)).setCell ⟨g, o + 4, none⟩ (.string ⟨x.2.2.2.2.toArray⟩)
theorem putC5_below {B : Nat} {a w : World} (h : Below B a w) {g o : Nat} (hg : B ≤ g) (x : ChgT) : Below B a (putC5 w g o x) :=
  ((((h.setCell (p := ⟨g, o, none⟩) hg _).setCell (p := ⟨g, o + 1, none⟩) hg _).setCell (p := ⟨g, o + 2, none⟩) hg _).setCell (p := ⟨g, o + 3, none⟩) hg _).setCell (p := ⟨g, o + 4, none⟩) hg _
theorem ChR5.set {w : World} {g : Nat} {L : List ChgT} (h : ChR5 w g L) (k : Nat) (hk : k < L.length) (x : ChgT) : ChR5 (putC5 w g (k * 5) x) g (L.set k x) := by
  obtain ⟨y, hy⟩ : ∃ y, y = L[k] := ⟨_, rfl⟩
  have h1 := h.put k hk 0 (by omega) (.int .i64 x.1) (x.1, y.2.1, y.2.2.1, y.2.2.2.1, y.2.2.2.2) (by rw [hy]; rfl)
  have h2 := h1.put k (by simpa using hk) 1 (by omega) (.string ⟨x.2.1.toArray⟩) (x.1, x.2.1, y.2.2.1, y.2.2.2.1, y.2.2.2.2) (by rw [List.getElem_set_self]; rfl)
  rw [List.set_set] at h2
  have h3 := h2.put k (by simpa using hk) 2 (by omega) (.int .i64 x.2.2.1) (x.1, x.2.1, x.2.2.1, y.2.2.2.1, y.2.2.2.2) (by rw [List.getElem_set_self]; rfl)
  rw [List.set_set] at h3
  have h4 := h3.put k (by simpa using hk) 3 (by omega) (.int .i64 x.2.2.2.1) (x.1, x.2.1, x.2.2.1, x.2.2.2.1, y.2.2.2.2) (by rw [List.getElem_set_self]; rfl)
  rw [List.set_set] at h4
  have h5 := h4.put k (by simpa using hk) 4 (by omega) (.string ⟨x.2.2.2.2.toArray⟩) x (by rw [List.getElem_set_self]; rfl)
  rw [List.set_set] at h5
  exact h5
/-- What has been copied behind k rounds. -/
def partC5 (L : List ChgT) (k : Nat) : List ChgT := L.take k ++ List.replicate (L.length - k) (0, [], 0, 0, [])
theorem partC5_length (L : List ChgT) (k : Nat) (h : k ≤ L.length) : (partC5 L k).length = L.length := by simp [partC5]; omega
theorem partC5_next (L : List ChgT) (k : Nat) (h : k < L.length) : partC5 L (k + 1) = (partC5 L k).set k L[k] := by
  unfold partC5
  have hm : (L.take k).length = k := by simp; omega
  rw [List.take_succ_eq_append_getElem h, List.set_append_right _ _ (by omega), hm, Nat.sub_self]
  obtain ⟨m, hm2⟩ : ∃ m, L.length - k = m + 1 := ⟨L.length - k - 1, by omega⟩
  rw [hm2, show L.length - (k + 1) = m by omega, List.replicate_succ]
  simp only [List.set_cons_zero, List.append_assoc, List.singleton_append]
theorem partC5_end (L : List ChgT) : partC5 L L.length = L := by simp [partC5]
theorem info_chg : (Tryz.prog.info? 112).map (fun i => (i.zero, i.size, i.bytes)) = some (some (.agg #[.int .i64 0, .string ⟨#[]⟩, .int .i64 0, .int .i64 0, .string ⟨#[]⟩]), 5, 56) := by kernel_rfl
theorem made_atC {n k r : Nat} {a b c d e : Value} (hk : k < n) (hr : r < 5) : (madeCells #[a, b, c, d, e] (n * 5)).toList[k * 5 + r]? = [a, b, c, d, e][r]? := by
  unfold madeCells
  have h1 : k * 5 + r < n * 5 := by omega
  simp only [Array.toList_map, Array.toList_range, List.getElem?_map, List.getElem?_range h1, Option.map_some]
  rw [show (#[a, b, c, d, e] : Array Value).size = 5 from rfl, show (k * 5 + r) % 5 = r by omega]
  match r, hr with
  | 0, _ => rfl
  | 1, _ => rfl
  | 2, _ => rfl
  | 3, _ => rfl
  | 4, _ => rfl
theorem made_chr {w w1 : World} {L : List ChgT} (hg : w.heap.size < w1.heap.size) (h : w1.ownsRow w.heap.size 112 5 (.slice (some ⟨w.heap.size, 0, none⟩) L.length L.length) L.length (madeCells #[.int .i64 0, .string ⟨#[]⟩, .int .i64 0, .int .i64 0, .string ⟨#[]⟩] (L.length * 5)).toList) : ChR5 w1 w.heap.size (partC5 L 0) := by
  have hp : partC5 L 0 = List.replicate L.length (0, [], 0, 0, []) := by simp [partC5]
  refine ⟨hg, fun j hj => ⟨fun r hr => ?_, fun r _ => h.frozenAt _⟩⟩
  have hj' : j < L.length := by rw [hp] at hj; simpa using hj
  have hx : (partC5 L 0)[j] = (0, [], 0, 0, []) := by simp only [hp]; exact List.getElem_replicate _
  rw [hx, h.cellAt (j * 5 + r) (by omega), made_atC hj' hr]; rfl
theorem box5c {w W : World} {v0 v1 v2 v3 v4 : Value} {t : TypeId} (h : W.heap[w.heap.size]? = some (.cells #[v0, v1, v2, v3, v4] t)) : W.cell? ⟨w.heap.size, 0, none⟩ = some v0 ∧ W.cell? ⟨w.heap.size, 1, none⟩ = some v1 ∧ W.cell? ⟨w.heap.size, 2, none⟩ = some v2 ∧ W.cell? ⟨w.heap.size, 3, none⟩ = some v3 ∧ W.cell? ⟨w.heap.size, 4, none⟩ = some v4 := by
  refine ⟨?_, ?_, ?_, ?_, ?_⟩
  all_goals (unfold World.cell?; rw [h]; rfl)
theorem cells5 {W : World} {b : Nat} {v0 v1 v2 v3 v4 : Value} {t : TypeId} (h : W.heap[b]? = some (.cells #[v0, v1, v2, v3, v4] t)) : (W.cell? ⟨b, 0, none⟩ = some v0 ∧ W.cell? ⟨b, 1, none⟩ = some v1 ∧ W.cell? ⟨b, 2, none⟩ = some v2 ∧ W.cell? ⟨b, 3, none⟩ = some v3 ∧ W.cell? ⟨b, 4, none⟩ = some v4) ∧ ∀ j, W.frozen? ⟨b, j, none⟩ = false := by
  refine ⟨⟨?_, ?_, ?_, ?_, ?_⟩, fun j => ?_⟩
  all_goals first
    | (unfold World.cell?; rw [h]; rfl)
    | (unfold World.frozen?; rw [h]; simp)
theorem zon3_cells {W : World} {b : Nat} {v0 v1 v2 : Value} {t : TypeId} (h : W.heap[b]? = some (.cells #[v0, v1, v2] t)) :
    (W.cell? ⟨b, 0, none⟩ = some v0 ∧ W.cell? ⟨b, 1, none⟩ = some v1 ∧ W.cell? ⟨b, 2, none⟩ = some v2) ∧ (W.frozen? ⟨b, 0, none⟩ = false ∧ W.frozen? ⟨b, 1, none⟩ = false ∧ W.frozen? ⟨b, 2, none⟩ = false) := by
  refine ⟨⟨?_, ?_, ?_⟩, ⟨?_, ?_, ?_⟩⟩
  all_goals first
    | (unfold World.cell?; rw [h]; rfl)
    | (unfold World.frozen?; rw [h]; simp)
theorem pt3_heap {w : World} {g : Nat} {t : TypeId} {v0 v1 v2 u0 u1 u2 : Value} (h : w.heap[g]? = some (.cells #[u0, u1, u2] t)) : (((w.setCell ⟨g, 0, none⟩ v0).setCell ⟨g, 1, none⟩ v1).setCell ⟨g, 2, none⟩ v2).heap[g]? = some (.cells #[v0, v1, v2] t) := by
  have e0 := heap_setCell_same _ _ 0 _ _ v0 h
  have e1 := heap_setCell_same _ _ 1 _ _ v1 e0
  have e2 := heap_setCell_same _ _ 2 _ _ v2 e1
  simpa using e2
theorem putC5_heap {w : World} {g : Nat} {t : TypeId} {x : ChgT} {u0 u1 u2 u3 u4 : Value} (h : w.heap[g]? = some (.cells #[u0, u1, u2, u3, u4] t)) : (putC5 w g 0 x).heap[g]? = some (.cells #[.int .i64 x.1, .string ⟨x.2.1.toArray⟩, .int .i64 x.2.2.1, .int .i64 x.2.2.2.1, .string ⟨x.2.2.2.2.toArray⟩] t) := by
  have e0 := heap_setCell_same _ _ 0 _ _ (.int .i64 x.1) h
  have e1 := heap_setCell_same _ _ 1 _ _ (.string ⟨x.2.1.toArray⟩) e0
  have e2 := heap_setCell_same _ _ 2 _ _ (.int .i64 x.2.2.1) e1
  have e3 := heap_setCell_same _ _ 3 _ _ (.int .i64 x.2.2.2.1) e2
  have e4 := heap_setCell_same _ _ 4 _ _ (.string ⟨x.2.2.2.2.toArray⟩) e3
  unfold putC5
  simpa using e4
set_option maxRecDepth 20000 in
set_option maxHeartbeats 2000000 in
theorem toChange_any (x : ChgT) (w : World) :
    Calls Tryz.prog 92 #[.agg #[.int .i64 x.1, .string ⟨x.2.1.toArray⟩, .int .i64 x.2.2.1, .int .i64 x.2.2.2.1, .string ⟨x.2.2.2.2.toArray⟩]] w fun e w' => e = .returned (.agg #[.int .i64 x.1, .string ⟨x.2.1.toArray⟩, .int .i64 x.2.2.1, .int .i64 x.2.2.2.1, .string ⟨x.2.2.2.2.toArray⟩]) ∧ Below w.heap.size w w' := by
  have HR : Hid (∀ W, Calls Tryz.prog 120 #[.agg #[.string ⟨x.2.1.toArray⟩, .int .i64 x.2.2.1, .int .i64 x.2.2.2.1, .string ⟨x.2.2.2.2.toArray⟩]] W fun e w' => e = .returned (.agg #[.string ⟨x.2.1.toArray⟩, .int .i64 x.2.2.1, .int .i64 x.2.2.2.1, .string ⟨x.2.2.2.2.toArray⟩]) ∧ Below W.heap.size W w') := fun W => toRecord_any ⟨x.2.1.toArray⟩ ⟨x.2.2.2.2.toArray⟩ x.2.2.1 x.2.2.2.1 W
  obtain ⟨W0, hW0⟩ : ∃ W0, W0 = ((w.alloc (.cells #[.int .i64 x.1, .string ⟨x.2.1.toArray⟩, .int .i64 x.2.2.1, .int .i64 x.2.2.2.1, .string ⟨x.2.2.2.2.toArray⟩] 128)).alloc (.cells #[.int .i64 0, .string ⟨#[]⟩, .int .i64 0, .int .i64 0, .string ⟨#[]⟩] 112)).alloc (.cells #[.int .i64 x.1, .string ⟨#[]⟩, .int .i64 0, .int .i64 0, .string ⟨#[]⟩] 112) := ⟨_, rfl⟩
  have HW0 : Hid (((w.alloc (.cells #[.int .i64 x.1, .string ⟨x.2.1.toArray⟩, .int .i64 x.2.2.1, .int .i64 x.2.2.2.1, .string ⟨x.2.2.2.2.toArray⟩] 128)).alloc (.cells #[.int .i64 0, .string ⟨#[]⟩, .int .i64 0, .int .i64 0, .string ⟨#[]⟩] 112)).alloc (.cells #[.int .i64 x.1, .string ⟨#[]⟩, .int .i64 0, .int .i64 0, .string ⟨#[]⟩] 112) = W0) := hW0.symm
  have hs1 : (w.alloc (.cells #[.int .i64 x.1, .string ⟨x.2.1.toArray⟩, .int .i64 x.2.2.1, .int .i64 x.2.2.2.1, .string ⟨x.2.2.2.2.toArray⟩] 128)).heap.size = w.heap.size + 1 := by simp
  have hs2 : ((w.alloc (.cells #[.int .i64 x.1, .string ⟨x.2.1.toArray⟩, .int .i64 x.2.2.1, .int .i64 x.2.2.2.1, .string ⟨x.2.2.2.2.toArray⟩] 128)).alloc (.cells #[.int .i64 0, .string ⟨#[]⟩, .int .i64 0, .int .i64 0, .string ⟨#[]⟩] 112)).heap.size = w.heap.size + 1 + 1 := by simp
  have hs3 : W0.heap.size = w.heap.size + 1 + 1 + 1 := by rw [hW0]; simp
  have hb0 : Below w.heap.size w W0 := by rw [hW0]; exact (((Below.refl _ _).alloc (Nat.le_refl _) _).alloc (by simp) _).alloc (by simp; omega) _
  have hB : W0.heap[w.heap.size + 1]? = some (.cells #[.int .i64 0, .string ⟨#[]⟩, .int .i64 0, .int .i64 0, .string ⟨#[]⟩] 112) := by
    rw [hW0, Below.heap_alloc _ _ _ (by omega), ← hs1]; exact blk_new _ _
  have hC : W0.heap[w.heap.size + 1 + 1]? = some (.cells #[.int .i64 x.1, .string ⟨#[]⟩, .int .i64 0, .int .i64 0, .string ⟨#[]⟩] 112) := by
    rw [hW0, ← hs2]; exact blk_new _ _
  have HX : Hid (∀ W, Below W0.heap.size W0 W → W.heap[w.heap.size + 1]? = some (.cells #[.int .i64 0, .string ⟨#[]⟩, .int .i64 0, .int .i64 0, .string ⟨#[]⟩] 112) ∧ W.heap[w.heap.size + 1 + 1]? = some (.cells #[.int .i64 x.1, .string ⟨#[]⟩, .int .i64 0, .int .i64 0, .string ⟨#[]⟩] 112)) := fun W hW => ⟨(hW.block _ (by omega)).trans hB, (hW.block _ (by omega)).trans hC⟩
  have HB0 : Hid (Below w.heap.size w W0) := hb0
  clear hW0 hs1 hs2 hs3 hb0 hB hC
  go_enter Tryz.func92, Tryz.ntmps92
  go_wp2_with fail
  rw [HW0.out]
  refine (HR.out _).mono ?_
  rintro e w1 ⟨rfl, hb1⟩
  obtain ⟨hx1, hx2⟩ := HX.out w1 hb1
  obtain ⟨⟨c0, c1, c2, c3, c4⟩, cf⟩ := cells5 hx1
  obtain ⟨⟨d0, d1, d2, d3, d4⟩, df⟩ := cells5 hx2
  have f0 := cf 0
  have f1 := cf 1
  have f2 := cf 2
  have f3 := cf 3
  have f4 := cf 4
  have g0 := df 0
  have g1 := df 1
  have g2 := df 2
  have g3 := df 3
  have g4 := df 4
  have HX1 : Hid (w1.heap[w.heap.size + 1]? = some (.cells #[.int .i64 0, .string ⟨#[]⟩, .int .i64 0, .int .i64 0, .string ⟨#[]⟩] 112)) := hx1
  have hbw := HB0.out.trans (hb1.mono HB0.out.size)
  clear cf df hx1 hx2 hb1
  go_wp2_with fail
  (try simp only [Exit.inBlock, Exit.then])
  refine bodyPost_ret (results_cell_row rfl _ _ (w.heap.size + 1) 112 #[.int .i64 x.1, .string ⟨x.2.1.toArray⟩, .int .i64 x.2.2.1, .int .i64 x.2.2.2.1, .string ⟨x.2.2.2.2.toArray⟩] (0, 0) _ rfl ?_ Tryz.underlying112 rfl (by kernel_rfl)) rfl ⟨rfl, ?_⟩
  · exact putC5_heap (by rw [heap_setCell_other _ _ _ _ (show w.heap.size + 1 ≠ w.heap.size + 1 + 1 by omega), heap_setCell_other _ _ _ _ (show w.heap.size + 1 ≠ w.heap.size + 1 + 1 by omega), heap_setCell_other _ _ _ _ (show w.heap.size + 1 ≠ w.heap.size + 1 + 1 by omega), heap_setCell_other _ _ _ _ (show w.heap.size + 1 ≠ w.heap.size + 1 + 1 by omega)]; exact HX1.out)
  · exact putC5_below (o := 0) ((((hbw.setCell (p := ⟨w.heap.size + 1 + 1, 1, none⟩) (by show w.heap.size ≤ w.heap.size + 1 + 1; omega) _).setCell (p := ⟨w.heap.size + 1 + 1, 2, none⟩) (by show w.heap.size ≤ w.heap.size + 1 + 1; omega) _).setCell (p := ⟨w.heap.size + 1 + 1, 3, none⟩) (by show w.heap.size ≤ w.heap.size + 1 + 1; omega) _).setCell (p := ⟨w.heap.size + 1 + 1, 4, none⟩) (by show w.heap.size ≤ w.heap.size + 1 + 1; omega) _) (by omega) x
set_option maxRecDepth 20000 in
set_option maxHeartbeats 1000000 in
theorem toChangeS_any (v : Value) (L : List ChgT) (w : World) (hr : ChgRow w v L) (hl : L.length ≤ 1048576) :
    Calls Tryz.prog 54 #[v] w fun e w' => e = .returned (.slice (some ⟨w.heap.size, 0, none⟩) L.length L.length) ∧ ChR5 w' w.heap.size L ∧ Below w.heap.size w w' := by
  obtain ⟨i0, hi, hz0, hz1, hz2⟩ := info_parts info_chg
  obtain ⟨a, cap, rfl, hcap, hmax, HROW⟩ := chg_value hr
  have HTO : Hid (∀ (x : ChgT) W, Calls Tryz.prog 92 #[.agg #[.int .i64 x.1, .string ⟨x.2.1.toArray⟩, .int .i64 x.2.2.1, .int .i64 x.2.2.2.1, .string ⟨x.2.2.2.2.toArray⟩]] W fun e w' => e = .returned (.agg #[.int .i64 x.1, .string ⟨x.2.1.toArray⟩, .int .i64 x.2.2.1, .int .i64 x.2.2.2.1, .string ⟨x.2.2.2.2.toArray⟩]) ∧ Below W.heap.size W w') := fun x W => toChange_any x W
  clear hr
  go_enter Tryz.func54, Tryz.ntmps54
  go_wp2_with (at_make; refine wpList_make_full _ rfl _ _ 47 rfl w.heap.size 112 i0 (.agg #[.int .i64 0, .string ⟨#[]⟩, .int .i64 0, .int .i64 0, .string ⟨#[]⟩]) 5 Tryz.underlying47 hi hz0 hz1 _ _ _ _ L.length rfl rfl rfl rfl ?b2 ?b3 ?b4 ?_)
  case b2 => rw [hz2]; omega
  case b3 => unfold maxLen; omega
  case b4 => exact Nat.le_refl _
  intro w1 hown hgrow
  have hb1 : Below w.heap.size w w1 := (Below.refl _ _).grown hgrow (Nat.le_refl _) (fun k h => by cases h)
  have hlt1 : w.heap.size < w1.heap.size := (hown.lt w.heap.size rfl).2
  have HS1 : Hid (ChR5 w1 w.heap.size (partC5 L 0)) := made_chr hlt1 hown
  clear hown hgrow hlt1
  go_wp2_with fail
  go_loopw [4] (fun i wr => ∃ k : Nat, k ≤ L.length ∧ i = .int .i64 (k : Int) ∧ Hid (ChR5 wr w.heap.size (partC5 L k)) ∧ Below w.heap.size w wr) (fun i _ => L.length - (intOf i).toNat)
  case atStart => exact ⟨0, Nat.zero_le _, rfl, HS1, hb1⟩
  case round =>
    obtain ⟨k, hk, rfl, HR, hb⟩ := hrel
    clear HS1 hb1
    by_cases hlt : k < L.length
    · obtain ⟨b, o, ha, hbl, hcel⟩ := HROW.out (by omega)
      rw [ha]
      obtain ⟨c0, c1, c2, c3, c4⟩ := ((hcel k hlt).kept hb).cells
      have HN : Hid (partC5 L (k + 1) = (partC5 L k).set k (L[k]'hlt)) := partC5_next L k hlt
      have hlp : k < (partC5 L k).length := by rw [partC5_length L k hk]; exact hlt
      obtain ⟨x, hxe⟩ : ∃ x, x = L[k]'hlt := ⟨_, rfl⟩
      rw [← hxe] at c0 c1 c2 c3 c4 HN
      have HST : Hid (∀ W, Below wr.heap.size wr W → ChR5 W w.heap.size (partC5 L k) ∧ ChR5 (putC5 W w.heap.size (k * 5) x) w.heap.size (partC5 L (k + 1))) := fun W hW => by
        have h1 := HR.out.kept hW
        exact ⟨h1, by rw [HN.out]; exact h1.set k hlp x⟩
      have HLP : Hid (k < (partC5 L k).length) := hlp
      clear hcel hxe hlp
      go_wp2_with fail
      refine (HTO.out x _).mono ?_
      rintro e w2 ⟨rfl, hb2⟩
      have hst := HST.out w2 hb2
      obtain ⟨m0, m1, m2, m3, m4⟩ := (hst.1.2 k HLP.out).1.cells
      have f0 := (hst.1.2 k HLP.out).2 0 (by omega)
      have f1 := (hst.1.2 k HLP.out).2 1 (by omega)
      have f2 := (hst.1.2 k HLP.out).2 2 (by omega)
      have f3 := (hst.1.2 k HLP.out).2 3 (by omega)
      have f4 := (hst.1.2 k HLP.out).2 4 (by omega)
      rw [Nat.add_zero] at f0
      have HQ : Hid (ChR5 (putC5 w2 w.heap.size (k * 5) x) w.heap.size (partC5 L (k + 1))) := hst.2
      have hb3 : Below w.heap.size w (putC5 w2 w.heap.size (k * 5) x) := putC5_below (hb.trans (hb2.mono hb.size)) (Nat.le_refl _) x
      unfold putC5 at HQ hb3
      obtain ⟨y, hy⟩ : ∃ y, y = (partC5 L k)[k]'HLP.out := ⟨_, rfl⟩
      rw [← hy] at m0 m1 m2 m3 m4
      clear hst hb2 hy c0 c1 c2 c3 c4
      go_wp2_with fail
      go_roundw
      case rel => exact ⟨k + 1, by omega, by go_num, HQ, hb3⟩
      case measure => simp [intOf]; omega
    · have hfull : partC5 L k = L := by rw [show k = L.length by omega]; exact partC5_end L
      rw [hfull] at HR
      have HRR : Hid (ChR5 wr w.heap.size L) := HR
      clear hfull HR
      go_wp2_with fail
      go_ret
      exact ⟨rfl, HRR.out, hb⟩

set_option maxRecDepth 20000 in
set_option maxHeartbeats 1000000 in
theorem eqChange_same (x : ChgT) (w : World) :
    Calls Tryz.prog 99 #[.agg #[.int .i64 x.1, .string ⟨x.2.1.toArray⟩, .int .i64 x.2.2.1, .int .i64 x.2.2.2.1, .string ⟨x.2.2.2.2.toArray⟩], .agg #[.int .i64 x.1, .string ⟨x.2.1.toArray⟩, .int .i64 x.2.2.1, .int .i64 x.2.2.2.1, .string ⟨x.2.2.2.2.toArray⟩]] w fun e w' => e = .returned (.bool true) ∧ Below w.heap.size w w' := by
  have e1 : (x.1 != x.1) = false := by simp
  have HR : Hid (∀ W, Calls Tryz.prog 128 #[.agg #[.string ⟨x.2.1.toArray⟩, .int .i64 x.2.2.1, .int .i64 x.2.2.2.1, .string ⟨x.2.2.2.2.toArray⟩], .agg #[.string ⟨x.2.1.toArray⟩, .int .i64 x.2.2.1, .int .i64 x.2.2.2.1, .string ⟨x.2.2.2.2.toArray⟩]] W fun e w' => e = .returned (.bool true) ∧ Below W.heap.size W w') := fun W => eqRecordQ_same x.2 W
  go_enter Tryz.func99, Tryz.ntmps99
  go_wp2_with fail
  refine (HR.out _).mono ?_
  rintro e w1 ⟨rfl, hb1⟩
  have hbw : Below w.heap.size w w1 := (((Below.refl _ _).alloc (Nat.le_refl _) _).alloc (by simp) _).trans (hb1.mono (by simp; omega))
  clear hb1
  go_wp2_with fail
  go_ret
  exact ⟨rfl, hbw⟩
set_option maxRecDepth 20000 in
set_option maxHeartbeats 1000000 in
theorem eqChangeS_same (v1 v2 : Value) (L : List ChgT) (w : World) (h1 : ChgRow w v1 L) (h2 : ChgRow w v2 L) :
    Calls Tryz.prog 59 #[v1, v2] w fun e w' => e = .returned (.bool true) ∧ Below w.heap.size w w' := by
  obtain ⟨a1, cap1, rfl, hc1, hm1, HR1⟩ := chg_value h1
  obtain ⟨a2, cap2, rfl, hc2, hm2, HR2⟩ := chg_value h2
  have el : ((L.length : Int) != (L.length : Int)) = false := by simp
  clear h1 h2
  go_enter Tryz.func59, Tryz.ntmps59
  go_wp2_with fail
  go_loopw [5] (fun i wr => ∃ k : Nat, k ≤ L.length ∧ i = .int .i64 (k : Int) ∧ Below w.heap.size w wr) (fun i _ => L.length - (intOf i).toNat)
  case atStart => exact ⟨0, Nat.zero_le _, rfl, Below.refl _ _⟩
  case round =>
    obtain ⟨k, hk, rfl, hb⟩ := hrel
    by_cases hlt : k < L.length
    · obtain ⟨b1, o1, ha1, hbl1, hcel1⟩ := HR1.out (by omega)
      obtain ⟨b2, o2, ha2, hbl2, hcel2⟩ := HR2.out (by omega)
      rw [ha1, ha2]
      have q1 := hcel1 k hlt
      have q2 := hcel2 k hlt
      obtain ⟨x, hx⟩ : ∃ x, x = L[k]'hlt := ⟨_, rfl⟩
      rw [← hx] at q1 q2
      have HC : Hid (∀ W, Below w.heap.size w W → ChgAt W b1 (o1 + k * 5) x ∧ ChgAt W b2 (o2 + k * 5) x) := fun W hW => ⟨q1.kept hW, q2.kept hW⟩
      have HEQ2 : Hid (∀ W, Calls Tryz.prog 99 #[.agg #[.int .i64 x.1, .string ⟨x.2.1.toArray⟩, .int .i64 x.2.2.1, .int .i64 x.2.2.2.1, .string ⟨x.2.2.2.2.toArray⟩], .agg #[.int .i64 x.1, .string ⟨x.2.1.toArray⟩, .int .i64 x.2.2.1, .int .i64 x.2.2.2.1, .string ⟨x.2.2.2.2.toArray⟩]] W fun e w' => e = .returned (.bool true) ∧ Below W.heap.size W w') := fun W => eqChange_same x W
      have hki : (k : Int) < (L.length : Int) := by omega
      have hbd := hb.drew
      clear hcel1 hcel2 hx q1 q2
      go_wp2_with fail
      refine wp_region_quiet (C := fun W => Below w.heap.size w W) (by kernel_rfl) (by kernel_rfl) hbd ?_
      refine wpQuiet_step (fun K hK => ?_)
      rw [if_pos (by rfl)]
      refine ⟨.slice (some ⟨b1, o1, none⟩) L.length cap1, fun W hW => quiet_ok ?_, hK _ ?_⟩
      · have f := HC.out W hW
        obtain ⟨c0, c1, c2, c3, c4⟩ := f.1.cells
        obtain ⟨e0, e1, e2, e3, e4⟩ := f.2.cells
        go_simp
        all_goals (try omega)
      clear hK K
      simp only [Act.put, List.setIfInBounds_toArray, List.set_cons_succ, List.set_cons_zero]
      refine wpQuiet_step (fun K hK => ?_)
      rw [if_pos (by rfl)]
      refine ⟨.int .i64 (k : Int), fun W hW => quiet_ok ?_, hK _ ?_⟩
      · have f := HC.out W hW
        obtain ⟨c0, c1, c2, c3, c4⟩ := f.1.cells
        obtain ⟨e0, e1, e2, e3, e4⟩ := f.2.cells
        go_simp
        all_goals (try omega)
      clear hK K
      simp only [Act.put, List.setIfInBounds_toArray, List.set_cons_succ, List.set_cons_zero]
      refine wpQuiet_step (fun K hK => ?_)
      rw [if_pos (by rfl)]
      refine ⟨.pointer (some ⟨b1, o1 + k * 5, none⟩), fun W hW => quiet_ok ?_, hK _ ?_⟩
      · have f := HC.out W hW
        obtain ⟨c0, c1, c2, c3, c4⟩ := f.1.cells
        obtain ⟨e0, e1, e2, e3, e4⟩ := f.2.cells
        go_simp
        all_goals (try omega)
      clear hK K
      simp only [Act.put, List.setIfInBounds_toArray, List.set_cons_succ, List.set_cons_zero]
      refine wpQuiet_step (fun K hK => ?_)
      rw [if_pos (by rfl)]
      refine ⟨.agg #[.int .i64 x.1, .string ⟨x.2.1.toArray⟩, .int .i64 x.2.2.1, .int .i64 x.2.2.2.1, .string ⟨x.2.2.2.2.toArray⟩], fun W hW => quiet_ok ?_, hK _ ?_⟩
      · have f := HC.out W hW
        obtain ⟨c0, c1, c2, c3, c4⟩ := f.1.cells
        obtain ⟨e0, e1, e2, e3, e4⟩ := f.2.cells
        go_simp
        all_goals (try omega)
      clear hK K
      simp only [Act.put, List.setIfInBounds_toArray, List.set_cons_succ, List.set_cons_zero]
      refine wpQuiet_step (fun K hK => ?_)
      rw [if_pos (by rfl)]
      refine ⟨.slice (some ⟨b2, o2, none⟩) L.length cap2, fun W hW => quiet_ok ?_, hK _ ?_⟩
      · have f := HC.out W hW
        obtain ⟨c0, c1, c2, c3, c4⟩ := f.1.cells
        obtain ⟨e0, e1, e2, e3, e4⟩ := f.2.cells
        go_simp
        all_goals (try omega)
      clear hK K
      simp only [Act.put, List.setIfInBounds_toArray, List.set_cons_succ, List.set_cons_zero]
      refine wpQuiet_step (fun K hK => ?_)
      rw [if_pos (by rfl)]
      refine ⟨.int .i64 (k : Int), fun W hW => quiet_ok ?_, hK _ ?_⟩
      · have f := HC.out W hW
        obtain ⟨c0, c1, c2, c3, c4⟩ := f.1.cells
        obtain ⟨e0, e1, e2, e3, e4⟩ := f.2.cells
        go_simp
        all_goals (try omega)
      clear hK K
      simp only [Act.put, List.setIfInBounds_toArray, List.set_cons_succ, List.set_cons_zero]
      refine wpQuiet_step (fun K hK => ?_)
      rw [if_pos (by rfl)]
      refine ⟨.pointer (some ⟨b2, o2 + k * 5, none⟩), fun W hW => quiet_ok ?_, hK _ ?_⟩
      · have f := HC.out W hW
        obtain ⟨c0, c1, c2, c3, c4⟩ := f.1.cells
        obtain ⟨e0, e1, e2, e3, e4⟩ := f.2.cells
        go_simp
        all_goals (try omega)
      clear hK K
      simp only [Act.put, List.setIfInBounds_toArray, List.set_cons_succ, List.set_cons_zero]
      refine wpQuiet_step (fun K hK => ?_)
      rw [if_pos (by rfl)]
      refine ⟨.agg #[.int .i64 x.1, .string ⟨x.2.1.toArray⟩, .int .i64 x.2.2.1, .int .i64 x.2.2.2.1, .string ⟨x.2.2.2.2.toArray⟩], fun W hW => quiet_ok ?_, hK _ ?_⟩
      · have f := HC.out W hW
        obtain ⟨c0, c1, c2, c3, c4⟩ := f.1.cells
        obtain ⟨e0, e1, e2, e3, e4⟩ := f.2.cells
        go_simp
        all_goals (try omega)
      clear hK K
      simp only [Act.put, List.setIfInBounds_toArray, List.set_cons_succ, List.set_cons_zero]
      refine wpQuiet_step (fun K hK => ?_)
      rw [if_pos (by rfl)]
      refine ⟨.bool true, fun W hW => quiet_call (f := 99) (args := #[.agg #[.int .i64 x.1, .string ⟨x.2.1.toArray⟩, .int .i64 x.2.2.1, .int .i64 x.2.2.2.1, .string ⟨x.2.2.2.2.toArray⟩], .agg #[.int .i64 x.1, .string ⟨x.2.1.toArray⟩, .int .i64 x.2.2.1, .int .i64 x.2.2.2.1, .string ⟨x.2.2.2.2.toArray⟩]]) ?_ ?_, hK _ ?_⟩
      · go_simp
      · exact (HEQ2.out W).mono fun e w'' h => ⟨h.1, hW.trans (h.2.mono hW.size)⟩
      clear hK K
      simp only [Act.put, List.setIfInBounds_toArray, List.set_cons_succ, List.set_cons_zero]
      refine wpQuiet_step (fun K hK => ?_)
      rw [if_pos (by rfl)]
      refine ⟨.bool false, fun W hW => quiet_ok ?_, hK _ ?_⟩
      · have f := HC.out W hW
        obtain ⟨c0, c1, c2, c3, c4⟩ := f.1.cells
        obtain ⟨e0, e1, e2, e3, e4⟩ := f.2.cells
        go_simp
        all_goals (try omega)
      clear hK K
      simp only [Act.put, List.setIfInBounds_toArray, List.set_cons_succ, List.set_cons_zero]
      refine wpQuiet_nil ?_
      intro W hW
      go_wp2_with fail
      go_roundw
      case rel => exact ⟨k + 1, by omega, by go_num, hW⟩
      case measure => simp [intOf]; omega
    · go_wp2_with fail
      go_ret
      exact ⟨rfl, hb⟩

set_option maxRecDepth 20000 in
set_option maxHeartbeats 1000000 in
theorem szChange_any (x : ChgT) (q : Int) (w : World) (hn : x.2.1.length ≤ maxLen) (hd : x.2.2.2.2.length ≤ maxLen) (h0 : 0 ≤ q) (h1 : q ≤ 1048576) :
    Calls Tryz.prog 89 #[.agg #[.int .i64 x.1, .string ⟨x.2.1.toArray⟩, .int .i64 x.2.2.1, .int .i64 x.2.2.2.1, .string ⟨x.2.2.2.2.toArray⟩], .int .i64 q] w fun e w' => (∃ p : Int, e = .returned (.int .i64 p) ∧ (p = -1 ∨ (0 ≤ p ∧ p ≤ q ∧ x.2.1.length ≤ 1048576 ∧ x.2.2.2.2.length ≤ 1048576))) ∧ Below w.heap.size w w' := by
  have HR : Hid (∀ W, Calls Tryz.prog 116 #[.agg #[.string ⟨x.2.1.toArray⟩, .int .i64 x.2.2.1, .int .i64 x.2.2.2.1, .string ⟨x.2.2.2.2.toArray⟩], .int .i64 q] W fun e w' => (∃ p : Int, e = .returned (.int .i64 p) ∧ (p = -1 ∨ (0 ≤ p ∧ p ≤ q ∧ x.2.1.length ≤ 1048576 ∧ x.2.2.2.2.length ≤ 1048576))) ∧ Below W.heap.size W w') := fun W => by
    have h := szRecord_any ⟨x.2.1.toArray⟩ ⟨x.2.2.2.2.toArray⟩ x.2.2.1 x.2.2.2.1 q W (by rw [size_list]; exact hn) (by rw [size_list]; exact hd) h0 h1
    rw [size_list, size_list] at h
    refine h.mono fun e w' h2 => ⟨⟨_, h2.1, ?_⟩, h2.2⟩
    unfold szR
    split
    · exact .inl rfl
    · split
      · exact .inl rfl
      · exact .inr ⟨by omega, by omega, by omega, by omega⟩
  clear hn hd h1
  go_enter Tryz.func89, Tryz.ntmps89
  go_wp2_with fail
  refine (HR.out _).mono ?_
  rintro e w1 ⟨⟨p, rfl, hp⟩, hb1⟩
  have hbw : Below w.heap.size w w1 := ((Below.refl _ _).alloc (Nat.le_refl _) _).trans (hb1.mono (by simp))
  clear hb1
  rcases hp with rfl | ⟨hp, hp1⟩
  · go_wp2_with fail
    go_ret
    exact ⟨⟨-1, rfl, .inl rfl⟩, hbw⟩
  · have HP : Hid (p ≤ q ∧ x.2.1.length ≤ 1048576 ∧ x.2.2.2.2.length ≤ 1048576) := hp1
    clear hp1
    go_wp2_with fail
    go_ret
    exact ⟨⟨p, rfl, .inr ⟨hp, HP.out⟩⟩, hbw⟩
set_option maxRecDepth 20000 in
set_option maxHeartbeats 1000000 in
theorem szChangeS_any (v : Value) (L : List ChgT) (left : Int) (w : World) (hr : ChgRow w v L) (hx : Hid (∀ x ∈ L, x.2.1.length ≤ maxLen ∧ x.2.2.2.2.length ≤ maxLen)) (h0 : 0 ≤ left) (h1 : left ≤ 1048576) :
    Calls Tryz.prog 51 #[v, .int .i64 left] w fun e w' => (∃ q : Int, e = .returned (.int .i64 q) ∧ (q = -1 ∨ (0 ≤ q ∧ L.length ≤ 1048576 ∧ ∀ x ∈ L, x.2.1.length ≤ 1048576 ∧ x.2.2.2.2.length ≤ 1048576))) ∧ Below w.heap.size w w' := by
  obtain ⟨a, cap, rfl, hcap, hmax, HROW⟩ := chg_value hr
  have HSZ : Hid (∀ (x : ChgT) (q : Int) W, x.2.1.length ≤ maxLen → x.2.2.2.2.length ≤ maxLen → 0 ≤ q → q ≤ 1048576 → Calls Tryz.prog 89 #[.agg #[.int .i64 x.1, .string ⟨x.2.1.toArray⟩, .int .i64 x.2.2.1, .int .i64 x.2.2.2.1, .string ⟨x.2.2.2.2.toArray⟩], .int .i64 q] W fun e w' => (∃ p : Int, e = .returned (.int .i64 p) ∧ (p = -1 ∨ (0 ≤ p ∧ p ≤ q ∧ x.2.1.length ≤ 1048576 ∧ x.2.2.2.2.length ≤ 1048576))) ∧ Below W.heap.size W w') := fun x q W g1 g2 g3 g4 => szChange_any x q W g1 g2 g3 g4
  clear hr
  by_cases hneg : left - (L.length : Int) < 0
  · go_enter Tryz.func51, Tryz.ntmps51
    go_wp2_with fail
    go_ret
    exact ⟨⟨-1, rfl, .inl rfl⟩, Below.refl _ _⟩
  · have HL : Hid (L.length ≤ 1048576) := by show L.length ≤ 1048576; omega
    have hpos : 0 ≤ left - (L.length : Int) := by omega
    clear hneg
    go_enter Tryz.func51, Tryz.ntmps51
    go_wp2_with fail
    go_loopw [1, 5] (fun q i wr => ∃ (k : Nat) (p : Int), k ≤ L.length ∧ i = .int .i64 (k : Int) ∧ q = .int .i64 p ∧ (0 ≤ p ∧ p ≤ 1048576) ∧ Hid (∀ j, (hj : j < L.length) → j < k → (L[j]'hj).2.1.length ≤ 1048576 ∧ (L[j]'hj).2.2.2.2.length ≤ 1048576) ∧ Below w.heap.size w wr) (fun _ i _ => L.length - (intOf i).toNat)
    case atStart => exact ⟨0, _, Nat.zero_le _, rfl, rfl, ⟨hpos, by omega⟩, fun j _ h => absurd h (Nat.not_lt_zero j), Below.refl _ _⟩
    case round =>
      obtain ⟨k, p, hk, rfl, rfl, hp, HJ, hb⟩ := hrel
      clear hpos
      by_cases hlt : k < L.length
      · obtain ⟨b, o, ha, hbl, hcel⟩ := HROW.out (by omega)
        rw [ha]
        obtain ⟨c0, c1, c2, c3, c4⟩ := ((hcel k hlt).kept hb).cells
        have hxl := hx.out _ (List.getElem_mem hlt)
        have HJX : Hid ((L[k]'hlt).2.1.length ≤ 1048576 ∧ (L[k]'hlt).2.2.2.2.length ≤ 1048576 → ∀ j, (hj : j < L.length) → j < k + 1 → (L[j]'hj).2.1.length ≤ 1048576 ∧ (L[j]'hj).2.2.2.2.length ≤ 1048576) := fun h j hj hjk => by
          rcases Nat.lt_or_ge j k with h1 | h1
          · exact HJ.out j hj h1
          · obtain rfl : j = k := by omega
            exact h
        obtain ⟨x, hxe⟩ : ∃ x, x = L[k]'hlt := ⟨_, rfl⟩
        rw [← hxe] at c0 c1 c2 c3 c4 hxl HJX
        have HXL : Hid (x.2.1.length ≤ maxLen ∧ x.2.2.2.2.length ≤ maxLen) := hxl
        clear hcel hxe hxl
        go_wp2_with fail
        refine (HSZ.out x p _ HXL.out.1 HXL.out.2 hp.1 hp.2).mono ?_
        rintro e w2 ⟨⟨p2, rfl, hp2⟩, hb2⟩
        have hb3 := hb.trans (hb2.mono hb.size)
        clear c0 c1 c2 c3 c4 hb2
        rcases hp2 with rfl | ⟨hp2, hp3, hp5⟩
        · go_wp2_with fail
          go_ret
          exact ⟨⟨-1, rfl, .inl rfl⟩, hb3⟩
        · have hp4 : 0 ≤ p2 ∧ p2 ≤ 1048576 := ⟨hp2, by omega⟩
          have HJ2 : Hid (∀ j, (hj : j < L.length) → j < k + 1 → (L[j]'hj).2.1.length ≤ 1048576 ∧ (L[j]'hj).2.2.2.2.length ≤ 1048576) := HJX.out hp5
          clear hp3 hp hp2 hp5 HJX
          go_wp2_with fail
          go_roundw
          case rel => exact ⟨k + 1, p2, by omega, by go_num, rfl, hp4, HJ2, hb3⟩
          case measure => simp [intOf]; omega
      · have HALL : Hid (∀ x ∈ L, x.2.1.length ≤ 1048576 ∧ x.2.2.2.2.length ≤ 1048576) := fun x hx => by
          obtain ⟨j, hj, rfl⟩ := List.getElem_of_mem hx
          exact HJ.out j hj (by omega)
        go_wp2_with fail
        go_ret
        exact ⟨⟨p, rfl, .inr ⟨hp.1, HL.out, HALL.out⟩⟩, hb⟩
/-- What is asked. -/
def AskV (c n : Int) (v : Value) : Value := .agg #[.int .i64 c, .int .i64 n, v]
set_option maxRecDepth 20000 in
set_option maxHeartbeats 1000000 in
theorem szAsked_any (c n : Int) (v : Value) (L : List ChgT) (w : World) (hr : ChgRow w v L) (hx : Hid (∀ x ∈ L, x.2.1.length ≤ maxLen ∧ x.2.2.2.2.length ≤ maxLen)) :
    Calls Tryz.prog 14 #[AskV c n v, .int .i64 1048576] w fun e w' => (∃ q : Int, e = .returned (.int .i64 q) ∧ (q = -1 ∨ (0 ≤ q ∧ L.length ≤ 1048576 ∧ ∀ x ∈ L, x.2.1.length ≤ 1048576 ∧ x.2.2.2.2.length ≤ 1048576))) ∧ Below w.heap.size w w' := by
  unfold AskV
  obtain ⟨a, cap, rfl, _⟩ := id hr
  have HS : Hid (∀ W, Below w.heap.size w W → Calls Tryz.prog 51 #[.slice a L.length cap, .int .i64 1048576] W fun e w' => (∃ q : Int, e = .returned (.int .i64 q) ∧ (q = -1 ∨ (0 ≤ q ∧ L.length ≤ 1048576 ∧ ∀ x ∈ L, x.2.1.length ≤ 1048576 ∧ x.2.2.2.2.length ≤ 1048576))) ∧ Below W.heap.size W w') := fun W hW => szChangeS_any _ L 1048576 W (hr.kept hW) hx (by omega) (by omega)
  clear hr hx
  have hb0 : Below w.heap.size w (w.alloc (.cells #[.int .i64 c, .int .i64 n, .slice a L.length cap] 41)) := (Below.refl _ _).alloc (Nat.le_refl _) _
  go_enter Tryz.func14, Tryz.ntmps14
  go_wp2_with fail
  refine (HS.out _ hb0).mono ?_
  rintro e w1 ⟨⟨q, rfl, hq⟩, hb1⟩
  have hbw := hb0.trans (hb1.mono hb0.size)
  clear hb0 hb1
  rcases hq with rfl | ⟨hq, hq2⟩
  · go_wp2_with fail
    go_ret
    exact ⟨⟨-1, rfl, .inl rfl⟩, hbw⟩
  · have HQ : Hid (L.length ≤ 1048576 ∧ ∀ x ∈ L, x.2.1.length ≤ 1048576 ∧ x.2.2.2.2.length ≤ 1048576) := hq2
    clear hq2
    go_wp2_with fail
    go_ret
    exact ⟨⟨q, rfl, .inr ⟨hq, HQ.out⟩⟩, hbw⟩
set_option maxRecDepth 20000 in
set_option maxHeartbeats 2000000 in
theorem toAsked_any (c n : Int) (v : Value) (L : List ChgT) (w : World) (hr : ChgRow w v L) (hl : L.length ≤ 1048576) :
    Calls Tryz.prog 16 #[AskV c n v] w fun e w' => (∃ g, e = .returned (AskV c n (.slice (some ⟨g, 0, none⟩) L.length L.length)) ∧ w.heap.size ≤ g ∧ ChR5 w' g L) ∧ Below w.heap.size w w' := by
  unfold AskV
  obtain ⟨a, cap, rfl, _⟩ := id hr
  have HS : Hid (∀ W, Below w.heap.size w W → Calls Tryz.prog 54 #[.slice a L.length cap] W fun e w' => e = .returned (.slice (some ⟨W.heap.size, 0, none⟩) L.length L.length) ∧ ChR5 w' W.heap.size L ∧ Below W.heap.size W w') := fun W hW => toChangeS_any _ L W (hr.kept hW) hl
  clear hr hl
  obtain ⟨W0, hW0⟩ : ∃ W0, W0 = ((w.alloc (.cells #[.int .i64 c, .int .i64 n, .slice a L.length cap] 41)).alloc (.cells #[.int .i64 0, .int .i64 0, .slice none 0 0] 49)).alloc (.cells #[.int .i64 c, .int .i64 n, .slice none 0 0] 49) := ⟨_, rfl⟩
  have HW0 : Hid (((w.alloc (.cells #[.int .i64 c, .int .i64 n, .slice a L.length cap] 41)).alloc (.cells #[.int .i64 0, .int .i64 0, .slice none 0 0] 49)).alloc (.cells #[.int .i64 c, .int .i64 n, .slice none 0 0] 49) = W0) := hW0.symm
  have hs1 : (w.alloc (.cells #[.int .i64 c, .int .i64 n, .slice a L.length cap] 41)).heap.size = w.heap.size + 1 := by simp
  have hs2 : ((w.alloc (.cells #[.int .i64 c, .int .i64 n, .slice a L.length cap] 41)).alloc (.cells #[.int .i64 0, .int .i64 0, .slice none 0 0] 49)).heap.size = w.heap.size + 1 + 1 := by simp
  have hs3 : W0.heap.size = w.heap.size + 1 + 1 + 1 := by rw [hW0]; simp
  have hb0 : Below w.heap.size w W0 := by rw [hW0]; exact (((Below.refl _ _).alloc (Nat.le_refl _) _).alloc (by simp) _).alloc (by simp; omega) _
  have hB : W0.heap[w.heap.size + 1]? = some (.cells #[.int .i64 0, .int .i64 0, .slice none 0 0] 49) := by
    rw [hW0, Below.heap_alloc _ _ _ (by omega), ← hs1]; exact blk_new _ _
  have hC : W0.heap[w.heap.size + 1 + 1]? = some (.cells #[.int .i64 c, .int .i64 n, .slice none 0 0] 49) := by
    rw [hW0, ← hs2]; exact blk_new _ _
  have HX : Hid (∀ W, Below W0.heap.size W0 W → W.heap[w.heap.size + 1]? = some (.cells #[.int .i64 0, .int .i64 0, .slice none 0 0] 49) ∧ W.heap[w.heap.size + 1 + 1]? = some (.cells #[.int .i64 c, .int .i64 n, .slice none 0 0] 49)) := fun W hW => ⟨(hW.block _ (by omega)).trans hB, (hW.block _ (by omega)).trans hC⟩
  have HB0 : Hid (Below w.heap.size w W0) := hb0
  have HS0 : Hid (W0.heap.size = w.heap.size + 1 + 1 + 1) := hs3
  clear hW0 hs1 hs2 hs3 hb0 hB hC
  go_enter Tryz.func16, Tryz.ntmps16
  go_wp2_with fail
  rw [HW0.out]
  refine (HS.out _ HB0.out).mono ?_
  rintro e w1 ⟨rfl, hc1, hb1⟩
  obtain ⟨hx1, hx2⟩ := HX.out w1 hb1
  obtain ⟨⟨c0, c1, c2⟩, ⟨f0, f1, f2⟩⟩ := zon3_cells hx1
  obtain ⟨⟨d0, d1, d2⟩, ⟨g0, g1, g2⟩⟩ := zon3_cells hx2
  have HX1 : Hid (w1.heap[w.heap.size + 1]? = some (.cells #[.int .i64 0, .int .i64 0, .slice none 0 0] 49)) := hx1
  have HC1 : Hid (ChR5 w1 W0.heap.size L) := hc1
  have hbw := HB0.out.trans (hb1.mono HB0.out.size)
  clear hx1 hx2 hb1 hc1
  go_wp2_with fail
  (try simp only [Exit.inBlock, Exit.then])
  have hs0 := HS0.out
  refine bodyPost_ret (results_cell_row rfl _ _ (w.heap.size + 1) 49 #[.int .i64 c, .int .i64 n, .slice (some ⟨W0.heap.size, 0, none⟩) L.length L.length] (0, 0) _ rfl ?_ Tryz.underlying49 rfl (by kernel_rfl)) rfl ⟨⟨W0.heap.size, rfl, by omega, ?_⟩, ?_⟩
  · exact pt3_heap (by rw [heap_setCell_other _ _ _ _ (show w.heap.size + 1 ≠ w.heap.size + 1 + 1 by omega)]; exact HX1.out)
  · exact HC1.out.kpt ((kpt_set (S := fun k => k = w.heap.size + 1 ∨ k = w.heap.size + 1 + 1) _ _ _ _ (.inr rfl)).trans (((kpt_set _ _ _ _ (.inl rfl)).trans (kpt_set _ _ _ _ (.inl rfl))).trans (kpt_set _ _ _ _ (.inl rfl)))) (by omega)
  · exact (((hbw.setCell (p := ⟨w.heap.size + 1 + 1, 2, none⟩) (by show w.heap.size ≤ w.heap.size + 1 + 1; omega) _).setCell (p := ⟨w.heap.size + 1, 0, none⟩) (by show w.heap.size ≤ w.heap.size + 1; omega) _).setCell (p := ⟨w.heap.size + 1, 1, none⟩) (by show w.heap.size ≤ w.heap.size + 1; omega) _).setCell (p := ⟨w.heap.size + 1, 2, none⟩) (by show w.heap.size ≤ w.heap.size + 1; omega) _
set_option maxRecDepth 20000 in
set_option maxHeartbeats 1000000 in
theorem eqAsked_same (c n : Int) (v v2 : Value) (L : List ChgT) (w : World) (hr : ChgRow w v L) (hr2 : ChgRow w v2 L) :
    Calls Tryz.prog 19 #[AskV c n v, AskV c n v2] w fun e w' => e = .returned (.bool true) ∧ Below w.heap.size w w' := by
  unfold AskV
  obtain ⟨a, cap, rfl, _⟩ := id hr
  obtain ⟨a2, cap2, rfl, _⟩ := id hr2
  have HS : Hid (∀ W, Below w.heap.size w W → Calls Tryz.prog 59 #[.slice a L.length cap, .slice a2 L.length cap2] W fun e w' => e = .returned (.bool true) ∧ Below W.heap.size W w') := fun W hW => eqChangeS_same _ _ L W (hr.kept hW) (hr2.kept hW)
  have e1 : (c != c) = false := by simp
  have e2 : (n != n) = false := by simp
  have hb0 : Below w.heap.size w ((w.alloc (.cells #[.int .i64 c, .int .i64 n, .slice a L.length cap] 49)).alloc (.cells #[.int .i64 c, .int .i64 n, .slice a2 L.length cap2] 49)) := ((Below.refl _ _).alloc (Nat.le_refl _) _).alloc (by simp) _
  clear hr hr2
  go_enter Tryz.func19, Tryz.ntmps19
  go_wp2_with fail
  refine (HS.out _ hb0).mono ?_
  rintro e w1 ⟨rfl, hb1⟩
  have hbw := hb0.trans (hb1.mono hb0.size)
  clear hb0 hb1
  go_wp2_with fail
  go_ret
  exact ⟨rfl, hbw⟩
end Go.Proofs.YtoobaaklklommaaGreatDoor
