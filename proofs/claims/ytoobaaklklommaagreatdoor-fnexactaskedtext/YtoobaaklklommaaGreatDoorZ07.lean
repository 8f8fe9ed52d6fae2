import Derived.Test.YtoobaaklklommaaGreatDoorZ04
import Derived.Deep.QuietTactic
import Derived.BigQuiet
import Derived.WalkSmall
import Derived.Deep.RegionWith
namespace Go.Proofs.YtoobaaklklommaaGreatDoor
open Go.RowKit

theorem shape_of_own {w : World} {base : Nat} {v : Value} {P : List (List UInt8)} (h : w.ownsRow base 9 1 v P.length (P.map S)) :
    ∃ g cap, (v = .slice none 0 0 ∧ P = []) ∨ (v = .slice (some ⟨g, 0, none⟩) P.length cap ∧ base ≤ g ∧ g < w.heap.size ∧ P.length ≤ cap ∧ cap ≤ maxLen ∧ ∀ j, (hj : j < P.length) → w.cell? ⟨g, j, none⟩ = some (S P[j])) := by
  have h0 := h
  obtain ⟨hl, ⟨rfl, hn⟩ | ⟨g, cap, cur, rfl, hg, hh, hc, hm, hs, hx⟩⟩ := h
  · exact ⟨0, 0, .inl ⟨rfl, List.length_eq_zero_iff.1 hn⟩⟩
  · have := h0.lt g rfl
    exact ⟨g, cap, .inr ⟨rfl, this.1, this.2, hc, hm, fun j hj => by rw [h0.cellAt j (by omega), List.getElem?_map, List.getElem?_eq_getElem hj]; rfl⟩⟩

theorem own_mono {w : World} {base base' e size : Nat} {v : Value} {n : Nat} {xs : List Value} (h : w.ownsRow base e size v n xs) (hb : base' ≤ base) : w.ownsRow base' e size v n xs := by
  obtain ⟨hl, hh | ⟨g, cap, cur, rfl, hg, hr⟩⟩ := h
  · exact ⟨hl, .inl hh⟩
  · exact ⟨hl, .inr ⟨g, cap, cur, rfl, Nat.le_trans hb hg, hr⟩⟩

/-- A list of texts in memory, by its value. -/
theorem row_value {w : World} {v : Value} {P : List (List UInt8)} (h : Row w v P) : ∃ a cap, v = .slice a P.length cap ∧ P.length ≤ cap ∧ cap ≤ 2 ^ 63 - 1 ∧ Hid (0 < P.length → ∃ b o, a = some ⟨b, o, none⟩ ∧ b < w.heap.size ∧ ∀ j, (hj : j < P.length) → w.cell? ⟨b, o + j, none⟩ = some (S P[j])) := by
  obtain ⟨a, cap, rfl, h1, h2, h3⟩ := h
  unfold maxLen at h2
  refine ⟨a, cap, rfl, h1, h2, fun hp => ?_⟩
  rcases h3 with rfl | h3
  · simp at hp
  · exact h3

theorem name_eight {l : List UInt8} (h : nameB l = true) : (labelsOf l).length ≤ 8 := by
  unfold nameB at h; simp only [Bool.and_eq_true, decide_eq_true_eq] at h; exact h.2.2

theorem val_int {k : IntKind} {a b : Int} (h : a = b) : Value.int k a = .int k b := by rw [h]
theorem ret_three {a b c d e f : Value} (h : a = d) (k : b = e) (l : c = f) : Ending.returned (.tuple #[a, b, c]) = .returned (.tuple #[d, e, f]) := by rw [h, k, l]

theorem cut_append (b : UInt8) : ∀ (x y : List UInt8), cut b (x ++ b :: y) = cut b x ++ cut b y
  | [], y => by simp [cut]
  | c :: x, y => by
    have ih := cut_append b x y
    by_cases h : c = b
    · simp [cut, h, ih]
    · cases e : cut b x with
      | nil => exact absurd e (cut_ne b x)
      | cons p r => rw [e] at ih; simp [cut, h, ih, e]
theorem cut_no (b : UInt8) : ∀ l, ∀ p ∈ cut b l, b ∉ p
  | [], p, hp => by simp [cut] at hp; simp [hp]
  | c :: l, p, hp => by
    have ih := cut_no b l
    by_cases h : c = b
    · simp only [cut, h, if_true, List.mem_cons] at hp
      rcases hp with rfl | hp
      · simp
      · exact ih p hp
    · cases e : cut b l with
      | nil => exact absurd e (cut_ne b l)
      | cons q r =>
        simp only [cut, h, if_false, e, List.mem_cons] at hp
        rcases hp with rfl | hp
        · have := ih q (by rw [e]; simp)
          simp only [List.mem_cons, not_or]; exact ⟨fun e => h e.symm, this⟩
        · exact ih p (by rw [e]; simp [hp])
theorem cut_plain (b : UInt8) : ∀ l : List UInt8, b ∉ l → cut b l = [l]
  | [], _ => rfl
  | c :: l, h => by
    simp only [List.mem_cons, not_or] at h
    have ih := cut_plain b l h.2
    simp [cut, Ne.symm h.1, ih]
theorem cut_joinD : ∀ Q : List (List UInt8), Q ≠ [] → (∀ p ∈ Q, 46 ∉ p) → cut 46 (joinD Q) = Q
  | [], h, _ => absurd rfl h
  | [p], _, h => by simp [joinD, cut_plain 46 p (h p (by simp))]
  | p :: q :: r, _, h => by
    have ih := cut_joinD (q :: r) (by simp) (fun x hx => h x (by simp at hx ⊢; right; exact hx))
    rw [joinD, if_neg (by simp), cut_append, ih, cut_plain 46 p (h p (by simp))]
    rfl

/-- Labels that are not empty and hold no dot. -/
def Plain (Q : List (List UInt8)) : Prop := ∀ p ∈ Q, p ≠ [] ∧ 46 ∉ p
theorem Plain.drop {Q : List (List UInt8)} (h : Plain Q) (k : Nat) : Plain (Q.drop k) := fun p hp => h p (List.mem_of_mem_drop hp)
theorem plain_ne {r : List (List UInt8)} (hr : r ≠ []) (h : Plain r) : joinD r ≠ [] := by
  match r, hr with
  | p :: q, _ =>
    have hp := (h p (by simp)).1
    unfold joinD
    split
    · exact hp
    · simp
theorem lab_ne {p : List UInt8} (h : labelB p = true) : p ≠ [] := by
  intro e; subst e; revert h; decide
theorem name_plain {l : List UInt8} (h : nameB l = true) : Plain (labelsOf l) := by
  intro p hp
  have h1 : labelB p = true := by
    unfold nameB at h; simp only [Bool.and_eq_true, List.all_eq_true] at h; exact h.1 p hp
  refine ⟨lab_ne h1, ?_⟩
  unfold labelsOf at hp
  split at hp
  · simp at hp
  · exact cut_no 46 l p hp
theorem joinD_labels (l : List UInt8) : joinD (labelsOf l) = l := by
  unfold labelsOf
  split
  · rename_i h; rw [h]; rfl
  · exact joinD_cut l

def tot (P : List (List UInt8)) : Nat := (P.map List.length).sum
theorem tot_snoc (P : List (List UInt8)) (k : Nat) (h : k < P.length) : tot (P.take (k + 1)) = tot (P.take k) + P[k].length := by
  unfold tot; rw [List.take_succ_eq_append_getElem h, List.map_append, List.sum_append]; simp only [List.map_cons, List.map_nil, List.sum_cons, List.sum_nil, Nat.add_zero]
theorem tot_full (P : List (List UInt8)) (k : Nat) (h : ¬ k < P.length) : tot (P.take k) = tot P := by rw [List.take_of_length_le (by omega)]
theorem tot_one {P : List (List UInt8)} {p : List UInt8} (h : p ∈ P) : p.length ≤ tot P := by
  unfold tot
  induction P with
  | nil => simp at h
  | cons q r ih =>
    rcases List.mem_cons.1 h with rfl | h
    · simp
    · have := ih h; simp; omega

theorem joinD_tot : ∀ P : List (List UInt8), (joinD P).length ≤ tot P + P.length
  | [] => by simp [joinD, tot]
  | p :: r => by
    have ih := joinD_tot r
    have e : tot (p :: r) = p.length + tot r := by simp [tot]
    unfold joinD
    split
    · rw [e]; simp; omega
    · rw [e]; simp; omega
theorem label_nodot {p : List UInt8} (h : labelB p = true) : 46 ∉ p := by
  intro hm
  unfold labelB at h
  rw [Bool.or_eq_true] at h
  rcases h with h | h
  · have : p = [42] := by simpa using h
    rw [this] at hm; revert hm; decide
  · simp only [Bool.and_eq_true, List.all_eq_true] at h
    have := h.2.2 46 hm
    revert this; decide

/-- What NameOf tells. -/
def nameOfB (P : List (List UInt8)) : Bool := P.all labelB && nameB (joinD P)
def nameOfT (P : List (List UInt8)) : List UInt8 := if nameOfB P = true then joinD P else []
theorem joinD_small : ∀ P : List (List UInt8), (∀ p ∈ P, p.length ≤ 20) → (joinD P).length ≤ 21 * P.length
  | [], _ => by simp [joinD]
  | p :: r, h => by
    have h1 := h p (by simp)
    have ih := joinD_small r (fun q hq => h q (by simp [hq]))
    unfold joinD
    split
    · simp; omega
    · simp; omega

theorem label_le {p : List UInt8} (h : labelB p = true) : p.length ≤ 20 := by
  unfold labelB at h
  rw [Bool.or_eq_true] at h
  rcases h with h1 | h1
  · have : p = [42] := by simpa using h1
    subst this; simp
  · simp only [Bool.and_eq_true, decide_eq_true_eq] at h1
    exact h1.2.1
theorem are_small {P : List (List UInt8)} (h : areB P = true) : (joinD P).length ≤ 168 := by
  unfold areB at h
  simp only [Bool.and_eq_true, decide_eq_true_eq, List.all_eq_true] at h
  have := joinD_small P (fun p hp => label_le (h.2 p hp))
  omega
theorem nameOf_eq {P : List (List UInt8)} : nameOfB P = (areB P && decide ((joinD P).length ≤ 60)) := by
  unfold nameOfB areB
  cases ha : P.all labelB with
  | false => simp
  | true =>
    have hp : Plain P := fun p hp => ⟨lab_ne (List.all_eq_true.1 ha p hp), label_nodot (List.all_eq_true.1 ha p hp)⟩
    have hl : labelsOf (joinD P) = P := by
      unfold labelsOf
      by_cases h0 : P = []
      · subst h0; simp [joinD]
      · rw [if_neg (plain_ne h0 hp), cut_joinD P h0 (fun p h => (hp p h).2)]
    unfold nameB; rw [hl, ha, Bool.true_and, Bool.true_and, Bool.and_true, Bool.and_comm]

theorem val_strJ {x : ByteArray} {l : List UInt8} (h : x.data.toList = l) : Value.string x = .string ⟨l.toArray⟩ := by rw [data_eq h]

theorem ret_S {x y : List UInt8} (h : x = y) : Ending.returned (.string ⟨x.toArray⟩) = .returned (.string ⟨y.toArray⟩) := by rw [h]
end Go.Proofs.YtoobaaklklommaaGreatDoor

namespace Go.Proofs.YtoobaaklklommaaGreatDoor
open Go.RowKit

theorem index_no {b : UInt8} : ∀ {l : List UInt8}, b ∉ l → Lib.index l [b] = -1
  | [], _ => by simp [Lib.index]
  | c :: l, h => by
    simp only [List.mem_cons, not_or] at h
    have hp : ([b] : List UInt8).isPrefixOf (c :: l) = false := by simp [List.isPrefixOf, h.1]
    rw [Lib.index, hp, index_no h.2]; simp
theorem index_at {b : UInt8} {r : List UInt8} : ∀ {a : List UInt8}, b ∉ a → Lib.index (a ++ b :: r) [b] = (a.length : Int)
  | [], _ => by rw [List.nil_append, Lib.index]; simp [List.isPrefixOf]
  | c :: a, h => by
    simp only [List.mem_cons, not_or] at h
    have hp : ([b] : List UInt8).isPrefixOf (c :: (a ++ b :: r)) = false := by simp [List.isPrefixOf, h.1]
    rw [List.cons_append, Lib.index, hp, index_at h.2]
    have : (((a.length : Int)) == -1) = false := by rw [beq_eq_false_iff_ne]; omega
    rw [this]; simp
theorem splitK_no {b : UInt8} {n : Nat} {l : List UInt8} (h : b ∉ l) : Lib.splitK [b] 0 n l = [l] := by
  cases n with
  | zero => rfl
  | succ n => rw [Lib.splitK, index_no h]; rfl
theorem splitK_at {b : UInt8} {n : Nat} {a r : List UInt8} (h : b ∉ a) : Lib.splitK [b] 0 (n + 1) (a ++ b :: r) = a :: Lib.splitK [b] 0 n r := by
  rw [Lib.splitK, index_at h]
  have : (((a.length : Int)) == -1) = false := by rw [beq_eq_false_iff_ne]; omega
  rw [this]
  simp only [Bool.false_eq_true, if_false, Int.toNat_natCast, Nat.add_zero, List.length_cons, List.length_nil, Nat.zero_add]
  rw [List.take_left', ← List.drop_drop, List.drop_left']
  · rfl
  · rfl
  · rfl
theorem cut_at {b : UInt8} {a r : List UInt8} (h : b ∉ a) : cut b (a ++ b :: r) = a :: cut b r := by
  rw [cut_append, cut_plain b a h]; rfl
theorem splitK_cut {b : UInt8} : ∀ (n : Nat) (l : List UInt8), (cut b l).length ≤ n + 1 → Lib.splitK [b] 0 n l = cut b l := by
  intro n
  induction n with
  | zero =>
    intro l h
    by_cases hm : b ∈ l
    · obtain ⟨a, r, rfl, ha⟩ := List.eq_append_cons_of_mem hm
      rw [cut_at ha] at h
      have := List.length_pos_iff.2 (cut_ne b r)
      simp only [List.length_cons] at h; omega
    · rw [splitK_no hm, cut_plain b l hm]
  | succ n ih =>
    intro l h
    by_cases hm : b ∈ l
    · obtain ⟨a, r, rfl, ha⟩ := List.eq_append_cons_of_mem hm
      rw [cut_at ha] at h ⊢
      rw [splitK_at ha, ih r (by simp only [List.length_cons] at h; omega)]
    · rw [splitK_no hm, cut_plain b l hm]
theorem splitK_long {b : UInt8} : ∀ (n : Nat) (l : List UInt8), n + 1 ≤ (cut b l).length → (Lib.splitK [b] 0 n l).length = n + 1 := by
  intro n
  induction n with
  | zero => intro l _; rfl
  | succ n ih =>
    intro l h
    by_cases hm : b ∈ l
    · obtain ⟨a, r, rfl, ha⟩ := List.eq_append_cons_of_mem hm
      rw [cut_at ha] at h
      rw [splitK_at ha, List.length_cons, ih r (by simp only [List.length_cons] at h; omega)]
    · rw [cut_plain b l hm] at h; simp at h
theorem split4 {b : UInt8} {l : List UInt8} {N : Nat} (hN : N = min 5 (l.length + 1) - 1) :
    ((Lib.splitK [b] 0 N l).length = 4 ↔ (cut b l).length = 4) ∧ ((cut b l).length = 4 → Lib.splitK [b] 0 N l = cut b l) := by
  have hc := cut_length_le b l
  by_cases h : (cut b l).length ≤ N + 1
  · have e := splitK_cut N l h
    rw [e]; exact ⟨Iff.rfl, fun _ => rfl⟩
  · have e := splitK_long (b := b) N l (by omega)
    rw [e]
    refine ⟨⟨fun h4 => ?_, fun h4 => ?_⟩, fun h4 => ?_⟩ <;> omega
theorem split_three {b : UInt8} {l : List UInt8} (h : 4 ≤ (cut b l).length) : ∃ p q t r, l = p ++ b :: (q ++ b :: (t ++ b :: r)) ∧ cut b l = p :: q :: t :: cut b r ∧ Lib.splitK [b] 0 3 l = [p, q, t, r] := by
  have step : ∀ {l : List UInt8}, 2 ≤ (cut b l).length → ∃ a r, l = a ++ b :: r ∧ b ∉ a ∧ cut b l = a :: cut b r := by
    intro l h
    by_cases hm : b ∈ l
    · obtain ⟨a, r, rfl, ha⟩ := List.eq_append_cons_of_mem hm
      exact ⟨a, r, rfl, ha, cut_at ha⟩
    · rw [cut_plain b l hm] at h; simp at h
  obtain ⟨p, r1, e1, hp, c1⟩ := step (l := l) (by omega)
  rw [c1, List.length_cons] at h
  obtain ⟨q, r2, e2, hq, c2⟩ := step (l := r1) (by omega)
  rw [c2, List.length_cons] at h
  obtain ⟨t, r3, e3, ht, c3⟩ := step (l := r2) (by omega)
  refine ⟨p, q, t, r3, by rw [e1, e2, e3], by rw [c1, c2, c3], ?_⟩
  rw [e1, splitK_at hp, e2, splitK_at hq, e3, splitK_at ht]; rfl
/-- What strings.Cut tells at one byte, by the cutting. -/
theorem libCut_no {b : UInt8} {l : List UInt8} (h : b ∉ l) : Lib.cut l [b] = (l, [], false) := by
  unfold Lib.cut; rw [index_no h]; rfl
theorem libCut_at {b : UInt8} {a r : List UInt8} (h : b ∉ a) : Lib.cut (a ++ b :: r) [b] = (a, r, true) := by
  unfold Lib.cut; rw [index_at h]
  have e1 : (a ++ b :: r).take a.length = a := List.take_left' rfl
  have e2 : (a ++ b :: r).drop (a.length + 1) = r := by rw [← List.drop_drop, List.drop_left' rfl]; rfl
  simp [e1, e2]
end Go.Proofs.YtoobaaklklommaaGreatDoor

namespace Go.Proofs.YtoobaaklklommaaGreatDoor
open Go.RowKit

/-- Texts as they lie in a block of the call's own. -/
def SRow (w : World) (g : Nat) (P : List (List UInt8)) : Prop := g < w.heap.size ∧ ∀ j, (hj : j < P.length) → w.cell? ⟨g, j, none⟩ = some (S P[j]) ∧ w.frozen? ⟨g, j, none⟩ = false
theorem SRow.kept {w w' : World} {g : Nat} {P : List (List UInt8)} (h : SRow w g P) (hb : Below w.heap.size w w') : SRow w' g P :=
  ⟨Nat.lt_of_lt_of_le h.1 hb.size, fun j hj => by rw [hb.cell (p := ⟨g, j, none⟩) h.1, hb.frozen (p := ⟨g, j, none⟩) h.1]; exact h.2 j hj⟩
theorem SRow.set {w : World} {g : Nat} {P : List (List UInt8)} (h : SRow w g P) (k : Nat) (hk : k < P.length) (c : List UInt8) : SRow (w.setCell ⟨g, k, none⟩ (.string ⟨c.toArray⟩)) g (P.set k c) := by
  refine ⟨by simpa using h.1, fun j hj => ?_⟩
  have hj' : j < P.length := by simpa using hj
  refine ⟨?_, by simpa using (h.2 j hj').2⟩
  rw [List.getElem_set]
  split
  · rename_i e; subst e; exact World.cell?_setCell_same _ _ _ (h.2 k hk).1
  · rename_i e
    rw [World.cell?_setCell_other _ _ _ _ (show (⟨g, k, none⟩ : Addr) ≠ ⟨g, j, none⟩ by intro h; cases h; exact e rfl)]
    exact (h.2 j hj').1
theorem SRow.far {w : World} {g g' k : Nat} {P : List (List UInt8)} (h : SRow w g P) (hne : g' ≠ g) (u : Value) : SRow (w.setCell ⟨g', k, none⟩ u) g P := by
  refine ⟨by simpa using h.1, fun j hj => ⟨?_, by simpa using (h.2 j hj).2⟩⟩
  rw [World.cell?_setCell_other _ _ _ _ (show (⟨g', k, none⟩ : Addr) ≠ ⟨g, j, none⟩ by intro h; cases h; exact hne rfl)]
  exact (h.2 j hj).1
theorem SRow.row {w : World} {g cap : Nat} {P : List (List UInt8)} (h : SRow w g P) (hc : P.length ≤ cap) (hm : cap ≤ maxLen) : Row w (.slice (some ⟨g, 0, none⟩) P.length cap) P :=
  ⟨_, cap, rfl, hc, hm, .inr ⟨g, 0, rfl, h.1, fun j hj => by rw [Nat.zero_add]; exact (h.2 j hj).1⟩⟩
theorem srow_own {w : World} {base g cap n : Nat} {P : List (List UInt8)} (h : w.ownsRow base 9 1 (.slice (some ⟨g, 0, none⟩) n cap) n (P.map S)) (hn : n = P.length) : SRow w g P := by
  subst hn
  refine ⟨(h.lt g rfl).2, fun j hj => ⟨?_, h.frozenAt j⟩⟩
  rw [h.cellAt j (by omega), List.getElem?_map, List.getElem?_eq_getElem hj]; rfl

end Go.Proofs.YtoobaaklklommaaGreatDoor

namespace Go.Proofs.YtoobaaklklommaaGreatDoor
open Go.RowKit

/-- What has been copied behind k rounds. -/
def part (P : List (List UInt8)) (k : Nat) : List (List UInt8) := P.take k ++ List.replicate (P.length - k) []
theorem part_length (P : List (List UInt8)) (k : Nat) (h : k ≤ P.length) : (part P k).length = P.length := by simp [part]; omega
theorem part_next (P : List (List UInt8)) (k : Nat) (h : k < P.length) : part P (k + 1) = (part P k).set k P[k] := by
  unfold part
  have hm : (P.take k).length = k := by simp; omega
  rw [List.take_succ_eq_append_getElem h, List.set_append_right _ _ (by omega), hm, Nat.sub_self]
  obtain ⟨m, hm2⟩ : ∃ m, P.length - k = m + 1 := ⟨P.length - k - 1, by omega⟩
  rw [hm2, show P.length - (k + 1) = m by omega, List.replicate_succ]
  simp only [List.set_cons_zero, List.append_assoc, List.singleton_append]
theorem part_end (P : List (List UInt8)) : part P P.length = P := by simp [part]

theorem made_srow {w w1 : World} {P : List (List UInt8)} (h : w1.ownsRow w.heap.size 9 1 (.slice (some ⟨w.heap.size, 0, none⟩) P.length P.length) P.length (madeCells #[.string ByteArray.empty] P.length).toList) : SRow w1 w.heap.size (part P 0) := by
  have e : (madeCells #[.string ByteArray.empty] P.length).toList = (part P 0).map S := by
    rw [← Lib.cellsOf_nil P.length]
    simp [Lib.cellsOf, part, S]
    right; rfl
  rw [e] at h
  exact srow_own h (by simp [part])

end Go.Proofs.YtoobaaklklommaaGreatDoor

namespace Go.Proofs.YtoobaaklklommaaGreatDoor
open Go.RowKit

/-- The digits of a number, ahead of what is there; the first argument is a bound on the steps. -/
def mdF : Nat → Nat → List UInt8 → List UInt8
  | 0, _, acc => acc
  | f + 1, k, acc => if k = 0 then acc else mdF f (k / 10) (UInt8.ofNat (48 + k % 10) :: acc)
theorem mdF_fuel : ∀ (f g k : Nat) (acc : List UInt8), k ≤ f → k ≤ g → mdF f k acc = mdF g k acc
  | 0, g, k, acc, h, _ => by
    obtain rfl : k = 0 := by omega
    cases g <;> simp [mdF]
  | f + 1, 0, k, acc, _, h => by
    obtain rfl : k = 0 := by omega
    simp [mdF]
  | f + 1, g + 1, k, acc, h1, h2 => by
    by_cases hk : k = 0
    · simp [mdF, hk]
    · simp only [mdF, hk, if_false]
      exact mdF_fuel f g (k / 10) _ (by omega) (by omega)
theorem mdF_step (k : Nat) (acc : List UInt8) (hk : 0 < k) : mdF k k acc = mdF (k / 10) (k / 10) (UInt8.ofNat (48 + k % 10) :: acc) := by
  obtain ⟨j, rfl⟩ : ∃ j, k = j + 1 := ⟨k - 1, by omega⟩
  rw [mdF, if_neg (by omega)]
  exact mdF_fuel _ _ _ _ (by omega) (Nat.le_refl _)
theorem mdF_zero (acc : List UInt8) : mdF 0 0 acc = acc := rfl
/-- What markText tells of a number above 0. -/
def mark (k : Nat) : List UInt8 := 109 :: mdF k k []

theorem digit_byte (n : Nat) : (((UInt8.ofNat (48 + n % 10)).toNat : Nat) : Int) = 48 + (n : Int) % 10 := by
  have : (UInt8.ofNat (48 + n % 10)).toNat = 48 + n % 10 := by
    rw [UInt8.toNat_ofNat']; omega
  rw [this]; omega

theorem conv_one (w : World) (c : UInt8) : Sem.run Tryz.prog (convert 165 9 (.slice (some ⟨w.heap.size, 0, none⟩) 1 1)) (w.alloc (.cells #[.int .u8 (c.toNat : Int)] 5)) = .ok (.string ⟨#[c]⟩) (w.alloc (.cells #[.int .u8 (c.toNat : Int)] 5)) := by
  refine run_convert_bytes_back (w.alloc (.cells #[.int .u8 (c.toNat : Int)] 5)) 165 9 5 ⟨w.heap.size, 0, none⟩ 1 [c] Tryz.underlying165 Tryz.underlying5 Tryz.underlying9 (fun j hj => ?_)
  match j, hj with
  | 0, _ => simp [Addr.add]

set_option maxRecDepth 20000 in
set_option maxHeartbeats 1000000 in
theorem markText_any (n : Int) (K : Nat) (w : World) (hn : Hid (n = (K : Int))) (h0 : 0 < n) (hK : n ≤ 4294967280) :
    Calls Tryz.prog 101 #[.int .i64 n] w fun e w' => e = .returned (.string ⟨(mark K).toArray⟩) ∧ Below w.heap.size w w' := by
  go_enter Tryz.func101, Tryz.ntmps101
  go_wp2_with fail
  go_loopw [0, 3] (fun k s wr => ∃ (m : Nat) (out : List UInt8), k = .int .i64 m ∧ s = .string ⟨out.toArray⟩ ∧ out.length + m ≤ 4294967280 ∧ Hid (mdF m m out = mdF K K []) ∧ Below w.heap.size w wr) (fun k _ _ => (intOf k).toNat)
  case atStart => exact ⟨K, [], by rw [hn.out], rfl, by have := hn.out; simp; omega, rfl, Below.refl _ _⟩
  case round =>
    obtain ⟨m, out, rfl, rfl, hlen, HM, hb⟩ := hrel
    by_cases hm : 0 < m
    · have hst := mdF_step m out hm
      have hd := digit_byte m
      obtain ⟨c, hc⟩ : ∃ c, c = UInt8.ofNat (48 + m % 10) := ⟨_, rfl⟩
      rw [← hc] at hst hd
      have hconv := conv_one wr c
      rw [hd] at hconv
      have HST : Hid (mdF (m / 10) (m / 10) (c :: out) = mdF K K []) := by rw [← hst]; exact HM
      clear hst hd hc
      go_wp2_with fail
      go_roundw
      case rel => exact ⟨m / 10, c :: out, congrArg (Value.int .i64) (by omega), congrArg Value.string (data_eq (by simp)), by simp only [List.length_cons]; omega, HST, hb.alloc hb.size _⟩
      case measure => simp [intOf]; omega
    · obtain rfl : m = 0 := by omega
      have HO : Hid (out = mdF K K []) := HM
      go_wp2_with fail
      go_ret
      exact ⟨congrArg (fun x => Ending.returned (Value.string x)) (data_eq (by unfold mark; rw [← HO.out]; simp)), hb⟩
end Go.Proofs.YtoobaaklklommaaGreatDoor

namespace Go.Proofs.YtoobaaklklommaaGreatDoor
open Go.RowKit

theorem grown_refl (w : World) (row : Option Nat) : w.grownBy w row := ⟨rfl, rfl, rfl, Nat.le_refl _, fun _ _ _ => rfl⟩
theorem grown_below {w a b : World} {row : Option Nat} (h : w.grownBy a row) (k : Below a.heap.size a b) : w.grownBy b row :=
  ⟨k.os.trans h.os, k.tape.trans h.tape, k.output.trans h.output, Nat.le_trans h.size k.size, fun i hi hne => (k.block i (Nat.lt_of_lt_of_le hi h.size)).trans (h.block i hi hne)⟩
theorem grown_set {w a : World} {g k : Nat} {u : Value} (h : w.grownBy a (some g)) : w.grownBy (a.setCell ⟨g, k, none⟩ u) (some g) :=
  ⟨h.os, h.tape, h.output, by simpa using h.size, fun i hi hne => (Below.heap_setCell a ⟨g, k, none⟩ u i (fun e => hne (by rw [e]))).trans (h.block i hi hne)⟩
theorem grown_row {w a : World} {g : Nat} {v : Value} {P : List (List UInt8)} (h : w.grownBy a (some g)) (hr : Row w v P) (hne : ∀ b o n c, v = .slice (some ⟨b, o, none⟩) n c → P ≠ [] → b ≠ g) : Row a v P := by
  obtain ⟨x, cap, rfl, h1, h2, h3⟩ := hr
  refine ⟨x, cap, rfl, h1, h2, ?_⟩
  rcases h3 with h3 | ⟨b, o, rfl, hb1, hc⟩
  · exact .inl h3
  · by_cases hp : P = []
    · exact .inl hp
    · exact .inr ⟨b, o, rfl, Nat.lt_of_lt_of_le hb1 h.size, fun j hj => h.cell (hc j hj) (fun e => hne b o _ _ rfl hp (Option.some.inj e))⟩

/-- A list of texts that the call owns, or nil. -/
def OwnS (w : World) (base : Nat) (v : Value) (L : List (List UInt8)) : Prop :=
  (v = .slice none 0 0 ∧ L = []) ∨ ∃ g cap, v = .slice (some ⟨g, 0, none⟩) L.length cap ∧ L.length ≤ cap ∧ cap ≤ maxLen ∧ base ≤ g ∧ SRow w g L
theorem OwnS.row {w : World} {base : Nat} {v : Value} {L : List (List UInt8)} (h : OwnS w base v L) : Row w v L := by
  rcases h with ⟨rfl, rfl⟩ | ⟨g, cap, rfl, h1, h2, _, hs⟩
  · exact row_nil w
  · exact hs.row h1 h2
theorem OwnS.kept {w w' : World} {base : Nat} {v : Value} {L : List (List UInt8)} (h : OwnS w base v L) (hb : Below w.heap.size w w') : OwnS w' base v L := by
  rcases h with h | ⟨g, cap, rfl, h1, h2, h3, hs⟩
  · exact .inl h
  · exact .inr ⟨g, cap, rfl, h1, h2, h3, hs.kept hb⟩

def marks (n : Nat) : List (List UInt8) := (List.range n).map (fun i => mark (i + 1))
theorem marks_length (n : Nat) : (marks n).length = n := by simp [marks]
theorem marks_get (n k : Nat) (h : k < n) : (marks n)[k]'(by rw [marks_length]; exact h) = mark (k + 1) := by simp [marks]
/-- Behind k rounds. -/
def half (L : List (List UInt8)) (k : Nat) : List (List UInt8) := marks k ++ L.drop k
theorem half_length (L : List (List UInt8)) (k : Nat) (h : k ≤ L.length) : (half L k).length = L.length := by simp [half, marks]; omega
theorem half_zero (L : List (List UInt8)) : half L 0 = L := by simp [half, marks]
theorem half_end (L : List (List UInt8)) : half L L.length = marks L.length := by simp [half]
theorem half_next (L : List (List UInt8)) (k : Nat) (h : k < L.length) : half L (k + 1) = (half L k).set k (mark (k + 1)) := by
  unfold half
  have hm : (marks k).length = k := marks_length k
  rw [List.set_append_right _ _ (by omega), hm, Nat.sub_self, List.drop_eq_getElem_cons h]
  simp only [marks, List.range_succ, List.map_append, List.map_cons, List.map_nil, List.set_cons_zero, List.append_assoc, List.singleton_append]

theorem below_any {w wr w1 : World} (hb : Below w.heap.size w wr) (hb1 : Below wr.drew.heap.size wr.drew w1) : Below w.heap.size w w1 := hb.drew.trans (hb1.mono hb.size)

end Go.Proofs.YtoobaaklklommaaGreatDoor

namespace Go.Proofs.YtoobaaklklommaaGreatDoor
open Go.RowKit

/-- What is behind the first dot. -/
def parentL : List UInt8 → List UInt8
  | [] => []
  | c :: l => if c = 46 then l else parentL l
theorem parent_join : ∀ l : List UInt8, parentL l = joinD (cut 46 l).tail
  | [] => by simp [parentL, cut, joinD]
  | c :: l => by
    by_cases h : c = 46
    · simp [parentL, cut, h, joinD_cut]
    · have ih := parent_join l
      cases e : cut 46 l with
      | nil => exact absurd e (cut_ne 46 l)
      | cons p r => rw [e] at ih; simp [parentL, cut, h, ih, e]

theorem parent_at {l : List UInt8} {k : Nat} (h : parentL l = parentL (l.drop k)) (hk : k < l.length) (hc : l[k] = 46) : parentL l = l.drop (k + 1) := by
  rw [h, List.drop_eq_getElem_cons hk, parentL, if_pos hc]
theorem parent_next {l : List UInt8} {k : Nat} (h : parentL l = parentL (l.drop k)) (hk : k < l.length) (hc : ¬ l[k] = 46) : parentL l = parentL (l.drop (k + 1)) := by
  rw [h, List.drop_eq_getElem_cons hk, parentL, if_neg hc]
theorem parent_end {l : List UInt8} {k : Nat} (h : parentL l = parentL (l.drop k)) (hk : ¬ k < l.length) : parentL l = [] := by
  rw [h, List.drop_of_length_le (by omega)]; rfl



set_option maxRecDepth 20000 in
set_option maxHeartbeats 1000000 in
theorem l1Parent_any (s : ByteArray) (w : World) (hs : s.size ≤ 4294967280) :
    Calls Tryz.prog 186 #[.string s] w fun e w' => e = .returned (.string ⟨(parentL s.data.toList).toArray⟩) ∧ w' = w := by
  go_enter Tryz.func186, Tryz.ntmps186
  go_wp2_with fail
  go_loop [3] (fun i => ∃ k : Nat, k ≤ s.size ∧ i = .int .i64 k ∧ Hid (parentL s.data.toList = parentL (s.data.toList.drop k))) (fun i => s.size - (intOf i).toNat)
  case atStart => exact ⟨0, Nat.zero_le _, rfl, rfl⟩
  case round =>
    obtain ⟨k, hk, rfl, HA⟩ := hrel
    by_cases hlt : k < s.size
    · by_cases hc : s[k] = 46
      · have e1 : ((s[k].toNat : Int) == 46) = true := by rw [hc]; rfl
        have HC : Hid (s[k] = 46) := hc
        clear hc
        go_wp2_with fail
        go_ret
        refine ⟨?_, rfl⟩
        have h1 := extract_S s (k + 1) s.size
        have h2 : s.data.toList.take s.size = s.data.toList := List.take_of_length_le (by simp)
        rw [h2, ← parent_at HA.out (by simpa using hlt) HC.out] at h1
        exact congrArg Ending.returned h1
      · have e1 : ((s[k].toNat : Int) == 46) = false := by
          rw [beq_eq_false_iff_ne]; intro h; exact hc (UInt8.toNat_inj.1 (by show s[k].toNat = 46; omega))
        have HR : Hid (parentL s.data.toList = parentL (s.data.toList.drop (k + 1))) := parent_next HA.out (by simpa using hlt) hc
        clear hc
        go_wp2_with fail
        go_round
        case rel => exact ⟨k + 1, by omega, by go_num, HR⟩
        case measure => simp [intOf]; omega
    · go_wp2_with fail
      go_ret
      exact ⟨ret_S (parent_end HA.out (by simpa using hlt)).symm, rfl⟩

/-- What ParentOf tells. -/
def parentT (l : List UInt8) : List UInt8 := if nameB l = true ∧ l ≠ [] then parentL l else []
def parentB (l : List UInt8) : Bool := nameB l && !l.isEmpty

theorem rest_row {w1 : World} {g cap : Nat} {p : List UInt8} {r : List (List UInt8)} (hcap : r.length + 1 ≤ cap) (hmax : cap ≤ maxLen) (hgl : g < w1.heap.size) (hc : Hid (∀ j, j < (p :: r).length → w1.cell? ⟨g, j, none⟩ = ((p :: r).map S)[j]?)) :
    Hid ((cap = 1 → Row w1 (.slice (some ⟨g, 0, none⟩) r.length 0) r) ∧ Row w1 (.slice (some ⟨g, 1, none⟩) r.length (cap - 1)) r) := by
  refine ⟨fun h => ?_, ?_⟩
  · obtain rfl : r = [] := List.length_eq_zero_iff.1 (by omega)
    exact ⟨_, 0, rfl, Nat.le_refl _, by unfold maxLen; omega, .inl rfl⟩
  · refine ⟨_, cap - 1, rfl, by omega, by omega, .inr ⟨g, 1, rfl, hgl, fun j hj => ?_⟩⟩
    rw [hc.out (1 + j) (by simp; omega), Nat.add_comm 1 j, List.map_cons, List.getElem?_cons_succ, List.getElem?_map, List.getElem?_eq_getElem hj]
    rfl

end Go.Proofs.YtoobaaklklommaaGreatDoor
