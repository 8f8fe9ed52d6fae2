import Derived.Test.YtoanloballaclaaDoorJoin
import Derived.Deep.QuietTactic
import Derived.BigQuiet
import Derived.WalkSmall
namespace Go.Proofs.YtoanloballaclaaDoor
open Go.RowKit

theorem shape_of_own {w : World} {base : Nat} {v : Value} {P : List (List UInt8)} (h : w.ownsRow base 9 1 v P.length (P.map S)) :
    ∃ g cap, (v = .slice none 0 0 ∧ P = []) ∨ (v = .slice (some ⟨g, 0, none⟩) P.length cap ∧ base ≤ g ∧ g < w.heap.size ∧ P.length ≤ cap ∧ cap ≤ maxLen ∧ ∀ j, (hj : j < P.length) → w.cell? ⟨g, j, none⟩ = some (S P[j])) := by
  have h0 := h
  obtain ⟨hl, ⟨rfl, hn⟩ | ⟨g, cap, cur, rfl, hg, hh, hc, hm, hs, hx⟩⟩ := h
  · exact ⟨0, 0, .inl ⟨rfl, List.length_eq_zero_iff.1 hn⟩⟩
  · have := h0.lt g rfl
    exact ⟨g, cap, .inr ⟨rfl, this.1, this.2, hc, hm, fun j hj => by rw [h0.cellAt j (by omega), List.getElem?_map, List.getElem?_eq_getElem hj]; rfl⟩⟩

theorem own_mono {w : World} {base base' e size : Nat} {v : Value} {n : Nat} {xs : List Value} (h : w.ownsRow base e size v n xs) (hb : base' ≤ base) : w.ownsRow base' e size v n xs := by
  obtain ⟨hl, hh | ⟨g, cap, cur, rfl, hg, hr⟩⟩ := h
  · exact ⟨hl, .inl hh⟩
  · exact ⟨hl, .inr ⟨g, cap, cur, rfl, Nat.le_trans hb hg, hr⟩⟩

/-- A list of texts in memory, by its value. -/
theorem row_value {w : World} {v : Value} {P : List (List UInt8)} (h : Row w v P) : ∃ a cap, v = .slice a P.length cap ∧ P.length ≤ cap ∧ cap ≤ 2 ^ 63 - 1 ∧ Hid (0 < P.length → ∃ b o, a = some ⟨b, o, none⟩ ∧ b < w.heap.size ∧ ∀ j, (hj : j < P.length) → w.cell? ⟨b, o + j, none⟩ = some (S P[j])) := by
  obtain ⟨a, cap, rfl, h1, h2, h3⟩ := h
  unfold maxLen at h2
  refine ⟨a, cap, rfl, h1, h2, fun hp => ?_⟩
  rcases h3 with rfl | h3
  · simp at hp
  · exact h3

theorem name_eight {l : List UInt8} (h : nameB l = true) : (labelsOf l).length ≤ 8 := by
  unfold nameB at h; simp only [Bool.and_eq_true, decide_eq_true_eq] at h; exact h.2.2

theorem val_int {k : IntKind} {a b : Int} (h : a = b) : Value.int k a = .int k b := by rw [h]
theorem ret_three {a b c d e f : Value} (h : a = d) (k : b = e) (l : c = f) : Ending.returned (.tuple #[a, b, c]) = .returned (.tuple #[d, e, f]) := by rw [h, k, l]

theorem cut_append (b : UInt8) : ∀ (x y : List UInt8), cut b (x ++ b :: y) = cut b x ++ cut b y
  | [], y => by simp [cut]
  | c :: x, y => by
    have ih := cut_append b x y
    by_cases h : c = b
    · simp [cut, h, ih]
    · cases e : cut b x with
      | nil => exact absurd e (cut_ne b x)
      | cons p r => rw [e] at ih; simp [cut, h, ih, e]
theorem cut_no (b : UInt8) : ∀ l, ∀ p ∈ cut b l, b ∉ p
  | [], p, hp => by simp [cut] at hp; simp [hp]
  | c :: l, p, hp => by
    have ih := cut_no b l
    by_cases h : c = b
    · simp only [cut, h, if_true, List.mem_cons] at hp
      rcases hp with rfl | hp
      · simp
      · exact ih p hp
    · cases e : cut b l with
      | nil => exact absurd e (cut_ne b l)
      | cons q r =>
        simp only [cut, h, if_false, e, List.mem_cons] at hp
        rcases hp with rfl | hp
        · have := ih q (by rw [e]; simp)
          simp only [List.mem_cons, not_or]; exact ⟨fun e => h e.symm, this⟩
        · exact ih p (by rw [e]; simp [hp])
theorem cut_plain (b : UInt8) : ∀ l : List UInt8, b ∉ l → cut b l = [l]
  | [], _ => rfl
  | c :: l, h => by
    simp only [List.mem_cons, not_or] at h
    have ih := cut_plain b l h.2
    simp [cut, Ne.symm h.1, ih]
theorem cut_joinD : ∀ Q : List (List UInt8), Q ≠ [] → (∀ p ∈ Q, 46 ∉ p) → cut 46 (joinD Q) = Q
  | [], h, _ => absurd rfl h
  | [p], _, h => by simp [joinD, cut_plain 46 p (h p (by simp))]
  | p :: q :: r, _, h => by
    have ih := cut_joinD (q :: r) (by simp) (fun x hx => h x (by simp at hx ⊢; right; exact hx))
    rw [joinD, if_neg (by simp), cut_append, ih, cut_plain 46 p (h p (by simp))]
    rfl

/-- Labels that are not empty and hold no dot. -/
def Plain (Q : List (List UInt8)) : Prop := ∀ p ∈ Q, p ≠ [] ∧ 46 ∉ p
theorem Plain.drop {Q : List (List UInt8)} (h : Plain Q) (k : Nat) : Plain (Q.drop k) := fun p hp => h p (List.mem_of_mem_drop hp)
theorem plain_ne {r : List (List UInt8)} (hr : r ≠ []) (h : Plain r) : joinD r ≠ [] := by
  match r, hr with
  | p :: q, _ =>
    have hp := (h p (by simp)).1
    unfold joinD
    split
    · exact hp
    · simp
theorem lab_ne {p : List UInt8} (h : labelB p = true) : p ≠ [] := by
  intro e; subst e; revert h; decide
theorem name_plain {l : List UInt8} (h : nameB l = true) : Plain (labelsOf l) := by
  intro p hp
  have h1 : labelB p = true := by
    unfold nameB at h; simp only [Bool.and_eq_true, List.all_eq_true] at h; exact h.1 p hp
  refine ⟨lab_ne h1, ?_⟩
  unfold labelsOf at hp
  split at hp
  · simp at hp
  · exact cut_no 46 l p hp
theorem joinD_labels (l : List UInt8) : joinD (labelsOf l) = l := by
  unfold labelsOf
  split
  · rename_i h; rw [h]; rfl
  · exact joinD_cut l

def tot (P : List (List UInt8)) : Nat := (P.map List.length).sum
theorem tot_snoc (P : List (List UInt8)) (k : Nat) (h : k < P.length) : tot (P.take (k + 1)) = tot (P.take k) + P[k].length := by
  unfold tot; rw [List.take_succ_eq_append_getElem h, List.map_append, List.sum_append]; simp only [List.map_cons, List.map_nil, List.sum_cons, List.sum_nil, Nat.add_zero]
theorem tot_full (P : List (List UInt8)) (k : Nat) (h : ¬ k < P.length) : tot (P.take k) = tot P := by rw [List.take_of_length_le (by omega)]
theorem tot_one {P : List (List UInt8)} {p : List UInt8} (h : p ∈ P) : p.length ≤ tot P := by
  unfold tot
  induction P with
  | nil => simp at h
  | cons q r ih =>
    rcases List.mem_cons.1 h with rfl | h
    · simp
    · have := ih h; simp; omega

theorem joinD_tot : ∀ P : List (List UInt8), (joinD P).length ≤ tot P + P.length
  | [] => by simp [joinD, tot]
  | p :: r => by
    have ih := joinD_tot r
    have e : tot (p :: r) = p.length + tot r := by simp [tot]
    unfold joinD
    split
    · rw [e]; simp; omega
    · rw [e]; simp; omega
theorem label_nodot {p : List UInt8} (h : labelB p = true) : 46 ∉ p := by
  intro hm
  unfold labelB at h
  rw [Bool.or_eq_true] at h
  rcases h with h | h
  · have : p = [42] := by simpa using h
    rw [this] at hm; revert hm; decide
  · simp only [Bool.and_eq_true, List.all_eq_true] at h
    have := h.2.2 46 hm
    revert this; decide

/-- What NameOf tells. -/
def nameOfB (P : List (List UInt8)) : Bool := P.all labelB && nameB (joinD P)
def nameOfT (P : List (List UInt8)) : List UInt8 := if nameOfB P = true then joinD P else []
theorem joinD_small : ∀ P : List (List UInt8), (∀ p ∈ P, p.length ≤ 20) → (joinD P).length ≤ 21 * P.length
  | [], _ => by simp [joinD]
  | p :: r, h => by
    have h1 := h p (by simp)
    have ih := joinD_small r (fun q hq => h q (by simp [hq]))
    unfold joinD
    split
    · simp; omega
    · simp; omega

theorem label_le {p : List UInt8} (h : labelB p = true) : p.length ≤ 20 := by
  unfold labelB at h
  rw [Bool.or_eq_true] at h
  rcases h with h1 | h1
  · have : p = [42] := by simpa using h1
    subst this; simp
  · simp only [Bool.and_eq_true, decide_eq_true_eq] at h1
    exact h1.2.1
theorem are_small {P : List (List UInt8)} (h : areB P = true) : (joinD P).length ≤ 168 := by
  unfold areB at h
  simp only [Bool.and_eq_true, decide_eq_true_eq, List.all_eq_true] at h
  have := joinD_small P (fun p hp => label_le (h.2 p hp))
  omega
theorem nameOf_eq {P : List (List UInt8)} : nameOfB P = (areB P && decide ((joinD P).length ≤ 60)) := by
  unfold nameOfB areB
  cases ha : P.all labelB with
  | false => simp
  | true =>
    have hp : Plain P := fun p hp => ⟨lab_ne (List.all_eq_true.1 ha p hp), label_nodot (List.all_eq_true.1 ha p hp)⟩
    have hl : labelsOf (joinD P) = P := by
      unfold labelsOf
      by_cases h0 : P = []
      · subst h0; simp [joinD]
      · rw [if_neg (plain_ne h0 hp), cut_joinD P h0 (fun p h => (hp p h).2)]
    unfold nameB; rw [hl, ha, Bool.true_and, Bool.true_and, Bool.and_true, Bool.and_comm]

theorem val_strJ {x : ByteArray} {l : List UInt8} (h : x.data.toList = l) : Value.string x = .string ⟨l.toArray⟩ := by rw [data_eq h]

theorem ret_S {x y : List UInt8} (h : x = y) : Ending.returned (.string ⟨x.toArray⟩) = .returned (.string ⟨y.toArray⟩) := by rw [h]
end Go.Proofs.YtoanloballaclaaDoor
