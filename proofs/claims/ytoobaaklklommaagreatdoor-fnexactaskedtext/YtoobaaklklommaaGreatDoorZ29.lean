import Derived.Test.YtoobaaklklommaaGreatDoorZ28
import Derived.Test.YtoobaaklklommaaGreatDoorZ07
import Derived.Laws.AppendOwnNone
import Derived.Test.YtoobaaklklommaaGreatDoorZ27
namespace Go.Proofs.YtoobaaklklommaaGreatDoor
open Go.RowKit

theorem cells_of_row {w wr : World} {b o k m : Nat} {L : List (List UInt8)} (hb : Below w.heap.size w wr) (hbl : b < w.heap.size) (hc : ∀ j, (hj : j < L.length) → w.cell? ⟨b, o + j, none⟩ = some (S L[j])) (hkm : k + m ≤ L.length) :
    ∀ j u, (((L.drop k).take m).map S)[j]? = some u → wr.cell? ((⟨b, o + k, none⟩ : Addr).add j) = some u := by
  intro j u hj
  have hjm : j < m ∧ j < L.length - k := by
    have := (List.getElem?_eq_some_iff.1 hj).1
    simp at this; omega
  have hadd : (⟨b, o + k, none⟩ : Addr).add j = ⟨b, o + (k + j), none⟩ := by unfold Addr.add; split <;> simp_all <;> omega
  rw [hadd, hb.cell (p := ⟨b, o + (k + j), none⟩) hbl, hc (k + j) (by omega)]
  rw [List.getElem?_map, List.getElem?_take_of_lt hjm.1, List.getElem?_drop, List.getElem?_eq_getElem (by omega)] at hj
  simpa using hj
theorem one_cells (L : List (List UInt8)) : ∀ u ∈ L.map S, u.oneCell' = true := by
  intro u hu; obtain ⟨x, _, rfl⟩ := List.mem_map.1 hu; rfl

theorem S_data (s : ByteArray) : S s.data.toList = .string s := by unfold S; rw [← data_eq (s := s) rfl]

theorem ahead_of {L : List (List UInt8)} {s : List UInt8} {k : Nat} (h : k ≤ ahead L s) (hk : ¬ k < L.length) : ahead L s = k := by have := ahead_le L s; omega
theorem put_same {L : List (List UInt8)} {s : List UInt8} {k : Nat} (h : ahead L s = k) (hk : k < L.length) (e : L[k] = s) : put L s = L := by
  unfold put; rw [h, List.getElem?_eq_getElem hk, e, if_pos rfl]
theorem put_new {L : List (List UInt8)} {s : List UInt8} {k : Nat} (h : ahead L s = k) (hk : ∀ hk : k < L.length, L[k] ≠ s) : put L s = L.take k ++ [s] ++ L.drop k := by
  unfold put; rw [h, if_neg]
  intro e
  obtain ⟨h1, h2⟩ := List.getElem?_eq_some_iff.1 e
  exact hk h1 h2

theorem put_row {w4 : World} {base k : Nat} {v : Value} {L : List (List UInt8)} {s : ByteArray} (hk : k ≤ L.length) (h : w4.ownsRow base 9 1 v (k + 1 + (L.length - k)) ((L.take k).map S ++ .string s :: (L.drop k).map S)) : Row w4 v (L.take k ++ [s.data.toList] ++ L.drop k) := by
  apply row_own (base := base)
  have e1 : (L.take k ++ [s.data.toList] ++ L.drop k).length = k + 1 + (L.length - k) := by simp; omega
  rw [e1, List.map_append, List.map_append, List.map_cons, List.map_nil, S_data, List.append_assoc, List.singleton_append]
  exact h

theorem put_row0 {w4 : World} {base k : Nat} {v : Value} {L : List (List UInt8)} {s : ByteArray} (hk : k ≤ L.length) (hk2 : L.length ≤ k) (h : w4.ownsRow base 9 1 v (k + 1) ((L.take k).map S ++ [.string s])) : Row w4 v (L.take k ++ [s.data.toList] ++ L.drop k) := by
  have e : L.drop k = [] := List.drop_of_length_le hk2
  refine put_row (base := base) hk ?_
  rw [e, show k + 1 + (L.length - k) = k + 1 by omega]
  exact h

/-- What SortNames tells. -/
def sortB (P : List (List UInt8)) : Bool := P.all nameB && decide (P.length ≤ 60)
def sortT (P : List (List UInt8)) : List (List UInt8) := if sortB P = true then sortN P else []

/-- A row of names that are rising, or nil. -/
def NRow (w : World) (v : Value) (L : List (List UInt8)) : Prop := (v = .slice none 0 0 ∧ L = []) ∨ (L ≠ [] ∧ Row w v L)
theorem NRow.row {w : World} {v : Value} {L : List (List UInt8)} (h : NRow w v L) : Row w v L := by
  rcases h with ⟨rfl, rfl⟩ | ⟨_, h⟩
  · exact row_nil w
  · exact h
theorem NRow.kept {w w' : World} {v : Value} {L : List (List UInt8)} (h : NRow w v L) (hb : Below w.heap.size w w') : NRow w' v L := by
  rcases h with h | ⟨h1, h⟩
  · exact .inl h
  · exact .inr ⟨h1, h.kept hb⟩

theorem put_length (L : List (List UInt8)) (s : List UInt8) : (put L s).length ≤ L.length + 1 := by
  unfold put; split
  · omega
  · simp; have := ahead_le L s; omega
theorem put_nne (L : List (List UInt8)) (s : List UInt8) : put L s ≠ [] := by
  intro e
  have := (put_mem L s s).2 (.inr rfl)
  rw [e] at this; simp at this
theorem sortN_length : ∀ P : List (List UInt8), (sortN P).length ≤ P.length := by
  intro P
  unfold sortN
  suffices h : ∀ (l a : List (List UInt8)), (l.foldl put a).length ≤ a.length + l.length from by simpa using h P []
  intro l
  induction l with
  | nil => intro a; simp
  | cons x l ih => intro a; rw [List.foldl_cons]; have h1 := ih (put a x); have h2 := put_length a x; simp; omega
theorem name_sixty {l : List UInt8} (h : nameB l = true) : l.length ≤ 60 := by unfold nameB at h; simp only [Bool.and_eq_true, decide_eq_true_eq] at h; exact h.2.1

theorem all_names_step {P : List (List UInt8)} {k : Nat} (h : (P.take k).all nameB = true) (hk : k < P.length) (ho : nameB P[k] = true) : (P.take (k + 1)).all nameB = true := by
  rw [List.take_succ_eq_append_getElem hk]; simp only [List.all_append, h, List.all_cons, ho, List.all_nil, Bool.and_true]
theorem all_names_not {P : List (List UInt8)} {k : Nat} (hk : k < P.length) (ho : nameB P[k] = false) : P.all nameB = false := by
  rw [Bool.eq_false_iff]; intro h
  have := List.all_eq_true.1 h P[k] (List.getElem_mem _)
  rw [ho] at this; cases this
theorem sort_names {P : List (List UInt8)} (h : P.all nameB = true) : ∀ x ∈ sortN P, nameB x = true := fun x hx => List.all_eq_true.1 h x ((sortN_mem P x).1 hx)

end Go.Proofs.YtoobaaklklommaaGreatDoor

namespace Go.Proofs.YtoobaaklklommaaGreatDoor
open Go.RowKit

theorem below_iff {a b : List UInt8} (ha : nameB a = true) (hb : nameB b = true) : belowB a b = true ↔ (labelsOf b).reverse <+: (labelsOf a).reverse := by
  have h := suffix_below (name_plain hb) (name_plain ha)
  rw [joinD_labels, joinD_labels] at h
  rw [h, List.reverse_prefix]
theorem pre_le : ∀ p z : List (List UInt8), p <+: z → cmpR p z ≠ 1
  | [], [], _ => by decide
  | [], _ :: _, _ => by simp [cmpR]
  | p :: a, [], h => by simp at h
  | p :: a, q :: z, h => by
    have h' := List.cons_prefix_cons.1 h
    obtain ⟨rfl, h2⟩ := h'
    have ih := pre_le a z h2
    simp [cmpR, ih]
/-- What lies between a name and one below it is below it, too. -/
theorem pre_mid : ∀ p x z : List (List UInt8), cmpR p x = -1 → cmpR x z = -1 → p <+: z → p <+: x
  | [], _, _, _, _, _ => List.nil_prefix
  | p :: a, [], _, h1, _, _ => by simp [cmpR] at h1
  | p :: a, q :: x, [], _, _, h3 => by simp at h3
  | p :: a, q :: x, r :: z, h1, h2, h3 => by
    obtain ⟨rfl, h4⟩ := List.cons_prefix_cons.1 h3
    by_cases e : p = q
    · subst e
      simp [cmpR] at h1 h2
      exact List.cons_prefix_cons.2 ⟨rfl, pre_mid a x z h1 h2 h4⟩
    · simp [cmpR, e, Ne.symm e] at h1 h2
      have := cmp_swap p q
      omega
theorem cmp_below {a b : List UInt8} (ha : nameB a = true) (hb : nameB b = true) (h : belowB a b = true) : cmpN a b ≠ -1 := by
  have h1 := pre_le _ _ ((below_iff ha hb).1 h)
  have h2 := cmpN_swap b a
  unfold cmpN at h2 ⊢
  omega
/-- In a list that rises those below one stand right behind it. -/
theorem block_of {S : List (List UInt8)} (hs : S.Pairwise ltN) (hn : ∀ x ∈ S, nameB x = true) {i j k : Nat} (hij : i ≤ j) (hjk : j < k) (hk : k < S.length) (h : belowB S[k] (S[i]'(by omega)) = true) : belowB (S[j]'(by omega)) (S[i]'(by omega)) = true := by
  have ni := hn (S[i]'(by omega)) (List.getElem_mem _)
  have nj := hn (S[j]'(by omega)) (List.getElem_mem _)
  have nk := hn S[k] (List.getElem_mem _)
  rw [below_iff nj ni]
  rw [below_iff nk ni] at h
  rcases Nat.lt_or_ge i j with hlt | hge
  · have h1 : ltN (S[i]'(by omega)) (S[j]'(by omega)) := List.pairwise_iff_getElem.1 hs i j (by omega) (by omega) hlt
    have h2 : ltN (S[j]'(by omega)) S[k] := List.pairwise_iff_getElem.1 hs j k (by omega) hk hjk
    exact pre_mid _ _ _ h1 h2 h
  · have e : i = j := by omega
    subst e; exact List.prefix_refl _
theorem cmp_T {a b : List UInt8} (ha : nameB a = true) (hb : nameB b = true) : cmpT a b = cmpN a b ∧ cmpB a b = true := by
  unfold cmpT cmpB cmpN; rw [ha, hb]; exact ⟨rfl, rfl⟩
theorem cmp_iff (a b : List UInt8) : (cmpN a b == 0) = (a == b) := by
  rw [Bool.eq_iff_iff, beq_iff_eq, beq_iff_eq]
  exact ⟨cmpN_zero, fun e => by rw [e, cmpN_self]⟩
end Go.Proofs.YtoobaaklklommaaGreatDoor
