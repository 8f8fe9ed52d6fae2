import Derived.Test.YtdbbcepjdojdcaaGreatDoorZ16
import Derived.Test.YtdbbcepjdojdcaaGreatDoorZ13
import Derived.Test.YtdbbcepjdojdcaaGreatDoorZ06
import Derived.Laws.AppendOwnNone
namespace Go.Proofs.YtdbbcepjdojdcaaGreatDoor
open Go.RowKit

theorem cb_trans : ∀ a b c : List UInt8, Lib.compareBytes a b = -1 → Lib.compareBytes b c = -1 → Lib.compareBytes a c = -1
  | [], [], _, h, _ => by simp [Lib.compareBytes] at h
  | [], _ :: _, [], _, h => by simp [Lib.compareBytes] at h
  | [], _ :: _, _ :: _, _, _ => by simp [Lib.compareBytes]
  | _ :: _, [], _, h, _ => by simp [Lib.compareBytes] at h
  | _ :: _, _ :: _, [], _, h => by simp [Lib.compareBytes] at h
  | a :: al, b :: bl, c :: cl, h1, h2 => by
    unfold Lib.compareBytes at h1 h2 ⊢
    by_cases ab : a < b
    · by_cases bc : b < c
      · rw [if_pos (UInt8.lt_trans ab bc)]
      · rw [if_neg bc] at h2
        by_cases cb : c < b
        · rw [if_pos cb] at h2; cases h2
        · have e : b = c := UInt8.le_antisymm (UInt8.not_lt.1 cb) (UInt8.not_lt.1 bc)
          subst e; rw [if_pos ab]
    · rw [if_neg ab] at h1
      by_cases ba : b < a
      · rw [if_pos ba] at h1; cases h1
      · have e : a = b := UInt8.le_antisymm (UInt8.not_lt.1 ba) (UInt8.not_lt.1 ab)
        subst e
        rw [if_neg ba] at h1
        by_cases ac : a < c
        · rw [if_pos ac]
        · rw [if_neg ac] at h2 ⊢
          by_cases ca : c < a
          · rw [if_pos ca] at h2; cases h2
          · rw [if_neg ca] at h2 ⊢
            exact cb_trans al bl cl h1 h2
theorem cmpR_vals : ∀ a b, cmpR a b = -1 ∨ cmpR a b = 0 ∨ cmpR a b = 1
  | [], [] => by simp [cmpR]
  | [], _ :: _ => by simp [cmpR]
  | _ :: _, [] => by simp [cmpR]
  | p :: a, q :: b => by
    unfold cmpR; split
    · exact cmpR_vals a b
    · exact cmp_vals p q
theorem cmpR_swap : ∀ a b, cmpR b a = - cmpR a b
  | [], [] => by simp [cmpR]
  | [], _ :: _ => by simp [cmpR]
  | _ :: _, [] => by simp [cmpR]
  | p :: a, q :: b => by
    unfold cmpR
    by_cases h : p = q
    · subst h; simp [cmpR_swap a b]
    · rw [if_neg h, if_neg (Ne.symm h)]; exact cmp_swap p q
theorem cmpR_zero : ∀ a b, cmpR a b = 0 → a = b
  | [], [], _ => rfl
  | [], _ :: _, h => by simp [cmpR] at h
  | _ :: _, [], h => by simp [cmpR] at h
  | p :: a, q :: b, h => by
    unfold cmpR at h
    by_cases e : p = q
    · rw [if_pos e] at h; rw [e, cmpR_zero a b h]
    · rw [if_neg e] at h; exact absurd (cmp_zero p q h) e
theorem cmpR_trans : ∀ a b c, cmpR a b = -1 → cmpR b c = -1 → cmpR a c = -1
  | [], [], _, h, _ => by simp [cmpR] at h
  | [], _ :: _, [], _, h => by simp [cmpR] at h
  | [], _ :: _, _ :: _, _, _ => by simp [cmpR]
  | _ :: _, [], _, h, _ => by simp [cmpR] at h
  | _ :: _, _ :: _, [], _, h => by simp [cmpR] at h
  | p :: a, q :: b, r :: c, h1, h2 => by
    unfold cmpR at h1 h2 ⊢
    by_cases pq : p = q
    · subst pq
      rw [if_pos rfl] at h1
      by_cases pr : p = r
      · subst pr; rw [if_pos rfl] at h2 ⊢; exact cmpR_trans a b c h1 h2
      · rw [if_neg pr] at h2 ⊢; exact h2
    · rw [if_neg pq] at h1
      by_cases qr : q = r
      · subst qr; rw [if_neg pq]; exact h1
      · rw [if_neg qr] at h2
        have h3 := cb_trans p q r h1 h2
        by_cases pr : p = r
        · subst pr; rw [cmp_self] at h3; cases h3
        · rw [if_neg pr]; exact h3

/-- The order of names. -/
def cmpN (x y : List UInt8) : Int := cmpR (labelsOf x).reverse (labelsOf y).reverse
def ltN (x y : List UInt8) : Prop := cmpN x y = -1
theorem cmpN_zero {x y : List UInt8} (h : cmpN x y = 0) : x = y := by
  have e := cmpR_zero _ _ h
  have e2 : labelsOf x = labelsOf y := by rw [← List.reverse_reverse (labelsOf x), e, List.reverse_reverse]
  rw [← joinD_labels x, e2, joinD_labels]
theorem cmpN_self (x : List UInt8) : cmpN x x = 0 := by have := cmpR_swap (labelsOf x).reverse (labelsOf x).reverse; unfold cmpN; omega
theorem ltN_irrefl (x : List UInt8) : ¬ ltN x x := by unfold ltN; rw [cmpN_self]; decide
theorem ltN_trans {x y z : List UInt8} (h1 : ltN x y) (h2 : ltN y z) : ltN x z := cmpR_trans _ _ _ h1 h2
theorem cmpN_swap (x y : List UInt8) : cmpN y x = - cmpN x y := cmpR_swap _ _
theorem ltN_total {x y : List UInt8} (h : x ≠ y) : ltN x y ∨ ltN y x := by
  rcases cmpR_vals (labelsOf x).reverse (labelsOf y).reverse with e | e | e
  · exact .inl e
  · exact absurd (cmpN_zero e) h
  · right; unfold ltN; rw [cmpN_swap]; unfold cmpN; rw [e]
theorem ltN_asymm {x y : List UInt8} (h : ltN x y) : ¬ ltN y x := fun k => ltN_irrefl x (ltN_trans h k)

/-- Rising lists with the same names are one. -/
theorem rising_unique : ∀ a b : List (List UInt8), a.Pairwise ltN → b.Pairwise ltN → (∀ x, x ∈ a ↔ x ∈ b) → a = b
  | [], [], _, _, _ => rfl
  | [], q :: b, _, _, h => by have := (h q).2 (by simp); simp at this
  | p :: a, [], _, _, h => by have := (h p).1 (by simp); simp at this
  | p :: a, q :: b, ha, hb, h => by
    rw [List.pairwise_cons] at ha hb
    have hpq : p = q := by
      by_cases e : p = q
      · exact e
      · have h1 : p ∈ b := by have := (h p).1 (by simp); simpa [e] using this
        have h2 : q ∈ a := by have := (h q).2 (by simp); simpa [Ne.symm e] using this
        exact absurd (ltN_trans (hb.1 p h1) (ha.1 q h2)) (ltN_irrefl q)
    subst hpq
    have := rising_unique a b ha.2 hb.2 (fun x => by
      constructor
      · intro hx
        have := (h x).1 (by simp [hx])
        rcases List.mem_cons.1 this with rfl | hx'
        · exact absurd (ha.1 x hx) (ltN_irrefl x)
        · exact hx'
      · intro hx
        have := (h x).2 (by simp [hx])
        rcases List.mem_cons.1 this with rfl | hx'
        · exact absurd (hb.1 x hx) (ltN_irrefl x)
        · exact hx')
    rw [this]

/-- How many stand ahead of a name in a rising list. -/
def ahead (L : List (List UInt8)) (s : List UInt8) : Nat := (L.takeWhile (fun x => decide (cmpN x s = -1))).length
def put (L : List (List UInt8)) (s : List UInt8) : List (List UInt8) := if L[ahead L s]? = some s then L else L.take (ahead L s) ++ [s] ++ L.drop (ahead L s)
theorem ahead_le (L : List (List UInt8)) (s : List UInt8) : ahead L s ≤ L.length := by unfold ahead; exact (List.takeWhile_prefix _).length_le
theorem ahead_step : ∀ (L : List (List UInt8)) (s : List UInt8) (k : Nat), k ≤ ahead L s → (h : k < L.length) → cmpN L[k] s = -1 → k + 1 ≤ ahead L s
  | [], _, _, _, h, _ => by simp at h
  | x :: L, s, 0, _, _, h => by simp at h; simp [ahead, h]
  | x :: L, s, k + 1, h1, h, h2 => by
    have hx : cmpN x s = -1 := by
      by_cases e : cmpN x s = -1
      · exact e
      · simp [ahead, e] at h1
    simp only [ahead, List.takeWhile_cons, hx, decide_true, if_true, List.length_cons] at h1 ⊢
    have := ahead_step L s k (by unfold ahead; omega) (by simpa using h) (by simpa using h2)
    unfold ahead at this; omega
theorem ahead_stop : ∀ (L : List (List UInt8)) (s : List UInt8) (k : Nat), k ≤ ahead L s → (h : k < L.length) → cmpN L[k] s ≠ -1 → ahead L s = k
  | [], _, _, _, h, _ => by simp at h
  | x :: L, s, 0, _, _, h => by simp at h; simp [ahead, h]
  | x :: L, s, k + 1, h1, h, h2 => by
    have hx : cmpN x s = -1 := by
      by_cases e : cmpN x s = -1
      · exact e
      · simp [ahead, e] at h1
    simp only [ahead, List.takeWhile_cons, hx, decide_true, if_true, List.length_cons] at h1 ⊢
    have := ahead_stop L s k (by unfold ahead; omega) (by simpa using h) (by simpa using h2)
    unfold ahead at this; omega
theorem put_mem (L : List (List UInt8)) (s x : List UInt8) : x ∈ put L s ↔ x ∈ L ∨ x = s := by
  unfold put
  split
  · rename_i h
    constructor
    · exact .inl
    · rintro (h' | rfl)
      · exact h'
      · exact List.mem_of_getElem? h
  · conv => rhs; rw [← List.take_append_drop (ahead L s) L]
    simp only [List.mem_append, List.mem_singleton]
    constructor
    · rintro ((h | h) | h)
      · exact .inl (.inl h)
      · exact .inr h
      · exact .inl (.inr h)
    · rintro ((h | h) | h)
      · exact .inl (.inl h)
      · exact .inr h
      · exact .inl (.inr h)
theorem put_rising : ∀ (L : List (List UInt8)) (s : List UInt8), L.Pairwise ltN → (put L s).Pairwise ltN
  | [], s, _ => by simp [put, ahead]
  | x :: L, s, h => by
    rw [List.pairwise_cons] at h
    by_cases hx : cmpN x s = -1
    · have ih := put_rising L s h.2
      have e : put (x :: L) s = x :: put L s := by
        have ea : ahead (x :: L) s = ahead L s + 1 := by simp [ahead, hx]
        unfold put; rw [ea]
        simp only [List.getElem?_cons_succ, List.take_succ_cons, List.drop_succ_cons, List.cons_append]
        split <;> rfl
      rw [e, List.pairwise_cons]
      refine ⟨fun y hy => ?_, ih⟩
      rcases (put_mem L s y).1 hy with hy | rfl
      · exact h.1 y hy
      · exact hx
    · have ea : ahead (x :: L) s = 0 := by simp [ahead, hx]
      unfold put; rw [ea]
      simp only [List.getElem?_cons_zero, Option.some.injEq, List.take_zero, List.nil_append, List.drop_zero]
      split
      · rw [List.pairwise_cons]; exact h
      · rename_i hne
        have hsx : ltN s x := by
          rcases ltN_total hne with e | e
          · exact absurd e hx
          · exact e
        show ([s] ++ x :: L).Pairwise ltN
        rw [List.singleton_append, List.pairwise_cons, List.pairwise_cons]
        refine ⟨fun y hy => ?_, h⟩
        rcases List.mem_cons.1 hy with rfl | hy
        · exact hsx
        · exact ltN_trans hsx (h.1 y hy)

/-- What SortNames tells of names. -/
def sortN (l : List (List UInt8)) : List (List UInt8) := l.foldl put []
theorem sortN_rising (l : List (List UInt8)) : (sortN l).Pairwise ltN := by
  unfold sortN
  suffices h : ∀ (l a : List (List UInt8)), a.Pairwise ltN → (l.foldl put a).Pairwise ltN from h l [] (by simp)
  intro l
  induction l with
  | nil => intro a h; exact h
  | cons x l ih => intro a h; exact ih _ (put_rising a x h)
theorem sortN_mem (l : List (List UInt8)) (x : List UInt8) : x ∈ sortN l ↔ x ∈ l := by
  unfold sortN
  suffices h : ∀ (l a : List (List UInt8)), x ∈ l.foldl put a ↔ x ∈ a ∨ x ∈ l from by simpa using h l []
  intro l
  induction l with
  | nil => intro a; simp
  | cons y l ih => intro a; rw [List.foldl_cons, ih, put_mem]; simp [or_assoc]
theorem sortN_snoc (l : List (List UInt8)) (s : List UInt8) : sortN (l ++ [s]) = put (sortN l) s := by unfold sortN; rw [List.foldl_append]; rfl
end Go.Proofs.YtdbbcepjdojdcaaGreatDoor

namespace Go.Proofs.YtdbbcepjdojdcaaGreatDoor
open Go.RowKit

theorem cells_of_row {w wr : World} {b o k m : Nat} {L : List (List UInt8)} (hb : Below w.heap.size w wr) (hbl : b < w.heap.size) (hc : ∀ j, (hj : j < L.length) → w.cell? ⟨b, o + j, none⟩ = some (S L[j])) (hkm : k + m ≤ L.length) :
    ∀ j u, (((L.drop k).take m).map S)[j]? = some u → wr.cell? ((⟨b, o + k, none⟩ : Addr).add j) = some u := by
  intro j u hj
  have hjm : j < m ∧ j < L.length - k := by
    have := (List.getElem?_eq_some_iff.1 hj).1
    simp at this; omega
  have hadd : (⟨b, o + k, none⟩ : Addr).add j = ⟨b, o + (k + j), none⟩ := by unfold Addr.add; split <;> simp_all <;> omega
  rw [hadd, hb.cell (p := ⟨b, o + (k + j), none⟩) hbl, hc (k + j) (by omega)]
  rw [List.getElem?_map, List.getElem?_take_of_lt hjm.1, List.getElem?_drop, List.getElem?_eq_getElem (by omega)] at hj
  simpa using hj
theorem one_cells (L : List (List UInt8)) : ∀ u ∈ L.map S, u.oneCell' = true := by
  intro u hu; obtain ⟨x, _, rfl⟩ := List.mem_map.1 hu; rfl

theorem S_data (s : ByteArray) : S s.data.toList = .string s := by unfold S; rw [← data_eq (s := s) rfl]

theorem ahead_of {L : List (List UInt8)} {s : List UInt8} {k : Nat} (h : k ≤ ahead L s) (hk : ¬ k < L.length) : ahead L s = k := by have := ahead_le L s; omega
theorem put_same {L : List (List UInt8)} {s : List UInt8} {k : Nat} (h : ahead L s = k) (hk : k < L.length) (e : L[k] = s) : put L s = L := by
  unfold put; rw [h, List.getElem?_eq_getElem hk, e, if_pos rfl]
theorem put_new {L : List (List UInt8)} {s : List UInt8} {k : Nat} (h : ahead L s = k) (hk : ∀ hk : k < L.length, L[k] ≠ s) : put L s = L.take k ++ [s] ++ L.drop k := by
  unfold put; rw [h, if_neg]
  intro e
  obtain ⟨h1, h2⟩ := List.getElem?_eq_some_iff.1 e
  exact hk h1 h2

theorem put_row {w4 : World} {base k : Nat} {v : Value} {L : List (List UInt8)} {s : ByteArray} (hk : k ≤ L.length) (h : w4.ownsRow base 9 1 v (k + 1 + (L.length - k)) ((L.take k).map S ++ .string s :: (L.drop k).map S)) : Row w4 v (L.take k ++ [s.data.toList] ++ L.drop k) := by
  apply row_own (base := base)
  have e1 : (L.take k ++ [s.data.toList] ++ L.drop k).length = k + 1 + (L.length - k) := by simp; omega
  rw [e1, List.map_append, List.map_append, List.map_cons, List.map_nil, S_data, List.append_assoc, List.singleton_append]
  exact h

theorem put_row0 {w4 : World} {base k : Nat} {v : Value} {L : List (List UInt8)} {s : ByteArray} (hk : k ≤ L.length) (hk2 : L.length ≤ k) (h : w4.ownsRow base 9 1 v (k + 1) ((L.take k).map S ++ [.string s])) : Row w4 v (L.take k ++ [s.data.toList] ++ L.drop k) := by
  have e : L.drop k = [] := List.drop_of_length_le hk2
  refine put_row (base := base) hk ?_
  rw [e, show k + 1 + (L.length - k) = k + 1 by omega]
  exact h

/-- What SortNames tells. -/
def sortB (P : List (List UInt8)) : Bool := P.all nameB && decide (P.length ≤ 60)
def sortT (P : List (List UInt8)) : List (List UInt8) := if sortB P = true then sortN P else []

/-- A row of names that are rising, or nil. -/
def NRow (w : World) (v : Value) (L : List (List UInt8)) : Prop := (v = .slice none 0 0 ∧ L = []) ∨ (L ≠ [] ∧ Row w v L)
theorem NRow.row {w : World} {v : Value} {L : List (List UInt8)} (h : NRow w v L) : Row w v L := by
  rcases h with ⟨rfl, rfl⟩ | ⟨_, h⟩
  · exact row_nil w
  · exact h
theorem NRow.kept {w w' : World} {v : Value} {L : List (List UInt8)} (h : NRow w v L) (hb : Below w.heap.size w w') : NRow w' v L := by
  rcases h with h | ⟨h1, h⟩
  · exact .inl h
  · exact .inr ⟨h1, h.kept hb⟩

theorem put_length (L : List (List UInt8)) (s : List UInt8) : (put L s).length ≤ L.length + 1 := by
  unfold put; split
  · omega
  · simp; have := ahead_le L s; omega
theorem put_nne (L : List (List UInt8)) (s : List UInt8) : put L s ≠ [] := by
  intro e
  have := (put_mem L s s).2 (.inr rfl)
  rw [e] at this; simp at this
theorem sortN_length : ∀ P : List (List UInt8), (sortN P).length ≤ P.length := by
  intro P
  unfold sortN
  suffices h : ∀ (l a : List (List UInt8)), (l.foldl put a).length ≤ a.length + l.length from by simpa using h P []
  intro l
  induction l with
  | nil => intro a; simp
  | cons x l ih => intro a; rw [List.foldl_cons]; have h1 := ih (put a x); have h2 := put_length a x; simp; omega
theorem name_sixty {l : List UInt8} (h : nameB l = true) : l.length ≤ 60 := by unfold nameB at h; simp only [Bool.and_eq_true, decide_eq_true_eq] at h; exact h.2.1

theorem all_names_step {P : List (List UInt8)} {k : Nat} (h : (P.take k).all nameB = true) (hk : k < P.length) (ho : nameB P[k] = true) : (P.take (k + 1)).all nameB = true := by
  rw [List.take_succ_eq_append_getElem hk]; simp only [List.all_append, h, List.all_cons, ho, List.all_nil, Bool.and_true]
theorem all_names_not {P : List (List UInt8)} {k : Nat} (hk : k < P.length) (ho : nameB P[k] = false) : P.all nameB = false := by
  rw [Bool.eq_false_iff]; intro h
  have := List.all_eq_true.1 h P[k] (List.getElem_mem _)
  rw [ho] at this; cases this
theorem sort_names {P : List (List UInt8)} (h : P.all nameB = true) : ∀ x ∈ sortN P, nameB x = true := fun x hx => List.all_eq_true.1 h x ((sortN_mem P x).1 hx)

end Go.Proofs.YtdbbcepjdojdcaaGreatDoor

namespace Go.Proofs.YtdbbcepjdojdcaaGreatDoor
open Go.RowKit

theorem below_iff {a b : List UInt8} (ha : nameB a = true) (hb : nameB b = true) : belowB a b = true ↔ (labelsOf b).reverse <+: (labelsOf a).reverse := by
  have h := suffix_below (name_plain hb) (name_plain ha)
  rw [joinD_labels, joinD_labels] at h
  rw [h, List.reverse_prefix]
theorem pre_le : ∀ p z : List (List UInt8), p <+: z → cmpR p z ≠ 1
  | [], [], _ => by decide
  | [], _ :: _, _ => by simp [cmpR]
  | p :: a, [], h => by simp at h
  | p :: a, q :: z, h => by
    have h' := List.cons_prefix_cons.1 h
    obtain ⟨rfl, h2⟩ := h'
    have ih := pre_le a z h2
    simp [cmpR, ih]
/-- What lies between a name and one below it is below it, too. -/
theorem pre_mid : ∀ p x z : List (List UInt8), cmpR p x = -1 → cmpR x z = -1 → p <+: z → p <+: x
  | [], _, _, _, _, _ => List.nil_prefix
  | p :: a, [], _, h1, _, _ => by simp [cmpR] at h1
  | p :: a, q :: x, [], _, _, h3 => by simp at h3
  | p :: a, q :: x, r :: z, h1, h2, h3 => by
    obtain ⟨rfl, h4⟩ := List.cons_prefix_cons.1 h3
    by_cases e : p = q
    · subst e
      simp [cmpR] at h1 h2
      exact List.cons_prefix_cons.2 ⟨rfl, pre_mid a x z h1 h2 h4⟩
    · simp [cmpR, e, Ne.symm e] at h1 h2
      have := cmp_swap p q
      omega
theorem cmp_below {a b : List UInt8} (ha : nameB a = true) (hb : nameB b = true) (h : belowB a b = true) : cmpN a b ≠ -1 := by
  have h1 := pre_le _ _ ((below_iff ha hb).1 h)
  have h2 := cmpN_swap b a
  unfold cmpN at h2 ⊢
  omega
/-- In a list that rises those below one stand right behind it. -/
theorem block_of {S : List (List UInt8)} (hs : S.Pairwise ltN) (hn : ∀ x ∈ S, nameB x = true) {i j k : Nat} (hij : i ≤ j) (hjk : j < k) (hk : k < S.length) (h : belowB S[k] (S[i]'(by omega)) = true) : belowB (S[j]'(by omega)) (S[i]'(by omega)) = true := by
  have ni := hn (S[i]'(by omega)) (List.getElem_mem _)
  have nj := hn (S[j]'(by omega)) (List.getElem_mem _)
  have nk := hn S[k] (List.getElem_mem _)
  rw [below_iff nj ni]
  rw [below_iff nk ni] at h
  rcases Nat.lt_or_ge i j with hlt | hge
  · have h1 : ltN (S[i]'(by omega)) (S[j]'(by omega)) := List.pairwise_iff_getElem.1 hs i j (by omega) (by omega) hlt
    have h2 : ltN (S[j]'(by omega)) S[k] := List.pairwise_iff_getElem.1 hs j k (by omega) hk hjk
    exact pre_mid _ _ _ h1 h2 h
  · have e : i = j := by omega
    subst e; exact List.prefix_refl _
theorem cmp_T {a b : List UInt8} (ha : nameB a = true) (hb : nameB b = true) : cmpT a b = cmpN a b ∧ cmpB a b = true := by
  unfold cmpT cmpB cmpN; rw [ha, hb]; exact ⟨rfl, rfl⟩
theorem cmp_iff (a b : List UInt8) : (cmpN a b == 0) = (a == b) := by
  rw [Bool.eq_iff_iff, beq_iff_eq, beq_iff_eq]
  exact ⟨cmpN_zero, fun e => by rw [e, cmpN_self]⟩
end Go.Proofs.YtdbbcepjdojdcaaGreatDoor
