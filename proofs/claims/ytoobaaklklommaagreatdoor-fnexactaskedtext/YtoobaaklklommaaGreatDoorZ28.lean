import Derived.Test.YtoobaaklklommaaGreatDoorZ27
import Derived.Test.YtoobaaklklommaaGreatDoorZ25
namespace Go.Proofs.YtoobaaklklommaaGreatDoor
open Go.RowKit

theorem cb_trans : ∀ a b c : List UInt8, Lib.compareBytes a b = -1 → Lib.compareBytes b c = -1 → Lib.compareBytes a c = -1
  | [], [], _, h, _ => by simp [Lib.compareBytes] at h
  | [], _ :: _, [], _, h => by simp [Lib.compareBytes] at h
  | [], _ :: _, _ :: _, _, _ => by simp [Lib.compareBytes]
  | _ :: _, [], _, h, _ => by simp [Lib.compareBytes] at h
  | _ :: _, _ :: _, [], _, h => by simp [Lib.compareBytes] at h
  | a :: al, b :: bl, c :: cl, h1, h2 => by
    unfold Lib.compareBytes at h1 h2 ⊢
    by_cases ab : a < b
    · by_cases bc : b < c
      · rw [if_pos (UInt8.lt_trans ab bc)]
      · rw [if_neg bc] at h2
        by_cases cb : c < b
        · rw [if_pos cb] at h2; cases h2
        · have e : b = c := UInt8.le_antisymm (UInt8.not_lt.1 cb) (UInt8.not_lt.1 bc)
          subst e; rw [if_pos ab]
    · rw [if_neg ab] at h1
      by_cases ba : b < a
      · rw [if_pos ba] at h1; cases h1
      · have e : a = b := UInt8.le_antisymm (UInt8.not_lt.1 ba) (UInt8.not_lt.1 ab)
        subst e
        rw [if_neg ba] at h1
        by_cases ac : a < c
        · rw [if_pos ac]
        · rw [if_neg ac] at h2 ⊢
          by_cases ca : c < a
          · rw [if_pos ca] at h2; cases h2
          · rw [if_neg ca] at h2 ⊢
            exact cb_trans al bl cl h1 h2
theorem cmpR_vals : ∀ a b, cmpR a b = -1 ∨ cmpR a b = 0 ∨ cmpR a b = 1
  | [], [] => by simp [cmpR]
  | [], _ :: _ => by simp [cmpR]
  | _ :: _, [] => by simp [cmpR]
  | p :: a, q :: b => by
    unfold cmpR; split
    · exact cmpR_vals a b
    · exact cmp_vals p q
theorem cmpR_swap : ∀ a b, cmpR b a = - cmpR a b
  | [], [] => by simp [cmpR]
  | [], _ :: _ => by simp [cmpR]
  | _ :: _, [] => by simp [cmpR]
  | p :: a, q :: b => by
    unfold cmpR
    by_cases h : p = q
    · subst h; simp [cmpR_swap a b]
    · rw [if_neg h, if_neg (Ne.symm h)]; exact cmp_swap p q
theorem cmpR_zero : ∀ a b, cmpR a b = 0 → a = b
  | [], [], _ => rfl
  | [], _ :: _, h => by simp [cmpR] at h
  | _ :: _, [], h => by simp [cmpR] at h
  | p :: a, q :: b, h => by
    unfold cmpR at h
    by_cases e : p = q
    · rw [if_pos e] at h; rw [e, cmpR_zero a b h]
    · rw [if_neg e] at h; exact absurd (cmp_zero p q h) e
theorem cmpR_trans : ∀ a b c, cmpR a b = -1 → cmpR b c = -1 → cmpR a c = -1
  | [], [], _, h, _ => by simp [cmpR] at h
  | [], _ :: _, [], _, h => by simp [cmpR] at h
  | [], _ :: _, _ :: _, _, _ => by simp [cmpR]
  | _ :: _, [], _, h, _ => by simp [cmpR] at h
  | _ :: _, _ :: _, [], _, h => by simp [cmpR] at h
  | p :: a, q :: b, r :: c, h1, h2 => by
    unfold cmpR at h1 h2 ⊢
    by_cases pq : p = q
    · subst pq
      rw [if_pos rfl] at h1
      by_cases pr : p = r
      · subst pr; rw [if_pos rfl] at h2 ⊢; exact cmpR_trans a b c h1 h2
      · rw [if_neg pr] at h2 ⊢; exact h2
    · rw [if_neg pq] at h1
      by_cases qr : q = r
      · subst qr; rw [if_neg pq]; exact h1
      · rw [if_neg qr] at h2
        have h3 := cb_trans p q r h1 h2
        by_cases pr : p = r
        · subst pr; rw [cmp_self] at h3; cases h3
        · rw [if_neg pr]; exact h3

/-- The order of names. -/
def cmpN (x y : List UInt8) : Int := cmpR (labelsOf x).reverse (labelsOf y).reverse
def ltN (x y : List UInt8) : Prop := cmpN x y = -1
theorem cmpN_zero {x y : List UInt8} (h : cmpN x y = 0) : x = y := by
  have e := cmpR_zero _ _ h
  have e2 : labelsOf x = labelsOf y := by rw [← List.reverse_reverse (labelsOf x), e, List.reverse_reverse]
  rw [← joinD_labels x, e2, joinD_labels]
theorem cmpN_self (x : List UInt8) : cmpN x x = 0 := by have := cmpR_swap (labelsOf x).reverse (labelsOf x).reverse; unfold cmpN; omega
theorem ltN_irrefl (x : List UInt8) : ¬ ltN x x := by unfold ltN; rw [cmpN_self]; decide
theorem ltN_trans {x y z : List UInt8} (h1 : ltN x y) (h2 : ltN y z) : ltN x z := cmpR_trans _ _ _ h1 h2
theorem cmpN_swap (x y : List UInt8) : cmpN y x = - cmpN x y := cmpR_swap _ _
theorem ltN_total {x y : List UInt8} (h : x ≠ y) : ltN x y ∨ ltN y x := by
  rcases cmpR_vals (labelsOf x).reverse (labelsOf y).reverse with e | e | e
  · exact .inl e
  · exact absurd (cmpN_zero e) h
  · right; unfold ltN; rw [cmpN_swap]; unfold cmpN; rw [e]
theorem ltN_asymm {x y : List UInt8} (h : ltN x y) : ¬ ltN y x := fun k => ltN_irrefl x (ltN_trans h k)

/-- Rising lists with the same names are one. -/
theorem rising_unique : ∀ a b : List (List UInt8), a.Pairwise ltN → b.Pairwise ltN → (∀ x, x ∈ a ↔ x ∈ b) → a = b
  | [], [], _, _, _ => rfl
  | [], q :: b, _, _, h => by have := (h q).2 (by simp); simp at this
  | p :: a, [], _, _, h => by have := (h p).1 (by simp); simp at this
  | p :: a, q :: b, ha, hb, h => by
    rw [List.pairwise_cons] at ha hb
    have hpq : p = q := by
      by_cases e : p = q
      · exact e
      · have h1 : p ∈ b := by have := (h p).1 (by simp); simpa [e] using this
        have h2 : q ∈ a := by have := (h q).2 (by simp); simpa [Ne.symm e] using this
        exact absurd (ltN_trans (hb.1 p h1) (ha.1 q h2)) (ltN_irrefl q)
    subst hpq
    have := rising_unique a b ha.2 hb.2 (fun x => by
      constructor
      · intro hx
        have := (h x).1 (by simp [hx])
        rcases List.mem_cons.1 this with rfl | hx'
        · exact absurd (ha.1 x hx) (ltN_irrefl x)
        · exact hx'
      · intro hx
        have := (h x).2 (by simp [hx])
        rcases List.mem_cons.1 this with rfl | hx'
        · exact absurd (hb.1 x hx) (ltN_irrefl x)
        · exact hx')
    rw [this]

/-- How many stand ahead of a name in a rising list. -/
def ahead (L : List (List UInt8)) (s : List UInt8) : Nat := (L.takeWhile (fun x => decide (cmpN x s = -1))).length
def put (L : List (List UInt8)) (s : List UInt8) : List (List UInt8) := if L[ahead L s]? = some s then L else L.take (ahead L s) ++ [s] ++ L.drop (ahead L s)
theorem ahead_le (L : List (List UInt8)) (s : List UInt8) : ahead L s ≤ L.length := by unfold ahead; exact (List.takeWhile_prefix _).length_le
theorem ahead_step : ∀ (L : List (List UInt8)) (s : List UInt8) (k : Nat), k ≤ ahead L s → (h : k < L.length) → cmpN L[k] s = -1 → k + 1 ≤ ahead L s
  | [], _, _, _, h, _ => by simp at h
  | x :: L, s, 0, _, _, h => by simp at h; simp [ahead, h]
  | x :: L, s, k + 1, h1, h, h2 => by
    have hx : cmpN x s = -1 := by
      by_cases e : cmpN x s = -1
      · exact e
      · simp [ahead, e] at h1
    simp only [ahead, List.takeWhile_cons, hx, decide_true, if_true, List.length_cons] at h1 ⊢
    have := ahead_step L s k (by unfold ahead; omega) (by simpa using h) (by simpa using h2)
    unfold ahead at this; omega
theorem ahead_stop : ∀ (L : List (List UInt8)) (s : List UInt8) (k : Nat), k ≤ ahead L s → (h : k < L.length) → cmpN L[k] s ≠ -1 → ahead L s = k
  | [], _, _, _, h, _ => by simp at h
  | x :: L, s, 0, _, _, h => by simp at h; simp [ahead, h]
  | x :: L, s, k + 1, h1, h, h2 => by
    have hx : cmpN x s = -1 := by
      by_cases e : cmpN x s = -1
      · exact e
      · simp [ahead, e] at h1
    simp only [ahead, List.takeWhile_cons, hx, decide_true, if_true, List.length_cons] at h1 ⊢
    have := ahead_stop L s k (by unfold ahead; omega) (by simpa using h) (by simpa using h2)
    unfold ahead at this; omega
theorem put_mem (L : List (List UInt8)) (s x : List UInt8) : x ∈ put L s ↔ x ∈ L ∨ x = s := by
  unfold put
  split
  · rename_i h
    constructor
    · exact .inl
    · rintro (h' | rfl)
      · exact h'
      · exact List.mem_of_getElem? h
  · conv => rhs; rw [← List.take_append_drop (ahead L s) L]
    simp only [List.mem_append, List.mem_singleton]
    constructor
    · rintro ((h | h) | h)
      · exact .inl (.inl h)
      · exact .inr h
      · exact .inl (.inr h)
    · rintro ((h | h) | h)
      · exact .inl (.inl h)
      · exact .inr h
      · exact .inl (.inr h)
theorem put_rising : ∀ (L : List (List UInt8)) (s : List UInt8), L.Pairwise ltN → (put L s).Pairwise ltN
  | [], s, _ => by simp [put, ahead]
  | x :: L, s, h => by
    rw [List.pairwise_cons] at h
    by_cases hx : cmpN x s = -1
    · have ih := put_rising L s h.2
      have e : put (x :: L) s = x :: put L s := by
        have ea : ahead (x :: L) s = ahead L s + 1 := by simp [ahead, hx]
        unfold put; rw [ea]
        simp only [List.getElem?_cons_succ, List.take_succ_cons, List.drop_succ_cons, List.cons_append]
        split <;> rfl
      rw [e, List.pairwise_cons]
      refine ⟨fun y hy => ?_, ih⟩
      rcases (put_mem L s y).1 hy with hy | rfl
      · exact h.1 y hy
      · exact hx
    · have ea : ahead (x :: L) s = 0 := by simp [ahead, hx]
      unfold put; rw [ea]
      simp only [List.getElem?_cons_zero, Option.some.injEq, List.take_zero, List.nil_append, List.drop_zero]
      split
      · rw [List.pairwise_cons]; exact h
      · rename_i hne
        have hsx : ltN s x := by
          rcases ltN_total hne with e | e
          · exact absurd e hx
          · exact e
        show ([s] ++ x :: L).Pairwise ltN
        rw [List.singleton_append, List.pairwise_cons, List.pairwise_cons]
        refine ⟨fun y hy => ?_, h⟩
        rcases List.mem_cons.1 hy with rfl | hy
        · exact hsx
        · exact ltN_trans hsx (h.1 y hy)

/-- What SortNames tells of names. -/
def sortN (l : List (List UInt8)) : List (List UInt8) := l.foldl put []
theorem sortN_rising (l : List (List UInt8)) : (sortN l).Pairwise ltN := by
  unfold sortN
  suffices h : ∀ (l a : List (List UInt8)), a.Pairwise ltN → (l.foldl put a).Pairwise ltN from h l [] (by simp)
  intro l
  induction l with
  | nil => intro a h; exact h
  | cons x l ih => intro a h; exact ih _ (put_rising a x h)
theorem sortN_mem (l : List (List UInt8)) (x : List UInt8) : x ∈ sortN l ↔ x ∈ l := by
  unfold sortN
  suffices h : ∀ (l a : List (List UInt8)), x ∈ l.foldl put a ↔ x ∈ a ∨ x ∈ l from by simpa using h l []
  intro l
  induction l with
  | nil => intro a; simp
  | cons y l ih => intro a; rw [List.foldl_cons, ih, put_mem]; simp [or_assoc]
theorem sortN_snoc (l : List (List UInt8)) (s : List UInt8) : sortN (l ++ [s]) = put (sortN l) s := by unfold sortN; rw [List.foldl_append]; rfl
end Go.Proofs.YtoobaaklklommaaGreatDoor
