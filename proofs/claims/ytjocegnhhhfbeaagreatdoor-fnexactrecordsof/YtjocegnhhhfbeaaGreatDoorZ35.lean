import Derived.Test.YtjocegnhhhfbeaaGreatDoorZ24
import Derived.Test.YtjocegnhhhfbeaaGreatDoorZ30
import Derived.Test.YtjocegnhhhfbeaaGreatDoorZ34
import Derived.Test.YtjocegnhhhfbeaaGreatDoorZ14
import Derived.Test.YtjocegnhhhfbeaaGreatDoorZ25
import Derived.Test.YtjocegnhhhfbeaaGreatDoorZ27
import Derived.Laws.IdiomCopy
import Derived.Deep.QuietTactic
namespace Go.Proofs.YtjocegnhhhfbeaaGreatDoor
open Go.RowKit

def toQ (x : List UInt8 × Int × Int × List UInt8) (h : GoodQ x) : Rq := ⟨x, h.1, h.2.2.1, h.2.2.2⟩
theorem c4_anti {x y : List UInt8 × Int × Int × List UInt8} (hx : GoodQ x) (hy : GoodQ y) : cmp4 x y < 0 ↔ 0 < cmp4 y x := tp_Q.anti (toQ x hx) (toQ y hy)
theorem c4_tr {x y z : List UInt8 × Int × Int × List UInt8} (hx : GoodQ x) (hy : GoodQ y) (hz : GoodQ z) : cmp4 x y ≤ 0 → cmp4 y z ≤ 0 → cmp4 x z ≤ 0 := tp_Q.tr (toQ x hx) (toQ y hy) (toQ z hz)
theorem c4_ltr {x y z : List UInt8 × Int × Int × List UInt8} (hx : GoodQ x) (hy : GoodQ y) (hz : GoodQ z) (h1 : cmp4 x y < 0) (h2 : cmp4 y z ≤ 0) : cmp4 x z < 0 := tp_Q.ltr (x := toQ x hx) (y := toQ y hy) (z := toQ z hz) h1 h2
theorem c4_ltl {x y z : List UInt8 × Int × Int × List UInt8} (hx : GoodQ x) (hy : GoodQ y) (hz : GoodQ z) (h1 : cmp4 x y ≤ 0) (h2 : cmp4 y z < 0) : cmp4 x z < 0 := tp_Q.ltl (x := toQ x hx) (y := toQ y hy) (z := toQ z hz) h1 h2
/-- Records that are neither less are one. -/
theorem c4_zero {x y : List UInt8 × Int × Int × List UInt8} (hx : GoodQ x) (hy : GoodQ y) (h : cmp4 x y = 0) : x = y := by
  have e := cfQ_lex (toQ x hx) (toQ y hy)
  have e2 : cfQ (toQ x hx) (toQ y hy) = 0 := h
  rw [e2] at e
  have hA : orI (cmpN x.1 y.1) (Lib.compareInt x.2.1 y.2.1) = 0 := by
    by_cases k : orI (cmpN x.1 y.1) (Lib.compareInt x.2.1 y.2.1) = 0
    · exact k
    · have e' : (0 : Int) = orI (orI (cmpN x.1 y.1) (Lib.compareInt x.2.1 y.2.1)) (orI (Lib.compareBytes (keyD x) (keyD y)) (Lib.compareInt x.2.2.1 y.2.2.1)) := e
      rw [orI_ne k] at e'
      exact e'.symm
  have hB : orI (Lib.compareBytes (keyD x) (keyD y)) (Lib.compareInt x.2.2.1 y.2.2.1) = 0 := by
    have e' : (0 : Int) = orI (orI (cmpN x.1 y.1) (Lib.compareInt x.2.1 y.2.1)) (orI (Lib.compareBytes (keyD x) (keyD y)) (Lib.compareInt x.2.2.1 y.2.2.1)) := e
    rw [orI_eq hA] at e'
    exact e'.symm
  have split2 : ∀ {a b : Int}, orI a b = 0 → a = 0 ∧ b = 0 := fun {a b} h => by
    by_cases k : a = 0
    · rw [orI_eq k] at h; exact ⟨k, h⟩
    · rw [orI_ne k] at h; exact absurd h k
  obtain ⟨n0, t0⟩ := split2 hA
  obtain ⟨d0, l0⟩ := split2 hB
  have hn := cmpN_zero n0
  have ht := (ci_zero _ _).1 t0
  have hl := (ci_zero _ _).1 l0
  have hd := (cb_zero _ _).1 d0
  obtain ⟨b1, hb1⟩ := Option.isSome_iff_exists.1 hx.2.1
  obtain ⟨b2, hb2⟩ := Option.isSome_iff_exists.1 hy.2.1
  unfold keyD at hd
  rw [hb1, hb2] at hd
  have hbb : b1 = b2 := hd
  have e1 := (data_back hb1).1
  have e3 := (data_back hb2).1
  rw [← ht, ← hbb] at e3
  have hdd : x.2.2.2 = y.2.2.2 := e1.symm.trans e3
  obtain ⟨xn, xt, xl, xd⟩ := x
  obtain ⟨yn, yt, yl, yd⟩ := y
  simp only at hn ht hl hdd
  subst hn ht hl hdd
  rfl

/-- Rising: each less than all behind it. -/
def risQ (L : List (List UInt8 × Int × Int × List UInt8)) : Prop := L.Pairwise (fun x y => cmp4 x y < 0)
theorem putQ_ris {L : List (List UInt8 × Int × Int × List UInt8)} {r : List UInt8 × Int × Int × List UInt8} (hG : ∀ x ∈ L, GoodQ x) (hg : GoodQ r) (hL : risQ L) (hn : r ∉ L) : risQ (putQ L r) ∧ (putQ L r).Perm (r :: L) := by
  have e : putQ L r = L.takeWhile (fun x => decide (cmp4 x r < 0)) ++ [r] ++ L.dropWhile (fun x => decide (cmp4 x r < 0)) := by
    unfold putQ
    rw [if_neg (fun h => hn (List.mem_of_getElem? h))]
    unfold posQ
    have hs : L.takeWhile (fun x => decide (cmp4 x r < 0)) ++ L.dropWhile (fun x => decide (cmp4 x r < 0)) = L := List.takeWhile_append_dropWhile
    generalize L.takeWhile (fun x => decide (cmp4 x r < 0)) = T at hs
    generalize L.dropWhile (fun x => decide (cmp4 x r < 0)) = D at hs
    have h1 : L.take T.length = T := by rw [← hs]; simp
    have h2 : L.drop T.length = D := by rw [← hs]; simp
    rw [h1, h2]
  rw [e]
  have hsplit : L.takeWhile (fun x => decide (cmp4 x r < 0)) ++ L.dropWhile (fun x => decide (cmp4 x r < 0)) = L := List.takeWhile_append_dropWhile
  have hlow : ∀ x ∈ L.takeWhile (fun x => decide (cmp4 x r < 0)), cmp4 x r < 0 := fun x hx => by
    have h := List.all_takeWhile (p := fun x => decide (cmp4 x r < 0)) (l := L)
    rw [List.all_eq_true] at h
    simpa using h x hx
  have hmemT : ∀ x ∈ L.takeWhile (fun x => decide (cmp4 x r < 0)), x ∈ L := fun _ hx => (List.takeWhile_sublist _).subset hx
  have hmemD : ∀ x ∈ L.dropWhile (fun x => decide (cmp4 x r < 0)), x ∈ L := fun _ hx => (List.dropWhile_sublist _).subset hx
  have hP : (L.takeWhile (fun x => decide (cmp4 x r < 0))).Pairwise (fun x y => cmp4 x y < 0) ∧ (L.dropWhile (fun x => decide (cmp4 x r < 0))).Pairwise (fun x y => cmp4 x y < 0) ∧ ∀ a ∈ L.takeWhile (fun x => decide (cmp4 x r < 0)), ∀ b ∈ L.dropWhile (fun x => decide (cmp4 x r < 0)), cmp4 a b < 0 := by
    have h := hL
    unfold risQ at h
    rw [← hsplit, List.pairwise_append] at h
    exact h
  have hhigh : ∀ x ∈ L.dropWhile (fun x => decide (cmp4 x r < 0)), cmp4 r x < 0 := by
    cases hd : L.dropWhile (fun x => decide (cmp4 x r < 0)) with
    | nil => intro x hx; simp at hx
    | cons a l =>
      have ha : ¬ cmp4 a r < 0 := by
        have h := List.head?_dropWhile_not (fun x => decide (cmp4 x r < 0)) L
        rw [hd] at h
        simpa using h
      have haL : a ∈ L := hmemD a (by rw [hd]; simp)
      have hGa := hG a haL
      have hra : cmp4 r a < 0 := by
        have k := c4_anti hg hGa
        have k2 := c4_anti hGa hg
        rcases Int.lt_trichotomy (cmp4 r a) 0 with h | h | h
        · exact h
        · exact absurd (c4_zero hg hGa h) (fun e => hn (e ▸ haL))
        · exact absurd (k2.2 h) ha
      intro x hx
      rcases List.mem_cons.1 hx with rfl | hx
      · exact hra
      · have hax : cmp4 a x < 0 := by
          have h := hP.2.1
          rw [hd, List.pairwise_cons] at h
          exact h.1 x hx
        exact c4_ltr hg hGa (hG x (hmemD x (by rw [hd]; simp [hx]))) hra (by omega)
  constructor
  · unfold risQ
    rw [List.pairwise_append, List.pairwise_append]
    refine ⟨⟨hP.1, List.pairwise_singleton _ _, fun a ha b hb => ?_⟩, hP.2.1, fun a ha b hb => ?_⟩
    · obtain rfl : b = r := by simpa using hb
      exact hlow a ha
    · rcases List.mem_append.1 ha with h | h
      · exact hP.2.2 a h b hb
      · obtain rfl : a = r := by simpa using h
        exact hhigh b hb
  · rw [List.append_assoc]
    have h := List.perm_middle (a := r) (l₁ := L.takeWhile (fun x => decide (cmp4 x r < 0))) (l₂ := L.dropWhile (fun x => decide (cmp4 x r < 0)))
    rw [hsplit] at h
    exact h
theorem andQ_ris {U : List (List UInt8 × Int × Int × List UInt8)} : ∀ {L : List (List UInt8 × Int × Int × List UInt8)}, (∀ x ∈ L, GoodQ x) → (∀ x ∈ U, GoodQ x) → risQ L → U.Nodup → (∀ x ∈ U, x ∉ L) → risQ (andQ L U) ∧ (andQ L U).Perm (L ++ U) := by
  induction U with
  | nil => intro L _ _ hL _ _; exact ⟨hL, by simp [andQ]⟩
  | cons r U ih =>
    intro L hG hGU hL hnd hn
    rw [List.nodup_cons] at hnd
    obtain ⟨h1, h2⟩ := putQ_ris hG (hGU r (by simp)) hL (hn r (by simp))
    have hG2 : ∀ x ∈ putQ L r, GoodQ x := fun x hx => by
      rcases putQ_mem hx with h | h
      · exact hG x h
      · rw [h]; exact hGU r (by simp)
    obtain ⟨h3, h4⟩ := ih hG2 (fun x hx => hGU x (by simp [hx])) h1 hnd.2 (fun x hx hm => by
      rcases putQ_mem hm with h | h
      · exact hn x (by simp [hx]) h
      · rw [h] at hx; exact hnd.1 hx)
    refine ⟨h3, ?_⟩
    have e : andQ L (r :: U) = andQ (putQ L r) U := rfl
    rw [e]
    refine h4.trans ((h2.append_right U).trans ?_)
    exact (List.perm_middle (a := r) (l₁ := L) (l₂ := U)).symm
/-- Of the same records one list alone is sorted. -/
theorem srt_unique : ∀ {Q R : List (List UInt8 × Int × Int × List UInt8)}, (∀ x ∈ Q, GoodQ x) → Q.Perm R → Q.Pairwise (fun x y => ¬ cmp4 y x < 0) → risQ R → Q = R
  | [], R, _, hp, _, _ => (List.nil_perm.1 hp).symm
  | a :: Q, [], _, hp, _, _ => absurd hp.length_eq (by simp)
  | a :: Q, b :: R, hG, hp, hQ, hR => by
    have hQ2 := List.pairwise_cons.1 hQ
    have hR2 := List.pairwise_cons.1 hR
    have hab : a = b := by
      have hb : b ∈ a :: Q := hp.mem_iff.2 (by simp)
      have ha : a ∈ b :: R := hp.mem_iff.1 (by simp)
      rcases List.mem_cons.1 hb with h | h
      · exact h.symm
      · rcases List.mem_cons.1 ha with k | k
        · exact k
        · exact absurd (hR2.1 a k) (hQ2.1 b h)
    subst hab
    rw [srt_unique (fun x hx => hG x (by simp [hx])) ((List.perm_cons a).1 hp) hQ2.2 hR2.2]
/-- Put together and sorted is each put in its place. -/
theorem srt_and {L U Q : List (List UInt8 × Int × Int × List UInt8)} (hG : ∀ x ∈ L, GoodQ x) (hGU : ∀ x ∈ U, GoodQ x) (hL : risQ L) (hnd : U.Nodup) (hn : ∀ x ∈ U, x ∉ L) (hp : Q.Perm (L ++ U)) (hs : Q.Pairwise (fun x y => ¬ cmp4 y x < 0)) : Q = andQ L U := by
  obtain ⟨h1, h2⟩ := andQ_ris hG hGU hL hnd hn
  refine srt_unique (fun x hx => ?_) (hp.trans h2.symm) hs h1
  rcases List.mem_append.1 (hp.mem_iff.1 hx) with h | h
  · exact hG x h
  · exact hGU x h
end Go.Proofs.YtjocegnhhhfbeaaGreatDoor

namespace Go.Proofs.YtjocegnhhhfbeaaGreatDoor
open Go.RowKit

/-- What is left of the first m records of a list, neighbours that are alike being one. -/
def cpt (Q : List (List UInt8 × Int × Int × List UInt8)) : Nat → List (List UInt8 × Int × Int × List UInt8)
  | 0 => []
  | m + 1 => if 0 < m ∧ Q[m]? = Q[m - 1]? then cpt Q m else cpt Q m ++ Q[m]?.toList
theorem cpt_skip {Q : List (List UInt8 × Int × Int × List UInt8)} {m : Nat} (h0 : 0 < m) (h : Q[m]? = Q[m - 1]?) : cpt Q (m + 1) = cpt Q m := by
  show (if 0 < m ∧ Q[m]? = Q[m - 1]? then _ else _) = _
  rw [if_pos ⟨h0, h⟩]
theorem cpt_keep {Q : List (List UInt8 × Int × Int × List UInt8)} {m : Nat} (hm : m < Q.length) (h : m = 0 ∨ Q[m]? ≠ Q[m - 1]?) : cpt Q (m + 1) = cpt Q m ++ [Q[m]] := by
  show (if 0 < m ∧ Q[m]? = Q[m - 1]? then _ else _) = _
  rw [if_neg (fun k => by rcases h with h | h; · omega
                          · exact h k.2), List.getElem?_eq_getElem hm]
  rfl
theorem cpt_all {Q : List (List UInt8 × Int × Int × List UInt8)} : ∀ {m : Nat}, m ≤ Q.length → (∀ j, 0 < j → j < m → Q[j]? ≠ Q[j - 1]?) → cpt Q m = Q.take m
  | 0, _, _ => by simp [cpt]
  | m + 1, hm, h => by
    rw [cpt_keep (by omega) (by rcases Nat.eq_zero_or_pos m with k | k; · exact .inl k
                                · exact .inr (h m k (by omega))), cpt_all (by omega) (fun j h0 hj => h j h0 (by omega)), List.take_succ_eq_append_getElem (by omega)]
theorem cpt_len (Q : List (List UInt8 × Int × Int × List UInt8)) : ∀ m : Nat, (cpt Q m).length ≤ m
  | 0 => Nat.le_refl _
  | m + 1 => by
    have ih := cpt_len Q m
    show (if 0 < m ∧ Q[m]? = Q[m - 1]? then cpt Q m else cpt Q m ++ Q[m]?.toList).length ≤ m + 1
    split
    · omega
    · rw [List.length_append]
      have : (Q[m]?.toList).length ≤ 1 := by cases Q[m]? <;> simp
      omega
theorem cpt_mem {Q : List (List UInt8 × Int × Int × List UInt8)} {x : List UInt8 × Int × Int × List UInt8} : ∀ {m : Nat}, m ≤ Q.length → (x ∈ cpt Q m ↔ x ∈ Q.take m)
  | 0, _ => by simp [cpt]
  | m + 1, hm => by
    have ih := cpt_mem (Q := Q) (x := x) (m := m) (by omega)
    rw [List.take_succ_eq_append_getElem (show m < Q.length by omega), List.mem_append, ← ih]
    by_cases k : 0 < m ∧ Q[m]? = Q[m - 1]?
    · rw [cpt_skip k.1 k.2]
      constructor
      · exact .inl
      · rintro (h | h)
        · exact h
        · obtain rfl : x = Q[m] := by simpa using h
          rw [ih]
          have e : Q[m]? = some (Q[m]'(by omega)) := List.getElem?_eq_getElem (by omega)
          rw [e, List.getElem?_eq_getElem (show m - 1 < Q.length by omega)] at k
          have e2 := Option.some.inj k.2
          rw [e2]
          exact List.mem_take_iff_getElem.2 ⟨m - 1, by omega, rfl⟩
    · rw [cpt_keep (by omega) (by by_cases h0 : m = 0; · exact .inl h0
                                  · exact .inr (fun e => k ⟨by omega, e⟩)), List.mem_append]
theorem cpt_ris {Q : List (List UInt8 × Int × Int × List UInt8)} (hG : ∀ x ∈ Q, GoodQ x) (hS : Q.Pairwise (fun x y => ¬ cmp4 y x < 0)) : ∀ {m : Nat}, m ≤ Q.length → risQ (cpt Q m)
  | 0, _ => List.Pairwise.nil
  | m + 1, hm => by
    have ih := cpt_ris hG hS (m := m) (by omega)
    by_cases k : 0 < m ∧ Q[m]? = Q[m - 1]?
    · rw [cpt_skip k.1 k.2]; exact ih
    · rw [cpt_keep (by omega) (by by_cases h0 : m = 0; · exact .inl h0
                                  · exact .inr (fun e => k ⟨by omega, e⟩))]
      unfold risQ
      rw [List.pairwise_append]
      refine ⟨ih, List.pairwise_singleton _ _, fun a ha b hb => ?_⟩
      obtain rfl : b = Q[m] := by simpa using hb
      rw [cpt_mem (by omega)] at ha
      obtain ⟨i, hi, rfl⟩ := List.mem_take_iff_getElem.1 ha
      have him : i < m := by omega
      have g : ∀ j, (hj : j < Q.length) → GoodQ Q[j] := fun j hj => hG _ (List.getElem_mem hj)
      have hp := List.pairwise_iff_getElem.1 hS
      have le : ∀ i j, (hi : i < Q.length) → (hj : j < Q.length) → i < j → cmp4 Q[i] Q[j] ≤ 0 := fun i j hi hj hij => by
        have h1 := hp i j hi hj hij
        have h2 := c4_anti (g j hj) (g i hi)
        omega
      have hlt : cmp4 (Q[m - 1]'(by omega)) (Q[m]'(by omega)) < 0 := by
        have h1 := le (m - 1) m (by omega) (by omega) (by omega)
        rcases Int.lt_or_eq_of_le h1 with h2 | h2
        · exact h2
        · exact absurd (c4_zero (g (m - 1) (by omega)) (g m (by omega)) h2) (fun e => k ⟨by omega, by rw [List.getElem?_eq_getElem (by omega), List.getElem?_eq_getElem (by omega), e]⟩)
      by_cases e : i = m - 1
      · subst e; exact hlt
      · exact c4_ltl (g i (by omega)) (g (m - 1) (by omega)) (g m (by omega)) (le i (m - 1) (by omega) (by omega) (by omega)) hlt

theorem putQ_there {L : List (List UInt8 × Int × Int × List UInt8)} {r : List UInt8 × Int × Int × List UInt8} (hg : GoodQ r) (hL : risQ L) (hr : r ∈ L) : putQ L r = L := by
  obtain ⟨A, B, rfl⟩ := List.append_of_mem hr
  unfold risQ at hL
  rw [List.pairwise_append] at hL
  have hA : ∀ x ∈ A, cmp4 x r < 0 := fun x hx => hL.2.2 x hx r (by simp)
  have hrr : ¬ cmp4 r r < 0 := fun h => by have h2 := c4_anti hg hg; omega
  have hp : posQ (A ++ r :: B) r = A.length := by
    unfold posQ
    rw [List.takeWhile_append_of_pos (fun x hx => by simpa using hA x hx), List.takeWhile_cons_of_neg (by simpa using hrr), List.append_nil]
  unfold putQ
  rw [hp, if_pos (by rw [List.getElem?_append_right (Nat.le_refl _), Nat.sub_self]; rfl)]
theorem putQ_set {L : List (List UInt8 × Int × Int × List UInt8)} {r : List UInt8 × Int × Int × List UInt8} (hG : ∀ x ∈ L, GoodQ x) (hg : GoodQ r) (hL : risQ L) : risQ (putQ L r) ∧ ∀ x, x ∈ putQ L r ↔ x ∈ L ∨ x = r := by
  by_cases hr : r ∈ L
  · rw [putQ_there hg hL hr]
    refine ⟨hL, fun x => ⟨.inl, ?_⟩⟩
    rintro (h | rfl)
    · exact h
    · exact hr
  · obtain ⟨h1, h2⟩ := putQ_ris hG hg hL hr
    refine ⟨h1, fun x => ?_⟩
    rw [h2.mem_iff, List.mem_cons, or_comm]
theorem andQ_set : ∀ {U L : List (List UInt8 × Int × Int × List UInt8)}, (∀ x ∈ L, GoodQ x) → (∀ x ∈ U, GoodQ x) → risQ L → risQ (andQ L U) ∧ ∀ x, x ∈ andQ L U ↔ x ∈ L ∨ x ∈ U
  | [], L, _, _, hL => ⟨hL, fun x => by simp [andQ]⟩
  | r :: U, L, hG, hU, hL => by
    obtain ⟨h1, h2⟩ := putQ_set hG (hU r (by simp)) hL
    have e : andQ L (r :: U) = andQ (putQ L r) U := rfl
    obtain ⟨h3, h4⟩ := andQ_set (U := U) (L := putQ L r) (fun x hx => by
      rcases (h2 x).1 hx with h | rfl
      · exact hG x h
      · exact hU _ (by simp)) (fun x hx => hU x (by simp [hx])) h1
    rw [e]
    refine ⟨h3, fun x => ?_⟩
    rw [h4, h2, List.mem_cons, or_assoc]
/-- Of the same records one list alone is rising. -/
theorem ris_one : ∀ {A B : List (List UInt8 × Int × Int × List UInt8)}, (∀ x ∈ A, GoodQ x) → risQ A → risQ B → (∀ x, x ∈ A ↔ x ∈ B) → A = B
  | [], [], _, _, _, _ => rfl
  | [], b :: B, _, _, _, h => absurd ((h b).2 (by simp)) (by simp)
  | a :: A, [], _, _, _, h => absurd ((h a).1 (by simp)) (by simp)
  | a :: A, b :: B, hG, hA, hB, h => by
    have hA2 := List.pairwise_cons.1 hA
    have hB2 := List.pairwise_cons.1 hB
    have ga := hG a (by simp)
    have gb := hG b ((h b).2 (by simp))
    have e : a = b := by
      rcases List.mem_cons.1 ((h a).1 (by simp)) with k | k
      · exact k
      · rcases List.mem_cons.1 ((h b).2 (by simp)) with k2 | k2
        · exact k2.symm
        · have h1 := hB2.1 a k
          have h2 := hA2.1 b k2
          have h3 := c4_anti ga gb
          omega
    subst e
    have hrr : ¬ cmp4 a a < 0 := fun h => by have h2 := c4_anti ga ga; omega
    rw [ris_one (fun x hx => hG x (by simp [hx])) hA2.2 hB2.2 (fun x => ?_)]
    constructor
    · intro hx
      rcases List.mem_cons.1 ((h x).1 (by simp [hx])) with k | k
      · subst k; exact absurd (hA2.1 x hx) hrr
      · exact k
    · intro hx
      rcases List.mem_cons.1 ((h x).2 (by simp [hx])) with k | k
      · subst k; exact absurd (hB2.1 x hx) hrr
      · exact k
/-- Sorted, and neighbours that are alike made one: what is put in one by one. -/
theorem cpt_and {L U Q : List (List UInt8 × Int × Int × List UInt8)} (hG : ∀ x ∈ L, GoodQ x) (hU : ∀ x ∈ U, GoodQ x) (hL : risQ L) (hp : Q.Perm (L ++ U)) (hS : Q.Pairwise (fun x y => ¬ cmp4 y x < 0)) : cpt Q Q.length = andQ L U := by
  have hGQ : ∀ x ∈ Q, GoodQ x := fun x hx => by
    rcases List.mem_append.1 (hp.mem_iff.1 hx) with h | h
    · exact hG x h
    · exact hU x h
  have hm : ∀ x, x ∈ cpt Q Q.length ↔ x ∈ Q := fun x => by rw [cpt_mem (Nat.le_refl _), List.take_length]
  obtain ⟨h1, h2⟩ := andQ_set hG hU hL
  refine ris_one (fun x hx => hGQ x ((hm x).1 hx)) (cpt_ris hGQ hS (Nat.le_refl _)) h1 (fun x => ?_)
  rw [hm, h2, hp.mem_iff, List.mem_append]
end Go.Proofs.YtjocegnhhhfbeaaGreatDoor

namespace Go.Proofs.YtjocegnhhhfbeaaGreatDoor
open Go.RowKit

/-- A set: name, type, ttl, data. -/
abbrev SetT : Type := List UInt8 × Int × Int × List (List UInt8)
def newT (r : List UInt8 × Int × Int × List UInt8) : SetT := (r.1, r.2.1, r.2.2.1, [r.2.2.2])
def addT (s : SetT) (r : List UInt8 × Int × Int × List UInt8) : SetT := (s.1, s.2.1, s.2.2.1, s.2.2.2 ++ [r.2.2.2])
/-- A record put into the last of the sets, or into one of its own. -/
def grp (S : List SetT) (r : List UInt8 × Int × Int × List UInt8) : Option (List SetT) :=
  match S.getLast? with
  | none => some [newT r]
  | some s => if s.1 = r.1 ∧ s.2.1 = r.2.1 then (if s.2.2.1 = r.2.2.1 then some (S.dropLast ++ [addT s r]) else none) else some (S ++ [newT r])
theorem grp_nil (r : List UInt8 × Int × Int × List UInt8) : grp [] r = some [newT r] := rfl
theorem grp_new {S : List SetT} {s : SetT} {r : List UInt8 × Int × Int × List UInt8} (h : ¬ (s.1 = r.1 ∧ s.2.1 = r.2.1)) : grp (S ++ [s]) r = some (S ++ [s] ++ [newT r]) := by
  unfold grp
  rw [List.getLast?_concat]
  show (if s.1 = r.1 ∧ s.2.1 = r.2.1 then _ else _) = _
  rw [if_neg h]
theorem grp_off {S : List SetT} {s : SetT} {r : List UInt8 × Int × Int × List UInt8} (h : s.1 = r.1 ∧ s.2.1 = r.2.1) (h2 : s.2.2.1 ≠ r.2.2.1) : grp (S ++ [s]) r = none := by
  unfold grp
  rw [List.getLast?_concat]
  show (if s.1 = r.1 ∧ s.2.1 = r.2.1 then _ else _) = _
  rw [if_pos h, if_neg h2]
theorem grp_add {S : List SetT} {s : SetT} {r : List UInt8 × Int × Int × List UInt8} (h : s.1 = r.1 ∧ s.2.1 = r.2.1) (h2 : s.2.2.1 = r.2.2.1) : grp (S ++ [s]) r = some (S ++ [addT s r]) := by
  unfold grp
  rw [List.getLast?_concat]
  show (if s.1 = r.1 ∧ s.2.1 = r.2.1 then _ else _) = _
  rw [if_pos h, if_pos h2, List.dropLast_concat]
/-- The first k records in sets. -/
def grpN (R : List (List UInt8 × Int × Int × List UInt8)) : Nat → Option (List SetT)
  | 0 => some []
  | k + 1 => match grpN R k with
    | none => none
    | some S => match R[k]? with
      | none => none
      | some r => grp S r
theorem grpN_next {R : List (List UInt8 × Int × Int × List UInt8)} {k : Nat} {S : List SetT} (h : grpN R k = some S) (hk : k < R.length) : grpN R (k + 1) = grp S R[k] := by
  show (match grpN R k with | none => none | some S => match R[k]? with | none => none | some r => grp S r) = _
  rw [h, List.getElem?_eq_getElem hk]
theorem grpN_none {R : List (List UInt8 × Int × Int × List UInt8)} {k : Nat} (h : grpN R k = none) : ∀ j, grpN R (k + j) = none
  | 0 => h
  | j + 1 => by
    show (match grpN R (k + j) with | none => none | some S => match R[k + j]? with | none => none | some r => grp S r) = _
    rw [grpN_none h j]
theorem grp_len {S T : List SetT} {r : List UInt8 × Int × Int × List UInt8} (h : grp S r = some T) : T.length ≤ S.length + 1 := by
  rcases List.eq_nil_or_concat S with rfl | ⟨A, s, hA⟩
  · rw [grp_nil] at h
    cases h
    simp
  · rw [List.concat_eq_append] at hA
    subst hA
    by_cases h1 : s.1 = r.1 ∧ s.2.1 = r.2.1
    · by_cases h2 : s.2.2.1 = r.2.2.1
      · rw [grp_add h1 h2] at h; cases h; simp
      · rw [grp_off h1 h2] at h; cases h
    · rw [grp_new h1] at h; cases h; simp
theorem grpN_len {R : List (List UInt8 × Int × Int × List UInt8)} : ∀ {k : Nat} {S : List SetT}, grpN R k = some S → S.length ≤ k
  | 0, S, h => by cases h; simp
  | k + 1, S, h => by
    cases hk : grpN R k with
    | none => rw [show grpN R (k + 1) = none from grpN_none hk 1] at h; cases h
    | some T =>
      have hl := grpN_len hk
      by_cases hr : k < R.length
      · rw [grpN_next hk hr] at h
        have := grp_len h
        omega
      · have : grpN R (k + 1) = none := by
          show (match grpN R k with | none => none | some S => match R[k]? with | none => none | some r => grp S r) = _
          rw [hk, List.getElem?_eq_none (by omega)]
        rw [this] at h; cases h
theorem grp_data {S T : List SetT} {r : List UInt8 × Int × Int × List UInt8} {m : Nat} (h : grp S r = some T) (hS : ∀ s ∈ S, s.2.2.2.length ≤ m) : ∀ s ∈ T, s.2.2.2.length ≤ m + 1 := by
  have new : (newT r).2.2.2.length ≤ m + 1 := by simp [newT]
  rcases List.eq_nil_or_concat S with rfl | ⟨A, s, hA⟩
  · rw [grp_nil] at h
    cases h
    intro s hs
    obtain rfl : s = newT r := by simpa using hs
    exact new
  · rw [List.concat_eq_append] at hA
    subst hA
    by_cases h1 : s.1 = r.1 ∧ s.2.1 = r.2.1
    · by_cases h2 : s.2.2.1 = r.2.2.1
      · rw [grp_add h1 h2] at h
        cases h
        intro x hx
        rcases List.mem_append.1 hx with hx | hx
        · have := hS x (by simp [hx]); omega
        · obtain rfl : x = addT s r := by simpa using hx
          have := hS s (by simp)
          simp [addT]; omega
      · rw [grp_off h1 h2] at h; cases h
    · rw [grp_new h1] at h
      cases h
      intro x hx
      rcases List.mem_append.1 hx with hx | hx
      · have := hS x hx; omega
      · obtain rfl : x = newT r := by simpa using hx
        exact new
theorem grpN_data {R : List (List UInt8 × Int × Int × List UInt8)} : ∀ {k : Nat} {S : List SetT}, grpN R k = some S → ∀ s ∈ S, s.2.2.2.length ≤ k
  | 0, S, h => by cases h; simp
  | k + 1, S, h => by
    cases hk : grpN R k with
    | none => rw [show grpN R (k + 1) = none from grpN_none hk 1] at h; cases h
    | some T =>
      by_cases hr : k < R.length
      · rw [grpN_next hk hr] at h
        exact grp_data h (grpN_data hk)
      · have : grpN R (k + 1) = none := by
          show (match grpN R k with | none => none | some S => match R[k]? with | none => none | some r => grp S r) = _
          rw [hk, List.getElem?_eq_none (by omega)]
        rw [this] at h; cases h
/-- The sets of records, where they have some. -/
def setsO (L : List (List UInt8 × Int × Int × List UInt8)) : Option (List SetT) :=
  if L.length ≤ 60 ∧ aresB L = true then
    match grpN (andQ [] L) (andQ [] L).length with
    | none => none
    | some S => if S.length ≤ 40 then some S else none
  else none
theorem setsO_len {L : List (List UInt8 × Int × Int × List UInt8)} {S : List SetT} (h : setsO L = some S) : S.length ≤ 40 := by
  unfold setsO at h
  split at h
  · split at h
    · cases h
    · split at h
      · cases h; assumption
      · cases h
  · cases h
end Go.Proofs.YtjocegnhhhfbeaaGreatDoor

namespace Go.Proofs.YtjocegnhhhfbeaaGreatDoor
open Go.RowKit

/-- A record stored whole. -/
def put4o (w : World) (g o : Nat) (x : List UInt8 × Int × Int × List UInt8) : World := (((w.setCell ⟨g, o, none⟩ (.string ⟨x.1.toArray⟩)).setCell ⟨g, o + 1, none⟩ (.int .i64 x.2.1)).setCell ⟨g, o + 2, none⟩ (.int .i64 x.2.2.1)).setCell ⟨g, o + 3, none⟩ (.string ⟨x.2.2.2.toArray⟩)
theorem qrow_put {w : World} {g : Nat} {D : List (List UInt8 × Int × Int × List UInt8)} (h : QRow w g D) (k : Nat) (hk : k < D.length) (x : List UInt8 × Int × Int × List UInt8) : QRow (put4o w g (k * 4) x) g (D.set k x) := by
  have h1 := h.set0 k hk x.1
  have h2 := h1.set1 k (by simpa using hk) x.2.1
  have h3 := h2.set2 k (by simpa using hk) x.2.2.1
  have h4 := h3.set3 k (by simpa using hk) x.2.2.2
  simp only [List.set_set, List.getElem_set_self] at h4
  exact h4
theorem grown_put4o {w0 w : World} {g : Nat} (h : w0.grownBy w (some g)) (o : Nat) (x : List UInt8 × Int × Int × List UInt8) : w0.grownBy (put4o w g o x) (some g) := grown_set (grown_set (grown_set (grown_set h)))
/-- 'clear' of records that lie in a row. -/
theorem run_clear4 (w : World) (g o n c : Nat) (hn : 0 < n) (hc : ∀ j, j < n * 4 → (w.cell? ⟨g, o + j, none⟩).isSome = true) (hf : ∀ j, j < n * 4 → w.frozen? ⟨g, o + j, none⟩ = false) :
    ∃ Z : List Value, Z.length = n * 4 ∧ ∀ ty, (Builtin.clear_ #[27] ty #[.slice (some ⟨g, o, none⟩) n c]).run Tryz.prog w = .ok (.tuple #[]) (w.setCells g o Z) := by
  obtain ⟨Z, hZ⟩ : ∃ Z, Z = (Builtin.zeroCells (Value.agg #[.string ⟨#[]⟩, .int .i64 0, .int .i64 0, .string ⟨#[]⟩]).cells n).toList := ⟨_, rfl⟩
  have hc4 : (Value.agg #[.string ⟨#[]⟩, .int .i64 0, .int .i64 0, .string ⟨#[]⟩]).cells = #[.string ⟨#[]⟩, .int .i64 0, .int .i64 0, .string ⟨#[]⟩] := by rfl
  have hl : Z.length = n * 4 := by
    rw [hZ, Array.length_toList, size_zeroCells, hc4]; rfl
  have h1 : ∀ v ∈ Z, v.oneCell' = true := by
    intro v hv
    rw [hZ, hc4] at hv
    simp only [Builtin.zeroCells, Array.toList_map, List.mem_map] at hv
    obtain ⟨i, _, rfl⟩ := hv
    have h4 : i % 4 < 4 := Nat.mod_lt _ (by decide)
    show (#[Value.string ⟨#[]⟩, .int .i64 0, .int .i64 0, .string ⟨#[]⟩][i % 4]!).oneCell' = true
    obtain ⟨r, hr⟩ : ∃ r, r = i % 4 := ⟨_, rfl⟩
    rw [← hr] at h4 ⊢
    match r, h4 with
    | 0, _ => rfl
    | 1, _ => rfl
    | 2, _ => rfl
    | 3, _ => rfl
  refine ⟨Z, hl, fun ty => ?_⟩
  have hst := run_storeCells_cells (P := Tryz.prog) g o Z 0 w (by rw [hl]; simpa using hc) (by rw [hl]; simpa using hf) h1
  simp only [Nat.add_zero] at hst
  obtain ⟨m, rfl⟩ : ∃ m, n = m + 1 := ⟨n - 1, by omega⟩
  simp [Builtin.clear_, run_underlying Tryz.underlying27, ← hZ, hst]
theorem size_setCells (g : Nat) : ∀ (Z : List Value) (o : Nat) (w : World), (w.setCells g o Z).heap.size = w.heap.size
  | [], _, _ => rfl
  | z :: Z, o, w => by
    show ((w.setCell ⟨g, o, none⟩ z).setCells g (o + 1) Z).heap.size = _
    rw [size_setCells g Z]; simp
theorem grown_setCells {w0 : World} {g : Nat} : ∀ (Z : List Value) (o : Nat) {w : World}, w0.grownBy w (some g) → w0.grownBy (w.setCells g o Z) (some g)
  | [], _, _, h => h
  | z :: Z, o, w, h => by
    show w0.grownBy ((w.setCell ⟨g, o, none⟩ z).setCells g (o + 1) Z) (some g)
    exact grown_setCells Z (o + 1) (grown_set h)
theorem qrow_some {w : World} {g : Nat} {D : List (List UInt8 × Int × Int × List UInt8)} (h : QRow w g D) (q : Nat) (hq : q < D.length * 4) : (w.cell? ⟨g, q, none⟩).isSome = true ∧ w.frozen? ⟨g, q, none⟩ = false := by
  have h0 := h.2 (q / 4) (by omega)
  unfold RecAt FzAt at h0
  obtain ⟨⟨c0, c1, c2, c3⟩, f0, f1, f2, f3⟩ := h0
  have e : q = q / 4 * 4 + q % 4 := by omega
  have hr : q % 4 < 4 := Nat.mod_lt _ (by decide)
  obtain ⟨r, hre⟩ : ∃ r, r = q % 4 := ⟨_, rfl⟩
  obtain ⟨b, hbe⟩ : ∃ b, b = q / 4 * 4 := ⟨_, rfl⟩
  rw [← hre] at hr e
  rw [← hbe] at e c0 c1 c2 c3 f0 f1 f2 f3
  clear hre hbe
  subst e
  match r, hr with
  | 0, _ => exact ⟨by rw [Nat.add_zero, c0]; rfl, f0⟩
  | 1, _ => exact ⟨by rw [c1]; rfl, f1⟩
  | 2, _ => exact ⟨by rw [c2]; rfl, f2⟩
  | 3, _ => exact ⟨by rw [c3]; rfl, f3⟩
theorem qrow_cut {w : World} {g k : Nat} {D : List (List UInt8 × Int × Int × List UInt8)} (h : QRow w g D) (Z : List Value) : QRow (w.setCells g (k * 4) Z) g (D.take k) := by
  have hk : ∀ q, q < k * 4 → (w.setCells g (k * 4) Z).cell? ⟨g, q, none⟩ = w.cell? ⟨g, q, none⟩ := fun q hq => World.cell?_setCells_out g Z (k * 4) w ⟨g, q, none⟩ (fun _ _ => .inl hq)
  refine ⟨?_, fun j hj => ?_⟩
  · rw [size_setCells]; exact h.1
  · have hj2 : j < k ∧ j < D.length := by rw [List.length_take] at hj; omega
    have h0 := h.2 j hj2.2
    rw [List.getElem_take]
    unfold RecAt FzAt at h0 ⊢
    rw [hk (j * 4) (by omega), hk (j * 4 + 1) (by omega), hk (j * 4 + 2) (by omega), hk (j * 4 + 3) (by omega), World.frozen?_setCells, World.frozen?_setCells, World.frozen?_setCells, World.frozen?_setCells]
    exact h0
theorem ret_slice {g n m cap : Nat} (h : n = m) : (Ending.returned (.slice (some ⟨g, 0, none⟩) n cap)) = .returned (.slice (some ⟨g, 0, none⟩) m cap) := by rw [h]

/-- What the second loop has made so far: k records are told apart of the first m, the others lie as they lay. -/
def CpI (Q D : List (List UInt8 × Int × Int × List UInt8)) (m k : Nat) : Prop := D.length = Q.length ∧ k < m ∧ (cpt Q m).length = k ∧ D.take k = cpt Q m ∧ ∀ j, k ≤ j → D[j]? = Q[j]?
theorem CpI.start {Q : List (List UInt8 × Int × Int × List UInt8)} {k : Nat} (hk : 0 < k) (hlt : k < Q.length) (h : ∀ j, 0 < j → j < k → Q[j]? ≠ Q[j - 1]?) (hd : Q[k]? = Q[k - 1]?) : CpI Q Q (k + 1) k := by
  have e : cpt Q (k + 1) = Q.take k := by rw [cpt_skip hk hd, cpt_all (by omega) h]
  refine ⟨rfl, by omega, ?_, ?_, fun _ _ => rfl⟩
  · rw [e, List.length_take]; omega
  · rw [e]
theorem CpI.skip {Q D : List (List UInt8 × Int × Int × List UInt8)} {m k : Nat} (h : CpI Q D m k) (hd : Q[m]? = Q[m - 1]?) : CpI Q D (m + 1) k := by
  obtain ⟨h1, h2, h3, h4, h5⟩ := h
  have e : cpt Q (m + 1) = cpt Q m := cpt_skip (by omega) hd
  exact ⟨h1, by omega, by rw [e]; exact h3, by rw [e]; exact h4, h5⟩
theorem CpI.keep {Q D : List (List UInt8 × Int × Int × List UInt8)} {m k : Nat} (h : CpI Q D m k) (hm : m < Q.length) (hd : Q[m]? ≠ Q[m - 1]?) : CpI Q (D.set k Q[m]) (m + 1) (k + 1) := by
  obtain ⟨h1, h2, h3, h4, h5⟩ := h
  have e : cpt Q (m + 1) = cpt Q m ++ [Q[m]] := cpt_keep hm (.inr hd)
  have hk : k < D.length := by omega
  refine ⟨by rw [List.length_set]; exact h1, by omega, by rw [e, List.length_append, h3]; rfl, ?_, fun j hj => ?_⟩
  · rw [e, List.take_succ_eq_append_getElem (by rw [List.length_set]; exact hk), List.getElem_set_self, List.take_set_of_le (Nat.le_refl _), h4]
  · rw [List.getElem?_set_ne (by omega)]; exact h5 j (by omega)

set_option maxRecDepth 20000 in
set_option maxHeartbeats 8000000 in
/-- slices.Compact at records. -/
theorem compactQ_any (g cap : Nat) (Q : List (List UInt8 × Int × Int × List UInt8)) (w : World) (hs : QRow w g Q) (hcap : Q.length ≤ cap) (_hmax : cap ≤ maxLen) (hl : Q.length ≤ 1048576) :
    Calls Tryz.prog 28 #[.slice (some ⟨g, 0, none⟩) Q.length cap] w fun e w' => e = .returned (.slice (some ⟨g, 0, none⟩) (cpt Q Q.length).length cap) ∧ QRow w' g (cpt Q Q.length) ∧ w.grownBy w' (some g) := by
  have HS : Hid (QRow w g Q) := hs
  have hmax : cap ≤ 9223372036854775807 := by unfold maxLen at _hmax; omega
  clear hs
  have HALL : Hid ((∀ j, 0 < j → j < Q.length → Q[j]? ≠ Q[j - 1]?) → cpt Q Q.length = Q) := fun h => by rw [cpt_all (Nat.le_refl _) h, List.take_length]
  by_cases h2 : Q.length < 2
  · have HE : Hid (cpt Q Q.length = Q) := HALL.out (fun j h0 hj => by omega)
    go_enter Tryz.func28, Tryz.ntmps28
    go_wp2_with fail
    go_ret
    exact ⟨ret_slice (by rw [HE.out]), by rw [HE.out]; exact HS.out, grown_refl _ _⟩
  · have hG := guard_rec
    go_enter Tryz.func28, Tryz.ntmps28
    go_wp2_with fail
    go_loopw [3] (fun i wr => ∃ k : Nat, 1 ≤ k ∧ k ≤ Q.length ∧ i = .int .i64 (k : Int) ∧ Hid (∀ j, 0 < j → j < k → Q[j]? ≠ Q[j - 1]?) ∧ Below w.heap.size w wr) (fun i _ => Q.length - (intOf i).toNat)
    case atStart => exact ⟨1, Nat.le_refl _, by omega, rfl, fun j h0 hj => by omega, Below.refl _ _⟩
    case round =>
      obtain ⟨k, hk1, hk, rfl, HA, hb⟩ := hrel
      by_cases hlt : k < Q.length
      · have HQ : Hid (∀ W, Below wr.heap.size wr W → QRow W g Q) := fun W hW => (HS.out.kept hb).kept hW
        have HUP : Hid (Q[k]? ≠ Q[k - 1]? → ∀ j, 0 < j → j < k + 1 → Q[j]? ≠ Q[j - 1]?) := fun h j h0 hj => by
          rcases Nat.lt_or_ge j k with h' | h'
          · exact HA.out j h0 h'
          · obtain rfl : j = k := by omega
            exact h
        have HD : Hid (Q[k]? = Q[k - 1]? → CpI Q Q (k + 1) k) := fun h => CpI.start hk1 hlt HA.out h
        have hlt1 : k - 1 < Q.length := by omega
        have HEQ : Hid ((Q[k]? = Q[k - 1]?) ↔ Q[k] = Q[k - 1]) := by
          have h : (Q[k]? = Q[k - 1]?) ↔ Q[k] = Q[k - 1] := by
            rw [List.getElem?_eq_getElem hlt, List.getElem?_eq_getElem hlt1, Option.some.injEq]
          exact h
        have HX : Hid (∀ W, Below wr.heap.size wr W → RecAt W g (k * 4) Q[k] ∧ RecAt W g ((k - 1) * 4) Q[k - 1]) := fun W hW => ⟨((HQ.out W hW).2 k hlt).1, ((HQ.out W hW).2 (k - 1) hlt1).1⟩
        obtain ⟨x, hx⟩ : ∃ x, x = Q[k] := ⟨_, rfl⟩
        obtain ⟨y, hy⟩ : ∃ y, y = Q[k - 1] := ⟨_, rfl⟩
        rw [← hx, ← hy] at HX HEQ
        obtain ⟨same, hsame⟩ : ∃ same, same = decide (x = y) := ⟨_, rfl⟩
        have HT : Hid (same = true → Q[k]? = Q[k - 1]?) := fun h => HEQ.out.2 (by rw [hsame, decide_eq_true_eq] at h; exact h)
        have HF : Hid (same = false → Q[k]? ≠ Q[k - 1]?) := fun h e => by rw [hsame, decide_eq_false_iff_not] at h; exact h (HEQ.out.1 e)
        have hE : ∀ W, (Op.equalIn 10000 43 (.agg #[.string ⟨x.1.toArray⟩, .int .i64 x.2.1, .int .i64 x.2.2.1, .string ⟨x.2.2.2.toArray⟩]) (.agg #[.string ⟨y.1.toArray⟩, .int .i64 y.2.1, .int .i64 y.2.2.1, .string ⟨y.2.2.2.toArray⟩])).run Tryz.prog W = .ok same W := fun W => by rw [eq_rec x y W, hsame]
        have hbd : Below wr.heap.size wr wr.drew := (Below.refl _ _).drew
        have HW : Hid (∀ W, Below wr.heap.size wr W → Below w.heap.size w W) := fun W hW => hb.trans (hW.mono hb.size)
        have HX2 : Hid (∀ W, Below wr.heap.size wr W → (W.cell? ⟨g, k * 4, none⟩ = some (.string ⟨x.1.toArray⟩) ∧ W.cell? ⟨g, k * 4 + 1, none⟩ = some (.int .i64 x.2.1) ∧ W.cell? ⟨g, k * 4 + 2, none⟩ = some (.int .i64 x.2.2.1) ∧ W.cell? ⟨g, k * 4 + 3, none⟩ = some (.string ⟨x.2.2.2.toArray⟩)) ∧ (W.cell? ⟨g, (k - 1) * 4, none⟩ = some (.string ⟨y.1.toArray⟩) ∧ W.cell? ⟨g, (k - 1) * 4 + 1, none⟩ = some (.int .i64 y.2.1) ∧ W.cell? ⟨g, (k - 1) * 4 + 2, none⟩ = some (.int .i64 y.2.2.1) ∧ W.cell? ⟨g, (k - 1) * 4 + 3, none⟩ = some (.string ⟨y.2.2.2.toArray⟩))) := fun W hW => HX.out W hW
        have hwk : IntKind.i64.wrap ((k : Int) - 1) = (k : Int) - 1 := wrap_small _ (by omega) (by omega)
        have htk : ((k : Int) - 1).toNat = k - 1 := by omega
        clear HX HEQ hsame hx hy HA hb HALL
        go_wp2_with fail
        refine wp_region_quiet (C := fun W => Below wr.heap.size wr W) (by kernel_rfl) (by kernel_rfl) hbd ?_
        refine wpQuiet_step (fun K hK => ?_)
        rw [if_pos (by rfl)]
        refine ⟨.slice (some ⟨g, 0, none⟩) Q.length cap, fun W hW => quiet_ok ?_, hK _ ?_⟩
        · have q := HX2.out W hW
          obtain ⟨⟨m0, m1, m2, m3⟩, ⟨z0, z1, z2, z3⟩⟩ := q
          go_simp
          all_goals (try omega)
        clear hK K
        simp only [Act.put, List.setIfInBounds_toArray, List.set_cons_succ, List.set_cons_zero]
        refine wpQuiet_step (fun K hK => ?_)
        rw [if_pos (by rfl)]
        refine ⟨.int .i64 (k : Int), fun W hW => quiet_ok ?_, hK _ ?_⟩
        · have q := HX2.out W hW
          obtain ⟨⟨m0, m1, m2, m3⟩, ⟨z0, z1, z2, z3⟩⟩ := q
          go_simp
          all_goals (try omega)
        clear hK K
        simp only [Act.put, List.setIfInBounds_toArray, List.set_cons_succ, List.set_cons_zero]
        refine wpQuiet_step (fun K hK => ?_)
        rw [if_pos (by rfl)]
        refine ⟨.pointer (some ⟨g, k * 4, none⟩), fun W hW => quiet_ok ?_, hK _ ?_⟩
        · have q := HX2.out W hW
          obtain ⟨⟨m0, m1, m2, m3⟩, ⟨z0, z1, z2, z3⟩⟩ := q
          go_simp
          all_goals (try omega)
        clear hK K
        simp only [Act.put, List.setIfInBounds_toArray, List.set_cons_succ, List.set_cons_zero]
        refine wpQuiet_step (fun K hK => ?_)
        rw [if_pos (by rfl)]
        refine ⟨.agg #[.string ⟨x.1.toArray⟩, .int .i64 x.2.1, .int .i64 x.2.2.1, .string ⟨x.2.2.2.toArray⟩], fun W hW => quiet_ok ?_, hK _ ?_⟩
        · have q := HX2.out W hW
          obtain ⟨⟨m0, m1, m2, m3⟩, ⟨z0, z1, z2, z3⟩⟩ := q
          go_simp
          all_goals (try omega)
        clear hK K
        simp only [Act.put, List.setIfInBounds_toArray, List.set_cons_succ, List.set_cons_zero]
        refine wpQuiet_step (fun K hK => ?_)
        rw [if_pos (by rfl)]
        refine ⟨.slice (some ⟨g, 0, none⟩) Q.length cap, fun W hW => quiet_ok ?_, hK _ ?_⟩
        · have q := HX2.out W hW
          obtain ⟨⟨m0, m1, m2, m3⟩, ⟨z0, z1, z2, z3⟩⟩ := q
          go_simp
          all_goals (try omega)
        clear hK K
        simp only [Act.put, List.setIfInBounds_toArray, List.set_cons_succ, List.set_cons_zero]
        refine wpQuiet_step (fun K hK => ?_)
        rw [if_pos (by rfl)]
        refine ⟨.int .i64 (k : Int), fun W hW => quiet_ok ?_, hK _ ?_⟩
        · have q := HX2.out W hW
          obtain ⟨⟨m0, m1, m2, m3⟩, ⟨z0, z1, z2, z3⟩⟩ := q
          go_simp
          all_goals (try omega)
        clear hK K
        simp only [Act.put, List.setIfInBounds_toArray, List.set_cons_succ, List.set_cons_zero]
        refine wpQuiet_step (fun K hK => ?_)
        rw [if_pos (by rfl)]
        refine ⟨.int .i64 ((k : Int) - 1), fun W hW => quiet_ok ?_, hK _ ?_⟩
        · have q := HX2.out W hW
          obtain ⟨⟨m0, m1, m2, m3⟩, ⟨z0, z1, z2, z3⟩⟩ := q
          go_simp
          all_goals (try omega)
        clear hK K
        simp only [Act.put, List.setIfInBounds_toArray, List.set_cons_succ, List.set_cons_zero]
        refine wpQuiet_step (fun K hK => ?_)
        rw [if_pos (by rfl)]
        refine ⟨.pointer (some ⟨g, (k - 1) * 4, none⟩), fun W hW => quiet_ok ?_, hK _ ?_⟩
        · have q := HX2.out W hW
          obtain ⟨⟨m0, m1, m2, m3⟩, ⟨z0, z1, z2, z3⟩⟩ := q
          go_simp
          all_goals (try omega)
        clear hK K
        simp only [Act.put, List.setIfInBounds_toArray, List.set_cons_succ, List.set_cons_zero]
        refine wpQuiet_step (fun K hK => ?_)
        rw [if_pos (by rfl)]
        refine ⟨.agg #[.string ⟨y.1.toArray⟩, .int .i64 y.2.1, .int .i64 y.2.2.1, .string ⟨y.2.2.2.toArray⟩], fun W hW => quiet_ok ?_, hK _ ?_⟩
        · have q := HX2.out W hW
          obtain ⟨⟨m0, m1, m2, m3⟩, ⟨z0, z1, z2, z3⟩⟩ := q
          go_simp
          all_goals (try omega)
        clear hK K
        simp only [Act.put, List.setIfInBounds_toArray, List.set_cons_succ, List.set_cons_zero]
        refine wpQuiet_step (fun K hK => ?_)
        rw [if_pos (by rfl)]
        refine ⟨.bool same, fun W hW => quiet_ok ?_, hK _ ?_⟩
        · have q := HX2.out W hW
          obtain ⟨⟨m0, m1, m2, m3⟩, ⟨z0, z1, z2, z3⟩⟩ := q
          go_simp
          all_goals (try omega)
        clear hK K
        simp only [Act.put, List.setIfInBounds_toArray, List.set_cons_succ, List.set_cons_zero]
        refine wpQuiet_nil ?_
        intro W hW
        have hbW := HW.out W hW
        cases same with
        | false =>
          have HU : Hid (∀ j, 0 < j → j < k + 1 → Q[j]? ≠ Q[j - 1]?) := HUP.out (HF.out rfl)
          clear hE
          go_wp2_with fail
          go_roundw
          case rel => exact ⟨k + 1, by omega, by omega, by go_num, HU, hbW⟩
          case measure => simp [intOf]; omega
        | true =>
          have HQW : Hid (QRow W g Q) := HQ.out W hW
          have HC0 : Hid (CpI Q Q (k + 1) k) := HD.out (HT.out rfl)
          have HGR : Hid (w.grownBy W (some g)) := grown_below (grown_refl w (some g)) hbW
          clear hE HT HF HUP HD HX2 HQ HW hbd hW hbW
          go_wp2_with fail
          obtain ⟨n2, hn2⟩ : ∃ n, n = Q.length - k := ⟨_, rfl⟩
          obtain ⟨c2, hc2⟩ : ∃ n, n = cap - k := ⟨_, rfl⟩
          rw [← hn2, ← hc2]
          have hkn : k + n2 = Q.length := by omega
          have hnc : n2 ≤ c2 := by omega
          clear hwk htk hn2 HS
          go_loopw [3, 5] (fun a3 a5 wq => ∃ (kk k2 : Nat) (D : List (List UInt8 × Int × Int × List UInt8)), a3 = .int .i64 (kk : Int) ∧ a5 = .int .i64 (k2 : Int) ∧ 1 ≤ k2 ∧ k2 ≤ n2 ∧ kk < k + k2 ∧ Hid (QRow wq g D) ∧ Hid (CpI Q D (k + k2) kk) ∧ Hid (w.grownBy wq (some g))) (fun _ a5 _ => n2 - (intOf a5).toNat)
          case atStart => exact ⟨k, 1, Q, rfl, rfl, Nat.le_refl _, by omega, by omega, HQW, HC0, HGR⟩
          case round =>
            obtain ⟨kk, k2, D, rfl, rfl, hk21, hk2, hkk, HQD, HCI, HGD⟩ := hrel
            clear HQW HC0 HGR
            have hDL : D.length = Q.length := HCI.out.1
            by_cases hlt2 : k2 < n2
            · have hm : k + k2 < Q.length := by omega
              have hmD : k + k2 < D.length := by omega
              have hmD1 : k + k2 - 1 < D.length := by omega
              have hkD : kk < D.length := by omega
              have HU0 : Hid (D[k + k2] = Q[k + k2]) := by
                have h := HCI.out.2.2.2.2 (k + k2) (by omega)
                rw [List.getElem?_eq_getElem hmD, List.getElem?_eq_getElem hm] at h
                exact Option.some.inj h
              have HV0 : Hid (Q[k + k2 - 1]? = some D[k + k2 - 1]) := by
                have h := HCI.out.2.2.2.2 (k + k2 - 1) (by omega)
                rw [List.getElem?_eq_getElem hmD1] at h
                exact h.symm
              have HEQ : Hid ((Q[k + k2]? = Q[k + k2 - 1]?) ↔ D[k + k2] = D[k + k2 - 1]) := by
                have h : (Q[k + k2]? = Q[k + k2 - 1]?) ↔ D[k + k2] = D[k + k2 - 1] := by
                  rw [HV0.out, List.getElem?_eq_getElem hm, Option.some.injEq, HU0.out]
                exact h
              have e1 : k * 4 + k2 * 4 = (k + k2) * 4 := by omega
              have e0 : k * 4 + (k2 - 1) * 4 = (k + k2 - 1) * 4 := by omega
              have HX : Hid (∀ W, Below wr.heap.size wr W → RecAt W g (k * 4 + k2 * 4) D[k + k2] ∧ RecAt W g (k * 4 + (k2 - 1) * 4) D[k + k2 - 1] ∧ (RecAt W g (kk * 4) D[kk] ∧ FzAt W g (kk * 4))) := fun W hW => by
                have hq := HQD.out.kept hW
                refine ⟨?_, ?_, hq.2 kk hkD⟩
                · rw [e1]; exact (hq.2 (k + k2) hmD).1
                · rw [e0]; exact (hq.2 (k + k2 - 1) hmD1).1
              have HKEEP : Hid (Q[k + k2]? ≠ Q[k + k2 - 1]? → CpI Q (D.set kk D[k + k2]) (k + k2 + 1) (kk + 1)) := fun h => by rw [HU0.out]; exact HCI.out.keep hm h
              have HSKIP : Hid (Q[k + k2]? = Q[k + k2 - 1]? → CpI Q D (k + k2 + 1) kk) := fun h => HCI.out.skip h
              obtain ⟨u, hu⟩ : ∃ u, u = D[k + k2] := ⟨_, rfl⟩
              obtain ⟨v, hv⟩ : ∃ v, v = D[k + k2 - 1] := ⟨_, rfl⟩
              obtain ⟨o, hoo⟩ : ∃ o, o = D[kk] := ⟨_, rfl⟩
              rw [← hu] at HX HEQ HKEEP
              rw [← hv] at HX HEQ
              rw [← hoo] at HX
              obtain ⟨same, hsame⟩ : ∃ same, same = decide (u = v) := ⟨_, rfl⟩
              have HT : Hid (same = true → CpI Q D (k + k2 + 1) kk) := fun h => HSKIP.out (HEQ.out.2 (by rw [hsame, decide_eq_true_eq] at h; exact h))
              have HF : Hid (same = false → CpI Q (D.set kk u) (k + k2 + 1) (kk + 1)) := fun h => HKEEP.out (fun e => by rw [hsame, decide_eq_false_iff_not] at h; exact h (HEQ.out.1 e))
              have hE : ∀ W, (Op.equalIn 10000 43 (.agg #[.string ⟨u.1.toArray⟩, .int .i64 u.2.1, .int .i64 u.2.2.1, .string ⟨u.2.2.2.toArray⟩]) (.agg #[.string ⟨v.1.toArray⟩, .int .i64 v.2.1, .int .i64 v.2.2.1, .string ⟨v.2.2.2.toArray⟩])).run Tryz.prog W = .ok same W := fun W => by rw [eq_rec u v W, hsame]
              have hbd : Below wr.heap.size wr wr.drew := (Below.refl _ _).drew
              have HX2 : Hid (∀ W, Below wr.heap.size wr W → (W.cell? ⟨g, k * 4 + k2 * 4, none⟩ = some (.string ⟨u.1.toArray⟩) ∧ W.cell? ⟨g, k * 4 + k2 * 4 + 1, none⟩ = some (.int .i64 u.2.1) ∧ W.cell? ⟨g, k * 4 + k2 * 4 + 2, none⟩ = some (.int .i64 u.2.2.1) ∧ W.cell? ⟨g, k * 4 + k2 * 4 + 3, none⟩ = some (.string ⟨u.2.2.2.toArray⟩)) ∧ (W.cell? ⟨g, k * 4 + (k2 - 1) * 4, none⟩ = some (.string ⟨v.1.toArray⟩) ∧ W.cell? ⟨g, k * 4 + (k2 - 1) * 4 + 1, none⟩ = some (.int .i64 v.2.1) ∧ W.cell? ⟨g, k * 4 + (k2 - 1) * 4 + 2, none⟩ = some (.int .i64 v.2.2.1) ∧ W.cell? ⟨g, k * 4 + (k2 - 1) * 4 + 3, none⟩ = some (.string ⟨v.2.2.2.toArray⟩))) := fun W hW => ⟨(HX.out W hW).1, (HX.out W hW).2.1⟩
              have HX3 : Hid (∀ W, Below wr.heap.size wr W → (W.cell? ⟨g, kk * 4, none⟩ = some (.string ⟨o.1.toArray⟩) ∧ W.cell? ⟨g, kk * 4 + 1, none⟩ = some (.int .i64 o.2.1) ∧ W.cell? ⟨g, kk * 4 + 2, none⟩ = some (.int .i64 o.2.2.1) ∧ W.cell? ⟨g, kk * 4 + 3, none⟩ = some (.string ⟨o.2.2.2.toArray⟩)) ∧ (W.frozen? ⟨g, kk * 4, none⟩ = false ∧ W.frozen? ⟨g, kk * 4 + 1, none⟩ = false ∧ W.frozen? ⟨g, kk * 4 + 2, none⟩ = false ∧ W.frozen? ⟨g, kk * 4 + 3, none⟩ = false)) := fun W hW => (HX.out W hW).2.2
              have hwk : IntKind.i64.wrap ((k2 : Int) - 1) = (k2 : Int) - 1 := wrap_small _ (by omega) (by omega)
              have htk : ((k2 : Int) - 1).toNat = k2 - 1 := by omega
              clear HX HEQ hsame hu hv hoo HU0 HV0 HKEEP HSKIP e0 e1 HCI
              go_wp2_with fail
              refine wp_region_quiet (C := fun W => Below wr.heap.size wr W) (by kernel_rfl) (by kernel_rfl) hbd ?_
              refine wpQuiet_step (fun K hK => ?_)
              rw [if_pos (by rfl)]
              refine ⟨.slice (some ⟨g, k * 4, none⟩) n2 c2, fun W hW => quiet_ok ?_, hK _ ?_⟩
              · have q := HX2.out W hW
                obtain ⟨⟨m0, m1, m2, m3⟩, ⟨z0, z1, z2, z3⟩⟩ := q
                go_simp
                all_goals (try omega)
              clear hK K
              simp only [Act.put, List.setIfInBounds_toArray, List.set_cons_succ, List.set_cons_zero]
              refine wpQuiet_step (fun K hK => ?_)
              rw [if_pos (by rfl)]
              refine ⟨.int .i64 (k2 : Int), fun W hW => quiet_ok ?_, hK _ ?_⟩
              · have q := HX2.out W hW
                obtain ⟨⟨m0, m1, m2, m3⟩, ⟨z0, z1, z2, z3⟩⟩ := q
                go_simp
                all_goals (try omega)
              clear hK K
              simp only [Act.put, List.setIfInBounds_toArray, List.set_cons_succ, List.set_cons_zero]
              refine wpQuiet_step (fun K hK => ?_)
              rw [if_pos (by rfl)]
              refine ⟨.pointer (some ⟨g, k * 4 + k2 * 4, none⟩), fun W hW => quiet_ok ?_, hK _ ?_⟩
              · have q := HX2.out W hW
                obtain ⟨⟨m0, m1, m2, m3⟩, ⟨z0, z1, z2, z3⟩⟩ := q
                go_simp
                all_goals (try omega)
              clear hK K
              simp only [Act.put, List.setIfInBounds_toArray, List.set_cons_succ, List.set_cons_zero]
              refine wpQuiet_step (fun K hK => ?_)
              rw [if_pos (by rfl)]
              refine ⟨.agg #[.string ⟨u.1.toArray⟩, .int .i64 u.2.1, .int .i64 u.2.2.1, .string ⟨u.2.2.2.toArray⟩], fun W hW => quiet_ok ?_, hK _ ?_⟩
              · have q := HX2.out W hW
                obtain ⟨⟨m0, m1, m2, m3⟩, ⟨z0, z1, z2, z3⟩⟩ := q
                go_simp
                all_goals (try omega)
              clear hK K
              simp only [Act.put, List.setIfInBounds_toArray, List.set_cons_succ, List.set_cons_zero]
              refine wpQuiet_step (fun K hK => ?_)
              rw [if_pos (by rfl)]
              refine ⟨.slice (some ⟨g, k * 4, none⟩) n2 c2, fun W hW => quiet_ok ?_, hK _ ?_⟩
              · have q := HX2.out W hW
                obtain ⟨⟨m0, m1, m2, m3⟩, ⟨z0, z1, z2, z3⟩⟩ := q
                go_simp
                all_goals (try omega)
              clear hK K
              simp only [Act.put, List.setIfInBounds_toArray, List.set_cons_succ, List.set_cons_zero]
              refine wpQuiet_step (fun K hK => ?_)
              rw [if_pos (by rfl)]
              refine ⟨.int .i64 (k2 : Int), fun W hW => quiet_ok ?_, hK _ ?_⟩
              · have q := HX2.out W hW
                obtain ⟨⟨m0, m1, m2, m3⟩, ⟨z0, z1, z2, z3⟩⟩ := q
                go_simp
                all_goals (try omega)
              clear hK K
              simp only [Act.put, List.setIfInBounds_toArray, List.set_cons_succ, List.set_cons_zero]
              refine wpQuiet_step (fun K hK => ?_)
              rw [if_pos (by rfl)]
              refine ⟨.int .i64 ((k2 : Int) - 1), fun W hW => quiet_ok ?_, hK _ ?_⟩
              · have q := HX2.out W hW
                obtain ⟨⟨m0, m1, m2, m3⟩, ⟨z0, z1, z2, z3⟩⟩ := q
                go_simp
                all_goals (try omega)
              clear hK K
              simp only [Act.put, List.setIfInBounds_toArray, List.set_cons_succ, List.set_cons_zero]
              refine wpQuiet_step (fun K hK => ?_)
              rw [if_pos (by rfl)]
              refine ⟨.pointer (some ⟨g, k * 4 + (k2 - 1) * 4, none⟩), fun W hW => quiet_ok ?_, hK _ ?_⟩
              · have q := HX2.out W hW
                obtain ⟨⟨m0, m1, m2, m3⟩, ⟨z0, z1, z2, z3⟩⟩ := q
                go_simp
                all_goals (try omega)
              clear hK K
              simp only [Act.put, List.setIfInBounds_toArray, List.set_cons_succ, List.set_cons_zero]
              refine wpQuiet_step (fun K hK => ?_)
              rw [if_pos (by rfl)]
              refine ⟨.agg #[.string ⟨v.1.toArray⟩, .int .i64 v.2.1, .int .i64 v.2.2.1, .string ⟨v.2.2.2.toArray⟩], fun W hW => quiet_ok ?_, hK _ ?_⟩
              · have q := HX2.out W hW
                obtain ⟨⟨m0, m1, m2, m3⟩, ⟨z0, z1, z2, z3⟩⟩ := q
                go_simp
                all_goals (try omega)
              clear hK K
              simp only [Act.put, List.setIfInBounds_toArray, List.set_cons_succ, List.set_cons_zero]
              refine wpQuiet_step (fun K hK => ?_)
              rw [if_pos (by rfl)]
              refine ⟨.bool (!same), fun W hW => quiet_ok ?_, hK _ ?_⟩
              · have q := HX2.out W hW
                obtain ⟨⟨m0, m1, m2, m3⟩, ⟨z0, z1, z2, z3⟩⟩ := q
                go_simp
                all_goals (try omega)
              clear hK K
              simp only [Act.put, List.setIfInBounds_toArray, List.set_cons_succ, List.set_cons_zero]
              refine wpQuiet_nil ?_
              intro W hW
              have HQW : Hid (QRow W g D) := HQD.out.kept hW
              have HGW : Hid (w.grownBy W (some g)) := grown_below HGD.out hW
              obtain ⟨⟨o0, o1, o2, o3⟩, ⟨f0, f1, f2, f3⟩⟩ := HX3.out W hW
              obtain ⟨⟨m0, m1, m2, m3⟩, _⟩ := HX2.out W hW
              cases same with
              | true =>
                have HC := HT.out rfl
                have HC2 : Hid (CpI Q D (k + (k2 + 1)) kk) := HC
                clear hE HT HF HC o0 o1 o2 o3 f0 f1 f2 f3 m0 m1 m2 m3 HX2 HX3
                go_wp2_with fail
                go_roundw
                case rel => exact ⟨kk, k2 + 1, D, rfl, by go_num, by omega, by omega, by omega, HQW, HC2, HGW⟩
                case measure => simp [intOf]; omega
              | false =>
                have HC := HF.out rfl
                have HC2 : Hid (CpI Q (D.set kk u) (k + (k2 + 1)) (kk + 1)) := HC
                have HQ3 : Hid (QRow (put4o W g (kk * 4) u) g (D.set kk u)) := qrow_put HQW.out kk hkD u
                have HG3 : Hid (w.grownBy (put4o W g (kk * 4) u) (some g)) := grown_put4o HGW.out _ _
                clear hE HT HF HC HX2 HX3
                unfold put4o at HQ3 HG3
                go_wp2_with fail
                go_roundw
                case rel => exact ⟨kk + 1, k2 + 1, D.set kk u, by go_num, by go_num, by omega, by omega, by omega, HQ3, HC2, HG3⟩
                case measure => simp [intOf]; omega
            · have hend : k + k2 = Q.length := by omega
              have HFIN : Hid ((cpt Q Q.length).length = kk ∧ D.take kk = cpt Q Q.length) := by
                have h := HCI.out
                rw [hend] at h
                exact ⟨h.2.2.1, h.2.2.2.1⟩
              obtain ⟨Z, hZl, hcl⟩ := run_clear4 wr g (kk * 4) (Q.length - kk) (cap - kk) (by omega) (fun j hj => (qrow_some HQD.out (kk * 4 + j) (by omega)).1) (fun j hj => (qrow_some HQD.out (kk * 4 + j) (by omega)).2)
              have HQ3 : Hid (QRow (wr.setCells g (kk * 4) Z) g (cpt Q Q.length)) := by
                have h := qrow_cut (k := kk) HQD.out Z
                rw [HFIN.out.2] at h
                exact h
              have HG3 : Hid (w.grownBy (wr.setCells g (kk * 4) Z) (some g)) := grown_setCells Z _ HGD.out
              clear HCI HQD HGD
              go_wp2_with fail
              go_ret
              exact ⟨ret_slice HFIN.out.1.symm, HQ3.out, HG3.out⟩
      · have HE : Hid (cpt Q Q.length = Q) := HALL.out (fun j h0 hj => HA.out j h0 (by omega))
        go_wp2_with fail
        go_ret
        exact ⟨ret_slice (by rw [HE.out]), by rw [HE.out]; exact HS.out.kept hb, grown_below (grown_refl _ _) hb⟩
end Go.Proofs.YtjocegnhhhfbeaaGreatDoor
