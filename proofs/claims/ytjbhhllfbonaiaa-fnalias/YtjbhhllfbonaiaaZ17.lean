import Derived.Test.YtjbhhllfbonaiaaZ10
import Derived.Test.YtjbhhllfbonaiaaZ16
import Derived.Test.YtjbhhllfbonaiaaZ13
namespace Go.Proofs.Ytjbhhllfbonaiaa
open Go.RowKit

/-- What column s gives to i beside i's own. -/
def gvT (T : Int) (R : List ColT) (i s : Nat) : Int := if isU R s = false ∧ (R.getD s (0, 0)).2 = (i : Int) then T - (R.getD s (0, 0)).1 else 0
def gvV (T : Int) (R : List ColT) (i : Nat) : Int := (R.getD i (0, 0)).1 + sumN (gvT T R i) R.length
theorem sumN_none {f : Nat → Int} : ∀ {k : Nat}, (∀ i, i < k → f i = 0) → sumN f k = 0
  | 0, _ => rfl
  | k + 1, h => by
    show sumN f k + f k = 0
    rw [sumN_none (fun i hi => h i (by omega)), h k (by omega)]; rfl
theorem gv_next {T : Int} {R : List ColT} (h : InvR T R) {s g : Nat} (hs : firstN (smP T R) R.length = some s) (hg : firstN (grP T R) R.length = some g) (i : Nat) (hi : i < R.length) : gvV T (fillS T R s g) i = gvV T R i := by
  obtain ⟨h1, h2, hne, hu1, hu2, hl1, hl2⟩ := h.facts hs hg
  have hlen := fill_length T R s g
  have e1 := sumN_upd (f := gvT T R i) (g := gvT T (fillS T R s g) i) (s := s) (k := R.length) (fun j hj hn => by
    unfold gvT
    rw [fill_isU h1 h2 hne j hj, fill_get h1 h2 j hj, if_neg hn]
    by_cases e : j = g
    · subst e; rw [hu2]; simp
    · rw [if_neg e, if_neg hn]) h1
  have e2 : gvT T R i s = 0 := by unfold gvT; rw [hu1]; simp
  have e3 : gvT T (fillS T R s g) i s = if g = i then T - (R.getD s (0, 0)).1 else 0 := by
    unfold gvT
    rw [fill_isU h1 h2 hne s h1, fill_get h1 h2 s h1, if_pos rfl, if_neg hne, if_pos rfl]
    by_cases e : g = i
    · subst e; simp
    · rw [if_neg e, if_neg]
      rintro ⟨_, h3⟩
      have h4 : (g : Int) = (i : Int) := h3
      omega
  unfold gvV
  rw [hlen, e1, e2, e3, fill_get h1 h2 i hi]
  by_cases e : i = g
  · subst e
    rw [if_pos rfl, if_pos rfl]
    simp only; omega
  · rw [if_neg e, if_neg (show ¬ g = i from fun q => e q.symm)]
    by_cases e4 : i = s
    · subst e4; rw [if_pos rfl]; simp only; omega
    · rw [if_neg e4]; omega
theorem gv_it {T : Int} {R : List ColT} (i : Nat) (hi : i < R.length) : ∀ k : Nat, (∀ j, j ≤ k → InvR T (itR T R j)) → gvV T (itR T R k) i = gvV T R i
  | 0, _ => rfl
  | k + 1, hk => by
    have h0 := hk k (by omega)
    rw [← gv_it i hi k (fun j hj => hk j (by omega))]
    show gvV T (stepR T (itR T R k)) i = _
    cases hs : firstN (smP T (itR T R k)) (itR T R k).length with
    | none => rw [stepR_none hs]
    | some s =>
      obtain ⟨g, hg⟩ := h0.great hs
      rw [stepR_some hs hg]
      exact gv_next h0 hs hg i (by rw [itR_length]; exact hi)
theorem gv_beg {A : List Int} {i : Nat} (hi : i < A.length) (T : Int) : gvV T (begR A) i = A.getD i 0 * (A.length : Int) := by
  unfold gvV
  rw [sumN_none (fun j hj => by
    rw [begR_length] at hj
    unfold gvT
    have hu : isU (begR A) j = true := by unfold isU; rw [begR_get hj]; simp
    rw [hu]; simp), begR_get hi]
  simp
theorem bump_get {a : List Int} {i j : Nat} {x : Int} (hj : j < a.length) : (bump a i x).getD j 0 = a.getD j 0 + (if i = j then x else 0) := by
  have e : (bump a i x).getD j 0 = ((a.set i (a.getD i 0 + x))[j]?).getD 0 := by unfold bump; exact List.getD_eq_getElem?_getD ..
  rw [e, List.getElem?_set]
  by_cases q : i = j
  · subst q; simp [hj]
  · simp [q, hj]
theorem oft_at {L : List (Int × Int)} {t : Int} (h : fitA t L = true) {i : Nat} (hi : i < L.length) : ∀ k, k ≤ L.length → (oftK L t k).getD i 0 = (if i < k then (L.getD i (0, 0)).1 else 0) + sumN (fun s => if (L.getD s (0, 0)).2 = (i : Int) then t - (L.getD s (0, 0)).1 else 0) k
  | 0, _ => by simp [oftK, sumN, hi]
  | k + 1, hk => by
    have hkl : k < L.length := by omega
    have hc := fit_col h hkl
    have he : L.getD k (0, 0) = L[k] := by simp [hkl]
    rw [oftK_next hkl, bump_get (by rw [bump_length, oftK_length]; exact hi), bump_get (by rw [oftK_length]; exact hi), oft_at h hi k (by omega)]
    show _ = _ + (sumN _ k + (if (L.getD k (0, 0)).2 = (i : Int) then t - (L.getD k (0, 0)).1 else 0))
    rw [he]
    have e1 : ((L[k]).2.toNat = i) ↔ ((L[k]).2 = (i : Int)) := by omega
    by_cases e2 : k = i
    · subst e2
      rw [if_pos rfl, if_neg (show ¬ k < k by omega), if_pos (show k < k + 1 by omega), he]
      by_cases e3 : (L[k]).2 = (k : Int)
      · rw [if_pos (e1.2 e3), if_pos e3]; omega
      · rw [if_neg (fun q => e3 (e1.1 q)), if_neg e3]; omega
    · rw [if_neg e2]
      have e4 : (if i < k + 1 then (L.getD i (0, 0)).1 else 0) = (if i < k then (L.getD i (0, 0)).1 else 0) := by
        by_cases q : i < k
        · rw [if_pos q, if_pos (by omega)]
        · rw [if_neg q, if_neg (by omega)]
      rw [e4]
      by_cases e3 : (L[k]).2 = (i : Int)
      · rw [if_pos (e1.2 e3), if_pos e3]; omega
      · rw [if_neg (fun q => e3 (e1.1 q)), if_neg e3]; omega
theorem itR_all {T : Int} {R : List ColT} (h : InvR T R) : ∀ k : Nat, InvR T (itR T R k)
  | 0 => h
  | k + 1 => by
    have h0 := itR_all h k
    show InvR T (stepR T (itR T R k))
    cases hs : firstN (smP T (itR T R k)) (itR T R k).length with
    | none => rw [stepR_none hs]; exact h0
    | some s =>
      obtain ⟨g, hg⟩ := h0.great hs
      rw [stepR_some hs hg]
      exact (h0.next hs hg).1
/-- Each is picked as often as it weighs, times how many there are. -/
theorem oft_ali {A : List Int} (h : goodW A = true) (hf : fitA A.sum (aliL A) = true) (hn : firstN (smP A.sum (aliL A)) (aliL A).length = none) : oftL (aliL A) A.sum = A.map (fun a => a * (A.length : Int)) := by
  obtain ⟨hb, _⟩ := begR_inv h
  have hi := itR_all hb A.length
  have hl : (aliL A).length = A.length := by unfold aliL; rw [itR_length, begR_length]
  unfold oftL
  rw [if_pos hf]
  refine List.ext_getElem (by rw [oftK_length, hl, List.length_map]) fun i h1 h2 => ?_
  rw [oftK_length, hl] at h1
  have e0 := oft_at hf (i := i) (by rw [hl]; exact h1) (aliL A).length (Nat.le_refl _)
  rw [if_pos (by rw [hl]; exact h1)] at e0
  have e1 := gv_it (T := A.sum) (R := begR A) i (by rw [begR_length]; exact h1) A.length (fun j _ => itR_all hb j)
  rw [gv_beg h1] at e1
  have e2 : sumN (fun s => if ((aliL A).getD s (0, 0)).2 = (i : Int) then A.sum - ((aliL A).getD s (0, 0)).1 else 0) (aliL A).length = sumN (gvT A.sum (aliL A) i) (aliL A).length := sumN_congr (fun s hs => by
    unfold gvT
    by_cases q : ((aliL A).getD s (0, 0)).2 = (i : Int)
    · rw [if_pos q]
      cases hu : isU (aliL A) s with
      | true =>
        have hlv := hi.level hn s hs hu
        have hlv2 : ((aliL A).getD s (0, 0)).1 = A.sum := hlv
        rw [if_neg (by simp)]
        omega
      | false => rw [if_pos ⟨rfl, q⟩]
    · rw [if_neg q, if_neg (fun z => q z.2)])
  rw [e2] at e0
  have e3 : gvV A.sum (aliL A) i = A.getD i 0 * (A.length : Int) := e1
  unfold gvV at e3
  rw [e3, List.getD_eq_getElem?_getD, List.getElem?_eq_getElem (by rw [oftK_length, hl]; exact h1)] at e0
  simp only [Option.getD_some] at e0
  rw [e0, List.getElem_map]
  simp [h1]
end Go.Proofs.Ytjbhhllfbonaiaa

namespace Go.Proofs.Ytjbhhllfbonaiaa
open Go.RowKit

theorem cnt_noneA {T : Int} {R : List ColT} (h : cntU R = 0) : firstN (smP T R) R.length = none := by
  have hz : ∀ i, i < R.length → (if isU R i = true then (1 : Int) else 0) = 0 := sumN_zero (fun i _ => by split <;> omega) h
  cases hf : firstN (smP T R) R.length with
  | none => rfl
  | some s =>
    obtain ⟨h1, h2, _⟩ := firstN_some hf
    unfold smP at h2
    rw [Bool.and_eq_true] at h2
    have := hz s h1
    rw [if_pos h2.1] at this
    cases this
theorem itR_invA {T : Int} {R : List ColT} (h : InvR T R) : ∀ k : Nat, InvR T (itR T R k) ∧ (firstN (smP T (itR T R k)) (itR T R k).length = none ∨ cntU (itR T R k) = cntU R - (k : Int))
  | 0 => ⟨h, .inr (by simp [itR])⟩
  | k + 1 => by
    obtain ⟨hi, hc⟩ := itR_invA h k
    show InvR T (stepR T (itR T R k)) ∧ (firstN (smP T (stepR T (itR T R k))) (stepR T (itR T R k)).length = none ∨ cntU (stepR T (itR T R k)) = cntU R - ((k + 1 : Nat) : Int))
    cases hs : firstN (smP T (itR T R k)) (itR T R k).length with
    | none => rw [stepR_none hs]; exact ⟨hi, .inl hs⟩
    | some s =>
      obtain ⟨g, hg⟩ := hi.great hs
      obtain ⟨h1, h2⟩ := hi.next hs hg
      rw [stepR_some hs hg]
      refine ⟨h1, .inr ?_⟩
      rcases hc with hc | hc
      · rw [hs] at hc; cases hc
      · rw [h2, hc]; omega
/-- Where no column has too little none has too much. -/
theorem ali_fitA {A : List Int} (h : goodW A = true) : fitA A.sum (aliL A) = true := by
  obtain ⟨hb, hcn⟩ := begR_inv h
  obtain ⟨hi, hc⟩ := itR_invA hb A.length
  have hn : firstN (smP A.sum (aliL A)) (aliL A).length = none := by
    rcases hc with hc | hc
    · exact hc
    · refine cnt_noneA ?_
      show cntU (itR A.sum (begR A) A.length) = 0
      rw [hc, hcn]; omega
  have hl : (aliL A).length = A.length := by unfold aliL; rw [itR_length, begR_length]
  have hiv : InvR A.sum (aliL A) := hi
  obtain ⟨⟨h1, h2⟩, h3, h4⟩ := goodW_parts h
  have hsum := sm_sum A (all_sm h3)
  have hs600 : A.sum ≤ 600 := by
    have : ∀ B : List Int, B.all wtB = true → B.sum ≤ 50 * (B.length : Int) := fun B => by
      induction B with
      | nil => intro _; simp
      | cons x r ih =>
        intro hb
        rw [List.all_cons, Bool.and_eq_true] at hb
        have e1 := wt_in hb.1
        have e2 := ih hb.2
        rw [List.sum_cons, List.length_cons]; omega
    have e := this A h3
    omega
  have hcol : ∀ i, (hi : i < (aliL A).length) → 0 ≤ ((aliL A)[i]).1 ∧ ((aliL A)[i]).1 ≤ A.sum ∧ 0 ≤ ((aliL A)[i]).2 ∧ ((aliL A)[i]).2 ≤ ((aliL A).length : Int) - 1 := fun i hi => by
    have e1 := hiv.bound i hi
    have e2 := hiv.other i hi
    rw [cgetD hi] at e1 e2
    refine ⟨e1.1, ?_, e2.1, by omega⟩
    cases hu : isU (aliL A) i with
    | true =>
      have e3 := hiv.level hn i hi hu
      rw [cgetD hi] at e3
      omega
    | false =>
      have e3 := hiv.full i hi hu
      rw [cgetD hi] at e3
      omega
  unfold fitA goodA
  simp only [Bool.and_eq_true, inB, decide_eq_true_eq]
  refine ⟨⟨List.all_eq_true.2 fun x hx => ?_, ⟨by omega, by omega⟩, List.all_eq_true.2 fun x hx => ?_⟩, by omega, hs600⟩
  · obtain ⟨i, hi, rfl⟩ := List.getElem_of_mem hx
    simpa [mostB] using (hcol i hi).2.1
  · obtain ⟨i, hi, rfl⟩ := List.getElem_of_mem hx
    have e := hcol i hi
    simp only [colB, inB, Bool.and_eq_true, decide_eq_true_eq]
    omega
theorem ali_lengthA (A : List Int) : (aliL A).length = A.length := by unfold aliL; rw [itR_length, begR_length]
theorem ali_factsA {A : List Int} (h : goodW A = true) : 1 ≤ A.sum ∧ A.sum ≤ 600 ∧ 1 ≤ A.length ∧ A.length ≤ 12 := by
  have h1 := fit_facts (ali_fitA h)
  obtain ⟨⟨h2, h3⟩, _⟩ := goodW_parts h
  omega
theorem ali_noneA {A : List Int} (h : goodW A = true) : firstN (smP A.sum (aliL A)) (aliL A).length = none := by
  obtain ⟨hb, hcn⟩ := begR_inv h
  obtain ⟨hi, hc⟩ := itR_invA hb A.length
  rcases hc with hc | hc
  · exact hc
  · refine cnt_noneA ?_
    show cntU (itR A.sum (begR A) A.length) = 0
    rw [hc, hcn]; omega
/-- Each is picked as often as it weighs, times how many there are. -/
theorem oft_aliA {A : List Int} (h : goodW A = true) : oftL (aliL A) A.sum = A.map (fun a => a * (A.length : Int)) := oft_ali h (ali_fitA h) (ali_noneA h)
end Go.Proofs.Ytjbhhllfbonaiaa

namespace Go.Proofs.Ytjbhhllfbonaiaa
open Go.RowKit

/-- How often each was picked by the draws below d. -/
def cntD (L : List (Int × Int)) (t : Int) : Nat → List Int
  | 0 => List.replicate L.length 0
  | d + 1 => bump (cntD L t d) (pkN L t (d : Int)).toNat 1
theorem cntD_length (L : List (Int × Int)) (t : Int) : ∀ d, (cntD L t d).length = L.length
  | 0 => by simp [cntD]
  | d + 1 => by unfold cntD; rw [bump_length, cntD_length L t d]
/-- The draws of one column. -/
def midD (L : List (Int × Int)) (t : Int) (c r : Nat) : List Int := bump (bump (oftK L t c) c (min (r : Int) (L.getD c (0, 0)).1)) (L.getD c (0, 0)).2.toNat (max 0 ((r : Int) - (L.getD c (0, 0)).1))
theorem mid_length (L : List (Int × Int)) (t : Int) (c r : Nat) : (midD L t c r).length = L.length := by unfold midD; rw [bump_length, bump_length, oftK_length]
theorem bump_zero (a : List Int) (i : Nat) : bump a i 0 = a := by
  refine List.ext_getElem (by rw [bump_length]) fun j h1 h2 => ?_
  have h := bump_get (a := a) (i := i) (x := 0) h2
  rw [List.getD_eq_getElem?_getD, List.getElem?_eq_getElem h1, List.getD_eq_getElem?_getD, List.getElem?_eq_getElem h2] at h
  simp only [Option.getD_some] at h
  rw [h]; split <;> omega
theorem ext_getD {a b : List Int} (hl : a.length = b.length) (h : ∀ j, j < a.length → a.getD j 0 = b.getD j 0) : a = b := by
  refine List.ext_getElem hl fun j h1 h2 => ?_
  have e := h j h1
  rw [List.getD_eq_getElem?_getD, List.getElem?_eq_getElem h1, List.getD_eq_getElem?_getD, List.getElem?_eq_getElem h2] at e
  exact e
theorem pkm_at {L : List (Int × Int)} {T : Nat} (hT : 0 < T) {c r : Nat} (hc : c < L.length) (hr : r < T) : pkN L (T : Int) ((c * T + r : Nat) : Int) = if (r : Int) < (L.getD c (0, 0)).1 then (c : Int) else (L.getD c (0, 0)).2 := by
  have e1 : (((c * T + r : Nat) : Int)).tdiv (T : Int) = (c : Int) := by
    rw [← Int.ofNat_tdiv, Nat.mul_comm, Nat.mul_add_div hT, Nat.div_eq_of_lt hr]; rfl
  have e2 : (((c * T + r : Nat) : Int)).tmod (T : Int) = (r : Int) := by
    rw [← Int.ofNat_tmod, Nat.mul_comm, Nat.mul_add_mod, Nat.mod_eq_of_lt hr]
  unfold pkN
  rw [e1, e2]
  simp [hc]
theorem mid_next {L : List (Int × Int)} {T : Nat} (hf : fitA (T : Int) L = true) (hT : 0 < T) {c r : Nat} (hc : c < L.length) (hr : r < T) : bump (midD L (T : Int) c r) (pkN L (T : Int) ((c * T + r : Nat) : Int)).toNat 1 = midD L (T : Int) c (r + 1) := by
  rw [pkm_at hT hc hr]
  have hb := fit_col hf hc
  have he : L.getD c (0, 0) = L[c] := by simp [hc]
  refine ext_getD (by rw [bump_length, mid_length, mid_length]) fun j hj => ?_
  rw [bump_length, mid_length] at hj
  rw [bump_get (by rw [mid_length]; exact hj)]
  unfold midD
  rw [bump_get (by rw [bump_length, oftK_length]; exact hj), bump_get (by rw [oftK_length]; exact hj), bump_get (by rw [bump_length, oftK_length]; exact hj), bump_get (by rw [oftK_length]; exact hj), he]
  by_cases q : (r : Int) < (L[c]).1
  · rw [if_pos q]
    have m1 : min (r : Int) (L[c]).1 = (r : Int) := by omega
    have m2 : min ((r + 1 : Nat) : Int) (L[c]).1 = (r : Int) + 1 := by omega
    have m3 : max 0 ((r : Int) - (L[c]).1) = 0 := by omega
    have m4 : max 0 (((r + 1 : Nat) : Int) - (L[c]).1) = 0 := by omega
    rw [m1, m2, m3, m4]
    have m5 : ((c : Int)).toNat = c := by omega
    rw [m5]
    split <;> split <;> omega
  · rw [if_neg q]
    have m1 : min (r : Int) (L[c]).1 = (L[c]).1 := by omega
    have m2 : min ((r + 1 : Nat) : Int) (L[c]).1 = (L[c]).1 := by omega
    have m3 : max 0 (((r + 1 : Nat) : Int) - (L[c]).1) = max 0 ((r : Int) - (L[c]).1) + 1 := by omega
    rw [m1, m2, m3]
    split <;> split <;> omega
theorem mid_zero {L : List (Int × Int)} {T : Nat} (hf : fitA (T : Int) L = true) {c : Nat} (hc : c < L.length) : midD L (T : Int) c 0 = oftK L (T : Int) c := by
  have hb := fit_col hf hc
  have he : L.getD c (0, 0) = L[c] := by simp [hc]
  unfold midD
  rw [he]
  have m1 : min ((0 : Nat) : Int) (L[c]).1 = 0 := by omega
  have m3 : max 0 (((0 : Nat) : Int) - (L[c]).1) = 0 := by omega
  rw [m1, m3, bump_zero, bump_zero]
theorem mid_full {L : List (Int × Int)} {T : Nat} (hf : fitA (T : Int) L = true) {c : Nat} (hc : c < L.length) : midD L (T : Int) c T = oftK L (T : Int) (c + 1) := by
  have hb := fit_col hf hc
  have he : L.getD c (0, 0) = L[c] := by simp [hc]
  rw [oftK_next hc]
  unfold midD
  rw [he]
  have m1 : min (T : Int) (L[c]).1 = (L[c]).1 := by omega
  have m3 : max 0 ((T : Int) - (L[c]).1) = (T : Int) - (L[c]).1 := by omega
  rw [m1, m3]
theorem cnt_mid {L : List (Int × Int)} {T : Nat} (hf : fitA (T : Int) L = true) (hT : 0 < T) {c : Nat} (hc : c < L.length) (h0 : cntD L (T : Int) (c * T) = oftK L (T : Int) c) : ∀ r, r ≤ T → cntD L (T : Int) (c * T + r) = midD L (T : Int) c r
  | 0, _ => by rw [mid_zero hf hc]; exact h0
  | r + 1, hr => by
    rw [← mid_next hf hT hc (show r < T by omega), ← cnt_mid hf hT hc h0 r (by omega)]
    rfl
theorem cnt_cols {L : List (Int × Int)} {T : Nat} (hf : fitA (T : Int) L = true) (hT : 0 < T) : ∀ c, c ≤ L.length → cntD L (T : Int) (c * T) = oftK L (T : Int) c
  | 0, _ => by rw [Nat.zero_mul]; rfl
  | c + 1, hc => by
    rw [← mid_full hf (show c < L.length by omega), ← cnt_mid hf hT (show c < L.length by omega) (cnt_cols hf hT c (by omega)) T (Nat.le_refl _), Nat.succ_mul]
/-- Over all draws each was picked as often as is told. -/
theorem cnt_all {L : List (Int × Int)} {T : Nat} (hf : fitA (T : Int) L = true) (hT : 0 < T) : cntD L (T : Int) (L.length * T) = oftL L (T : Int) := by
  unfold oftL
  rw [if_pos hf]
  exact cnt_cols hf hT L.length (Nat.le_refl _)
end Go.Proofs.Ytjbhhllfbonaiaa
