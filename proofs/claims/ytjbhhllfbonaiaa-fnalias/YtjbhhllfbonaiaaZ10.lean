import Derived.Test.YtjbhhllfbonaiaaZ08
import Derived.Test.YtjbhhllfbonaiaaZ09
import Derived.Test.YtjbhhllfbonaiaaZ07
namespace Go.Proofs.Ytjbhhllfbonaiaa
open Go.RowKit

/-- A turn that the call owns, or the zero one. -/
def OwnT (w : World) (base : Nat) (va vu : Value) (A U : List Int) : Prop :=
  (va = .slice none 0 0 ∧ vu = .slice none 0 0 ∧ A = [] ∧ U = []) ∨ ∃ g1 c1 g2 c2, va = .slice (some ⟨g1, 0, none⟩) A.length c1 ∧ vu = .slice (some ⟨g2, 0, none⟩) U.length c2 ∧ A.length ≤ c1 ∧ c1 ≤ 9223372036854775807 ∧ U.length ≤ c2 ∧ c2 ≤ 9223372036854775807 ∧ base ≤ g1 ∧ base ≤ g2 ∧ g1 ≠ g2 ∧ ZSRow w g1 A ∧ ZSRow w g2 U
/-- Which blocks a turn lies in. -/
def inT (va vu : Value) (k : Nat) : Prop := va.ownBlock = some k ∨ vu.ownBlock = some k
theorem OwnT.shape {w : World} {base : Nat} {va vu : Value} {A U : List Int} (h : OwnT w base va vu A U) : ∃ a1 c1 a2 c2, va = .slice a1 A.length c1 ∧ vu = .slice a2 U.length c2 := by
  rcases h with ⟨rfl, rfl, rfl, rfl⟩ | ⟨g1, c1, g2, c2, rfl, rfl, _⟩
  · exact ⟨none, 0, none, 0, rfl, rfl⟩
  · exact ⟨_, c1, _, c2, rfl, rfl⟩
theorem OwnT.rows {w : World} {base : Nat} {va vu : Value} {A U : List Int} (h : OwnT w base va vu A U) : ZRow .i64 w va A ∧ ZRow .i64 w vu U := by
  rcases h with ⟨rfl, rfl, rfl, rfl⟩ | ⟨g1, c1, g2, c2, rfl, rfl, h1, h2, h3, h4, _, _, _, s1, s2⟩
  · exact ⟨zrow_nil .i64 w, zrow_nil .i64 w⟩
  · exact ⟨s1.rowc h1 h2, s2.rowc h3 h4⟩
theorem OwnT.kept {w w' : World} {base : Nat} {va vu : Value} {A U : List Int} (h : OwnT w base va vu A U) (hb : Below w.heap.size w w') : OwnT w' base va vu A U := by
  rcases h with h | ⟨g1, c1, g2, c2, rfl, rfl, h1, h2, h3, h4, h5, h6, h7, s1, s2⟩
  · exact .inl h
  · exact .inr ⟨g1, c1, g2, c2, rfl, rfl, h1, h2, h3, h4, h5, h6, h7, s1.kept hb, s2.kept hb⟩
theorem OwnT.kpt {w w' : World} {S : Nat → Prop} {base : Nat} {va vu : Value} {A U : List Int} (h : OwnT w base va vu A U) (hk : Kpt w w' S) (hn : ∀ g, inT va vu g → ¬ S g) : OwnT w' base va vu A U := by
  rcases h with h | ⟨g1, c1, g2, c2, rfl, rfl, h1, h2, h3, h4, h5, h6, h7, s1, s2⟩
  · exact .inl h
  · exact .inr ⟨g1, c1, g2, c2, rfl, rfl, h1, h2, h3, h4, h5, h6, h7, s1.apart hk (hn g1 (.inl rfl)), s2.apart hk (hn g2 (.inr rfl))⟩
theorem OwnT.lt {w : World} {base : Nat} {va vu : Value} {A U : List Int} (h : OwnT w base va vu A U) : ∀ g, inT va vu g → base ≤ g ∧ g < w.heap.size := by
  rcases h with ⟨rfl, rfl, _, _⟩ | ⟨g1, c1, g2, c2, rfl, rfl, _, _, _, _, h5, h6, _, s1, s2⟩
  · intro g hg; rcases hg with h | h <;> cases h
  · intro g hg
    rcases hg with h | h
    · have e : g1 = g := Option.some.inj h
      rw [← e]; exact ⟨h5, s1.1⟩
    · have e : g2 = g := Option.some.inj h
      rw [← e]; exact ⟨h6, s2.1⟩
theorem OwnT.base {w : World} {b b' : Nat} {va vu : Value} {A U : List Int} (h : OwnT w b va vu A U) (hb : b' ≤ b) : OwnT w b' va vu A U := by
  rcases h with h | ⟨g1, c1, g2, c2, rfl, rfl, h1, h2, h3, h4, h5, h6, h7, s1, s2⟩
  · exact .inl h
  · exact .inr ⟨g1, c1, g2, c2, rfl, rfl, h1, h2, h3, h4, Nat.le_trans hb h5, Nat.le_trans hb h6, h7, s1, s2⟩
end Go.Proofs.Ytjbhhllfbonaiaa

namespace Go.Proofs.Ytjbhhllfbonaiaa
open Go.RowKit

/-- What a turn comes to: each number and its weight; the first of the greatest. -/
def addZ (U A : List Int) : List Int := List.zipWith (fun u a => u + a) U A
theorem addZ_length {U A : List Int} (h : U.length = A.length) : (addZ U A).length = U.length := by unfold addZ; rw [List.length_zipWith]; omega
theorem addZ_get {U A : List Int} (h : U.length = A.length) {k : Nat} (hk : k < U.length) : (addZ U A)[k]'(by rw [addZ_length h]; exact hk) = U[k] + A[k]'(by omega) := by simp [addZ]
def bestN (L : List Int) : Nat → Nat
  | 0 => 0
  | k + 1 => if L.getD k 0 > L.getD (bestN L k) 0 then k else bestN L k
theorem bestN_le (L : List Int) : ∀ k, bestN L k ≤ k
  | 0 => Nat.le_refl _
  | k + 1 => by
    have := bestN_le L k
    unfold bestN; split <;> omega
theorem bestN_lt (L : List Int) : ∀ k, 0 < k → bestN L k < k
  | 0, h => by omega
  | 1, _ => by show (if L.getD 0 0 > L.getD 0 0 then 0 else 0) < 1; simp
  | k + 2, _ => by
    have := bestN_lt L (k + 1) (by omega)
    show (if L.getD (k + 1) 0 > L.getD (bestN L (k + 1)) 0 then k + 1 else bestN L (k + 1)) < k + 2
    split <;> omega
theorem bestN_max (L : List Int) : ∀ k j, j < k → L.getD j 0 ≤ L.getD (bestN L k) 0
  | 0, j, h => by omega
  | k + 1, j, h => by
    have ih := fun hj => bestN_max L k j hj
    unfold bestN
    by_cases hj : j < k
    · have := ih hj
      split <;> omega
    · obtain rfl : j = k := by omega
      split <;> omega
theorem bestN_first (L : List Int) : ∀ k j, j < bestN L k → L.getD j 0 < L.getD (bestN L k) 0
  | 0, j, h => by simp [bestN] at h
  | k + 1, j, h => by
    unfold bestN at h ⊢
    split at h
    · rename_i hg
      rw [if_pos hg]
      have := bestN_max L k j h
      omega
    · rename_i hg
      rw [if_neg hg]
      exact bestN_first L k j h
/-- The numbers behind a turn, and who is picked. -/
def nxtK (A U : List Int) : Nat := bestN (addZ U A) U.length
def nxtL (A U : List Int) : List Int := (addZ U A).set (nxtK A U) ((addZ U A).getD (nxtK A U) 0 - A.sum)
def nxtB (A U : List Int) : Bool := goodT A U && goodT A (nxtL A U)
theorem nxtL_length {A U : List Int} (h : U.length = A.length) : (nxtL A U).length = A.length := by unfold nxtL; rw [List.length_set, addZ_length h, h]
theorem goodT_parts {A U : List Int} (h : goodT A U = true) : goodW A = true ∧ U.length = A.length ∧ U.all smB = true ∧ U.sum = 0 := by
  unfold goodT at h
  simp only [Bool.and_eq_true, decide_eq_true_eq] at h
  exact ⟨h.1.1.1, h.1.1.2, h.1.2, h.2⟩
theorem goodW_parts {A : List Int} (h : goodW A = true) : (1 ≤ A.length ∧ A.length ≤ 12) ∧ A.all wtB = true ∧ 0 < A.sum := by
  unfold goodW inB at h
  simp only [Bool.and_eq_true, decide_eq_true_eq] at h
  exact ⟨by omega, h.1.2, h.2⟩
theorem wt_sum : ∀ (L : List Int), L.all wtB = true → 0 ≤ L.sum ∧ L.sum ≤ 50 * (L.length : Int)
  | [], _ => by simp
  | x :: l, h => by
    rw [List.all_cons, Bool.and_eq_true] at h
    have h1 := wt_in h.1
    have h2 := wt_sum l h.2
    rw [List.sum_cons, List.length_cons]
    omega
theorem getD_get {L : List Int} {k : Nat} (h : k < L.length) : L.getD k 0 = L[k] := by rw [List.getD_eq_getElem?_getD, List.getElem?_eq_getElem h]; rfl
theorem add_bound {A U : List Int} (h : goodT A U = true) {k : Nat} (hk : k < U.length) : -10000 ≤ (addZ U A).getD k 0 ∧ (addZ U A).getD k 0 ≤ 10050 := by
  obtain ⟨h1, h2, h3, _⟩ := goodT_parts h
  obtain ⟨_, h5, _⟩ := goodW_parts h1
  rw [getD_get (by rw [addZ_length h2]; exact hk), addZ_get h2 hk]
  have a1 := sm_in (List.all_eq_true.1 h3 _ (List.getElem_mem hk))
  have a2 := wt_in (List.all_eq_true.1 h5 _ (List.getElem_mem (by omega : k < A.length)))
  omega
theorem sum_bound {A U : List Int} (h : goodT A U = true) : 0 < A.sum ∧ A.sum ≤ 600 := by
  obtain ⟨h1, h2, h3, _⟩ := goodT_parts h
  obtain ⟨h4, h5, h6⟩ := goodW_parts h1
  have := wt_sum A h5
  omega

set_option maxRecDepth 20000 in
set_option maxHeartbeats 1000000 in
theorem l12Total_any (v : Value) (L : List Int) (w : World) (hr : ZRow .i64 w v L) (hl : L.length ≤ 1048576) (hs : L.all smB = true) :
    Calls Try.prog 20 #[v] w fun e w' => e = .returned (.int .i64 L.sum) ∧ w' = w := by
  obtain ⟨a, cap, rfl, hcap, hmax, HROW⟩ := zrow_value hr
  clear hr
  have HS : Hid (L.all smB = true) := hs
  clear hs
  go_enter Try.func20, Try.ntmps20
  go_wp2_with fail
  go_loopw [3, 8] (fun s i wr => ∃ k : Nat, k ≤ L.length ∧ i = .int .i64 (k : Int) ∧ s = .int .i64 (L.take k).sum ∧ wr = w) (fun _ i _ => L.length - (intOf i).toNat)
  case atStart => exact ⟨0, Nat.zero_le _, rfl, rfl, rfl⟩
  case round =>
    obtain ⟨k, hk, rfl, rfl, rfl⟩ := hrel
    by_cases hlt : k < L.length
    · obtain ⟨b, o, ha, hbl, hc⟩ := HROW.out (by omega)
      rw [ha]
      have hcx := hc k hlt
      have HN : Hid ((L.take (k + 1)).sum = (L.take k).sum + L[k]'hlt) := sum_on hlt
      have hx1 := sm_in (List.all_eq_true.1 HS.out _ (List.getElem_mem hlt))
      have hs1 := sm_sum (L.take k) (take_sm k HS.out)
      rw [List.length_take, Nat.min_eq_left hk] at hs1
      obtain ⟨x, hx⟩ : ∃ x, x = L[k]'hlt := ⟨_, rfl⟩
      rw [← hx] at hcx HN hx1
      obtain ⟨s, hse⟩ : ∃ s, s = (L.take k).sum := ⟨_, rfl⟩
      rw [← hse] at HN hs1 ⊢
      clear hc hx hse
      go_wp2_with fail
      go_roundw
      case rel => exact ⟨k + 1, by omega, by go_num, by rw [HN.out], by trivial⟩
      case measure => simp [intOf]; omega
    · have HE : Hid ((L.take k).sum = L.sum) := by show _ = _; rw [List.take_of_length_le (by omega)]
      rw [HE.out]
      obtain ⟨s, hse⟩ : ∃ s, s = L.sum := ⟨_, rfl⟩
      rw [← hse]
      have HSE : Hid (s = L.sum) := hse
      clear hse
      go_wp2_with fail
      go_ret
      exact ⟨ret_intY (by first | exact HSE.out | exact HSE.out.symm | rfl), rfl⟩


end Go.Proofs.Ytjbhhllfbonaiaa

namespace Go.Proofs.Ytjbhhllfbonaiaa
open Go.RowKit

/-- The first number below k of which p holds. -/
def firstN (p : Nat → Bool) : Nat → Option Nat
  | 0 => none
  | k + 1 => match firstN p k with
    | some j => some j
    | none => if p k = true then some k else none
theorem firstN_none {p : Nat → Bool} : ∀ {k : Nat}, firstN p k = none → ∀ i, i < k → p i = false
  | 0, _, i, hi => by omega
  | k + 1, h, i, hi => by
    unfold firstN at h
    cases hk : firstN p k with
    | some j => rw [hk] at h; cases h
    | none =>
      rw [hk] at h
      simp only at h
      split at h
      · cases h
      · rename_i hn
        by_cases he : i = k
        · subst he; simpa using hn
        · exact firstN_none hk i (by omega)
theorem firstN_some {p : Nat → Bool} : ∀ {k j : Nat}, firstN p k = some j → j < k ∧ p j = true ∧ ∀ i, i < j → p i = false
  | 0, j, h => by simp [firstN] at h
  | k + 1, j, h => by
    unfold firstN at h
    cases hk : firstN p k with
    | some j' =>
      rw [hk] at h
      have e : j' = j := by simpa using h
      obtain ⟨h1, h2, h3⟩ := firstN_some hk
      subst e
      exact ⟨by omega, h2, h3⟩
    | none =>
      rw [hk] at h
      simp only at h
      split at h
      · rename_i hp
        have e : k = j := by simpa using h
        subst e
        exact ⟨by omega, hp, fun i hi => firstN_none hk i hi⟩
      · cases h
theorem firstN_congr {p q : Nat → Bool} : ∀ {k : Nat}, (∀ i, i < k → p i = q i) → firstN p k = firstN q k
  | 0, _ => rfl
  | k + 1, h => by
    unfold firstN
    rw [firstN_congr (k := k) (fun i hi => h i (by omega)), h k (by omega)]
/-- A sum over the numbers below k. -/
def sumN (f : Nat → Int) : Nat → Int
  | 0 => 0
  | k + 1 => sumN f k + f k
theorem sumN_congr {f g : Nat → Int} : ∀ {k : Nat}, (∀ i, i < k → f i = g i) → sumN f k = sumN g k
  | 0, _ => rfl
  | k + 1, h => by
    unfold sumN
    rw [sumN_congr (k := k) (fun i hi => h i (by omega)), h k (by omega)]
theorem sumN_upd {f g : Nat → Int} {s : Nat} : ∀ {k : Nat}, (∀ i, i < k → i ≠ s → g i = f i) → s < k → sumN g k = sumN f k - f s + g s
  | 0, _, h => by omega
  | k + 1, h, hs => by
    unfold sumN
    by_cases he : s = k
    · subst he
      rw [sumN_congr (f := g) (g := f) (fun i hi => h i (by omega) (by omega))]
      omega
    · rw [sumN_upd (k := k) (fun i hi hn => h i (by omega) hn) (by omega), h k (by omega) (by omega)]
      omega
theorem sumN_le {f : Nat → Int} : ∀ {k : Nat}, (∀ i, i < k → f i ≤ 0) → sumN f k ≤ 0
  | 0, _ => by simp [sumN]
  | k + 1, h => by
    unfold sumN
    have h1 := sumN_le (k := k) (fun i hi => h i (by omega))
    have h2 := h k (by omega)
    omega
theorem sumN_lt {f : Nat → Int} {s : Nat} : ∀ {k : Nat}, (∀ i, i < k → f i ≤ 0) → s < k → f s < 0 → sumN f k < 0
  | 0, _, h, _ => by omega
  | k + 1, h, hs, hn => by
    unfold sumN
    have h2 := h k (by omega)
    by_cases he : s = k
    · subst he
      have h1 := sumN_le (k := s) (fun i hi => h i (by omega))
      omega
    · have h1 := sumN_lt (k := k) (fun i hi => h i (by omega)) (by omega) hn
      omega
theorem sumN_zero {f : Nat → Int} : ∀ {k : Nat}, (∀ i, i < k → 0 ≤ f i) → sumN f k = 0 → ∀ i, i < k → f i = 0
  | 0, _, _, i, hi => by omega
  | k + 1, h, hz, i, hi => by
    have hn : 0 ≤ sumN f k := by
      have h1 := sumN_le (f := fun i => - f i) (k := k) (fun i hi => by have := h i (by omega); omega)
      have h2 : ∀ k, sumN (fun i => - f i) k = - sumN f k := fun k => by
        induction k with
        | zero => rfl
        | succ k ih => unfold sumN; rw [ih]; omega
      rw [h2] at h1; omega
    unfold sumN at hz
    have h2 := h k (by omega)
    by_cases he : i = k
    · subst he; omega
    · exact sumN_zero (k := k) (fun i hi => h i (by omega)) (by omega) i (by omega)
/-- A column; whether it is its own; whether it has too little, too much. -/
abbrev ColT : Type := Int × Int
def isU (R : List ColT) (i : Nat) : Bool := (R.getD i (0, 0)).2 == (i : Int)
def smP (T : Int) (R : List ColT) (i : Nat) : Bool := isU R i && decide ((R.getD i (0, 0)).1 < T)
def grP (T : Int) (R : List ColT) (i : Nat) : Bool := decide (T < (R.getD i (0, 0)).1)
def fillS (T : Int) (R : List ColT) (s g : Nat) : List ColT := (R.set s ((R.getD s (0, 0)).1, (g : Int))).set g ((R.getD g (0, 0)).1 - (T - (R.getD s (0, 0)).1), (R.getD g (0, 0)).2)
def stepR (T : Int) (R : List ColT) : List ColT := match firstN (smP T R) R.length, firstN (grP T R) R.length with
  | some s, some g => fillS T R s g
  | _, _ => R
theorem stepR_length (T : Int) (R : List ColT) : (stepR T R).length = R.length := by
  unfold stepR
  split
  · simp [fillS]
  · rfl
theorem cgetD {R : List ColT} {i : Nat} (h : i < R.length) : R.getD i (0, 0) = R[i] := by rw [List.getD_eq_getElem?_getD, List.getElem?_eq_getElem h]; rfl
theorem cset_get (R : List ColT) (s i : Nat) (x : ColT) (hi : i < R.length) : (R.set s x).getD i (0, 0) = if i = s then x else R.getD i (0, 0) := by
  rw [cgetD (by simpa using hi), List.getElem_set]
  by_cases h : s = i
  · rw [if_pos h, if_pos h.symm]
  · rw [if_neg h, if_neg (fun e => h e.symm), cgetD hi]
theorem fill_get {T : Int} {R : List ColT} {s g : Nat} (_ : s < R.length) (_ : g < R.length) (i : Nat) (hi : i < R.length) : (fillS T R s g).getD i (0, 0) = if i = g then ((R.getD g (0, 0)).1 - (T - (R.getD s (0, 0)).1), (R.getD g (0, 0)).2) else if i = s then ((R.getD s (0, 0)).1, (g : Int)) else R.getD i (0, 0) := by
  unfold fillS
  rw [cset_get _ _ _ _ (by simpa using hi), cset_get _ _ _ _ hi]
/-- How much all that are their own have beside the total each; how many they are. -/
def fU (T : Int) (R : List ColT) (i : Nat) : Int := if isU R i = true then (R.getD i (0, 0)).1 - T else 0
def sumU (T : Int) (R : List ColT) : Int := sumN (fU T R) R.length
def cntU (R : List ColT) : Int := sumN (fun i => if isU R i = true then 1 else 0) R.length
structure InvR (T : Int) (R : List ColT) : Prop where
  full : ∀ i, i < R.length → isU R i = false → (R.getD i (0, 0)).1 < T
  sum : sumU T R = 0
  bound : ∀ i, i < R.length → 0 ≤ (R.getD i (0, 0)).1 ∧ (R.getD i (0, 0)).1 ≤ 600
  other : ∀ i, i < R.length → 0 ≤ (R.getD i (0, 0)).2 ∧ (R.getD i (0, 0)).2 < (R.length : Int)
theorem InvR.great {T : Int} {R : List ColT} (h : InvR T R) {s : Nat} (hs : firstN (smP T R) R.length = some s) : ∃ g, firstN (grP T R) R.length = some g := by
  cases hg : firstN (grP T R) R.length with
  | some g => exact ⟨g, rfl⟩
  | none =>
    obtain ⟨h1, h2, _⟩ := firstN_some hs
    have hn := firstN_none hg
    unfold smP at h2
    rw [Bool.and_eq_true, decide_eq_true_eq] at h2
    have := sumN_lt (f := fU T R) (s := s) (k := R.length) (fun i hi => by
      have h3 := hn i hi
      unfold grP at h3
      have h4 : ¬ T < (R.getD i (0, 0)).1 := by simpa using h3
      unfold fU; split <;> omega) h1 (by unfold fU; rw [if_pos h2.1]; omega)
    have h5 := h.sum
    unfold sumU at h5
    omega
theorem InvR.level {T : Int} {R : List ColT} (h : InvR T R) (hs : firstN (smP T R) R.length = none) : ∀ i, i < R.length → isU R i = true → (R.getD i (0, 0)).1 = T := fun i hi hu => by
  have hn := firstN_none hs
  have := sumN_zero (f := fU T R) (k := R.length) (fun j hj => by
    have h3 := hn j hj
    unfold smP at h3
    unfold fU
    split
    · rename_i hj2
      rw [hj2] at h3
      have h4 : ¬ (R.getD j (0, 0)).1 < T := by simpa using h3
      omega
    · omega) h.sum i hi
  unfold fU at this
  rw [if_pos hu] at this
  omega
theorem InvR.facts {T : Int} {R : List ColT} (h : InvR T R) {s g : Nat} (hs : firstN (smP T R) R.length = some s) (hg : firstN (grP T R) R.length = some g) : s < R.length ∧ g < R.length ∧ s ≠ g ∧ isU R s = true ∧ isU R g = true ∧ (R.getD s (0, 0)).1 < T ∧ T < (R.getD g (0, 0)).1 := by
  obtain ⟨h1, h2, _⟩ := firstN_some hs
  obtain ⟨h3, h4, _⟩ := firstN_some hg
  unfold smP at h2
  unfold grP at h4
  rw [Bool.and_eq_true, decide_eq_true_eq] at h2
  rw [decide_eq_true_eq] at h4
  have hne : s ≠ g := fun e => by subst e; omega
  refine ⟨h1, h3, hne, h2.1, ?_, h2.2, h4⟩
  cases hu : isU R g with
  | true => rfl
  | false => have := h.full g h3 hu; omega
theorem fill_isU {T : Int} {R : List ColT} {s g : Nat} (hs : s < R.length) (hg : g < R.length) (hne : s ≠ g) (i : Nat) (hi : i < R.length) : isU (fillS T R s g) i = if i = s then false else isU R i := by
  unfold isU
  rw [fill_get hs hg i hi]
  by_cases h1 : i = g
  · rw [if_pos h1, if_neg (by omega), h1]
  · rw [if_neg h1]
    by_cases h2 : i = s
    · rw [if_pos h2, if_pos h2]
      have : ((g : Int) == (i : Int)) = false := by simp; omega
      exact this
    · rw [if_neg h2, if_neg h2]
theorem fill_length (T : Int) (R : List ColT) (s g : Nat) : (fillS T R s g).length = R.length := by simp [fillS]
theorem InvR.next {T : Int} {R : List ColT} (h : InvR T R) {s g : Nat} (hs : firstN (smP T R) R.length = some s) (hg : firstN (grP T R) R.length = some g) : InvR T (fillS T R s g) ∧ cntU (fillS T R s g) = cntU R - 1 := by
  obtain ⟨h1, h2, hne, hu1, hu2, hl1, hl2⟩ := h.facts hs hg
  have hlen := fill_length T R s g
  have hb1 := h.bound s h1
  have hb2 := h.bound g h2
  refine ⟨⟨fun i hi hu => ?_, ?_, fun i hi => ?_, fun i hi => ?_⟩, ?_⟩
  · rw [hlen] at hi
    rw [fill_isU h1 h2 hne i hi] at hu
    rw [fill_get h1 h2 i hi]
    by_cases e1 : i = g
    · subst e1; rw [if_neg (by omega), hu2] at hu; cases hu
    · rw [if_neg e1]
      by_cases e2 : i = s
      · rw [if_pos e2]; exact hl1
      · rw [if_neg e2]
        rw [if_neg e2] at hu
        exact h.full i hi hu
  · unfold sumU
    rw [hlen]
    have e1 := sumN_upd (f := fU T R) (g := fun i => if i = s then 0 else fU T R i) (s := s) (k := R.length) (fun i _ hn => if_neg hn) h1
    have e2 := sumN_upd (f := fun i => if i = s then 0 else fU T R i) (g := fU T (fillS T R s g)) (s := g) (k := R.length) (fun i hi hn => by
      unfold fU
      rw [fill_isU h1 h2 hne i hi, fill_get h1 h2 i hi, if_neg hn]
      by_cases e : i = s
      · simp [e]
      · simp [e]) h2
    have e3 : fU T (fillS T R s g) g = (R.getD g (0, 0)).1 - (T - (R.getD s (0, 0)).1) - T := by
      have ug : isU (fillS T R s g) g = true := by rw [fill_isU h1 h2 hne g h2, if_neg (show ¬ g = s from fun e => hne e.symm)]; exact hu2
      unfold fU
      rw [if_pos ug, fill_get h1 h2 g h2, if_pos (rfl : g = g)]
    have e4 : fU T R s = (R.getD s (0, 0)).1 - T := by unfold fU; rw [if_pos hu1]
    have e5 : fU T R g = (R.getD g (0, 0)).1 - T := by unfold fU; rw [if_pos hu2]
    have h5 := h.sum
    unfold sumU at h5
    simp only [if_pos] at e1
    rw [if_neg (fun e => hne e.symm)] at e2
    rw [e2, e1, e3, e4, e5, h5]
    omega
  · rw [hlen] at hi
    rw [fill_get h1 h2 i hi]
    split
    · simp only; omega
    · split
      · simp only; omega
      · exact h.bound i hi
  · rw [hlen] at hi
    rw [fill_get h1 h2 i hi, hlen]
    split
    · exact h.other g h2
    · split
      · simp only; omega
      · exact h.other i hi
  · unfold cntU
    rw [hlen]
    have e1 := sumN_upd (f := fun i => if isU R i = true then (1 : Int) else 0) (g := fun i => if isU (fillS T R s g) i = true then (1 : Int) else 0) (s := s) (k := R.length) (fun i hi hn => by simp only [fill_isU h1 h2 hne i hi, if_neg hn]) h1
    simp only [fill_isU h1 h2 hne s h1, if_pos, hu1] at e1
    rw [e1]; simp
/-- The columns behind k fillings. -/
def itR (T : Int) (R : List ColT) : Nat → List ColT
  | 0 => R
  | k + 1 => stepR T (itR T R k)
theorem stepR_none {T : Int} {R : List ColT} (h : firstN (smP T R) R.length = none) : stepR T R = R := by unfold stepR; rw [h]
theorem stepR_some {T : Int} {R : List ColT} {s g : Nat} (hs : firstN (smP T R) R.length = some s) (hg : firstN (grP T R) R.length = some g) : stepR T R = fillS T R s g := by unfold stepR; rw [hs, hg]
theorem itR_stop {T : Int} {R : List ColT} {k : Nat} (h : firstN (smP T (itR T R k)) (itR T R k).length = none) : ∀ j, itR T R (k + j) = itR T R k
  | 0 => rfl
  | j + 1 => by
    show stepR T (itR T R (k + j)) = _
    rw [itR_stop h j, stepR_none h]
theorem cntU_nonneg (R : List ColT) : 0 ≤ cntU R := by
  have h : ∀ k, 0 ≤ sumN (fun i => if isU R i = true then (1 : Int) else 0) k := fun k => by
    induction k with
    | zero => simp [sumN]
    | succ k ih => unfold sumN; split <;> omega
  exact h _
/-- The columns that weights begin with, and end with. -/
def begR (A : List Int) : List ColT := (List.range A.length).map (fun i => (A.getD i 0 * (A.length : Int), (i : Int)))
def aliL (A : List Int) : List ColT := itR A.sum (begR A) A.length
theorem begR_length (A : List Int) : (begR A).length = A.length := by simp [begR]
theorem begR_get {A : List Int} {i : Nat} (h : i < A.length) : (begR A).getD i (0, 0) = (A.getD i 0 * (A.length : Int), (i : Int)) := by
  rw [cgetD (by rw [begR_length]; exact h)]; simp [begR]
theorem itR_length (T : Int) (R : List ColT) : ∀ k, (itR T R k).length = R.length
  | 0 => rfl
  | k + 1 => by show (stepR T _).length = _; rw [stepR_length, itR_length T R k]
theorem sum_getN (A : List Int) : ∀ k, k ≤ A.length → sumN (fun i => A.getD i 0) k = (A.take k).sum
  | 0, _ => by simp [sumN]
  | k + 1, h => by
    unfold sumN
    rw [sum_getN A k (by omega), sum_on (by omega : k < A.length), getD_get (by omega)]
theorem begR_inv {A : List Int} (h : goodW A = true) : InvR A.sum (begR A) ∧ cntU (begR A) = (A.length : Int) := by
  obtain ⟨⟨h1, h2⟩, h3, h4⟩ := goodW_parts h
  have hu : ∀ i, i < A.length → isU (begR A) i = true := fun i hi => by unfold isU; rw [begR_get hi]; simp
  have hwb : ∀ i, i < A.length → 0 ≤ A.getD i 0 ∧ A.getD i 0 ≤ 50 := fun i hi => by rw [getD_get hi]; exact wt_in (List.all_eq_true.1 h3 _ (List.getElem_mem hi))
  refine ⟨⟨fun i hi hf => ?_, ?_, fun i hi => ?_, fun i hi => ?_⟩, ?_⟩
  · rw [begR_length] at hi; rw [hu i hi] at hf; cases hf
  · unfold sumU
    rw [begR_length]
    have e1 : sumN (fU A.sum (begR A)) A.length = sumN (fun i => A.getD i 0 * (A.length : Int) - A.sum) A.length := sumN_congr (fun i hi => by unfold fU; rw [if_pos (hu i hi), begR_get hi])
    have e2 : ∀ (n t : Int) k, sumN (fun i => A.getD i 0 * n - t) k = sumN (fun i => A.getD i 0) k * n - t * (k : Int) := fun n t k => by
      induction k with
      | zero => simp [sumN]
      | succ k ih =>
        unfold sumN
        rw [ih, Int.add_mul, show ((k + 1 : Nat) : Int) = (k : Int) + 1 from rfl, Int.mul_add]
        omega
    rw [e1, e2, sum_getN A A.length (Nat.le_refl _), List.take_length, Int.mul_comm]
    omega
  · rw [begR_length] at hi
    rw [begR_get hi]
    have hw := hwb i hi
    have hn : (A.length : Int) ≤ 12 := by omega
    have hn0 : (0 : Int) ≤ (A.length : Int) := by omega
    refine ⟨Int.mul_nonneg hw.1 hn0, ?_⟩
    have := Int.mul_le_mul hw.2 hn hn0 (by omega)
    simpa using this
  · rw [begR_length] at hi
    rw [begR_get hi, begR_length]
    simp only; omega
  · unfold cntU
    rw [begR_length]
    have e : ∀ k, k ≤ A.length → sumN (fun i => if isU (begR A) i = true then (1 : Int) else 0) k = (k : Int) := fun k => by
      induction k with
      | zero => intro _; rfl
      | succ k ih => intro hk; unfold sumN; rw [ih (by omega), if_pos (hu k (by omega))]; omega
    exact e _ (Nat.le_refl _)
end Go.Proofs.Ytjbhhllfbonaiaa
