import Derived.Test.YtfbnigicigajeaaZ08
import Derived.Test.YtfbnigicigajeaaZ09
import Derived.Test.YtfbnigicigajeaaZ07
namespace Go.Proofs.Ytfbnigicigajeaa
open Go.RowKit

/-- A turn that the call owns, or the zero one. -/
def OwnT (w : World) (base : Nat) (va vu : Value) (A U : List Int) : Prop :=
  (va = .slice none 0 0 ∧ vu = .slice none 0 0 ∧ A = [] ∧ U = []) ∨ ∃ g1 c1 g2 c2, va = .slice (some ⟨g1, 0, none⟩) A.length c1 ∧ vu = .slice (some ⟨g2, 0, none⟩) U.length c2 ∧ A.length ≤ c1 ∧ c1 ≤ 9223372036854775807 ∧ U.length ≤ c2 ∧ c2 ≤ 9223372036854775807 ∧ base ≤ g1 ∧ base ≤ g2 ∧ g1 ≠ g2 ∧ ZSRow w g1 A ∧ ZSRow w g2 U
/-- Which blocks a turn lies in. -/
def inT (va vu : Value) (k : Nat) : Prop := va.ownBlock = some k ∨ vu.ownBlock = some k
theorem OwnT.shape {w : World} {base : Nat} {va vu : Value} {A U : List Int} (h : OwnT w base va vu A U) : ∃ a1 c1 a2 c2, va = .slice a1 A.length c1 ∧ vu = .slice a2 U.length c2 := by
  rcases h with ⟨rfl, rfl, rfl, rfl⟩ | ⟨g1, c1, g2, c2, rfl, rfl, _⟩
  · exact ⟨none, 0, none, 0, rfl, rfl⟩
  · exact ⟨_, c1, _, c2, rfl, rfl⟩
theorem OwnT.rows {w : World} {base : Nat} {va vu : Value} {A U : List Int} (h : OwnT w base va vu A U) : ZRow .i64 w va A ∧ ZRow .i64 w vu U := by
  rcases h with ⟨rfl, rfl, rfl, rfl⟩ | ⟨g1, c1, g2, c2, rfl, rfl, h1, h2, h3, h4, _, _, _, s1, s2⟩
  · exact ⟨zrow_nil .i64 w, zrow_nil .i64 w⟩
  · exact ⟨s1.rowc h1 h2, s2.rowc h3 h4⟩
theorem OwnT.kept {w w' : World} {base : Nat} {va vu : Value} {A U : List Int} (h : OwnT w base va vu A U) (hb : Below w.heap.size w w') : OwnT w' base va vu A U := by
  rcases h with h | ⟨g1, c1, g2, c2, rfl, rfl, h1, h2, h3, h4, h5, h6, h7, s1, s2⟩
  · exact .inl h
  · exact .inr ⟨g1, c1, g2, c2, rfl, rfl, h1, h2, h3, h4, h5, h6, h7, s1.kept hb, s2.kept hb⟩
theorem OwnT.kpt {w w' : World} {S : Nat → Prop} {base : Nat} {va vu : Value} {A U : List Int} (h : OwnT w base va vu A U) (hk : Kpt w w' S) (hn : ∀ g, inT va vu g → ¬ S g) : OwnT w' base va vu A U := by
  rcases h with h | ⟨g1, c1, g2, c2, rfl, rfl, h1, h2, h3, h4, h5, h6, h7, s1, s2⟩
  · exact .inl h
  · exact .inr ⟨g1, c1, g2, c2, rfl, rfl, h1, h2, h3, h4, h5, h6, h7, s1.apart hk (hn g1 (.inl rfl)), s2.apart hk (hn g2 (.inr rfl))⟩
theorem OwnT.lt {w : World} {base : Nat} {va vu : Value} {A U : List Int} (h : OwnT w base va vu A U) : ∀ g, inT va vu g → base ≤ g ∧ g < w.heap.size := by
  rcases h with ⟨rfl, rfl, _, _⟩ | ⟨g1, c1, g2, c2, rfl, rfl, _, _, _, _, h5, h6, _, s1, s2⟩
  · intro g hg; rcases hg with h | h <;> cases h
  · intro g hg
    rcases hg with h | h
    · have e : g1 = g := Option.some.inj h
      rw [← e]; exact ⟨h5, s1.1⟩
    · have e : g2 = g := Option.some.inj h
      rw [← e]; exact ⟨h6, s2.1⟩
theorem OwnT.base {w : World} {b b' : Nat} {va vu : Value} {A U : List Int} (h : OwnT w b va vu A U) (hb : b' ≤ b) : OwnT w b' va vu A U := by
  rcases h with h | ⟨g1, c1, g2, c2, rfl, rfl, h1, h2, h3, h4, h5, h6, h7, s1, s2⟩
  · exact .inl h
  · exact .inr ⟨g1, c1, g2, c2, rfl, rfl, h1, h2, h3, h4, Nat.le_trans hb h5, Nat.le_trans hb h6, h7, s1, s2⟩
end Go.Proofs.Ytfbnigicigajeaa

namespace Go.Proofs.Ytfbnigicigajeaa
open Go.RowKit

/-- What a turn comes to: each number and its weight; the first of the greatest. -/
def addZ (U A : List Int) : List Int := List.zipWith (fun u a => u + a) U A
theorem addZ_length {U A : List Int} (h : U.length = A.length) : (addZ U A).length = U.length := by unfold addZ; rw [List.length_zipWith]; omega
theorem addZ_get {U A : List Int} (h : U.length = A.length) {k : Nat} (hk : k < U.length) : (addZ U A)[k]'(by rw [addZ_length h]; exact hk) = U[k] + A[k]'(by omega) := by simp [addZ]
def bestN (L : List Int) : Nat → Nat
  | 0 => 0
  | k + 1 => if L.getD k 0 > L.getD (bestN L k) 0 then k else bestN L k
theorem bestN_le (L : List Int) : ∀ k, bestN L k ≤ k
  | 0 => Nat.le_refl _
  | k + 1 => by
    have := bestN_le L k
    unfold bestN; split <;> omega
theorem bestN_lt (L : List Int) : ∀ k, 0 < k → bestN L k < k
  | 0, h => by omega
  | 1, _ => by show (if L.getD 0 0 > L.getD 0 0 then 0 else 0) < 1; simp
  | k + 2, _ => by
    have := bestN_lt L (k + 1) (by omega)
    show (if L.getD (k + 1) 0 > L.getD (bestN L (k + 1)) 0 then k + 1 else bestN L (k + 1)) < k + 2
    split <;> omega
theorem bestN_max (L : List Int) : ∀ k j, j < k → L.getD j 0 ≤ L.getD (bestN L k) 0
  | 0, j, h => by omega
  | k + 1, j, h => by
    have ih := fun hj => bestN_max L k j hj
    unfold bestN
    by_cases hj : j < k
    · have := ih hj
      split <;> omega
    · obtain rfl : j = k := by omega
      split <;> omega
theorem bestN_first (L : List Int) : ∀ k j, j < bestN L k → L.getD j 0 < L.getD (bestN L k) 0
  | 0, j, h => by simp [bestN] at h
  | k + 1, j, h => by
    unfold bestN at h ⊢
    split at h
    · rename_i hg
      rw [if_pos hg]
      have := bestN_max L k j h
      omega
    · rename_i hg
      rw [if_neg hg]
      exact bestN_first L k j h
/-- The numbers behind a turn, and who is picked. -/
def nxtK (A U : List Int) : Nat := bestN (addZ U A) U.length
def nxtL (A U : List Int) : List Int := (addZ U A).set (nxtK A U) ((addZ U A).getD (nxtK A U) 0 - A.sum)
def nxtB (A U : List Int) : Bool := goodT A U && goodT A (nxtL A U)
theorem nxtL_length {A U : List Int} (h : U.length = A.length) : (nxtL A U).length = A.length := by unfold nxtL; rw [List.length_set, addZ_length h, h]
theorem goodT_parts {A U : List Int} (h : goodT A U = true) : goodW A = true ∧ U.length = A.length ∧ U.all smB = true ∧ U.sum = 0 := by
  unfold goodT at h
  simp only [Bool.and_eq_true, decide_eq_true_eq] at h
  exact ⟨h.1.1.1, h.1.1.2, h.1.2, h.2⟩
theorem goodW_parts {A : List Int} (h : goodW A = true) : (1 ≤ A.length ∧ A.length ≤ 12) ∧ A.all wtB = true ∧ 0 < A.sum := by
  unfold goodW inB at h
  simp only [Bool.and_eq_true, decide_eq_true_eq] at h
  exact ⟨by omega, h.1.2, h.2⟩
theorem wt_sum : ∀ (L : List Int), L.all wtB = true → 0 ≤ L.sum ∧ L.sum ≤ 50 * (L.length : Int)
  | [], _ => by simp
  | x :: l, h => by
    rw [List.all_cons, Bool.and_eq_true] at h
    have h1 := wt_in h.1
    have h2 := wt_sum l h.2
    rw [List.sum_cons, List.length_cons]
    omega
theorem getD_get {L : List Int} {k : Nat} (h : k < L.length) : L.getD k 0 = L[k] := by rw [List.getD_eq_getElem?_getD, List.getElem?_eq_getElem h]; rfl
theorem add_bound {A U : List Int} (h : goodT A U = true) {k : Nat} (hk : k < U.length) : -10000 ≤ (addZ U A).getD k 0 ∧ (addZ U A).getD k 0 ≤ 10050 := by
  obtain ⟨h1, h2, h3, _⟩ := goodT_parts h
  obtain ⟨_, h5, _⟩ := goodW_parts h1
  rw [getD_get (by rw [addZ_length h2]; exact hk), addZ_get h2 hk]
  have a1 := sm_in (List.all_eq_true.1 h3 _ (List.getElem_mem hk))
  have a2 := wt_in (List.all_eq_true.1 h5 _ (List.getElem_mem (by omega : k < A.length)))
  omega
theorem sum_bound {A U : List Int} (h : goodT A U = true) : 0 < A.sum ∧ A.sum ≤ 600 := by
  obtain ⟨h1, h2, h3, _⟩ := goodT_parts h
  obtain ⟨h4, h5, h6⟩ := goodW_parts h1
  have := wt_sum A h5
  omega

set_option maxRecDepth 20000 in
set_option maxHeartbeats 1000000 in
theorem l12Total_any (v : Value) (L : List Int) (w : World) (hr : ZRow .i64 w v L) (hl : L.length ≤ 1048576) (hs : L.all smB = true) :
    Calls Try.prog 31 #[v] w fun e w' => e = .returned (.int .i64 L.sum) ∧ w' = w := by
  obtain ⟨a, cap, rfl, hcap, hmax, HROW⟩ := zrow_value hr
  clear hr
  have HS : Hid (L.all smB = true) := hs
  clear hs
  go_enter Try.func31, Try.ntmps31
  go_wp2_with fail
  go_loopw [3, 8] (fun s i wr => ∃ k : Nat, k ≤ L.length ∧ i = .int .i64 (k : Int) ∧ s = .int .i64 (L.take k).sum ∧ wr = w) (fun _ i _ => L.length - (intOf i).toNat)
  case atStart => exact ⟨0, Nat.zero_le _, rfl, rfl, rfl⟩
  case round =>
    obtain ⟨k, hk, rfl, rfl, rfl⟩ := hrel
    by_cases hlt : k < L.length
    · obtain ⟨b, o, ha, hbl, hc⟩ := HROW.out (by omega)
      rw [ha]
      have hcx := hc k hlt
      have HN : Hid ((L.take (k + 1)).sum = (L.take k).sum + L[k]'hlt) := sum_on hlt
      have hx1 := sm_in (List.all_eq_true.1 HS.out _ (List.getElem_mem hlt))
      have hs1 := sm_sum (L.take k) (take_sm k HS.out)
      rw [List.length_take, Nat.min_eq_left hk] at hs1
      obtain ⟨x, hx⟩ : ∃ x, x = L[k]'hlt := ⟨_, rfl⟩
      rw [← hx] at hcx HN hx1
      obtain ⟨s, hse⟩ : ∃ s, s = (L.take k).sum := ⟨_, rfl⟩
      rw [← hse] at HN hs1 ⊢
      clear hc hx hse
      go_wp2_with fail
      go_roundw
      case rel => exact ⟨k + 1, by omega, by go_num, by rw [HN.out], by trivial⟩
      case measure => simp [intOf]; omega
    · have HE : Hid ((L.take k).sum = L.sum) := by show _ = _; rw [List.take_of_length_le (by omega)]
      rw [HE.out]
      obtain ⟨s, hse⟩ : ∃ s, s = L.sum := ⟨_, rfl⟩
      rw [← hse]
      have HSE : Hid (s = L.sum) := hse
      clear hse
      go_wp2_with fail
      go_ret
      exact ⟨ret_intY (by first | exact HSE.out | exact HSE.out.symm | rfl), rfl⟩

set_option maxRecDepth 20000 in
set_option maxHeartbeats 1000000 in
/-- The first place of a number that is there. -/
theorem indexZ_any (v : Value) (L : List Int) (x : Int) (p : Nat) (w : World) (hr : ZRow .i64 w v L) (hl : L.length ≤ 1048576) (hp : p < L.length) (hx : L.getD p 0 = x) (hf : ∀ j, j < p → L.getD j 0 < x) :
    Calls Try.prog 23 #[v, .int .i64 x] w fun e w' => e = .returned (.int .i64 (p : Int)) ∧ w' = w := by
  obtain ⟨a, cap, rfl, hcap, hmax, HROW⟩ := zrow_value hr
  obtain ⟨b, o, ha, hbl, hc⟩ := HROW.out (by omega)
  subst ha
  have HC : Hid (∀ j, (hj : j < L.length) → w.cell? ⟨b, o + j, none⟩ = some (.int .i64 (L.getD j 0))) := fun j hj => by rw [getD_get hj]; exact hc j hj
  have HF : Hid (∀ j, j < p → L.getD j 0 < x) := hf
  have HX : Hid (L.getD p 0 = x) := hx
  clear hr hc hx hf HROW
  go_enter Try.func23, Try.ntmps23
  go_wp2_with fail
  go_loopw [8] (fun i wr => ∃ k : Nat, k ≤ p ∧ i = .int .i64 (k : Int) ∧ wr = w) (fun i _ => L.length - (intOf i).toNat)
  case atStart => exact ⟨0, Nat.zero_le _, rfl, rfl⟩
  case round =>
    obtain ⟨k, hk, rfl, rfl⟩ := hrel
    have hkl : k < L.length := by omega
    have hcx := HC.out k hkl
    by_cases he : k = p
    · subst he
      rw [HX.out] at hcx
      have e1 : (x == x) = true := by simp
      go_wp2_with fail
      go_ret
      exact ⟨rfl, rfl⟩
    · have hlt := HF.out k (by omega)
      obtain ⟨y, hy⟩ : ∃ y, y = L.getD k 0 := ⟨_, rfl⟩
      rw [← hy] at hcx hlt
      have hki : (k : Int) < (L.length : Int) := by omega
      have hkp : k + 1 ≤ p := by omega
      have e1 : (x == y) = false := by simp; omega
      clear hy he hk
      go_wp2_with fail
      go_roundw
      case rel => exact ⟨k + 1, hkp, by go_num, by trivial⟩
      case measure => simp [intOf]; omega

set_option maxRecDepth 20000 in
set_option maxHeartbeats 1000000 in
theorem maxZ_any (v : Value) (L : List Int) (w : World) (hr : ZRow .i64 w v L) (hl : L.length ≤ 1048576) (hp : 0 < L.length) :
    Calls Try.prog 24 #[v] w fun e w' => e = .returned (.int .i64 (L.getD (bestN L L.length) 0)) ∧ w' = w := by
  obtain ⟨a, cap, rfl, hcap, hmax, HROW⟩ := zrow_value hr
  obtain ⟨b, o, ha, hbl, hc⟩ := HROW.out (by omega)
  subst ha
  have HC : Hid (∀ j, (hj : j < L.length) → w.cell? ⟨b, o + j, none⟩ = some (.int .i64 (L.getD j 0))) := fun j hj => by rw [getD_get hj]; exact hc j hj
  have h0 : w.cell? ⟨b, o, none⟩ = some (.int .i64 (L.getD 0 0)) := HC.out 0 hp
  have HB1 : Hid (L.getD 0 0 = L.getD (bestN L 1) 0) := by show _ = _; simp [bestN]
  obtain ⟨y0, hy0⟩ : ∃ y, y = L.getD 0 0 := ⟨_, rfl⟩
  rw [← hy0] at h0 HB1
  have hnn : ¬ ((L.length : Int) < 1) := by omega
  clear hr hc HROW hy0
  go_enter Try.func24, Try.ntmps24
  go_wp2_with fail
  go_loopw [3, 4] (fun m i wr => ∃ k : Nat, 1 ≤ k ∧ k ≤ L.length ∧ i = .int .i64 (k : Int) ∧ (∃ y, m = .int .i64 y ∧ Hid (y = L.getD (bestN L k) 0)) ∧ wr = w) (fun _ i _ => L.length - (intOf i).toNat)
  case atStart => exact ⟨1, Nat.le_refl _, hp, rfl, ⟨y0, rfl, HB1⟩, rfl⟩
  case round =>
    obtain ⟨k, hk1, hk, rfl, ⟨y, rfl, HY⟩, rfl⟩ := hrel
    clear h0 HB1
    by_cases hlt : k < L.length
    · have hcx := HC.out k hlt
      have HN : Hid (L.getD (bestN L (k + 1)) 0 = if L.getD k 0 > L.getD (bestN L k) 0 then L.getD k 0 else L.getD (bestN L k) 0) := by
        show _ = _
        rw [show bestN L (k + 1) = if L.getD k 0 > L.getD (bestN L k) 0 then k else bestN L k from rfl]
        split <;> rfl
      rw [← HY.out] at HN
      obtain ⟨x, hx⟩ : ∃ x, x = L.getD k 0 := ⟨_, rfl⟩
      rw [← hx] at hcx HN
      have hki : (k : Int) < (L.length : Int) := by omega
      clear hx HY
      by_cases hg : y < x
      · have HE : Hid (x = L.getD (bestN L (k + 1)) 0) := by show _ = _; rw [HN.out, if_pos hg]
        have hmx : max y x = x := by omega
        clear HN
        go_wp2_with fail
        go_roundw
        case rel => exact ⟨k + 1, by omega, by omega, by go_num, ⟨x, by first | rfl | (simp [hmx]; done) | (congr 1; omega), HE⟩, by trivial⟩
        case measure => simp [intOf]; omega
      · have HE : Hid (y = L.getD (bestN L (k + 1)) 0) := by show _ = _; rw [HN.out, if_neg hg]
        have hmx : max y x = y := by omega
        clear HN
        go_wp2_with fail
        go_roundw
        case rel => exact ⟨k + 1, by omega, by omega, by go_num, ⟨y, by first | rfl | (simp [hmx]; done) | (congr 1; omega), HE⟩, by trivial⟩
        case measure => simp [intOf]; omega
    · have HE : Hid (k = L.length) := by show _ = _; omega
      have HYY : Hid (L.getD (bestN L L.length) 0 = y) := by rw [← HE.out]; exact HY.out.symm
      go_wp2_with fail
      go_ret
      exact ⟨ret_intY HYY.out.symm, rfl⟩
end Go.Proofs.Ytfbnigicigajeaa
