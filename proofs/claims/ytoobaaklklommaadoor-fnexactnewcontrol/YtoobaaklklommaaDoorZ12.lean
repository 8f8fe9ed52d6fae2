import Derived.Test.YtoobaaklklommaaDoorZ11
import Derived.Lib.AtoiAll
import Derived.Lib.ItoaNum
namespace Go.Proofs.YtoobaaklklommaaDoor
open Go.RowKit

theorem decDigits_numL (u : Nat) : Lib.decDigits u = numL u := by
  induction u using Nat.strongRecOn with
  | _ u ih =>
    rw [Lib.decDigits, numL]
    by_cases h : u < 10
    · rw [dif_pos h, if_pos h]
    · rw [dif_neg h, if_neg h, ih (u / 10) (by omega)]
theorem digit_of {d : Nat} (h : d < 10) : digB (UInt8.ofNat (48 + d)) = true ∧ (UInt8.ofNat (48 + d)).toNat = 48 + d := by
  have e : (UInt8.ofNat (48 + d)).toNat = 48 + d := by rw [UInt8.toNat_ofNat']; omega
  refine ⟨?_, e⟩
  unfold digB; rw [e, decide_eq_true (by omega), decide_eq_true (by omega)]; rfl
theorem numL_ne (n : Nat) : numL n ≠ [] := by
  rw [numL]; split <;> simp
theorem numL_dig (n : Nat) : (numL n).all digB = true := by
  induction n using Nat.strongRecOn with
  | _ n ih =>
    by_cases h : n < 10
    · rw [numL_small h, List.all_cons, (digit_of h).1]; rfl
    · rw [numL_big h, List.all_append, ih (n / 10) (by omega), List.all_cons, (digit_of (d := n % 10) (by omega)).1]; rfl
theorem decV_app (l : List UInt8) (c : UInt8) : decV (l ++ [c]) = 10 * decV l + (c.toNat - 48) := by
  unfold decV; rw [List.foldl_append]; rfl
theorem decV_numL (n : Nat) : decV (numL n) = n := by
  induction n using Nat.strongRecOn with
  | _ n ih =>
    by_cases h : n < 10
    · rw [numL_small h]
      show 10 * 0 + ((UInt8.ofNat (48 + n)).toNat - 48) = n
      rw [(digit_of h).2]; omega
    · rw [numL_big h, decV_app, ih (n / 10) (by omega), (digit_of (d := n % 10) (by omega)).2]; omega
theorem numL_zero : numL 0 = [48] := by rw [numL_small (by omega)]; rfl
theorem numL_head (n : Nat) (h0 : n ≠ 0) : (numL n).head? ≠ some 48 := by
  induction n using Nat.strongRecOn with
  | _ n ih =>
    by_cases h : n < 10
    · rw [numL_small h]
      intro e
      have e2 := congrArg UInt8.toNat (Option.some.inj e)
      rw [(digit_of h).2] at e2
      have : (48 : UInt8).toNat = 48 := rfl
      omega
    · have := ih (n / 10) (by omega) (by omega)
      rw [numL_big h]
      cases hq : numL (n / 10) with
      | nil => exact absurd hq (numL_ne _)
      | cons a r => rw [hq] at this; exact this
theorem intV_numL {n : Nat} (h : n < 10000000000) : intV (numL n) = (n : Int) := by
  have hl := numL_length 9 n (by omega)
  have h1 : 1 ≤ (numL n).length := List.length_pos_iff.2 (numL_ne n)
  have hz : ¬ ((numL n).head? = some 48 ∧ 1 < (numL n).length) := by
    rintro ⟨ha, hb⟩
    by_cases h0 : n = 0
    · rw [h0, numL_zero] at hb; simp at hb
    · exact numL_head n h0 ha
  unfold intV
  rw [if_pos ⟨h1, hl, hz, numL_dig n⟩, decV_numL]
theorem numL_canon : ∀ (k : Nat) (l : List UInt8), l.length = k → l ≠ [] → l.all digB = true → ¬ (l.head? = some 48 ∧ 1 < l.length) → numL (decV l) = l := by
  intro k
  induction k with
  | zero => intro l hl hn; exact absurd (List.length_eq_zero_iff.1 hl) hn
  | succ k ih =>
    intro l hl hn hd hz
    have hlast := List.dropLast_concat_getLast hn
    have hml : l.dropLast.length = k := by rw [List.length_dropLast, hl]; rfl
    generalize l.getLast hn = c at hlast
    generalize l.dropLast = m at hlast hml
    subst hlast
    rw [List.all_append, Bool.and_eq_true] at hd
    have hc : digB c = true := by simpa using hd.2
    unfold digB at hc
    simp only [Bool.and_eq_true, decide_eq_true_eq] at hc
    have hcc : UInt8.ofNat (48 + (c.toNat - 48)) = c := by
      apply UInt8.toNat_inj.1; rw [UInt8.toNat_ofNat']; have := c.toNat_lt; omega
    rw [decV_app]
    by_cases hm : m = []
    · subst hm
      rw [show decV [] = 0 from rfl, Nat.mul_zero, Nat.zero_add, numL_small (by omega), hcc]; rfl
    · have hmz : m.head? ≠ some 48 := by
        intro e
        apply hz
        refine ⟨?_, ?_⟩
        · cases m with
          | nil => exact absurd rfl hm
          | cons a r => exact e
        · rw [List.length_append]; have := List.length_pos_iff.2 hm; simp; omega
      have hi := ih m hml hm hd.1 (fun h => hmz h.1)
      have hpos : decV m ≠ 0 := by
        intro e; rw [e, numL_zero] at hi; rw [← hi] at hmz; exact hmz rfl
      rw [numL_big (by omega), show (10 * decV m + (c.toNat - 48)) / 10 = decV m by omega, show (10 * decV m + (c.toNat - 48)) % 10 = c.toNat - 48 by omega, hi, hcc]
theorem intV_nat {l : List UInt8} (h : 0 ≤ intV l) : ∃ n : Nat, intV l = (n : Int) ∧ n < 10000000000 ∧ l = numL n := by
  have hr := (intV_range l).2
  unfold intV at h hr ⊢
  split at h
  · rename_i hc
    rw [if_pos hc] at hr ⊢
    refine ⟨decV l, rfl, by omega, ?_⟩
    exact (numL_canon l.length l rfl (by intro e; rw [e] at hc; simp at hc) hc.2.2.2 hc.2.2.1).symm
  · omega
theorem parse_digits : ∀ (l : List UInt8) (acc k : Nat), l.all digB = true → acc < 10 ^ k → k + l.length ≤ 18 → Lib.parseUint10 acc l = .ok (l.foldl (fun n c => 10 * n + (c.toNat - 48)) acc) := by
  intro l
  induction l with
  | nil => intro acc k _ _ _; rfl
  | cons c r ih =>
    intro acc k hd ha hk
    simp only [List.all_cons, Bool.and_eq_true] at hd
    have hc := hd.1
    unfold digB at hc
    simp only [Bool.and_eq_true, decide_eq_true_eq] at hc
    simp only [List.length_cons] at hk
    have hp : 10 ^ k ≤ 10 ^ 17 := Nat.pow_le_pow_right (by omega) (by omega)
    have hp17 : (10 : Nat) ^ 17 = 100000000000000000 := by decide
    rw [Lib.parseUint10, if_pos hc, if_neg (by omega), if_neg (by omega)]
    have e : acc * 10 + (c.toNat - 48) = 10 * acc + (c.toNat - 48) := by omega
    rw [e, ih (10 * acc + (c.toNat - 48)) (k + 1) hd.2 (by rw [Nat.pow_succ]; omega) (by omega)]
    rfl
theorem atoi_num {n : Nat} (h : n < 10000000000) : Lib.atoiAll (numL n) = .ok (n : Int) := by
  have hl := numL_length 9 n (by omega)
  have hd := numL_dig n
  have hv := decV_numL n
  cases hq : numL n with
  | nil => exact absurd hq (numL_ne n)
  | cons c r =>
    rw [hq] at hl hd hv
    have hc : digB c = true := by simp only [List.all_cons, Bool.and_eq_true] at hd; exact hd.1
    unfold digB at hc
    simp only [Bool.and_eq_true, decide_eq_true_eq] at hc
    have hp := parse_digits (c :: r) 0 0 hd (by simp) (by omega)
    rw [show (c :: r).foldl (fun n c => 10 * n + (c.toNat - 48)) 0 = n from hv] at hp
    unfold Lib.atoiAll
    simp only
    rw [if_neg (by omega)]
    unfold Lib.parseMag
    rw [if_neg (by simp), hp]
    simp only
    rw [if_neg (by omega), if_neg (by omega), if_neg (by omega)]
/-- What readNumber tells. -/
def rdNum (l : List UInt8) (m : Int) : Int := if numIn l m = true then intV l else 0
theorem num_yes {l : List UInt8} {n m : Int} (h0 : 0 ≤ n) (h1 : n ≤ m) (hm : m < 10000000000) (he : Lib.itoa n = l) : numIn l m = true ∧ rdNum l m = n := by
  have e : intV l = n := by
    unfold Lib.itoa at he
    rw [if_neg (by omega), decDigits_numL] at he
    rw [← he, intV_numL (by omega)]; omega
  have h : numIn l m = true := by unfold numIn; rw [e, decide_eq_true h0, decide_eq_true h1]; rfl
  exact ⟨h, by unfold rdNum; rw [if_pos h, e]⟩
theorem num_atoi {l : List UInt8} {m : Int} (h : numIn l m = true) : Lib.atoiAll l = .ok (intV l) ∧ 0 ≤ intV l ∧ intV l ≤ m ∧ Lib.itoa (intV l) = l := by
  unfold numIn at h
  simp only [Bool.and_eq_true, decide_eq_true_eq] at h
  obtain ⟨n, e, hn, hl⟩ := intV_nat h.1
  refine ⟨?_, h.1, h.2, ?_⟩
  · rw [e, hl]; exact atoi_num hn
  · rw [e]; unfold Lib.itoa; rw [if_neg (by omega), decDigits_numL]; exact hl.symm
theorem num_no {l : List UInt8} {m : Int} (h : numIn l m = false) : rdNum l m = 0 := by unfold rdNum; rw [h]; rfl
end Go.Proofs.YtoobaaklklommaaDoor
