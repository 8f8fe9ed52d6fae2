import Derived.Test.YtdmellmmhipncaaGreatDoorZ26
import Derived.Test.YtdmellmmhipncaaGreatDoorZ23
import Derived.Test.YtdmellmmhipncaaGreatDoorZ30
import Derived.Test.YtdmellmmhipncaaGreatDoorZ32
namespace Go.Proofs.YtdmellmmhipncaaGreatDoor
open Go.RowKit

/-- A good record comes back from its text. -/
theorem rec_back {nm d : List UInt8} {ty ttl : Int} (h : recB nm ty ttl d = true) : rrO (recX nm ty ttl d) = some (nm, ty, ttl, d) := by
  have hn := recB_parts h
  obtain ⟨f1, f2, f3, f4⟩ := recB_facts h
  have e1 : ((ty.toNat : Nat) : Int) = ty := by omega
  have e2 : ((ttl.toNat : Nat) : Int) = ttl := by omega
  have i1 : intV (numL ty.toNat) = ty := by rw [intV_numL (by omega)]; exact e1
  have i2 : intV (numL ttl.toNat) = ttl := by rw [intV_numL (by omega)]; exact e2
  have hm : nmOf (if nm = [] then [46] else nm) = nm := by
    unfold nmOf
    by_cases h0 : nm = []
    · rw [if_pos h0, if_pos rfl, h0]
    · rw [if_neg h0]
      by_cases h1 : nm = [46]
      · rw [h1] at hn; exact absurd hn (by decide)
      · rw [if_neg h1]
  unfold recX
  rw [if_pos h]
  have e := rr_split (l := recT nm ty.toNat ttl.toNat d) (p := if nm = [] then [46] else nm) (q := numL ttl.toNat) (t := numL ty.toNat) (r := d) rfl (recT_cut hn)
  rw [hm, i1, i2] at e
  rw [e]
  exact if_pos ⟨h, rfl⟩
theorem nums_len : ∀ b : List UInt8, tot (b.map (fun c => numL c.toNat)) ≤ 11 * b.length
  | [] => by simp [tot]
  | c :: r => by
    have ih := nums_len r
    have h1 := numL_length 10 c.toNat (by have := c.toNat_lt; omega)
    have e : tot ((c :: r).map (fun c => numL c.toNat)) = (numL c.toNat).length + tot (r.map (fun c => numL c.toNat)) := by simp [tot]
    rw [e, List.length_cons]; omega
theorem rdN_small {l : List UInt8} {k : Nat} (h : l.length ≤ k) (hk : k ≤ 4) : rdN l < 4294967296 := by
  have h1 := rdN_lt l l.length (Nat.le_refl _)
  rw [List.take_length] at h1
  have h2 : (256 : Nat) ^ l.length ≤ 256 ^ 4 := Nat.pow_le_pow_right (by omega) (by omega)
  omega
theorem candP_len (k : Int) {b : List UInt8} (hb : b.length ≤ 600) : (candP k b).length ≤ 10000 := by
  unfold candP
  split
  · have h1 := joinD_tot (b.map (fun c => numL c.toNat))
    have h2 := nums_len b
    rw [List.length_map] at h1
    omega
  · split
    · have := nameP_length b; omega
    · split
      · split
        · have h1 := numL_length 10 (rdN b) (by have := rdN_small (l := b) (k := 4) (by omega) (by omega); omega)
          omega
        · simp
      · split
        · split
          · have h1 := numL_length 10 (rdN (b.take 2)) (by have := rdN_small (l := b.take 2) (k := 2) (by rw [List.length_take]; omega) (by omega); omega)
            have h2 := nameP_length (b.drop 2)
            simp only [List.length_append, List.length_cons]; omega
          · simp
        · split
          · rw [List.length_drop]; omega
          · simp
theorem readR_len {k : Int} {b d : List UInt8} (h : readR k b = some d) : d.length ≤ 10000 := by
  unfold readR at h
  split at h
  · rename_i hc
    simp only [Option.some.injEq] at h
    rw [← h]; exact candP_len k hc.1
  · cases h
/-- Data that are read have these bytes. -/
theorem read_back {k : Int} {b z : List UInt8} (h : readR k b = some z) : dataP k z = some b := by
  unfold readR at h
  split at h
  · rename_i hh
    cases h
    exact hh.2
  · cases h
theorem less_swap {a b : Bool} (h : a = !b) : lessI a = - lessI b := by
  subst h; cases b <;> rfl
theorem less_int {x y : Int} (h : x ≠ y) : lessI (decide (y < x)) = - lessI (decide (x < y)) := by
  refine less_swap ?_
  by_cases k : x < y
  · rw [decide_eq_true k, decide_eq_false (by omega)]; rfl
  · rw [decide_eq_false k, decide_eq_true (by omega)]; rfl
theorem cr1 {n1 d1 n2 d2 : List UInt8} {t1 l1 t2 l2 : Int} (h : cmpR (labelsOf n1).reverse (labelsOf n2).reverse ≠ 0) : cmpRec n1 t1 l1 d1 n2 t2 l2 d2 = cmpR (labelsOf n1).reverse (labelsOf n2).reverse := if_pos h
theorem cr2 {n1 d1 n2 d2 : List UInt8} {t1 l1 t2 l2 : Int} (h : cmpR (labelsOf n1).reverse (labelsOf n2).reverse = 0) (ht : t1 ≠ t2) : cmpRec n1 t1 l1 d1 n2 t2 l2 d2 = lessI (decide (t1 < t2)) := (if_neg (fun k => k h)).trans (if_pos ht)
theorem cr3 {n1 d1 n2 d2 : List UInt8} {t1 l1 t2 l2 : Int} (h : cmpR (labelsOf n1).reverse (labelsOf n2).reverse = 0) (ht : t1 = t2) (hd : (dataP t1 d1).getD [] ≠ (dataP t2 d2).getD []) : cmpRec n1 t1 l1 d1 n2 t2 l2 d2 = Lib.compareBytes ((dataP t1 d1).getD []) ((dataP t2 d2).getD []) := ((if_neg (fun k => k h)).trans ((if_neg (fun k => k ht)).trans (if_pos hd))).trans (cb_less hd)
theorem cr4 {n1 d1 n2 d2 : List UInt8} {t1 l1 t2 l2 : Int} (h : cmpR (labelsOf n1).reverse (labelsOf n2).reverse = 0) (ht : t1 = t2) (hd : (dataP t1 d1).getD [] = (dataP t2 d2).getD []) (hl : l1 ≠ l2) : cmpRec n1 t1 l1 d1 n2 t2 l2 d2 = lessI (decide (l1 < l2)) := (if_neg (fun k => k h)).trans ((if_neg (fun k => k ht)).trans ((if_neg (fun k => k hd)).trans (if_pos hl)))
theorem cr5 {n1 d1 n2 d2 : List UInt8} {t1 l1 t2 l2 : Int} (h : cmpR (labelsOf n1).reverse (labelsOf n2).reverse = 0) (ht : t1 = t2) (hd : (dataP t1 d1).getD [] = (dataP t2 d2).getD []) (hl : l1 = l2) : cmpRec n1 t1 l1 d1 n2 t2 l2 d2 = 0 := (if_neg (fun k => k h)).trans ((if_neg (fun k => k ht)).trans ((if_neg (fun k => k hd)).trans (if_neg (fun k => k hl))))
theorem cmpRec_swap (n1 : List UInt8) (t1 l1 : Int) (d1 : List UInt8) (n2 : List UInt8) (t2 l2 : Int) (d2 : List UInt8) : cmpRec n2 t2 l2 d2 n1 t1 l1 d1 = - cmpRec n1 t1 l1 d1 n2 t2 l2 d2 := by
  have hs := cmpR_swap (labelsOf n1).reverse (labelsOf n2).reverse
  by_cases c0 : cmpR (labelsOf n1).reverse (labelsOf n2).reverse = 0
  · have c1 : cmpR (labelsOf n2).reverse (labelsOf n1).reverse = 0 := by omega
    by_cases ht : t1 = t2
    · by_cases hd : (dataP t1 d1).getD [] = (dataP t2 d2).getD []
      · by_cases hl : l1 = l2
        · rw [cr5 c1 ht.symm hd.symm hl.symm, cr5 c0 ht hd hl]; rfl
        · rw [cr4 c1 ht.symm hd.symm (fun k => hl k.symm), cr4 c0 ht hd hl]
          exact less_int hl
      · rw [cr3 c1 ht.symm (fun k => hd k.symm), cr3 c0 ht hd]
        exact cmp_swap _ _
    · rw [cr2 c1 (fun k => ht k.symm), cr2 c0 ht]
      exact less_int ht
  · have c1 : ¬ cmpR (labelsOf n2).reverse (labelsOf n1).reverse = 0 := by omega
    rw [cr1 c1, cr1 c0]
    exact hs
theorem lessI_ne (b : Bool) : lessI b ≠ 0 := by cases b <;> decide
/-- Good records that are neither less are one, and the other way round. -/
theorem cmpRec_zero {n1 d1 n2 d2 : List UInt8} {t1 l1 t2 l2 : Int} (h1 : recB n1 t1 l1 d1 = true) (h2 : recB n2 t2 l2 d2 = true) : cmpRec n1 t1 l1 d1 n2 t2 l2 d2 = 0 ↔ (n1 = n2 ∧ t1 = t2 ∧ l1 = l2 ∧ d1 = d2) := by
  constructor
  · intro h
    by_cases c0 : cmpR (labelsOf n1).reverse (labelsOf n2).reverse = 0
    · by_cases ht : t1 = t2
      · by_cases hd : (dataP t1 d1).getD [] = (dataP t2 d2).getD []
        · by_cases hl : l1 = l2
          · have hn : n1 = n2 := cmpN_zero (x := n1) (y := n2) c0
            have s1 := some_of (recB_name h1).2
            have s2 := some_of (recB_name h2).2
            have b1 := (data_back s1).1
            have b2 := (data_back s2).1
            rw [← hd, ← ht] at b2
            exact ⟨hn, ht, hl, b1.symm.trans b2⟩
          · rw [cr4 c0 ht hd hl] at h; exact absurd h (lessI_ne _)
        · rw [cr3 c0 ht hd] at h; exact absurd ((cb_zero _ _).1 h) hd
      · rw [cr2 c0 ht] at h; exact absurd h (lessI_ne _)
    · rw [cr1 c0] at h; exact absurd h c0
  · rintro ⟨rfl, rfl, rfl, rfl⟩
    have h := cmpRec_swap n1 t1 l1 d1 n1 t1 l1 d1
    omega
theorem cmpRec_vals {n1 d1 n2 d2 : List UInt8} {t1 l1 t2 l2 : Int} : -1 ≤ cmpRec n1 t1 l1 d1 n2 t2 l2 d2 ∧ cmpRec n1 t1 l1 d1 n2 t2 l2 d2 ≤ 1 := by
  have hl : ∀ b, -1 ≤ lessI b ∧ lessI b ≤ 1 := fun b => by cases b <;> decide
  unfold cmpRec
  split
  · rcases cmpR_vals (labelsOf n1).reverse (labelsOf n2).reverse with h | h | h <;> omega
  · split
    · exact hl _
    · split
      · exact hl _
      · split
        · exact hl _
        · omega
end Go.Proofs.YtdmellmmhipncaaGreatDoor
