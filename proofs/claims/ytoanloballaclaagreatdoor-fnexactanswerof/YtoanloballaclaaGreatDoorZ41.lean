import Derived.Test.YtoanloballaclaaGreatDoorZ39
import Derived.Test.YtoanloballaclaaGreatDoorZ40
import Derived.Test.YtoanloballaclaaGreatDoorZ38
namespace Go.Proofs.YtoanloballaclaaGreatDoor
open Go.RowKit

theorem cnt_none {T : Int} {R : List ColT} (h : cntU R = 0) : firstN (smP T R) R.length = none := by
  have hz : ∀ i, i < R.length → (if isU R i = true then (1 : Int) else 0) = 0 := sumN_zero (fun i _ => by split <;> omega) h
  cases hf : firstN (smP T R) R.length with
  | none => rfl
  | some s =>
    obtain ⟨h1, h2, _⟩ := firstN_some hf
    unfold smP at h2
    rw [Bool.and_eq_true] at h2
    have := hz s h1
    rw [if_pos h2.1] at this
    cases this
theorem itR_inv {T : Int} {R : List ColT} (h : InvR T R) : ∀ k : Nat, InvR T (itR T R k) ∧ (firstN (smP T (itR T R k)) (itR T R k).length = none ∨ cntU (itR T R k) = cntU R - (k : Int))
  | 0 => ⟨h, .inr (by simp [itR])⟩
  | k + 1 => by
    obtain ⟨hi, hc⟩ := itR_inv h k
    show InvR T (stepR T (itR T R k)) ∧ (firstN (smP T (stepR T (itR T R k))) (stepR T (itR T R k)).length = none ∨ cntU (stepR T (itR T R k)) = cntU R - ((k + 1 : Nat) : Int))
    cases hs : firstN (smP T (itR T R k)) (itR T R k).length with
    | none => rw [stepR_none hs]; exact ⟨hi, .inl hs⟩
    | some s =>
      obtain ⟨g, hg⟩ := hi.great hs
      obtain ⟨h1, h2⟩ := hi.next hs hg
      rw [stepR_some hs hg]
      refine ⟨h1, .inr ?_⟩
      rcases hc with hc | hc
      · rw [hs] at hc; cases hc
      · rw [h2, hc]; omega
/-- Where no column has too little none has too much. -/
theorem ali_fit {A : List Int} (h : goodW A = true) : fitA A.sum (aliL A) = true := by
  obtain ⟨hb, hcn⟩ := begR_inv h
  obtain ⟨hi, hc⟩ := itR_inv hb A.length
  have hn : firstN (smP A.sum (aliL A)) (aliL A).length = none := by
    rcases hc with hc | hc
    · exact hc
    · refine cnt_none ?_
      show cntU (itR A.sum (begR A) A.length) = 0
      rw [hc, hcn]; omega
  have hl : (aliL A).length = A.length := by unfold aliL; rw [itR_length, begR_length]
  have hiv : InvR A.sum (aliL A) := hi
  obtain ⟨⟨h1, h2⟩, h3, h4⟩ := goodW_parts h
  have hsum := sm_sum A (all_sm h3)
  have hs600 : A.sum ≤ 600 := by
    have : ∀ B : List Int, B.all wtB = true → B.sum ≤ 50 * (B.length : Int) := fun B => by
      induction B with
      | nil => intro _; simp
      | cons x r ih =>
        intro hb
        rw [List.all_cons, Bool.and_eq_true] at hb
        have e1 := wt_in hb.1
        have e2 := ih hb.2
        rw [List.sum_cons, List.length_cons]; omega
    have e := this A h3
    omega
  have hcol : ∀ i, (hi : i < (aliL A).length) → 0 ≤ ((aliL A)[i]).1 ∧ ((aliL A)[i]).1 ≤ A.sum ∧ 0 ≤ ((aliL A)[i]).2 ∧ ((aliL A)[i]).2 ≤ ((aliL A).length : Int) - 1 := fun i hi => by
    have e1 := hiv.bound i hi
    have e2 := hiv.other i hi
    rw [cgetD hi] at e1 e2
    refine ⟨e1.1, ?_, e2.1, by omega⟩
    cases hu : isU (aliL A) i with
    | true =>
      have e3 := hiv.level hn i hi hu
      rw [cgetD hi] at e3
      omega
    | false =>
      have e3 := hiv.full i hi hu
      rw [cgetD hi] at e3
      omega
  unfold fitA goodA
  simp only [Bool.and_eq_true, inB, decide_eq_true_eq]
  refine ⟨⟨List.all_eq_true.2 fun x hx => ?_, ⟨by omega, by omega⟩, List.all_eq_true.2 fun x hx => ?_⟩, by omega, hs600⟩
  · obtain ⟨i, hi, rfl⟩ := List.getElem_of_mem hx
    simpa [mostB] using (hcol i hi).2.1
  · obtain ⟨i, hi, rfl⟩ := List.getElem_of_mem hx
    have e := hcol i hi
    simp only [colB, inB, Bool.and_eq_true, decide_eq_true_eq]
    omega
theorem ali_length (A : List Int) : (aliL A).length = A.length := by unfold aliL; rw [itR_length, begR_length]
theorem ali_facts {A : List Int} (h : goodW A = true) : 1 ≤ A.sum ∧ A.sum ≤ 600 ∧ 1 ≤ A.length ∧ A.length ≤ 12 := by
  have h1 := fit_facts (ali_fit h)
  obtain ⟨⟨h2, h3⟩, _⟩ := goodW_parts h
  omega
/-- Who is picked lies among them. -/
theorem pk_in {A : List Int} (h : goodW A = true) {d : Int} (h0 : 0 ≤ d) (h1 : d ≤ (A.length : Int) * A.sum - 1) : ∃ k : Nat, k < A.length ∧ pkV (aliL A) A.sum d = .tuple #[.int .i64 (k : Int), .bool true] := by
  have hf := ali_fit h
  have hb : pkB (aliL A) A.sum d = true := by
    unfold pkB
    rw [hf, ali_length]
    simp only [inB, Bool.and_eq_true, decide_eq_true_eq]
    exact ⟨trivial, h0, h1⟩
  obtain ⟨_, _, _, _, _, k, hk, he, _, _⟩ := pk_facts hb
  rw [pk_at hb hk he]
  split
  · exact ⟨k, by rw [ali_length] at hk; exact hk, rfl⟩
  · have hc : colB (aliL A).length (aliL A)[k] = true := by
      unfold fitA goodA at hf
      simp only [Bool.and_eq_true] at hf
      exact List.all_eq_true.1 hf.1.2.2 _ (List.getElem_mem hk)
    simp only [colB, inB, Bool.and_eq_true, decide_eq_true_eq] at hc
    rw [ali_length] at hc
    exact ⟨((aliL A)[k]).2.toNat, by omega, by rw [Int.toNat_of_nonneg (by omega)]⟩
/-- The candidates' weights. -/
def wtsL (L : List TgtT) (C : List Int) : List Int := C.map (fun c => (L.getD c.toNat ([], [], 0, 0)).2.2.2)
theorem wtsL_length (L : List TgtT) (C : List Int) : (wtsL L C).length = C.length := by simp [wtsL]
theorem wtsL_get {L : List TgtT} {C : List Int} {j i : Nat} (hj : j < C.length) (hi : i < L.length) (e : C[j] = (i : Int)) : (wtsL L C)[j]'(by rw [wtsL_length]; exact hj) = (L[i]).2.2.2 := by
  simp only [wtsL, List.getElem_map, e, Int.toNat_natCast, tgetD hi]
theorem wtsL_snoc {L : List TgtT} {C : List Int} {j i : Nat} (hj : j < C.length) (hi : i < L.length) (e : C[j] = (i : Int)) : wtsL L (C.take (j + 1)) = wtsL L (C.take j) ++ [(L[i]).2.2.2] := by
  unfold wtsL
  rw [List.take_succ_eq_append_getElem hj, List.map_append]
  simp only [List.map_cons, List.map_nil, e, Int.toNat_natCast, tgetD hi]
theorem wts_good {nm : List UInt8} {L : List TgtT} {C : List Int} (hp : polB nm L = true) (hne : C ≠ []) (hl : C.length ≤ L.length) (hm : ∀ x ∈ C, ∃ i : Nat, ∃ _ : i < L.length, x = (i : Int)) : goodW (wtsL L C) = true := by
  obtain ⟨_, h1, h2, h3⟩ := pol_parts hp
  have hw : ∀ x ∈ wtsL L C, 1 ≤ x ∧ x ≤ 50 := fun x hx => by
    unfold wtsL at hx
    obtain ⟨c, hc, rfl⟩ := List.mem_map.1 hx
    obtain ⟨i, hi, rfl⟩ := hm c hc
    rw [Int.toNat_natCast, tgetD hi]
    have := tgt_parts (h3 _ (List.getElem_mem hi))
    omega
  have hs : ∀ B : List Int, (∀ x ∈ B, 1 ≤ x ∧ x ≤ 50) → (B.length : Int) ≤ B.sum := fun B => by
    induction B with
    | nil => intro _; simp
    | cons x r ih =>
      intro hb
      have e1 := hb x (by simp)
      have e2 := ih (fun y hy => hb y (by simp [hy]))
      rw [List.sum_cons, List.length_cons]; omega
  have hs1 := hs _ hw
  have hpos : 0 < C.length := List.length_pos_iff.2 hne
  have hwl := wtsL_length L C
  unfold goodW
  simp only [Bool.and_eq_true, inB, decide_eq_true_eq]
  refine ⟨⟨⟨by omega, by omega⟩, List.all_eq_true.2 fun x hx => ?_⟩, by omega⟩
  have := hw x hx
  simp only [wtB, inB, Bool.and_eq_true, decide_eq_true_eq]; omega
/-- The candidate that a draw picks. -/
def chK (W : List Int) (d : Int) : Nat := (pkN (aliL W) W.sum (d.tmod ((W.length : Int) * W.sum))).toNat
theorem ch_at {W : List Int} (h : goodW W = true) {d : Int} (h0 : 0 ≤ d) : chK W d < W.length ∧ pkV (aliL W) W.sum (d.tmod ((W.length : Int) * W.sum)) = .tuple #[.int .i64 (chK W d : Int), .bool true] ∧ 1 ≤ (W.length : Int) * W.sum ∧ (W.length : Int) * W.sum ≤ 7200 := by
  obtain ⟨h1, h2, h3, h4⟩ := ali_facts h
  have hm := mul_small (n := (W.length : Int)) h1 h2 (by omega) (by omega)
  have hm1 : 1 ≤ (W.length : Int) * W.sum := by
    have := Int.mul_le_mul (show (1 : Int) ≤ (W.length : Int) by omega) h1 (by omega) (by omega)
    omega
  have d0 : 0 ≤ d.tmod ((W.length : Int) * W.sum) := by rw [Int.tmod_eq_emod_of_nonneg h0]; exact Int.emod_nonneg _ (by omega)
  have d1 : d.tmod ((W.length : Int) * W.sum) ≤ (W.length : Int) * W.sum - 1 := by
    rw [Int.tmod_eq_emod_of_nonneg h0]
    have := Int.emod_lt_of_pos d (show 0 < (W.length : Int) * W.sum by omega)
    omega
  obtain ⟨k, hk, he⟩ := pk_in h d0 d1
  have hkk : chK W d = k := by
    unfold chK
    have hb : pkB (aliL W) W.sum (d.tmod ((W.length : Int) * W.sum)) = true := by
      unfold pkV at he
      cases hb : pkB (aliL W) W.sum (d.tmod ((W.length : Int) * W.sum)) with
      | true => rfl
      | false => rw [hb] at he; simp at he
    unfold pkV at he
    rw [hb, if_pos rfl] at he
    have : pkN (aliL W) W.sum (d.tmod ((W.length : Int) * W.sum)) = (k : Int) := by simpa using he
    rw [this]; rfl
  rw [hkk]
  exact ⟨hk, he, hm1, hm.2⟩
end Go.Proofs.YtoanloballaclaaGreatDoor
