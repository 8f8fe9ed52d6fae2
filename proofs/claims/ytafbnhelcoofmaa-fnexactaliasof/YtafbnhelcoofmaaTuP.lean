import Derived.Test.YtafbnhelcoofmaaNxI
namespace Go.Proofs.Ytafbnhelcoofmaa
open Go.RowKit

/-- The numbers behind j turns from the beginning; who was picked in m of them. -/
def trnU (A : List Int) : Nat → List Int
  | 0 => zrs A.length
  | j + 1 => nxtL A (trnU A j)
def trnP (A : List Int) (m : Nat) : List Int := (List.range m).map (fun j => (nxtK A (trnU A j) : Int))
theorem trnP_length (A : List Int) (m : Nat) : (trnP A m).length = m := by simp [trnP]
theorem trnP_get (A : List Int) (m k : Nat) (h : k < m) : (trnP A m)[k]'(by rw [trnP_length]; exact h) = (nxtK A (trnU A k) : Int) := by simp [trnP]
theorem trnP_next (A : List Int) (m : Nat) : trnP A (m + 1) = trnP A m ++ [(nxtK A (trnU A m) : Int)] := by
  unfold trnP; rw [List.range_succ, List.map_append]; rfl
theorem sum_add : ∀ (U A : List Int), U.length = A.length → (addZ U A).sum = U.sum + A.sum
  | [], [], _ => by simp [addZ]
  | u :: U, a :: A, h => by
    have ih := sum_add U A (by simpa using h)
    unfold addZ at ih ⊢
    rw [List.zipWith_cons_cons, List.sum_cons, List.sum_cons, List.sum_cons, ih]
    omega
  | [], _ :: _, h => by simp at h
  | _ :: _, [], h => by simp at h
theorem sum_setZ : ∀ (L : List Int) (k : Nat) (x : Int), (h : k < L.length) → (L.set k x).sum = L.sum - L[k] + x
  | [], k, x, h => by simp at h
  | y :: L, 0, x, h => by simp; omega
  | y :: L, k + 1, x, h => by
    have ih := sum_setZ L k x (by simpa using h)
    rw [List.set_cons_succ, List.sum_cons, List.sum_cons, ih, List.getElem_cons_succ]
    omega
theorem sum_nonpos : ∀ (L : List Int), (∀ x ∈ L, x ≤ 0) → L.sum ≤ 0
  | [], _ => by simp
  | x :: L, h => by
    have ih := sum_nonpos L (fun y hy => h y (List.mem_cons_of_mem _ hy))
    have h1 := h x (List.mem_cons_self)
    rw [List.sum_cons]; omega
theorem sum_low : ∀ (L : List Int), (∀ x ∈ L, -600 ≤ x) → -600 * (L.length : Int) ≤ L.sum
  | [], _ => by simp
  | x :: L, h => by
    have ih := sum_low L (fun y hy => h y (List.mem_cons_of_mem _ hy))
    have h1 := h x (List.mem_cons_self)
    rw [List.sum_cons, List.length_cons]; omega
theorem sum_one : ∀ (L : List Int), (∀ x ∈ L, -600 ≤ x) → ∀ x ∈ L, x - 600 * ((L.length : Int) - 1) ≤ L.sum
  | [], _, x, hx => by simp at hx
  | y :: L, h, x, hx => by
    have hL := fun z (hz : z ∈ L) => h z (List.mem_cons_of_mem _ hz)
    rw [List.sum_cons, List.length_cons]
    rcases List.mem_cons.1 hx with rfl | hx
    · have := sum_low L hL; omega
    · have ih := sum_one L hL x hx
      have h1 := h y (List.mem_cons_self)
      omega
/-- Turns from the beginning: as many numbers as weights, together 0, none below -600. -/
def invT (A U : List Int) : Prop := U.length = A.length ∧ U.sum = 0 ∧ ∀ x ∈ U, -600 ≤ x
theorem invT_good {A U : List Int} (hg : goodW A = true) (h : invT A U) : goodT A U = true := by
  obtain ⟨h1, h2, h3⟩ := h
  obtain ⟨⟨h4, h5⟩, _, _⟩ := goodW_parts hg
  unfold goodT
  rw [hg, decide_eq_true h1, decide_eq_true h2]
  have : U.all smB = true := List.all_eq_true.2 fun x hx => by
    have a1 := h3 x hx
    have a2 := sum_one U h3 x hx
    rw [h2] at a2
    have a3 : (U.length : Int) ≤ 12 := by omega
    simp only [smB, inB, Bool.and_eq_true, decide_eq_true_eq]
    omega
  rw [this]; rfl
theorem invT_zero (A : List Int) : invT A (zrs A.length) := by
  refine ⟨by simp [zrs], ?_, fun x hx => ?_⟩
  · have h1 : (zrs A.length).sum ≤ 0 := sum_nonpos _ (fun x hx => by have := (List.mem_replicate.1 hx).2; omega)
    have h2 : ∀ n : Nat, (List.replicate n (0 : Int)).sum = 0 := fun n => by
      induction n with
      | zero => rfl
      | succ n ih => rw [List.replicate_succ, List.sum_cons, ih]; rfl
    exact h2 _
  · have := (List.mem_replicate.1 hx).2; omega
theorem invT_next {A U : List Int} (hg : goodW A = true) (h : invT A U) : invT A (nxtL A U) := by
  obtain ⟨⟨h4, h5⟩, hw, hpos⟩ := goodW_parts hg
  obtain ⟨h1, h2, h3⟩ := h
  have hT := (sum_bound (invT_good hg ⟨h1, h2, h3⟩)).2
  have hlen : (addZ U A).length = U.length := addZ_length h1
  have hb : nxtK A U < (addZ U A).length := by rw [hlen]; exact bestN_lt _ _ (by omega)
  have hS : (addZ U A).sum = A.sum := by rw [sum_add U A h1, h2]; omega
  have hmax : ∀ x ∈ addZ U A, x ≤ (addZ U A).getD (nxtK A U) 0 := fun x hx => by
    obtain ⟨j, hj, rfl⟩ := List.getElem_of_mem hx
    have := bestN_max (addZ U A) U.length j (by omega)
    rw [getD_get hj] at this
    exact this
  have hp : 0 < (addZ U A).getD (nxtK A U) 0 := by
    rcases Int.lt_or_le 0 ((addZ U A).getD (nxtK A U) 0) with h | h
    · exact h
    · have := sum_nonpos (addZ U A) (fun x hx => by have := hmax x hx; omega)
      omega
  refine ⟨nxtL_length h1, ?_, fun x hx => ?_⟩
  · unfold nxtL
    rw [sum_setZ _ _ _ hb, hS, getD_get hb]; omega
  · unfold nxtL at hx
    rcases List.mem_or_eq_of_mem_set hx with h | h
    · obtain ⟨j, hj, rfl⟩ := List.getElem_of_mem h
      rw [addZ_get h1 (by omega : j < U.length)]
      have a1 := h3 _ (List.getElem_mem (by omega : j < U.length))
      have a2 := wt_in (List.all_eq_true.1 hw _ (List.getElem_mem (by omega : j < A.length)))
      omega
    · omega
theorem trnU_inv {A : List Int} (hg : goodW A = true) : ∀ j, invT A (trnU A j)
  | 0 => invT_zero A
  | j + 1 => invT_next hg (trnU_inv hg j)
theorem trnU_good {A : List Int} (hg : goodW A = true) (j : Nat) : goodT A (trnU A j) = true := invT_good hg (trnU_inv hg j)
theorem trnU_ok {A : List Int} (hg : goodW A = true) (j : Nat) : nxtB A (trnU A j) = true := by
  unfold nxtB
  rw [trnU_good hg j, show nxtL A (trnU A j) = trnU A (j + 1) from rfl, trnU_good hg (j + 1)]; rfl
/-- Whether TurnsOf tells, and what. -/
def tuB (A : List Int) (m : Int) : Bool := goodW A && inB m 0 600
def tuL (A : List Int) (m : Int) : List Int := if tuB A m then trnP A m.toNat else []
theorem tuL_len (A : List Int) (m : Int) : (tuL A m).length ≤ 600 := by
  unfold tuL
  split
  · rename_i h
    unfold tuB at h
    rw [Bool.and_eq_true] at h
    have h2 := h.2
    simp only [inB, Bool.and_eq_true, decide_eq_true_eq] at h2
    rw [trnP_length]; omega
  · simp
end Go.Proofs.Ytafbnhelcoofmaa
