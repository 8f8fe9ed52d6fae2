import Derived.Test.YtoopfmebpjojiaaDoorHeY
import Derived.Test.YtoopfmebpjojiaaDoorLPrbS
namespace Go.Proofs.YtoopfmebpjojiaaDoor
open Go.RowKit

/-- Probes taken one by one: the hosts behind them, and how often one changed; none where a number is of no host. -/
def plF (ri fa : Int) (L : List HosT) (c : Int) : List PrbT → Option (List HosT × Int)
  | [] => some (L, c)
  | p :: Q => if inB p.1 0 ((L.length : Int) - 1) = true then plF ri fa (tkL ri fa L p.1.toNat p.2) (if tkC ri fa L p.1.toNat p.2 = true then c + 1 else c) Q else none
def plStep (ri fa : Int) (x : List HosT × Int) (p : PrbT) : Option (List HosT × Int) := if inB p.1 0 ((x.1.length : Int) - 1) = true then some (tkL ri fa x.1 p.1.toNat p.2, if tkC ri fa x.1 p.1.toNat p.2 = true then x.2 + 1 else x.2) else none
theorem plF_snoc (ri fa : Int) : ∀ (Q : List PrbT) (L : List HosT) (c : Int) (p : PrbT), plF ri fa L c (Q ++ [p]) = (plF ri fa L c Q).bind (fun x => plStep ri fa x p)
  | [], L, c, p => by
    simp only [List.nil_append, plF, Option.bind_some, plStep]
  | q :: Q, L, c, p => by
    simp only [List.cons_append, plF]
    split
    · exact plF_snoc ri fa Q _ _ p
    · rfl
theorem plF_none (ri fa : Int) : ∀ (Q R : List PrbT) (L : List HosT) (c : Int), plF ri fa L c Q = none → plF ri fa L c (Q ++ R) = none
  | [], R, L, c, h => by simp [plF] at h
  | q :: Q, R, L, c, h => by
    simp only [List.cons_append, plF] at h ⊢
    split
    · rename_i hi
      rw [if_pos hi] at h
      exact plF_none ri fa Q R _ _ h
    · rfl
theorem plF_next {ri fa : Int} {L : List HosT} {Q : List PrbT} {k : Nat} (hk : k < Q.length) {M : List HosT} {c : Int} (h : plF ri fa L 0 (Q.take k) = some (M, c)) (hi : inB Q[k].1 0 ((M.length : Int) - 1) = true) : plF ri fa L 0 (Q.take (k + 1)) = some (tkL ri fa M Q[k].1.toNat Q[k].2, if tkC ri fa M Q[k].1.toNat Q[k].2 = true then c + 1 else c) := by
  rw [List.take_succ_eq_append_getElem hk, plF_snoc, h]
  simp only [Option.bind_some, plStep]
  rw [if_pos hi]
theorem plF_stop {ri fa : Int} {L : List HosT} {Q : List PrbT} {k : Nat} (hk : k < Q.length) {M : List HosT} {c : Int} (h : plF ri fa L 0 (Q.take k) = some (M, c)) (hi : inB Q[k].1 0 ((M.length : Int) - 1) = false) : plF ri fa L 0 Q = none := by
  have h1 : plF ri fa L 0 (Q.take (k + 1)) = none := by
    rw [List.take_succ_eq_append_getElem hk, plF_snoc, h]
    simp only [Option.bind_some, plStep]
    rw [hi]; rfl
  have h2 := plF_none ri fa (Q.take (k + 1)) (Q.drop (k + 1)) L 0 h1
  rwa [List.take_append_drop] at h2
theorem nm_tk (ri fa : Int) (L : List HosT) (k : Nat) (fi : Bool) : nmL (tkL ri fa L k fi) = nmL L := by
  unfold tkL nmL
  apply List.ext_getElem
  · simp
  · intro j h1 h2
    simp only [List.getElem_map, List.getElem_set]
    split
    · rename_i e
      subst e
      have hj : k < L.length := by simpa using h2
      rw [getD_at hj]
      unfold tkH
      split
      · rfl
      · split <;> rfl
    · rfl
theorem row_tk {ri fa : Int} {x : HosT} (fi : Bool) (h1 : inB ri 1 10 = true) (h2 : inB fa 1 10 = true) (hx : rowB ri fa x = true) : rowB ri fa (tkH ri fa x fi).1 = true := by
  have hm : ∀ u, 1 ≤ mostH ri fa u := fun u => (most_in h1 h2).1
  obtain ⟨n, u, r⟩ := x
  simp only [rowB, inB, Bool.and_eq_true, decide_eq_true_eq] at hx ⊢
  unfold tkH
  split
  · have := hm u; simp only; omega
  · split
    · rename_i h; simp only at h ⊢; omega
    · have := hm (!u); simp only; omega
theorem good_tk {ri fa : Int} {L : List HosT} (k : Nat) (fi : Bool) (h : goodH ri fa L = true) : goodH ri fa (tkL ri fa L k fi) = true := by
  unfold goodH at h ⊢
  rw [nm_tk]
  simp only [Bool.and_eq_true] at h ⊢
  obtain ⟨⟨⟨h1, h2⟩, h3⟩, h4⟩ := h
  refine ⟨⟨⟨h1, h2⟩, ?_⟩, h4⟩
  rw [List.all_eq_true] at h3 ⊢
  intro x hx
  unfold tkL at hx
  by_cases hk : k < L.length
  · rcases List.mem_or_eq_of_mem_set hx with h | h
    · exact h3 x h
    · rw [h, getD_at hk]; exact row_tk fi h1 h2 (h3 _ (List.getElem_mem hk))
  · rw [List.set_eq_of_length_le (by omega)] at hx
    exact h3 x hx
theorem hl_at {L : List HosT} {R : List Int} {k : Nat} (hk : k < L.length) (hR : R.length = L.length) : (hlL L R)[k]'(by rw [hlL_length L R hR]; exact hk) = (L[k].1, L[k].2.1, R[k]'(by omega)) := by simp [hlL]
theorem hl_set2 (L : List HosT) (R : List Int) (k : Nat) (y : HosT) (r : Int) : hlL (L.set k y) (R.set k r) = (hlL L R).set k (y.1, y.2.1, r) := by
  apply List.ext_getElem
  · simp [hlL]
  · intro j h1 h2
    simp only [hlL, List.getElem_zipWith, List.getElem_set]
    split <;> rfl
/-- One probe taken with the rows apart is one probe taken. -/
theorem wt_tk2 {ri fa : Int} {L : List HosT} {R : List Int} {k : Nat} (fi : Bool) (hk : k < L.length) (hR : R.length = L.length) : hlL (wtL ri fa L R k fi).1 (wtL ri fa L R k fi).2.1 = tkL ri fa (hlL L R) k fi ∧ (wtL ri fa L R k fi).2.2 = tkC ri fa (hlL L R) k fi := by
  have hk2 : k < (hlL L R).length := by rw [hlL_length L R hR]; exact hk
  rw [tkL_at hk2, tkC_at hk2, hl_at hk hR]
  unfold wtL
  rw [getD_at hk, rgetD_at (by omega : k < R.length)]
  have hsame := hl_set2 L R k L[k]
  rw [List.set_getElem_self] at hsame
  obtain ⟨x, hx⟩ : ∃ x, x = L[k] := ⟨_, rfl⟩
  have hset := hl_set2 L R k
  rw [← hx] at hsame ⊢
  obtain ⟨r, hr⟩ : ∃ r, r = R[k]'(by omega) := ⟨_, rfl⟩
  rw [← hr]
  obtain ⟨n, u, r0⟩ := x
  simp only at hsame ⊢
  by_cases h1 : (fi == u) = true
  · rw [if_pos h1]
    have hfu : fi = u := by simpa using h1
    subst hfu
    rw [tkH_same]
    exact ⟨hsame 0, rfl⟩
  · have h1' : (fi == u) = false := by simpa using h1
    rw [if_neg h1]
    by_cases h2 : r + 1 < mostH ri fa u
    · rw [if_pos h2, tkH_less n h1' h2]
      exact ⟨hsame (r + 1), rfl⟩
    · rw [if_neg h2, tkH_turn n h1' h2]
      refine ⟨?_, rfl⟩
      have h3 := hset (n, fi, r0) 0
      have h4 : fi = !u := by cases fi <;> cases u <;> simp_all
      rw [← h4]
      exact h3
/-- Whether PlayProbes tells; what. -/
def plB (ri fa : Int) (P : List (List UInt8)) (Q : List PrbT) : Bool := newB ri fa P && decide (Q.length ≤ 200) && (plF ri fa (newL P) 0 Q).isSome
def plV (ri fa : Int) (P : List (List UInt8)) (Q : List PrbT) : List HosT × Int := (plF ri fa (newL P) 0 Q).getD ([], 0)
/-- Health, a number and a bool, told. -/
def PAnsH (w' : World) (base : Nat) (ok : Bool) (ri fa c : Int) (L : List HosT) (e : Ending) : Prop := ∃ v, e = .returned (.tuple #[HeaV (if ok then ri else 0) (if ok then fa else 0) v, .int .i64 (if ok then c else 0), .bool ok]) ∧ OwnH w' base v (if ok then L else [])
theorem plF_length {ri fa : Int} : ∀ (Q : List PrbT) (L : List HosT) (c : Int) (M : List HosT) (d : Int), plF ri fa L c Q = some (M, d) → M.length = L.length ∧ c ≤ d ∧ d ≤ c + Q.length
  | [], L, c, M, d, h => by simp [plF] at h; obtain ⟨rfl, rfl⟩ := h; simp
  | q :: Q, L, c, M, d, h => by
    simp only [plF] at h
    split at h
    · have ih := plF_length Q _ _ M d h
      rw [tkL_length] at ih
      refine ⟨ih.1, ?_, ?_⟩
      · have := ih.2.1; split at this <;> omega
      · have := ih.2.2; simp only [List.length_cons]; split at this <;> omega
    · cases h
end Go.Proofs.YtoopfmebpjojiaaDoor
