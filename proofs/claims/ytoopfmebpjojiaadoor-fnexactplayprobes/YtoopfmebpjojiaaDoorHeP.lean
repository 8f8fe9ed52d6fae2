import Derived.Test.YtoopfmebpjojiaaDoorLHst
import Derived.Test.YtoopfmebpjojiaaDoorSerZ
namespace Go.Proofs.YtoopfmebpjojiaaDoor
open Go.RowKit

/-- A host's name among names: good, not the root, not one of those ahead. -/
def nmB (P : List (List UInt8)) (j : Nat) : Bool := nameB (P.getD j []) && !(P.getD j [] == []) && !((P.take j).contains (P.getD j []))
def nmsB (P : List (List UInt8)) : Bool := (List.range P.length).all (nmB P) && inB (P.length : Int) 1 12
/-- How many in a row change what is told. -/
def mostH (ri fa : Int) (u : Bool) : Int := if u then fa else ri
def rowB (ri fa : Int) (x : HosT) : Bool := inB x.2.2 0 (mostH ri fa x.2.1 - 1)
def nmL (L : List HosT) : List (List UInt8) := L.map (fun x => x.1)
/-- Health that is good. -/
def goodH (ri fa : Int) (L : List HosT) : Bool := inB ri 1 10 && inB fa 1 10 && L.all (rowB ri fa) && nmsB (nmL L)
theorem nmL_length (L : List HosT) : (nmL L).length = L.length := by simp [nmL]
theorem nmL_at {L : List HosT} {j : Nat} (h : j < L.length) : (nmL L).getD j [] = L[j].1 := by
  unfold nmL
  rw [List.getD_eq_getElem?_getD, List.getElem?_map, List.getElem?_eq_getElem h]; rfl
theorem nmL_snoc (L : List HosT) (k : Nat) (h : k < L.length) : nmL (L.take (k + 1)) = nmL (L.take k) ++ [L[k].1] := by
  unfold nmL; rw [List.take_succ_eq_append_getElem h, List.map_append]; rfl
theorem nms_bad {P : List (List UInt8)} {j : Nat} (hj : j < P.length) (h : nmB P j = false) : nmsB P = false := by
  unfold nmsB
  have : (List.range P.length).all (nmB P) = false := by
    rw [List.all_eq_false]
    exact ⟨j, List.mem_range.2 hj, by rw [h]; simp⟩
  rw [this]; rfl
theorem nms_good {P : List (List UInt8)} (h : ∀ j, j < P.length → nmB P j = true) : nmsB P = inB (P.length : Int) 1 12 := by
  unfold nmsB
  have : (List.range P.length).all (nmB P) = true := List.all_eq_true.2 fun j hj => h j (List.mem_range.1 hj)
  rw [this]; rfl
theorem good_name {ri fa : Int} {L : List HosT} {j : Nat} (hj : j < L.length) (h : nmB (nmL L) j = false) : goodH ri fa L = false := by
  unfold goodH; rw [nms_bad (by rw [nmL_length]; exact hj) h]; simp
theorem good_row {ri fa : Int} {L : List HosT} {j : Nat} (hj : j < L.length) (h : rowB ri fa L[j] = false) : goodH ri fa L = false := by
  unfold goodH
  have : L.all (rowB ri fa) = false := by
    rw [List.all_eq_false]
    exact ⟨L[j], List.getElem_mem hj, by rw [h]; simp⟩
  rw [this]; simp
theorem good_all {ri fa : Int} {L : List HosT} (h1 : inB ri 1 10 = true) (h2 : inB fa 1 10 = true) (h3 : inB (L.length : Int) 1 12 = true) (h : ∀ j, (hj : j < L.length) → nmB (nmL L) j = true ∧ rowB ri fa L[j] = true) : goodH ri fa L = true := by
  unfold goodH
  rw [nms_good (fun j hj => (h j (by rw [nmL_length] at hj; exact hj)).1), nmL_length, h1, h2, h3]
  have : L.all (rowB ri fa) = true := List.all_eq_true.2 fun x hx => by
    obtain ⟨j, hj, rfl⟩ := List.getElem_of_mem hx
    exact (h j hj).2
  rw [this]; rfl
theorem good_parts {ri fa : Int} {L : List HosT} (h : goodH ri fa L = true) : (1 ≤ ri ∧ ri ≤ 10) ∧ (1 ≤ fa ∧ fa ≤ 10) ∧ (1 ≤ L.length ∧ L.length ≤ 12) ∧ (∀ x ∈ L, 0 ≤ x.2.2 ∧ x.2.2 ≤ mostH ri fa x.2.1 - 1) ∧ (∀ x ∈ L, nameB x.1 = true) := by
  unfold goodH nmsB at h
  simp only [Bool.and_eq_true, nmL_length, inB, decide_eq_true_eq] at h
  obtain ⟨⟨⟨h1, h2⟩, h3⟩, h4, h5⟩ := h
  refine ⟨h1, h2, by omega, fun x hx => ?_, fun x hx => ?_⟩
  · have := List.all_eq_true.1 h3 x hx
    simpa [rowB, inB] using this
  · obtain ⟨j, hj, rfl⟩ := List.getElem_of_mem hx
    have := List.all_eq_true.1 h4 j (List.mem_range.2 hj)
    unfold nmB at this
    rw [nmL_at hj] at this
    simp only [Bool.and_eq_true] at this
    exact this.1.1
/-- The specification holds a row against a bound that may have gone round. -/
def rowW (ri fa : Int) (x : HosT) : Bool := inB x.2.2 0 (wrap64 (mostH ri fa x.2.1 - 1))
theorem most_in {ri fa : Int} {u : Bool} (h1 : inB ri 1 10 = true) (h2 : inB fa 1 10 = true) : 1 ≤ mostH ri fa u ∧ mostH ri fa u ≤ 10 := by
  simp only [inB, Bool.and_eq_true, decide_eq_true_eq] at h1 h2
  unfold mostH; split <;> omega
theorem row_w {ri fa : Int} {x : HosT} (h1 : inB ri 1 10 = true) (h2 : inB fa 1 10 = true) : rowW ri fa x = rowB ri fa x := by
  have h := most_in (u := x.2.1) h1 h2
  unfold rowW rowB
  rw [IntWalk.wrap64_in _ ⟨by omega, by omega⟩]
theorem good_off {ri fa : Int} {L : List HosT} (h : (inB ri 1 10 && inB fa 1 10) = false) : goodH ri fa L = false := by
  unfold goodH; rw [h]; rfl
theorem good_roww {ri fa : Int} {L : List HosT} {j : Nat} (hj : j < L.length) (h : rowW ri fa L[j] = false) : goodH ri fa L = false := by
  cases h1 : inB ri 1 10 with
  | false => exact good_off (by rw [h1]; rfl)
  | true =>
    cases h2 : inB fa 1 10 with
    | false => exact good_off (by rw [h1, h2]; rfl)
    | true => exact good_row hj ((row_w h1 h2).symm.trans h)
theorem good_rows {ri fa : Int} {L : List HosT} (h : ∀ j, (hj : j < L.length) → rowW ri fa L[j] = true) : goodH ri fa L = (inB ri 1 10 && inB fa 1 10 && nmsB (nmL L)) := by
  cases h1 : inB ri 1 10 with
  | false => rw [good_off (by rw [h1]; rfl)]; rfl
  | true =>
    cases h2 : inB fa 1 10 with
    | false => rw [good_off (by rw [h1, h2]; rfl)]; rfl
    | true =>
      have : L.all (rowB ri fa) = true := List.all_eq_true.2 fun x hx => by
        obtain ⟨j, hj, rfl⟩ := List.getElem_of_mem hx
        exact (row_w h1 h2).symm.trans (h j hj)
      unfold goodH; rw [h1, h2, this]; rfl
/-- The first of a list that is so, or -1. -/
def FirstI (p : HosT → Bool) (L : List HosT) (i : Int) : Prop := (i = -1 ∧ ∀ x ∈ L, p x = false) ∨ ∃ k : Nat, ∃ hk : k < L.length, i = (k : Int) ∧ p L[k] = true ∧ ∀ j, (hj : j < L.length) → j < k → p L[j] = false
theorem first_is {L : List HosT} {j : Nat} (hj : j < L.length) {i : Int} (h : FirstI (fun x => x.1 == L[j].1) L i) : (i == (j : Int)) = !(((nmL L).take j).contains L[j].1) := by
  rcases h with ⟨_, h⟩ | ⟨k, hk, rfl, hp, hn⟩
  · have := h L[j] (List.getElem_mem hj); simp at this
  · have hkj : k ≤ j := by
      rcases Nat.lt_or_ge j k with h1 | h1
      · have := hn j hj h1; simp at this
      · exact h1
    rcases Nat.lt_or_ge k j with h1 | h1
    · have hm : L[j].1 ∈ (nmL L).take j := by
        rw [List.mem_take_iff_getElem]
        refine ⟨k, by rw [nmL_length]; omega, ?_⟩
        have : L[k].1 = L[j].1 := by simpa using hp
        rw [← this]; simp [nmL]
      rw [List.contains_iff_mem.2 hm, beq_eq_false_iff_ne.2 (by omega)]; rfl
    · obtain rfl : k = j := by omega
      have hm : ((nmL L).take k).contains L[k].1 = false := by
        rw [Bool.eq_false_iff]
        intro hc
        obtain ⟨m, hm, he⟩ := List.mem_take_iff_getElem.1 (List.contains_iff_mem.1 hc)
        rw [nmL_length] at hm
        have h2 := hn m (by omega) (by omega)
        simp only [nmL, List.getElem_map] at he
        rw [beq_eq_false_iff_ne] at h2
        exact h2 he
      rw [hm]; simp
/-- Whether the host with a name is up; and whether there is one. -/
def upV (L : List HosT) (s : List UInt8) : Option HosT := L.find? (fun x => x.1 == s)
theorem up_first {L : List HosT} {s : List UInt8} {i : Int} (h : FirstI (fun x => x.1 == s) L i) : (i = -1 ∧ upV L s = none) ∨ ∃ k : Nat, ∃ hk : k < L.length, i = (k : Int) ∧ upV L s = some L[k] := by
  rcases h with ⟨h1, h⟩ | ⟨k, hk, rfl, hp, hn⟩
  · exact .inl ⟨h1, by unfold upV; rw [List.find?_eq_none]; intro x hx; have h2 := h x hx; simp only at h2; rw [h2]; simp⟩
  · refine .inr ⟨k, hk, rfl, ?_⟩
    unfold upV
    rw [List.find?_eq_some_iff_getElem]
    exact ⟨hp, k, hk, rfl, fun j hj => by have h2 := hn j (by omega) hj; simp only at h2; rw [h2]; rfl⟩
end Go.Proofs.YtoopfmebpjojiaaDoor
