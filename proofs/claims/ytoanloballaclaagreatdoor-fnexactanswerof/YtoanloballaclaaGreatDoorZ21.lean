import Derived.Test.YtoanloballaclaaGreatDoorZ14
import Derived.Test.YtoanloballaclaaGreatDoorZ20
import Derived.Test.YtoanloballaclaaGreatDoorZ11
namespace Go.Proofs.YtoanloballaclaaGreatDoor
open Go.RowKit

/-- A target that is good; a policy. -/
def tgtB (x : TgtT) : Bool := (dataP 1 x.2.1).isSome && nameB x.1 && inB x.2.2.1 0 9 && inB x.2.2.2 1 50
def polB (n : List UInt8) (L : List TgtT) : Bool := nameB n && inB (L.length : Int) 1 12 && L.all tgtB
theorem tall_bad {L : List TgtT} {p : TgtT → Bool} {k : Nat} (hk : k < L.length) (h : p L[k] = false) : L.all p = false := by
  rw [Bool.eq_false_iff]; intro h2
  have h3 := List.all_eq_true.1 h2 _ (List.getElem_mem hk)
  rw [h] at h3; cases h3
theorem pol_bad {n : List UInt8} {L : List TgtT} {k : Nat} (hk : k < L.length) (h : tgtB L[k] = false) : polB n L = false := by unfold polB; rw [tall_bad hk h]; simp
theorem pol_name {n : List UInt8} {L : List TgtT} (h : nameB n = false) : polB n L = false := by unfold polB; rw [h]; rfl
theorem pol_len {n : List UInt8} {L : List TgtT} (h : inB (L.length : Int) 1 12 = false) : polB n L = false := by unfold polB; rw [h]; simp
theorem tall_up {L : List TgtT} (h : ∀ j, (hj : j < L.length) → j < L.length → tgtB L[j] = true) : L.all tgtB = true :=
  List.all_eq_true.2 fun x hx => by obtain ⟨j, hj, rfl⟩ := List.getElem_of_mem hx; exact h j hj hj
theorem pol_all {n : List UInt8} {L : List TgtT} (h : L.all tgtB = true) : polB n L = (nameB n && inB (L.length : Int) 1 12) := by unfold polB; rw [h]; simp
theorem pol_parts {n : List UInt8} {L : List TgtT} (h : polB n L = true) : nameB n = true ∧ 1 ≤ L.length ∧ L.length ≤ 12 ∧ ∀ x ∈ L, tgtB x = true := by
  unfold polB inB at h
  simp only [Bool.and_eq_true, decide_eq_true_eq] at h
  exact ⟨h.1.1, by omega, by omega, fun x hx => List.all_eq_true.1 h.2 x hx⟩
theorem tgt_parts {x : TgtT} (h : tgtB x = true) : 0 ≤ x.2.2.1 ∧ x.2.2.1 ≤ 9 ∧ 1 ≤ x.2.2.2 ∧ x.2.2.2 ≤ 50 := by
  unfold tgtB inB at h
  simp only [Bool.and_eq_true, decide_eq_true_eq] at h
  omega
/-- A target of a group that is so. -/
def inG (p : TgtT → Bool) (g : Int) (x : TgtT) : Bool := x.2.2.1 == g && p x
def allT (_ : TgtT) : Bool := true
/-- The groups below k in which some target is so. -/
def grpsN (p : TgtT → Bool) (L : List TgtT) (k : Nat) : List Nat := (List.range k).filter (fun g => L.any (inG p (g : Int)))
def grpsL (p : TgtT → Bool) (L : List TgtT) (k : Nat) : List Int := (grpsN p L k).map Int.ofNat
theorem grpsL_succ (p : TgtT → Bool) (L : List TgtT) (k : Nat) : grpsL p L (k + 1) = grpsL p L k ++ (if L.any (inG p (k : Int)) = true then [(k : Int)] else []) := by
  unfold grpsL grpsN
  rw [List.range_succ, List.filter_append, List.map_append]
  cases h : L.any (inG p (k : Int)) <;> simp [h]
theorem grpsL_length (p : TgtT → Bool) (L : List TgtT) (k : Nat) : (grpsL p L k).length ≤ k := by
  unfold grpsL grpsN
  rw [List.length_map]
  exact Nat.le_trans (List.length_filter_le _ _) (by simp)
theorem grpsL_mem {p : TgtT → Bool} {L : List TgtT} {k : Nat} {x : Int} (h : x ∈ grpsL p L k) : 0 ≤ x ∧ x < (k : Int) ∧ L.any (inG p x) = true := by
  unfold grpsL grpsN at h
  obtain ⟨g, hg, rfl⟩ := List.mem_map.1 h
  rw [List.mem_filter, List.mem_range] at hg
  exact ⟨Int.natCast_nonneg g, by have := hg.1; show (g : Int) < k; omega, hg.2⟩
/-- The numbers below k of the targets that are so. -/
def numsN (p : TgtT → Bool) (L : List TgtT) (k : Nat) : List Nat := (List.range k).filter (fun i => p (L.getD i ([], [], 0, 0)))
def numsL (p : TgtT → Bool) (L : List TgtT) (k : Nat) : List Int := (numsN p L k).map Int.ofNat
theorem tgetD {L : List TgtT} {i : Nat} (h : i < L.length) : L.getD i ([], [], 0, 0) = L[i] := by rw [List.getD_eq_getElem?_getD, List.getElem?_eq_getElem h]; rfl
theorem numsL_succ (p : TgtT → Bool) (L : List TgtT) (k : Nat) (h : k < L.length) : numsL p L (k + 1) = numsL p L k ++ (if p L[k] = true then [(k : Int)] else []) := by
  unfold numsL numsN
  rw [List.range_succ, List.filter_append, List.map_append]
  cases hp : p L[k] with
  | true => rw [List.filter_cons_of_pos (by rw [tgetD h]; exact hp)]; simp
  | false => rw [List.filter_cons_of_neg (by rw [tgetD h, hp]; simp)]; simp
theorem numsL_length (p : TgtT → Bool) (L : List TgtT) (k : Nat) : (numsL p L k).length ≤ k := by
  unfold numsL numsN
  rw [List.length_map]
  exact Nat.le_trans (List.length_filter_le _ _) (by simp)
theorem numsL_mem {p : TgtT → Bool} {L : List TgtT} {k : Nat} {x : Int} (hk : k ≤ L.length) (h : x ∈ numsL p L k) : ∃ i : Nat, ∃ hi : i < L.length, x = (i : Int) ∧ i < k ∧ p L[i] = true := by
  unfold numsL numsN at h
  obtain ⟨i, hi, rfl⟩ := List.mem_map.1 h
  rw [List.mem_filter, List.mem_range] at hi
  have hl : i < L.length := by omega
  refine ⟨i, hl, rfl, hi.1, ?_⟩
  have h2 := hi.2
  rw [tgetD hl] at h2
  exact h2
theorem numsL_none {p : TgtT → Bool} {L : List TgtT} {k : Nat} (hk : k ≤ L.length) : numsL p L k = [] ↔ ∀ i, (hi : i < L.length) → i < k → p L[i] = false := by
  constructor
  · intro h i hi hik
    cases hp : p L[i] with
    | false => rfl
    | true =>
      have hm : (i : Int) ∈ numsL p L k := by
        unfold numsL numsN
        refine List.mem_map.2 ⟨i, ?_, rfl⟩
        rw [List.mem_filter, List.mem_range]
        exact ⟨hik, by rw [tgetD hi]; exact hp⟩
      rw [h] at hm; cases hm
  · intro h
    rw [List.eq_nil_iff_forall_not_mem]
    intro x hx
    obtain ⟨i, hi, _, hik, hp⟩ := numsL_mem hk hx
    rw [h i hi hik] at hp; cases hp
theorem any_nums {p : TgtT → Bool} {L : List TgtT} : L.any p = true ↔ numsL p L L.length ≠ [] := by
  rw [Ne, numsL_none (Nat.le_refl _), List.any_eq_true]
  constructor
  · rintro ⟨x, hx, hp⟩ h
    obtain ⟨i, hi, rfl⟩ := List.getElem_of_mem hx
    rw [h i hi hi] at hp; cases hp
  · intro h
    by_cases h2 : ∃ x ∈ L, p x = true
    · exact h2
    · exact absurd (fun i hi _ => by cases hp : p L[i] with
        | false => rfl
        | true => exact absurd ⟨_, List.getElem_mem hi, hp⟩ h2) h
/-- The group; the candidates. -/
def grpO (p : TgtT → Bool) (L : List TgtT) : Int := match grpsL p L 10 with
  | g :: _ => g
  | [] => (grpsL allT L 10).headD 0
def canO (p : TgtT → Bool) (L : List TgtT) : List Int := match grpsL p L 10 with
  | g :: _ => numsL (inG p g) L L.length
  | [] => numsL (inG allT ((grpsL allT L 10).headD 0)) L L.length
theorem grps_sub (p : TgtT → Bool) (L : List TgtT) (k : Nat) : grpsL p L k = (grpsL allT L k).filter (fun g => L.any (inG p g)) := by
  induction k with
  | zero => rfl
  | succ k ih =>
    rw [grpsL_succ, grpsL_succ, List.filter_append, ← ih]
    cases h : L.any (inG p (k : Int)) with
    | true =>
      have h2 : L.any (inG allT (k : Int)) = true := by
        rw [List.any_eq_true] at h ⊢
        obtain ⟨x, hx, hp⟩ := h
        refine ⟨x, hx, ?_⟩
        unfold inG at hp ⊢
        rw [Bool.and_eq_true] at hp
        rw [hp.1]; rfl
      rw [h2]; simp [h]
    | false =>
      cases h2 : L.any (inG allT (k : Int)) <;> simp [h]
theorem grp_first {p : TgtT → Bool} {L : List TgtT} {i : Nat} (hi : i < (grpsL allT L 10).length) (hp : L.any (inG p (grpsL allT L 10)[i]) = true) (hn : ∀ j, (hj : j < (grpsL allT L 10).length) → j < i → L.any (inG p (grpsL allT L 10)[j]) = false) : grpO p L = (grpsL allT L 10)[i] := by
  have hs := grps_sub p L 10
  have h1 : (grpsL allT L 10).filter (fun g => L.any (inG p g)) = (grpsL allT L 10)[i] :: ((grpsL allT L 10).drop (i + 1)).filter (fun g => L.any (inG p g)) := by
    have h2 : (grpsL allT L 10).filter (fun g => L.any (inG p g)) = ((grpsL allT L 10).take i ++ (grpsL allT L 10)[i] :: (grpsL allT L 10).drop (i + 1)).filter (fun g => L.any (inG p g)) := by
      rw [← List.drop_eq_getElem_cons hi, List.take_append_drop]
    rw [h2, List.filter_append, List.filter_cons_of_pos (p := fun g => L.any (inG p g)) hp]
    have h3 : ((grpsL allT L 10).take i).filter (fun g => L.any (inG p g)) = [] := by
      rw [List.filter_eq_nil_iff]
      intro x hx
      obtain ⟨j, hj, rfl⟩ := List.mem_take_iff_getElem.1 hx
      rw [hn j (by omega) (by omega)]; simp
    rw [h3]; rfl
  unfold grpO
  rw [hs, h1]
theorem grp_none {p : TgtT → Bool} {L : List TgtT} (hn : ∀ j, (hj : j < (grpsL allT L 10).length) → L.any (inG p (grpsL allT L 10)[j]) = false) : grpsL p L 10 = [] := by
  rw [grps_sub, List.filter_eq_nil_iff]
  intro x hx
  obtain ⟨j, hj, rfl⟩ := List.getElem_of_mem hx
  rw [hn j hj]; simp
theorem grp_nil {p : TgtT → Bool} {L : List TgtT} (h : grpsL p L 10 = []) : grpO p L = (grpsL allT L 10).headD 0 := by unfold grpO; rw [h]
theorem grps_some {n : List UInt8} {L : List TgtT} (h : polB n L = true) : 0 < (grpsL allT L 10).length := by
  obtain ⟨_, h1, _, h2⟩ := pol_parts h
  have hm := List.getElem_mem (l := L) (n := 0) (by omega)
  have ht := tgt_parts (h2 _ hm)
  have : L[0].2.2.1 ∈ grpsL allT L 10 := by
    unfold grpsL grpsN
    refine List.mem_map.2 ⟨L[0].2.2.1.toNat, ?_, Int.toNat_of_nonneg ht.1⟩
    rw [List.mem_filter, List.mem_range]
    refine ⟨by omega, ?_⟩
    rw [List.any_eq_true]
    exact ⟨_, hm, by unfold inG allT; rw [Int.toNat_of_nonneg ht.1]; simp⟩
  exact List.length_pos_of_mem this
/-- The candidates are those of the group that are so, or all of it where none is. -/
theorem can_same (p : TgtT → Bool) (L : List TgtT) : canO p L = if numsL (inG p (grpO p L)) L L.length = [] then numsL (inG allT (grpO p L)) L L.length else numsL (inG p (grpO p L)) L L.length := by
  unfold canO grpO
  cases h : grpsL p L 10 with
  | nil =>
    simp only
    rw [if_pos]
    rw [numsL_none (Nat.le_refl _)]
    intro i hi _
    cases hp : inG p ((grpsL allT L 10).headD 0) L[i] with
    | false => rfl
    | true =>
      have h1 : L.any (inG p ((grpsL allT L 10).headD 0)) = true := List.any_eq_true.2 ⟨_, List.getElem_mem hi, hp⟩
      cases hG : grpsL allT L 10 with
      | nil =>
        rw [hG] at h1
        have h2 : (0 : Int) ∈ grpsL p L 10 := by
          unfold grpsL grpsN
          refine List.mem_map.2 ⟨0, ?_, rfl⟩
          rw [List.mem_filter, List.mem_range]
          exact ⟨by omega, h1⟩
        rw [h] at h2; cases h2
      | cons g r =>
        rw [hG] at h1
        have hg : g ∈ (grpsL allT L 10).filter (fun g => L.any (inG p g)) := List.mem_filter.2 ⟨by rw [hG]; simp, h1⟩
        rw [← grps_sub, h] at hg; cases hg
  | cons g r =>
    simp only
    rw [if_neg]
    have hg : g ∈ grpsL p L 10 := by rw [h]; simp
    exact any_nums.1 (grpsL_mem hg).2.2
theorem can_mem {p : TgtT → Bool} {L : List TgtT} {x : Int} (h : x ∈ canO p L) : ∃ i : Nat, ∃ _ : i < L.length, x = (i : Int) := by
  unfold canO at h
  split at h
  · obtain ⟨i, hi, e, _⟩ := numsL_mem (Nat.le_refl _) h; exact ⟨i, hi, e⟩
  · obtain ⟨i, hi, e, _⟩ := numsL_mem (Nat.le_refl _) h; exact ⟨i, hi, e⟩
theorem can_length (p : TgtT → Bool) (L : List TgtT) : (canO p L).length ≤ L.length := by
  unfold canO; split <;> exact numsL_length _ _ _
theorem can_pos {p : TgtT → Bool} {n : List UInt8} {L : List TgtT} (h : polB n L = true) : canO p L ≠ [] := by
  unfold canO
  split
  · rename_i g r hg
    have h1 : g ∈ grpsL p L 10 := by rw [hg]; simp
    exact any_nums.1 (grpsL_mem h1).2.2
  · have hp := grps_some h
    obtain ⟨g, r, hg⟩ : ∃ g r, grpsL allT L 10 = g :: r := by
      cases hG : grpsL allT L 10 with
      | nil => rw [hG] at hp; simp at hp
      | cons g r => exact ⟨g, r, rfl⟩
    rw [hg]
    have h1 : g ∈ grpsL allT L 10 := by rw [hg]; simp
    exact any_nums.1 (grpsL_mem h1).2.2
end Go.Proofs.YtoanloballaclaaGreatDoor
