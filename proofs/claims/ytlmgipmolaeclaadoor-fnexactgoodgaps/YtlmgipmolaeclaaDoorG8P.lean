import Derived.Test.YtlmgipmolaeclaaDoorLGapL
import Derived.Test.YtlmgipmolaeclaaDoorG8I
import Derived.Test.YtlmgipmolaeclaaDoorSMsg
namespace Go.Proofs.YtlmgipmolaeclaaDoor
open Go.RowKit

/-- Types that rise, from a place on. -/
def tyB (T : List Int) (k : Nat) : Bool := typB (T[k]?.getD 0) && (k == 0 || decide (T[k - 1]?.getD 0 < T[k]?.getD 0))
def typesB (T : List Int) : Bool := (List.range T.length).all (tyB T)
theorem types_all {T : List Int} (h : ∀ j, j < T.length → tyB T j = true) : typesB T = true := by
  unfold typesB; rw [List.all_eq_true]; intro j hj; exact h j (List.mem_range.1 hj)
theorem types_bad {T : List Int} (k : Nat) (hk : k < T.length) (h : tyB T k = false) : typesB T = false := by
  unfold typesB; rw [List.all_eq_false]; exact ⟨k, List.mem_range.2 hk, by simp [h]⟩
theorem ty_at {T : List Int} (k : Nat) (hk : k < T.length) : tyB T k = (typB T[k] && (k == 0 || decide (T[k - 1]?.getD 0 < T[k]))) := by unfold tyB; simp [hk]
theorem ty_zero {T : List Int} (hk : 0 < T.length) : tyB T 0 = typB T[0] := by rw [ty_at 0 hk]; simp
theorem ty_succ {T : List Int} (k : Nat) (hk : k + 1 < T.length) : tyB T (k + 1) = (typB T[k + 1] && decide (T[k] < T[k + 1])) := by
  rw [ty_at (k + 1) hk]; simp [show k < T.length by omega]
theorem all_up {p : Nat → Bool} {k : Nat} (h : ∀ j, j < k → p j = true) (hk : p k = true) : ∀ j, j < k + 1 → p j = true := fun j hj => by
  rcases Nat.lt_or_ge j k with h' | h'
  · exact h j h'
  · obtain rfl : j = k := by omega
    exact hk

/-- Gaps that are good for an apex: the specification's way. -/
def gO (L : List (List UInt8 × List UInt8 × List Int)) (i : Nat) : List UInt8 := (L[i]?.getD ([], [], [])).1
def gX (L : List (List UInt8 × List UInt8 × List Int)) (i : Nat) : List UInt8 := (L[i]?.getD ([], [], [])).2.1
def gT (L : List (List UInt8 × List UInt8 × List Int)) (i : Nat) : List Int := (L[i]?.getD ([], [], [])).2.2
theorem gO_at {L : List (List UInt8 × List UInt8 × List Int)} {i : Nat} (h : i < L.length) : gO L i = L[i].1 := by unfold gO; simp [h]
theorem gX_at {L : List (List UInt8 × List UInt8 × List Int)} {i : Nat} (h : i < L.length) : gX L i = L[i].2.1 := by unfold gX; simp [h]
theorem gT_at {L : List (List UInt8 × List UInt8 × List Int)} {i : Nat} (h : i < L.length) : gT L i = L[i].2.2 := by unfold gT; simp [h]
def gsB (ap : List UInt8) (L : List (List UInt8 × List UInt8 × List Int)) (i : Nat) : Bool :=
  nameB (gO L i) && belowB (gO L i) ap && (i == 0 || decide (cmpN (gO L (i - 1)) (gO L i) < 0)) && (gX L i == gO L ((i + 1) % L.length)) && !(gT L i == []) && typesB (gT L i)
def goodG (ap : List UInt8) (L : List (List UInt8 × List UInt8 × List Int)) : Bool :=
  nameB ap && decide (1 ≤ L.length) && decide (L.length ≤ 40) && (gO L 0 == ap) && (List.range L.length).all (gsB ap L)
/-- .. and the program's. -/
def giB (ap : List UInt8) (L : List (List UInt8 × List UInt8 × List Int)) (i : Nat) : Bool :=
  nameB (gO L i) && nameB (gX L i) && belowB (gO L i) ap && (!(gT L i == []) && typesB (gT L i)) && (i == 0 || (gX L (i - 1) == gO L i && decide (cmpN (gO L (i - 1)) (gO L i) < 0)))
def goodI (ap : List UInt8) (L : List (List UInt8 × List UInt8 × List Int)) : Bool :=
  decide (1 ≤ L.length) && decide (L.length ≤ 40) && (gO L 0 == ap) && (gX L (L.length - 1) == ap) && (List.range L.length).all (giB ap L)
theorem good_same (ap : List UInt8) (L : List (List UInt8 × List UInt8 × List Int)) : goodI ap L = goodG ap L := by
  rw [Bool.eq_iff_iff]
  unfold goodI goodG
  simp only [Bool.and_eq_true, decide_eq_true_eq, beq_iff_eq, List.all_eq_true, List.mem_range]
  constructor
  · rintro ⟨⟨⟨⟨h1, h2⟩, h3⟩, h4⟩, h5⟩
    have hf : ∀ i, i < L.length → nameB (gO L i) = true ∧ nameB (gX L i) = true ∧ belowB (gO L i) ap = true ∧ (¬ gT L i = [] ∧ typesB (gT L i) = true) ∧ (i = 0 ∨ (gX L (i - 1) = gO L i ∧ cmpN (gO L (i - 1)) (gO L i) < 0)) := fun i hi => by
      have h := h5 i hi
      unfold giB at h
      simp only [Bool.and_eq_true, Bool.or_eq_true, decide_eq_true_eq, beq_iff_eq, Bool.not_eq_true', beq_eq_false_iff_ne] at h
      exact ⟨h.1.1.1.1, h.1.1.1.2, h.1.1.2, h.1.2, h.2⟩
    refine ⟨⟨⟨⟨?_, h1⟩, h2⟩, h3⟩, fun i hi => ?_⟩
    · rw [← h3]; exact (hf 0 (by omega)).1
    · obtain ⟨f1, f2, f3, f4, f5⟩ := hf i hi
      unfold gsB
      simp only [Bool.and_eq_true, Bool.or_eq_true, decide_eq_true_eq, beq_iff_eq, Bool.not_eq_true', beq_eq_false_iff_ne]
      refine ⟨⟨⟨⟨⟨f1, f3⟩, ?_⟩, ?_⟩, f4.1⟩, f4.2⟩
      · rcases f5 with f5 | f5
        · exact .inl f5
        · exact .inr f5.2
      · by_cases hl : i + 1 < L.length
        · rw [Nat.mod_eq_of_lt hl]
          rcases (hf (i + 1) hl).2.2.2.2 with g | g
          · omega
          · exact g.1
        · obtain rfl : i = L.length - 1 := by omega
          rw [show L.length - 1 + 1 = L.length by omega, Nat.mod_self, h4, h3]
  · rintro ⟨⟨⟨⟨h0, h1⟩, h2⟩, h3⟩, h5⟩
    have hf : ∀ i, i < L.length → nameB (gO L i) = true ∧ belowB (gO L i) ap = true ∧ (i = 0 ∨ cmpN (gO L (i - 1)) (gO L i) < 0) ∧ gX L i = gO L ((i + 1) % L.length) ∧ ¬ gT L i = [] ∧ typesB (gT L i) = true := fun i hi => by
      have h := h5 i hi
      unfold gsB at h
      simp only [Bool.and_eq_true, Bool.or_eq_true, decide_eq_true_eq, beq_iff_eq, Bool.not_eq_true', beq_eq_false_iff_ne] at h
      exact ⟨h.1.1.1.1.1, h.1.1.1.1.2, h.1.1.1.2, h.1.1.2, h.1.2, h.2⟩
    refine ⟨⟨⟨⟨h1, h2⟩, h3⟩, ?_⟩, fun i hi => ?_⟩
    · have h := (hf (L.length - 1) (by omega)).2.2.2.1
      rw [h, show L.length - 1 + 1 = L.length by omega, Nat.mod_self, h3]
    · obtain ⟨f1, f2, f3, f4, f5, f6⟩ := hf i hi
      unfold giB
      simp only [Bool.and_eq_true, Bool.or_eq_true, decide_eq_true_eq, beq_iff_eq, Bool.not_eq_true', beq_eq_false_iff_ne]
      refine ⟨⟨⟨⟨f1, ?_⟩, f2⟩, f5, f6⟩, ?_⟩
      · rw [f4]; exact (hf _ (Nat.mod_lt _ (by omega))).1
      · rcases f3 with g | g
        · exact .inl g
        · by_cases hz : i = 0
          · exact .inl hz
          · refine .inr ⟨?_, g⟩
            have h := (hf (i - 1) (by omega)).2.2.2.1
            rw [h, show i - 1 + 1 = i by omega, Nat.mod_eq_of_lt hi]
theorem goodI_bad {ap : List UInt8} {L : List (List UInt8 × List UInt8 × List Int)} (k : Nat) (hk : k < L.length) (h : giB ap L k = false) : goodI ap L = false := by
  unfold goodI; rw [show (List.range L.length).all (giB ap L) = false by rw [List.all_eq_false]; exact ⟨k, List.mem_range.2 hk, by simp [h]⟩]; simp
theorem goodI_all {ap : List UInt8} {L : List (List UInt8 × List UInt8 × List Int)} (h1 : 1 ≤ L.length) (h2 : L.length ≤ 40) (h3 : gO L 0 = ap) (h4 : gX L (L.length - 1) = ap) (h : ∀ j, j < L.length → giB ap L j = true) : goodI ap L = true := by
  unfold goodI; rw [show (List.range L.length).all (giB ap L) = true by rw [List.all_eq_true]; intro j hj; exact h j (List.mem_range.1 hj), decide_eq_true h1, decide_eq_true h2, h3, h4]; simp
theorem goodG_bad {ap : List UInt8} {L : List (List UInt8 × List UInt8 × List Int)} (k : Nat) (hk : k < L.length) (h : gsB ap L k = false) : goodG ap L = false := by
  unfold goodG; rw [show (List.range L.length).all (gsB ap L) = false by rw [List.all_eq_false]; exact ⟨k, List.mem_range.2 hk, by simp [h]⟩]; simp
theorem goodG_all {ap : List UInt8} {L : List (List UInt8 × List UInt8 × List Int)} (h0 : nameB ap = true) (h1 : 1 ≤ L.length) (h2 : L.length ≤ 40) (h3 : gO L 0 = ap) (h : ∀ j, j < L.length → gsB ap L j = true) : goodG ap L = true := by
  unfold goodG; rw [show (List.range L.length).all (gsB ap L) = true by rw [List.all_eq_true]; intro j hj; exact h j (List.mem_range.1 hj), decide_eq_true h1, decide_eq_true h2, h3, h0]; simp
theorem gi_zero {ap : List UInt8} {L : List (List UInt8 × List UInt8 × List Int)} (hk : 0 < L.length) : giB ap L 0 = (nameB L[0].1 && nameB L[0].2.1 && belowB L[0].1 ap && (!(L[0].2.2 == []) && typesB L[0].2.2)) := by
  unfold giB; rw [gO_at hk, gX_at hk, gT_at hk]; simp
theorem gi_succ {ap : List UInt8} {L : List (List UInt8 × List UInt8 × List Int)} (k : Nat) (hk : k + 1 < L.length) : giB ap L (k + 1) = (nameB L[k + 1].1 && nameB L[k + 1].2.1 && belowB L[k + 1].1 ap && (!(L[k + 1].2.2 == []) && typesB L[k + 1].2.2) && (L[k].2.1 == L[k + 1].1 && decide (cmpN L[k].1 L[k + 1].1 < 0))) := by
  unfold giB; rw [gO_at hk, gX_at hk, gT_at hk, show k + 1 - 1 = k from rfl, gO_at (show k < L.length by omega), gX_at (show k < L.length by omega)]; simp
theorem gs_at {ap : List UInt8} {L : List (List UInt8 × List UInt8 × List Int)} (k m : Nat) (hk : k < L.length) (hm : m = (k + 1) % L.length) (hml : m < L.length) : gsB ap L k = (nameB L[k].1 && belowB L[k].1 ap && (k == 0 || decide (cmpN (gO L (k - 1)) L[k].1 < 0)) && (L[k].2.1 == L[m].1) && !(L[k].2.2 == []) && typesB L[k].2.2) := by
  unfold gsB; rw [← hm, gO_at hk, gX_at hk, gT_at hk, gO_at hml]
end Go.Proofs.YtlmgipmolaeclaaDoor
