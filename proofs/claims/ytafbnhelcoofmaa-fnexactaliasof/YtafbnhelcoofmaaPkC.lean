import Derived.Test.YtafbnhelcoofmaaLCol
namespace Go.Proofs.Ytafbnhelcoofmaa
open Go.RowKit

/-- A column among n; good columns; columns that can be picked by. -/
def colB (n : Int) (x : Int × Int) : Bool := decide (0 ≤ x.1) && inB x.2 0 (n - 1)
def goodA (L : List (Int × Int)) : Bool := inB (L.length : Int) 1 12 && L.all (colB L.length)
def mostB (t : Int) (x : Int × Int) : Bool := decide (x.1 ≤ t)
def fitA (t : Int) (L : List (Int × Int)) : Bool := L.all (mostB t) && goodA L && inB t 1 600
theorem call_on {L : List (Int × Int)} {p : Int × Int → Bool} {k : Nat} (hk : k < L.length) : (L.take (k + 1)).all p = ((L.take k).all p && p L[k]) := by
  rw [List.take_succ_eq_append_getElem hk, List.all_append]; simp
theorem call_bad {L : List (Int × Int)} {p : Int × Int → Bool} {k : Nat} (hk : k < L.length) (h : p L[k] = false) : L.all p = false := by
  rw [Bool.eq_false_iff]; intro h2
  have h3 := List.all_eq_true.1 h2 _ (List.getElem_mem hk)
  rw [h] at h3; cases h3
theorem goodA_bad {L : List (Int × Int)} {k : Nat} (hk : k < L.length) (h : colB L.length L[k] = false) : goodA L = false := by unfold goodA; rw [call_bad hk h]; simp
theorem goodA_len {L : List (Int × Int)} (h : inB (L.length : Int) 1 12 = false) : goodA L = false := by unfold goodA; rw [h]; simp
theorem goodA_all {L : List (Int × Int)} (h : L.all (colB L.length) = true) : goodA L = inB (L.length : Int) 1 12 := by unfold goodA; rw [h]; simp
theorem fitA_bad {t : Int} {L : List (Int × Int)} {k : Nat} (hk : k < L.length) (h : mostB t L[k] = false) : fitA t L = false := by unfold fitA; rw [call_bad hk h]; simp
theorem fitA_all {t : Int} {L : List (Int × Int)} (h : L.all (mostB t) = true) : fitA t L = (goodA L && inB t 1 600) := by unfold fitA; rw [h]; simp

end Go.Proofs.Ytafbnhelcoofmaa
