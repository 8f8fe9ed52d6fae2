import Derived.Test.YtoanloballaclaaDoorPackA
import Derived.Test.YtoanloballaclaaDoorInts
import Derived.Test.YtoanloballaclaaDoorKp
namespace Go.Proofs.YtoanloballaclaaDoor
open Go.RowKit

theorem row_drop {w : World} {b o cap : Nat} {P : List (List UInt8)} {i : Nat} (hcap : P.length ≤ cap) (hmax : cap ≤ 9223372036854775807) (hbl : b < w.heap.size) (hc : ∀ j, (hj : j < P.length) → w.cell? ⟨b, o + j, none⟩ = some (S P[j])) :
    Row w (.slice (some ⟨b, o + i, none⟩) (P.length - i) (cap - i)) (P.drop i) := by
  refine ⟨_, cap - i, by rw [List.length_drop], by rw [List.length_drop]; omega, by unfold maxLen; omega, .inr ⟨b, o + i, rfl, hbl, fun j hj => ?_⟩⟩
  have h : j < P.length - i := by simpa using hj
  have := hc (i + j) (by omega)
  rw [List.getElem_drop, ← this, Nat.add_assoc]

/-- What is told of a name: labels, up to the longest suffix that was told. -/
def packL (T : List (List UInt8)) (ps : List Nat) : List (List UInt8) → List UInt8
  | [] => [0]
  | x :: r => if T.idxOf (joinD (x :: r)) < T.length then ptr (ps.getD (T.idxOf (joinD (x :: r))) 0) else UInt8.ofNat x.length :: (x ++ packL T ps r)

theorem packL_hit {T P : List (List UInt8)} {ps : List Nat} {k j : Nat} {pre : List UInt8} (h : packL T ps P = pre ++ packL T ps (P.drop k)) (hk : k < P.length) (hi : idxI T (joinD (P.drop k)) = (j : Int)) (hj : j < ps.length) : packL T ps P = pre ++ ptr ps[j] := by
  rw [h, List.drop_eq_getElem_cons hk, packL, ← List.drop_eq_getElem_cons hk]
  unfold idxI at hi
  split at hi
  · rename_i hlt
    have e : T.idxOf (joinD (P.drop k)) = j := by omega
    rw [if_pos hlt, e, List.getD_eq_getElem?_getD, List.getElem?_eq_getElem hj]; rfl
  · omega
theorem packL_miss {T P : List (List UInt8)} {ps : List Nat} {k : Nat} {pre : List UInt8} (h : packL T ps P = pre ++ packL T ps (P.drop k)) (hk : k < P.length) (hi : idxI T (joinD (P.drop k)) < 0) : packL T ps P = (pre ++ UInt8.ofNat P[k].length :: P[k]) ++ packL T ps (P.drop (k + 1)) := by
  rw [h, List.drop_eq_getElem_cons hk, packL, ← List.drop_eq_getElem_cons hk]
  unfold idxI at hi
  split at hi
  · omega
  · rename_i hlt
    rw [if_neg hlt]; simp
theorem idxI_lt {T : List (List UInt8)} {x : List UInt8} {j : Nat} (h : idxI T x = (j : Int)) : j < T.length := by
  unfold idxI at h; split at h <;> omega
theorem idxI_ge (T : List (List UInt8)) (x : List UInt8) : -1 ≤ idxI T x := by
  unfold idxI; split <;> omega

/-- The suffixes of a name that are told anew, and their places. -/
def newS (T : List (List UInt8)) : List (List UInt8) → List (List UInt8)
  | [] => []
  | x :: r => if T.idxOf (joinD (x :: r)) < T.length then [] else joinD (x :: r) :: newS T r
def newP (T : List (List UInt8)) : Nat → List (List UInt8) → List Nat
  | _, [] => []
  | a, x :: r => if T.idxOf (joinD (x :: r)) < T.length then [] else a :: newP T (a + 1 + x.length) r
theorem new_length (T : List (List UInt8)) : ∀ (P : List (List UInt8)) (a : Nat), (newP T a P).length = (newS T P).length
  | [], _ => rfl
  | x :: r, a => by
    unfold newP newS
    split
    · rfl
    · simp [new_length T r]
theorem newS_length (T : List (List UInt8)) : ∀ P : List (List UInt8), (newS T P).length ≤ P.length
  | [] => Nat.le_refl _
  | x :: r => by
    unfold newS
    split
    · simp
    · have := newS_length T r
      simp; omega
theorem idx_ff {T : List (List UInt8)} {x : List UInt8} {j : Nat} (hi : idxI T x = (j : Int)) : T.idxOf x < T.length := by
  unfold idxI at hi; split at hi
  · assumption
  · omega
theorem idx_no {T : List (List UInt8)} {x : List UInt8} (hi : idxI T x < 0) : ¬ T.idxOf x < T.length := by
  unfold idxI at hi; split at hi
  · omega
  · assumption
theorem new_hit {T P : List (List UInt8)} {a k j : Nat} (hk : k < P.length) (hi : idxI T (joinD (P.drop k)) = (j : Int)) : newS T (P.drop k) = [] ∧ newP T a (P.drop k) = [] := by
  have h := idx_ff hi
  rw [List.drop_eq_getElem_cons hk] at h ⊢
  unfold newS newP
  rw [if_pos h, if_pos h]; exact ⟨rfl, rfl⟩
theorem new_miss {T P : List (List UInt8)} {a k : Nat} (hk : k < P.length) (hi : idxI T (joinD (P.drop k)) < 0) :
    newS T (P.drop k) = joinD (P.drop k) :: newS T (P.drop (k + 1)) ∧ newP T a (P.drop k) = a :: newP T (a + 1 + P[k].length) (P.drop (k + 1)) := by
  have h := idx_no hi
  rw [List.drop_eq_getElem_cons hk] at h ⊢
  rw [newS, newP, if_neg h, if_neg h]
  exact ⟨rfl, rfl⟩
/-- Suffixes become shorter. -/
theorem joinD_shorter {P : List (List UInt8)} {k : Nat} (hk : k < P.length) (h0 : P[k] ≠ []) : (joinD (P.drop (k + 1))).length < (joinD (P.drop k)).length := by
  have h1 : 0 < P[k].length := List.length_pos_iff.2 h0
  rw [List.drop_eq_getElem_cons hk, joinD]
  split
  · rename_i h; rw [h]; simp [joinD]; exact h1
  · rw [List.length_append, List.length_cons]; omega
/-- What is longer is not found. -/
theorem idx_longer {T Q : List (List UInt8)} {x : List UInt8} (h : ∀ y ∈ Q, x.length < y.length) : idxI (T ++ Q) x = idxI T x := by
  have hn : x ∉ Q := fun hx => Nat.lt_irrefl _ (h x hx)
  unfold idxI
  rw [List.idxOf_append]
  by_cases hm : x ∈ T
  · rw [if_pos hm]
    have := List.idxOf_lt_length_iff.2 hm
    rw [if_pos (by rw [List.length_append]; omega), if_pos this]
  · rw [if_neg hm]
    have h1 : List.idxOf x Q = Q.length := List.idxOf_eq_length hn
    have h2 : List.idxOf x T = T.length := List.idxOf_eq_length hm
    rw [h1, h2, List.length_append, if_neg (by omega), if_neg (by omega)]
end Go.Proofs.YtoanloballaclaaDoor
