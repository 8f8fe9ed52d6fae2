import Derived.Test.YtoobaaklklommaaDoorZ16
import Derived.Test.YtoobaaklklommaaDoorZ11
namespace Go.Proofs.YtoobaaklklommaaDoor
open Go.RowKit

theorem name_noblank {l : List UInt8} (h : nameB l = true) : (32 : UInt8) ∉ l := by
  intro hm
  have h0 : l ≠ [] := fun e => by rw [e] at hm; cases hm
  have hl : labelsOf l = cut 46 l := by unfold labelsOf; rw [if_neg h0]
  unfold nameB at h
  simp only [Bool.and_eq_true, List.all_eq_true] at h
  rw [hl] at h
  obtain ⟨p, hp, hb⟩ := (mem_cut (b := 46) (c := 32) (by decide) l).1 hm
  have h2 := h.1 p hp
  unfold labelB at h2
  rw [Bool.or_eq_true] at h2
  rcases h2 with h2 | h2
  · have : p = [42] := by simpa using h2
    rw [this] at hb; revert hb; decide
  · simp only [Bool.and_eq_true, List.all_eq_true] at h2
    have := h2.2.2 32 hb
    revert this; decide
theorem targ_noblank {l : List UInt8} (h : targB l = true) : (32 : UInt8) ∉ l := by
  unfold targB at h; simp only [Bool.and_eq_true] at h; exact name_noblank h.1
theorem targ_nil : targB [] = false := by decide
theorem exch_no {l : List UInt8} (h : (32 : UInt8) ∉ l) : dataM l = none := dataM_not (by rw [cut_plain 32 l h]; simp)
theorem exch_at {a r : List UInt8} (h : (32 : UInt8) ∉ a) : dataM (a ++ 32 :: r) = if numIn a 65535 = true ∧ targB r = true then some (beB (intV a) 2 ++ wireL (labelsOf r)) else none := by
  by_cases hr : (32 : UInt8) ∈ r
  · have ht : ¬ targB r = true := fun ht => targ_noblank ht hr
    rw [if_neg (fun hc => ht hc.2)]
    obtain ⟨p, q, rfl, hp⟩ := List.eq_append_cons_of_mem hr
    refine dataM_not ?_
    rw [cut_at h, cut_at hp]
    have := List.length_pos_iff.2 (cut_ne 32 q)
    simp only [List.length_cons]; omega
  · exact dataM_two (by rw [cut_at h, cut_plain 32 r hr])

theorem dataP_M (l : List UInt8) : dataP 15 l = dataM l := by unfold dataP; rw [if_neg (by omega), if_neg (by omega), if_neg (by omega), if_pos rfl]
theorem dataP_S (l : List UInt8) : dataP 6 l = dataS l := by unfold dataP; rw [if_neg (by omega), if_neg (by omega), if_pos rfl]
theorem dataP_T (l : List UInt8) : dataP 16 l = dataT l := by unfold dataP; rw [if_neg (by omega), if_neg (by omega), if_neg (by omega), if_neg (by omega), if_pos rfl]
theorem dataP_N {k : Int} (h : k = 2 ∨ k = 5) (l : List UInt8) : dataP k l = dataN l := by unfold dataP; rw [if_neg (by omega), if_pos h]
theorem dataP_O {k : Int} (h1 : (k == 1) = false) (h2 : (k == 2) = false) (h5 : (k == 5) = false) (h6 : (k == 6) = false) (h15 : (k == 15) = false) (h16 : (k == 16) = false) (l : List UInt8) : dataP k l = none := by
  simp only [beq_eq_false_iff_ne] at h1 h2 h5 h6 h15 h16
  unfold dataP; rw [if_neg h1, if_neg (by omega), if_neg h6, if_neg h15, if_neg h16]

end Go.Proofs.YtoobaaklklommaaDoor

namespace Go.Proofs.YtoobaaklklommaaDoor
open Go.RowKit

theorem recB_name_no {nm d : List UInt8} {ty ttl : Int} (h : nameB nm = false) : recB nm ty ttl d = false := by unfold recB; rw [h, Bool.false_and, Bool.and_false]
theorem recB_ttl_no {nm d : List UInt8} {ty ttl : Int} (h : ¬ (0 ≤ ttl ∧ ttl ≤ 100000)) : recB nm ty ttl d = false := by
  unfold recB
  have : (decide (0 ≤ ttl) && decide (ttl ≤ 100000)) = false := by
    rw [Bool.eq_false_iff]; intro hc; simp only [Bool.and_eq_true, decide_eq_true_eq] at hc; exact h hc
  rw [this, Bool.and_false, Bool.and_false]
theorem recB_is {nm d : List UInt8} {ty ttl : Int} (h : nameB nm = true) (h0 : 0 ≤ ttl) (h1 : ttl ≤ 100000) : recB nm ty ttl d = (dataP ty d).isSome := by
  unfold recB; rw [h, decide_eq_true h0, decide_eq_true h1]; simp
end Go.Proofs.YtoobaaklklommaaDoor

namespace Go.Proofs.YtoobaaklklommaaDoor
open Go.RowKit

/-- What szRecord tells. -/
def szR (a b left : Int) : Int := if left - a < 0 then -1 else if left - a - b < 0 then -1 else left - a - b


theorem sz_cases {a b : Nat} : szR (a : Int) (b : Int) 1048576 = -1 ∧ ¬ a + b ≤ 1048576 ∨ szR (a : Int) (b : Int) 1048576 = 1048576 - (a : Int) - (b : Int) ∧ a + b ≤ 1048576 := by
  unfold szR
  split
  · exact .inl ⟨rfl, by omega⟩
  · split
    · exact .inl ⟨rfl, by omega⟩
    · exact .inr ⟨rfl, by omega⟩
end Go.Proofs.YtoobaaklklommaaDoor
