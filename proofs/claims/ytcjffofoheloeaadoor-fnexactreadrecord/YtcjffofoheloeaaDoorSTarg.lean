import Derived.Test.YtcjffofoheloeaaDoorSText
namespace Go.Proofs.YtcjffofoheloeaaDoor
open Go.RowKit

theorem dataP_kind {k : Int} {l : List UInt8} (h : (dataP k l).isSome = true) : k = 1 ∨ k = 2 ∨ k = 5 ∨ k = 6 ∨ k = 15 ∨ k = 16 := by
  unfold dataP at h
  by_cases h1 : k = 1
  · exact .inl h1
  · rw [if_neg h1] at h
    by_cases h2 : k = 2 ∨ k = 5
    · rcases h2 with h2 | h2
      · exact .inr (.inl h2)
      · exact .inr (.inr (.inl h2))
    · rw [if_neg h2] at h
      by_cases h6 : k = 6
      · exact .inr (.inr (.inr (.inl h6)))
      · rw [if_neg h6] at h
        by_cases h15 : k = 15
        · exact .inr (.inr (.inr (.inr (.inl h15))))
        · rw [if_neg h15] at h
          by_cases h16 : k = 16
          · exact .inr (.inr (.inr (.inr (.inr h16))))
          · rw [if_neg h16] at h; cases h
theorem recB_facts {nm d : List UInt8} {ty ttl : Int} (h : recB nm ty ttl d = true) : 1 ≤ ty ∧ ty ≤ 16 ∧ 0 ≤ ttl ∧ ttl ≤ 100000 := by
  unfold recB at h
  simp only [Bool.and_eq_true, decide_eq_true_eq] at h
  have := dataP_kind h.1
  omega

/-- What RecordText tells. -/
def recX (nm : List UInt8) (ty ttl : Int) (d : List UInt8) : List UInt8 := if recB nm ty ttl d = true then recT nm ty.toNat ttl.toNat d else []


/-- The name that a record's data has. -/
def toT (ty : Int) (d : List UInt8) : List UInt8 := if ty = 2 ∨ ty = 5 then d else if ty = 15 then (cut 32 d).getD 1 [] else []


theorem dataM_len {l : List UInt8} (h : (dataP 15 l).isSome = true) : (cut 32 l).length = 2 := by
  by_cases h2 : (cut 32 l).length = 2
  · exact h2
  · have e : dataP 15 l = dataM l := by unfold dataP; rw [if_neg (by omega), if_neg (by omega), if_neg (by omega), if_pos rfl]
    rw [e, dataM_not h2] at h; cases h
theorem recB_two {nm d : List UInt8} {ty ttl : Int} (h : recB nm ty ttl d = true) : ty = 15 → (cut 32 d).length = 2 := by
  intro e; subst e
  unfold recB at h
  simp only [Bool.and_eq_true] at h
  exact dataM_len h.1

/-- What TargetOf tells. -/
def targO (nm : List UInt8) (ty ttl : Int) (d : List UInt8) : Bool := recB nm ty ttl d && !(toT ty d).isEmpty
def targX (nm : List UInt8) (ty ttl : Int) (d : List UInt8) : List UInt8 := if targO nm ty ttl d = true then toT ty d else []


end Go.Proofs.YtcjffofoheloeaaDoor
