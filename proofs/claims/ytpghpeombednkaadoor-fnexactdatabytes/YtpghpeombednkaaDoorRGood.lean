import Derived.Test.YtpghpeombednkaaDoorRParse
namespace Go.Proofs.YtpghpeombednkaaDoor
open Go.RowKit

theorem recB_name_no {nm d : List UInt8} {ty ttl : Int} (h : nameB nm = false) : recB nm ty ttl d = false := by unfold recB; rw [h, Bool.false_and, Bool.and_false]
theorem recB_ttl_no {nm d : List UInt8} {ty ttl : Int} (h : ¬ (0 ≤ ttl ∧ ttl ≤ 100000)) : recB nm ty ttl d = false := by
  unfold recB
  have : (decide (0 ≤ ttl) && decide (ttl ≤ 100000)) = false := by
    rw [Bool.eq_false_iff]; intro hc; simp only [Bool.and_eq_true, decide_eq_true_eq] at hc; exact h hc
  rw [this, Bool.and_false, Bool.and_false]
theorem recB_is {nm d : List UInt8} {ty ttl : Int} (h : nameB nm = true) (h0 : 0 ≤ ttl) (h1 : ttl ≤ 100000) : recB nm ty ttl d = (dataP ty d).isSome := by
  unfold recB; rw [h, decide_eq_true h0, decide_eq_true h1]; simp
/-- What takeApart tells. -/
def TakeRes (w : World) (nm : List UInt8) (ty ttl : Int) (d : List UInt8) (e : Ending) (w' : World) : Prop :=
  ∃ v, e = .returned (.tuple #[v, .bool (recB nm ty ttl d)]) ∧ (recB nm ty ttl d = true → IsV ty d v) ∧ Below w.heap.size w w'
theorem take_no {w w' : World} {nm d : List UInt8} {ty ttl : Int} {v : Value} (h : recB nm ty ttl d = false) (hb : Below w.heap.size w w') : TakeRes w nm ty ttl d (.returned (.tuple #[v, .bool false])) w' :=
  ⟨v, by rw [h], fun hh => (by rw [h] at hh; cases hh), hb⟩


end Go.Proofs.YtpghpeombednkaaDoor
