import Derived.Test.YtpghpeombednkaaGreatDoorZ20
import Derived.Test.YtpghpeombednkaaGreatDoorZ10
namespace Go.Proofs.YtpghpeombednkaaGreatDoor
open Go.RowKit

/-- The names that stand at places. -/
def putT (l : List UInt8) (ps : List Nat) : List (List UInt8) := ps.map (fun p => nmT (takeN l p))
theorem putT_length (l : List UInt8) (ps : List Nat) : (putT l ps).length = ps.length := by simp [putT]
theorem putT_get (l : List UInt8) (ps : List Nat) (k : Nat) (h : k < ps.length) : (putT l ps)[k]'(by rw [putT_length]; exact h) = nmT (takeN l ps[k]) := by simp [putT]

/-- What PutName tells. -/
def packed (l s : List UInt8) : List UInt8 := packL (putT l (sufs l)) (sufs l) (labelsOf s)
def putR (l s : List UInt8) : Option (List UInt8) := if l.length ≤ 600 ∧ nameB s = true ∧ l.length + (packed l s).length ≤ 600 then some (l ++ packed l s) else none
theorem putR_length (l s y : List UInt8) (h : putR l s = some y) : y.length ≤ 600 := by
  unfold putR at h
  split at h
  · rename_i hc
    simp only [Option.some.injEq] at h
    rw [← h, List.length_append]; omega
  · cases h

end Go.Proofs.YtpghpeombednkaaGreatDoor
