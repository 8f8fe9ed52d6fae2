import Derived.Test.YtoanloballaclaaDoorListS
namespace Go.Proofs.YtoanloballaclaaDoor
open Go.RowKit

/-- What has been copied behind k rounds. -/
def part (P : List (List UInt8)) (k : Nat) : List (List UInt8) := P.take k ++ List.replicate (P.length - k) []
theorem part_length (P : List (List UInt8)) (k : Nat) (h : k ≤ P.length) : (part P k).length = P.length := by simp [part]; omega
theorem part_next (P : List (List UInt8)) (k : Nat) (h : k < P.length) : part P (k + 1) = (part P k).set k P[k] := by
  unfold part
  have hm : (P.take k).length = k := by simp; omega
  rw [List.take_succ_eq_append_getElem h, List.set_append_right _ _ (by omega), hm, Nat.sub_self]
  obtain ⟨m, hm2⟩ : ∃ m, P.length - k = m + 1 := ⟨P.length - k - 1, by omega⟩
  rw [hm2, show P.length - (k + 1) = m by omega, List.replicate_succ]
  simp only [List.set_cons_zero, List.append_assoc, List.singleton_append]
theorem part_end (P : List (List UInt8)) : part P P.length = P := by simp [part]

theorem made_srow {w w1 : World} {P : List (List UInt8)} (h : w1.ownsRow w.heap.size 9 1 (.slice (some ⟨w.heap.size, 0, none⟩) P.length P.length) P.length (madeCells #[.string ByteArray.empty] P.length).toList) : SRow w1 w.heap.size (part P 0) := by
  have e : (madeCells #[.string ByteArray.empty] P.length).toList = (part P 0).map S := by
    rw [← Lib.cellsOf_nil P.length]
    simp [Lib.cellsOf, part, S]
    right; rfl
  rw [e] at h
  exact srow_own h (by simp [part])

end Go.Proofs.YtoanloballaclaaDoor
