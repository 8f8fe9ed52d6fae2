import Derived.Test.YtbcgalhegkhmbaaGreatDoorZ24
import Derived.Test.YtbcgalhegkhmbaaGreatDoorZ43
import Derived.Test.YtbcgalhegkhmbaaGreatDoorZ37
namespace Go.Proofs.YtbcgalhegkhmbaaGreatDoor
open Go.RowKit

/-- Two good zones of one apex whose counters are unlike. -/
def offB (n1 : List UInt8) (c1 : Int) (L1 : List (List UInt8 × Int × Int × List UInt8)) (n2 : List UInt8) (c2 : Int) (L2 : List (List UInt8 × Int × Int × List UInt8)) : Bool := zoneB n1 c1 L1 && (zoneB n2 c2 L2 && (decide (n1 = n2) && !(c1 == c2)))
theorem off_apex {n1 n2 : List UInt8} {c1 c2 : Int} {L1 L2 : List (List UInt8 × Int × Int × List UInt8)} (h : ¬ n1 = n2) : offB n1 c1 L1 n2 c2 L2 = false := by
  unfold offB; rw [decide_eq_false h]; simp
theorem off_ct {n1 n2 : List UInt8} {c1 c2 : Int} {L1 L2 : List (List UInt8 × Int × Int × List UInt8)} (h : c1 = c2) : offB n1 c1 L1 n2 c2 L2 = false := by
  unfold offB; rw [show (c1 == c2) = true by simpa using h]; simp
theorem off_one {n1 n2 : List UInt8} {c1 c2 : Int} {L1 L2 : List (List UInt8 × Int × Int × List UInt8)} (h : zoneB n1 c1 L1 = false) : offB n1 c1 L1 n2 c2 L2 = false := by
  unfold offB; rw [h]; rfl
theorem off_two {n1 n2 : List UInt8} {c1 c2 : Int} {L1 L2 : List (List UInt8 × Int × Int × List UInt8)} (h : zoneB n2 c2 L2 = false) : offB n1 c1 L1 n2 c2 L2 = false := by
  unfold offB; rw [h]; simp
theorem off_ok {n1 n2 : List UInt8} {c1 c2 : Int} {L1 L2 : List (List UInt8 × Int × Int × List UInt8)} (h1 : zoneB n1 c1 L1 = true) (h2 : zoneB n2 c2 L2 = true) (h3 : n1 = n2) (h4 : ¬ c1 = c2) : offB n1 c1 L1 n2 c2 L2 = true := by
  unfold offB; rw [h1, h2, decide_eq_true h3, show (c1 == c2) = false by simpa using h4]; rfl
theorem heaps3 {w W : World} {a b c : Array Value} {t1 t2 t3 : TypeId} (hb : Below (((w.alloc (.cells a t1)).alloc (.cells b t2)).alloc (.cells c t3)).heap.size (((w.alloc (.cells a t1)).alloc (.cells b t2)).alloc (.cells c t3)) W) :
    W.heap[w.heap.size]? = some (.cells a t1) ∧ W.heap[w.heap.size + 1]? = some (.cells b t2) ∧ W.heap[w.heap.size + 1 + 1]? = some (.cells c t3) ∧ Below w.heap.size w W ∧ w.heap.size + 1 + 1 < W.heap.size := by
  have h2 : Below ((w.alloc (.cells a t1)).alloc (.cells b t2)).heap.size ((w.alloc (.cells a t1)).alloc (.cells b t2)) W := ((Below.refl _ _).alloc (Nat.le_refl _) _).trans (hb.mono (by simp))
  obtain ⟨k1, k2, k3⟩ := heaps2 h2
  refine ⟨k1, k2, ?_, k3, ?_⟩
  · exact (hb.block (w.heap.size + 1 + 1) (by simp)).trans (heap3_new w _ _ _)
  · have h := hb.size; simp at h; omega
theorem zone_len {n : List UInt8} {c : Int} {L : List (List UInt8 × Int × Int × List UInt8)} (h : zoneB n c L = true) : L.length ≤ 40 := by
  unfold zoneB at h
  simp only [Bool.and_eq_true, decide_eq_true_eq] at h
  obtain ⟨_, h, _⟩ := h
  unfold ruleB at h
  by_cases hc : (apexB n && listB L) = true
  · rw [Bool.and_eq_true] at hc
    exact listB_len hc.2
  · rw [if_neg hc] at h
    omega
end Go.Proofs.YtbcgalhegkhmbaaGreatDoor
