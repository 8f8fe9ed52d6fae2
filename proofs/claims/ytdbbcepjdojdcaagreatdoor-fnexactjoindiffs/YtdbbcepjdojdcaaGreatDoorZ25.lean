import Derived.Test.YtdbbcepjdojdcaaGreatDoorZ15
import Derived.Test.YtdbbcepjdojdcaaGreatDoorZ24
import Derived.Test.YtdbbcepjdojdcaaGreatDoorZ13
import Derived.Test.YtdbbcepjdojdcaaGreatDoorZ09
import Derived.Test.YtdbbcepjdojdcaaGreatDoorZ40
namespace Go.Proofs.YtdbbcepjdojdcaaGreatDoor
open Go.RowKit

/-- A diff and a bool, told: the lists lie somewhere. -/
def DRes (w' : World) (ok : Bool) (f t : Int) (A U : List (List UInt8 × Int × Int × List UInt8)) (e : Ending) : Prop :=
  ∃ va vu, e = .returned (.tuple #[DifV f t va vu, .bool ok]) ∧ RRow w' va A ∧ RRow w' vu U
/-- The same, in blocks of the call's own. -/
def DOwn (w' : World) (base : Nat) (ok : Bool) (f t : Int) (A U : List (List UInt8 × Int × Int × List UInt8)) (e : Ending) : Prop :=
  ∃ va vu, e = .returned (.tuple #[DifV f t va vu, .bool ok]) ∧ OwnQ w' base va A ∧ OwnQ w' base vu U ∧ ∀ g, va.ownBlock = some g → vu.ownBlock ≠ some g
theorem dres_no (w : World) : DRes w false 0 0 [] [] (.returned (.tuple #[DifV 0 0 (.slice none 0 0) (.slice none 0 0), .bool false])) := ⟨_, _, rfl, rrow_nil _, rrow_nil _⟩
theorem down_no (w : World) (base : Nat) : DOwn w base false 0 0 [] [] (.returned (.tuple #[DifV 0 0 (.slice none 0 0) (.slice none 0 0), .bool false])) := ⟨_, _, rfl, .inl ⟨rfl, rfl⟩, .inl ⟨rfl, rfl⟩, fun g h => by cases h⟩
theorem kpt_put4v (w : World) (g : Nat) (v0 v1 v2 v3 : Value) {S : Nat → Prop} (hs : S g) : Kpt w (put4v w g v0 v1 v2 v3) S := by
  unfold put4v
  exact (((kpt_set _ _ _ _ hs).trans (kpt_set _ _ _ _ hs)).trans (kpt_set _ _ _ _ hs)).trans (kpt_set _ _ _ _ hs)
theorem dif4_frozen {W : World} {b : Nat} {cs : Array Value} {t : TypeId} (h : W.heap[b]? = some (.cells cs t)) :
    W.frozen? ⟨b, 0, none⟩ = false ∧ W.frozen? ⟨b, 1, none⟩ = false ∧ W.frozen? ⟨b, 2, none⟩ = false ∧ W.frozen? ⟨b, 3, none⟩ = false := by
  refine ⟨?_, ?_, ?_, ?_⟩ <;> (unfold World.frozen?; rw [h]; simp)
theorem listB_len {L : List (List UInt8 × Int × Int × List UInt8)} (h : listB L = true) : L.length ≤ 40 := by
  unfold listB at h
  simp only [Bool.and_eq_true, decide_eq_true_eq] at h
  exact h.1
theorem difB_lens {f t : Int} {A U : List (List UInt8 × Int × Int × List UInt8)} (h : difB f t A U = true) : A.length ≤ 40 ∧ U.length ≤ 40 := by
  unfold difB at h
  simp only [Bool.and_eq_true] at h
  exact ⟨listB_len h.1.1.2, listB_len h.1.2⟩
end Go.Proofs.YtdbbcepjdojdcaaGreatDoor

namespace Go.Proofs.YtdbbcepjdojdcaaGreatDoor
open Go.RowKit

/-- A row of records does not lie in a box of an empty diff. -/
theorem RRow.apart4 {W W' : World} {g : Nat} {t : TypeId} {v : Value} {L : List (List UInt8 × Int × Int × List UInt8)} (hr : RRow W v L) (hk : W.heap[g]? = some (.cells #[.int .i64 0, .int .i64 0, .slice none 0 0, .slice none 0 0] t)) (hkpt : Kpt W W' (fun k => k = g)) : RRow W' v L := by
  refine hr.kpt hkpt (fun b o n c e hne h => ?_)
  subst h
  obtain ⟨a, cap, e2, _, _, hrow⟩ := hr
  rcases hrow with h0 | ⟨b', o', e3, _, hcel⟩
  · exact hne h0
  · rw [e2, e3] at e
    injection e with e4 _ _
    injection e4 with e5
    injection e5 with e6 e7 _
    subst e6
    have hl : 0 < L.length := List.length_pos_iff.2 hne
    have h1 := (hcel 0 hl).1
    obtain ⟨k, hkk⟩ : ∃ k, k = o' + 0 * 4 := ⟨_, rfl⟩
    rw [← hkk] at h1
    unfold World.cell? at h1
    rw [hk] at h1
    match k, h1 with
    | 0, h1 => simp at h1
    | 1, h1 => simp at h1
    | 2, h1 => simp at h1
    | 3, h1 => simp at h1
    | k + 4, h1 => simp at h1
end Go.Proofs.YtdbbcepjdojdcaaGreatDoor

namespace Go.Proofs.YtdbbcepjdojdcaaGreatDoor
open Go.RowKit

/-- Two good zones of one apex whose counters are unlike. -/
def offB (n1 : List UInt8) (c1 : Int) (L1 : List (List UInt8 × Int × Int × List UInt8)) (n2 : List UInt8) (c2 : Int) (L2 : List (List UInt8 × Int × Int × List UInt8)) : Bool := zoneB n1 c1 L1 && (zoneB n2 c2 L2 && (decide (n1 = n2) && !(c1 == c2)))
theorem off_apex {n1 n2 : List UInt8} {c1 c2 : Int} {L1 L2 : List (List UInt8 × Int × Int × List UInt8)} (h : ¬ n1 = n2) : offB n1 c1 L1 n2 c2 L2 = false := by
  unfold offB; rw [decide_eq_false h]; simp
theorem off_ct {n1 n2 : List UInt8} {c1 c2 : Int} {L1 L2 : List (List UInt8 × Int × Int × List UInt8)} (h : c1 = c2) : offB n1 c1 L1 n2 c2 L2 = false := by
  unfold offB; rw [show (c1 == c2) = true by simpa using h]; simp
theorem off_one {n1 n2 : List UInt8} {c1 c2 : Int} {L1 L2 : List (List UInt8 × Int × Int × List UInt8)} (h : zoneB n1 c1 L1 = false) : offB n1 c1 L1 n2 c2 L2 = false := by
  unfold offB; rw [h]; rfl
theorem off_two {n1 n2 : List UInt8} {c1 c2 : Int} {L1 L2 : List (List UInt8 × Int × Int × List UInt8)} (h : zoneB n2 c2 L2 = false) : offB n1 c1 L1 n2 c2 L2 = false := by
  unfold offB; rw [h]; simp
theorem off_ok {n1 n2 : List UInt8} {c1 c2 : Int} {L1 L2 : List (List UInt8 × Int × Int × List UInt8)} (h1 : zoneB n1 c1 L1 = true) (h2 : zoneB n2 c2 L2 = true) (h3 : n1 = n2) (h4 : ¬ c1 = c2) : offB n1 c1 L1 n2 c2 L2 = true := by
  unfold offB; rw [h1, h2, decide_eq_true h3, show (c1 == c2) = false by simpa using h4]; rfl
theorem heaps3 {w W : World} {a b c : Array Value} {t1 t2 t3 : TypeId} (hb : Below (((w.alloc (.cells a t1)).alloc (.cells b t2)).alloc (.cells c t3)).heap.size (((w.alloc (.cells a t1)).alloc (.cells b t2)).alloc (.cells c t3)) W) :
    W.heap[w.heap.size]? = some (.cells a t1) ∧ W.heap[w.heap.size + 1]? = some (.cells b t2) ∧ W.heap[w.heap.size + 1 + 1]? = some (.cells c t3) ∧ Below w.heap.size w W ∧ w.heap.size + 1 + 1 < W.heap.size := by
  have h2 : Below ((w.alloc (.cells a t1)).alloc (.cells b t2)).heap.size ((w.alloc (.cells a t1)).alloc (.cells b t2)) W := ((Below.refl _ _).alloc (Nat.le_refl _) _).trans (hb.mono (by simp))
  obtain ⟨k1, k2, k3⟩ := heaps2 h2
  refine ⟨k1, k2, ?_, k3, ?_⟩
  · exact (hb.block (w.heap.size + 1 + 1) (by simp)).trans (heap3_new w _ _ _)
  · have h := hb.size; simp at h; omega
theorem zone_len {n : List UInt8} {c : Int} {L : List (List UInt8 × Int × Int × List UInt8)} (h : zoneB n c L = true) : L.length ≤ 40 := by
  unfold zoneB at h
  simp only [Bool.and_eq_true, decide_eq_true_eq] at h
  obtain ⟨_, h, _⟩ := h
  unfold ruleB at h
  by_cases hc : (apexB n && listB L) = true
  · rw [Bool.and_eq_true] at hc
    exact listB_len hc.2
  · rw [if_neg hc] at h
    omega
end Go.Proofs.YtdbbcepjdojdcaaGreatDoor
