import Derived.Test.YtgfldenhhogpbaaGreatDoorZ14
import Derived.Test.YtgfldenhhogpbaaGreatDoorZ17
import Derived.Test.YtgfldenhhogpbaaGreatDoorZ07
import Derived.Test.YtgfldenhhogpbaaGreatDoorZ18
namespace Go.Proofs.YtgfldenhhogpbaaGreatDoor
open Go.RowKit

/-- What CommonOf tells. -/
def commonL (a b : List UInt8) : List UInt8 := joinD ((labelsOf a).drop ((labelsOf a).length - alike (labelsOf a).reverse (labelsOf b).reverse))
def commonT (a b : List UInt8) : List UInt8 := if nameB a && nameB b then commonL a b else []
def strSize : Value → Nat
  | .string s => s.size
  | _ => 0

theorem drop_row {w2 : World} {g ca n : Nat} {A : List (List UInt8)} (hal : n ≤ A.length) (hca : A.length ≤ ca) (hma : ca ≤ maxLen) (hgl : g < w2.heap.size) (hc : Hid (∀ j, (hj : j < A.length) → w2.cell? ⟨g, j, none⟩ = some (S A[j]))) :
    Hid ((ca = A.length - n → Row w2 (.slice (some ⟨g, 0, none⟩) (A.length - (A.length - n)) 0) (A.drop (A.length - n))) ∧ Row w2 (.slice (some ⟨g, A.length - n, none⟩) (A.length - (A.length - n)) (ca - (A.length - n))) (A.drop (A.length - n))) := by
  refine ⟨fun h => ?_, ?_⟩
  · have h0 : A.drop (A.length - n) = [] := List.drop_of_length_le (by omega)
    rw [h0, show A.length - (A.length - n) = 0 by omega]
    exact ⟨_, 0, rfl, Nat.le_refl _, by unfold maxLen; omega, .inl rfl⟩
  · refine ⟨_, _, (by rw [List.length_drop]), by rw [List.length_drop]; omega, by omega, .inr ⟨g, A.length - n, rfl, hgl, fun j hj => ?_⟩⟩
    rw [hc.out (A.length - n + j) (by rw [List.length_drop] at hj; omega), List.getElem_drop]

end Go.Proofs.YtgfldenhhogpbaaGreatDoor

namespace Go.Proofs.YtgfldenhhogpbaaGreatDoor
open Go.RowKit

/-- Whether a name lies in a gap. -/
def covB (o n x : List UInt8) : Bool := decide (cmpN o x < 0) && (decide (cmpN n o ≤ 0) || decide (cmpN x n < 0))
def gapN (o n x : List UInt8) : Bool := nameB o && nameB n && nameB x
def covT (o n x : List UInt8) : Bool := gapN o n x && covB o n x

theorem gap_facts {w W : World} {o n : ByteArray} {v : Value} {t : TypeId} (hb : Below (w.alloc (.cells #[.string o, .string n, v] t)).heap.size (w.alloc (.cells #[.string o, .string n, v] t)) W) :
    W.cell? ⟨w.heap.size, 0, none⟩ = some (.string o) ∧ W.cell? ⟨w.heap.size, 1, none⟩ = some (.string n) ∧ W.cell? ⟨w.heap.size, 2, none⟩ = some v ∧ Below w.heap.size w W :=
  ⟨(gap_cells (gap_below hb).1).1.1, (gap_cells (gap_below hb).1).1.2.1, (gap_cells (gap_below hb).1).1.2.2, (gap_below hb).2⟩

end Go.Proofs.YtgfldenhhogpbaaGreatDoor

namespace Go.Proofs.YtgfldenhhogpbaaGreatDoor
open Go.RowKit

/-- The one of the two names above a name, by a gap, that has more labels. -/
def manyN (s : List UInt8) : Nat := (labelsOf s).length
def closL (o n x : List UInt8) : List UInt8 := if manyN (commonL x o) < manyN (commonL x n) then commonL x n else commonL x o
def closT (o n x : List UInt8) : List UInt8 := if covT o n x = true then closL o n x else []
theorem gval_txt {A B : List UInt8} (h : A = B) : Value.string ⟨A.toArray⟩ = .string ⟨B.toArray⟩ := by rw [h]
theorem gret_txt {A B : List UInt8} (h : A = B) : Ending.returned (.string ⟨A.toArray⟩) = .returned (.string ⟨B.toArray⟩) := by rw [h]
theorem common_name {a b : List UInt8} (ha : nameB a = true) : nameB (commonL a b) = true := com_name b ha
theorem gap_names {o n x : List UInt8} (h : covT o n x = true) : nameB o = true ∧ nameB n = true ∧ nameB x = true := by
  unfold covT gapN at h
  simp only [Bool.and_eq_true] at h
  exact ⟨h.1.1.1, h.1.1.2, h.1.2⟩
theorem cov_gap {o n x : List UInt8} (h : covT o n x = true) : gapN o n x = true := by
  unfold covT at h
  simp only [Bool.and_eq_true] at h
  exact h.1

set_option maxRecDepth 20000 in
set_option maxHeartbeats 1000000 in
theorem l8Many_any (s : ByteArray) (w : World) (hN : Hid (nameB s.data.toList = true)) :
    Calls Tryz.prog 40 #[.string s] w fun e w' => e = .returned (.int .i64 (manyN s.data.toList : Int)) ∧ Below w.heap.size w w' := by
  have hs : s.size ≤ 4294967280 := by
    have h1 : s.size = s.data.toList.length := by rw [Array.length_toList]; rfl
    have h2 := (name_parts hN.out).2.1
    omega
  go_enter Tryz.func40, Tryz.ntmps40
  go_wp2_with fail
  refine (l1Labels_any s w hs).mono ?_
  rintro e w1 ⟨va, rfl, hown, hb⟩
  obtain ⟨a, cap, rfl, hc, hm, _⟩ := row_value (row_own (hown hN.out))
  clear hown
  go_wp2_with fail
  go_ret
  exact ⟨rfl, hb⟩

end Go.Proofs.YtgfldenhhogpbaaGreatDoor
