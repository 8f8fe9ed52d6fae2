import Derived.Test.YtgfldenhhogpbaaGreatDoorZ15
import Derived.Test.YtgfldenhhogpbaaGreatDoorZ18
import Derived.Test.YtgfldenhhogpbaaGreatDoorZ08
import Derived.Test.YtgfldenhhogpbaaGreatDoorZ19
import Derived.Test.YtgfldenhhogpbaaGreatDoorZ41
import Derived.Test.YtgfldenhhogpbaaGreatDoorZ20
import Derived.Test.YtgfldenhhogpbaaGreatDoorZ22
namespace Go.Proofs.YtgfldenhhogpbaaGreatDoor
open Go.RowKit

/-- What CommonOf tells. -/
def commonL (a b : List UInt8) : List UInt8 := joinD ((labelsOf a).drop ((labelsOf a).length - alike (labelsOf a).reverse (labelsOf b).reverse))
def commonT (a b : List UInt8) : List UInt8 := if nameB a && nameB b then commonL a b else []
def strSize : Value → Nat
  | .string s => s.size
  | _ => 0

theorem drop_row {w2 : World} {g ca n : Nat} {A : List (List UInt8)} (hal : n ≤ A.length) (hca : A.length ≤ ca) (hma : ca ≤ maxLen) (hgl : g < w2.heap.size) (hc : Hid (∀ j, (hj : j < A.length) → w2.cell? ⟨g, j, none⟩ = some (S A[j]))) :
    Hid ((ca = A.length - n → Row w2 (.slice (some ⟨g, 0, none⟩) (A.length - (A.length - n)) 0) (A.drop (A.length - n))) ∧ Row w2 (.slice (some ⟨g, A.length - n, none⟩) (A.length - (A.length - n)) (ca - (A.length - n))) (A.drop (A.length - n))) := by
  refine ⟨fun h => ?_, ?_⟩
  · have h0 : A.drop (A.length - n) = [] := List.drop_of_length_le (by omega)
    rw [h0, show A.length - (A.length - n) = 0 by omega]
    exact ⟨_, 0, rfl, Nat.le_refl _, by unfold maxLen; omega, .inl rfl⟩
  · refine ⟨_, _, (by rw [List.length_drop]), by rw [List.length_drop]; omega, by omega, .inr ⟨g, A.length - n, rfl, hgl, fun j hj => ?_⟩⟩
    rw [hc.out (A.length - n + j) (by rw [List.length_drop] at hj; omega), List.getElem_drop]

end Go.Proofs.YtgfldenhhogpbaaGreatDoor

namespace Go.Proofs.YtgfldenhhogpbaaGreatDoor
open Go.RowKit

/-- Whether a name lies in a gap. -/
def covB (o n x : List UInt8) : Bool := decide (cmpN o x < 0) && (decide (cmpN n o ≤ 0) || decide (cmpN x n < 0))
def gapN (o n x : List UInt8) : Bool := nameB o && nameB n && nameB x
def covT (o n x : List UInt8) : Bool := gapN o n x && covB o n x

theorem gap_facts {w W : World} {o n : ByteArray} {v : Value} {t : TypeId} (hb : Below (w.alloc (.cells #[.string o, .string n, v] t)).heap.size (w.alloc (.cells #[.string o, .string n, v] t)) W) :
    W.cell? ⟨w.heap.size, 0, none⟩ = some (.string o) ∧ W.cell? ⟨w.heap.size, 1, none⟩ = some (.string n) ∧ W.cell? ⟨w.heap.size, 2, none⟩ = some v ∧ Below w.heap.size w W :=
  ⟨(gap_cells (gap_below hb).1).1.1, (gap_cells (gap_below hb).1).1.2.1, (gap_cells (gap_below hb).1).1.2.2, (gap_below hb).2⟩

end Go.Proofs.YtgfldenhhogpbaaGreatDoor

namespace Go.Proofs.YtgfldenhhogpbaaGreatDoor
open Go.RowKit

/-- The one of the two names above a name, by a gap, that has more labels. -/
def manyN (s : List UInt8) : Nat := (labelsOf s).length
def closL (o n x : List UInt8) : List UInt8 := if manyN (commonL x o) < manyN (commonL x n) then commonL x n else commonL x o
def closT (o n x : List UInt8) : List UInt8 := if covT o n x = true then closL o n x else []
theorem gval_txt {A B : List UInt8} (h : A = B) : Value.string ⟨A.toArray⟩ = .string ⟨B.toArray⟩ := by rw [h]
theorem gret_txt {A B : List UInt8} (h : A = B) : Ending.returned (.string ⟨A.toArray⟩) = .returned (.string ⟨B.toArray⟩) := by rw [h]
theorem common_name {a b : List UInt8} (ha : nameB a = true) : nameB (commonL a b) = true := com_name b ha
theorem gap_names {o n x : List UInt8} (h : covT o n x = true) : nameB o = true ∧ nameB n = true ∧ nameB x = true := by
  unfold covT gapN at h
  simp only [Bool.and_eq_true] at h
  exact ⟨h.1.1.1, h.1.1.2, h.1.2⟩
theorem cov_gap {o n x : List UInt8} (h : covT o n x = true) : gapN o n x = true := by
  unfold covT at h
  simp only [Bool.and_eq_true] at h
  exact h.1

set_option maxRecDepth 20000 in
set_option maxHeartbeats 1000000 in
theorem l8Many_any (s : ByteArray) (w : World) (hN : Hid (nameB s.data.toList = true)) :
    Calls Tryz.prog 40 #[.string s] w fun e w' => e = .returned (.int .i64 (manyN s.data.toList : Int)) ∧ Below w.heap.size w w' := by
  have hs : s.size ≤ 4294967280 := by
    have h1 : s.size = s.data.toList.length := by rw [Array.length_toList]; rfl
    have h2 := (name_parts hN.out).2.1
    omega
  go_enter Tryz.func40, Tryz.ntmps40
  go_wp2_with fail
  refine (l1Labels_any s w hs).mono ?_
  rintro e w1 ⟨va, rfl, hown, hb⟩
  obtain ⟨a, cap, rfl, hc, hm, _⟩ := row_value (row_own (hown hN.out))
  clear hown
  go_wp2_with fail
  go_ret
  exact ⟨rfl, hb⟩

end Go.Proofs.YtgfldenhhogpbaaGreatDoor

namespace Go.Proofs.YtgfldenhhogpbaaGreatDoor
open Go.RowKit

/-- The last of the first zones that a name is below. -/
def lastZ (L : List ZonT) (n : List UInt8) : Nat → Nat
  | 0 => 0
  | k + 1 => if belowB n (zO L k).1 = true then k else lastZ L n k
theorem lastZ_yes {L : List ZonT} {n : List UInt8} {k : Nat} (h : belowB n (zO L k).1 = true) : lastZ L n (k + 1) = k := by show (if _ then _ else _) = _; rw [if_pos h]
theorem lastZ_no {L : List ZonT} {n : List UInt8} {k : Nat} (h : belowB n (zO L k).1 = false) : lastZ L n (k + 1) = lastZ L n k := by show (if _ then _ else _) = _; rw [if_neg (by rw [h]; simp)]
theorem lastZ_le (L : List ZonT) (n : List UInt8) : ∀ k, lastZ L n k ≤ k ∧ (0 < k → lastZ L n k < k)
  | 0 => ⟨Nat.le_refl _, fun h => absurd h (Nat.lt_irrefl _)⟩
  | k + 1 => by
    have ih := lastZ_le L n k
    cases h : belowB n (zO L k).1 with
    | true => rw [lastZ_yes h]; omega
    | false => rw [lastZ_no h]; omega
theorem below_root (n : List UInt8) : belowB n [] = true := by unfold belowB; simp
theorem lastZ_below {L : List ZonT} (h0 : (zO L 0).1 = []) (n : List UInt8) : ∀ k, belowB n (zO L (lastZ L n k)).1 = true
  | 0 => by show belowB n (zO L 0).1 = true; rw [h0]; exact below_root n
  | k + 1 => by
    cases h : belowB n (zO L k).1 with
    | true => rw [lastZ_yes h]; exact h
    | false => rw [lastZ_no h]; exact lastZ_below h0 n k
/-- Of two names above one the one that stands behind has more labels. -/
theorem many_lt {n a b : List UInt8} (hn : nameB n = true) (ha : nameB a = true) (hb : nameB b = true) (h1 : belowB n a = true) (h2 : belowB n b = true) (hc : cmpN a b < 0) : manyN a < manyN b := by
  rw [below_iff hn ha] at h1
  rw [below_iff hn hb] at h2
  unfold manyN
  rcases Nat.lt_or_ge (labelsOf a).length (labelsOf b).length with h | h
  · exact h
  · exfalso
    have h3 : (labelsOf b).reverse <+: (labelsOf a).reverse := List.prefix_of_prefix_length_le h2 h1 (by simpa using h)
    have h4 := pre_le _ _ h3
    have h5 := (tp_names.anti a b).1 hc
    have h6 : cmpN b a = -1 ∨ cmpN b a = 0 ∨ cmpN b a = 1 := cmpR_vals _ _
    have h7 : cmpN b a ≠ 1 := h4
    have h8 : 0 < cmpN b a := h5
    omega
/-- The zones of a good world rise. -/
theorem world_rise {L : List ZonT} (h : ∀ j, (hj : j + 1 < L.length) → cmpN (L[j]'(by omega)).1 (L[j + 1]).1 < 0) : ∀ i j, i < j → (hj : j < L.length) → cmpN (zO L i).1 (zO L j).1 < 0 := by
  intro i j hij hj
  obtain ⟨d, rfl⟩ : ∃ d, j = i + 1 + d := ⟨j - i - 1, by omega⟩
  clear hij
  induction d with
  | zero => rw [zO_at (show i < L.length by omega), zO_at (show i + 1 + 0 < L.length by omega)]; exact h i hj
  | succ d ih =>
    have h1 := ih (by omega)
    have h2 := h (i + 1 + d) (by omega)
    rw [zO_at (show i + 1 + d < L.length by omega)] at h1
    rw [zO_at (show i + 1 + (d + 1) < L.length by omega)]
    exact tp_names.ltr h1 (Int.le_of_lt h2)
/-- What the specification asks at a zone is what the program asks. -/
theorem last_step {L : List ZonT} {n : List UInt8} (hw : worldB L = true) (hn : nameB n = true) {k : Nat} (hk : k < L.length) (hb : belowB n (zO L k).1 = true) : (manyN (zO L (lastZ L n k)).1 < manyN (zO L k).1 ∧ 0 < k) ∨ (k = 0 ∧ lastZ L n k = 0) := by
  obtain ⟨h1, h2, h3, h4⟩ := world_facts hw
  rcases Nat.eq_zero_or_pos k with hk0 | hk0
  · subst hk0; exact .inr ⟨rfl, rfl⟩
  · refine .inl ⟨?_, hk0⟩
    have h5 := (lastZ_le L n k).2 hk0
    have ha : nameB (zO L (lastZ L n k)).1 = true := by rw [zO_at (show lastZ L n k < L.length by omega)]; exact zone_name (h3 _ (by omega))
    have hz : nameB (zO L k).1 = true := by rw [zO_at hk]; exact zone_name (h3 _ hk)
    exact many_lt hn ha hz (lastZ_below h2 n k) hb (world_rise h4 _ _ h5 hk)
def zfO (L : List ZonT) (n : List UInt8) : Bool := nameB n && worldB L
def zfN (L : List ZonT) (n : List UInt8) : Int := if zfO L n = true then (lastZ L n L.length : Int) else 0
theorem zret2 {a b : Int} {p q : Bool} (h1 : a = b) (h2 : p = q) : Ending.returned (.tuple #[.int .i64 a, .bool p]) = .returned (.tuple #[.int .i64 b, .bool q]) := by rw [h1, h2]
end Go.Proofs.YtgfldenhhogpbaaGreatDoor
