import Derived.Test.YtoeffplfkdogdaaDoorG8S
import Derived.Test.YtoeffplfkdogdaaDoorNamP
namespace Go.Proofs.YtoeffplfkdogdaaDoor
open Go.RowKit

/-- The one of the two names above a name, by a gap, that has more labels. -/
def manyN (s : List UInt8) : Nat := (labelsOf s).length
def closL (o n x : List UInt8) : List UInt8 := if manyN (commonL x o) < manyN (commonL x n) then commonL x n else commonL x o
def closT (o n x : List UInt8) : List UInt8 := if covT o n x = true then closL o n x else []
theorem gval_txt {A B : List UInt8} (h : A = B) : Value.string ⟨A.toArray⟩ = .string ⟨B.toArray⟩ := by rw [h]
theorem gret_txt {A B : List UInt8} (h : A = B) : Ending.returned (.string ⟨A.toArray⟩) = .returned (.string ⟨B.toArray⟩) := by rw [h]
theorem common_name {a b : List UInt8} (ha : nameB a = true) : nameB (commonL a b) = true := com_name b ha
theorem gap_names {o n x : List UInt8} (h : covT o n x = true) : nameB o = true ∧ nameB n = true ∧ nameB x = true := by
  unfold covT gapN at h
  simp only [Bool.and_eq_true] at h
  exact ⟨h.1.1.1, h.1.1.2, h.1.2⟩
theorem cov_gap {o n x : List UInt8} (h : covT o n x = true) : gapN o n x = true := by
  unfold covT at h
  simp only [Bool.and_eq_true] at h
  exact h.1

set_option maxRecDepth 20000 in
set_option maxHeartbeats 1000000 in
theorem l8Many_any (s : ByteArray) (w : World) (hN : Hid (nameB s.data.toList = true)) :
    Calls Tryd.prog 57 #[.string s] w fun e w' => e = .returned (.int .i64 (manyN s.data.toList : Int)) ∧ Below w.heap.size w w' := by
  have hs : s.size ≤ 4294967280 := by
    have h1 : s.size = s.data.toList.length := by rw [Array.length_toList]; rfl
    have h2 := (name_parts hN.out).2.1
    omega
  go_enter Tryd.func57, Tryd.ntmps57
  go_wp2_with fail
  refine (l1Labels_any s w hs).mono ?_
  rintro e w1 ⟨va, rfl, hown, hb⟩
  obtain ⟨a, cap, rfl, hc, hm, _⟩ := row_value (row_own (hown hN.out))
  clear hown
  go_wp2_with fail
  go_ret
  exact ⟨rfl, hb⟩

set_option maxRecDepth 20000 in
set_option maxHeartbeats 2000000 in
theorem l8Closest_any (o n x : ByteArray) (v : Value) (w : World) (ho : o.size ≤ 4294967280) (hn : n.size ≤ 4294967280) (hx : x.size ≤ 4294967280) (hN : Hid (nameB o.data.toList = true ∧ nameB n.data.toList = true ∧ nameB x.data.toList = true)) :
    Calls Tryd.prog 36 #[GapV o n v, .string x] w fun e w' => e = .returned (.string ⟨(closL o.data.toList n.data.toList x.data.toList).toArray⟩) ∧ Below w.heap.size w w' := by
  unfold GapV
  have H1 : Hid (∀ W, Calls Tryd.prog 56 #[.string x, .string o] W fun e w' => e = .returned (.string ⟨(commonL x.data.toList o.data.toList).toArray⟩) ∧ w' = W) := fun W => l1Common_any x o W hx ho ⟨hN.out.2.2, hN.out.1⟩
  have H2 : Hid (∀ W, Calls Tryd.prog 56 #[.string x, .string n] W fun e w' => e = .returned (.string ⟨(commonL x.data.toList n.data.toList).toArray⟩) ∧ w' = W) := fun W => l1Common_any x n W hx hn ⟨hN.out.2.2, hN.out.2.1⟩
  have HA : Hid (∀ W, Calls Tryd.prog 57 #[.string ⟨(commonL x.data.toList o.data.toList).toArray⟩] W fun e w' => e = .returned (.int .i64 (manyN (commonL x.data.toList o.data.toList) : Int)) ∧ Below W.heap.size W w') := fun W => l8Many_any ⟨(commonL x.data.toList o.data.toList).toArray⟩ W (common_name hN.out.2.2)
  have HB : Hid (∀ W, Calls Tryd.prog 57 #[.string ⟨(commonL x.data.toList n.data.toList).toArray⟩] W fun e w' => e = .returned (.int .i64 (manyN (commonL x.data.toList n.data.toList) : Int)) ∧ Below W.heap.size W w') := fun W => l8Many_any ⟨(commonL x.data.toList n.data.toList).toArray⟩ W (common_name hN.out.2.2)
  have HR : Hid (closL o.data.toList n.data.toList x.data.toList = if manyN (commonL x.data.toList o.data.toList) < manyN (commonL x.data.toList n.data.toList) then commonL x.data.toList n.data.toList else commonL x.data.toList o.data.toList) := rfl
  obtain ⟨r, hr⟩ : ∃ r, r = closL o.data.toList n.data.toList x.data.toList := ⟨_, rfl⟩
  rw [← hr] at HR ⊢
  clear hr
  obtain ⟨A, hA⟩ : ∃ c, c = commonL x.data.toList o.data.toList := ⟨_, rfl⟩
  obtain ⟨B, hB⟩ : ∃ c, c = commonL x.data.toList n.data.toList := ⟨_, rfl⟩
  rw [← hA] at H1 HA HR
  rw [← hB] at H2 HB HR
  clear hA hB
  obtain ⟨i, hi⟩ : ∃ c, c = manyN A := ⟨_, rfl⟩
  obtain ⟨j, hj⟩ : ∃ c, c = manyN B := ⟨_, rfl⟩
  rw [← hi] at HA HR
  rw [← hj] at HB HR
  clear hi hj
  have HX : Hid (∀ W, Below (w.alloc (.cells #[.string o, .string n, v] 26)).heap.size (w.alloc (.cells #[.string o, .string n, v] 26)) W → W.cell? ⟨w.heap.size, 0, none⟩ = some (.string o) ∧ W.cell? ⟨w.heap.size, 1, none⟩ = some (.string n) ∧ W.cell? ⟨w.heap.size, 2, none⟩ = some v ∧ Below w.heap.size w W) := fun W hW => gap_facts hW
  go_enter Tryd.func36, Tryd.ntmps36
  go_wp2_with fail
  refine (H1.out _).mono ?_
  rintro e w1 ⟨rfl, rfl⟩
  go_wp2_with fail
  refine (H2.out _).mono ?_
  rintro e w2 ⟨rfl, rfl⟩
  go_wp2_with fail
  refine (HB.out _).mono ?_
  rintro e w3 ⟨rfl, hb3⟩
  go_wp2_with fail
  refine (HA.out _).mono ?_
  rintro e w4 ⟨rfl, hb4⟩
  obtain ⟨_, _, _, hbw⟩ := HX.out _ (hb3.trans (hb4.mono hb3.size))
  by_cases g : i < j
  · have HF : Hid (r = B) := HR.out.trans (if_pos g)
    clear HR
    go_wp2_with fail
    go_ret
    exact ⟨gret_txt HF.out.symm, hbw⟩
  · have HF : Hid (r = A) := HR.out.trans (if_neg g)
    clear HR
    go_wp2_with fail
    go_ret
    exact ⟨gret_txt HF.out.symm, hbw⟩

end Go.Proofs.YtoeffplfkdogdaaDoor
