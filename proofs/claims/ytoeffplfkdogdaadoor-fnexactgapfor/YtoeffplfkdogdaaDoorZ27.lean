import Derived.Test.YtoeffplfkdogdaaDoorZ25
import Derived.Test.YtoeffplfkdogdaaDoorZ26
namespace Go.Proofs.YtoeffplfkdogdaaDoor
open Go.RowKit

/-- The one of the two names above a name, by a gap, that has more labels. -/
def manyN (s : List UInt8) : Nat := (labelsOf s).length
def closL (o n x : List UInt8) : List UInt8 := if manyN (commonL x o) < manyN (commonL x n) then commonL x n else commonL x o
def closT (o n x : List UInt8) : List UInt8 := if covT o n x = true then closL o n x else []
theorem gval_txt {A B : List UInt8} (h : A = B) : Value.string ⟨A.toArray⟩ = .string ⟨B.toArray⟩ := by rw [h]
theorem gret_txt {A B : List UInt8} (h : A = B) : Ending.returned (.string ⟨A.toArray⟩) = .returned (.string ⟨B.toArray⟩) := by rw [h]
theorem common_name {a b : List UInt8} (ha : nameB a = true) : nameB (commonL a b) = true := com_name b ha
theorem gap_names {o n x : List UInt8} (h : covT o n x = true) : nameB o = true ∧ nameB n = true ∧ nameB x = true := by
  unfold covT gapN at h
  simp only [Bool.and_eq_true] at h
  exact ⟨h.1.1.1, h.1.1.2, h.1.2⟩
theorem cov_gap {o n x : List UInt8} (h : covT o n x = true) : gapN o n x = true := by
  unfold covT at h
  simp only [Bool.and_eq_true] at h
  exact h.1

set_option maxRecDepth 20000 in
set_option maxHeartbeats 1000000 in
theorem l8Many_any (s : ByteArray) (w : World) (hN : Hid (nameB s.data.toList = true)) :
    Calls Tryd.prog 57 #[.string s] w fun e w' => e = .returned (.int .i64 (manyN s.data.toList : Int)) ∧ Below w.heap.size w w' := by
  have hs : s.size ≤ 4294967280 := by
    have h1 : s.size = s.data.toList.length := by rw [Array.length_toList]; rfl
    have h2 := (name_parts hN.out).2.1
    omega
  go_enter Tryd.func57, Tryd.ntmps57
  go_wp2_with fail
  refine (l1Labels_any s w hs).mono ?_
  rintro e w1 ⟨va, rfl, hown, hb⟩
  obtain ⟨a, cap, rfl, hc, hm, _⟩ := row_value (row_own (hown hN.out))
  clear hown
  go_wp2_with fail
  go_ret
  exact ⟨rfl, hb⟩

set_option maxRecDepth 20000 in
set_option maxHeartbeats 2000000 in
theorem l8Closest_any (o n x : ByteArray) (v : Value) (w : World) (ho : o.size ≤ 4294967280) (hn : n.size ≤ 4294967280) (hx : x.size ≤ 4294967280) (hN : Hid (nameB o.data.toList = true ∧ nameB n.data.toList = true ∧ nameB x.data.toList = true)) :
    Calls Tryd.prog 36 #[GapV o n v, .string x] w fun e w' => e = .returned (.string ⟨(closL o.data.toList n.data.toList x.data.toList).toArray⟩) ∧ Below w.heap.size w w' := by
  unfold GapV
  have H1 : Hid (∀ W, Calls Tryd.prog 56 #[.string x, .string o] W fun e w' => e = .returned (.string ⟨(commonL x.data.toList o.data.toList).toArray⟩) ∧ w' = W) := fun W => l1Common_any x o W hx ho ⟨hN.out.2.2, hN.out.1⟩
  have H2 : Hid (∀ W, Calls Tryd.prog 56 #[.string x, .string n] W fun e w' => e = .returned (.string ⟨(commonL x.data.toList n.data.toList).toArray⟩) ∧ w' = W) := fun W => l1Common_any x n W hx hn ⟨hN.out.2.2, hN.out.2.1⟩
  have HA : Hid (∀ W, Calls Tryd.prog 57 #[.string ⟨(commonL x.data.toList o.data.toList).toArray⟩] W fun e w' => e = .returned (.int .i64 (manyN (commonL x.data.toList o.data.toList) : Int)) ∧ Below W.heap.size W w') := fun W => l8Many_any ⟨(commonL x.data.toList o.data.toList).toArray⟩ W (common_name hN.out.2.2)
  have HB : Hid (∀ W, Calls Tryd.prog 57 #[.string ⟨(commonL x.data.toList n.data.toList).toArray⟩] W fun e w' => e = .returned (.int .i64 (manyN (commonL x.data.toList n.data.toList) : Int)) ∧ Below W.heap.size W w') := fun W => l8Many_any ⟨(commonL x.data.toList n.data.toList).toArray⟩ W (common_name hN.out.2.2)
  have HR : Hid (closL o.data.toList n.data.toList x.data.toList = if manyN (commonL x.data.toList o.data.toList) < manyN (commonL x.data.toList n.data.toList) then commonL x.data.toList n.data.toList else commonL x.data.toList o.data.toList) := rfl
  obtain ⟨r, hr⟩ : ∃ r, r = closL o.data.toList n.data.toList x.data.toList := ⟨_, rfl⟩
  rw [← hr] at HR ⊢
  clear hr
  obtain ⟨A, hA⟩ : ∃ c, c = commonL x.data.toList o.data.toList := ⟨_, rfl⟩
  obtain ⟨B, hB⟩ : ∃ c, c = commonL x.data.toList n.data.toList := ⟨_, rfl⟩
  rw [← hA] at H1 HA HR
  rw [← hB] at H2 HB HR
  clear hA hB
  obtain ⟨i, hi⟩ : ∃ c, c = manyN A := ⟨_, rfl⟩
  obtain ⟨j, hj⟩ : ∃ c, c = manyN B := ⟨_, rfl⟩
  rw [← hi] at HA HR
  rw [← hj] at HB HR
  clear hi hj
  have HX : Hid (∀ W, Below (w.alloc (.cells #[.string o, .string n, v] 26)).heap.size (w.alloc (.cells #[.string o, .string n, v] 26)) W → W.cell? ⟨w.heap.size, 0, none⟩ = some (.string o) ∧ W.cell? ⟨w.heap.size, 1, none⟩ = some (.string n) ∧ W.cell? ⟨w.heap.size, 2, none⟩ = some v ∧ Below w.heap.size w W) := fun W hW => gap_facts hW
  go_enter Tryd.func36, Tryd.ntmps36
  go_wp2_with fail
  refine (H1.out _).mono ?_
  rintro e w1 ⟨rfl, rfl⟩
  go_wp2_with fail
  refine (H2.out _).mono ?_
  rintro e w2 ⟨rfl, rfl⟩
  go_wp2_with fail
  refine (HB.out _).mono ?_
  rintro e w3 ⟨rfl, hb3⟩
  go_wp2_with fail
  refine (HA.out _).mono ?_
  rintro e w4 ⟨rfl, hb4⟩
  obtain ⟨_, _, _, hbw⟩ := HX.out _ (hb3.trans (hb4.mono hb3.size))
  by_cases g : i < j
  · have HF : Hid (r = B) := HR.out.trans (if_pos g)
    clear HR
    go_wp2_with fail
    go_ret
    exact ⟨gret_txt HF.out.symm, hbw⟩
  · have HF : Hid (r = A) := HR.out.trans (if_neg g)
    clear HR
    go_wp2_with fail
    go_ret
    exact ⟨gret_txt HF.out.symm, hbw⟩

end Go.Proofs.YtoeffplfkdogdaaDoor

namespace Go.Proofs.YtoeffplfkdogdaaDoor
open Go.RowKit

theorem drop_less {A : List (List UInt8)} (hA : Plain A) : ∀ (d i : Nat), i < A.length → (joinD (A.drop (i + 1 + d))).length < (joinD (A.drop i)).length
  | 0, i, hi => drop_shorter hA i hi
  | d + 1, i, hi => by
    have h := drop_less hA d i hi
    by_cases g : i + 1 + d < A.length
    · have h2 := drop_shorter hA (i + 1 + d) g
      rw [show i + 1 + (d + 1) = i + 1 + d + 1 by omega]
      omega
    · rw [List.drop_of_length_le (show A.length ≤ i + 1 + (d + 1) by omega)]
      rw [List.drop_of_length_le (show A.length ≤ i + 1 + d by omega)] at h
      exact h
theorem many_drop {x : List UInt8} (hx : nameB x = true) (j : Nat) : manyN (joinD ((labelsOf x).drop j)) = (labelsOf x).length - j := by
  unfold manyN
  rw [labels_join ((name_plain hx).drop j), List.length_drop]
/-- Of two names that a name is below, the longer one has more labels. -/
theorem many_len {x : List UInt8} (hx : nameB x = true) (i j : Nat) : manyN (joinD ((labelsOf x).drop i)) < manyN (joinD ((labelsOf x).drop j)) ↔ (joinD ((labelsOf x).drop i)).length < (joinD ((labelsOf x).drop j)).length := by
  rw [many_drop hx, many_drop hx]
  have hp := name_plain hx
  have key : ∀ a b : Nat, a < b → a < (labelsOf x).length → (joinD ((labelsOf x).drop b)).length < (joinD ((labelsOf x).drop a)).length := fun a b h1 h2 => by
    have h := drop_less hp (b - a - 1) a h2
    rw [show a + 1 + (b - a - 1) = b by omega] at h
    exact h
  constructor
  · intro h
    exact key j i (by omega) (by omega)
  · intro h
    by_cases g : (labelsOf x).length - i < (labelsOf x).length - j
    · exact g
    · exfalso
      by_cases g2 : i < j
      · by_cases g3 : i < (labelsOf x).length
        · have := key i j g2 g3; omega
        · rw [List.drop_of_length_le (show (labelsOf x).length ≤ i by omega), List.drop_of_length_le (show (labelsOf x).length ≤ j by omega)] at h
          omega
      · by_cases g4 : i = j
        · rw [g4] at h; omega
        · rw [List.drop_of_length_le (show (labelsOf x).length ≤ i by omega), List.drop_of_length_le (show (labelsOf x).length ≤ j by omega)] at h
          omega
theorem clos_len {o n x : List UInt8} (hx : nameB x = true) : manyN (commonL x o) < manyN (commonL x n) ↔ (commonL x o).length < (commonL x n).length := many_len hx _ _

set_option maxRecDepth 20000 in
set_option maxHeartbeats 1000000 in
theorem ordN_any (a b : ByteArray) (w : World) (hE : Env w) (hN : Hid (nameB a.data.toList = true ∧ nameB b.data.toList = true)) :
    Calls Tryd.prog 53 #[.string a, .string b] w fun e w' => e = .returned (.int .i64 (cmpN a.data.toList b.data.toList)) ∧ Below w.heap.size w w' := by
  have H1 : Hid (∀ W, Env W → Calls Tryd.prog 69 #[.string a, .string b] W fun e w' => e = .returned (.tuple #[.int .i64 (cmpN a.data.toList b.data.toList), .bool (cmpB a.data.toList b.data.toList)]) ∧ Below W.heap.size W w') := fun W hW => by
    have h := iCompareNames_any a b W hW
    rw [show cmpT a.data.toList b.data.toList = cmpN a.data.toList b.data.toList by unfold cmpT; rw [hN.out.1, hN.out.2]; rfl] at h
    exact h
  obtain ⟨c, hc⟩ : ∃ c, c = cmpN a.data.toList b.data.toList := ⟨_, rfl⟩
  rw [← hc] at H1 ⊢
  clear hc
  go_enter Tryd.func53, Tryd.ntmps53
  go_wp2_with fail
  refine (H1.out _ hE).mono ?_
  rintro e w1 ⟨rfl, hb1⟩
  go_wp2_with fail
  go_ret
  exact ⟨rfl, hb1⟩

set_option maxRecDepth 20000 in
set_option maxHeartbeats 2000000 in
theorem isBetween_any (o n x : ByteArray) (v : Value) (w : World) (hE : Env w) (hN : Hid (nameB o.data.toList = true ∧ nameB n.data.toList = true ∧ nameB x.data.toList = true)) :
    Calls Tryd.prog 29 #[GapV o n v, .string x] w fun e w' => e = .returned (.bool (covB o.data.toList n.data.toList x.data.toList)) ∧ Below w.heap.size w w' := by
  unfold GapV
  have H1 : Hid (∀ W, Below w.heap.size w W → Calls Tryd.prog 53 #[.string o, .string x] W fun e w' => e = .returned (.int .i64 (cmpN o.data.toList x.data.toList)) ∧ Below W.heap.size W w') := fun W hW => ordN_any o x W (hE.below hW) ⟨hN.out.1, hN.out.2.2⟩
  have H2 : Hid (∀ W, Below w.heap.size w W → Calls Tryd.prog 53 #[.string n, .string o] W fun e w' => e = .returned (.int .i64 (cmpN n.data.toList o.data.toList)) ∧ Below W.heap.size W w') := fun W hW => ordN_any n o W (hE.below hW) ⟨hN.out.2.1, hN.out.1⟩
  have H3 : Hid (∀ W, Below w.heap.size w W → Calls Tryd.prog 53 #[.string x, .string n] W fun e w' => e = .returned (.int .i64 (cmpN x.data.toList n.data.toList)) ∧ Below W.heap.size W w') := fun W hW => ordN_any x n W (hE.below hW) ⟨hN.out.2.2, hN.out.2.1⟩
  have HR : Hid (covB o.data.toList n.data.toList x.data.toList = (decide (cmpN o.data.toList x.data.toList < 0) && (decide (cmpN n.data.toList o.data.toList ≤ 0) || decide (cmpN x.data.toList n.data.toList < 0)))) := rfl
  obtain ⟨r, hr⟩ : ∃ r, r = covB o.data.toList n.data.toList x.data.toList := ⟨_, rfl⟩
  rw [← hr] at HR ⊢
  clear hr
  obtain ⟨c1, h1⟩ : ∃ c, c = cmpN o.data.toList x.data.toList := ⟨_, rfl⟩
  obtain ⟨c2, h2⟩ : ∃ c, c = cmpN n.data.toList o.data.toList := ⟨_, rfl⟩
  obtain ⟨c3, h3⟩ : ∃ c, c = cmpN x.data.toList n.data.toList := ⟨_, rfl⟩
  rw [← h1] at H1 HR
  rw [← h2] at H2 HR
  rw [← h3] at H3 HR
  clear h1 h2 h3
  have HX : Hid (∀ W, Below (w.alloc (.cells #[.string o, .string n, v] 26)).heap.size (w.alloc (.cells #[.string o, .string n, v] 26)) W → W.cell? ⟨w.heap.size, 0, none⟩ = some (.string o) ∧ W.cell? ⟨w.heap.size, 1, none⟩ = some (.string n) ∧ W.cell? ⟨w.heap.size, 2, none⟩ = some v ∧ Below w.heap.size w W) := fun W hW => gap_facts hW
  go_enter Tryd.func29, Tryd.ntmps29
  go_wp2_with fail
  refine (H1.out _ ((Below.refl w.heap.size w).alloc (Nat.le_refl _) _)).mono ?_
  rintro e w1 ⟨rfl, hb1⟩
  obtain ⟨m0, m1, m2, hbw1⟩ := HX.out _ hb1
  go_wp2_with fail
  refine (H2.out _ hbw1).mono ?_
  rintro e w2 ⟨rfl, hb2⟩
  have hb02 := hb1.trans (hb2.mono hb1.size)
  clear m0 m1 m2
  obtain ⟨m0, m1, m2, hbw2⟩ := HX.out _ hb02
  by_cases g2 : c2 ≤ 0
  · have HF : Hid (r = decide (c1 < 0)) := HR.out.trans (by rw [decide_eq_true g2]; simp)
    clear HR
    go_wp2_with fail
    go_ret
    exact ⟨zret_bool HF.out.symm, hbw2⟩
  · by_cases g1 : c1 < 0
    · have HF : Hid (r = decide (c3 < 0)) := HR.out.trans (by rw [decide_eq_false g2, decide_eq_true g1]; simp)
      clear HR
      go_wp2_with fail
      refine (H3.out _ hbw2).mono ?_
      rintro e w3 ⟨rfl, hb3⟩
      obtain ⟨_, _, _, hbw3⟩ := HX.out _ (hb02.trans (hb3.mono hb02.size))
      go_wp2_with fail
      go_ret
      exact ⟨zret_bool HF.out.symm, hbw3⟩
    · have HF : Hid (r = false) := by rw [HR.out, decide_eq_false g1]; rfl
      clear HR
      go_wp2_with fail
      go_ret
      exact ⟨zret_bool HF.out.symm, hbw2⟩

set_option maxRecDepth 20000 in
set_option maxHeartbeats 2000000 in
theorem hasNames_any (o n : ByteArray) (v : Value) (w : World) (hE : Env w) :
    Calls Tryd.prog 47 #[GapV o n v] w fun e w' => e = .returned (.bool (nameB o.data.toList && nameB n.data.toList)) ∧ Below w.heap.size w w' := by
  unfold GapV
  have H1 : Hid (∀ W, Below w.heap.size w W → Calls Tryd.prog 24 #[.string o] W fun e w' => e = .returned (.bool (nameB o.data.toList)) ∧ Below W.heap.size W w') := fun W hW => iGoodName_any o W (hE.below hW)
  have H2 : Hid (∀ W, Below w.heap.size w W → Calls Tryd.prog 24 #[.string n] W fun e w' => e = .returned (.bool (nameB n.data.toList)) ∧ Below W.heap.size W w') := fun W hW => iGoodName_any n W (hE.below hW)
  obtain ⟨b1, h1⟩ : ∃ b, b = nameB o.data.toList := ⟨_, rfl⟩
  obtain ⟨b2, h2⟩ : ∃ b, b = nameB n.data.toList := ⟨_, rfl⟩
  rw [← h1] at H1 ⊢
  rw [← h2] at H2 ⊢
  clear h1 h2
  have HX : Hid (∀ W, Below (w.alloc (.cells #[.string o, .string n, v] 26)).heap.size (w.alloc (.cells #[.string o, .string n, v] 26)) W → W.cell? ⟨w.heap.size, 0, none⟩ = some (.string o) ∧ W.cell? ⟨w.heap.size, 1, none⟩ = some (.string n) ∧ W.cell? ⟨w.heap.size, 2, none⟩ = some v ∧ Below w.heap.size w W) := fun W hW => gap_facts hW
  go_enter Tryd.func47, Tryd.ntmps47
  go_wp2_with fail
  refine (H1.out _ ((Below.refl w.heap.size w).alloc (Nat.le_refl _) _)).mono ?_
  rintro e w1 ⟨rfl, hb1⟩
  obtain ⟨m0, m1, m2, hbw1⟩ := HX.out _ hb1
  cases b1 with
  | false =>
    go_wp2_with fail
    go_ret
    exact ⟨rfl, hbw1⟩
  | true =>
    go_wp2_with fail
    refine (H2.out _ hbw1).mono ?_
    rintro e w2 ⟨rfl, hb2⟩
    obtain ⟨_, _, _, hbw2⟩ := HX.out _ (hb1.trans (hb2.mono hb1.size))
    go_wp2_with fail
    go_ret
    exact ⟨zret_bool (by cases b2 <;> rfl), hbw2⟩


set_option maxRecDepth 20000 in
set_option maxHeartbeats 2000000 in
theorem closestIn_any (o n x : ByteArray) (v : Value) (w : World) (hE : Env w) (hN : Hid (nameB o.data.toList = true ∧ nameB n.data.toList = true ∧ nameB x.data.toList = true)) :
    Calls Tryd.prog 59 #[GapV o n v, .string x] w fun e w' => e = .returned (.string ⟨(closL o.data.toList n.data.toList x.data.toList).toArray⟩) ∧ Below w.heap.size w w' := by
  unfold GapV
  have HC : Hid (∀ (y : ByteArray) (W : World), nameB y.data.toList = true → Below w.heap.size w W → Calls Tryd.prog 73 #[.string x, .string y] W fun e w' => e = .returned (.tuple #[.string ⟨(commonL x.data.toList y.data.toList).toArray⟩, .bool true]) ∧ Below W.heap.size W w') := fun y W hy hW => by
    have h := iCommonOf_any x y W (hE.below hW)
    have hc : cmpB x.data.toList y.data.toList = true := by unfold cmpB; rw [hN.out.2.2, hy]; rfl
    rw [show commonT x.data.toList y.data.toList = commonL x.data.toList y.data.toList by unfold commonT; rw [show (nameB x.data.toList && nameB y.data.toList) = true from hc]; rfl, hc] at h
    exact h
  have H1 : Hid (∀ W, Below w.heap.size w W → Calls Tryd.prog 73 #[.string x, .string o] W fun e w' => e = .returned (.tuple #[.string ⟨(commonL x.data.toList o.data.toList).toArray⟩, .bool true]) ∧ Below W.heap.size W w') := fun W hW => HC.out o W hN.out.1 hW
  have H2 : Hid (∀ W, Below w.heap.size w W → Calls Tryd.prog 73 #[.string x, .string n] W fun e w' => e = .returned (.tuple #[.string ⟨(commonL x.data.toList n.data.toList).toArray⟩, .bool true]) ∧ Below W.heap.size W w') := fun W hW => HC.out n W hN.out.2.1 hW
  have HR : Hid (closL o.data.toList n.data.toList x.data.toList = if (commonL x.data.toList o.data.toList).length < (commonL x.data.toList n.data.toList).length then commonL x.data.toList n.data.toList else commonL x.data.toList o.data.toList) := by
    show closL o.data.toList n.data.toList x.data.toList = _
    unfold closL
    by_cases g : (commonL x.data.toList o.data.toList).length < (commonL x.data.toList n.data.toList).length
    · rw [if_pos g, if_pos ((clos_len hN.out.2.2).2 g)]
    · rw [if_neg g, if_neg (fun h => g ((clos_len hN.out.2.2).1 h))]
  have HLS : Hid ((commonL x.data.toList o.data.toList).length ≤ 60 ∧ (commonL x.data.toList n.data.toList).length ≤ 60) := ⟨(name_parts (common_name hN.out.2.2)).2.1, (name_parts (common_name hN.out.2.2)).2.1⟩
  clear HC
  obtain ⟨r, hr⟩ : ∃ r, r = closL o.data.toList n.data.toList x.data.toList := ⟨_, rfl⟩
  obtain ⟨A, hA⟩ : ∃ c, c = commonL x.data.toList o.data.toList := ⟨_, rfl⟩
  obtain ⟨B, hB⟩ : ∃ c, c = commonL x.data.toList n.data.toList := ⟨_, rfl⟩
  rw [← hr, ← hA, ← hB] at HR
  rw [← hA, ← hB] at HLS
  rw [← hr]
  rw [← hA] at H1
  rw [← hB] at H2
  clear hr hA hB
  obtain ⟨la, lb⟩ := HLS.out
  clear HLS
  have HX : Hid (∀ W, Below (w.alloc (.cells #[.string o, .string n, v] 26)).heap.size (w.alloc (.cells #[.string o, .string n, v] 26)) W → W.cell? ⟨w.heap.size, 0, none⟩ = some (.string o) ∧ W.cell? ⟨w.heap.size, 1, none⟩ = some (.string n) ∧ W.cell? ⟨w.heap.size, 2, none⟩ = some v ∧ Below w.heap.size w W) := fun W hW => gap_facts hW
  go_enter Tryd.func59, Tryd.ntmps59
  go_wp2_with fail
  refine (H1.out _ ((Below.refl w.heap.size w).alloc (Nat.le_refl _) _)).mono ?_
  rintro e w1 ⟨rfl, hb1⟩
  obtain ⟨m0, m1, m2, hbw1⟩ := HX.out _ hb1
  go_wp2_with fail
  refine (H2.out _ hbw1).mono ?_
  rintro e w2 ⟨rfl, hb2⟩
  obtain ⟨_, _, _, hbw2⟩ := HX.out _ (hb1.trans (hb2.mono hb1.size))
  by_cases g : A.length < B.length
  · have HF : Hid (r = B) := HR.out.trans (if_pos g)
    clear HR
    go_wp2_with fail
    go_ret
    exact ⟨gret_txt HF.out.symm, hbw2⟩
  · have HF : Hid (r = A) := HR.out.trans (if_neg g)
    clear HR
    go_wp2_with fail
    go_ret
    exact ⟨gret_txt HF.out.symm, hbw2⟩

end Go.Proofs.YtoeffplfkdogdaaDoor
