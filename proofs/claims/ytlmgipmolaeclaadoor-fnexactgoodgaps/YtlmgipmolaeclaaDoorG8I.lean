import Derived.Test.YtlmgipmolaeclaaDoorG8C
namespace Go.Proofs.YtlmgipmolaeclaaDoor
open Go.RowKit

theorem drop_less {A : List (List UInt8)} (hA : Plain A) : ∀ (d i : Nat), i < A.length → (joinD (A.drop (i + 1 + d))).length < (joinD (A.drop i)).length
  | 0, i, hi => drop_shorter hA i hi
  | d + 1, i, hi => by
    have h := drop_less hA d i hi
    by_cases g : i + 1 + d < A.length
    · have h2 := drop_shorter hA (i + 1 + d) g
      rw [show i + 1 + (d + 1) = i + 1 + d + 1 by omega]
      omega
    · rw [List.drop_of_length_le (show A.length ≤ i + 1 + (d + 1) by omega)]
      rw [List.drop_of_length_le (show A.length ≤ i + 1 + d by omega)] at h
      exact h
theorem many_drop {x : List UInt8} (hx : nameB x = true) (j : Nat) : manyN (joinD ((labelsOf x).drop j)) = (labelsOf x).length - j := by
  unfold manyN
  rw [labels_join ((name_plain hx).drop j), List.length_drop]
/-- Of two names that a name is below, the longer one has more labels. -/
theorem many_len {x : List UInt8} (hx : nameB x = true) (i j : Nat) : manyN (joinD ((labelsOf x).drop i)) < manyN (joinD ((labelsOf x).drop j)) ↔ (joinD ((labelsOf x).drop i)).length < (joinD ((labelsOf x).drop j)).length := by
  rw [many_drop hx, many_drop hx]
  have hp := name_plain hx
  have key : ∀ a b : Nat, a < b → a < (labelsOf x).length → (joinD ((labelsOf x).drop b)).length < (joinD ((labelsOf x).drop a)).length := fun a b h1 h2 => by
    have h := drop_less hp (b - a - 1) a h2
    rw [show a + 1 + (b - a - 1) = b by omega] at h
    exact h
  constructor
  · intro h
    exact key j i (by omega) (by omega)
  · intro h
    by_cases g : (labelsOf x).length - i < (labelsOf x).length - j
    · exact g
    · exfalso
      by_cases g2 : i < j
      · by_cases g3 : i < (labelsOf x).length
        · have := key i j g2 g3; omega
        · rw [List.drop_of_length_le (show (labelsOf x).length ≤ i by omega), List.drop_of_length_le (show (labelsOf x).length ≤ j by omega)] at h
          omega
      · by_cases g4 : i = j
        · rw [g4] at h; omega
        · rw [List.drop_of_length_le (show (labelsOf x).length ≤ i by omega), List.drop_of_length_le (show (labelsOf x).length ≤ j by omega)] at h
          omega
theorem clos_len {o n x : List UInt8} (hx : nameB x = true) : manyN (commonL x o) < manyN (commonL x n) ↔ (commonL x o).length < (commonL x n).length := many_len hx _ _

set_option maxRecDepth 20000 in
set_option maxHeartbeats 1000000 in
theorem ordN_any (a b : ByteArray) (w : World) (hE : Env w) (hN : Hid (nameB a.data.toList = true ∧ nameB b.data.toList = true)) :
    Calls Tryd.prog 39 #[.string a, .string b] w fun e w' => e = .returned (.int .i64 (cmpN a.data.toList b.data.toList)) ∧ Below w.heap.size w w' := by
  have H1 : Hid (∀ W, Env W → Calls Tryd.prog 47 #[.string a, .string b] W fun e w' => e = .returned (.tuple #[.int .i64 (cmpN a.data.toList b.data.toList), .bool (cmpB a.data.toList b.data.toList)]) ∧ Below W.heap.size W w') := fun W hW => by
    have h := iCompareNames_any a b W hW
    rw [show cmpT a.data.toList b.data.toList = cmpN a.data.toList b.data.toList by unfold cmpT; rw [hN.out.1, hN.out.2]; rfl] at h
    exact h
  obtain ⟨c, hc⟩ : ∃ c, c = cmpN a.data.toList b.data.toList := ⟨_, rfl⟩
  rw [← hc] at H1 ⊢
  clear hc
  go_enter Tryd.func39, Tryd.ntmps39
  go_wp2_with fail
  refine (H1.out _ hE).mono ?_
  rintro e w1 ⟨rfl, hb1⟩
  go_wp2_with fail
  go_ret
  exact ⟨rfl, hb1⟩

set_option maxRecDepth 20000 in
set_option maxHeartbeats 2000000 in
theorem isBetween_any (o n x : ByteArray) (v : Value) (w : World) (hE : Env w) (hN : Hid (nameB o.data.toList = true ∧ nameB n.data.toList = true ∧ nameB x.data.toList = true)) :
    Calls Tryd.prog 31 #[GapV o n v, .string x] w fun e w' => e = .returned (.bool (covB o.data.toList n.data.toList x.data.toList)) ∧ Below w.heap.size w w' := by
  unfold GapV
  have H1 : Hid (∀ W, Below w.heap.size w W → Calls Tryd.prog 39 #[.string o, .string x] W fun e w' => e = .returned (.int .i64 (cmpN o.data.toList x.data.toList)) ∧ Below W.heap.size W w') := fun W hW => ordN_any o x W (hE.below hW) ⟨hN.out.1, hN.out.2.2⟩
  have H2 : Hid (∀ W, Below w.heap.size w W → Calls Tryd.prog 39 #[.string n, .string o] W fun e w' => e = .returned (.int .i64 (cmpN n.data.toList o.data.toList)) ∧ Below W.heap.size W w') := fun W hW => ordN_any n o W (hE.below hW) ⟨hN.out.2.1, hN.out.1⟩
  have H3 : Hid (∀ W, Below w.heap.size w W → Calls Tryd.prog 39 #[.string x, .string n] W fun e w' => e = .returned (.int .i64 (cmpN x.data.toList n.data.toList)) ∧ Below W.heap.size W w') := fun W hW => ordN_any x n W (hE.below hW) ⟨hN.out.2.2, hN.out.2.1⟩
  have HR : Hid (covB o.data.toList n.data.toList x.data.toList = (decide (cmpN o.data.toList x.data.toList < 0) && (decide (cmpN n.data.toList o.data.toList ≤ 0) || decide (cmpN x.data.toList n.data.toList < 0)))) := rfl
  obtain ⟨r, hr⟩ : ∃ r, r = covB o.data.toList n.data.toList x.data.toList := ⟨_, rfl⟩
  rw [← hr] at HR ⊢
  clear hr
  obtain ⟨c1, h1⟩ : ∃ c, c = cmpN o.data.toList x.data.toList := ⟨_, rfl⟩
  obtain ⟨c2, h2⟩ : ∃ c, c = cmpN n.data.toList o.data.toList := ⟨_, rfl⟩
  obtain ⟨c3, h3⟩ : ∃ c, c = cmpN x.data.toList n.data.toList := ⟨_, rfl⟩
  rw [← h1] at H1 HR
  rw [← h2] at H2 HR
  rw [← h3] at H3 HR
  clear h1 h2 h3
  have HX : Hid (∀ W, Below (w.alloc (.cells #[.string o, .string n, v] 35)).heap.size (w.alloc (.cells #[.string o, .string n, v] 35)) W → W.cell? ⟨w.heap.size, 0, none⟩ = some (.string o) ∧ W.cell? ⟨w.heap.size, 1, none⟩ = some (.string n) ∧ W.cell? ⟨w.heap.size, 2, none⟩ = some v ∧ Below w.heap.size w W) := fun W hW => gap_facts hW
  go_enter Tryd.func31, Tryd.ntmps31
  go_wp2_with fail
  refine (H1.out _ ((Below.refl w.heap.size w).alloc (Nat.le_refl _) _)).mono ?_
  rintro e w1 ⟨rfl, hb1⟩
  obtain ⟨m0, m1, m2, hbw1⟩ := HX.out _ hb1
  go_wp2_with fail
  refine (H2.out _ hbw1).mono ?_
  rintro e w2 ⟨rfl, hb2⟩
  have hb02 := hb1.trans (hb2.mono hb1.size)
  clear m0 m1 m2
  obtain ⟨m0, m1, m2, hbw2⟩ := HX.out _ hb02
  by_cases g2 : c2 ≤ 0
  · have HF : Hid (r = decide (c1 < 0)) := HR.out.trans (by rw [decide_eq_true g2]; simp)
    clear HR
    go_wp2_with fail
    go_ret
    exact ⟨zret_bool HF.out.symm, hbw2⟩
  · by_cases g1 : c1 < 0
    · have HF : Hid (r = decide (c3 < 0)) := HR.out.trans (by rw [decide_eq_false g2, decide_eq_true g1]; simp)
      clear HR
      go_wp2_with fail
      refine (H3.out _ hbw2).mono ?_
      rintro e w3 ⟨rfl, hb3⟩
      obtain ⟨_, _, _, hbw3⟩ := HX.out _ (hb02.trans (hb3.mono hb02.size))
      go_wp2_with fail
      go_ret
      exact ⟨zret_bool HF.out.symm, hbw3⟩
    · have HF : Hid (r = false) := by rw [HR.out, decide_eq_false g1]; rfl
      clear HR
      go_wp2_with fail
      go_ret
      exact ⟨zret_bool HF.out.symm, hbw2⟩

set_option maxRecDepth 20000 in
set_option maxHeartbeats 2000000 in
theorem hasNames_any (o n : ByteArray) (v : Value) (w : World) (hE : Env w) :
    Calls Tryd.prog 23 #[GapV o n v] w fun e w' => e = .returned (.bool (nameB o.data.toList && nameB n.data.toList)) ∧ Below w.heap.size w w' := by
  unfold GapV
  have H1 : Hid (∀ W, Below w.heap.size w W → Calls Tryd.prog 30 #[.string o] W fun e w' => e = .returned (.bool (nameB o.data.toList)) ∧ Below W.heap.size W w') := fun W hW => iGoodName_any o W (hE.below hW)
  have H2 : Hid (∀ W, Below w.heap.size w W → Calls Tryd.prog 30 #[.string n] W fun e w' => e = .returned (.bool (nameB n.data.toList)) ∧ Below W.heap.size W w') := fun W hW => iGoodName_any n W (hE.below hW)
  obtain ⟨b1, h1⟩ : ∃ b, b = nameB o.data.toList := ⟨_, rfl⟩
  obtain ⟨b2, h2⟩ : ∃ b, b = nameB n.data.toList := ⟨_, rfl⟩
  rw [← h1] at H1 ⊢
  rw [← h2] at H2 ⊢
  clear h1 h2
  have HX : Hid (∀ W, Below (w.alloc (.cells #[.string o, .string n, v] 35)).heap.size (w.alloc (.cells #[.string o, .string n, v] 35)) W → W.cell? ⟨w.heap.size, 0, none⟩ = some (.string o) ∧ W.cell? ⟨w.heap.size, 1, none⟩ = some (.string n) ∧ W.cell? ⟨w.heap.size, 2, none⟩ = some v ∧ Below w.heap.size w W) := fun W hW => gap_facts hW
  go_enter Tryd.func23, Tryd.ntmps23
  go_wp2_with fail
  refine (H1.out _ ((Below.refl w.heap.size w).alloc (Nat.le_refl _) _)).mono ?_
  rintro e w1 ⟨rfl, hb1⟩
  obtain ⟨m0, m1, m2, hbw1⟩ := HX.out _ hb1
  cases b1 with
  | false =>
    go_wp2_with fail
    go_ret
    exact ⟨rfl, hbw1⟩
  | true =>
    go_wp2_with fail
    refine (H2.out _ hbw1).mono ?_
    rintro e w2 ⟨rfl, hb2⟩
    obtain ⟨_, _, _, hbw2⟩ := HX.out _ (hb1.trans (hb2.mono hb1.size))
    go_wp2_with fail
    go_ret
    exact ⟨zret_bool (by cases b2 <;> rfl), hbw2⟩

set_option maxRecDepth 20000 in
set_option maxHeartbeats 2000000 in
theorem iCovers_any (o n x : ByteArray) (v : Value) (w : World) (hE : Env w) :
    Calls Tryd.prog 14 #[GapV o n v, .string x] w fun e w' => e = .returned (.tuple #[.bool (covT o.data.toList n.data.toList x.data.toList), .bool (gapN o.data.toList n.data.toList x.data.toList)]) ∧ Below w.heap.size w w' := by
  have H1 : Hid (∀ W, Below w.heap.size w W → Calls Tryd.prog 23 #[.agg #[.string o, .string n, v]] W fun e w' => e = .returned (.bool (nameB o.data.toList && nameB n.data.toList)) ∧ Below W.heap.size W w') := fun W hW => hasNames_any o n v W (hE.below hW)
  have H2 : Hid (∀ W, Below w.heap.size w W → Calls Tryd.prog 30 #[.string x] W fun e w' => e = .returned (.bool (nameB x.data.toList)) ∧ Below W.heap.size W w') := fun W hW => iGoodName_any x W (hE.below hW)
  have H3 : Hid ((nameB o.data.toList && nameB n.data.toList) = true → nameB x.data.toList = true → ∀ W, Below w.heap.size w W → Calls Tryd.prog 31 #[.agg #[.string o, .string n, v], .string x] W fun e w' => e = .returned (.bool (covB o.data.toList n.data.toList x.data.toList)) ∧ Below W.heap.size W w') := fun ha hb W hW => by
    simp only [Bool.and_eq_true] at ha
    exact isBetween_any o n x v W (hE.below hW) ⟨ha.1, ha.2, hb⟩
  have HT : Hid (covT o.data.toList n.data.toList x.data.toList = ((nameB o.data.toList && nameB n.data.toList) && nameB x.data.toList && covB o.data.toList n.data.toList x.data.toList) ∧ gapN o.data.toList n.data.toList x.data.toList = ((nameB o.data.toList && nameB n.data.toList) && nameB x.data.toList)) := ⟨rfl, rfl⟩
  obtain ⟨r, hr⟩ : ∃ r, r = covT o.data.toList n.data.toList x.data.toList := ⟨_, rfl⟩
  obtain ⟨k, hk⟩ : ∃ k, k = gapN o.data.toList n.data.toList x.data.toList := ⟨_, rfl⟩
  obtain ⟨cb, hcb⟩ : ∃ cb, cb = covB o.data.toList n.data.toList x.data.toList := ⟨_, rfl⟩
  obtain ⟨b1, h1⟩ : ∃ b, b = (nameB o.data.toList && nameB n.data.toList) := ⟨_, rfl⟩
  obtain ⟨b2, h2⟩ : ∃ b, b = nameB x.data.toList := ⟨_, rfl⟩
  rw [← hr, ← hk, ← hcb, ← h1, ← h2] at HT
  rw [← hr, ← hk]
  rw [← hcb, ← h1, ← h2] at H3
  rw [← h1] at H1
  rw [← h2] at H2
  clear hr hk hcb h1 h2
  unfold GapV
  have HX : Hid (∀ W, Below (w.alloc (.cells #[.string o, .string n, v] 35)).heap.size (w.alloc (.cells #[.string o, .string n, v] 35)) W → W.cell? ⟨w.heap.size, 0, none⟩ = some (.string o) ∧ W.cell? ⟨w.heap.size, 1, none⟩ = some (.string n) ∧ W.cell? ⟨w.heap.size, 2, none⟩ = some v ∧ Below w.heap.size w W) := fun W hW => gap_facts hW
  go_enter Tryd.func14, Tryd.ntmps14
  go_wp2_with fail
  refine (H1.out _ ((Below.refl w.heap.size w).alloc (Nat.le_refl _) _)).mono ?_
  rintro e w1 ⟨rfl, hb1⟩
  obtain ⟨m0, m1, m2, hbw1⟩ := HX.out _ hb1
  cases b1 with
  | false =>
    have HF : Hid (r = false ∧ k = false) := ⟨by rw [HT.out.1]; rfl, by rw [HT.out.2]; rfl⟩
    clear HT
    go_wp2_with fail
    go_ret2
    exact ⟨ret_two (val_bool HF.out.1.symm) (val_bool HF.out.2.symm), hbw1⟩
  | true =>
    go_wp2_with fail
    refine (H2.out _ hbw1).mono ?_
    rintro e w2 ⟨rfl, hb2⟩
    have hb02 := hb1.trans (hb2.mono hb1.size)
    clear m0 m1 m2
    obtain ⟨m0, m1, m2, hbw2⟩ := HX.out _ hb02
    cases b2 with
    | false =>
      have HF : Hid (r = false ∧ k = false) := ⟨by rw [HT.out.1]; rfl, by rw [HT.out.2]; rfl⟩
      clear HT
      go_wp2_with fail
      go_ret2
      exact ⟨ret_two (val_bool HF.out.1.symm) (val_bool HF.out.2.symm), hbw2⟩
    | true =>
      have HF : Hid (r = cb ∧ k = true) := ⟨by rw [HT.out.1]; cases cb <;> rfl, by rw [HT.out.2]; rfl⟩
      clear HT
      go_wp2_with fail
      refine (H3.out (by simp) (by simp) _ hbw2).mono ?_
      rintro e w3 ⟨rfl, hb3⟩
      obtain ⟨_, _, _, hbw3⟩ := HX.out _ (hb02.trans (hb3.mono hb02.size))
      go_wp2_with fail
      go_ret2
      exact ⟨ret_two (val_bool HF.out.1.symm) (val_bool HF.out.2.symm), hbw3⟩

set_option maxRecDepth 20000 in
set_option maxHeartbeats 2000000 in
theorem closestIn_any (o n x : ByteArray) (v : Value) (w : World) (hE : Env w) (hN : Hid (nameB o.data.toList = true ∧ nameB n.data.toList = true ∧ nameB x.data.toList = true)) :
    Calls Tryd.prog 34 #[GapV o n v, .string x] w fun e w' => e = .returned (.string ⟨(closL o.data.toList n.data.toList x.data.toList).toArray⟩) ∧ Below w.heap.size w w' := by
  unfold GapV
  have HC : Hid (∀ (y : ByteArray) (W : World), nameB y.data.toList = true → Below w.heap.size w W → Calls Tryd.prog 43 #[.string x, .string y] W fun e w' => e = .returned (.tuple #[.string ⟨(commonL x.data.toList y.data.toList).toArray⟩, .bool true]) ∧ Below W.heap.size W w') := fun y W hy hW => by
    have h := iCommonOf_any x y W (hE.below hW)
    have hc : cmpB x.data.toList y.data.toList = true := by unfold cmpB; rw [hN.out.2.2, hy]; rfl
    rw [show commonT x.data.toList y.data.toList = commonL x.data.toList y.data.toList by unfold commonT; rw [show (nameB x.data.toList && nameB y.data.toList) = true from hc]; rfl, hc] at h
    exact h
  have H1 : Hid (∀ W, Below w.heap.size w W → Calls Tryd.prog 43 #[.string x, .string o] W fun e w' => e = .returned (.tuple #[.string ⟨(commonL x.data.toList o.data.toList).toArray⟩, .bool true]) ∧ Below W.heap.size W w') := fun W hW => HC.out o W hN.out.1 hW
  have H2 : Hid (∀ W, Below w.heap.size w W → Calls Tryd.prog 43 #[.string x, .string n] W fun e w' => e = .returned (.tuple #[.string ⟨(commonL x.data.toList n.data.toList).toArray⟩, .bool true]) ∧ Below W.heap.size W w') := fun W hW => HC.out n W hN.out.2.1 hW
  have HR : Hid (closL o.data.toList n.data.toList x.data.toList = if (commonL x.data.toList o.data.toList).length < (commonL x.data.toList n.data.toList).length then commonL x.data.toList n.data.toList else commonL x.data.toList o.data.toList) := by
    show closL o.data.toList n.data.toList x.data.toList = _
    unfold closL
    by_cases g : (commonL x.data.toList o.data.toList).length < (commonL x.data.toList n.data.toList).length
    · rw [if_pos g, if_pos ((clos_len hN.out.2.2).2 g)]
    · rw [if_neg g, if_neg (fun h => g ((clos_len hN.out.2.2).1 h))]
  have HLS : Hid ((commonL x.data.toList o.data.toList).length ≤ 60 ∧ (commonL x.data.toList n.data.toList).length ≤ 60) := ⟨(name_parts (common_name hN.out.2.2)).2.1, (name_parts (common_name hN.out.2.2)).2.1⟩
  clear HC
  obtain ⟨r, hr⟩ : ∃ r, r = closL o.data.toList n.data.toList x.data.toList := ⟨_, rfl⟩
  obtain ⟨A, hA⟩ : ∃ c, c = commonL x.data.toList o.data.toList := ⟨_, rfl⟩
  obtain ⟨B, hB⟩ : ∃ c, c = commonL x.data.toList n.data.toList := ⟨_, rfl⟩
  rw [← hr, ← hA, ← hB] at HR
  rw [← hA, ← hB] at HLS
  rw [← hr]
  rw [← hA] at H1
  rw [← hB] at H2
  clear hr hA hB
  obtain ⟨la, lb⟩ := HLS.out
  clear HLS
  have HX : Hid (∀ W, Below (w.alloc (.cells #[.string o, .string n, v] 35)).heap.size (w.alloc (.cells #[.string o, .string n, v] 35)) W → W.cell? ⟨w.heap.size, 0, none⟩ = some (.string o) ∧ W.cell? ⟨w.heap.size, 1, none⟩ = some (.string n) ∧ W.cell? ⟨w.heap.size, 2, none⟩ = some v ∧ Below w.heap.size w W) := fun W hW => gap_facts hW
  go_enter Tryd.func34, Tryd.ntmps34
  go_wp2_with fail
  refine (H1.out _ ((Below.refl w.heap.size w).alloc (Nat.le_refl _) _)).mono ?_
  rintro e w1 ⟨rfl, hb1⟩
  obtain ⟨m0, m1, m2, hbw1⟩ := HX.out _ hb1
  go_wp2_with fail
  refine (H2.out _ hbw1).mono ?_
  rintro e w2 ⟨rfl, hb2⟩
  obtain ⟨_, _, _, hbw2⟩ := HX.out _ (hb1.trans (hb2.mono hb1.size))
  by_cases g : A.length < B.length
  · have HF : Hid (r = B) := HR.out.trans (if_pos g)
    clear HR
    go_wp2_with fail
    go_ret
    exact ⟨gret_txt HF.out.symm, hbw2⟩
  · have HF : Hid (r = A) := HR.out.trans (if_neg g)
    clear HR
    go_wp2_with fail
    go_ret
    exact ⟨gret_txt HF.out.symm, hbw2⟩

set_option maxRecDepth 20000 in
set_option maxHeartbeats 2000000 in
theorem iClosestBy_any (o n x : ByteArray) (v : Value) (w : World) (hE : Env w) :
    Calls Tryd.prog 17 #[GapV o n v, .string x] w fun e w' => e = .returned (.tuple #[.string ⟨(closT o.data.toList n.data.toList x.data.toList).toArray⟩, .bool (covT o.data.toList n.data.toList x.data.toList)]) ∧ Below w.heap.size w w' := by
  have H1 : Hid (∀ W, Below w.heap.size w W → Calls Tryd.prog 14 #[.agg #[.string o, .string n, v], .string x] W fun e w' => e = .returned (.tuple #[.bool (covT o.data.toList n.data.toList x.data.toList), .bool (gapN o.data.toList n.data.toList x.data.toList)]) ∧ Below W.heap.size W w') := fun W hW => iCovers_any o n x v W (hE.below hW)
  have H2 : Hid (covT o.data.toList n.data.toList x.data.toList = true → ∀ W, Below w.heap.size w W → Calls Tryd.prog 34 #[.agg #[.string o, .string n, v], .string x] W fun e w' => e = .returned (.string ⟨(closL o.data.toList n.data.toList x.data.toList).toArray⟩) ∧ Below W.heap.size W w') := fun h W hW => closestIn_any o n x v W (hE.below hW) (gap_names h)
  have HR : Hid (closT o.data.toList n.data.toList x.data.toList = if covT o.data.toList n.data.toList x.data.toList = true then closL o.data.toList n.data.toList x.data.toList else []) := rfl
  obtain ⟨r, hr⟩ : ∃ r, r = closT o.data.toList n.data.toList x.data.toList := ⟨_, rfl⟩
  obtain ⟨c, hc⟩ : ∃ c, c = closL o.data.toList n.data.toList x.data.toList := ⟨_, rfl⟩
  obtain ⟨k, hk⟩ : ∃ k, k = gapN o.data.toList n.data.toList x.data.toList := ⟨_, rfl⟩
  obtain ⟨t, ht⟩ : ∃ k, k = covT o.data.toList n.data.toList x.data.toList := ⟨_, rfl⟩
  rw [← hr, ← hc, ← ht] at HR
  rw [← hk, ← ht] at H1
  rw [← hc, ← ht] at H2
  rw [← hr, ← ht]
  clear hr hc hk ht
  unfold GapV
  have HX : Hid (∀ W, Below (w.alloc (.cells #[.string o, .string n, v] 35)).heap.size (w.alloc (.cells #[.string o, .string n, v] 35)) W → W.cell? ⟨w.heap.size, 0, none⟩ = some (.string o) ∧ W.cell? ⟨w.heap.size, 1, none⟩ = some (.string n) ∧ W.cell? ⟨w.heap.size, 2, none⟩ = some v ∧ Below w.heap.size w W) := fun W hW => gap_facts hW
  go_enter Tryd.func17, Tryd.ntmps17
  go_wp2_with fail
  refine (H1.out _ ((Below.refl w.heap.size w).alloc (Nat.le_refl _) _)).mono ?_
  rintro e w1 ⟨rfl, hb1⟩
  obtain ⟨m0, m1, m2, hbw1⟩ := HX.out _ hb1
  cases t with
  | false =>
    have HF : Hid (r = []) := by rw [HR.out]; rfl
    clear HR H2
    go_wp2_with fail
    go_ret2
    exact ⟨ret_two (gval_txt HF.out.symm) rfl, hbw1⟩
  | true =>
    have HF : Hid (r = c) := by rw [HR.out]; rfl
    clear HR
    go_wp2_with fail
    refine (H2.out (by simp) _ hbw1).mono ?_
    rintro e w2 ⟨rfl, hb2⟩
    obtain ⟨_, _, _, hbw2⟩ := HX.out _ (hb1.trans (hb2.mono hb1.size))
    go_wp2_with fail
    go_ret2
    exact ⟨ret_two (gval_txt HF.out.symm) rfl, hbw2⟩
end Go.Proofs.YtlmgipmolaeclaaDoor
