import Derived.Test.YtafbnhelcoofmaaNxI
namespace Go.Proofs.Ytafbnhelcoofmaa.nextTurn
open Go.RowKit

set_option maxRecDepth 20000 in
set_option maxHeartbeats 8000000 in
theorem core (va vu : Value) (A U AA LL : List Int) (ok : Bool) (KK : Int) (w0 : World) (ha : ZRow .i64 w0 va A) (hu : ZRow .i64 w0 vu U) (hAl : A.length ≤ 1048576 → U.length ≤ 1048576 → AA.length ≤ 1048576 ∧ LL.length ≤ 1048576)
    (HS0 : Hid (A.length ≤ 1048576 → U.length ≤ 1048576 → ∀ b v1 v2 W, OwnT W b v1 v2 A U → Calls Try.prog 21 #[TrnV v1 v2] W fun e w' => (∃ va vu, e = .returned (.tuple #[TrnV va vu, .int .i64 KK, .bool ok]) ∧ OwnT w' W.heap.size va vu AA LL) ∧ Below W.heap.size W w'))
    (HI0 : Hid (A.length ≤ 1048576 → U.length ≤ 1048576 → ∀ b v1 v2 W, OwnT W b v1 v2 A U → Calls Try.prog 23 #[TrnV v1 v2] W fun e w' => (∃ va vu, e = .returned (.tuple #[TrnV va vu, .int .i64 KK, .bool ok]) ∧ OwnT w' W.heap.size va vu AA LL) ∧ Below W.heap.size W w')) :
    Calls Try.prog 5 #[TrnV va vu] w0 fun e w' => e = .returned (.bool true) ∧ Below w0.heap.size w0 w' := by
  have HSZ : Hid (∀ W, Below w0.heap.size w0 W → Calls Try.prog 20 #[TrnV va vu, .int .i64 1048576] W fun e w' => (∃ q : Int, e = .returned (.int .i64 q) ∧ (q = -1 ∨ (0 ≤ q ∧ q = 1048576 - (A.length : Int) - (U.length : Int)))) ∧ Below W.heap.size W w') := fun W hW => szTurn_any va vu A U W (ha.kept hW) (hu.kept hW)
  have HT0 : Hid (A.length ≤ 1048576 → U.length ≤ 1048576 → ∀ W, Below w0.heap.size w0 W → Calls Try.prog 22 #[TrnV va vu] W fun e w' => (∃ g1 g2, e = .returned (TrnV (.slice (some ⟨g1, 0, none⟩) A.length A.length) (.slice (some ⟨g2, 0, none⟩) U.length U.length)) ∧ OwnT w' W.heap.size (.slice (some ⟨g1, 0, none⟩) A.length A.length) (.slice (some ⟨g2, 0, none⟩) U.length U.length) A U) ∧ Below W.heap.size W w') := fun h1 h2 W hW => (toTurn_any va vu A U W (ha.kept hW) (hu.kept hW) h1 h2).mono fun e w' h => by
    obtain ⟨⟨g1, g2, he, hg1, hg12, q1, q2⟩, hb⟩ := h
    exact ⟨⟨g1, g2, he, .inr ⟨g1, A.length, g2, U.length, rfl, rfl, Nat.le_refl _, by omega, Nat.le_refl _, by omega, hg1, by omega, by omega, q1, q2⟩⟩, hb⟩
  obtain ⟨xa, xc, rfl, _, _, _⟩ := zrow_value ha
  obtain ⟨ya, yc, rfl, _, _, _⟩ := zrow_value hu
  clear ha hu
  unfold TrnV at HSZ HT0 ⊢
  go_enter Try.func5, Try.ntmps5
  go_wp2_with fail
  refine (HSZ.out _ ((Below.refl w0.heap.size w0).alloc (Nat.le_refl _) _)).mono ?_
  rintro e w1 ⟨⟨q, rfl, hq⟩, hb1⟩
  have hbw_w1 : Below w0.heap.size w0 w1 := ((Below.refl w0.heap.size w0).alloc (Nat.le_refl _) _).trans (hb1.mono (by simp))
  have BA_w1 : Hid (w1.heap[w0.heap.size]? = some (.cells #[.slice xa A.length xc, .slice ya U.length yc] 38)) := (hb1.block w0.heap.size (by simp)).trans (trn_new _ _)
  have hz_w1 : w0.heap.size < w1.heap.size := Nat.lt_of_lt_of_le (by simp) hb1.size
  clear hb1
  rcases hq with rfl | ⟨hq0, hqe⟩
  · go_wp2_with fail
    go_ret
    exact ⟨rfl, hbw_w1⟩
  · have hA : A.length ≤ 1048576 := by omega
    have hU : U.length ≤ 1048576 := by omega
    have HTO := HT0.out hA hU
    have HT : Hid (∀ W, Below w0.heap.size w0 W → Calls Try.prog 22 #[.agg #[.slice xa A.length xc, .slice ya U.length yc]] W fun e w' => (∃ g1 g2, e = .returned (TrnV (.slice (some ⟨g1, 0, none⟩) A.length A.length) (.slice (some ⟨g2, 0, none⟩) U.length U.length)) ∧ OwnT w' W.heap.size (.slice (some ⟨g1, 0, none⟩) A.length A.length) (.slice (some ⟨g2, 0, none⟩) U.length U.length) A U) ∧ Below W.heap.size W w') := HTO
    have hAU := hAl hA hU
    have HSP := HS0.out hA hU
    have HS : Hid (∀ b v1 v2 W, OwnT W b v1 v2 A U → Calls Try.prog 21 #[TrnV v1 v2] W fun e w' => (∃ va vu, e = .returned (.tuple #[TrnV va vu, .int .i64 KK, .bool ok]) ∧ OwnT w' W.heap.size va vu AA LL) ∧ Below W.heap.size W w') := HSP
    have HIP := HI0.out hA hU
    have HI : Hid (∀ b v1 v2 W, OwnT W b v1 v2 A U → Calls Try.prog 23 #[TrnV v1 v2] W fun e w' => (∃ va vu, e = .returned (.tuple #[TrnV va vu, .int .i64 KK, .bool ok]) ∧ OwnT w' W.heap.size va vu AA LL) ∧ Below W.heap.size W w') := HIP
    have HEQ : Hid (∀ va vu va2 vu2 b1 b2 W, OwnT W b1 va vu AA LL → OwnT W b2 va2 vu2 AA LL → Calls Try.prog 17 #[TrnV va vu, TrnV va2 vu2] W fun e w' => e = .returned (.bool true) ∧ Below W.heap.size W w') := fun va vu va2 vu2 b1 b2 W h1 h2 => eqTurn_same va vu va2 vu2 AA LL W h1.rows.1 h1.rows.2 h2.rows.1 h2.rows.2
    have HEX : Hid (∀ va vu va2 vu2 b1 b2 W, OwnT W b1 va vu A U → OwnT W b2 va2 vu2 A U → Calls Try.prog 17 #[TrnV va vu, TrnV va2 vu2] W fun e w' => e = .returned (.bool true) ∧ Below W.heap.size W w') := fun va vu va2 vu2 b1 b2 W h1 h2 => eqTurn_same va vu va2 vu2 A U W h1.rows.1 h1.rows.2 h2.rows.1 h2.rows.2
    have HMK : Hid (∀ va vu base W, OwnT W base va vu AA LL → Calls Try.prog 18 #[TrnV va vu, .int .i64 1] W fun e w' => e = .returned (.int .i64 (1 + (AA.length : Int) + (LL.length : Int))) ∧ OwnT w' base va vu (mksZ 1 AA.length) (mksZ (1 + AA.length) LL.length) ∧ Kpt W w' (inT va vu)) := fun va vu base W h => markTurnO_any va vu AA LL base W h hAU.1 hAU.2
    have HHD : Hid (∀ va vu base W, OwnT W base va vu (mksZ 1 AA.length) (mksZ (1 + AA.length) LL.length) → Calls Try.prog 19 #[TrnV va vu, .int .i64 1] W fun e w' => e = .returned (.int .i64 (1 + (AA.length : Int) + (LL.length : Int))) ∧ Below W.heap.size W w') := fun va vu base W h => heldTurnO_any va vu AA.length LL.length base W h hAU.1 hAU.2
    have HMX : Hid (∀ va vu base W, OwnT W base va vu A U → Calls Try.prog 18 #[TrnV va vu, .int .i64 1] W fun e w' => e = .returned (.int .i64 (1 + (A.length : Int) + (U.length : Int))) ∧ OwnT w' base va vu (mksZ 1 A.length) (mksZ (1 + A.length) U.length) ∧ Kpt W w' (inT va vu)) := fun va vu base W h => markTurnO_any va vu A U base W h hA hU
    obtain ⟨m, hm⟩ : ∃ m : Int, m = 1 + (AA.length : Int) + (LL.length : Int) := ⟨_, rfl⟩
    rw [← hm] at HMK HHD
    obtain ⟨x, hx⟩ : ∃ x : Int, x = 1 + (A.length : Int) + (U.length : Int) := ⟨_, rfl⟩
    rw [← hx] at HMX
    have hm0 : ¬ m < 0 := by omega
    have em : (m != m) = false := by simp
    have hx0 : ¬ x < 0 := by omega
    have e2 : (ok != ok) = false := by simp
    have e3 : (KK != KK) = false := by simp
    unfold TrnV at HS HI HEQ HEX HMK HHD HMX HT
    clear hm hx HS0 HI0 HSP HIP HTO HT0 HSZ hAl hqe hAU
    obtain ⟨⟨p0, p1⟩, _⟩ := trn_cells BA_w1.out
    go_wp2_with fail
    refine (HT.out _ hbw_w1).mono ?_
    rintro e w2 ⟨⟨s1, s2, rfl, hoS⟩, hb2⟩
    have HX_w2 : Hid (OwnT w2 w1.heap.size (.slice (some ⟨s1, 0, none⟩) A.length A.length) (.slice (some ⟨s2, 0, none⟩) U.length U.length) A U) := hoS
    clear p0 p1 hoS
    (try unfold TrnV)
    have hbw_w2 : Below w0.heap.size w0 w2 := hbw_w1.trans (hb2.mono hbw_w1.size)
    have hz_w2 : w1.heap.size ≤ w2.heap.size := hb2.size
    have BA_w2 : Hid (w2.heap[w0.heap.size]? = some (.cells #[.slice xa A.length xc, .slice ya U.length yc] 38)) := (hb2.block w0.heap.size (by omega)).trans BA_w1.out
    clear BA_w1 hb2 hbw_w1 
    go_wp2_with fail
    refine (HS.out _ _ _ _ HX_w2.out).mono ?_
    rintro e w3 ⟨⟨va1, vu1, rfl, ho1⟩, hb3⟩
    obtain ⟨a1, c1, b1, d1, rfl, rfl⟩ := ho1.shape
    (try unfold TrnV)
    have HL1 : Hid (∀ k, inT (Value.slice a1 AA.length c1) (Value.slice b1 LL.length d1) k → w2.heap.size ≤ k ∧ k < w3.heap.size) := fun k h => ho1.lt k h
    have OA_w3 : Hid (OwnT w3 w2.heap.size (.slice a1 AA.length c1) (.slice b1 LL.length d1) AA LL) := ho1
    clear ho1 HX_w2
    have hbw_w3 : Below w0.heap.size w0 w3 := hbw_w2.trans (hb3.mono hbw_w2.size)
    have hz_w3 : w2.heap.size ≤ w3.heap.size := hb3.size
    have BA_w3 : Hid (w3.heap[w0.heap.size]? = some (.cells #[.slice xa A.length xc, .slice ya U.length yc] 38)) := (hb3.block w0.heap.size (by omega)).trans BA_w2.out
    clear BA_w2 hb3 hbw_w2 
    have hbA : Below w3.heap.size w3 (w3.alloc (.cells #[.slice a1 AA.length c1, .slice b1 LL.length d1] 33)) := (Below.refl _ _).alloc (Nat.le_refl _) _
    have hlt3 : w0.heap.size < w3.heap.size := by omega
    obtain ⟨⟨p0, p1⟩, _⟩ := trn_cells BA_w3.out
    go_wp2_with fail
    refine (HT.out _ (hbw_w3.trans (hbA.mono hbw_w3.size))).mono ?_
    rintro e w4 ⟨⟨g1, g2, rfl, hoX⟩, hb4⟩
    clear p0 p1
    (try unfold TrnV)
    have hsz4 : (w3.alloc (.cells #[.slice a1 AA.length c1, .slice b1 LL.length d1] 33)).heap.size = w3.heap.size + 1 := by simp
    rw [hsz4] at hoX
    have hb34 : Below w3.heap.size w3 w4 := hbA.trans (hb4.mono (by simp))
    have hx4 : w4.heap[w3.heap.size]? = some (.cells #[.slice a1 AA.length c1, .slice b1 LL.length d1] 33) := (hb4.block w3.heap.size (by simp)).trans (trn_new _ _)
    have HLX : Hid (∀ k, inT (Value.slice (some ⟨g1, 0, none⟩) A.length A.length) (Value.slice (some ⟨g2, 0, none⟩) U.length U.length) k → w3.heap.size + 1 ≤ k ∧ k < w4.heap.size) := fun k h => hoX.lt k h
    have hz34 : w3.heap.size < w4.heap.size := by have h := hb4.size; rw [hsz4] at h; omega
    clear hb4 hbA hsz4
    have hbw_w4 : Below w0.heap.size w0 w4 := hbw_w3.trans (hb34.mono hbw_w3.size)
    have hz_w4 : w3.heap.size ≤ w4.heap.size := hb34.size
    have BA_w4 : Hid (w4.heap[w0.heap.size]? = some (.cells #[.slice xa A.length xc, .slice ya U.length yc] 38)) := (hb34.block w0.heap.size (by omega)).trans BA_w3.out
    have OA_w4 : Hid (OwnT w4 w2.heap.size (.slice a1 AA.length c1) (.slice b1 LL.length d1) AA LL) := OA_w3.out.kept hb34
    clear BA_w3 OA_w3 hb34 hbw_w3 
    have B4_w4 : Hid (w4.heap[w3.heap.size]? = some (.cells #[.slice a1 AA.length c1, .slice b1 LL.length d1] 33)) := hx4
    have XO_w4 : Hid (OwnT w4 (w3.heap.size + 1) (.slice (some ⟨g1, 0, none⟩) A.length A.length) (.slice (some ⟨g2, 0, none⟩) U.length U.length) A U) := hoX
    clear hx4 hoX
    have hbA : Below w4.heap.size w4 (w4.alloc (.cells #[.slice (some ⟨g1, 0, none⟩) A.length A.length, .slice (some ⟨g2, 0, none⟩) U.length U.length] 33)) := (Below.refl _ _).alloc (Nat.le_refl _) _
    go_wp2_with fail
    refine (HI.out _ _ _ _ (XO_w4.out.kept hbA)).mono ?_
    rintro e w5 ⟨⟨va2, vu2, rfl, ho2⟩, hb5⟩
    obtain ⟨a2, c2, b2, d2, rfl, rfl⟩ := ho2.shape
    (try unfold TrnV)
    have hsz5 : (w4.alloc (.cells #[.slice (some ⟨g1, 0, none⟩) A.length A.length, .slice (some ⟨g2, 0, none⟩) U.length U.length] 33)).heap.size = w4.heap.size + 1 := by simp
    rw [hsz5] at ho2
    have hb45 : Below w4.heap.size w4 w5 := hbA.trans (hb5.mono (by simp))
    have hx5 : w5.heap[w4.heap.size]? = some (.cells #[.slice (some ⟨g1, 0, none⟩) A.length A.length, .slice (some ⟨g2, 0, none⟩) U.length U.length] 33) := (hb5.block w4.heap.size (by simp)).trans (trn_new _ _)
    have HL2 : Hid (∀ k, inT (Value.slice a2 AA.length c2) (Value.slice b2 LL.length d2) k → w4.heap.size + 1 ≤ k ∧ k < w5.heap.size) := fun k h => ho2.lt k h
    have hz45 : w4.heap.size < w5.heap.size := by have h := hb5.size; rw [hsz5] at h; omega
    have HO_w5 : Hid (OwnT w5 (w4.heap.size + 1) (.slice a2 AA.length c2) (.slice b2 LL.length d2) AA LL) := ho2
    clear ho2 hb5 hbA hsz5
    have hbw_w5 : Below w0.heap.size w0 w5 := hbw_w4.trans (hb45.mono hbw_w4.size)
    have hz_w5 : w4.heap.size ≤ w5.heap.size := hb45.size
    have BA_w5 : Hid (w5.heap[w0.heap.size]? = some (.cells #[.slice xa A.length xc, .slice ya U.length yc] 38)) := (hb45.block w0.heap.size (by omega)).trans BA_w4.out
    have OA_w5 : Hid (OwnT w5 w2.heap.size (.slice a1 AA.length c1) (.slice b1 LL.length d1) AA LL) := OA_w4.out.kept hb45
    have B4_w5 : Hid (w5.heap[w3.heap.size]? = some (.cells #[.slice a1 AA.length c1, .slice b1 LL.length d1] 33)) := (hb45.block w3.heap.size (by omega)).trans B4_w4.out
    have XO_w5 : Hid (OwnT w5 (w3.heap.size + 1) (.slice (some ⟨g1, 0, none⟩) A.length A.length) (.slice (some ⟨g2, 0, none⟩) U.length U.length) A U) := XO_w4.out.kept hb45
    clear BA_w4 OA_w4 B4_w4 XO_w4 hb45 hbw_w4 
    have B7_w5 : Hid (w5.heap[w4.heap.size]? = some (.cells #[.slice (some ⟨g1, 0, none⟩) A.length A.length, .slice (some ⟨g2, 0, none⟩) U.length U.length] 33)) := hx5
    clear hx5
    have hbA : Below w5.heap.size w5 (w5.alloc (.cells #[.slice a2 AA.length c2, .slice b2 LL.length d2] 33)) := (Below.refl _ _).alloc (Nat.le_refl _) _
    have hlt5 : w3.heap.size < w5.heap.size := by omega
    obtain ⟨⟨d0, d1⟩, _⟩ := trn_cells B4_w5.out
    go_wp2_with fail
    refine (HEQ.out _ _ _ _ _ _ _ (HO_w5.out.kept hbA) (OA_w5.out.kept hbA)).mono ?_
    rintro e w6 ⟨rfl, hb6⟩
    clear d0 d1
    have hb56 : Below w5.heap.size w5 w6 := hbA.trans (hb6.mono (by simp))
    have hx6 : w6.heap[w5.heap.size]? = some (.cells #[.slice a2 AA.length c2, .slice b2 LL.length d2] 33) := (hb6.block w5.heap.size (by simp)).trans (trn_new _ _)
    have hz56 : w5.heap.size < w6.heap.size := Nat.lt_of_lt_of_le (by simp) hb6.size
    clear hb6 hbA
    have hbw_w6 : Below w0.heap.size w0 w6 := hbw_w5.trans (hb56.mono hbw_w5.size)
    have hz_w6 : w5.heap.size ≤ w6.heap.size := hb56.size
    have BA_w6 : Hid (w6.heap[w0.heap.size]? = some (.cells #[.slice xa A.length xc, .slice ya U.length yc] 38)) := (hb56.block w0.heap.size (by omega)).trans BA_w5.out
    have OA_w6 : Hid (OwnT w6 w2.heap.size (.slice a1 AA.length c1) (.slice b1 LL.length d1) AA LL) := OA_w5.out.kept hb56
    have B4_w6 : Hid (w6.heap[w3.heap.size]? = some (.cells #[.slice a1 AA.length c1, .slice b1 LL.length d1] 33)) := (hb56.block w3.heap.size (by omega)).trans B4_w5.out
    have XO_w6 : Hid (OwnT w6 (w3.heap.size + 1) (.slice (some ⟨g1, 0, none⟩) A.length A.length) (.slice (some ⟨g2, 0, none⟩) U.length U.length) A U) := XO_w5.out.kept hb56
    have B7_w6 : Hid (w6.heap[w4.heap.size]? = some (.cells #[.slice (some ⟨g1, 0, none⟩) A.length A.length, .slice (some ⟨g2, 0, none⟩) U.length U.length] 33)) := (hb56.block w4.heap.size (by omega)).trans B7_w5.out
    have HO_w6 : Hid (OwnT w6 (w4.heap.size + 1) (.slice a2 AA.length c2) (.slice b2 LL.length d2) AA LL) := HO_w5.out.kept hb56
    clear BA_w5 OA_w5 B4_w5 XO_w5 B7_w5 HO_w5 hb56 hbw_w5 
    have B8_w6 : Hid (w6.heap[w5.heap.size]? = some (.cells #[.slice a2 AA.length c2, .slice b2 LL.length d2] 33)) := hx6
    clear hx6
    go_wp2_with fail
    refine wp_region_noPanic ?_
    have hSX : Below w6.heap.size w6 w6.drew := (Below.refl _ _).drew
    have HC : Hid (∀ W, Below w6.heap.size w6 W → (W.cell? ⟨w0.heap.size, 0, none⟩ = some (.slice xa A.length xc) ∧ W.cell? ⟨w0.heap.size, 1, none⟩ = some (.slice ya U.length yc)) ∧ (W.cell? ⟨w4.heap.size, 0, none⟩ = some (.slice (some ⟨g1, 0, none⟩) A.length A.length) ∧ W.cell? ⟨w4.heap.size, 1, none⟩ = some (.slice (some ⟨g2, 0, none⟩) U.length U.length))) := fun W hW => ⟨(trn_cells ((hW.block _ (by omega)).trans BA_w6.out)).1, (trn_cells ((hW.block _ (by omega)).trans B7_w6.out)).1⟩
    refine wp_region_held_drew (S := fun W : World => Below w6.heap.size w6 W) (by kernel_rfl) hSX (fun hHeld => ?_)
    have hb6d : Below w6.heap.size w6 w6.drew := hSX
    generalize w6.drew = wX at *
    refine wpAnyH_take (i := 0) (v := .agg #[.slice (some ⟨g1, 0, none⟩) A.length A.length, .slice (some ⟨g2, 0, none⟩) U.length U.length]) rfl (by kernel_rfl) (by kernel_rfl) (by kernel_rfl) (fun _ _ _ h => h) (Or.inl ⟨by rfl, ?_⟩) (by assumption) ?_
    · intro W hSW
      obtain ⟨_, s0, s1⟩ := HC.out W hSW
      go_simp
    simp only [Act.put, List.getElem_toArray, List.getElem_cons_zero, List.setIfInBounds_toArray, List.set_cons_succ, List.set_cons_zero]
    refine wpAnyH_take (i := 1) (v := .agg #[.slice xa A.length xc, .slice ya U.length yc]) rfl (by kernel_rfl) (by kernel_rfl) (by kernel_rfl) (fun _ _ _ h => h) (Or.inl ⟨by rfl, ?_⟩) (by assumption) ?_
    · intro W hSW
      obtain ⟨⟨s0, s1⟩, _⟩ := HC.out W hSW
      go_simp
    simp only [Act.put, List.getElem_toArray, List.getElem_cons_succ, List.getElem_cons_zero, List.setIfInBounds_toArray, List.set_cons_succ, List.set_cons_zero]
    refine wpAnyH_ready (rs := [2]) (by kernel_rfl) (by simp) ?_
    refine AllReadyH.cons rfl (fun K hK => ?_) AllReadyH.nil
    rw [if_pos (by rfl)]
    go_simp
    refine (HT.out _ (hbw_w6.trans (hSX.mono hbw_w6.size))).mono ?_
    rintro e w7 ⟨⟨t1, t2, rfl, hoT⟩, hb7⟩
    (try unfold TrnV)
    go_simp
    have hS7 : Below w6.heap.size w6 w7 := hSX.trans (hb7.mono hSX.size)
    have HT7 : Hid (OwnT w7 wX.heap.size (.slice (some ⟨t1, 0, none⟩) A.length A.length) (.slice (some ⟨t2, 0, none⟩) U.length U.length) A U) := hoT
    clear hoT hb7
    refine hK.out _ _ hS7 (fun _ => ?_)
    clear hK K
    refine wpAnyH_ready (rs := [3]) (by kernel_rfl) (by simp) ?_
    refine AllReadyH.cons rfl (fun K hK => ?_) AllReadyH.nil
    rw [if_pos (by rfl)]
    go_simp
    refine (HEX.out _ _ _ _ _ _ _ (XO_w6.out.kept hS7) HT7.out).mono ?_
    rintro e w8 ⟨rfl, hb8⟩
    go_simp
    have hb68 : Below w6.heap.size w6 w8 := hS7.trans (hb8.mono hS7.size)
    clear hb8 HT7
    refine hK.out _ _ hb68 (fun _ => ?_)
    clear hK K
    refine wpAnyH_take (i := 4) (v := .bool false) rfl (by kernel_rfl) (by kernel_rfl) (by kernel_rfl) (fun _ _ _ h => h) (Or.inl ⟨by rfl, ?_⟩) (by assumption) ?_
    · intro W hSW
      go_simp
    simp only [Act.put, List.getElem_toArray, List.getElem_cons_succ, List.getElem_cons_zero, List.setIfInBounds_toArray, List.set_cons_succ, List.set_cons_zero]
    refine wpAnyH_done (by kernel_rfl) ?_ _
    refine NoPanic.normal ?_
    clear hS7 hSX HC hHeld hb6d
    have hbw_w8 : Below w0.heap.size w0 w8 := hbw_w6.trans (hb68.mono hbw_w6.size)
    have hz_w8 : w6.heap.size ≤ w8.heap.size := hb68.size
    have BA_w8 : Hid (w8.heap[w0.heap.size]? = some (.cells #[.slice xa A.length xc, .slice ya U.length yc] 38)) := (hb68.block w0.heap.size (by omega)).trans BA_w6.out
    have OA_w8 : Hid (OwnT w8 w2.heap.size (.slice a1 AA.length c1) (.slice b1 LL.length d1) AA LL) := OA_w6.out.kept hb68
    have B4_w8 : Hid (w8.heap[w3.heap.size]? = some (.cells #[.slice a1 AA.length c1, .slice b1 LL.length d1] 33)) := (hb68.block w3.heap.size (by omega)).trans B4_w6.out
    have XO_w8 : Hid (OwnT w8 (w3.heap.size + 1) (.slice (some ⟨g1, 0, none⟩) A.length A.length) (.slice (some ⟨g2, 0, none⟩) U.length U.length) A U) := XO_w6.out.kept hb68
    have B7_w8 : Hid (w8.heap[w4.heap.size]? = some (.cells #[.slice (some ⟨g1, 0, none⟩) A.length A.length, .slice (some ⟨g2, 0, none⟩) U.length U.length] 33)) := (hb68.block w4.heap.size (by omega)).trans B7_w6.out
    have HO_w8 : Hid (OwnT w8 (w4.heap.size + 1) (.slice a2 AA.length c2) (.slice b2 LL.length d2) AA LL) := HO_w6.out.kept hb68
    have B8_w8 : Hid (w8.heap[w5.heap.size]? = some (.cells #[.slice a2 AA.length c2, .slice b2 LL.length d2] 33)) := (hb68.block w5.heap.size (by omega)).trans B8_w6.out
    clear BA_w6 OA_w6 B4_w6 XO_w6 B7_w6 HO_w6 B8_w6 hb68 hbw_w6 
    obtain ⟨⟨d0, d1⟩, _⟩ := trn_cells B7_w8.out
    go_wp2_with fail
    refine (HMX.out _ _ _ _ XO_w8.out).mono ?_
    rintro e w9 ⟨rfl, _, hk9⟩
    clear d0 d1
    have hbw_w9 : Below w0.heap.size w0 w9 := hbw_w8.trans (hk9.below hbw_w8.size (fun k hk0 h => by have q2 := HLX.out _ h; omega))
    have hz_w9 : w8.heap.size ≤ w9.heap.size := hk9.size
    have BA_w9 : Hid (w9.heap[w0.heap.size]? = some (.cells #[.slice xa A.length xc, .slice ya U.length yc] 38)) := (hk9.block w0.heap.size (by omega) (fun h => by have q2 := HLX.out _ h; omega)).trans BA_w8.out
    have OA_w9 : Hid (OwnT w9 w2.heap.size (.slice a1 AA.length c1) (.slice b1 LL.length d1) AA LL) := OA_w8.out.kpt hk9 (fun g hg h => by have q := HL1.out g hg; have q2 := HLX.out _ h; omega)
    have B4_w9 : Hid (w9.heap[w3.heap.size]? = some (.cells #[.slice a1 AA.length c1, .slice b1 LL.length d1] 33)) := (hk9.block w3.heap.size (by omega) (fun h => by have q2 := HLX.out _ h; omega)).trans B4_w8.out
    have B7_w9 : Hid (w9.heap[w4.heap.size]? = some (.cells #[.slice (some ⟨g1, 0, none⟩) A.length A.length, .slice (some ⟨g2, 0, none⟩) U.length U.length] 33)) := (hk9.block w4.heap.size (by omega) (fun h => by have q2 := HLX.out _ h; omega)).trans B7_w8.out
    have HO_w9 : Hid (OwnT w9 (w4.heap.size + 1) (.slice a2 AA.length c2) (.slice b2 LL.length d2) AA LL) := HO_w8.out.kpt hk9 (fun g hg h => by have q := HL2.out g hg; have q2 := HLX.out _ h; omega)
    have B8_w9 : Hid (w9.heap[w5.heap.size]? = some (.cells #[.slice a2 AA.length c2, .slice b2 LL.length d2] 33)) := (hk9.block w5.heap.size (by omega) (fun h => by have q2 := HLX.out _ h; omega)).trans B8_w8.out
    clear BA_w8 OA_w8 B4_w8 XO_w8 B7_w8 HO_w8 B8_w8 hk9 hbw_w8 
    obtain ⟨⟨d0, d1⟩, _⟩ := trn_cells B4_w9.out
    obtain ⟨⟨f0, f1⟩, _⟩ := trn_cells B8_w9.out
    go_wp2_with fail
    refine (HEQ.out _ _ _ _ _ _ _ HO_w9.out OA_w9.out).mono ?_
    rintro e w10 ⟨rfl, hb10⟩
    clear d0 d1 f0 f1
    have hbw_w10 : Below w0.heap.size w0 w10 := hbw_w9.trans (hb10.mono hbw_w9.size)
    have hz_w10 : w9.heap.size ≤ w10.heap.size := hb10.size
    have BA_w10 : Hid (w10.heap[w0.heap.size]? = some (.cells #[.slice xa A.length xc, .slice ya U.length yc] 38)) := (hb10.block w0.heap.size (by omega)).trans BA_w9.out
    have OA_w10 : Hid (OwnT w10 w2.heap.size (.slice a1 AA.length c1) (.slice b1 LL.length d1) AA LL) := OA_w9.out.kept hb10
    have B4_w10 : Hid (w10.heap[w3.heap.size]? = some (.cells #[.slice a1 AA.length c1, .slice b1 LL.length d1] 33)) := (hb10.block w3.heap.size (by omega)).trans B4_w9.out
    have B7_w10 : Hid (w10.heap[w4.heap.size]? = some (.cells #[.slice (some ⟨g1, 0, none⟩) A.length A.length, .slice (some ⟨g2, 0, none⟩) U.length U.length] 33)) := (hb10.block w4.heap.size (by omega)).trans B7_w9.out
    have HO_w10 : Hid (OwnT w10 (w4.heap.size + 1) (.slice a2 AA.length c2) (.slice b2 LL.length d2) AA LL) := HO_w9.out.kept hb10
    have B8_w10 : Hid (w10.heap[w5.heap.size]? = some (.cells #[.slice a2 AA.length c2, .slice b2 LL.length d2] 33)) := (hb10.block w5.heap.size (by omega)).trans B8_w9.out
    clear BA_w9 OA_w9 B4_w9 B7_w9 HO_w9 B8_w9 hb10 hbw_w9 
    obtain ⟨⟨f0, f1⟩, _⟩ := trn_cells B8_w10.out
    go_wp2_with fail
    refine (HMK.out _ _ _ _ HO_w10.out).mono ?_
    rintro e w11 ⟨rfl, ho11, hk11⟩
    clear f0 f1
    have HM_w11 : Hid (OwnT w11 (w4.heap.size + 1) (.slice a2 AA.length c2) (.slice b2 LL.length d2) (mksZ 1 AA.length) (mksZ (1 + AA.length) LL.length)) := ho11
    clear ho11
    have hbw_w11 : Below w0.heap.size w0 w11 := hbw_w10.trans (hk11.below hbw_w10.size (fun k hk0 h => by have q2 := HL2.out _ h; omega))
    have hz_w11 : w10.heap.size ≤ w11.heap.size := hk11.size
    have BA_w11 : Hid (w11.heap[w0.heap.size]? = some (.cells #[.slice xa A.length xc, .slice ya U.length yc] 38)) := (hk11.block w0.heap.size (by omega) (fun h => by have q2 := HL2.out _ h; omega)).trans BA_w10.out
    have OA_w11 : Hid (OwnT w11 w2.heap.size (.slice a1 AA.length c1) (.slice b1 LL.length d1) AA LL) := OA_w10.out.kpt hk11 (fun g hg h => by have q := HL1.out g hg; have q2 := HL2.out _ h; omega)
    have B4_w11 : Hid (w11.heap[w3.heap.size]? = some (.cells #[.slice a1 AA.length c1, .slice b1 LL.length d1] 33)) := (hk11.block w3.heap.size (by omega) (fun h => by have q2 := HL2.out _ h; omega)).trans B4_w10.out
    have B7_w11 : Hid (w11.heap[w4.heap.size]? = some (.cells #[.slice (some ⟨g1, 0, none⟩) A.length A.length, .slice (some ⟨g2, 0, none⟩) U.length U.length] 33)) := (hk11.block w4.heap.size (by omega) (fun h => by have q2 := HL2.out _ h; omega)).trans B7_w10.out
    have B8_w11 : Hid (w11.heap[w5.heap.size]? = some (.cells #[.slice a2 AA.length c2, .slice b2 LL.length d2] 33)) := (hk11.block w5.heap.size (by omega) (fun h => by have q2 := HL2.out _ h; omega)).trans B8_w10.out
    clear BA_w10 OA_w10 B4_w10 B7_w10 HO_w10 B8_w10 hk11 hbw_w10 
    obtain ⟨⟨f0, f1⟩, _⟩ := trn_cells B8_w11.out
    go_wp2_with fail
    refine (HHD.out _ _ _ _ HM_w11.out).mono ?_
    rintro e w12 ⟨rfl, hb12⟩
    clear f0 f1
    have hbw_w12 : Below w0.heap.size w0 w12 := hbw_w11.trans (hb12.mono hbw_w11.size)
    have hz_w12 : w11.heap.size ≤ w12.heap.size := hb12.size
    have BA_w12 : Hid (w12.heap[w0.heap.size]? = some (.cells #[.slice xa A.length xc, .slice ya U.length yc] 38)) := (hb12.block w0.heap.size (by omega)).trans BA_w11.out
    have OA_w12 : Hid (OwnT w12 w2.heap.size (.slice a1 AA.length c1) (.slice b1 LL.length d1) AA LL) := OA_w11.out.kept hb12
    have B4_w12 : Hid (w12.heap[w3.heap.size]? = some (.cells #[.slice a1 AA.length c1, .slice b1 LL.length d1] 33)) := (hb12.block w3.heap.size (by omega)).trans B4_w11.out
    have B7_w12 : Hid (w12.heap[w4.heap.size]? = some (.cells #[.slice (some ⟨g1, 0, none⟩) A.length A.length, .slice (some ⟨g2, 0, none⟩) U.length U.length] 33)) := (hb12.block w4.heap.size (by omega)).trans B7_w11.out
    have B8_w12 : Hid (w12.heap[w5.heap.size]? = some (.cells #[.slice a2 AA.length c2, .slice b2 LL.length d2] 33)) := (hb12.block w5.heap.size (by omega)).trans B8_w11.out
    have HM_w12 : Hid (OwnT w12 (w4.heap.size + 1) (.slice a2 AA.length c2) (.slice b2 LL.length d2) (mksZ 1 AA.length) (mksZ (1 + AA.length) LL.length)) := HM_w11.out.kept hb12
    clear BA_w11 OA_w11 B4_w11 B7_w11 B8_w11 HM_w11 hb12 hbw_w11 
    obtain ⟨⟨p0, p1⟩, _⟩ := trn_cells BA_w12.out
    go_wp2_with fail
    refine (HT.out _ hbw_w12).mono ?_
    rintro e w13 ⟨⟨t1, t2, rfl, hoT⟩, hb13⟩
    clear p0 p1
    (try unfold TrnV)
    have HT_w13 : Hid (OwnT w13 w12.heap.size (.slice (some ⟨t1, 0, none⟩) A.length A.length) (.slice (some ⟨t2, 0, none⟩) U.length U.length) A U) := hoT
    clear hoT
    have hbw_w13 : Below w0.heap.size w0 w13 := hbw_w12.trans (hb13.mono hbw_w12.size)
    have hz_w13 : w12.heap.size ≤ w13.heap.size := hb13.size
    have BA_w13 : Hid (w13.heap[w0.heap.size]? = some (.cells #[.slice xa A.length xc, .slice ya U.length yc] 38)) := (hb13.block w0.heap.size (by omega)).trans BA_w12.out
    have OA_w13 : Hid (OwnT w13 w2.heap.size (.slice a1 AA.length c1) (.slice b1 LL.length d1) AA LL) := OA_w12.out.kept hb13
    have B4_w13 : Hid (w13.heap[w3.heap.size]? = some (.cells #[.slice a1 AA.length c1, .slice b1 LL.length d1] 33)) := (hb13.block w3.heap.size (by omega)).trans B4_w12.out
    have B7_w13 : Hid (w13.heap[w4.heap.size]? = some (.cells #[.slice (some ⟨g1, 0, none⟩) A.length A.length, .slice (some ⟨g2, 0, none⟩) U.length U.length] 33)) := (hb13.block w4.heap.size (by omega)).trans B7_w12.out
    have B8_w13 : Hid (w13.heap[w5.heap.size]? = some (.cells #[.slice a2 AA.length c2, .slice b2 LL.length d2] 33)) := (hb13.block w5.heap.size (by omega)).trans B8_w12.out
    have HM_w13 : Hid (OwnT w13 (w4.heap.size + 1) (.slice a2 AA.length c2) (.slice b2 LL.length d2) (mksZ 1 AA.length) (mksZ (1 + AA.length) LL.length)) := HM_w12.out.kept hb13
    clear BA_w12 OA_w12 B4_w12 B7_w12 B8_w12 HM_w12 hb13 hbw_w12 
    go_wp2_with fail
    refine (HI.out _ _ _ _ HT_w13.out).mono ?_
    rintro e w14 ⟨⟨va3, vu3, rfl, ho3⟩, hb14⟩
    obtain ⟨a3, c3, b3, d3, rfl, rfl⟩ := ho3.shape
    (try unfold TrnV)
    have HR_w14 : Hid (OwnT w14 w13.heap.size (.slice a3 AA.length c3) (.slice b3 LL.length d3) AA LL) := ho3
    clear ho3 HT_w13
    have hbw_w14 : Below w0.heap.size w0 w14 := hbw_w13.trans (hb14.mono hbw_w13.size)
    have hz_w14 : w13.heap.size ≤ w14.heap.size := hb14.size
    have BA_w14 : Hid (w14.heap[w0.heap.size]? = some (.cells #[.slice xa A.length xc, .slice ya U.length yc] 38)) := (hb14.block w0.heap.size (by omega)).trans BA_w13.out
    have OA_w14 : Hid (OwnT w14 w2.heap.size (.slice a1 AA.length c1) (.slice b1 LL.length d1) AA LL) := OA_w13.out.kept hb14
    have B4_w14 : Hid (w14.heap[w3.heap.size]? = some (.cells #[.slice a1 AA.length c1, .slice b1 LL.length d1] 33)) := (hb14.block w3.heap.size (by omega)).trans B4_w13.out
    have B7_w14 : Hid (w14.heap[w4.heap.size]? = some (.cells #[.slice (some ⟨g1, 0, none⟩) A.length A.length, .slice (some ⟨g2, 0, none⟩) U.length U.length] 33)) := (hb14.block w4.heap.size (by omega)).trans B7_w13.out
    have B8_w14 : Hid (w14.heap[w5.heap.size]? = some (.cells #[.slice a2 AA.length c2, .slice b2 LL.length d2] 33)) := (hb14.block w5.heap.size (by omega)).trans B8_w13.out
    have HM_w14 : Hid (OwnT w14 (w4.heap.size + 1) (.slice a2 AA.length c2) (.slice b2 LL.length d2) (mksZ 1 AA.length) (mksZ (1 + AA.length) LL.length)) := HM_w13.out.kept hb14
    clear BA_w13 OA_w13 B4_w13 B7_w13 B8_w13 HM_w13 hb14 hbw_w13 
    have hbA : Below w14.heap.size w14 (w14.alloc (.cells #[.slice a3 AA.length c3, .slice b3 LL.length d3] 33)) := (Below.refl _ _).alloc (Nat.le_refl _) _
    have hlt14 : w3.heap.size < w14.heap.size := by omega
    obtain ⟨⟨d0, d1⟩, _⟩ := trn_cells B4_w14.out
    go_wp2_with fail
    refine (HEQ.out _ _ _ _ _ _ _ (HR_w14.out.kept hbA) (OA_w14.out.kept hbA)).mono ?_
    rintro e w15 ⟨rfl, hb15⟩
    clear d0 d1
    have hbB : Below w14.heap.size w14 w15 := hbA.trans (hb15.mono (by simp))
    clear hb15 hbA HR_w14
    have hbw_w15 : Below w0.heap.size w0 w15 := hbw_w14.trans (hbB.mono hbw_w14.size)
    have hz_w15 : w14.heap.size ≤ w15.heap.size := hbB.size
    have BA_w15 : Hid (w15.heap[w0.heap.size]? = some (.cells #[.slice xa A.length xc, .slice ya U.length yc] 38)) := (hbB.block w0.heap.size (by omega)).trans BA_w14.out
    have OA_w15 : Hid (OwnT w15 w2.heap.size (.slice a1 AA.length c1) (.slice b1 LL.length d1) AA LL) := OA_w14.out.kept hbB
    have B4_w15 : Hid (w15.heap[w3.heap.size]? = some (.cells #[.slice a1 AA.length c1, .slice b1 LL.length d1] 33)) := (hbB.block w3.heap.size (by omega)).trans B4_w14.out
    have B7_w15 : Hid (w15.heap[w4.heap.size]? = some (.cells #[.slice (some ⟨g1, 0, none⟩) A.length A.length, .slice (some ⟨g2, 0, none⟩) U.length U.length] 33)) := (hbB.block w4.heap.size (by omega)).trans B7_w14.out
    have B8_w15 : Hid (w15.heap[w5.heap.size]? = some (.cells #[.slice a2 AA.length c2, .slice b2 LL.length d2] 33)) := (hbB.block w5.heap.size (by omega)).trans B8_w14.out
    have HM_w15 : Hid (OwnT w15 (w4.heap.size + 1) (.slice a2 AA.length c2) (.slice b2 LL.length d2) (mksZ 1 AA.length) (mksZ (1 + AA.length) LL.length)) := HM_w14.out.kept hbB
    clear BA_w14 OA_w14 B4_w14 B7_w14 B8_w14 HM_w14 hbB hbw_w14 
    obtain ⟨⟨f0, f1⟩, _⟩ := trn_cells B8_w15.out
    go_wp2_with fail
    refine (HHD.out _ _ _ _ HM_w15.out).mono ?_
    rintro e w16 ⟨rfl, hb16⟩
    clear f0 f1
    have hbw_w16 : Below w0.heap.size w0 w16 := hbw_w15.trans (hb16.mono hbw_w15.size)
    have hz_w16 : w15.heap.size ≤ w16.heap.size := hb16.size
    have BA_w16 : Hid (w16.heap[w0.heap.size]? = some (.cells #[.slice xa A.length xc, .slice ya U.length yc] 38)) := (hb16.block w0.heap.size (by omega)).trans BA_w15.out
    have OA_w16 : Hid (OwnT w16 w2.heap.size (.slice a1 AA.length c1) (.slice b1 LL.length d1) AA LL) := OA_w15.out.kept hb16
    have B4_w16 : Hid (w16.heap[w3.heap.size]? = some (.cells #[.slice a1 AA.length c1, .slice b1 LL.length d1] 33)) := (hb16.block w3.heap.size (by omega)).trans B4_w15.out
    have B7_w16 : Hid (w16.heap[w4.heap.size]? = some (.cells #[.slice (some ⟨g1, 0, none⟩) A.length A.length, .slice (some ⟨g2, 0, none⟩) U.length U.length] 33)) := (hb16.block w4.heap.size (by omega)).trans B7_w15.out
    have B8_w16 : Hid (w16.heap[w5.heap.size]? = some (.cells #[.slice a2 AA.length c2, .slice b2 LL.length d2] 33)) := (hb16.block w5.heap.size (by omega)).trans B8_w15.out
    have HM_w16 : Hid (OwnT w16 (w4.heap.size + 1) (.slice a2 AA.length c2) (.slice b2 LL.length d2) (mksZ 1 AA.length) (mksZ (1 + AA.length) LL.length)) := HM_w15.out.kept hb16
    clear BA_w15 OA_w15 B4_w15 B7_w15 B8_w15 HM_w15 hb16 hbw_w15 
    go_wp2_with fail
    go_ret
    exact ⟨rfl, hbw_w16⟩
theorem nta_own {w' : World} {base : Nat} {ok : Bool} {k : Nat} {A L : List Int} {e : Ending} (h : NTA w' base ok k A L e) : ∃ va vu, e = .returned (.tuple #[TrnV va vu, .int .i64 (if ok then (k : Int) else 0), .bool ok]) ∧ OwnT w' base va vu (if ok then A else []) (if ok then L else []) := h
theorem walk (va vu : Value) (A U : List Int) (w : World) (ha : ZRow .i64 w va A) (hu : ZRow .i64 w vu U) :
    Calls Try.prog 5 #[TrnV va vu] w fun e w' => e = .returned (.bool true) ∧ Below w.heap.size w w' :=
  core va vu A U _ _ _ _ w ha hu (fun h1 h2 => by
    cases h : nxtB A U with
    | false => simp
    | true =>
      have hg : goodT A U = true := by unfold nxtB at h; rw [Bool.and_eq_true] at h; exact h.1
      have hl := nxtL_length (goodT_parts hg).2.1
      simp only [if_true]; omega) (fun h1 h2 b v1 v2 W ho => (sNextTurn_any v1 v2 A U W ho.rows.1 ho.rows.2 h1).mono fun _ _ h => ⟨nta_own h.1, h.2⟩) (fun h1 h2 b v1 v2 W ho => (iNextTurn_any v1 v2 A U W ho.rows.1 ho.rows.2 h1).mono fun _ _ h => ⟨nta_own h.1, h.2⟩)
end Go.Proofs.Ytafbnhelcoofmaa.nextTurn
