import Derived.Test.YtafbnhelcoofmaaAlF
namespace Go.Proofs.Ytafbnhelcoofmaa
open Go.RowKit

set_option maxRecDepth 20000 in
set_option maxHeartbeats 8000000 in
theorem fillFirst_any (X : List ColT) (T : Int) (w : World) (hX : X.length = 12) (hbd : ∀ i, i < X.length → 0 ≤ (X.getD i (0, 0)).1 ∧ (X.getD i (0, 0)).1 ≤ 600) (hT : 0 < T ∧ T ≤ 600) (hgr : ∀ s, firstN (smP T X) X.length = some s → ∃ g, firstN (grP T X) X.length = some g) :
    Calls Try.prog 32 #[.agg (cellsL X).toArray, .int .i64 T] w fun e w' => e = .returned (.agg (cellsL (stepR T X)).toArray) ∧ Below w.heap.size w w' := by
  have HBD : Hid (∀ i, i < 12 → 0 ≤ (X.getD i (0, 0)).1 ∧ (X.getD i (0, 0)).1 ≤ 600) := fun i hi => hbd i (by omega)
  have HST : Hid (∀ k, k < 12 → (∀ j, j < k → smP T X j = false) → smP T X k = true → ∃ g : Nat, g < 12 ∧ optI (firstN (grP T X) X.length) = (g : Int) ∧ stepR T X = fillS T X k g ∧ T < (X.getD g (0, 0)).1 ∧ (X.getD k (0, 0)).1 < T) := fun k hk hn hs => by
    have hf : firstN (smP T X) X.length = some k := by
      cases h : firstN (smP T X) X.length with
      | none => have := firstN_none h k (by omega); rw [hs] at this; cases this
      | some j =>
        obtain ⟨h1, h2, h3⟩ := firstN_some h
        rcases Nat.lt_trichotomy j k with h4 | h4 | h4
        · have := hn j h4; rw [this] at h2; cases h2
        · rw [h4]
        · have := h3 k h4; rw [hs] at this; cases this
    obtain ⟨g, hg⟩ := hgr k hf
    obtain ⟨h1, h2, _⟩ := firstN_some hg
    refine ⟨g, by omega, by rw [hg]; rfl, stepR_some hf hg, ?_, ?_⟩
    · unfold grP at h2; simpa using h2
    · unfold smP at hs; rw [Bool.and_eq_true, decide_eq_true_eq] at hs; exact hs.2
  have HSN : Hid ((∀ j, j < 12 → smP T X j = false) → stepR T X = X) := fun h => stepR_none (by
    cases hf : firstN (smP T X) X.length with
    | none => rfl
    | some j => obtain ⟨h1, h2, _⟩ := firstN_some hf; rw [h j (by omega)] at h2; cases h2)
  have HSL : Hid ((stepR T X).length = 12) := by show _ = _; rw [stepR_length]; exact hX
  have HSM : Hid (∀ k, k < 12 → smP T X k = (((X.getD k (0, 0)).2 == (k : Int)) && decide ((X.getD k (0, 0)).1 < T))) := fun k _ => rfl
  obtain ⟨W0, hW0⟩ : ∃ W0, W0 = ((w.alloc (.cells (cellsL X).toArray 52)).alloc (.cells #[.int .i64 T] 3)).alloc (.cells (cellsL (List.replicate 12 (0, 0))).toArray 52) := ⟨_, rfl⟩
  obtain ⟨hx1, hx2, hx3, hs3, hb0⟩ := trn_below3 (Below.refl (((w.alloc (.cells (cellsL X).toArray 52)).alloc (.cells #[.int .i64 T] 3)).alloc (.cells (cellsL (List.replicate 12 (0, 0))).toArray 52)).heap.size _)
  rw [← hW0] at hx1 hx2 hx3 hs3 hb0
  have HX : Hid (BoxR W0 w.heap.size X) := hx1
  have HTC : Hid (W0.heap[w.heap.size + 1]? = some (.cells #[.int .i64 T] 3)) := hx2
  have HZ : Hid (BoxR W0 (w.heap.size + 1 + 1) (List.replicate 12 (0, 0))) := hx3
  rw [box_zero] at hW0
  have HW0 : Hid (((w.alloc (.cells (cellsL X).toArray 52)).alloc (.cells #[.int .i64 T] 3)).alloc (.cells #[.int .i64 0, .int .i64 0, .int .i64 0, .int .i64 0, .int .i64 0, .int .i64 0, .int .i64 0, .int .i64 0, .int .i64 0, .int .i64 0, .int .i64 0, .int .i64 0, .int .i64 0, .int .i64 0, .int .i64 0, .int .i64 0, .int .i64 0, .int .i64 0, .int .i64 0, .int .i64 0, .int .i64 0, .int .i64 0, .int .i64 0, .int .i64 0] 52) = W0) := hW0.symm
  have hrng := HX.out.range
  have hris := row_is X hX
  clear hW0 hx1 hx2 hx3 hbd hgr
  go_enter Try.func32, Try.ntmps32
  go_wp2_with (first | rw [HW0.out] | (refine wpList_load_mid rfl 52 (.tmp 2) rfl w.heap.size 0 rfl (cellsL X) _ hrng Try.underlying52 rfl hris ?_))
  (try rw [HW0.out])
  clear HW0 hrng hris
  go_loopw [9] (fun iv wr => ∃ k : Nat, k ≤ 12 ∧ iv = .int .i64 (k : Int) ∧ Hid (∀ j, j < k → smP T X j = false) ∧ Below W0.heap.size W0 wr) (fun iv _ => 12 - (intOf iv).toNat)
  case atStart => exact ⟨0, Nat.zero_le _, rfl, fun j h => absurd h (Nat.not_lt_zero _), Below.refl _ _⟩
  case round =>
    obtain ⟨k, hk, rfl, HA, hb⟩ := hrel
    have hbw := hb0.trans (hb.mono hb0.size)
    have HXr : Hid (BoxR wr w.heap.size X) := HX.out.kept hb
    have HTr : Hid (wr.heap[w.heap.size + 1]? = some (.cells #[.int .i64 T] 3)) := (hb.block _ (by omega)).trans HTC.out
    have HZr : Hid (BoxR wr (w.heap.size + 1 + 1) (List.replicate 12 (0, 0))) := HZ.out.kept hb
    by_cases hlt : k < 12
    · have hki : (k : Int) < 12 := by omega
      have hsm := HSM.out k hlt
      have hkb := HBD.out k hlt
      have hst := HST.out k hlt HA.out
      obtain ⟨kp, hkp⟩ : ∃ x, x = (X.getD k (0, 0)).1 := ⟨_, rfl⟩
      obtain ⟨ot, hot⟩ : ∃ x, x = (X.getD k (0, 0)).2 := ⟨_, rfl⟩
      rw [← hkp] at hkb hst
      rw [← hkp, ← hot] at hsm
      have HKP : Hid (kp = (X.getD k (0, 0)).1 ∧ ot = (X.getD k (0, 0)).2) := ⟨hkp, hot⟩
      have HSMK : Hid (smP T X k = ((ot == (k : Int)) && decide (kp < T))) := hsm
      have HSTK : Hid (smP T X k = true → ∃ g : Nat, g < 12 ∧ optI (firstN (grP T X) X.length) = (g : Int) ∧ stepR T X = fillS T X k g ∧ T < (X.getD g (0, 0)).1 ∧ kp < T) := hst
      have HIX : Hid (.agg #[.int .i64 (X.getD k (0, 0)).1, .int .i64 (X.getD k (0, 0)).2] = (.agg #[.int .i64 kp, .int .i64 ot] : Value)) := by show _ = _; rw [hkp, hot]
      obtain ⟨W1, hW1⟩ : ∃ W, W = wr.alloc (.cells #[.int .i64 kp, .int .i64 ot] 50) := ⟨_, rfl⟩
      have hb1 : Below wr.heap.size wr W1 := by rw [hW1]; exact (Below.refl _ _).alloc (Nat.le_refl _) _
      have hn1 : W1.heap[wr.heap.size]? = some (.cells #[.int .i64 kp, .int .i64 ot] 50) := by rw [hW1]; exact trn_new _ _
      have HN1 : Hid (W1.heap[wr.heap.size]? = some (.cells #[.int .i64 kp, .int .i64 ot] 50)) := hn1
      have hz1 : wr.heap.size < W1.heap.size := by rw [hW1]; simp
      have hsr := hb.size
      have hbW1 : Below W0.heap.size W0 W1 := hb.trans (hb1.mono hb.size)
      have HX1 : Hid (BoxR W1 w.heap.size X) := HXr.out.kept hb1
      have hT1 : W1.heap[w.heap.size + 1]? = some (.cells #[.int .i64 T] 3) := (hb1.block _ (by omega)).trans HTr.out
      have HT1 : Hid (W1.heap[w.heap.size + 1]? = some (.cells #[.int .i64 T] 3)) := hT1
      have HZ1 : Hid (BoxR W1 (w.heap.size + 1 + 1) (List.replicate 12 (0, 0))) := HZr.out.kept hb1
      have HW1 : Hid (wr.alloc (.cells #[.int .i64 kp, .int .i64 ot] 50) = W1) := hW1.symm
      obtain ⟨⟨c0, c1⟩, _⟩ := trn_cells hn1
      have t0 : W1.cell? ⟨w.heap.size + 1, 0, none⟩ = some (.int .i64 T) := by unfold World.cell?; rw [hT1]; rfl
      clear hkp hot hsm hst hW1 hn1 hT1 HXr HTr HZr
      by_cases hu : ot = (k : Int)
      · subst hu
        have e1 : ((k : Int) != (k : Int)) = false := by simp
        by_cases hl : kp < T
        · obtain ⟨g, hg12, hgo, hstep, hgT, _⟩ := HSTK.out (by rw [HSMK.out]; simp [hl])
          have HGO : Hid (optI (firstN (grP T X) X.length) = (g : Int)) := hgo
          have HIF : Hid (Calls Try.prog 44 #[.slice (some ⟨w.heap.size, 0, none⟩) 12 12, .func (.func 45) #[] #[.pointer (some ⟨w.heap.size + 1, 0, none⟩)]] W1 fun e w' => e = .returned (.int .i64 (g : Int)) ∧ Below W1.heap.size W1 w') := by
            have h := indexFuncC_any 45 #[.pointer (some ⟨w.heap.size + 1, 0, none⟩)] (fun x => decide (T < x.1)) (.slice (some ⟨w.heap.size, 0, none⟩) 12 12) X W1 (by
              have h2 := HX1.out.corow.row (cap := 12) (by omega) (by unfold maxLen; omega)
              rw [hX] at h2
              exact h2) (fun W x _ hW => muchC_any x.1 x.2 T (w.heap.size + 1) W ((hW.cell (p := ⟨w.heap.size + 1, 0, none⟩) (by show w.heap.size + 1 < W1.heap.size; omega)).trans (by unfold World.cell?; rw [HT1.out]; rfl)) (by have := hW.size; omega)) (fun _ _ => by kernel_rfl)
            have h3 : optI (firstN (fun i => decide (T < (X.getD i (0, 0)).1)) X.length) = (g : Int) := HGO.out
            rw [h3] at h
            exact h
          have HFE : Hid (stepR T X = fillS T X k g) := hstep
          have hgb := HBD.out g hg12
          obtain ⟨kg, hkg⟩ : ∃ x, x = (X.getD g (0, 0)).1 := ⟨_, rfl⟩
          rw [← hkg] at hgb hgT
          have HKG : Hid (kg = (X.getD g (0, 0)).1) := hkg
          have hne : k ≠ g := fun e => by subst e; have := HKP.out.1; omega
          clear hgo hstep hkg
          go_wp2_with (first | rw [HW1.out] | (refine wpList_index_rowT rfl (.tmp 8) (.tmp 9) rfl X k rfl rfl hlt hX ?_; rw [HIX.out]))
          refine HIF.out.mono ?_
          rintro e W2 ⟨rfl, hb2⟩
          have hbW2 : Below W0.heap.size W0 W2 := hbW1.trans (hb2.mono hbW1.size)
          have hX2 : BoxR W2 w.heap.size X := HX1.out.kept hb2
          have hT2 : W2.heap[w.heap.size + 1]? = some (.cells #[.int .i64 T] 3) := (hb2.block _ (by omega)).trans HT1.out
          have hZ2 : BoxR W2 (w.heap.size + 1 + 1) (List.replicate 12 (0, 0)) := HZ1.out.kept hb2
          have hN2 : W2.heap[wr.heap.size]? = some (.cells #[.int .i64 kp, .int .i64 (k : Int)] 50) := (hb2.block _ hz1).trans HN1.out
          have hz2 := hb2.size
          clear c0 c1 t0 hb2
          have hkX : k < X.length := by omega
          have hgX : g < X.length := by omega
          obtain ⟨⟨x0, x1⟩, ⟨f0, f1⟩⟩ := hX2.corow.2 k hkX
          have hput := hX2.put1 k hkX (g : Int)
          obtain ⟨W3, hW3⟩ : ∃ W, W = W2.setCell ⟨w.heap.size, k * 2 + 1, none⟩ (.int .i64 (g : Int)) := ⟨_, rfl⟩
          have hk3 : Kpt W2 W3 (fun j => j = w.heap.size) := by rw [hW3]; exact kpt_set _ _ _ _ rfl
          rw [← hW3] at hput
          have hX3 : BoxR W3 w.heap.size (X.set k (kp, (g : Int))) := by
            have e : ((X[k]'hkX).1, (g : Int)) = (kp, (g : Int)) := by rw [← cgetD hkX, ← HKP.out.1]
            rw [← e]; exact hput
          have hgX3 : g < (X.set k (kp, (g : Int))).length := by simpa using hgX
          obtain ⟨⟨y0, y1⟩, ⟨q0, q1⟩⟩ := hX3.corow.2 g hgX3
          have hput4 := hX3.put0 g hgX3 (kg - (T - kp))
          have e2 : (X.set k (kp, (g : Int)))[g]'hgX3 = X[g]'hgX := by rw [List.getElem_set_ne hne]
          rw [e2] at y0 y1 hput4
          rw [← cgetD hgX] at y0 y1 hput4
          rw [← HKG.out] at y0
          obtain ⟨W4, hW4⟩ : ∃ W, W = W3.setCell ⟨w.heap.size, g * 2, none⟩ (.int .i64 (kg - (T - kp))) := ⟨_, rfl⟩
          have hk4 : Kpt W3 W4 (fun j => j = w.heap.size) := by rw [hW4]; exact kpt_set _ _ _ _ rfl
          rw [← hW4] at hput4
          have HX4 : Hid (BoxR W4 w.heap.size (stepR T X)) := by
            rw [HFE.out]
            unfold fillS
            rw [← HKP.out.1, ← HKG.out]
            exact hput4
          have hT3 : W3.heap[w.heap.size + 1]? = some (.cells #[.int .i64 T] 3) := (hk3.block _ (by omega) (by omega)).trans hT2
          have hN3 : W3.heap[wr.heap.size]? = some (.cells #[.int .i64 kp, .int .i64 (k : Int)] 50) := (hk3.block _ (by omega) (by omega)).trans hN2
          have HZ4 : Hid (BoxR W4 (w.heap.size + 1 + 1) (List.replicate 12 (0, 0))) := (hZ2.apart hk3 (by omega)).apart hk4 (by omega)
          have hbw4 : Below w.heap.size w W4 := ((hb0.trans (hbW2.mono hb0.size)).trans (hk3.below (by have := hb0.size; have := hbW2.size; omega) (fun j hj h => by omega))).trans (hk4.below (by have := hb0.size; have := hbW2.size; have := hk3.size; omega) (fun j hj h => by omega))
          have HW3 : Hid (W2.setCell ⟨w.heap.size, k * 2 + 1, none⟩ (.int .i64 (g : Int)) = W3) := hW3.symm
          have HW4 : Hid (W3.setCell ⟨w.heap.size, g * 2, none⟩ (.int .i64 (kg - (T - kp))) = W4) := hW4.symm
          have hgi : (g : Int) < 12 ∧ 0 ≤ (g : Int) := by omega
          have hwr1 : IntKind.i64.wrap (T - kp) = T - kp := i64_wrap (by omega) (by omega)
          have hwr2 : IntKind.i64.wrap (kg - (T - kp)) = kg - (T - kp) := i64_wrap (by omega) (by omega)
          have r0 : W3.cell? ⟨w.heap.size + 1, 0, none⟩ = some (.int .i64 T) := by unfold World.cell?; rw [hT3]; rfl
          obtain ⟨⟨s0, s1⟩, _⟩ := trn_cells hN3
          obtain ⟨z1, hz1e⟩ : ∃ z, z = (X[k]'hkX).2 := ⟨_, rfl⟩
          rw [← hz1e] at x1
          have hel := HSL.out
          clear hX2 hT2 hZ2 hN2 hput hW3 hk3 hX3 hgX3 hput4 e2 hW4 hk4 hT3 hN3 hkX hgX hz1e y1 x0 f0 q1 HIF hbW2
          go_wp2_with (rw [HW3.out])
          go_region
          have hrng4 := HX4.out.range
          have hris4 := row_is _ hel
          have hZ4 := HZ4.out
          rw [HW4.out]
          go_wp2_with (first | (refine wpList_load_mid rfl 52 (.tmp 2) rfl w.heap.size 0 rfl (cellsL (stepR T X)) _ hrng4 Try.underlying52 rfl hris4 ?_) | (refine wpList_store_rowT rfl (.tmp 4) (.tmp 41) rfl (w.heap.size + 1 + 1) (List.replicate 12 (0, 0)) (stepR T X) rfl rfl hZ4 rfl hel ?_; intro w5 hbx5 hk5))
          (try simp only [Exit.inBlock, Exit.then])
          have hb5 : Below w.heap.size w w5 := hbw4.drew.trans (hk5.below hbw4.size (fun j hj h => by omega))
          exact bodyPost_ret (results_cell_row rfl _ _ (w.heap.size + 1 + 1) 52 (cellsL (stepR T X)).toArray (0, 0) _ rfl hbx5 Try.underlying52 rfl (row_is2 _ hel)) rfl ⟨rfl, hb5⟩
        · have HN : Hid (∀ j, j < k + 1 → smP T X j = false) := fun j hj => by
            by_cases h : j < k
            · exact HA.out j h
            · obtain rfl : j = k := by omega
              rw [HSMK.out, decide_eq_false hl]; simp
          have hge : T ≤ kp := by omega
          clear HSTK HSMK HX1 HZ1 HT1 HN1
          go_wp2_with (first | rw [HW1.out] | (refine wpList_index_rowT rfl (.tmp 8) (.tmp 9) rfl X k rfl rfl hlt hX ?_; rw [HIX.out]))
          (try rw [HW1.out])
          go_roundw
          case rel => exact ⟨k + 1, by omega, by go_num, HN, hbW1⟩
          case measure => simp [intOf]; omega
      · have HN : Hid (∀ j, j < k + 1 → smP T X j = false) := fun j hj => by
          by_cases h : j < k
          · exact HA.out j h
          · obtain rfl : j = k := by omega
            rw [HSMK.out]
            have e : (ot == (j : Int)) = false := by simp; exact hu
            rw [e]; rfl
        have e1 : (ot != (k : Int)) = true := by simp; exact hu
        clear HSTK HSMK HX1 HZ1 HT1 HN1
        go_wp2_with (first | rw [HW1.out] | (refine wpList_index_rowT rfl (.tmp 8) (.tmp 9) rfl X k rfl rfl hlt hX ?_; rw [HIX.out]))
        (try rw [HW1.out])
        go_roundw
        case rel => exact ⟨k + 1, by omega, by go_num, HN, hbW1⟩
        case measure => simp [intOf]; omega
    · have hk12 : k = 12 := by omega
      subst hk12
      have HE : Hid (stepR T X = X) := HSN.out HA.out
      have hrng := HXr.out.range
      have hris := row_is X hX
      have hZ := HZr.out
      go_wp2_with (first | (refine wpList_load_mid rfl 52 (.tmp 2) rfl w.heap.size 0 rfl (cellsL X) _ hrng Try.underlying52 rfl hris ?_) | (refine wpList_store_rowT rfl (.tmp 4) (.tmp 43) rfl (w.heap.size + 1 + 1) (List.replicate 12 (0, 0)) X rfl rfl hZ rfl hX ?_; intro w5 hbx5 hk5))
      (try simp only [Exit.inBlock, Exit.then])
      have hb5 : Below w.heap.size w w5 := hbw.trans (hk5.below hbw.size (fun j hj h => by omega))
      exact bodyPost_ret (results_cell_row rfl _ _ (w.heap.size + 1 + 1) 52 (cellsL X).toArray (0, 0) _ rfl hbx5 Try.underlying52 rfl (row_is2 _ hX)) rfl ⟨by rw [HE.out], hb5⟩
end Go.Proofs.Ytafbnhelcoofmaa
