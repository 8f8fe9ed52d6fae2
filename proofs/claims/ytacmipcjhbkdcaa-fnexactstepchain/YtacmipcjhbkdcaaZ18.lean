import Derived.Test.YtacmipcjhbkdcaaZ17
namespace Go.Proofs.Ytacmipcjhbkdcaa
open Go.RowKit

set_option linter.unusedSimpArgs false in
set_option maxRecDepth 20000 in
set_option maxHeartbeats 4000000 in
theorem l15Step_fail_yes (base g cap n : Nat) (D : List (LkT × Value)) (kd k : Int) (s : List UInt8) (w : World) (h : LBld w base (.slice (some ⟨g, 0, none⟩) n cap) D) (hn : n = D.length) (h16 : 1 ≤ n ∧ n ≤ 6) (hb : base ≤ w.heap.size) (h4 : kd = 4) (hk : 0 ≤ k ∧ k ≤ (n : Int) - 1) (h2 : ¬ n < 2) :
    Calls Try.prog 25 #[ChV (.slice (some ⟨g, 0, none⟩) n cap), .agg #[.int .i64 kd, .int .i64 k, .string ⟨s.toArray⟩]] w fun e w' => SpAns w w' base e (tailT (sent0L ((lkf D).eraseIdx k.toNat) k.toNat)) true := by
  unfold ChV
  obtain ⟨t, ht⟩ : ∃ t, n = t + 1 := ⟨n - 1, by omega⟩
  obtain ⟨W0, hW0⟩ : ∃ W0, W0 = w3 w (.slice (some ⟨g, 0, none⟩) n cap) kd k s := ⟨_, rfl⟩
  have HW0 : Hid (((w.alloc (.cells #[.slice (some ⟨g, 0, none⟩) n cap] 31)).alloc (.cells #[.int .i64 kd, .int .i64 k, .string ⟨s.toArray⟩] 35)).alloc (.cells #[.slice none 0 0] 31) = W0) := by show _ = _; rw [hW0]; rfl
  have HST : Hid (StL w W0 base g cap n kd k s D) := by show StL _ _ _ _ _ _ _ _ _ _; rw [hW0]; exact st_new kd k s h hb
  have HZ : Hid (W0.heap.size = w.heap.size + 3) := by show _ = _; rw [hW0]; exact w3_size _ _ _ _ _
  obtain ⟨c0, ⟨c1, c2, c3⟩, c4, f4⟩ := HST.out.2.2.2.2.1.cells
  have hnt : (n : Int) - 1 = (t : Int) := by omega
  have wt : IntKind.i64.wrap ((n : Int) - 1) = (t : Int) := by rw [i64_wrapC (by omega) (by omega)]; omega
  have HWI : Hid (∀ W, Calls Try.prog 40 #[.int .i64 k, .int .i64 0, .int .i64 (t : Int)] W fun e w' => e = .returned (.bool (decide (0 ≤ k) && decide (k ≤ (t : Int)))) ∧ w' = W) := fun W => l1In_any _ _ _ W
  subst h4
  have HBS : Hid (base ≤ w.heap.size) := hb
  obtain ⟨j, rfl⟩ : ∃ j : Nat, k = (j : Int) := ⟨k.toNat, by omega⟩
  have ej : ((j : Int)).toNat = j := by omega
  rw [ej]
  rw [show (decide ((0 : Int) ≤ (j : Int)) && decide ((j : Int) ≤ (t : Int))) = true by simp; omega] at HWI
  have e2 : decide ((n : Int) < 2) = false := by simp; omega
  have e3 : ¬ (n : Int) < 2 := by omega
  have hnc : n ≤ cap := by
    obtain ⟨_, h0 | ⟨g2, c2, cur, e2, _, _, hnc, _⟩⟩ := h.1
    · cases h0.1
    · cases e2; rw [hn]; exact hnc
  obtain ⟨j1, HJ1⟩ : ∃ j1, Hid (j1 = j + 1) := ⟨_, rfl⟩
  obtain ⟨n1, HN1⟩ : ∃ n1, Hid (n = n1 + 1) := ⟨n - 1, by show _ = _; omega⟩
  have hjn : j < n := by omega
  have HR : Hid (2 ≤ n ∧ n ≤ 6 ∧ j < n ∧ n ≤ cap) := ⟨by omega, by omega, hjn, hnc⟩
  have wj : IntKind.i64.wrap ((j : Int) + 1) = (j1 : Int) := by rw [i64_wrapC (by omega) (by omega), HJ1.out]; omega
  have hjc : (j : Int) ≤ (cap : Int) := by omega
  have hj1n : (j1 : Int) ≤ (n : Int) := by rw [HJ1.out]; omega
  have hj1c : (j1 : Int) ≤ (cap : Int) := by rw [HJ1.out]; omega
  have HN : Hid (n = D.length) := hn
  obtain ⟨AD, HAD⟩ : ∃ AD : Addr, Hid (AD = if cap = j1 then ⟨g, 0, none⟩ else ⟨g, j1 * 3, none⟩) := ⟨_, rfl⟩
  have HZ0 : Hid (w.heap.size + 3 ≤ W0.heap.size) := by show _ ≤ W0.heap.size; have := HZ.out; omega
  obtain ⟨A, HA⟩ : ∃ A, Hid (A = (lkcs D).take (j * 3)) := ⟨_, rfl⟩
  obtain ⟨B, HB⟩ : ∃ B, Hid (B = (lkcs D).drop (j1 * 3)) := ⟨_, rfl⟩
  obtain ⟨D6, HD6⟩ : ∃ D6, Hid (D6 = D.eraseIdx j) := ⟨_, rfl⟩
  have hAl : A.length = j * 3 := by rw [HA.out, List.length_take, lkcs_length, ← hn]; omega
  have hBl : B.length = (n - j1) * 3 := by rw [HB.out, List.length_drop, lkcs_length, ← hn]; omega
  have hD6l : D6.length = n1 := by rw [HD6.out, List.length_eraseIdx, ← hn, if_pos hjn]; have := HN1.out; omega
  have HAB : Hid (A ++ B = lkcs D6) := by show _ = _; rw [HA.out, HB.out, HD6.out, HJ1.out]; exact (lkcs_erase D j (by omega)).symm
  have HAl : Hid (A.length = j * 3) := hAl
  have HBl : Hid (B.length = (n - j1) * 3) := hBl
  have HDl : Hid (D6.length = n1) := hD6l
  have HLK : Hid (lkf D6 = (lkf D).eraseIdx j) := by show _ = _; rw [HD6.out, lkf_erase]
  have HONE : Hid (∀ W, LBld W base (.slice (some ⟨g, 0, none⟩) n cap) D → (∀ u ∈ A, u.oneCell' = true) ∧ ∀ u ∈ B, u.oneCell' = true) := fun W hW => by
    have key : ∀ u ∈ lkcs D, u.oneCell' = true := fun u hu => lk_cells_one (fun x hx => by obtain ⟨ad, c, hv, _⟩ := own_sliceC (hW.2.1 x hx); exact ⟨ad, _, c, hv⟩) hu
    exact ⟨fun u hu => key u (List.mem_of_mem_take (by rw [← HA.out]; exact hu)), fun u hu => key u (List.mem_of_mem_drop (by rw [← HB.out]; exact hu))⟩
  have HNW : Hid (∀ W, LBld W base (.slice (some ⟨g, 0, none⟩) n cap) D → (∀ q u, A[q]? = some u → W.cell? ((⟨g, 0, none⟩ : Addr).add q) = some u) ∧ (∀ q u, B[q]? = some u → W.cell? (AD.add q) = some u)) := fun W h9 => by
    have ho := h9.1
    rw [← HN.out] at ho
    have hlD := lkcs_length D
    have hR := HR.out
    have hJ := HJ1.out
    have hN := HN.out
    refine ⟨fun q u hq => ?_, fun q u hq => ?_⟩
    · have hq1 := (List.getElem?_eq_some_iff.1 hq).1
      rw [HA.out, List.getElem?_take, if_pos (by omega)] at hq
      rw [add_0C, Nat.zero_add, ho.cellAt q (by omega)]; exact hq
    · have hq1 := (List.getElem?_eq_some_iff.1 hq).1
      have hBl := HBl.out
      rw [HB.out, List.getElem?_drop] at hq
      rw [HAD.out]
      by_cases hc : cap = j1
      · omega
      · rw [if_neg hc, add_0C, ho.cellAt (j1 * 3 + q) (by omega)]; exact hq
  have HL6 : Hid (∀ W v, LBld W base (.slice (some ⟨g, 0, none⟩) n cap) D → W.ownsRow base 71 3 v n1 (lkcs D6) → LBld W base v D6) := fun W v hW ho => by
    have hDl := HDl.out
    refine ⟨by rw [hDl]; exact ho, fun x hx => hW.2.1 x ?_, ?_⟩
    · rw [HD6.out] at hx; exact List.mem_of_mem_eraseIdx hx
    · rw [HD6.out]; exact hW.2.2.sublist (List.eraseIdx_sublist ..)
  have HOF : Hid (OffL w D → OffL w D6) := fun h x hx => h x (by rw [HD6.out] at hx; exact List.mem_of_mem_eraseIdx hx)
  have HTL : Hid (∀ g cap n W D', LBld W base (.slice (some ⟨g, 0, none⟩) n cap) D' → n = D'.length → (1 ≤ n ∧ n ≤ 1000) → base ≤ W.heap.size → Calls Try.prog 42 #[ChV (.slice (some ⟨g, 0, none⟩) n cap)] W fun e w' => e = .returned (ChV (.slice (some ⟨g, 0, none⟩) n cap)) ∧ (∃ D2, LBld w' base (.slice (some ⟨g, 0, none⟩) n cap) D2 ∧ lkf D2 = tailT (lkf D')) ∧ Below base W w' ∧ W.grownBy w' (some g)) := fun g cap n W D' h1 h2 h4 h3 => l15Tail_any base g cap n D' W h1 h2 h4.1 h4.2 h3
  unfold ChV at HTL
  clear h hn hW0 ht hk h2 ej hnc hjn hAl hBl hD6l
  go_enter Try.func25, Try.ntmps25
  go_wp2_with (rw [HW0.out])
  refine (HWI.out _).mono ?_
  rintro e w1 ⟨rfl, rfl⟩
  go_wp2_with fail
  clear c0 c1 c2 c3 c4 f4
  have HSd : Hid (StL w w1.drew base g cap n 4 (j : Int) s D) := HST.out.kept (Nat.le_trans HBS.out (by have := HZ0.out; omega)) (Below.refl _ _).drew
  have HZd : Hid (w.heap.size + 3 ≤ w1.drew.heap.size) := HZ0.out
  refine Code.wp_mono (Q := fun e a W => e = Exit.normal ∧ ∃ (u0 u1 u2 u3 u4 u5 u6 u7 u8 u9 u10 u11 u12 u13 u14 : Value), a = { tmps := #[.agg #[.slice (some ⟨g, 0, none⟩) n cap], .agg #[.int .i64 4, .int .i64 (j : Int), .string ⟨s.toArray⟩], .pointer (some ⟨w.heap.size, 0, none⟩), .pointer (some ⟨w.heap.size + 1, 0, none⟩), .pointer (some ⟨w.heap.size + 1 + 1, 0, none⟩), .bool false, .int .i64 (n : Int), undef, undef, .pointer (some ⟨w.heap.size, 0, none⟩), .slice (some ⟨g, 0, none⟩) n cap, .int .i64 (n : Int), .pointer (some ⟨w.heap.size + 1, 0, none⟩), .int .i64 4, .bool false, .bool false, undef, undef, undef, undef, undef, undef, undef, undef, undef, undef, undef, undef, undef, undef, undef, undef, undef, undef, undef, undef, undef, undef, undef, undef, undef, undef, undef, undef, undef, .bool false, .bool false, undef, undef, undef, undef, undef, undef, undef, undef, undef, undef, undef, undef, undef, undef, undef, undef, undef, undef, undef, undef, undef, undef, undef, undef, undef, undef, undef, undef, undef, undef, .pointer (some ⟨w.heap.size + 1, 1, none⟩), .int .i64 (j : Int), .int .i64 (n : Int), .int .i64 (t : Int), .bool true, .bool false, undef, .pointer (some ⟨w.heap.size + 1, 0, none⟩), .int .i64 4, .bool false, .bool false, undef, undef, undef, undef, undef, undef, undef, undef, undef, undef, undef, undef, undef, undef, undef, undef, undef, undef, undef, undef, undef, undef, undef, undef, undef, undef, undef, undef, undef, undef, undef, undef, undef, undef, undef, undef, undef, undef, undef, undef, undef, undef, undef, undef, undef, undef, undef, undef, undef, undef, undef, undef, undef, undef, undef, undef, undef, undef, undef, undef, undef, undef, undef, undef, undef, undef, undef, undef, undef, undef, undef, undef, .bool false, .bool false, undef, undef, undef, undef, undef, undef, undef, undef, undef, undef, undef, undef, undef, undef, undef, undef, undef, undef, undef, undef, undef, undef, undef, undef, undef, undef, undef, undef, undef, undef, undef, undef, undef, undef, undef, undef, undef, undef, undef, .bool true, .bool true, .int .i64 (n : Int), .bool false, undef, u0, u1, u2, u3, u4, u5, u6, u7, u8, u9, u10, u11, u12, u13, u14, undef, undef, undef, undef, undef, undef, undef, undef, undef, undef, undef, undef, undef], defers := [] } ∧ StF w W base 4 (j : Int) s ((lkf D).eraseIdx j) n1) ?_ ?_
  rotate_left
  · refine wp_region_noPanic ?_
    refine wp_region_held_drew (S := fun W : World => W.cell? ⟨w.heap.size + 1, 1, none⟩ = some (.int .i64 (j : Int))) (by kernel_rfl) HSd.out.2.2.2.2.1.cells.2.1.2.1 (fun hHeld => ?_)
    generalize w1.drew = wv at HSd HZd hHeld ⊢
    have HSC : Hid (∀ W, StL w W base g cap n 4 (j : Int) s D → W.cell? ⟨w.heap.size + 1, 1, none⟩ = some (.int .i64 (j : Int))) := fun W h => h.2.2.2.2.1.cells.2.1.2.1
    refine wpAnyH_take (i := 1) (v := .pointer (some ⟨w.heap.size, 0, none⟩)) rfl (by kernel_rfl) (by kernel_rfl) (by kernel_rfl) (fun _ _ _ h => h) (Or.inl ⟨by rfl, ?_⟩) (by assumption) ?_
    · intro W hSW
      go_simp
      all_goals (try omega)
    simp only [Act.put, List.getElem_toArray, List.getElem_cons_succ, List.getElem_cons_zero, List.setIfInBounds_toArray, List.set_cons_succ, List.set_cons_zero]
    refine wpAnyH_take (i := 3) (v := .pointer (some ⟨w.heap.size + 1, 1, none⟩)) rfl (by kernel_rfl) (by kernel_rfl) (by kernel_rfl) (fun _ _ _ h => h) (Or.inl ⟨by rfl, ?_⟩) (by assumption) ?_
    · intro W hSW
      go_simp
      all_goals (try omega)
    simp only [Act.put, List.getElem_toArray, List.getElem_cons_succ, List.getElem_cons_zero, List.setIfInBounds_toArray, List.set_cons_succ, List.set_cons_zero]
    refine wpAnyH_take (i := 4) (v := .int .i64 (j : Int)) rfl (by kernel_rfl) (by kernel_rfl) (by kernel_rfl) (fun _ _ _ h => h) (Or.inl ⟨by rfl, ?_⟩) (by assumption) ?_
    · intro W hSW
      have z0 := hSW
      go_simp
      all_goals (try omega)
    simp only [Act.put, List.getElem_toArray, List.getElem_cons_succ, List.getElem_cons_zero, List.setIfInBounds_toArray, List.set_cons_succ, List.set_cons_zero]
    refine wpAnyH_take (i := 7) (v := .pointer (some ⟨w.heap.size, 0, none⟩)) rfl (by kernel_rfl) (by kernel_rfl) (by kernel_rfl) (fun _ _ _ h => h) (Or.inl ⟨by rfl, ?_⟩) (by assumption) ?_
    · intro W hSW
      go_simp
      all_goals (try omega)
    simp only [Act.put, List.getElem_toArray, List.getElem_cons_succ, List.getElem_cons_zero, List.setIfInBounds_toArray, List.set_cons_succ, List.set_cons_zero]
    refine wpAnyH_take (i := 9) (v := .pointer (some ⟨w.heap.size + 1, 1, none⟩)) rfl (by kernel_rfl) (by kernel_rfl) (by kernel_rfl) (fun _ _ _ h => h) (Or.inl ⟨by rfl, ?_⟩) (by assumption) ?_
    · intro W hSW
      go_simp
      all_goals (try omega)
    simp only [Act.put, List.getElem_toArray, List.getElem_cons_succ, List.getElem_cons_zero, List.setIfInBounds_toArray, List.set_cons_succ, List.set_cons_zero]
    refine wpAnyH_take (i := 10) (v := .int .i64 (j : Int)) rfl (by kernel_rfl) (by kernel_rfl) (by kernel_rfl) (fun _ _ _ h => h) (Or.inl ⟨by rfl, ?_⟩) (by assumption) ?_
    · intro W hSW
      have z0 := hSW
      go_simp
      all_goals (try omega)
    simp only [Act.put, List.getElem_toArray, List.getElem_cons_succ, List.getElem_cons_zero, List.setIfInBounds_toArray, List.set_cons_succ, List.set_cons_zero]
    refine wpAnyH_take (i := 11) (v := .int .i64 (j1 : Int)) rfl (by kernel_rfl) (by kernel_rfl) (by kernel_rfl) (fun _ _ _ h => h) (Or.inl ⟨by rfl, ?_⟩) (by assumption) ?_
    · intro W hSW
      go_simp
      all_goals (try omega)
    simp only [Act.put, List.getElem_toArray, List.getElem_cons_succ, List.getElem_cons_zero, List.setIfInBounds_toArray, List.set_cons_succ, List.set_cons_zero]
    obtain ⟨wE, hwE⟩ : ∃ wE, wE = wv.alloc (.cells #[] 71) := ⟨_, rfl⟩
    have HWE : Hid (wv.alloc (.cells #[] 71) = wE) := hwE.symm
    have hbE : Below wv.heap.size wv wE := by rw [hwE]; exact (Below.refl _ _).alloc (Nat.le_refl _) _
    have HOE : Hid (wE.ownsRow wv.heap.size 71 3 (.slice (some ⟨wv.heap.size, 0, none⟩) 0 0) 0 []) := by rw [hwE]; exact own_emptyC wv _ 3
    have HBV : Hid (base ≤ wv.heap.size) := by show _ ≤ wv.heap.size; have := HZd.out; have := HBS.out; omega
    have HSE : Hid (StL w wE base g cap n 4 (j : Int) s D) := HSd.out.kept HBV.out hbE
    have HBE : Hid (Below wv.heap.size wv wE) := hbE
    clear hwE hbE
    refine wpAnyH_ready (rs := [0, 2, 8]) (by kernel_rfl) (by simp) ?_
    refine AllReadyH.cons rfl (fun K hK => ?_) (AllReadyH.cons rfl (fun K hK => ?_) (AllReadyH.cons rfl (fun K hK => ?_) AllReadyH.nil))
    · rw [if_pos (by rfl)]
      go_simp
      rw [HWE.out]
      refine hK.out _ _ (HSC.out _ HSE.out) (fun hSS => ?_)
      clear hK hSS
      refine wpAnyH_ready (rs := [2, 8]) (by kernel_rfl) (by simp) ?_
      refine AllReadyH.cons rfl (fun K hK => ?_) (AllReadyH.cons rfl (fun K hK => ?_) AllReadyH.nil)
      · rw [if_pos (by rfl)]
        obtain ⟨q0, _, _, _⟩ := HSE.out.2.2.2.2.1.cells
        go_simp
        refine hK.out _ _ (HSC.out _ HSE.out) (fun hSS => ?_)
        clear hK hSS q0
        refine wpAnyH_take (i := 5) (v := .slice (some ⟨g, 0, none⟩) j cap) rfl (by kernel_rfl) (by kernel_rfl) (by kernel_rfl) (fun _ _ _ h => h) (Or.inl ⟨by rfl, ?_⟩) (HSC.out _ HSE.out) ?_
        · intro W hSW
          go_simp
          all_goals (try omega)
        simp only [Act.put, List.getElem_toArray, List.getElem_cons_succ, List.getElem_cons_zero, List.setIfInBounds_toArray, List.set_cons_succ, List.set_cons_zero]
        refine wpAnyH_ready (rs := [6, 8]) (by kernel_rfl) (by simp) ?_
        refine AllReadyH.cons rfl (fun K hK => ?_) (AllReadyH.cons rfl (fun K hK => ?_) AllReadyH.nil)
        · refine step_append_linkA rfl (.tmp 206) (.tmp 211) rfl wv.heap.size _ 0 [] rfl HOE.out ⟨g, 0, none⟩ j cap rfl A HAl.out (HNW.out _ HSE.out.1).1 (HONE.out _ HSE.out.1).1 (by have := HR.out; omega) HBE.out.size ?_
          intro v2 w2 hown2 hgrow2 hfr2
          have hb2 : Below wv.heap.size wv w2 := HBE.out.grown hgrow2 HBE.out.size (fun j e => by have q : wv.heap.size = j := Option.some.inj e; omega)
          have HB2 : Hid (Below wv.heap.size wv w2) := hb2
          have HS2 : Hid (StL w w2 base g cap n 4 (j : Int) s D) := HSd.out.kept HBV.out hb2
          have HO2 : Hid (w2.ownsRow wv.heap.size 71 3 v2 j A) := by show World.ownsRow _ _ _ _ _ _ _; rw [Nat.zero_add, List.nil_append] at hown2; exact hown2
          have HF2 : Hid (∀ k, v2.ownBlock = some k → wv.heap.size ≤ k) := fun k hk => by
            rcases hfr2 k hk with h | h
            · have q : wv.heap.size = k := Option.some.inj h
              omega
            · exact Nat.le_trans HBE.out.size h
          clear hown2 hgrow2 hfr2 hb2
          simp only [Act.put, List.getElem_toArray, List.getElem_cons_succ, List.getElem_cons_zero, List.setIfInBounds_toArray, List.set_cons_succ, List.set_cons_zero]
          refine hK.out _ _ (HSC.out _ HS2.out) (fun hSS => ?_)
          clear hK hSS
          refine wpAnyH_ready (rs := [8]) (by kernel_rfl) (by simp) ?_
          refine AllReadyH.cons rfl (fun K hK => ?_) AllReadyH.nil
          rw [if_pos (by rfl)]
          obtain ⟨q0, _, _, _⟩ := HS2.out.2.2.2.2.1.cells
          go_simp
          refine hK.out _ _ (HSC.out _ HS2.out) (fun hSS => ?_)
          clear hK hSS q0
          refine wpAnyH_take (i := 12) (v := .slice (some AD) (n - j1) (cap - j1)) rfl (by kernel_rfl) (by kernel_rfl) (by kernel_rfl) (fun _ _ _ h => h) (Or.inl ⟨by rfl, ?_⟩) (HSC.out _ HS2.out) ?_
          · intro W hSW
            have hA := HAD.out
            by_cases hc : cap = j1
            · have hcI : (((cap : Nat) : Int) == (j1 : Int)) = true := by rw [beq_iff_eq]; omega
              rw [if_pos hc] at hA
              rw [hA]
              clear hA
              go_simp
              all_goals (try omega)
            · have hcI : (((cap : Nat) : Int) == (j1 : Int)) = false := by rw [beq_eq_false_iff_ne]; omega
              rw [if_neg hc] at hA
              rw [hA]
              clear hA
              go_simp
              all_goals (try omega)
          simp only [Act.put, List.getElem_toArray, List.getElem_cons_succ, List.getElem_cons_zero, List.setIfInBounds_toArray, List.set_cons_succ, List.set_cons_zero]
          refine wpAnyH_ready (rs := [13]) (by kernel_rfl) (by simp) ?_
          refine AllReadyH.cons rfl (fun K hK => ?_) AllReadyH.nil
          refine step_append_linkA rfl (.tmp 212) (.tmp 218) rfl wv.heap.size _ j A rfl HO2.out AD (n - j1) (cap - j1) rfl B HBl.out (HNW.out _ HS2.out.1).2 (HONE.out _ HS2.out.1).2 (by have := HR.out; have := HJ1.out; omega) HB2.out.size ?_
          intro v3 w3' hown3 hgrow3 hfr3
          have hb3 : Below wv.heap.size wv w3' := HB2.out.grown hgrow3 HB2.out.size HF2.out
          have hS3 : StL w w3' base g cap n 4 (j : Int) s D := HSd.out.kept HBV.out hb3
          have hf3 : ∀ k, v3.ownBlock = some k → wv.heap.size ≤ k := fun k hk => by
            rcases hfr3 k hk with h | h
            · exact HF2.out k h
            · exact Nat.le_trans HB2.out.size h
          have hn1 : j + (n - j1) = n1 := by have := HR.out; have := HJ1.out; have := HN1.out; omega
          rw [HAB.out, hn1] at hown3
          have hL3 : LBld w3' base v3 D6 := HL6.out w3' v3 hS3.1 (own_mono hown3 HBV.out)
          have hDl := HDl.out
          obtain ⟨g6, cap6, hv6, _, _, _⟩ := hL3.form (by have := HR.out; have := HN1.out; omega)
          rw [hDl] at hv6
          subst hv6
          have HG6 : Hid (g6 < w.heap.size ∨ w.heap.size + 3 ≤ g6) := by
            show _ ∨ _
            have h9 := hf3 g6 rfl
            have := HZd.out
            exact .inr (by omega)
          obtain ⟨W7, hW7⟩ : ∃ W7, W7 = w3'.setCell ⟨w.heap.size, 0, none⟩ (.slice (some ⟨g6, 0, none⟩) n1 cap6) := ⟨_, rfl⟩
          have HW7 : Hid (w3'.setCell ⟨w.heap.size, 0, none⟩ (.slice (some ⟨g6, 0, none⟩) n1 cap6) = W7) := hW7.symm
          have hB7 : StB w W7 (.slice (some ⟨g6, 0, none⟩) n1 cap6) 4 (j : Int) s := by rw [hW7]; exact hS3.2.2.2.2.1.box _
          have HL7 : Hid (LBld W7 base (.slice (some ⟨g6, 0, none⟩) n1 cap6) D6) := by show LBld _ _ _ _; rw [hW7]; exact lbld_far2 hL3 (lbld_type hL3 hS3.2.2.2.2.1.1 (by decide) (by decide)) _
          have HBW7 : Hid (Below base w W7) := by show Below _ _ _; rw [hW7]; exact hS3.2.2.2.1.setCell (p := ⟨w.heap.size, 0, none⟩) HBS.out _
          have HOW7 : Hid (Oth w W7) := by show Oth _ _; rw [hW7]; exact hS3.2.2.2.2.2.new (Nat.le_refl _) _ _
          have HF7 : Hid (OffL w D6) := HOF.out hS3.2.1
          have HX7 : Hid (W7.cell? ⟨w.heap.size + 1, 1, none⟩ = some (.int .i64 (j : Int))) := hB7.cells.2.1.2.1
          have HB7 : Hid (StB w W7 (.slice (some ⟨g6, 0, none⟩) n1 cap6) 4 (j : Int) s) := hB7
          obtain ⟨s0, _, _, _⟩ := hS3.2.2.2.2.1.cells
          have sf : w3'.frozen? ⟨w.heap.size, 0, none⟩ = false := by unfold World.frozen?; rw [hS3.2.2.2.2.1.1]; simp
          have HX3 : Hid (w3'.cell? ⟨w.heap.size + 1, 1, none⟩ = some (.int .i64 (j : Int))) := HSC.out _ hS3
          clear hown3 hgrow3 hfr3 hb3 hS3 hf3 hn1 hL3 hDl hW7 hB7
          simp only [Act.put, List.getElem_toArray, List.getElem_cons_succ, List.getElem_cons_zero, List.setIfInBounds_toArray, List.set_cons_succ, List.set_cons_zero]
          refine hK.out _ _ HX3.out (fun hSS => ?_)
          clear hK
          refine wpAnyH_take (i := 14) (v := .pointer (some ⟨w.heap.size, 0, none⟩)) rfl (by kernel_rfl) (by kernel_rfl) (by kernel_rfl) (fun _ _ _ h => h) (Or.inl ⟨by rfl, ?_⟩) (by assumption) ?_
          · intro W hSW
            go_simp
            all_goals (try omega)
          simp only [Act.put, List.getElem_toArray, List.getElem_cons_succ, List.getElem_cons_zero, List.setIfInBounds_toArray, List.set_cons_succ, List.set_cons_zero]
          refine wpAnyH_ready (rs := [15]) (by kernel_rfl) (by simp) ?_
          refine AllReadyH.cons rfl (fun K hK => ?_) AllReadyH.nil
          rw [if_pos (by rfl)]
          go_simp
          rw [HW7.out]
          refine hK.out _ _ HX7.out (fun hSS6 => ?_)
          clear hK hSS6 hSS s0 sf HW7
          refine wpAnyH_done (by kernel_rfl) ?_ _
          refine NoPanic.normal ?_
          exact ⟨rfl, _, _, _, _, _, _, _, _, _, _, _, _, _, _, _, rfl, g6, cap6, D6, HB7.out, HL7.out, HLK.out, HDl.out.symm, HBW7.out, HOW7.out, HG6.out, HF7.out⟩
        · rw [if_pos (by rfl)]
          obtain ⟨q0, _, _, _⟩ := HSE.out.2.2.2.2.1.cells
          go_simp
          refine hK.out _ _ (HSC.out _ HSE.out) (fun hSS => ?_)
          clear hK hSS q0
          refine wpAnyH_take (i := 12) (v := .slice (some AD) (n - j1) (cap - j1)) rfl (by kernel_rfl) (by kernel_rfl) (by kernel_rfl) (fun _ _ _ h => h) (Or.inl ⟨by rfl, ?_⟩) (HSC.out _ HSE.out) ?_
          · intro W hSW
            have hA := HAD.out
            by_cases hc : cap = j1
            · have hcI : (((cap : Nat) : Int) == (j1 : Int)) = true := by rw [beq_iff_eq]; omega
              rw [if_pos hc] at hA
              rw [hA]
              clear hA
              go_simp
              all_goals (try omega)
            · have hcI : (((cap : Nat) : Int) == (j1 : Int)) = false := by rw [beq_eq_false_iff_ne]; omega
              rw [if_neg hc] at hA
              rw [hA]
              clear hA
              go_simp
              all_goals (try omega)
          simp only [Act.put, List.getElem_toArray, List.getElem_cons_succ, List.getElem_cons_zero, List.setIfInBounds_toArray, List.set_cons_succ, List.set_cons_zero]
          refine wpAnyH_ready (rs := [6]) (by kernel_rfl) (by simp) ?_
          refine AllReadyH.cons rfl (fun K hK => ?_) AllReadyH.nil
          refine step_append_linkA rfl (.tmp 206) (.tmp 211) rfl wv.heap.size _ 0 [] rfl HOE.out ⟨g, 0, none⟩ j cap rfl A HAl.out (HNW.out _ HSE.out.1).1 (HONE.out _ HSE.out.1).1 (by have := HR.out; omega) HBE.out.size ?_
          intro v2 w2 hown2 hgrow2 hfr2
          have hb2 : Below wv.heap.size wv w2 := HBE.out.grown hgrow2 HBE.out.size (fun j e => by have q : wv.heap.size = j := Option.some.inj e; omega)
          have HB2 : Hid (Below wv.heap.size wv w2) := hb2
          have HS2 : Hid (StL w w2 base g cap n 4 (j : Int) s D) := HSd.out.kept HBV.out hb2
          have HO2 : Hid (w2.ownsRow wv.heap.size 71 3 v2 j A) := by show World.ownsRow _ _ _ _ _ _ _; rw [Nat.zero_add, List.nil_append] at hown2; exact hown2
          have HF2 : Hid (∀ k, v2.ownBlock = some k → wv.heap.size ≤ k) := fun k hk => by
            rcases hfr2 k hk with h | h
            · have q : wv.heap.size = k := Option.some.inj h
              omega
            · exact Nat.le_trans HBE.out.size h
          clear hown2 hgrow2 hfr2 hb2
          simp only [Act.put, List.getElem_toArray, List.getElem_cons_succ, List.getElem_cons_zero, List.setIfInBounds_toArray, List.set_cons_succ, List.set_cons_zero]
          refine hK.out _ _ (HSC.out _ HS2.out) (fun hSS => ?_)
          clear hK hSS
          refine wpAnyH_ready (rs := [13]) (by kernel_rfl) (by simp) ?_
          refine AllReadyH.cons rfl (fun K hK => ?_) AllReadyH.nil
          refine step_append_linkA rfl (.tmp 212) (.tmp 218) rfl wv.heap.size _ j A rfl HO2.out AD (n - j1) (cap - j1) rfl B HBl.out (HNW.out _ HS2.out.1).2 (HONE.out _ HS2.out.1).2 (by have := HR.out; have := HJ1.out; omega) HB2.out.size ?_
          intro v3 w3' hown3 hgrow3 hfr3
          have hb3 : Below wv.heap.size wv w3' := HB2.out.grown hgrow3 HB2.out.size HF2.out
          have hS3 : StL w w3' base g cap n 4 (j : Int) s D := HSd.out.kept HBV.out hb3
          have hf3 : ∀ k, v3.ownBlock = some k → wv.heap.size ≤ k := fun k hk => by
            rcases hfr3 k hk with h | h
            · exact HF2.out k h
            · exact Nat.le_trans HB2.out.size h
          have hn1 : j + (n - j1) = n1 := by have := HR.out; have := HJ1.out; have := HN1.out; omega
          rw [HAB.out, hn1] at hown3
          have hL3 : LBld w3' base v3 D6 := HL6.out w3' v3 hS3.1 (own_mono hown3 HBV.out)
          have hDl := HDl.out
          obtain ⟨g6, cap6, hv6, _, _, _⟩ := hL3.form (by have := HR.out; have := HN1.out; omega)
          rw [hDl] at hv6
          subst hv6
          have HG6 : Hid (g6 < w.heap.size ∨ w.heap.size + 3 ≤ g6) := by
            show _ ∨ _
            have h9 := hf3 g6 rfl
            have := HZd.out
            exact .inr (by omega)
          obtain ⟨W7, hW7⟩ : ∃ W7, W7 = w3'.setCell ⟨w.heap.size, 0, none⟩ (.slice (some ⟨g6, 0, none⟩) n1 cap6) := ⟨_, rfl⟩
          have HW7 : Hid (w3'.setCell ⟨w.heap.size, 0, none⟩ (.slice (some ⟨g6, 0, none⟩) n1 cap6) = W7) := hW7.symm
          have hB7 : StB w W7 (.slice (some ⟨g6, 0, none⟩) n1 cap6) 4 (j : Int) s := by rw [hW7]; exact hS3.2.2.2.2.1.box _
          have HL7 : Hid (LBld W7 base (.slice (some ⟨g6, 0, none⟩) n1 cap6) D6) := by show LBld _ _ _ _; rw [hW7]; exact lbld_far2 hL3 (lbld_type hL3 hS3.2.2.2.2.1.1 (by decide) (by decide)) _
          have HBW7 : Hid (Below base w W7) := by show Below _ _ _; rw [hW7]; exact hS3.2.2.2.1.setCell (p := ⟨w.heap.size, 0, none⟩) HBS.out _
          have HOW7 : Hid (Oth w W7) := by show Oth _ _; rw [hW7]; exact hS3.2.2.2.2.2.new (Nat.le_refl _) _ _
          have HF7 : Hid (OffL w D6) := HOF.out hS3.2.1
          have HX7 : Hid (W7.cell? ⟨w.heap.size + 1, 1, none⟩ = some (.int .i64 (j : Int))) := hB7.cells.2.1.2.1
          have HB7 : Hid (StB w W7 (.slice (some ⟨g6, 0, none⟩) n1 cap6) 4 (j : Int) s) := hB7
          obtain ⟨s0, _, _, _⟩ := hS3.2.2.2.2.1.cells
          have sf : w3'.frozen? ⟨w.heap.size, 0, none⟩ = false := by unfold World.frozen?; rw [hS3.2.2.2.2.1.1]; simp
          have HX3 : Hid (w3'.cell? ⟨w.heap.size + 1, 1, none⟩ = some (.int .i64 (j : Int))) := HSC.out _ hS3
          clear hown3 hgrow3 hfr3 hb3 hS3 hf3 hn1 hL3 hDl hW7 hB7
          simp only [Act.put, List.getElem_toArray, List.getElem_cons_succ, List.getElem_cons_zero, List.setIfInBounds_toArray, List.set_cons_succ, List.set_cons_zero]
          refine hK.out _ _ HX3.out (fun hSS => ?_)
          clear hK
          refine wpAnyH_take (i := 14) (v := .pointer (some ⟨w.heap.size, 0, none⟩)) rfl (by kernel_rfl) (by kernel_rfl) (by kernel_rfl) (fun _ _ _ h => h) (Or.inl ⟨by rfl, ?_⟩) (by assumption) ?_
          · intro W hSW
            go_simp
            all_goals (try omega)
          simp only [Act.put, List.getElem_toArray, List.getElem_cons_succ, List.getElem_cons_zero, List.setIfInBounds_toArray, List.set_cons_succ, List.set_cons_zero]
          refine wpAnyH_ready (rs := [15]) (by kernel_rfl) (by simp) ?_
          refine AllReadyH.cons rfl (fun K hK => ?_) AllReadyH.nil
          rw [if_pos (by rfl)]
          go_simp
          rw [HW7.out]
          refine hK.out _ _ HX7.out (fun hSS6 => ?_)
          clear hK hSS6 hSS s0 sf HW7
          refine wpAnyH_done (by kernel_rfl) ?_ _
          refine NoPanic.normal ?_
          exact ⟨rfl, _, _, _, _, _, _, _, _, _, _, _, _, _, _, _, rfl, g6, cap6, D6, HB7.out, HL7.out, HLK.out, HDl.out.symm, HBW7.out, HOW7.out, HG6.out, HF7.out⟩
      · rw [if_pos (by rfl)]
        obtain ⟨q0, _, _, _⟩ := HSE.out.2.2.2.2.1.cells
        go_simp
        refine hK.out _ _ (HSC.out _ HSE.out) (fun hSS => ?_)
        clear hK hSS q0
        refine wpAnyH_take (i := 12) (v := .slice (some AD) (n - j1) (cap - j1)) rfl (by kernel_rfl) (by kernel_rfl) (by kernel_rfl) (fun _ _ _ h => h) (Or.inl ⟨by rfl, ?_⟩) (HSC.out _ HSE.out) ?_
        · intro W hSW
          have hA := HAD.out
          by_cases hc : cap = j1
          · have hcI : (((cap : Nat) : Int) == (j1 : Int)) = true := by rw [beq_iff_eq]; omega
            rw [if_pos hc] at hA
            rw [hA]
            clear hA
            go_simp
            all_goals (try omega)
          · have hcI : (((cap : Nat) : Int) == (j1 : Int)) = false := by rw [beq_eq_false_iff_ne]; omega
            rw [if_neg hc] at hA
            rw [hA]
            clear hA
            go_simp
            all_goals (try omega)
        simp only [Act.put, List.getElem_toArray, List.getElem_cons_succ, List.getElem_cons_zero, List.setIfInBounds_toArray, List.set_cons_succ, List.set_cons_zero]
        refine wpAnyH_ready (rs := [2]) (by kernel_rfl) (by simp) ?_
        refine AllReadyH.cons rfl (fun K hK => ?_) AllReadyH.nil
        rw [if_pos (by rfl)]
        obtain ⟨q0, _, _, _⟩ := HSE.out.2.2.2.2.1.cells
        go_simp
        refine hK.out _ _ (HSC.out _ HSE.out) (fun hSS => ?_)
        clear hK hSS q0
        refine wpAnyH_take (i := 5) (v := .slice (some ⟨g, 0, none⟩) j cap) rfl (by kernel_rfl) (by kernel_rfl) (by kernel_rfl) (fun _ _ _ h => h) (Or.inl ⟨by rfl, ?_⟩) (HSC.out _ HSE.out) ?_
        · intro W hSW
          go_simp
          all_goals (try omega)
        simp only [Act.put, List.getElem_toArray, List.getElem_cons_succ, List.getElem_cons_zero, List.setIfInBounds_toArray, List.set_cons_succ, List.set_cons_zero]
        refine wpAnyH_ready (rs := [6]) (by kernel_rfl) (by simp) ?_
        refine AllReadyH.cons rfl (fun K hK => ?_) AllReadyH.nil
        refine step_append_linkA rfl (.tmp 206) (.tmp 211) rfl wv.heap.size _ 0 [] rfl HOE.out ⟨g, 0, none⟩ j cap rfl A HAl.out (HNW.out _ HSE.out.1).1 (HONE.out _ HSE.out.1).1 (by have := HR.out; omega) HBE.out.size ?_
        intro v2 w2 hown2 hgrow2 hfr2
        have hb2 : Below wv.heap.size wv w2 := HBE.out.grown hgrow2 HBE.out.size (fun j e => by have q : wv.heap.size = j := Option.some.inj e; omega)
        have HB2 : Hid (Below wv.heap.size wv w2) := hb2
        have HS2 : Hid (StL w w2 base g cap n 4 (j : Int) s D) := HSd.out.kept HBV.out hb2
        have HO2 : Hid (w2.ownsRow wv.heap.size 71 3 v2 j A) := by show World.ownsRow _ _ _ _ _ _ _; rw [Nat.zero_add, List.nil_append] at hown2; exact hown2
        have HF2 : Hid (∀ k, v2.ownBlock = some k → wv.heap.size ≤ k) := fun k hk => by
          rcases hfr2 k hk with h | h
          · have q : wv.heap.size = k := Option.some.inj h
            omega
          · exact Nat.le_trans HBE.out.size h
        clear hown2 hgrow2 hfr2 hb2
        simp only [Act.put, List.getElem_toArray, List.getElem_cons_succ, List.getElem_cons_zero, List.setIfInBounds_toArray, List.set_cons_succ, List.set_cons_zero]
        refine hK.out _ _ (HSC.out _ HS2.out) (fun hSS => ?_)
        clear hK hSS
        refine wpAnyH_ready (rs := [13]) (by kernel_rfl) (by simp) ?_
        refine AllReadyH.cons rfl (fun K hK => ?_) AllReadyH.nil
        refine step_append_linkA rfl (.tmp 212) (.tmp 218) rfl wv.heap.size _ j A rfl HO2.out AD (n - j1) (cap - j1) rfl B HBl.out (HNW.out _ HS2.out.1).2 (HONE.out _ HS2.out.1).2 (by have := HR.out; have := HJ1.out; omega) HB2.out.size ?_
        intro v3 w3' hown3 hgrow3 hfr3
        have hb3 : Below wv.heap.size wv w3' := HB2.out.grown hgrow3 HB2.out.size HF2.out
        have hS3 : StL w w3' base g cap n 4 (j : Int) s D := HSd.out.kept HBV.out hb3
        have hf3 : ∀ k, v3.ownBlock = some k → wv.heap.size ≤ k := fun k hk => by
          rcases hfr3 k hk with h | h
          · exact HF2.out k h
          · exact Nat.le_trans HB2.out.size h
        have hn1 : j + (n - j1) = n1 := by have := HR.out; have := HJ1.out; have := HN1.out; omega
        rw [HAB.out, hn1] at hown3
        have hL3 : LBld w3' base v3 D6 := HL6.out w3' v3 hS3.1 (own_mono hown3 HBV.out)
        have hDl := HDl.out
        obtain ⟨g6, cap6, hv6, _, _, _⟩ := hL3.form (by have := HR.out; have := HN1.out; omega)
        rw [hDl] at hv6
        subst hv6
        have HG6 : Hid (g6 < w.heap.size ∨ w.heap.size + 3 ≤ g6) := by
          show _ ∨ _
          have h9 := hf3 g6 rfl
          have := HZd.out
          exact .inr (by omega)
        obtain ⟨W7, hW7⟩ : ∃ W7, W7 = w3'.setCell ⟨w.heap.size, 0, none⟩ (.slice (some ⟨g6, 0, none⟩) n1 cap6) := ⟨_, rfl⟩
        have HW7 : Hid (w3'.setCell ⟨w.heap.size, 0, none⟩ (.slice (some ⟨g6, 0, none⟩) n1 cap6) = W7) := hW7.symm
        have hB7 : StB w W7 (.slice (some ⟨g6, 0, none⟩) n1 cap6) 4 (j : Int) s := by rw [hW7]; exact hS3.2.2.2.2.1.box _
        have HL7 : Hid (LBld W7 base (.slice (some ⟨g6, 0, none⟩) n1 cap6) D6) := by show LBld _ _ _ _; rw [hW7]; exact lbld_far2 hL3 (lbld_type hL3 hS3.2.2.2.2.1.1 (by decide) (by decide)) _
        have HBW7 : Hid (Below base w W7) := by show Below _ _ _; rw [hW7]; exact hS3.2.2.2.1.setCell (p := ⟨w.heap.size, 0, none⟩) HBS.out _
        have HOW7 : Hid (Oth w W7) := by show Oth _ _; rw [hW7]; exact hS3.2.2.2.2.2.new (Nat.le_refl _) _ _
        have HF7 : Hid (OffL w D6) := HOF.out hS3.2.1
        have HX7 : Hid (W7.cell? ⟨w.heap.size + 1, 1, none⟩ = some (.int .i64 (j : Int))) := hB7.cells.2.1.2.1
        have HB7 : Hid (StB w W7 (.slice (some ⟨g6, 0, none⟩) n1 cap6) 4 (j : Int) s) := hB7
        obtain ⟨s0, _, _, _⟩ := hS3.2.2.2.2.1.cells
        have sf : w3'.frozen? ⟨w.heap.size, 0, none⟩ = false := by unfold World.frozen?; rw [hS3.2.2.2.2.1.1]; simp
        have HX3 : Hid (w3'.cell? ⟨w.heap.size + 1, 1, none⟩ = some (.int .i64 (j : Int))) := HSC.out _ hS3
        clear hown3 hgrow3 hfr3 hb3 hS3 hf3 hn1 hL3 hDl hW7 hB7
        simp only [Act.put, List.getElem_toArray, List.getElem_cons_succ, List.getElem_cons_zero, List.setIfInBounds_toArray, List.set_cons_succ, List.set_cons_zero]
        refine hK.out _ _ HX3.out (fun hSS => ?_)
        clear hK
        refine wpAnyH_take (i := 14) (v := .pointer (some ⟨w.heap.size, 0, none⟩)) rfl (by kernel_rfl) (by kernel_rfl) (by kernel_rfl) (fun _ _ _ h => h) (Or.inl ⟨by rfl, ?_⟩) (by assumption) ?_
        · intro W hSW
          go_simp
          all_goals (try omega)
        simp only [Act.put, List.getElem_toArray, List.getElem_cons_succ, List.getElem_cons_zero, List.setIfInBounds_toArray, List.set_cons_succ, List.set_cons_zero]
        refine wpAnyH_ready (rs := [15]) (by kernel_rfl) (by simp) ?_
        refine AllReadyH.cons rfl (fun K hK => ?_) AllReadyH.nil
        rw [if_pos (by rfl)]
        go_simp
        rw [HW7.out]
        refine hK.out _ _ HX7.out (fun hSS6 => ?_)
        clear hK hSS6 hSS s0 sf HW7
        refine wpAnyH_done (by kernel_rfl) ?_ _
        refine NoPanic.normal ?_
        exact ⟨rfl, _, _, _, _, _, _, _, _, _, _, _, _, _, _, _, rfl, g6, cap6, D6, HB7.out, HL7.out, HLK.out, HDl.out.symm, HBW7.out, HOW7.out, HG6.out, HF7.out⟩
    · rw [if_pos (by rfl)]
      obtain ⟨q0, _, _, _⟩ := HSd.out.2.2.2.2.1.cells
      go_simp
      refine hK.out _ _ (HSC.out _ HSd.out) (fun hSS => ?_)
      clear hK hSS q0
      refine wpAnyH_take (i := 5) (v := .slice (some ⟨g, 0, none⟩) j cap) rfl (by kernel_rfl) (by kernel_rfl) (by kernel_rfl) (fun _ _ _ h => h) (Or.inl ⟨by rfl, ?_⟩) (HSC.out _ HSd.out) ?_
      · intro W hSW
        go_simp
        all_goals (try omega)
      simp only [Act.put, List.getElem_toArray, List.getElem_cons_succ, List.getElem_cons_zero, List.setIfInBounds_toArray, List.set_cons_succ, List.set_cons_zero]
      refine wpAnyH_ready (rs := [0, 8]) (by kernel_rfl) (by simp) ?_
      refine AllReadyH.cons rfl (fun K hK => ?_) (AllReadyH.cons rfl (fun K hK => ?_) AllReadyH.nil)
      · rw [if_pos (by rfl)]
        go_simp
        rw [HWE.out]
        refine hK.out _ _ (HSC.out _ HSE.out) (fun hSS => ?_)
        clear hK hSS
        refine wpAnyH_ready (rs := [6, 8]) (by kernel_rfl) (by simp) ?_
        refine AllReadyH.cons rfl (fun K hK => ?_) (AllReadyH.cons rfl (fun K hK => ?_) AllReadyH.nil)
        · refine step_append_linkA rfl (.tmp 206) (.tmp 211) rfl wv.heap.size _ 0 [] rfl HOE.out ⟨g, 0, none⟩ j cap rfl A HAl.out (HNW.out _ HSE.out.1).1 (HONE.out _ HSE.out.1).1 (by have := HR.out; omega) HBE.out.size ?_
          intro v2 w2 hown2 hgrow2 hfr2
          have hb2 : Below wv.heap.size wv w2 := HBE.out.grown hgrow2 HBE.out.size (fun j e => by have q : wv.heap.size = j := Option.some.inj e; omega)
          have HB2 : Hid (Below wv.heap.size wv w2) := hb2
          have HS2 : Hid (StL w w2 base g cap n 4 (j : Int) s D) := HSd.out.kept HBV.out hb2
          have HO2 : Hid (w2.ownsRow wv.heap.size 71 3 v2 j A) := by show World.ownsRow _ _ _ _ _ _ _; rw [Nat.zero_add, List.nil_append] at hown2; exact hown2
          have HF2 : Hid (∀ k, v2.ownBlock = some k → wv.heap.size ≤ k) := fun k hk => by
            rcases hfr2 k hk with h | h
            · have q : wv.heap.size = k := Option.some.inj h
              omega
            · exact Nat.le_trans HBE.out.size h
          clear hown2 hgrow2 hfr2 hb2
          simp only [Act.put, List.getElem_toArray, List.getElem_cons_succ, List.getElem_cons_zero, List.setIfInBounds_toArray, List.set_cons_succ, List.set_cons_zero]
          refine hK.out _ _ (HSC.out _ HS2.out) (fun hSS => ?_)
          clear hK hSS
          refine wpAnyH_ready (rs := [8]) (by kernel_rfl) (by simp) ?_
          refine AllReadyH.cons rfl (fun K hK => ?_) AllReadyH.nil
          rw [if_pos (by rfl)]
          obtain ⟨q0, _, _, _⟩ := HS2.out.2.2.2.2.1.cells
          go_simp
          refine hK.out _ _ (HSC.out _ HS2.out) (fun hSS => ?_)
          clear hK hSS q0
          refine wpAnyH_take (i := 12) (v := .slice (some AD) (n - j1) (cap - j1)) rfl (by kernel_rfl) (by kernel_rfl) (by kernel_rfl) (fun _ _ _ h => h) (Or.inl ⟨by rfl, ?_⟩) (HSC.out _ HS2.out) ?_
          · intro W hSW
            have hA := HAD.out
            by_cases hc : cap = j1
            · have hcI : (((cap : Nat) : Int) == (j1 : Int)) = true := by rw [beq_iff_eq]; omega
              rw [if_pos hc] at hA
              rw [hA]
              clear hA
              go_simp
              all_goals (try omega)
            · have hcI : (((cap : Nat) : Int) == (j1 : Int)) = false := by rw [beq_eq_false_iff_ne]; omega
              rw [if_neg hc] at hA
              rw [hA]
              clear hA
              go_simp
              all_goals (try omega)
          simp only [Act.put, List.getElem_toArray, List.getElem_cons_succ, List.getElem_cons_zero, List.setIfInBounds_toArray, List.set_cons_succ, List.set_cons_zero]
          refine wpAnyH_ready (rs := [13]) (by kernel_rfl) (by simp) ?_
          refine AllReadyH.cons rfl (fun K hK => ?_) AllReadyH.nil
          refine step_append_linkA rfl (.tmp 212) (.tmp 218) rfl wv.heap.size _ j A rfl HO2.out AD (n - j1) (cap - j1) rfl B HBl.out (HNW.out _ HS2.out.1).2 (HONE.out _ HS2.out.1).2 (by have := HR.out; have := HJ1.out; omega) HB2.out.size ?_
          intro v3 w3' hown3 hgrow3 hfr3
          have hb3 : Below wv.heap.size wv w3' := HB2.out.grown hgrow3 HB2.out.size HF2.out
          have hS3 : StL w w3' base g cap n 4 (j : Int) s D := HSd.out.kept HBV.out hb3
          have hf3 : ∀ k, v3.ownBlock = some k → wv.heap.size ≤ k := fun k hk => by
            rcases hfr3 k hk with h | h
            · exact HF2.out k h
            · exact Nat.le_trans HB2.out.size h
          have hn1 : j + (n - j1) = n1 := by have := HR.out; have := HJ1.out; have := HN1.out; omega
          rw [HAB.out, hn1] at hown3
          have hL3 : LBld w3' base v3 D6 := HL6.out w3' v3 hS3.1 (own_mono hown3 HBV.out)
          have hDl := HDl.out
          obtain ⟨g6, cap6, hv6, _, _, _⟩ := hL3.form (by have := HR.out; have := HN1.out; omega)
          rw [hDl] at hv6
          subst hv6
          have HG6 : Hid (g6 < w.heap.size ∨ w.heap.size + 3 ≤ g6) := by
            show _ ∨ _
            have h9 := hf3 g6 rfl
            have := HZd.out
            exact .inr (by omega)
          obtain ⟨W7, hW7⟩ : ∃ W7, W7 = w3'.setCell ⟨w.heap.size, 0, none⟩ (.slice (some ⟨g6, 0, none⟩) n1 cap6) := ⟨_, rfl⟩
          have HW7 : Hid (w3'.setCell ⟨w.heap.size, 0, none⟩ (.slice (some ⟨g6, 0, none⟩) n1 cap6) = W7) := hW7.symm
          have hB7 : StB w W7 (.slice (some ⟨g6, 0, none⟩) n1 cap6) 4 (j : Int) s := by rw [hW7]; exact hS3.2.2.2.2.1.box _
          have HL7 : Hid (LBld W7 base (.slice (some ⟨g6, 0, none⟩) n1 cap6) D6) := by show LBld _ _ _ _; rw [hW7]; exact lbld_far2 hL3 (lbld_type hL3 hS3.2.2.2.2.1.1 (by decide) (by decide)) _
          have HBW7 : Hid (Below base w W7) := by show Below _ _ _; rw [hW7]; exact hS3.2.2.2.1.setCell (p := ⟨w.heap.size, 0, none⟩) HBS.out _
          have HOW7 : Hid (Oth w W7) := by show Oth _ _; rw [hW7]; exact hS3.2.2.2.2.2.new (Nat.le_refl _) _ _
          have HF7 : Hid (OffL w D6) := HOF.out hS3.2.1
          have HX7 : Hid (W7.cell? ⟨w.heap.size + 1, 1, none⟩ = some (.int .i64 (j : Int))) := hB7.cells.2.1.2.1
          have HB7 : Hid (StB w W7 (.slice (some ⟨g6, 0, none⟩) n1 cap6) 4 (j : Int) s) := hB7
          obtain ⟨s0, _, _, _⟩ := hS3.2.2.2.2.1.cells
          have sf : w3'.frozen? ⟨w.heap.size, 0, none⟩ = false := by unfold World.frozen?; rw [hS3.2.2.2.2.1.1]; simp
          have HX3 : Hid (w3'.cell? ⟨w.heap.size + 1, 1, none⟩ = some (.int .i64 (j : Int))) := HSC.out _ hS3
          clear hown3 hgrow3 hfr3 hb3 hS3 hf3 hn1 hL3 hDl hW7 hB7
          simp only [Act.put, List.getElem_toArray, List.getElem_cons_succ, List.getElem_cons_zero, List.setIfInBounds_toArray, List.set_cons_succ, List.set_cons_zero]
          refine hK.out _ _ HX3.out (fun hSS => ?_)
          clear hK
          refine wpAnyH_take (i := 14) (v := .pointer (some ⟨w.heap.size, 0, none⟩)) rfl (by kernel_rfl) (by kernel_rfl) (by kernel_rfl) (fun _ _ _ h => h) (Or.inl ⟨by rfl, ?_⟩) (by assumption) ?_
          · intro W hSW
            go_simp
            all_goals (try omega)
          simp only [Act.put, List.getElem_toArray, List.getElem_cons_succ, List.getElem_cons_zero, List.setIfInBounds_toArray, List.set_cons_succ, List.set_cons_zero]
          refine wpAnyH_ready (rs := [15]) (by kernel_rfl) (by simp) ?_
          refine AllReadyH.cons rfl (fun K hK => ?_) AllReadyH.nil
          rw [if_pos (by rfl)]
          go_simp
          rw [HW7.out]
          refine hK.out _ _ HX7.out (fun hSS6 => ?_)
          clear hK hSS6 hSS s0 sf HW7
          refine wpAnyH_done (by kernel_rfl) ?_ _
          refine NoPanic.normal ?_
          exact ⟨rfl, _, _, _, _, _, _, _, _, _, _, _, _, _, _, _, rfl, g6, cap6, D6, HB7.out, HL7.out, HLK.out, HDl.out.symm, HBW7.out, HOW7.out, HG6.out, HF7.out⟩
        · rw [if_pos (by rfl)]
          obtain ⟨q0, _, _, _⟩ := HSE.out.2.2.2.2.1.cells
          go_simp
          refine hK.out _ _ (HSC.out _ HSE.out) (fun hSS => ?_)
          clear hK hSS q0
          refine wpAnyH_take (i := 12) (v := .slice (some AD) (n - j1) (cap - j1)) rfl (by kernel_rfl) (by kernel_rfl) (by kernel_rfl) (fun _ _ _ h => h) (Or.inl ⟨by rfl, ?_⟩) (HSC.out _ HSE.out) ?_
          · intro W hSW
            have hA := HAD.out
            by_cases hc : cap = j1
            · have hcI : (((cap : Nat) : Int) == (j1 : Int)) = true := by rw [beq_iff_eq]; omega
              rw [if_pos hc] at hA
              rw [hA]
              clear hA
              go_simp
              all_goals (try omega)
            · have hcI : (((cap : Nat) : Int) == (j1 : Int)) = false := by rw [beq_eq_false_iff_ne]; omega
              rw [if_neg hc] at hA
              rw [hA]
              clear hA
              go_simp
              all_goals (try omega)
          simp only [Act.put, List.getElem_toArray, List.getElem_cons_succ, List.getElem_cons_zero, List.setIfInBounds_toArray, List.set_cons_succ, List.set_cons_zero]
          refine wpAnyH_ready (rs := [6]) (by kernel_rfl) (by simp) ?_
          refine AllReadyH.cons rfl (fun K hK => ?_) AllReadyH.nil
          refine step_append_linkA rfl (.tmp 206) (.tmp 211) rfl wv.heap.size _ 0 [] rfl HOE.out ⟨g, 0, none⟩ j cap rfl A HAl.out (HNW.out _ HSE.out.1).1 (HONE.out _ HSE.out.1).1 (by have := HR.out; omega) HBE.out.size ?_
          intro v2 w2 hown2 hgrow2 hfr2
          have hb2 : Below wv.heap.size wv w2 := HBE.out.grown hgrow2 HBE.out.size (fun j e => by have q : wv.heap.size = j := Option.some.inj e; omega)
          have HB2 : Hid (Below wv.heap.size wv w2) := hb2
          have HS2 : Hid (StL w w2 base g cap n 4 (j : Int) s D) := HSd.out.kept HBV.out hb2
          have HO2 : Hid (w2.ownsRow wv.heap.size 71 3 v2 j A) := by show World.ownsRow _ _ _ _ _ _ _; rw [Nat.zero_add, List.nil_append] at hown2; exact hown2
          have HF2 : Hid (∀ k, v2.ownBlock = some k → wv.heap.size ≤ k) := fun k hk => by
            rcases hfr2 k hk with h | h
            · have q : wv.heap.size = k := Option.some.inj h
              omega
            · exact Nat.le_trans HBE.out.size h
          clear hown2 hgrow2 hfr2 hb2
          simp only [Act.put, List.getElem_toArray, List.getElem_cons_succ, List.getElem_cons_zero, List.setIfInBounds_toArray, List.set_cons_succ, List.set_cons_zero]
          refine hK.out _ _ (HSC.out _ HS2.out) (fun hSS => ?_)
          clear hK hSS
          refine wpAnyH_ready (rs := [13]) (by kernel_rfl) (by simp) ?_
          refine AllReadyH.cons rfl (fun K hK => ?_) AllReadyH.nil
          refine step_append_linkA rfl (.tmp 212) (.tmp 218) rfl wv.heap.size _ j A rfl HO2.out AD (n - j1) (cap - j1) rfl B HBl.out (HNW.out _ HS2.out.1).2 (HONE.out _ HS2.out.1).2 (by have := HR.out; have := HJ1.out; omega) HB2.out.size ?_
          intro v3 w3' hown3 hgrow3 hfr3
          have hb3 : Below wv.heap.size wv w3' := HB2.out.grown hgrow3 HB2.out.size HF2.out
          have hS3 : StL w w3' base g cap n 4 (j : Int) s D := HSd.out.kept HBV.out hb3
          have hf3 : ∀ k, v3.ownBlock = some k → wv.heap.size ≤ k := fun k hk => by
            rcases hfr3 k hk with h | h
            · exact HF2.out k h
            · exact Nat.le_trans HB2.out.size h
          have hn1 : j + (n - j1) = n1 := by have := HR.out; have := HJ1.out; have := HN1.out; omega
          rw [HAB.out, hn1] at hown3
          have hL3 : LBld w3' base v3 D6 := HL6.out w3' v3 hS3.1 (own_mono hown3 HBV.out)
          have hDl := HDl.out
          obtain ⟨g6, cap6, hv6, _, _, _⟩ := hL3.form (by have := HR.out; have := HN1.out; omega)
          rw [hDl] at hv6
          subst hv6
          have HG6 : Hid (g6 < w.heap.size ∨ w.heap.size + 3 ≤ g6) := by
            show _ ∨ _
            have h9 := hf3 g6 rfl
            have := HZd.out
            exact .inr (by omega)
          obtain ⟨W7, hW7⟩ : ∃ W7, W7 = w3'.setCell ⟨w.heap.size, 0, none⟩ (.slice (some ⟨g6, 0, none⟩) n1 cap6) := ⟨_, rfl⟩
          have HW7 : Hid (w3'.setCell ⟨w.heap.size, 0, none⟩ (.slice (some ⟨g6, 0, none⟩) n1 cap6) = W7) := hW7.symm
          have hB7 : StB w W7 (.slice (some ⟨g6, 0, none⟩) n1 cap6) 4 (j : Int) s := by rw [hW7]; exact hS3.2.2.2.2.1.box _
          have HL7 : Hid (LBld W7 base (.slice (some ⟨g6, 0, none⟩) n1 cap6) D6) := by show LBld _ _ _ _; rw [hW7]; exact lbld_far2 hL3 (lbld_type hL3 hS3.2.2.2.2.1.1 (by decide) (by decide)) _
          have HBW7 : Hid (Below base w W7) := by show Below _ _ _; rw [hW7]; exact hS3.2.2.2.1.setCell (p := ⟨w.heap.size, 0, none⟩) HBS.out _
          have HOW7 : Hid (Oth w W7) := by show Oth _ _; rw [hW7]; exact hS3.2.2.2.2.2.new (Nat.le_refl _) _ _
          have HF7 : Hid (OffL w D6) := HOF.out hS3.2.1
          have HX7 : Hid (W7.cell? ⟨w.heap.size + 1, 1, none⟩ = some (.int .i64 (j : Int))) := hB7.cells.2.1.2.1
          have HB7 : Hid (StB w W7 (.slice (some ⟨g6, 0, none⟩) n1 cap6) 4 (j : Int) s) := hB7
          obtain ⟨s0, _, _, _⟩ := hS3.2.2.2.2.1.cells
          have sf : w3'.frozen? ⟨w.heap.size, 0, none⟩ = false := by unfold World.frozen?; rw [hS3.2.2.2.2.1.1]; simp
          have HX3 : Hid (w3'.cell? ⟨w.heap.size + 1, 1, none⟩ = some (.int .i64 (j : Int))) := HSC.out _ hS3
          clear hown3 hgrow3 hfr3 hb3 hS3 hf3 hn1 hL3 hDl hW7 hB7
          simp only [Act.put, List.getElem_toArray, List.getElem_cons_succ, List.getElem_cons_zero, List.setIfInBounds_toArray, List.set_cons_succ, List.set_cons_zero]
          refine hK.out _ _ HX3.out (fun hSS => ?_)
          clear hK
          refine wpAnyH_take (i := 14) (v := .pointer (some ⟨w.heap.size, 0, none⟩)) rfl (by kernel_rfl) (by kernel_rfl) (by kernel_rfl) (fun _ _ _ h => h) (Or.inl ⟨by rfl, ?_⟩) (by assumption) ?_
          · intro W hSW
            go_simp
            all_goals (try omega)
          simp only [Act.put, List.getElem_toArray, List.getElem_cons_succ, List.getElem_cons_zero, List.setIfInBounds_toArray, List.set_cons_succ, List.set_cons_zero]
          refine wpAnyH_ready (rs := [15]) (by kernel_rfl) (by simp) ?_
          refine AllReadyH.cons rfl (fun K hK => ?_) AllReadyH.nil
          rw [if_pos (by rfl)]
          go_simp
          rw [HW7.out]
          refine hK.out _ _ HX7.out (fun hSS6 => ?_)
          clear hK hSS6 hSS s0 sf HW7
          refine wpAnyH_done (by kernel_rfl) ?_ _
          refine NoPanic.normal ?_
          exact ⟨rfl, _, _, _, _, _, _, _, _, _, _, _, _, _, _, _, rfl, g6, cap6, D6, HB7.out, HL7.out, HLK.out, HDl.out.symm, HBW7.out, HOW7.out, HG6.out, HF7.out⟩
      · rw [if_pos (by rfl)]
        obtain ⟨q0, _, _, _⟩ := HSd.out.2.2.2.2.1.cells
        go_simp
        refine hK.out _ _ (HSC.out _ HSd.out) (fun hSS => ?_)
        clear hK hSS q0
        refine wpAnyH_take (i := 12) (v := .slice (some AD) (n - j1) (cap - j1)) rfl (by kernel_rfl) (by kernel_rfl) (by kernel_rfl) (fun _ _ _ h => h) (Or.inl ⟨by rfl, ?_⟩) (HSC.out _ HSd.out) ?_
        · intro W hSW
          have hA := HAD.out
          by_cases hc : cap = j1
          · have hcI : (((cap : Nat) : Int) == (j1 : Int)) = true := by rw [beq_iff_eq]; omega
            rw [if_pos hc] at hA
            rw [hA]
            clear hA
            go_simp
            all_goals (try omega)
          · have hcI : (((cap : Nat) : Int) == (j1 : Int)) = false := by rw [beq_eq_false_iff_ne]; omega
            rw [if_neg hc] at hA
            rw [hA]
            clear hA
            go_simp
            all_goals (try omega)
        simp only [Act.put, List.getElem_toArray, List.getElem_cons_succ, List.getElem_cons_zero, List.setIfInBounds_toArray, List.set_cons_succ, List.set_cons_zero]
        refine wpAnyH_ready (rs := [0]) (by kernel_rfl) (by simp) ?_
        refine AllReadyH.cons rfl (fun K hK => ?_) AllReadyH.nil
        rw [if_pos (by rfl)]
        go_simp
        rw [HWE.out]
        refine hK.out _ _ (HSC.out _ HSE.out) (fun hSS => ?_)
        clear hK hSS
        refine wpAnyH_ready (rs := [6]) (by kernel_rfl) (by simp) ?_
        refine AllReadyH.cons rfl (fun K hK => ?_) AllReadyH.nil
        refine step_append_linkA rfl (.tmp 206) (.tmp 211) rfl wv.heap.size _ 0 [] rfl HOE.out ⟨g, 0, none⟩ j cap rfl A HAl.out (HNW.out _ HSE.out.1).1 (HONE.out _ HSE.out.1).1 (by have := HR.out; omega) HBE.out.size ?_
        intro v2 w2 hown2 hgrow2 hfr2
        have hb2 : Below wv.heap.size wv w2 := HBE.out.grown hgrow2 HBE.out.size (fun j e => by have q : wv.heap.size = j := Option.some.inj e; omega)
        have HB2 : Hid (Below wv.heap.size wv w2) := hb2
        have HS2 : Hid (StL w w2 base g cap n 4 (j : Int) s D) := HSd.out.kept HBV.out hb2
        have HO2 : Hid (w2.ownsRow wv.heap.size 71 3 v2 j A) := by show World.ownsRow _ _ _ _ _ _ _; rw [Nat.zero_add, List.nil_append] at hown2; exact hown2
        have HF2 : Hid (∀ k, v2.ownBlock = some k → wv.heap.size ≤ k) := fun k hk => by
          rcases hfr2 k hk with h | h
          · have q : wv.heap.size = k := Option.some.inj h
            omega
          · exact Nat.le_trans HBE.out.size h
        clear hown2 hgrow2 hfr2 hb2
        simp only [Act.put, List.getElem_toArray, List.getElem_cons_succ, List.getElem_cons_zero, List.setIfInBounds_toArray, List.set_cons_succ, List.set_cons_zero]
        refine hK.out _ _ (HSC.out _ HS2.out) (fun hSS => ?_)
        clear hK hSS
        refine wpAnyH_ready (rs := [13]) (by kernel_rfl) (by simp) ?_
        refine AllReadyH.cons rfl (fun K hK => ?_) AllReadyH.nil
        refine step_append_linkA rfl (.tmp 212) (.tmp 218) rfl wv.heap.size _ j A rfl HO2.out AD (n - j1) (cap - j1) rfl B HBl.out (HNW.out _ HS2.out.1).2 (HONE.out _ HS2.out.1).2 (by have := HR.out; have := HJ1.out; omega) HB2.out.size ?_
        intro v3 w3' hown3 hgrow3 hfr3
        have hb3 : Below wv.heap.size wv w3' := HB2.out.grown hgrow3 HB2.out.size HF2.out
        have hS3 : StL w w3' base g cap n 4 (j : Int) s D := HSd.out.kept HBV.out hb3
        have hf3 : ∀ k, v3.ownBlock = some k → wv.heap.size ≤ k := fun k hk => by
          rcases hfr3 k hk with h | h
          · exact HF2.out k h
          · exact Nat.le_trans HB2.out.size h
        have hn1 : j + (n - j1) = n1 := by have := HR.out; have := HJ1.out; have := HN1.out; omega
        rw [HAB.out, hn1] at hown3
        have hL3 : LBld w3' base v3 D6 := HL6.out w3' v3 hS3.1 (own_mono hown3 HBV.out)
        have hDl := HDl.out
        obtain ⟨g6, cap6, hv6, _, _, _⟩ := hL3.form (by have := HR.out; have := HN1.out; omega)
        rw [hDl] at hv6
        subst hv6
        have HG6 : Hid (g6 < w.heap.size ∨ w.heap.size + 3 ≤ g6) := by
          show _ ∨ _
          have h9 := hf3 g6 rfl
          have := HZd.out
          exact .inr (by omega)
        obtain ⟨W7, hW7⟩ : ∃ W7, W7 = w3'.setCell ⟨w.heap.size, 0, none⟩ (.slice (some ⟨g6, 0, none⟩) n1 cap6) := ⟨_, rfl⟩
        have HW7 : Hid (w3'.setCell ⟨w.heap.size, 0, none⟩ (.slice (some ⟨g6, 0, none⟩) n1 cap6) = W7) := hW7.symm
        have hB7 : StB w W7 (.slice (some ⟨g6, 0, none⟩) n1 cap6) 4 (j : Int) s := by rw [hW7]; exact hS3.2.2.2.2.1.box _
        have HL7 : Hid (LBld W7 base (.slice (some ⟨g6, 0, none⟩) n1 cap6) D6) := by show LBld _ _ _ _; rw [hW7]; exact lbld_far2 hL3 (lbld_type hL3 hS3.2.2.2.2.1.1 (by decide) (by decide)) _
        have HBW7 : Hid (Below base w W7) := by show Below _ _ _; rw [hW7]; exact hS3.2.2.2.1.setCell (p := ⟨w.heap.size, 0, none⟩) HBS.out _
        have HOW7 : Hid (Oth w W7) := by show Oth _ _; rw [hW7]; exact hS3.2.2.2.2.2.new (Nat.le_refl _) _ _
        have HF7 : Hid (OffL w D6) := HOF.out hS3.2.1
        have HX7 : Hid (W7.cell? ⟨w.heap.size + 1, 1, none⟩ = some (.int .i64 (j : Int))) := hB7.cells.2.1.2.1
        have HB7 : Hid (StB w W7 (.slice (some ⟨g6, 0, none⟩) n1 cap6) 4 (j : Int) s) := hB7
        obtain ⟨s0, _, _, _⟩ := hS3.2.2.2.2.1.cells
        have sf : w3'.frozen? ⟨w.heap.size, 0, none⟩ = false := by unfold World.frozen?; rw [hS3.2.2.2.2.1.1]; simp
        have HX3 : Hid (w3'.cell? ⟨w.heap.size + 1, 1, none⟩ = some (.int .i64 (j : Int))) := HSC.out _ hS3
        clear hown3 hgrow3 hfr3 hb3 hS3 hf3 hn1 hL3 hDl hW7 hB7
        simp only [Act.put, List.getElem_toArray, List.getElem_cons_succ, List.getElem_cons_zero, List.setIfInBounds_toArray, List.set_cons_succ, List.set_cons_zero]
        refine hK.out _ _ HX3.out (fun hSS => ?_)
        clear hK
        refine wpAnyH_take (i := 14) (v := .pointer (some ⟨w.heap.size, 0, none⟩)) rfl (by kernel_rfl) (by kernel_rfl) (by kernel_rfl) (fun _ _ _ h => h) (Or.inl ⟨by rfl, ?_⟩) (by assumption) ?_
        · intro W hSW
          go_simp
          all_goals (try omega)
        simp only [Act.put, List.getElem_toArray, List.getElem_cons_succ, List.getElem_cons_zero, List.setIfInBounds_toArray, List.set_cons_succ, List.set_cons_zero]
        refine wpAnyH_ready (rs := [15]) (by kernel_rfl) (by simp) ?_
        refine AllReadyH.cons rfl (fun K hK => ?_) AllReadyH.nil
        rw [if_pos (by rfl)]
        go_simp
        rw [HW7.out]
        refine hK.out _ _ HX7.out (fun hSS6 => ?_)
        clear hK hSS6 hSS s0 sf HW7
        refine wpAnyH_done (by kernel_rfl) ?_ _
        refine NoPanic.normal ?_
        exact ⟨rfl, _, _, _, _, _, _, _, _, _, _, _, _, _, _, _, rfl, g6, cap6, D6, HB7.out, HL7.out, HLK.out, HDl.out.symm, HBW7.out, HOW7.out, HG6.out, HF7.out⟩
    · rw [if_pos (by rfl)]
      obtain ⟨q0, _, _, _⟩ := HSd.out.2.2.2.2.1.cells
      go_simp
      refine hK.out _ _ (HSC.out _ HSd.out) (fun hSS => ?_)
      clear hK hSS q0
      refine wpAnyH_take (i := 12) (v := .slice (some AD) (n - j1) (cap - j1)) rfl (by kernel_rfl) (by kernel_rfl) (by kernel_rfl) (fun _ _ _ h => h) (Or.inl ⟨by rfl, ?_⟩) (HSC.out _ HSd.out) ?_
      · intro W hSW
        have hA := HAD.out
        by_cases hc : cap = j1
        · have hcI : (((cap : Nat) : Int) == (j1 : Int)) = true := by rw [beq_iff_eq]; omega
          rw [if_pos hc] at hA
          rw [hA]
          clear hA
          go_simp
          all_goals (try omega)
        · have hcI : (((cap : Nat) : Int) == (j1 : Int)) = false := by rw [beq_eq_false_iff_ne]; omega
          rw [if_neg hc] at hA
          rw [hA]
          clear hA
          go_simp
          all_goals (try omega)
      simp only [Act.put, List.getElem_toArray, List.getElem_cons_succ, List.getElem_cons_zero, List.setIfInBounds_toArray, List.set_cons_succ, List.set_cons_zero]
      refine wpAnyH_ready (rs := [0, 2]) (by kernel_rfl) (by simp) ?_
      refine AllReadyH.cons rfl (fun K hK => ?_) (AllReadyH.cons rfl (fun K hK => ?_) AllReadyH.nil)
      · rw [if_pos (by rfl)]
        go_simp
        rw [HWE.out]
        refine hK.out _ _ (HSC.out _ HSE.out) (fun hSS => ?_)
        clear hK hSS
        refine wpAnyH_ready (rs := [2]) (by kernel_rfl) (by simp) ?_
        refine AllReadyH.cons rfl (fun K hK => ?_) AllReadyH.nil
        rw [if_pos (by rfl)]
        obtain ⟨q0, _, _, _⟩ := HSE.out.2.2.2.2.1.cells
        go_simp
        refine hK.out _ _ (HSC.out _ HSE.out) (fun hSS => ?_)
        clear hK hSS q0
        refine wpAnyH_take (i := 5) (v := .slice (some ⟨g, 0, none⟩) j cap) rfl (by kernel_rfl) (by kernel_rfl) (by kernel_rfl) (fun _ _ _ h => h) (Or.inl ⟨by rfl, ?_⟩) (HSC.out _ HSE.out) ?_
        · intro W hSW
          go_simp
          all_goals (try omega)
        simp only [Act.put, List.getElem_toArray, List.getElem_cons_succ, List.getElem_cons_zero, List.setIfInBounds_toArray, List.set_cons_succ, List.set_cons_zero]
        refine wpAnyH_ready (rs := [6]) (by kernel_rfl) (by simp) ?_
        refine AllReadyH.cons rfl (fun K hK => ?_) AllReadyH.nil
        refine step_append_linkA rfl (.tmp 206) (.tmp 211) rfl wv.heap.size _ 0 [] rfl HOE.out ⟨g, 0, none⟩ j cap rfl A HAl.out (HNW.out _ HSE.out.1).1 (HONE.out _ HSE.out.1).1 (by have := HR.out; omega) HBE.out.size ?_
        intro v2 w2 hown2 hgrow2 hfr2
        have hb2 : Below wv.heap.size wv w2 := HBE.out.grown hgrow2 HBE.out.size (fun j e => by have q : wv.heap.size = j := Option.some.inj e; omega)
        have HB2 : Hid (Below wv.heap.size wv w2) := hb2
        have HS2 : Hid (StL w w2 base g cap n 4 (j : Int) s D) := HSd.out.kept HBV.out hb2
        have HO2 : Hid (w2.ownsRow wv.heap.size 71 3 v2 j A) := by show World.ownsRow _ _ _ _ _ _ _; rw [Nat.zero_add, List.nil_append] at hown2; exact hown2
        have HF2 : Hid (∀ k, v2.ownBlock = some k → wv.heap.size ≤ k) := fun k hk => by
          rcases hfr2 k hk with h | h
          · have q : wv.heap.size = k := Option.some.inj h
            omega
          · exact Nat.le_trans HBE.out.size h
        clear hown2 hgrow2 hfr2 hb2
        simp only [Act.put, List.getElem_toArray, List.getElem_cons_succ, List.getElem_cons_zero, List.setIfInBounds_toArray, List.set_cons_succ, List.set_cons_zero]
        refine hK.out _ _ (HSC.out _ HS2.out) (fun hSS => ?_)
        clear hK hSS
        refine wpAnyH_ready (rs := [13]) (by kernel_rfl) (by simp) ?_
        refine AllReadyH.cons rfl (fun K hK => ?_) AllReadyH.nil
        refine step_append_linkA rfl (.tmp 212) (.tmp 218) rfl wv.heap.size _ j A rfl HO2.out AD (n - j1) (cap - j1) rfl B HBl.out (HNW.out _ HS2.out.1).2 (HONE.out _ HS2.out.1).2 (by have := HR.out; have := HJ1.out; omega) HB2.out.size ?_
        intro v3 w3' hown3 hgrow3 hfr3
        have hb3 : Below wv.heap.size wv w3' := HB2.out.grown hgrow3 HB2.out.size HF2.out
        have hS3 : StL w w3' base g cap n 4 (j : Int) s D := HSd.out.kept HBV.out hb3
        have hf3 : ∀ k, v3.ownBlock = some k → wv.heap.size ≤ k := fun k hk => by
          rcases hfr3 k hk with h | h
          · exact HF2.out k h
          · exact Nat.le_trans HB2.out.size h
        have hn1 : j + (n - j1) = n1 := by have := HR.out; have := HJ1.out; have := HN1.out; omega
        rw [HAB.out, hn1] at hown3
        have hL3 : LBld w3' base v3 D6 := HL6.out w3' v3 hS3.1 (own_mono hown3 HBV.out)
        have hDl := HDl.out
        obtain ⟨g6, cap6, hv6, _, _, _⟩ := hL3.form (by have := HR.out; have := HN1.out; omega)
        rw [hDl] at hv6
        subst hv6
        have HG6 : Hid (g6 < w.heap.size ∨ w.heap.size + 3 ≤ g6) := by
          show _ ∨ _
          have h9 := hf3 g6 rfl
          have := HZd.out
          exact .inr (by omega)
        obtain ⟨W7, hW7⟩ : ∃ W7, W7 = w3'.setCell ⟨w.heap.size, 0, none⟩ (.slice (some ⟨g6, 0, none⟩) n1 cap6) := ⟨_, rfl⟩
        have HW7 : Hid (w3'.setCell ⟨w.heap.size, 0, none⟩ (.slice (some ⟨g6, 0, none⟩) n1 cap6) = W7) := hW7.symm
        have hB7 : StB w W7 (.slice (some ⟨g6, 0, none⟩) n1 cap6) 4 (j : Int) s := by rw [hW7]; exact hS3.2.2.2.2.1.box _
        have HL7 : Hid (LBld W7 base (.slice (some ⟨g6, 0, none⟩) n1 cap6) D6) := by show LBld _ _ _ _; rw [hW7]; exact lbld_far2 hL3 (lbld_type hL3 hS3.2.2.2.2.1.1 (by decide) (by decide)) _
        have HBW7 : Hid (Below base w W7) := by show Below _ _ _; rw [hW7]; exact hS3.2.2.2.1.setCell (p := ⟨w.heap.size, 0, none⟩) HBS.out _
        have HOW7 : Hid (Oth w W7) := by show Oth _ _; rw [hW7]; exact hS3.2.2.2.2.2.new (Nat.le_refl _) _ _
        have HF7 : Hid (OffL w D6) := HOF.out hS3.2.1
        have HX7 : Hid (W7.cell? ⟨w.heap.size + 1, 1, none⟩ = some (.int .i64 (j : Int))) := hB7.cells.2.1.2.1
        have HB7 : Hid (StB w W7 (.slice (some ⟨g6, 0, none⟩) n1 cap6) 4 (j : Int) s) := hB7
        obtain ⟨s0, _, _, _⟩ := hS3.2.2.2.2.1.cells
        have sf : w3'.frozen? ⟨w.heap.size, 0, none⟩ = false := by unfold World.frozen?; rw [hS3.2.2.2.2.1.1]; simp
        have HX3 : Hid (w3'.cell? ⟨w.heap.size + 1, 1, none⟩ = some (.int .i64 (j : Int))) := HSC.out _ hS3
        clear hown3 hgrow3 hfr3 hb3 hS3 hf3 hn1 hL3 hDl hW7 hB7
        simp only [Act.put, List.getElem_toArray, List.getElem_cons_succ, List.getElem_cons_zero, List.setIfInBounds_toArray, List.set_cons_succ, List.set_cons_zero]
        refine hK.out _ _ HX3.out (fun hSS => ?_)
        clear hK
        refine wpAnyH_take (i := 14) (v := .pointer (some ⟨w.heap.size, 0, none⟩)) rfl (by kernel_rfl) (by kernel_rfl) (by kernel_rfl) (fun _ _ _ h => h) (Or.inl ⟨by rfl, ?_⟩) (by assumption) ?_
        · intro W hSW
          go_simp
          all_goals (try omega)
        simp only [Act.put, List.getElem_toArray, List.getElem_cons_succ, List.getElem_cons_zero, List.setIfInBounds_toArray, List.set_cons_succ, List.set_cons_zero]
        refine wpAnyH_ready (rs := [15]) (by kernel_rfl) (by simp) ?_
        refine AllReadyH.cons rfl (fun K hK => ?_) AllReadyH.nil
        rw [if_pos (by rfl)]
        go_simp
        rw [HW7.out]
        refine hK.out _ _ HX7.out (fun hSS6 => ?_)
        clear hK hSS6 hSS s0 sf HW7
        refine wpAnyH_done (by kernel_rfl) ?_ _
        refine NoPanic.normal ?_
        exact ⟨rfl, _, _, _, _, _, _, _, _, _, _, _, _, _, _, _, rfl, g6, cap6, D6, HB7.out, HL7.out, HLK.out, HDl.out.symm, HBW7.out, HOW7.out, HG6.out, HF7.out⟩
      · rw [if_pos (by rfl)]
        obtain ⟨q0, _, _, _⟩ := HSd.out.2.2.2.2.1.cells
        go_simp
        refine hK.out _ _ (HSC.out _ HSd.out) (fun hSS => ?_)
        clear hK hSS q0
        refine wpAnyH_take (i := 5) (v := .slice (some ⟨g, 0, none⟩) j cap) rfl (by kernel_rfl) (by kernel_rfl) (by kernel_rfl) (fun _ _ _ h => h) (Or.inl ⟨by rfl, ?_⟩) (HSC.out _ HSd.out) ?_
        · intro W hSW
          go_simp
          all_goals (try omega)
        simp only [Act.put, List.getElem_toArray, List.getElem_cons_succ, List.getElem_cons_zero, List.setIfInBounds_toArray, List.set_cons_succ, List.set_cons_zero]
        refine wpAnyH_ready (rs := [0]) (by kernel_rfl) (by simp) ?_
        refine AllReadyH.cons rfl (fun K hK => ?_) AllReadyH.nil
        rw [if_pos (by rfl)]
        go_simp
        rw [HWE.out]
        refine hK.out _ _ (HSC.out _ HSE.out) (fun hSS => ?_)
        clear hK hSS
        refine wpAnyH_ready (rs := [6]) (by kernel_rfl) (by simp) ?_
        refine AllReadyH.cons rfl (fun K hK => ?_) AllReadyH.nil
        refine step_append_linkA rfl (.tmp 206) (.tmp 211) rfl wv.heap.size _ 0 [] rfl HOE.out ⟨g, 0, none⟩ j cap rfl A HAl.out (HNW.out _ HSE.out.1).1 (HONE.out _ HSE.out.1).1 (by have := HR.out; omega) HBE.out.size ?_
        intro v2 w2 hown2 hgrow2 hfr2
        have hb2 : Below wv.heap.size wv w2 := HBE.out.grown hgrow2 HBE.out.size (fun j e => by have q : wv.heap.size = j := Option.some.inj e; omega)
        have HB2 : Hid (Below wv.heap.size wv w2) := hb2
        have HS2 : Hid (StL w w2 base g cap n 4 (j : Int) s D) := HSd.out.kept HBV.out hb2
        have HO2 : Hid (w2.ownsRow wv.heap.size 71 3 v2 j A) := by show World.ownsRow _ _ _ _ _ _ _; rw [Nat.zero_add, List.nil_append] at hown2; exact hown2
        have HF2 : Hid (∀ k, v2.ownBlock = some k → wv.heap.size ≤ k) := fun k hk => by
          rcases hfr2 k hk with h | h
          · have q : wv.heap.size = k := Option.some.inj h
            omega
          · exact Nat.le_trans HBE.out.size h
        clear hown2 hgrow2 hfr2 hb2
        simp only [Act.put, List.getElem_toArray, List.getElem_cons_succ, List.getElem_cons_zero, List.setIfInBounds_toArray, List.set_cons_succ, List.set_cons_zero]
        refine hK.out _ _ (HSC.out _ HS2.out) (fun hSS => ?_)
        clear hK hSS
        refine wpAnyH_ready (rs := [13]) (by kernel_rfl) (by simp) ?_
        refine AllReadyH.cons rfl (fun K hK => ?_) AllReadyH.nil
        refine step_append_linkA rfl (.tmp 212) (.tmp 218) rfl wv.heap.size _ j A rfl HO2.out AD (n - j1) (cap - j1) rfl B HBl.out (HNW.out _ HS2.out.1).2 (HONE.out _ HS2.out.1).2 (by have := HR.out; have := HJ1.out; omega) HB2.out.size ?_
        intro v3 w3' hown3 hgrow3 hfr3
        have hb3 : Below wv.heap.size wv w3' := HB2.out.grown hgrow3 HB2.out.size HF2.out
        have hS3 : StL w w3' base g cap n 4 (j : Int) s D := HSd.out.kept HBV.out hb3
        have hf3 : ∀ k, v3.ownBlock = some k → wv.heap.size ≤ k := fun k hk => by
          rcases hfr3 k hk with h | h
          · exact HF2.out k h
          · exact Nat.le_trans HB2.out.size h
        have hn1 : j + (n - j1) = n1 := by have := HR.out; have := HJ1.out; have := HN1.out; omega
        rw [HAB.out, hn1] at hown3
        have hL3 : LBld w3' base v3 D6 := HL6.out w3' v3 hS3.1 (own_mono hown3 HBV.out)
        have hDl := HDl.out
        obtain ⟨g6, cap6, hv6, _, _, _⟩ := hL3.form (by have := HR.out; have := HN1.out; omega)
        rw [hDl] at hv6
        subst hv6
        have HG6 : Hid (g6 < w.heap.size ∨ w.heap.size + 3 ≤ g6) := by
          show _ ∨ _
          have h9 := hf3 g6 rfl
          have := HZd.out
          exact .inr (by omega)
        obtain ⟨W7, hW7⟩ : ∃ W7, W7 = w3'.setCell ⟨w.heap.size, 0, none⟩ (.slice (some ⟨g6, 0, none⟩) n1 cap6) := ⟨_, rfl⟩
        have HW7 : Hid (w3'.setCell ⟨w.heap.size, 0, none⟩ (.slice (some ⟨g6, 0, none⟩) n1 cap6) = W7) := hW7.symm
        have hB7 : StB w W7 (.slice (some ⟨g6, 0, none⟩) n1 cap6) 4 (j : Int) s := by rw [hW7]; exact hS3.2.2.2.2.1.box _
        have HL7 : Hid (LBld W7 base (.slice (some ⟨g6, 0, none⟩) n1 cap6) D6) := by show LBld _ _ _ _; rw [hW7]; exact lbld_far2 hL3 (lbld_type hL3 hS3.2.2.2.2.1.1 (by decide) (by decide)) _
        have HBW7 : Hid (Below base w W7) := by show Below _ _ _; rw [hW7]; exact hS3.2.2.2.1.setCell (p := ⟨w.heap.size, 0, none⟩) HBS.out _
        have HOW7 : Hid (Oth w W7) := by show Oth _ _; rw [hW7]; exact hS3.2.2.2.2.2.new (Nat.le_refl _) _ _
        have HF7 : Hid (OffL w D6) := HOF.out hS3.2.1
        have HX7 : Hid (W7.cell? ⟨w.heap.size + 1, 1, none⟩ = some (.int .i64 (j : Int))) := hB7.cells.2.1.2.1
        have HB7 : Hid (StB w W7 (.slice (some ⟨g6, 0, none⟩) n1 cap6) 4 (j : Int) s) := hB7
        obtain ⟨s0, _, _, _⟩ := hS3.2.2.2.2.1.cells
        have sf : w3'.frozen? ⟨w.heap.size, 0, none⟩ = false := by unfold World.frozen?; rw [hS3.2.2.2.2.1.1]; simp
        have HX3 : Hid (w3'.cell? ⟨w.heap.size + 1, 1, none⟩ = some (.int .i64 (j : Int))) := HSC.out _ hS3
        clear hown3 hgrow3 hfr3 hb3 hS3 hf3 hn1 hL3 hDl hW7 hB7
        simp only [Act.put, List.getElem_toArray, List.getElem_cons_succ, List.getElem_cons_zero, List.setIfInBounds_toArray, List.set_cons_succ, List.set_cons_zero]
        refine hK.out _ _ HX3.out (fun hSS => ?_)
        clear hK
        refine wpAnyH_take (i := 14) (v := .pointer (some ⟨w.heap.size, 0, none⟩)) rfl (by kernel_rfl) (by kernel_rfl) (by kernel_rfl) (fun _ _ _ h => h) (Or.inl ⟨by rfl, ?_⟩) (by assumption) ?_
        · intro W hSW
          go_simp
          all_goals (try omega)
        simp only [Act.put, List.getElem_toArray, List.getElem_cons_succ, List.getElem_cons_zero, List.setIfInBounds_toArray, List.set_cons_succ, List.set_cons_zero]
        refine wpAnyH_ready (rs := [15]) (by kernel_rfl) (by simp) ?_
        refine AllReadyH.cons rfl (fun K hK => ?_) AllReadyH.nil
        rw [if_pos (by rfl)]
        go_simp
        rw [HW7.out]
        refine hK.out _ _ HX7.out (fun hSS6 => ?_)
        clear hK hSS6 hSS s0 sf HW7
        refine wpAnyH_done (by kernel_rfl) ?_ _
        refine NoPanic.normal ?_
        exact ⟨rfl, _, _, _, _, _, _, _, _, _, _, _, _, _, _, _, rfl, g6, cap6, D6, HB7.out, HL7.out, HLK.out, HDl.out.symm, HBW7.out, HOW7.out, HG6.out, HF7.out⟩
  · rintro e a W ⟨rfl, u0, u1, u2, u3, u4, u5, u6, u7, u8, u9, u10, u11, u12, u13, u14, rfl, g6, cap6, D7, hB7, hL7, hl7, hn7, hW7, hO7, hG7, hF7⟩
    have HB7 : Hid (StB w W (.slice (some ⟨g6, 0, none⟩) n1 cap6) 4 (j : Int) s) := hB7
    have HL7 : Hid (LBld W base (.slice (some ⟨g6, 0, none⟩) n1 cap6) D7) := hL7
    have HK7 : Hid (lkf D7 = (lkf D).eraseIdx j) := hl7
    have HN7 : Hid (n1 = D7.length) := hn7
    have HBW7 : Hid (Below base w W) := hW7
    have HOW7 : Hid (Oth w W) := hO7
    have HG7 : Hid (g6 < w.heap.size ∨ w.heap.size + 3 ≤ g6) := hG7
    have HF7 : Hid (OffL w D7) := hF7
    have hn1b : 1 ≤ n1 ∧ n1 ≤ 1000 := by have := HR.out; have := HN1.out; omega
    clear hB7 hL7 hl7 hn7 hW7 hO7 hG7 hF7 HSd HZd HONE HNW HL6 HOF HAB HAl HBl HDl HLK HD6 HST HW0
    obtain ⟨k0, ⟨k1, k2, k3⟩, k4, l4⟩ := HB7.out.cells
    clear k1 k3
    by_cases hj0 : j = 0
    · have HJ0 : Hid (j = 0) := hj0
      have hjn : ¬ (0 : Int) < (j : Int) := by omega
      clear hj0
      go_wp2_with fail
      clear k0 k2 k4 l4
      refine (HTL.out g6 cap6 n1 W D7 HL7.out HN7.out hn1b (Nat.le_trans HBS.out HBW7.out.size)).mono ?_
      rintro e w8 ⟨rfl, ⟨D8, hd8, hl8⟩, hb8, hg8⟩
      have hB8 : StB w w8 (.slice (some ⟨g6, 0, none⟩) n1 cap6) 4 (j : Int) s := HB7.out.grown hg8 (fun i hi => by have q : g6 = i := Option.some.inj hi; rw [← q]; exact HG7.out)
      have HB8 : Hid (StB w w8 (.slice (some ⟨g6, 0, none⟩) n1 cap6) 4 (j : Int) s) := hB8
      have HF8 : Hid (∀ u, LBld (w8.setCell ⟨w.heap.size + 1 + 1, 0, none⟩ u) base (.slice (some ⟨g6, 0, none⟩) n1 cap6) D8) := fun u => lbld_far2 hd8 (lbld_type hd8 hB8.2.2 (by decide) (by decide)) u
      have HO8 : Hid (Oth w w8) := HOW7.out.grown HBW7.out.size hg8 (fun j hj => .inl (own_kind HL7.out.1 (.inr rfl) j hj))
      have HW8w : Hid (Below base w w8) := HBW7.out.trans hb8
      have HL8 : Hid (lkf D8 = tailT (sent0L ((lkf D).eraseIdx j) j)) := by show _ = _; rw [hl8]; rw [HK7.out, sent0L, if_neg (by have := HJ0.out; omega)]
      clear hd8 hl8 hb8 hg8 hB8
      obtain ⟨_, _, k4, l4⟩ := HB8.out.cells
      go_wp2_with fail
      (try simp only [Exit.inBlock, Exit.then])
      refine bodyPost_ret (results_row_tmp rfl _ _ (w.heap.size + 1 + 1) 31 #[.slice (some ⟨g6, 0, none⟩) n1 cap6] (0, 0) _ (.bool true) rfl rfl ?_ Try.underlying31 rfl (by kernel_rfl)) rfl ⟨g6, cap6, n1, D8, rfl, HF8.out _, HL8.out, HW8w.out.setCell (p := ⟨w.heap.size + 1 + 1, 0, none⟩) (by show base ≤ w.heap.size + 1 + 1; have := HBS.out; omega) _, HO8.out.new (by omega) _ _⟩
      exact put1_heap HB8.out.2.2
    · obtain ⟨i, HI⟩ : ∃ i, Hid (j = i + 1) := ⟨j - 1, by show _ = _; omega⟩
      have hjp : (0 : Int) < (j : Int) := by omega
      have wi : IntKind.i64.wrap ((j : Int) - 1) = (i : Int) := by have := HI.out; have := HR.out; rw [i64_wrapC (by omega) (by omega)]; omega
      have hin : (i : Int) < (n1 : Int) := by have := HI.out; have := HR.out; have := HN1.out; omega
      clear hj0
      have hi7 : i < D7.length := by have := HN7.out; omega
      obtain ⟨⟨b0, b1, b2⟩, bf, hbg⟩ := HL7.out.atI hi7
      clear b0 b2
      have bf1 := bf (i * 3 + 1)
      obtain ⟨W8, hW8⟩ : ∃ W8, W8 = W.setCell ⟨g6, i * 3 + 1, none⟩ (.int .i64 0) := ⟨_, rfl⟩
      have HW8 : Hid (W.setCell ⟨g6, i * 3 + 1, none⟩ (.int .i64 0) = W8) := hW8.symm
      have hP := HL7.out.putI hi7 ((D7[i].1.1, 0, D7[i].1.2.2), D7[i].2) 1 (.int .i64 0) (by omega) rfl rfl rfl
      rw [← hW8] at hP
      obtain ⟨D9, hD9⟩ : ∃ D9, D9 = D7.set i ((D7[i].1.1, 0, D7[i].1.2.2), D7[i].2) := ⟨_, rfl⟩
      rw [← hD9] at hP
      have HL9 : Hid (LBld W8 base (.slice (some ⟨g6, 0, none⟩) n1 cap6) D9) := hP
      have HN9 : Hid (n1 = D9.length) := by show _ = _; rw [hD9, List.length_set]; exact HN7.out
      have HB9 : Hid (StB w W8 (.slice (some ⟨g6, 0, none⟩) n1 cap6) 4 (j : Int) s) := by show StB _ _ _ _ _ _; rw [hW8]; exact HB7.out.far HG7.out _
      have HO9 : Hid (Oth w W8) := by show Oth _ _; rw [hW8]; exact HOW7.out.set (own_kind HL7.out.1 (.inr rfl) g6 (by simp [Value.ownBlock])) _ _
      have HBW9 : Hid (Below base w W8) := by show Below _ _ _; rw [hW8]; exact HBW7.out.setCell (p := ⟨g6, i * 3 + 1, none⟩) hbg _
      have HK9 : Hid (lkf D9 = sent0L ((lkf D).eraseIdx j) j) := by
        show _ = _
        have hij : j - 1 = i := by have := HI.out; omega
        rw [hD9, lkf_set, HK7.out.symm, sent0L, if_pos (by have := HI.out; omega), hij, lkf_get hi7]
      clear hW8 hP hD9 bf hbg
      obtain ⟨k5, _, k6, l6⟩ := HB9.out.cells
      go_wp2_with (rw [HW8.out])
      clear k0 k2 k4 l4 b1 bf1 hi7 k5 k6 l6
      refine (HTL.out g6 cap6 n1 W8 D9 HL9.out HN9.out hn1b (Nat.le_trans HBS.out HBW9.out.size)).mono ?_
      rintro e w8 ⟨rfl, ⟨D8, hd8, hl8⟩, hb8, hg8⟩
      have hB8 : StB w w8 (.slice (some ⟨g6, 0, none⟩) n1 cap6) 4 (j : Int) s := HB9.out.grown hg8 (fun i hi => by have q : g6 = i := Option.some.inj hi; rw [← q]; exact HG7.out)
      have HB8 : Hid (StB w w8 (.slice (some ⟨g6, 0, none⟩) n1 cap6) 4 (j : Int) s) := hB8
      have HF8 : Hid (∀ u, LBld (w8.setCell ⟨w.heap.size + 1 + 1, 0, none⟩ u) base (.slice (some ⟨g6, 0, none⟩) n1 cap6) D8) := fun u => lbld_far2 hd8 (lbld_type hd8 hB8.2.2 (by decide) (by decide)) u
      have HO8 : Hid (Oth w w8) := HO9.out.grown HBW9.out.size hg8 (fun j hj => .inl (own_kind HL9.out.1 (.inr rfl) j hj))
      have HW8w : Hid (Below base w w8) := HBW9.out.trans hb8
      have HL8 : Hid (lkf D8 = tailT (sent0L ((lkf D).eraseIdx j) j)) := by show _ = _; rw [hl8]; rw [HK9.out]
      clear hd8 hl8 hb8 hg8 hB8
      obtain ⟨_, _, k4, l4⟩ := HB8.out.cells
      go_wp2_with fail
      (try simp only [Exit.inBlock, Exit.then])
      refine bodyPost_ret (results_row_tmp rfl _ _ (w.heap.size + 1 + 1) 31 #[.slice (some ⟨g6, 0, none⟩) n1 cap6] (0, 0) _ (.bool true) rfl rfl ?_ Try.underlying31 rfl (by kernel_rfl)) rfl ⟨g6, cap6, n1, D8, rfl, HF8.out _, HL8.out, HW8w.out.setCell (p := ⟨w.heap.size + 1 + 1, 0, none⟩) (by show base ≤ w.heap.size + 1 + 1; have := HBS.out; omega) _, HO8.out.new (by omega) _ _⟩
      exact put1_heap HB8.out.2.2
end Go.Proofs.Ytacmipcjhbkdcaa

namespace Go.Proofs.Ytacmipcjhbkdcaa
open Go.RowKit

/-- l15Step: what the program's step does, at good chains. -/
theorem l15Step_any (base g cap n : Nat) (D : List (LkT × Value)) (kd k : Int) (s : List UInt8) (w : World) (h : LBld w base (.slice (some ⟨g, 0, none⟩) n cap) D) (hn : n = D.length) (hg : chB (lkf D) = true) (hb : base ≤ w.heap.size) :
    Calls Try.prog 25 #[ChV (.slice (some ⟨g, 0, none⟩) n cap), .agg #[.int .i64 kd, .int .i64 k, .string ⟨s.toArray⟩]] w fun e w' => SpAns w w' base e (stepL (lkf D) (kd, k, s)) (stepB (lkf D) (kd, k, s)) := by
  have h16 := chB_len hg
  rw [lkf_len, ← hn] at h16
  refine l15Step_of base g cap n D kd k s w h hn hg hb (fun h4 hk => ?_)
  by_cases h2 : n < 2
  · have e : failB (lkf D) k = false := by unfold failB; rw [lkf_len, ← hn]; simp; omega
    rw [e, show failL (lkf D) k = lkf D by unfold failL; rw [e]; rfl]
    exact l15Step_fail_no base g cap n D kd k s w h hn h16 hb h4 hk h2
  · have e : failB (lkf D) k = true := by unfold failB; rw [lkf_len, ← hn]; simp; omega
    have ek : ((k.toNat : Nat) : Int) = k := by omega
    have hq := fail_spec hg (i := k.toNat) (by rw [lkf_len, ← hn]; omega) (by rw [ek]; exact e)
    rw [ek] at hq
    rw [e, ← hq]
    exact l15Step_fail_yes base g cap n D kd k s w h hn h16 hb h4 hk h2
theorem sStepChain_any (v : Value) (L : List LkT) (kd k : Int) (s : List UInt8) (w : World) (hr : LkRow w v L) :
    Calls Try.prog 7 #[ChV v, .agg #[.int .i64 kd, .int .i64 k, .string ⟨s.toArray⟩]] w fun e w' => ChAns w' w.heap.size (schB L (kd, k, s)) (schL L (kd, k, s)) e ∧ Below w.heap.size w w' :=
  sStepChain_of v L kd k s w hr (fun W base g cap n D hn hg hb h => l15Step_any base g cap n D kd k s W h hn hg hb)
end Go.Proofs.Ytacmipcjhbkdcaa
