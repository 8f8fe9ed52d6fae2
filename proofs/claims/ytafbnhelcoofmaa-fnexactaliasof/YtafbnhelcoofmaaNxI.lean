import Derived.Test.YtafbnhelcoofmaaNxT
namespace Go.Proofs.Ytafbnhelcoofmaa
open Go.RowKit

/-- The numbers with the first k weights added. -/
def parA (U A : List Int) (k : Nat) : List Int := (addZ U A).take k ++ U.drop k
theorem parA_zero (U A : List Int) : parA U A 0 = U := by simp [parA]
theorem parA_length {U A : List Int} (h : U.length = A.length) (k : Nat) (hk : k ≤ U.length) : (parA U A k).length = U.length := by unfold parA; rw [List.length_append, List.length_take, addZ_length h, List.length_drop]; omega
theorem parA_end {U A : List Int} (h : U.length = A.length) : parA U A U.length = addZ U A := by unfold parA; rw [List.take_of_length_le (by rw [addZ_length h]; exact Nat.le_refl _), List.drop_length, List.append_nil]
theorem parA_at {U A : List Int} (h : U.length = A.length) (k : Nat) (hk : k < U.length) : (parA U A k)[k]'(by rw [parA_length h k (by omega)]; exact hk) = U[k] := by
  unfold parA
  have hm : ((addZ U A).take k).length = k := by rw [List.length_take, addZ_length h]; omega
  rw [List.getElem_append_right (by omega)]
  simp [hm]
theorem parA_next {U A : List Int} (h : U.length = A.length) (k : Nat) (hk : k < U.length) : parA U A (k + 1) = (parA U A k).set k (U[k] + A[k]'(by omega)) := by
  unfold parA
  have hz : k < (addZ U A).length := by rw [addZ_length h]; exact hk
  have hm : ((addZ U A).take k).length = k := by rw [List.length_take]; omega
  rw [List.take_succ_eq_append_getElem hz, addZ_get h hk, List.set_append_right _ _ (by omega), hm, Nat.sub_self, List.drop_eq_getElem_cons hk]
  simp only [List.set_cons_zero, List.append_assoc, List.singleton_append]

set_option maxRecDepth 20000 in
set_option maxHeartbeats 8000000 in
theorem iNextTurn_any (va vu : Value) (A U : List Int) (w : World) (ha : ZRow .i64 w va A) (hu : ZRow .i64 w vu U) (hla : A.length ≤ 1048576) :
    Calls Try.prog 23 #[TrnV va vu] w fun e w' => NTA w' w.heap.size (nxtB A U) (nxtK A U) A (nxtL A U) e ∧ Below w.heap.size w w' := by
  have HG : Hid (∀ W, Below w.heap.size w W → Calls Try.prog 39 #[TrnV va vu] W fun e w' => e = .returned (.bool (goodT A U)) ∧ Below W.heap.size W w') := fun W hW => iGoodTurn_any va vu A U W (ha.kept hW) (hu.kept hW)
  have HG2 : Hid (∀ v1 v2 W, ZRow .i64 W v1 A → ZRow .i64 W v2 (nxtL A U) → Calls Try.prog 39 #[TrnV v1 v2] W fun e w' => e = .returned (.bool (goodT A (nxtL A U))) ∧ Below W.heap.size W w') := fun v1 v2 W h1 h2 => iGoodTurn_any v1 v2 A (nxtL A U) W h1 h2
  cases hg : goodT A U with
  | false =>
    obtain ⟨xa, ca, rfl, hca, hcam, _⟩ := zrow_value ha
    obtain ⟨xu, cu, rfl, hcu, hcum, _⟩ := zrow_value hu
    obtain ⟨W0, hW0⟩ : ∃ W0, W0 = (w.alloc (.cells #[.slice xa A.length ca, .slice xu U.length cu] 33)).alloc (.cells #[.slice none 0 0, .slice none 0 0] 33) := ⟨_, rfl⟩
    have hb0 : Below w.heap.size w W0 := by rw [hW0]; exact (trn_below2 (Below.refl _ _)).2.2
    have hx1 : W0.heap[w.heap.size]? = some (.cells #[.slice xa A.length ca, .slice xu U.length cu] 33) := by rw [hW0]; exact (trn_below2 (Below.refl _ _)).1
    have HX2 : Hid (W0.heap[w.heap.size + 1]? = some (.cells #[.slice none 0 0, .slice none 0 0] 33)) := by rw [hW0]; exact (trn_below2 (Below.refl _ _)).2.1
    have hs0 : w.heap.size + 1 < W0.heap.size := by rw [hW0]; simp
    have HW0 : Hid ((w.alloc (.cells #[.slice xa A.length ca, .slice xu U.length cu] 33)).alloc (.cells #[.slice none 0 0, .slice none 0 0] 33) = W0) := hW0.symm
    obtain ⟨⟨p0, p1⟩, _⟩ := trn_cells hx1
    rw [hg] at HG
    have HB : Hid (nxtB A U = false) := by show _ = _; unfold nxtB; rw [hg]; rfl
    rw [HB.out]
    unfold TrnV at HG ⊢
    clear hW0 hx1 ha hu hg HG2
    go_enter Try.func23, Try.ntmps23
    go_wp2_with (rw [HW0.out])
    (try rw [HW0.out])
    refine (HG.out _ hb0).mono ?_
    rintro e w1 ⟨rfl, hb1⟩
    have HX21 : Hid (w1.heap[w.heap.size + 1]? = some (.cells #[.slice none 0 0, .slice none 0 0] 33)) := (hb1.block _ hs0).trans HX2.out
    have hbw1 := hb0.trans (hb1.mono hb0.size)
    obtain ⟨⟨d0, d1⟩, ⟨z0, z1⟩⟩ := trn_cells HX21.out
    clear p0 p1 hb1
    go_wp2_with fail
    (try simp only [Exit.inBlock, Exit.then])
    refine bodyPost_ret (results_trn3 rfl _ _ (w.heap.size + 1) 33 #[.slice none 0 0, .slice none 0 0] (0, 0) _ (.int .i64 0) (.bool false) rfl rfl rfl ?_ Try.underlying33 rfl (by kernel_rfl)) rfl ⟨nta_off _ _ _ _ _, ?_⟩
    · exact put2v_heap HX21.out
    · exact put2v_below hbw1 (by omega) _ _
  | true =>
    rw [hg] at HG
    obtain ⟨hgw, hlen, hsmU, _⟩ := goodT_parts hg
    obtain ⟨⟨hp1, hp12⟩, hwt, _⟩ := goodW_parts hgw
    have hsb := sum_bound hg
    have HAB : Hid (∀ k, k < U.length → -10000 ≤ (addZ U A).getD k 0 ∧ (addZ U A).getD k 0 ≤ 10050) := fun k hk => add_bound hg hk
    have HNB : Hid (nxtB A U = goodT A (nxtL A U)) := by show _ = _; unfold nxtB; rw [hg]; rfl
    have HLL : Hid ((nxtL A U).length = A.length) := nxtL_length hlen
    have HSU : Hid (∀ v W, ZRow .i64 W v A → Calls Try.prog 30 #[v] W fun e w' => e = .returned (.int .i64 A.sum) ∧ w' = W) := fun v W h => sumOf_any v A W h hla (all_sm hwt)
    obtain ⟨xa, ca, rfl, hca, hcam, HRA⟩ := zrow_value ha
    obtain ⟨xu, cu, rfl, hcu, hcum, HRU⟩ := zrow_value hu
    obtain ⟨ba, oa, hxa, _, _⟩ := HRA.out (by omega)
    obtain ⟨bu, ou, hxu, _, _⟩ := HRU.out (by omega)
    subst hxa hxu
    have HCA : Hid (∀ W, Below w.heap.size w W → Calls Try.prog 35 #[.slice (some ⟨ba, oa, none⟩) A.length ca] W fun e w' => ∃ t cap, e = .returned (.slice (some ⟨t, 0, none⟩) A.length cap) ∧ A.length ≤ cap ∧ cap ≤ 9223372036854775807 ∧ W.heap.size ≤ t ∧ ZSRow w' t A ∧ Below W.heap.size W w') := fun W hW => cloneZ_anyT _ A W (ha.kept hW) hla (by omega)
    have HCU : Hid (∀ W, Below w.heap.size w W → Calls Try.prog 35 #[.slice (some ⟨bu, ou, none⟩) U.length cu] W fun e w' => ∃ t cap, e = .returned (.slice (some ⟨t, 0, none⟩) U.length cap) ∧ U.length ≤ cap ∧ cap ≤ 9223372036854775807 ∧ W.heap.size ≤ t ∧ ZSRow w' t U ∧ Below W.heap.size W w') := fun W hW => cloneZ_anyT _ U W (hu.kept hW) (by omega) (by omega)
    have HEL : Hid (U.length = A.length) := hlen
    have HUB : Hid (∀ k, (hk : k < U.length) → -10000 ≤ U[k] ∧ U[k] ≤ 10000) := fun k hk => sm_in (List.all_eq_true.1 hsmU _ (List.getElem_mem hk))
    have HWB : Hid (∀ k, (hk : k < A.length) → 0 ≤ A[k] ∧ A[k] ≤ 50) := fun k hk => wt_in (List.all_eq_true.1 hwt _ (List.getElem_mem hk))
    have HNK : Hid (nxtK A U = bestN (addZ U A) A.length) := by show _ = _; unfold nxtK; rw [hlen]
    have HNL : Hid (nxtL A U = (addZ U A).set (bestN (addZ U A) A.length) ((addZ U A).getD (bestN (addZ U A) A.length) 0 - A.sum)) := by show _ = _; unfold nxtL nxtK; rw [hlen]
    obtain ⟨n, hn⟩ : ∃ n, n = A.length := ⟨_, rfl⟩
    have HNA : Hid (A.length = n) := hn.symm
    have HNU : Hid (U.length = n) := by show _ = _; omega
    have hpn : 0 < n ∧ n ≤ 12 := by omega
    have hcan : n ≤ ca := by omega
    have hcun : n ≤ cu := by omega
    rw [HNB.out]
    rw [HNA.out] at HCA
    rw [HNU.out] at HCU
    unfold TrnV at HG HG2 ⊢
    rw [HNA.out, HNU.out] at HG ⊢
    clear hg hgw hsmU hwt HRA HRU ha hu hlen hn hca hcu hp1 hp12 hla
    obtain ⟨W0, hW0⟩ : ∃ W0, W0 = (w.alloc (.cells #[.slice (some ⟨ba, oa, none⟩) n ca, .slice (some ⟨bu, ou, none⟩) n cu] 33)).alloc (.cells #[.slice none 0 0, .slice none 0 0] 33) := ⟨_, rfl⟩
    have hb0 : Below w.heap.size w W0 := by rw [hW0]; exact (trn_below2 (Below.refl _ _)).2.2
    have hx1 : W0.heap[w.heap.size]? = some (.cells #[.slice (some ⟨ba, oa, none⟩) n ca, .slice (some ⟨bu, ou, none⟩) n cu] 33) := by rw [hW0]; exact (trn_below2 (Below.refl _ _)).1
    have hx2 : W0.heap[w.heap.size + 1]? = some (.cells #[.slice none 0 0, .slice none 0 0] 33) := by rw [hW0]; exact (trn_below2 (Below.refl _ _)).2.1
    have hs0 : w.heap.size + 1 < W0.heap.size := by rw [hW0]; simp
    have HW0 : Hid ((w.alloc (.cells #[.slice (some ⟨ba, oa, none⟩) n ca, .slice (some ⟨bu, ou, none⟩) n cu] 33)).alloc (.cells #[.slice none 0 0, .slice none 0 0] 33) = W0) := hW0.symm
    have HX1 : Hid (W0.heap[w.heap.size]? = some (.cells #[.slice (some ⟨ba, oa, none⟩) n ca, .slice (some ⟨bu, ou, none⟩) n cu] 33)) := hx1
    have HX2 : Hid (W0.heap[w.heap.size + 1]? = some (.cells #[.slice none 0 0, .slice none 0 0] 33)) := hx2
    obtain ⟨⟨p0, p1⟩, _⟩ := trn_cells hx1
    clear hW0 hx1 hx2
    go_enter Try.func23, Try.ntmps23
    go_wp2_with (rw [HW0.out])
    (try rw [HW0.out])
    refine (HG.out _ hb0).mono ?_
    rintro e w1 ⟨rfl, hb1⟩
    have hbw1 := hb0.trans (hb1.mono hb0.size)
    have HX11 : Hid (w1.heap[w.heap.size]? = some (.cells #[.slice (some ⟨ba, oa, none⟩) n ca, .slice (some ⟨bu, ou, none⟩) n cu] 33)) := (hb1.block _ (by omega)).trans HX1.out
    have HX21 : Hid (w1.heap[w.heap.size + 1]? = some (.cells #[.slice none 0 0, .slice none 0 0] 33)) := (hb1.block _ hs0).trans HX2.out
    have hs1 := hb1.size
    clear p0 p1 hb1 HX1 HX2 HW0 HG
    go_wp2_with fail
    have hSX : Below w1.heap.size w1 w1.drew := (Below.refl _ _).drew
    have HTS : Hid (∀ W W', Below w1.heap.size w1 W → Below W.heap.size W W' → Below w1.heap.size w1 W') := fun W W' h1 h2 => h1.trans (h2.mono h1.size)
    have HCE : Hid (∀ W, Below w1.heap.size w1 W → W.cell? ⟨w.heap.size, 0, none⟩ = some (.slice (some ⟨ba, oa, none⟩) n ca) ∧ W.cell? ⟨w.heap.size, 1, none⟩ = some (.slice (some ⟨bu, ou, none⟩) n cu)) := fun W hW => (trn_cells ((hW.block _ (by omega)).trans HX11.out)).1
    have HBW : Hid (∀ W, Below w1.heap.size w1 W → Below w.heap.size w W) := fun W hW => hbw1.trans (hW.mono hbw1.size)
    refine Code.wp_mono (Q := fun e a W => e = Exit.normal ∧ ∃ (g1 c1 g2 c2 g5 : Nat), a = { tmps := #[.agg #[.slice (some ⟨ba, oa, none⟩) n ca, .slice (some ⟨bu, ou, none⟩) n cu], .pointer (some ⟨w.heap.size, 0, none⟩), .pointer (some ⟨w.heap.size + 1, 0, none⟩), .int .i64 0, .bool false, .pointer (some ⟨g5, 0, none⟩), undef, undef, undef, .agg #[.slice (some ⟨ba, oa, none⟩) n ca, .slice (some ⟨bu, ou, none⟩) n cu], .bool true, .bool false, undef, .pointer (some ⟨w.heap.size, 0, none⟩), .slice (some ⟨ba, oa, none⟩) n ca, .slice (some ⟨g1, 0, none⟩) n c1, .pointer (some ⟨w.heap.size, 1, none⟩), .slice (some ⟨bu, ou, none⟩) n cu, .slice (some ⟨g2, 0, none⟩) n c2, .agg #[.slice (some ⟨g1, 0, none⟩) n c1, .slice (some ⟨g2, 0, none⟩) n c2], undef, undef, undef, undef, undef, undef, undef, undef, undef, undef, undef, undef, undef, undef, undef, undef, undef, undef, undef, undef, undef, undef, undef, undef, undef, undef, undef, undef, undef, undef, undef, undef, undef, undef, undef, undef, undef, undef, undef], defers := [] } ∧ n ≤ c1 ∧ c1 ≤ 9223372036854775807 ∧ n ≤ c2 ∧ c2 ≤ 9223372036854775807 ∧ w1.heap.size ≤ g1 ∧ w1.heap.size ≤ g2 ∧ w1.heap.size ≤ g5 ∧ g1 ≠ g2 ∧ g5 ≠ g1 ∧ g5 ≠ g2 ∧ ZSRow W g1 A ∧ ZSRow W g2 U ∧ W.heap[g5]? = some (.cells #[.slice (some ⟨g1, 0, none⟩) n c1, .slice (some ⟨g2, 0, none⟩) n c2] 33) ∧ Below w1.heap.size w1 W) ?_ ?_
    rotate_left
    · refine wp_region_held_drew (S := fun W : World => Below w1.heap.size w1 W) (by kernel_rfl) hSX (fun hHeld => ?_)
      generalize w1.drew = wX at *
      have hSwX := hSX
      clear hSX
      refine wpAnyH_take (i := 0) (v := .pointer (some ⟨w.heap.size, 0, none⟩)) rfl (by kernel_rfl) (by kernel_rfl) (by kernel_rfl) (fun _ _ _ h => (by cases h.1)) (Or.inl ⟨by rfl, ?_⟩) (by assumption) ?_
      · intro W hSW
        go_simp
      simp only [Act.put, List.getElem_toArray, List.getElem_cons_zero, List.setIfInBounds_toArray, List.set_cons_succ, List.set_cons_zero]
      refine wpAnyH_take (i := 1) (v := .slice (some ⟨ba, oa, none⟩) n ca) rfl (by kernel_rfl) (by kernel_rfl) (by kernel_rfl) (fun _ _ _ h => (by cases h.1)) (Or.inl ⟨by rfl, ?_⟩) (by assumption) ?_
      · intro W hSW
        obtain ⟨s0, s1⟩ := HCE.out W hSW
        go_simp
      simp only [Act.put, List.getElem_toArray, List.getElem_cons_succ, List.getElem_cons_zero, List.setIfInBounds_toArray, List.set_cons_succ, List.set_cons_zero]
      refine wpAnyH_take (i := 3) (v := .pointer (some ⟨w.heap.size, 1, none⟩)) rfl (by kernel_rfl) (by kernel_rfl) (by kernel_rfl) (fun _ _ _ h => (by cases h.1)) (Or.inl ⟨by rfl, ?_⟩) (by assumption) ?_
      · intro W hSW
        go_simp
      simp only [Act.put, List.getElem_toArray, List.getElem_cons_succ, List.getElem_cons_zero, List.setIfInBounds_toArray, List.set_cons_succ, List.set_cons_zero]
      refine wpAnyH_take (i := 4) (v := .slice (some ⟨bu, ou, none⟩) n cu) rfl (by kernel_rfl) (by kernel_rfl) (by kernel_rfl) (fun _ _ _ h => (by cases h.1)) (Or.inl ⟨by rfl, ?_⟩) (by assumption) ?_
      · intro W hSW
        obtain ⟨s0, s1⟩ := HCE.out W hSW
        go_simp
      simp only [Act.put, List.getElem_toArray, List.getElem_cons_succ, List.getElem_cons_zero, List.setIfInBounds_toArray, List.set_cons_succ, List.set_cons_zero]
      refine wpAnyH_ready (rs := [2, 7]) (by kernel_rfl) (by simp) ?_
      refine AllReadyH.cons rfl (fun K hK => ?_) (AllReadyH.cons rfl (fun K hK => ?_) AllReadyH.nil)
      · rw [if_pos (by rfl)]
        go_simp
        refine (HCA.out _ (HBW.out _ hSwX)).mono ?_
        rintro e w11 ⟨g1, c1, rfl, hc11, hc12, hlo1, hq1w11, hbw11⟩
        go_simp
        have hSw11 := HTS.out _ _ hSwX hbw11
        have hzw11 := hbw11.size
        have hzSwX := hSwX.size
        have hup1 := hq1w11.1
        refine hK.out _ _ hSw11 (fun hSS => ?_)
        clear hK hbw11
        refine wpAnyH_ready (rs := [5, 7]) (by kernel_rfl) (by simp) ?_
        refine AllReadyH.cons rfl (fun K hK => ?_) (AllReadyH.cons rfl (fun K hK => ?_) AllReadyH.nil)
        · rw [if_pos (by rfl)]
          go_simp
          refine (HCU.out _ (HBW.out _ hSw11)).mono ?_
          rintro e w12 ⟨g2, c2, rfl, hc21, hc22, hlo2, hq2w12, hbw12⟩
          go_simp
          have hSw12 := HTS.out _ _ hSw11 hbw12
          have hzw12 := hbw12.size
          have hzSw11 := hSw11.size
          have hup2 := hq2w12.1
          have hq1w12 := hq1w11.kept hbw12
          have hlq1 := hq1w11.1
          refine hK.out _ _ hSw12 (fun hSS => ?_)
          clear hK hbw12
          refine wpAnyH_take (i := 6) (v := .agg #[.slice (some ⟨g1, 0, none⟩) n c1, .slice (some ⟨g2, 0, none⟩) n c2]) rfl (by kernel_rfl) (by kernel_rfl) (by kernel_rfl) (fun _ _ _ h => (by cases h.1)) (Or.inl ⟨by rfl, ?_⟩) (by assumption) ?_
          · intro W hSW
            go_simp
          simp only [Act.put, List.getElem_toArray, List.getElem_cons_succ, List.getElem_cons_zero, List.setIfInBounds_toArray, List.set_cons_succ, List.set_cons_zero]
          refine wpAnyH_ready (rs := [7]) (by kernel_rfl) (by simp) ?_
          refine AllReadyH.cons rfl (fun K hK => ?_) AllReadyH.nil
          · rw [if_pos (by rfl)]
            go_simp
            have hSw13 : Below w1.heap.size w1 (w12.alloc (.cells #[.slice none 0 0, .slice none 0 0] 33)) := hSw12.alloc hSw12.size _
            refine hK.out _ _ hSw13 (fun hSS => ?_)
            clear hK
            refine wpAnyH_ready (rs := [8]) (by kernel_rfl) (by simp) ?_
            refine AllReadyH.cons rfl (fun K hK => ?_) AllReadyH.nil
            rw [if_pos (by rfl)]
            have hSF : Below w1.heap.size w1 (w12.alloc (.cells #[.slice (some ⟨g1, 0, none⟩) n c1, .slice (some ⟨g2, 0, none⟩) n c2] 33)) := hSw12.alloc hSw12.size _
            have hbF : Below w12.heap.size w12 (w12.alloc (.cells #[.slice (some ⟨g1, 0, none⟩) n c1, .slice (some ⟨g2, 0, none⟩) n c2] 33)) := (Below.refl _ _).alloc (Nat.le_refl _) _
            have hF : (w12.alloc (.cells #[.slice (some ⟨g1, 0, none⟩) n c1, .slice (some ⟨g2, 0, none⟩) n c2] 33)).heap[w12.heap.size]? = some (.cells #[.slice (some ⟨g1, 0, none⟩) n c1, .slice (some ⟨g2, 0, none⟩) n c2] 33) := trn_new _ _
            have hq1F := hq1w12.kept hbF
            have hq2F := hq2w12.kept hbF
            have hszF := hSw12.size
            go_simp
            refine hK.out _ _ hSF (fun hSS => ?_)
            clear hK
            refine wpAnyH_done (by kernel_rfl) ?_ _
            exact ⟨rfl, g1, c1, g2, c2, w12.heap.size, rfl, hc11, hc12, hc21, hc22, by omega, by omega, by omega, by omega, by have := hq1w12.1; omega, by have := hq2w12.1; omega, hq1F, hq2F, hF, hSF⟩
        · rw [if_pos (by rfl)]
          go_simp
          have hSw14 : Below w1.heap.size w1 (w11.alloc (.cells #[.slice none 0 0, .slice none 0 0] 33)) := hSw11.alloc hSw11.size _
          refine hK.out _ _ hSw14 (fun hSS => ?_)
          clear hK
          obtain ⟨g5, hge⟩ : ∃ g5, g5 = w11.heap.size := ⟨_, rfl⟩
          have hAw14 : (w11.alloc (.cells #[.slice none 0 0, .slice none 0 0] 33)).heap[g5]? = some (.cells #[.slice none 0 0, .slice none 0 0] 33) := by rw [hge]; exact trn_new _ _
          have hbw14 : Below w11.heap.size w11 (w11.alloc (.cells #[.slice none 0 0, .slice none 0 0] 33)) := (Below.refl _ _).alloc (Nat.le_refl _) _
          have hlAw14 : g5 < (w11.alloc (.cells #[.slice none 0 0, .slice none 0 0] 33)).heap.size := by rw [hge]; simp
          have hzw14 := hbw14.size
          have hzSw11 := hSw11.size
          have hq1w14 := hq1w11.kept hbw14
          have hlq1 := hq1w11.1
          rw [← hge]
          have hg51 : w11.heap.size ≤ g5 := by omega
          have hg52 : g5 ≤ w11.heap.size := by omega
          clear hge hbw14
          generalize w11.alloc (.cells #[.slice none 0 0, .slice none 0 0] 33) = w14 at *
          refine wpAnyH_ready (rs := [5]) (by kernel_rfl) (by simp) ?_
          refine AllReadyH.cons rfl (fun K hK => ?_) AllReadyH.nil
          · rw [if_pos (by rfl)]
            go_simp
            refine (HCU.out _ (HBW.out _ hSw14)).mono ?_
            rintro e w15 ⟨g2, c2, rfl, hc21, hc22, hlo2, hq2w15, hbw15⟩
            go_simp
            have hSw15 := HTS.out _ _ hSw14 hbw15
            have hzw15 := hbw15.size
            have hzSw14 := hSw14.size
            have hup2 := hq2w15.1
            have hAw15 : w15.heap[g5]? = some (.cells #[.slice none 0 0, .slice none 0 0] 33) := (hbw15.block g5 hlAw14).trans hAw14
            have hlAw15 : g5 < w15.heap.size := by omega
            have hq1w15 := hq1w14.kept hbw15
            have hlq1 := hq1w14.1
            refine hK.out _ _ hSw15 (fun hSS => ?_)
            clear hK hbw15
            refine wpAnyH_take (i := 6) (v := .agg #[.slice (some ⟨g1, 0, none⟩) n c1, .slice (some ⟨g2, 0, none⟩) n c2]) rfl (by kernel_rfl) (by kernel_rfl) (by kernel_rfl) (fun _ _ _ h => (by cases h.1)) (Or.inl ⟨by rfl, ?_⟩) (by assumption) ?_
            · intro W hSW
              go_simp
            simp only [Act.put, List.getElem_toArray, List.getElem_cons_succ, List.getElem_cons_zero, List.setIfInBounds_toArray, List.set_cons_succ, List.set_cons_zero]
            refine wpAnyH_ready (rs := [8]) (by kernel_rfl) (by simp) ?_
            refine AllReadyH.cons rfl (fun K hK => ?_) AllReadyH.nil
            rw [if_pos (by rfl)]
            obtain ⟨⟨r0, r1⟩, ⟨f0, f1⟩⟩ := trn_cells hAw15
            have hSF := put2v_below hSw15 (g := g5) (by omega) (.slice (some ⟨g1, 0, none⟩) n c1) (.slice (some ⟨g2, 0, none⟩) n c2)
            have hF := put2v_heap (v0 := .slice (some ⟨g1, 0, none⟩) n c1) (v1 := .slice (some ⟨g2, 0, none⟩) n c2) hAw15
            have hq1F := put2v_far (v0 := .slice (some ⟨g1, 0, none⟩) n c1) (v1 := .slice (some ⟨g2, 0, none⟩) n c2) hq1w15 (show g5 ≠ g1 by omega)
            have hq2F := put2v_far (v0 := .slice (some ⟨g1, 0, none⟩) n c1) (v1 := .slice (some ⟨g2, 0, none⟩) n c2) hq2w15 (show g5 ≠ g2 by omega)
            go_simp
            unfold put2v at hSF hF hq1F hq2F
            refine hK.out _ _ hSF (fun hSS => ?_)
            clear hK
            refine wpAnyH_done (by kernel_rfl) ?_ _
            exact ⟨rfl, g1, c1, g2, c2, g5, rfl, hc11, hc12, hc21, hc22, by omega, by omega, by omega, by omega, by omega, by omega, hq1F, hq2F, hF, hSF⟩
      · rw [if_pos (by rfl)]
        go_simp
        have hSw16 : Below w1.heap.size w1 (wX.alloc (.cells #[.slice none 0 0, .slice none 0 0] 33)) := hSwX.alloc hSwX.size _
        refine hK.out _ _ hSw16 (fun hSS => ?_)
        clear hK
        obtain ⟨g5, hge⟩ : ∃ g5, g5 = wX.heap.size := ⟨_, rfl⟩
        have hAw16 : (wX.alloc (.cells #[.slice none 0 0, .slice none 0 0] 33)).heap[g5]? = some (.cells #[.slice none 0 0, .slice none 0 0] 33) := by rw [hge]; exact trn_new _ _
        have hbw16 : Below wX.heap.size wX (wX.alloc (.cells #[.slice none 0 0, .slice none 0 0] 33)) := (Below.refl _ _).alloc (Nat.le_refl _) _
        have hlAw16 : g5 < (wX.alloc (.cells #[.slice none 0 0, .slice none 0 0] 33)).heap.size := by rw [hge]; simp
        have hzw16 := hbw16.size
        have hzSwX := hSwX.size
        rw [← hge]
        have hg51 : wX.heap.size ≤ g5 := by omega
        have hg52 : g5 ≤ wX.heap.size := by omega
        clear hge hbw16
        generalize wX.alloc (.cells #[.slice none 0 0, .slice none 0 0] 33) = w16 at *
        refine wpAnyH_ready (rs := [2]) (by kernel_rfl) (by simp) ?_
        refine AllReadyH.cons rfl (fun K hK => ?_) AllReadyH.nil
        · rw [if_pos (by rfl)]
          go_simp
          refine (HCA.out _ (HBW.out _ hSw16)).mono ?_
          rintro e w17 ⟨g1, c1, rfl, hc11, hc12, hlo1, hq1w17, hbw17⟩
          go_simp
          have hSw17 := HTS.out _ _ hSw16 hbw17
          have hzw17 := hbw17.size
          have hzSw16 := hSw16.size
          have hup1 := hq1w17.1
          have hAw17 : w17.heap[g5]? = some (.cells #[.slice none 0 0, .slice none 0 0] 33) := (hbw17.block g5 hlAw16).trans hAw16
          have hlAw17 : g5 < w17.heap.size := by omega
          refine hK.out _ _ hSw17 (fun hSS => ?_)
          clear hK hbw17
          refine wpAnyH_ready (rs := [5]) (by kernel_rfl) (by simp) ?_
          refine AllReadyH.cons rfl (fun K hK => ?_) AllReadyH.nil
          · rw [if_pos (by rfl)]
            go_simp
            refine (HCU.out _ (HBW.out _ hSw17)).mono ?_
            rintro e w18 ⟨g2, c2, rfl, hc21, hc22, hlo2, hq2w18, hbw18⟩
            go_simp
            have hSw18 := HTS.out _ _ hSw17 hbw18
            have hzw18 := hbw18.size
            have hzSw17 := hSw17.size
            have hup2 := hq2w18.1
            have hAw18 : w18.heap[g5]? = some (.cells #[.slice none 0 0, .slice none 0 0] 33) := (hbw18.block g5 hlAw17).trans hAw17
            have hlAw18 : g5 < w18.heap.size := by omega
            have hq1w18 := hq1w17.kept hbw18
            have hlq1 := hq1w17.1
            refine hK.out _ _ hSw18 (fun hSS => ?_)
            clear hK hbw18
            refine wpAnyH_take (i := 6) (v := .agg #[.slice (some ⟨g1, 0, none⟩) n c1, .slice (some ⟨g2, 0, none⟩) n c2]) rfl (by kernel_rfl) (by kernel_rfl) (by kernel_rfl) (fun _ _ _ h => (by cases h.1)) (Or.inl ⟨by rfl, ?_⟩) (by assumption) ?_
            · intro W hSW
              go_simp
            simp only [Act.put, List.getElem_toArray, List.getElem_cons_succ, List.getElem_cons_zero, List.setIfInBounds_toArray, List.set_cons_succ, List.set_cons_zero]
            refine wpAnyH_ready (rs := [8]) (by kernel_rfl) (by simp) ?_
            refine AllReadyH.cons rfl (fun K hK => ?_) AllReadyH.nil
            rw [if_pos (by rfl)]
            obtain ⟨⟨r0, r1⟩, ⟨f0, f1⟩⟩ := trn_cells hAw18
            have hSF := put2v_below hSw18 (g := g5) (by omega) (.slice (some ⟨g1, 0, none⟩) n c1) (.slice (some ⟨g2, 0, none⟩) n c2)
            have hF := put2v_heap (v0 := .slice (some ⟨g1, 0, none⟩) n c1) (v1 := .slice (some ⟨g2, 0, none⟩) n c2) hAw18
            have hq1F := put2v_far (v0 := .slice (some ⟨g1, 0, none⟩) n c1) (v1 := .slice (some ⟨g2, 0, none⟩) n c2) hq1w18 (show g5 ≠ g1 by omega)
            have hq2F := put2v_far (v0 := .slice (some ⟨g1, 0, none⟩) n c1) (v1 := .slice (some ⟨g2, 0, none⟩) n c2) hq2w18 (show g5 ≠ g2 by omega)
            go_simp
            unfold put2v at hSF hF hq1F hq2F
            refine hK.out _ _ hSF (fun hSS => ?_)
            clear hK
            refine wpAnyH_done (by kernel_rfl) ?_ _
            exact ⟨rfl, g1, c1, g2, c2, g5, rfl, hc11, hc12, hc21, hc22, by omega, by omega, by omega, by omega, by omega, by omega, hq1F, hq2F, hF, hSF⟩
    · rintro e a W ⟨rfl, g1, c1, g2, c2, g5, rfl, hc11, hc12, hc21, hc22, hlg1, hlg2, hlg5, hne12, hne51, hne52, hq1, hq2, hA, hS⟩
      have hSz := hS.size
      have HQ1 : Hid (ZSRow W g1 A) := hq1
      have HQ2 : Hid (ZSRow W g2 (parA U A 0)) := by rw [parA_zero]; exact hq2
      have HB5 : Hid (W.heap[g5]? = some (.cells #[.slice (some ⟨g1, 0, none⟩) n c1, .slice (some ⟨g2, 0, none⟩) n c2] 33)) := hA
      have HB2 : Hid (W.heap[w.heap.size + 1]? = some (.cells #[.slice none 0 0, .slice none 0 0] 33)) := (hS.block _ (by omega)).trans HX21.out
      have hbW : Below w.heap.size w W := HBW.out _ hS
      have HCC : Hid (n ≤ c1 ∧ c1 ≤ 9223372036854775807 ∧ n ≤ c2 ∧ c2 ≤ 9223372036854775807) := ⟨hc11, hc12, hc21, hc22⟩
      clear hq1 hq2 hS HX11 HX21 HCE HTS HBW HCA HCU hSX hbw1 hc11 hc12 hc21 hc22 hSz
      obtain ⟨⟨p0, p1⟩, _⟩ := trn_cells hA
      clear hA
      go_wp2_with fail
      clear p0 p1
      go_loopw [23] (fun i wr => ∃ k : Nat, k ≤ n ∧ i = .int .i64 (k : Int) ∧ Hid (ZSRow wr g1 A) ∧ Hid (ZSRow wr g2 (parA U A k)) ∧ Hid (wr.heap[g5]? = some (.cells #[.slice (some ⟨g1, 0, none⟩) n c1, .slice (some ⟨g2, 0, none⟩) n c2] 33)) ∧ Hid (wr.heap[w.heap.size + 1]? = some (.cells #[.slice none 0 0, .slice none 0 0] 33)) ∧ Below w.heap.size w wr) (fun i _ => n - (intOf i).toNat)
      case atStart => exact ⟨0, Nat.zero_le _, rfl, HQ1, HQ2, HB5, HB2, hbW⟩
      case round =>
        obtain ⟨k, hk, rfl, HQA, HQU, HBX, HBZ, hb⟩ := hrel
        clear HQ1 HQ2 HB5 HB2 hbW
        by_cases hlt : k < n
        · have hkA : k < A.length := by rw [HNA.out]; exact hlt
          have hkU : k < U.length := by rw [HNU.out]; exact hlt
          have a0 := (HQA.out.2 k hkA).1
          have hkp : k < (parA U A k).length := by rw [parA_length HEL.out k (by omega)]; exact hkU
          have u0 := HQU.out.2 k hkp
          rw [parA_at HEL.out k hkU] at u0
          obtain ⟨u1, u2⟩ := u0
          have hset := zs_setT HQU.out k hkp (U[k]'hkU + A[k]'hkA)
          rw [← parA_next HEL.out k hkU] at hset
          have hub := HUB.out k hkU
          have hwb := HWB.out k hkA
          obtain ⟨uk, huk⟩ : ∃ uk, uk = U[k]'hkU := ⟨_, rfl⟩
          obtain ⟨ak, hak⟩ : ∃ ak, ak = A[k]'hkA := ⟨_, rfl⟩
          rw [← huk, ← hak] at hset
          rw [← huk] at u1 hub
          rw [← hak] at a0 hwb
          have HSET : Hid (ZSRow (wr.setCell ⟨g2, k, none⟩ (.int .i64 (uk + ak))) g2 (parA U A (k + 1))) := hset
          have hk9 := kpt_set wr g2 k (.int .i64 (uk + ak)) (S := fun j => j = g2) rfl
          have hg5l : g5 < wr.heap.size := (Array.getElem?_eq_some_iff.1 HBX.out).1
          have hz2l : w.heap.size + 1 < wr.heap.size := (Array.getElem?_eq_some_iff.1 HBZ.out).1
          have HQA9 : Hid (ZSRow (wr.setCell ⟨g2, k, none⟩ (.int .i64 (uk + ak))) g1 A) := HQA.out.apart hk9 (by omega)
          have HBX9 : Hid ((wr.setCell ⟨g2, k, none⟩ (.int .i64 (uk + ak))).heap[g5]? = some (.cells #[.slice (some ⟨g1, 0, none⟩) n c1, .slice (some ⟨g2, 0, none⟩) n c2] 33)) := (hk9.block _ hg5l (by omega)).trans HBX.out
          have HBZ9 : Hid ((wr.setCell ⟨g2, k, none⟩ (.int .i64 (uk + ak))).heap[w.heap.size + 1]? = some (.cells #[.slice none 0 0, .slice none 0 0] 33)) := (hk9.block _ hz2l (by omega)).trans HBZ.out
          have hb9 : Below w.heap.size w (wr.setCell ⟨g2, k, none⟩ (.int .i64 (uk + ak))) := hb.trans (hk9.below hb.size (fun k0 hk0 h => by omega))
          have hki : (k : Int) < (n : Int) := by omega
          have hwrp : IntKind.i64.wrap (uk + ak) = uk + ak := i64_wrap (by omega) (by omega)
          obtain ⟨⟨p0, p1⟩, _⟩ := trn_cells HBX.out
          clear hset hkp huk hak hkA hkU hk9 HBX HBZ HQA HQU
          go_wp2_with fail
          go_roundw
          case rel => exact ⟨k + 1, by omega, by go_num, HQA9, HSET, HBX9, HBZ9, hb9⟩
          case measure => simp [intOf]; omega
        · have hkn : n = k := by omega
          subst hkn
          have HQS : Hid (ZSRow wr g2 (addZ U A)) := by
            have h := HQU.out
            rw [← HNU.out, parA_end HEL.out] at h
            exact h
          have HSN : Hid ((addZ U A).length = n) := by show _ = _; rw [addZ_length HEL.out]; exact HNU.out
          rw [HNA.out] at HNK HNL
          rw [HNU.out] at HAB
          obtain ⟨S, hS⟩ : ∃ S, S = addZ U A := ⟨_, rfl⟩
          rw [← hS] at HQS HSN HNK HNL HAB
          have hbl := bestN_lt S n hpn.1
          have hbd := HAB.out _ hbl
          have HRW : Hid (∀ W, Below wr.heap.size wr W → W.cell? ⟨g5, 0, none⟩ = some (.slice (some ⟨g1, 0, none⟩) n c1) ∧ W.cell? ⟨g5, 1, none⟩ = some (.slice (some ⟨g2, 0, none⟩) n c2) ∧ ZRow .i64 W (.slice (some ⟨g2, 0, none⟩) n c2) S ∧ ZRow .i64 W (.slice (some ⟨g1, 0, none⟩) n c1) A) := fun W hW => by
            have h1 := (trn_cells ((hW.block _ (Array.getElem?_eq_some_iff.1 HBX.out).1).trans HBX.out)).1
            have h2 := (HQS.out.kept hW).rowc (cap := c2) (by rw [HSN.out]; exact HCC.out.2.2.1) HCC.out.2.2.2
            have h3 := (HQA.out.kept hW).rowc (cap := c1) (by rw [HNA.out]; exact HCC.out.1) HCC.out.2.1
            rw [HSN.out] at h2
            rw [HNA.out] at h3
            exact ⟨h1.1, h1.2, h2, h3⟩
          have HMAX : Hid (∀ W, Below wr.heap.size wr W → Calls Try.prog 41 #[.slice (some ⟨g2, 0, none⟩) n c2] W fun e w' => e = .returned (.int .i64 (S.getD (bestN S n) 0)) ∧ w' = W) := fun W hW => by
            have h := maxZ_any _ S W (HRW.out W hW).2.2.1 (by rw [HSN.out]; omega) (by rw [HSN.out]; omega)
            rw [HSN.out] at h
            exact h
          have HIDX : Hid (∀ W, Below wr.heap.size wr W → Calls Try.prog 40 #[.slice (some ⟨g2, 0, none⟩) n c2, .int .i64 (S.getD (bestN S n) 0)] W fun e w' => e = .returned (.int .i64 (bestN S n : Int)) ∧ w' = W) := fun W hW => indexZ_any _ S _ _ W (HRW.out W hW).2.2.1 (by rw [HSN.out]; omega) (by rw [HSN.out]; exact hbl) rfl (fun j hj => bestN_first S n j hj)
          obtain ⟨bk, hbke⟩ : ∃ bk, bk = bestN S n := ⟨_, rfl⟩
          rw [← hbke] at HNK HNL hbl hbd HMAX HIDX
          obtain ⟨y, hy⟩ : ∃ y, y = S.getD bk 0 := ⟨_, rfl⟩
          have HY : Hid (y = S.getD bk 0) := hy
          rw [← hy] at hbd HMAX HIDX HNL
          have hbdd : Below wr.heap.size wr wr.drew := (Below.refl _ _).drew
          clear hS hbke hy HAB hlt HQU hk
          go_wp2_with fail
          refine wp_region_quiet (C := fun W => Below wr.heap.size wr W) (by kernel_rfl) (by kernel_rfl) hbdd ?_
          refine wpQuiet_step (fun K hK => ?_)
          rw [if_pos (by rfl)]
          refine ⟨.pointer (some ⟨g5, 1, none⟩), fun W hW => quiet_ok ?_, hK _ ?_⟩
          · obtain ⟨c0, c1, _, _⟩ := HRW.out W hW
            go_simp
            all_goals (try omega)
          clear hK K
          simp only [Act.put, List.setIfInBounds_toArray, List.set_cons_succ, List.set_cons_zero]
          refine wpQuiet_step (fun K hK => ?_)
          rw [if_pos (by rfl)]
          refine ⟨.slice (some ⟨g2, 0, none⟩) n c2, fun W hW => quiet_ok ?_, hK _ ?_⟩
          · obtain ⟨c0, c1, _, _⟩ := HRW.out W hW
            go_simp
            all_goals (try omega)
          clear hK K
          simp only [Act.put, List.setIfInBounds_toArray, List.set_cons_succ, List.set_cons_zero]
          refine wpQuiet_step (fun K hK => ?_)
          rw [if_pos (by rfl)]
          refine ⟨.pointer (some ⟨g5, 1, none⟩), fun W hW => quiet_ok ?_, hK _ ?_⟩
          · obtain ⟨c0, c1, _, _⟩ := HRW.out W hW
            go_simp
            all_goals (try omega)
          clear hK K
          simp only [Act.put, List.setIfInBounds_toArray, List.set_cons_succ, List.set_cons_zero]
          refine wpQuiet_step (fun K hK => ?_)
          rw [if_pos (by rfl)]
          refine ⟨.slice (some ⟨g2, 0, none⟩) n c2, fun W hW => quiet_ok ?_, hK _ ?_⟩
          · obtain ⟨c0, c1, _, _⟩ := HRW.out W hW
            go_simp
            all_goals (try omega)
          clear hK K
          simp only [Act.put, List.setIfInBounds_toArray, List.set_cons_succ, List.set_cons_zero]
          refine wpQuiet_step (fun K hK => ?_)
          rw [if_pos (by rfl)]
          refine ⟨.int .i64 y, fun W hW => quiet_call (f := 41) (args := #[.slice (some ⟨g2, 0, none⟩) n c2]) ?_ ?_, hK _ ?_⟩
          · go_simp
          · exact (HMAX.out W hW).mono fun e w'' h => ⟨h.1, by rw [h.2]; exact hW⟩
          clear hK K
          simp only [Act.put, List.setIfInBounds_toArray, List.set_cons_succ, List.set_cons_zero]
          refine wpQuiet_step (fun K hK => ?_)
          rw [if_pos (by rfl)]
          refine ⟨.int .i64 (bk : Int), fun W hW => quiet_call (f := 40) (args := #[.slice (some ⟨g2, 0, none⟩) n c2, .int .i64 y]) ?_ ?_, hK _ ?_⟩
          · go_simp
          · exact (HIDX.out W hW).mono fun e w'' h => ⟨h.1, by rw [h.2]; exact hW⟩
          clear hK K
          simp only [Act.put, List.setIfInBounds_toArray, List.set_cons_succ, List.set_cons_zero]
          refine wpQuiet_step (fun K hK => ?_)
          rw [if_pos (by rfl)]
          refine ⟨.int .i64 (bk : Int), fun W hW => quiet_ok ?_, hK _ ?_⟩
          · obtain ⟨c0, c1, _, _⟩ := HRW.out W hW
            go_simp
            all_goals (try omega)
          clear hK K
          simp only [Act.put, List.setIfInBounds_toArray, List.set_cons_succ, List.set_cons_zero]
          refine wpQuiet_nil ?_
          intro W2 hW2
          have HB5 : Hid (W2.heap[g5]? = some (.cells #[.slice (some ⟨g1, 0, none⟩) n c1, .slice (some ⟨g2, 0, none⟩) n c2] 33)) := (hW2.block _ (Array.getElem?_eq_some_iff.1 HBX.out).1).trans HBX.out
          have HBZ2 : Hid (W2.heap[w.heap.size + 1]? = some (.cells #[.slice none 0 0, .slice none 0 0] 33)) := (hW2.block _ (Array.getElem?_eq_some_iff.1 HBZ.out).1).trans HBZ.out
          have HQ1 : Hid (ZSRow W2 g1 A) := HQA.out.kept hW2
          have HQ2 : Hid (ZSRow W2 g2 S) := HQS.out.kept hW2
          have hbW2 : Below w.heap.size w W2 := hb.trans (hW2.mono hb.size)
          clear hW2 HBX HBZ HQA HQS hb HRW HMAX HIDX hbdd
          go_wp2_with fail
          refine wp_region_noPanic ?_
          obtain ⟨sm, hsm⟩ : ∃ sm, sm = A.sum := ⟨_, rfl⟩
          rw [← hsm] at hsb HSU HNL
          have hwrp : IntKind.i64.wrap (y - sm) = y - sm := i64_wrap (by omega) (by omega)
          have hSX : Below w.heap.size w W2.drew ∧ W2.drew.heap[g5]? = some (.cells #[.slice (some ⟨g1, 0, none⟩) n c1, .slice (some ⟨g2, 0, none⟩) n c2] 33) := ⟨hbW2.drew, HB5.out⟩
          have h2X : W2.drew.heap[w.heap.size + 1]? = some (.cells #[.slice none 0 0, .slice none 0 0] 33) := HBZ2.out
          have h1X : ZSRow W2.drew g1 A := HQ1.out
          have hqX : ZSRow W2.drew g2 S := HQ2.out
          have hzX : w.heap.size + 1 < W2.drew.heap.size := (Array.getElem?_eq_some_iff.1 h2X).1
          have h5X : g5 < W2.drew.heap.size := (Array.getElem?_eq_some_iff.1 hSX.2).1
          have hbki : (bk : Int) < (n : Int) := by omega
          refine wp_region_held_drew (S := fun W : World => Below w.heap.size w W ∧ W.heap[g5]? = some (.cells #[.slice (some ⟨g1, 0, none⟩) n c1, .slice (some ⟨g2, 0, none⟩) n c2] 33)) (by kernel_rfl) hSX (fun hHeld => ?_)
          generalize W2.drew = wX at *
          have hcX := hqX.2 bk (by rw [HSN.out]; exact hbl)
          rw [← getD_get, ← HY.out] at hcX
          obtain ⟨hcX, hfX⟩ := hcX
          have hset := zs_setT hqX bk (by rw [HSN.out]; exact hbl) (y - sm)
          rw [← HNL.out] at hset
          have HSET : Hid (ZSRow (wX.setCell ⟨g2, bk, none⟩ (.int .i64 (y - sm))) g2 (nxtL A U)) := hset
          have hra : ZRow .i64 wX (.slice (some ⟨g1, 0, none⟩) n c1) A := by
            have h3 := h1X.rowc (cap := c1) (by rw [HNA.out]; exact HCC.out.1) HCC.out.2.1
            rw [HNA.out] at h3
            exact h3
          clear hset hqX hsm hHeld
          refine wpAnyH_take (i := 0) (v := .pointer (some ⟨g5, 1, none⟩)) rfl (by kernel_rfl) (by kernel_rfl) (by kernel_rfl) (fun _ _ _ h => h) (Or.inl ⟨by rfl, ?_⟩) (by assumption) ?_
          · intro W hSW
            go_simp
          simp only [Act.put, List.getElem_toArray, List.getElem_cons_zero, List.setIfInBounds_toArray, List.set_cons_succ, List.set_cons_zero]
          refine wpAnyH_take (i := 1) (v := .slice (some ⟨g2, 0, none⟩) n c2) rfl (by kernel_rfl) (by kernel_rfl) (by kernel_rfl) (fun _ _ _ h => h) (Or.inl ⟨by rfl, ?_⟩) (by assumption) ?_
          · intro W hSW
            obtain ⟨⟨s0, s1⟩, _⟩ := trn_cells hSW.2
            go_simp
          simp only [Act.put, List.getElem_toArray, List.getElem_cons_succ, List.getElem_cons_zero, List.setIfInBounds_toArray, List.set_cons_succ, List.set_cons_zero]
          refine wpAnyH_take (i := 2) (v := .int .i64 (bk : Int)) rfl (by kernel_rfl) (by kernel_rfl) (by kernel_rfl) (fun _ _ _ h => h) (Or.inl ⟨by rfl, ?_⟩) (by assumption) ?_
          · intro W hSW
            go_simp
          simp only [Act.put, List.getElem_toArray, List.getElem_cons_succ, List.getElem_cons_zero, List.setIfInBounds_toArray, List.set_cons_succ, List.set_cons_zero]
          refine wpAnyH_take (i := 3) (v := .pointer (some ⟨g2, bk, none⟩)) rfl (by kernel_rfl) (by kernel_rfl) (by kernel_rfl) (fun _ _ _ h => h) (Or.inl ⟨by rfl, ?_⟩) (by assumption) ?_
          · intro W hSW
            go_simp
          simp only [Act.put, List.getElem_toArray, List.getElem_cons_succ, List.getElem_cons_zero, List.setIfInBounds_toArray, List.set_cons_succ, List.set_cons_zero]
          refine wpAnyH_take (i := 5) (v := .pointer (some ⟨g5, 0, none⟩)) rfl (by kernel_rfl) (by kernel_rfl) (by kernel_rfl) (fun _ _ _ h => h) (Or.inl ⟨by rfl, ?_⟩) (by assumption) ?_
          · intro W hSW
            go_simp
          simp only [Act.put, List.getElem_toArray, List.getElem_cons_succ, List.getElem_cons_zero, List.setIfInBounds_toArray, List.set_cons_succ, List.set_cons_zero]
          refine wpAnyH_take (i := 6) (v := .slice (some ⟨g1, 0, none⟩) n c1) rfl (by kernel_rfl) (by kernel_rfl) (by kernel_rfl) (fun _ _ _ h => h) (Or.inl ⟨by rfl, ?_⟩) (by assumption) ?_
          · intro W hSW
            obtain ⟨⟨s0, s1⟩, _⟩ := trn_cells hSW.2
            go_simp
          simp only [Act.put, List.getElem_toArray, List.getElem_cons_succ, List.getElem_cons_zero, List.setIfInBounds_toArray, List.set_cons_succ, List.set_cons_zero]
          refine wpAnyH_ready (rs := [4, 7]) (by kernel_rfl) (by simp) ?_
          refine AllReadyH.cons rfl (fun K hK => ?_) (AllReadyH.cons rfl (fun K hK => ?_) AllReadyH.nil)
          · skip
            rw [if_pos (by rfl)]
            go_simp
            refine hK.out _ _ hSX (fun _ => ?_)
            clear hK K
            refine wpAnyH_ready (rs := [7]) (by kernel_rfl) (by simp) ?_
            refine AllReadyH.cons rfl (fun K hK => ?_) AllReadyH.nil
            rw [if_pos (by rfl)]
            go_simp
            refine (HSU.out _ _ hra).mono ?_
            rintro e wZ ⟨rfl, hwz⟩
            rw [hwz]
            clear hwz wZ
            go_simp
            refine hK.out _ _ hSX (fun _ => ?_)
            clear hK K
            refine wpAnyH_take (i := 8) (v := .int .i64 (y - sm)) rfl (by kernel_rfl) (by kernel_rfl) (by kernel_rfl) (fun _ _ _ h => h) (Or.inl ⟨by rfl, ?_⟩) (by assumption) ?_
            · intro W hSW
              go_simp
            simp only [Act.put, List.getElem_toArray, List.getElem_cons_succ, List.getElem_cons_zero, List.setIfInBounds_toArray, List.set_cons_succ, List.set_cons_zero]
            refine wpAnyH_take (i := 9) (v := .pointer (some ⟨g2, bk, none⟩)) rfl (by kernel_rfl) (by kernel_rfl) (by kernel_rfl) (fun _ _ _ h => h) (Or.inl ⟨by rfl, ?_⟩) (by assumption) ?_
            · intro W hSW
              go_simp
            simp only [Act.put, List.getElem_toArray, List.getElem_cons_succ, List.getElem_cons_zero, List.setIfInBounds_toArray, List.set_cons_succ, List.set_cons_zero]
            refine wpAnyH_ready (rs := [10]) (by kernel_rfl) (by simp) ?_
            refine AllReadyH.cons rfl (fun K hK => ?_) AllReadyH.nil
            rw [if_pos (by rfl)]
            have hk9 := kpt_set wX g2 bk (.int .i64 (y - sm)) (S := fun j => j = g2) rfl
            have hS9 : Below w.heap.size w (wX.setCell ⟨g2, bk, none⟩ (.int .i64 (y - sm))) ∧ (wX.setCell ⟨g2, bk, none⟩ (.int .i64 (y - sm))).heap[g5]? = some (.cells #[.slice (some ⟨g1, 0, none⟩) n c1, .slice (some ⟨g2, 0, none⟩) n c2] 33) := ⟨hSX.1.trans (hk9.below hSX.1.size (fun k0 hk0 h => by omega)), (hk9.block _ h5X (by omega)).trans hSX.2⟩
            have h29 := (hk9.block (w.heap.size + 1) hzX (by omega)).trans h2X
            have h19 := h1X.apart hk9 (by omega)
            have hQ9 := HSET.out
            go_simp
            refine hK.out _ _ hS9 (fun _ => ?_)
            clear hK K
            refine wpAnyH_done (by kernel_rfl) ?_ _
            refine NoPanic.normal ?_
            obtain ⟨w9, hw9⟩ : ∃ W, W = (wX.setCell ⟨g2, bk, none⟩ (.int .i64 (y - sm))) := ⟨_, rfl⟩
            rw [← hw9] at hS9 h29 h19 hQ9
            rw [← hw9]
            have H29 : Hid (w9.heap[w.heap.size + 1]? = some (.cells #[.slice none 0 0, .slice none 0 0] 33)) := h29
            have H59 : Hid (w9.heap[g5]? = some (.cells #[.slice (some ⟨g1, 0, none⟩) n c1, .slice (some ⟨g2, 0, none⟩) n c2] 33)) := hS9.2
            have HQ9 : Hid (ZSRow w9 g1 A ∧ ZSRow w9 g2 (nxtL A U)) := ⟨h19, hQ9⟩
            have hb9 : Below w.heap.size w w9 := hS9.1
            have HR9 : Hid (ZRow .i64 w9 (.slice (some ⟨g1, 0, none⟩) n c1) A ∧ ZRow .i64 w9 (.slice (some ⟨g2, 0, none⟩) n c2) (nxtL A U)) := by
              have h3 := h19.rowc (cap := c1) (by rw [HNA.out]; exact HCC.out.1) HCC.out.2.1
              have h4 := hQ9.rowc (cap := c2) (by rw [HLL.out, HNA.out]; exact HCC.out.2.2.1) HCC.out.2.2.2
              rw [HNA.out] at h3
              rw [HLL.out, HNA.out] at h4
              exact ⟨h3, h4⟩
            obtain ⟨⟨d0, d1⟩, _⟩ := trn_cells hS9.2
            have h59l : g5 < w9.heap.size := (Array.getElem?_eq_some_iff.1 hS9.2).1
            have h29l : w.heap.size + 1 < w9.heap.size := (Array.getElem?_eq_some_iff.1 h29).1
            clear hS9 h29 h19 hQ9 hw9 hk9 hcX hfX HSET hSX h2X h1X hra hzX h5X HSU hwrp
            go_wp2_with fail
            refine (HG2.out _ _ _ HR9.out.1 HR9.out.2).mono ?_
            rintro e w10 ⟨rfl, hb10⟩
            clear d0 d1
            have hbw10 := hb9.trans (hb10.mono hb9.size)
            have H210 : Hid (w10.heap[w.heap.size + 1]? = some (.cells #[.slice none 0 0, .slice none 0 0] 33)) := (hb10.block _ h29l).trans H29.out
            have H510 : Hid (w10.heap[g5]? = some (.cells #[.slice (some ⟨g1, 0, none⟩) n c1, .slice (some ⟨g2, 0, none⟩) n c2] 33)) := (hb10.block _ h59l).trans H59.out
            have HQ10 : Hid (ZSRow w10 g1 A ∧ ZSRow w10 g2 (nxtL A U)) := ⟨HQ9.out.1.kept hb10, HQ9.out.2.kept hb10⟩
            clear hb10 hb9 HQ9 H29 H59 HR9
            cases hok : goodT A (nxtL A U) with
            | false =>
              have HOK : Hid (goodT A (nxtL A U) = false) := hok
              obtain ⟨⟨d0, d1⟩, ⟨z0, z1⟩⟩ := trn_cells H210.out
              clear hok
              go_wp2_with fail
              (try simp only [Exit.inBlock, Exit.then])
              refine bodyPost_ret (results_trn3 rfl _ _ (w.heap.size + 1) 33 #[.slice none 0 0, .slice none 0 0] (0, 0) _ (.int .i64 0) (.bool false) rfl rfl rfl ?_ Try.underlying33 rfl (by kernel_rfl)) rfl ⟨by rw [HOK.out]; exact nta_off _ _ _ _ _, ?_⟩
              · exact put2v_heap H210.out
              · exact put2v_below hbw10 (by omega) _ _
            | true =>
              have HOK : Hid (goodT A (nxtL A U) = true) := hok
              obtain ⟨⟨d0, d1⟩, ⟨z0, z1⟩⟩ := trn_cells H210.out
              obtain ⟨⟨p0, p1⟩, _⟩ := trn_cells H510.out
              clear hok
              go_wp2_with fail
              (try simp only [Exit.inBlock, Exit.then])
              refine bodyPost_ret (results_trn3 rfl _ _ (w.heap.size + 1) 33 #[.slice (some ⟨g1, 0, none⟩) n c1, .slice (some ⟨g2, 0, none⟩) n c2] (0, 0) _ (.int .i64 (bk : Int)) (.bool true) rfl rfl rfl ?_ Try.underlying33 rfl (by kernel_rfl)) rfl ⟨?_, ?_⟩
              · exact put2v_heap H210.out
              · rw [HOK.out, HNK.out]
                refine ⟨_, _, rfl, .inr ⟨g1, c1, g2, c2, ?_, ?_, ?_, HCC.out.2.1, ?_, HCC.out.2.2.2, by omega, by omega, hne12, ?_, ?_⟩⟩
                · show Value.slice _ n c1 = Value.slice _ A.length c1
                  rw [HNA.out]
                · show Value.slice _ n c2 = Value.slice _ (nxtL A U).length c2
                  rw [HLL.out, HNA.out]
                · show A.length ≤ c1
                  rw [HNA.out]; exact HCC.out.1
                · show (nxtL A U).length ≤ c2
                  rw [HLL.out, HNA.out]; exact HCC.out.2.2.1
                · exact put2v_far HQ10.out.1 (by omega)
                · exact put2v_far HQ10.out.2 (by omega)
              · exact put2v_below hbw10 (by omega) _ _
          · skip
            rw [if_pos (by rfl)]
            go_simp
            refine (HSU.out _ _ hra).mono ?_
            rintro e wZ ⟨rfl, hwz⟩
            rw [hwz]
            clear hwz wZ
            go_simp
            refine hK.out _ _ hSX (fun _ => ?_)
            clear hK K
            refine wpAnyH_ready (rs := [4]) (by kernel_rfl) (by simp) ?_
            refine AllReadyH.cons rfl (fun K hK => ?_) AllReadyH.nil
            rw [if_pos (by rfl)]
            go_simp
            refine hK.out _ _ hSX (fun _ => ?_)
            clear hK K
            refine wpAnyH_take (i := 8) (v := .int .i64 (y - sm)) rfl (by kernel_rfl) (by kernel_rfl) (by kernel_rfl) (fun _ _ _ h => h) (Or.inl ⟨by rfl, ?_⟩) (by assumption) ?_
            · intro W hSW
              go_simp
            simp only [Act.put, List.getElem_toArray, List.getElem_cons_succ, List.getElem_cons_zero, List.setIfInBounds_toArray, List.set_cons_succ, List.set_cons_zero]
            refine wpAnyH_take (i := 9) (v := .pointer (some ⟨g2, bk, none⟩)) rfl (by kernel_rfl) (by kernel_rfl) (by kernel_rfl) (fun _ _ _ h => h) (Or.inl ⟨by rfl, ?_⟩) (by assumption) ?_
            · intro W hSW
              go_simp
            simp only [Act.put, List.getElem_toArray, List.getElem_cons_succ, List.getElem_cons_zero, List.setIfInBounds_toArray, List.set_cons_succ, List.set_cons_zero]
            refine wpAnyH_ready (rs := [10]) (by kernel_rfl) (by simp) ?_
            refine AllReadyH.cons rfl (fun K hK => ?_) AllReadyH.nil
            rw [if_pos (by rfl)]
            have hk9 := kpt_set wX g2 bk (.int .i64 (y - sm)) (S := fun j => j = g2) rfl
            have hS9 : Below w.heap.size w (wX.setCell ⟨g2, bk, none⟩ (.int .i64 (y - sm))) ∧ (wX.setCell ⟨g2, bk, none⟩ (.int .i64 (y - sm))).heap[g5]? = some (.cells #[.slice (some ⟨g1, 0, none⟩) n c1, .slice (some ⟨g2, 0, none⟩) n c2] 33) := ⟨hSX.1.trans (hk9.below hSX.1.size (fun k0 hk0 h => by omega)), (hk9.block _ h5X (by omega)).trans hSX.2⟩
            have h29 := (hk9.block (w.heap.size + 1) hzX (by omega)).trans h2X
            have h19 := h1X.apart hk9 (by omega)
            have hQ9 := HSET.out
            go_simp
            refine hK.out _ _ hS9 (fun _ => ?_)
            clear hK K
            refine wpAnyH_done (by kernel_rfl) ?_ _
            refine NoPanic.normal ?_
            obtain ⟨w9, hw9⟩ : ∃ W, W = (wX.setCell ⟨g2, bk, none⟩ (.int .i64 (y - sm))) := ⟨_, rfl⟩
            rw [← hw9] at hS9 h29 h19 hQ9
            rw [← hw9]
            have H29 : Hid (w9.heap[w.heap.size + 1]? = some (.cells #[.slice none 0 0, .slice none 0 0] 33)) := h29
            have H59 : Hid (w9.heap[g5]? = some (.cells #[.slice (some ⟨g1, 0, none⟩) n c1, .slice (some ⟨g2, 0, none⟩) n c2] 33)) := hS9.2
            have HQ9 : Hid (ZSRow w9 g1 A ∧ ZSRow w9 g2 (nxtL A U)) := ⟨h19, hQ9⟩
            have hb9 : Below w.heap.size w w9 := hS9.1
            have HR9 : Hid (ZRow .i64 w9 (.slice (some ⟨g1, 0, none⟩) n c1) A ∧ ZRow .i64 w9 (.slice (some ⟨g2, 0, none⟩) n c2) (nxtL A U)) := by
              have h3 := h19.rowc (cap := c1) (by rw [HNA.out]; exact HCC.out.1) HCC.out.2.1
              have h4 := hQ9.rowc (cap := c2) (by rw [HLL.out, HNA.out]; exact HCC.out.2.2.1) HCC.out.2.2.2
              rw [HNA.out] at h3
              rw [HLL.out, HNA.out] at h4
              exact ⟨h3, h4⟩
            obtain ⟨⟨d0, d1⟩, _⟩ := trn_cells hS9.2
            have h59l : g5 < w9.heap.size := (Array.getElem?_eq_some_iff.1 hS9.2).1
            have h29l : w.heap.size + 1 < w9.heap.size := (Array.getElem?_eq_some_iff.1 h29).1
            clear hS9 h29 h19 hQ9 hw9 hk9 hcX hfX HSET hSX h2X h1X hra hzX h5X HSU hwrp
            go_wp2_with fail
            refine (HG2.out _ _ _ HR9.out.1 HR9.out.2).mono ?_
            rintro e w10 ⟨rfl, hb10⟩
            clear d0 d1
            have hbw10 := hb9.trans (hb10.mono hb9.size)
            have H210 : Hid (w10.heap[w.heap.size + 1]? = some (.cells #[.slice none 0 0, .slice none 0 0] 33)) := (hb10.block _ h29l).trans H29.out
            have H510 : Hid (w10.heap[g5]? = some (.cells #[.slice (some ⟨g1, 0, none⟩) n c1, .slice (some ⟨g2, 0, none⟩) n c2] 33)) := (hb10.block _ h59l).trans H59.out
            have HQ10 : Hid (ZSRow w10 g1 A ∧ ZSRow w10 g2 (nxtL A U)) := ⟨HQ9.out.1.kept hb10, HQ9.out.2.kept hb10⟩
            clear hb10 hb9 HQ9 H29 H59 HR9
            cases hok : goodT A (nxtL A U) with
            | false =>
              have HOK : Hid (goodT A (nxtL A U) = false) := hok
              obtain ⟨⟨d0, d1⟩, ⟨z0, z1⟩⟩ := trn_cells H210.out
              clear hok
              go_wp2_with fail
              (try simp only [Exit.inBlock, Exit.then])
              refine bodyPost_ret (results_trn3 rfl _ _ (w.heap.size + 1) 33 #[.slice none 0 0, .slice none 0 0] (0, 0) _ (.int .i64 0) (.bool false) rfl rfl rfl ?_ Try.underlying33 rfl (by kernel_rfl)) rfl ⟨by rw [HOK.out]; exact nta_off _ _ _ _ _, ?_⟩
              · exact put2v_heap H210.out
              · exact put2v_below hbw10 (by omega) _ _
            | true =>
              have HOK : Hid (goodT A (nxtL A U) = true) := hok
              obtain ⟨⟨d0, d1⟩, ⟨z0, z1⟩⟩ := trn_cells H210.out
              obtain ⟨⟨p0, p1⟩, _⟩ := trn_cells H510.out
              clear hok
              go_wp2_with fail
              (try simp only [Exit.inBlock, Exit.then])
              refine bodyPost_ret (results_trn3 rfl _ _ (w.heap.size + 1) 33 #[.slice (some ⟨g1, 0, none⟩) n c1, .slice (some ⟨g2, 0, none⟩) n c2] (0, 0) _ (.int .i64 (bk : Int)) (.bool true) rfl rfl rfl ?_ Try.underlying33 rfl (by kernel_rfl)) rfl ⟨?_, ?_⟩
              · exact put2v_heap H210.out
              · rw [HOK.out, HNK.out]
                refine ⟨_, _, rfl, .inr ⟨g1, c1, g2, c2, ?_, ?_, ?_, HCC.out.2.1, ?_, HCC.out.2.2.2, by omega, by omega, hne12, ?_, ?_⟩⟩
                · show Value.slice _ n c1 = Value.slice _ A.length c1
                  rw [HNA.out]
                · show Value.slice _ n c2 = Value.slice _ (nxtL A U).length c2
                  rw [HLL.out, HNA.out]
                · show A.length ≤ c1
                  rw [HNA.out]; exact HCC.out.1
                · show (nxtL A U).length ≤ c2
                  rw [HLL.out, HNA.out]; exact HCC.out.2.2.1
                · exact put2v_far HQ10.out.1 (by omega)
                · exact put2v_far HQ10.out.2 (by omega)
              · exact put2v_below hbw10 (by omega) _ _
end Go.Proofs.Ytafbnhelcoofmaa
