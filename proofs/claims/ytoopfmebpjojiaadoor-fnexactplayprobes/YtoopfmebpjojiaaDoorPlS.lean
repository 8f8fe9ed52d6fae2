import Derived.Test.YtoopfmebpjojiaaDoorPlP
namespace Go.Proofs.YtoopfmebpjojiaaDoor
open Go.RowKit

theorem pl_off1 {ri fa : Int} {P : List (List UInt8)} {Q : List PrbT} (h : newB ri fa P = false) : plB ri fa P Q = false := by unfold plB; rw [h]; rfl
theorem pl_off2 {ri fa : Int} {P : List (List UInt8)} {Q : List PrbT} (h : ¬ Q.length ≤ 200) : plB ri fa P Q = false := by unfold plB; rw [decide_eq_false h]; simp
theorem pl_off3 {ri fa : Int} {P : List (List UInt8)} {Q : List PrbT} (h : plF ri fa (newL P) 0 Q = none) : plB ri fa P Q = false := by unfold plB; rw [h]; simp
theorem pl_on {ri fa : Int} {P : List (List UInt8)} {Q : List PrbT} {M : List HosT} {c : Int} (h1 : newB ri fa P = true) (h2 : Q.length ≤ 200) (h3 : plF ri fa (newL P) 0 Q = some (M, c)) : plB ri fa P Q = true ∧ plV ri fa P Q = (M, c) := by
  unfold plB plV; rw [h1, h3, decide_eq_true h2]; exact ⟨rfl, rfl⟩
theorem pans_off (w' : World) (base : Nat) (ri fa c : Int) (L : List HosT) : PAnsH w' base false ri fa c L (.returned (.tuple #[.agg #[.int .i64 0, .int .i64 0, .slice none 0 0], .int .i64 0, .bool false])) := ⟨.slice none 0 0, rfl, .inl ⟨rfl, rfl⟩⟩

set_option maxRecDepth 20000 in
set_option maxHeartbeats 16000000 in
theorem sPlayProbes_any (ri fa : Int) (v vq : Value) (P : List (List UInt8)) (Q : List PrbT) (w : World) (hr : Row w v P) (hq : PrbRow w vq Q) (hl : P.length ≤ 1048576) (hx : Hid (∀ x ∈ P, x.length ≤ 1048576)) :
    Calls Tryd.prog 27 #[.int .i64 ri, .int .i64 fa, v, vq] w fun e w' => PAnsH w' w.heap.size (plB ri fa P Q) ri fa (plV ri fa P Q).2 (plV ri fa P Q).1 e ∧ Below w.heap.size w w' := by
  have HNH : Hid (∀ W, Below w.heap.size w W → Calls Tryd.prog 11 #[.int .i64 ri, .int .i64 fa, v] W fun e w' => HAns w' W.heap.size (newB ri fa P) ri fa (newL P) e ∧ Below W.heap.size W w') := fun W hW => sNewHealth_any ri fa v P W (hr.kept hW) hl hx
  have HTP : Hid (∀ (M : List HosT) u n fi W, nmL M = P → HstRow W u M → Calls Tryd.prog 23 #[HeaV ri fa u, .agg #[.int .i64 n, .bool fi]] W fun e w' => TAns w' W.heap.size (tkB ri fa M n) (tkC ri fa M n.toNat fi) ri fa (tkL ri fa M n.toNat fi) e ∧ Below W.heap.size W w') := fun M u n fi W hn h => sTakeProbe_any ri fa u M n fi W h (by rw [← nmL_length, hn]; exact hl) (fun x hxm => hx.out x.1 (by rw [← hn]; exact List.mem_map.2 ⟨x, hxm, rfl⟩))
  have HO1 : Hid (newB ri fa P = false → plB ri fa P Q = false) := pl_off1
  have HO2 : Hid (¬ Q.length ≤ 200 → plB ri fa P Q = false) := pl_off2
  have HO3 : Hid (plF ri fa (newL P) 0 Q = none → plB ri fa P Q = false) := pl_off3
  have HON : Hid (∀ M c, newB ri fa P = true → Q.length ≤ 200 → plF ri fa (newL P) 0 Q = some (M, c) → plB ri fa P Q = true ∧ plV ri fa P Q = (M, c)) := fun M c h1 h2 h3 => pl_on h1 h2 h3
  obtain ⟨va, vc, rfl, _, hvm, _⟩ := row_value hr
  obtain ⟨qa, qc, rfl, hqc, hqm, HROW⟩ := prb_value hq
  obtain ⟨W0, hW0⟩ : ∃ W0, W0 = w.alloc (.cells #[.int .i64 0, .int .i64 0, .slice none 0 0] 26) := ⟨_, rfl⟩
  have hb0 : Below w.heap.size w W0 := by rw [hW0]; exact (Below.refl w.heap.size w).alloc (Nat.le_refl _) _
  have hz0 : W0.heap.size = w.heap.size + 1 := by rw [hW0]; simp
  have HX0 : Hid (W0.heap[w.heap.size]? = some (.cells #[.int .i64 0, .int .i64 0, .slice none 0 0] 26)) := by rw [hW0]; exact hst_new _ _
  have HW0 : Hid (w.alloc (.cells #[.int .i64 0, .int .i64 0, .slice none 0 0] 26) = W0) := hW0.symm
  clear hW0 hr hq hx
  cases hnb : newB ri fa P with
  | false =>
    rw [HO1.out hnb]
    rw [hnb] at HNH
    go_enter Tryd.func27, Tryd.ntmps27
    go_wp2_with fail
    rw [HW0.out]
    refine (HNH.out _ hb0).mono ?_
    rintro e w1 ⟨⟨u1, rfl, ho1⟩, hb1⟩
    obtain ⟨a1, c1, hu1, _⟩ := ho1.shape
    subst hu1
    unfold HeaV
    have hx1 : w1.heap[w.heap.size]? = some (.cells #[.int .i64 0, .int .i64 0, .slice none 0 0] 26) := (hb1.block _ (by omega)).trans HX0.out
    have hbw1 := hb0.trans (hb1.mono hb0.size)
    obtain ⟨W2, hW2⟩ : ∃ W2, W2 = w1.alloc (.cells #[.int .i64 0, .int .i64 0, .slice a1 0 c1] 26) := ⟨_, rfl⟩
    have hb12 : Below w1.heap.size w1 W2 := by rw [hW2]; exact (Below.refl _ _).alloc (Nat.le_refl _) _
    have hs1 := hb1.size
    have HX2 : Hid (W2.heap[w.heap.size]? = some (.cells #[.int .i64 0, .int .i64 0, .slice none 0 0] 26)) := (hb12.block _ (by omega)).trans hx1
    have hbw2 := hbw1.trans (hb12.mono hbw1.size)
    obtain ⟨⟨d0, d1, d2⟩, ⟨z0, z1, z2⟩⟩ := hst_cells HX2.out
    have HW2 : Hid (w1.alloc (.cells #[.int .i64 0, .int .i64 0, .slice a1 0 c1] 26) = W2) := hW2.symm
    clear ho1 hb1 hx1 hW2 hb12 hbw1
    go_wp2_with (rw [HW2.out])
    (try simp only [Exit.inBlock, Exit.then])
    refine bodyPost_ret (results_hea_tt rfl _ _ w.heap.size 26 #[.int .i64 0, .int .i64 0, .slice none 0 0] (0, 0) _ (.int .i64 0) (.bool false) rfl rfl rfl ?_ Tryd.underlying26 rfl (by kernel_rfl)) rfl ⟨pans_off _ _ _ _ _ _, ?_⟩
    · exact put3h_heap HX2.out
    · exact put3h_below hbw2 (Nat.le_refl _) _ _ _
  | true =>
    rw [hnb] at HNH
    have hgood : goodH ri fa (newL P) = true := by rw [new_good]; exact hnb
    by_cases hq200 : (200 : Int) < (Q.length : Int)
    · rw [HO2.out (by omega)]
      go_enter Tryd.func27, Tryd.ntmps27
      go_wp2_with fail
      rw [HW0.out]
      refine (HNH.out _ hb0).mono ?_
      rintro e w1 ⟨⟨u1, rfl, ho1⟩, hb1⟩
      obtain ⟨a1, c1, hu1, _⟩ := ho1.shape
      subst hu1
      unfold HeaV
      have hx1 : w1.heap[w.heap.size]? = some (.cells #[.int .i64 0, .int .i64 0, .slice none 0 0] 26) := (hb1.block _ (by omega)).trans HX0.out
      have hbw1 := hb0.trans (hb1.mono hb0.size)
      obtain ⟨W2, hW2⟩ : ∃ W2, W2 = w1.alloc (.cells #[.int .i64 ri, .int .i64 fa, .slice a1 (newL P).length c1] 26) := ⟨_, rfl⟩
      have hb12 : Below w1.heap.size w1 W2 := by rw [hW2]; exact (Below.refl _ _).alloc (Nat.le_refl _) _
      have hs1 := hb1.size
      have HX2 : Hid (W2.heap[w.heap.size]? = some (.cells #[.int .i64 0, .int .i64 0, .slice none 0 0] 26)) := (hb12.block _ (by omega)).trans hx1
      have hbw2 := hbw1.trans (hb12.mono hbw1.size)
      obtain ⟨⟨d0, d1, d2⟩, ⟨z0, z1, z2⟩⟩ := hst_cells HX2.out
      have HW2 : Hid (w1.alloc (.cells #[.int .i64 ri, .int .i64 fa, .slice a1 (newL P).length c1] 26) = W2) := hW2.symm
      clear ho1 hb1 hx1 hW2 hb12 hbw1
      go_wp2_with (rw [HW2.out])
      (try simp only [Exit.inBlock, Exit.then])
      refine bodyPost_ret (results_hea_tt rfl _ _ w.heap.size 26 #[.int .i64 0, .int .i64 0, .slice none 0 0] (0, 0) _ (.int .i64 0) (.bool false) rfl rfl rfl ?_ Tryd.underlying26 rfl (by kernel_rfl)) rfl ⟨pans_off _ _ _ _ _ _, ?_⟩
      · exact put3h_heap HX2.out
      · exact put3h_below hbw2 (Nat.le_refl _) _ _ _
    · have hq2 : Q.length ≤ 200 := by omega
      have HDN : Hid (∀ M c, plF ri fa (newL P) 0 Q = some (M, c) → plB ri fa P Q = true ∧ plV ri fa P Q = (M, c)) := fun M c h => HON.out M c hnb hq2 h
      have HPL : Hid (∀ k (hk : k < Q.length) M c, plF ri fa (newL P) 0 (Q.take k) = some (M, c) → inB Q[k].1 0 ((M.length : Int) - 1) = false → plB ri fa P Q = false) := fun k hk M c h hi => HO3.out (plF_stop hk h hi)
      clear HO1 HO2 HO3 HON
      go_enter Tryd.func27, Tryd.ntmps27
      go_wp2_with fail
      rw [HW0.out]
      refine (HNH.out _ hb0).mono ?_
      rintro e w1 ⟨⟨u1, rfl, ho1⟩, hb1⟩
      obtain ⟨a1, c1, hu1, _⟩ := ho1.shape
      subst hu1
      unfold HeaV
      have hx1 : w1.heap[w.heap.size]? = some (.cells #[.int .i64 0, .int .i64 0, .slice none 0 0] 26) := (hb1.block _ (by omega)).trans HX0.out
      have hbw1 := hb0.trans (hb1.mono hb0.size)
      have hs1 := hb1.size
      obtain ⟨W2, hW2⟩ : ∃ W2, W2 = w1.alloc (.cells #[.int .i64 ri, .int .i64 fa, .slice a1 (newL P).length c1] 26) := ⟨_, rfl⟩
      obtain ⟨g11, hg11⟩ : ∃ g, g = w1.heap.size := ⟨_, rfl⟩
      have hb12 : Below w1.heap.size w1 W2 := by rw [hW2]; exact (Below.refl _ _).alloc (Nat.le_refl _) _
      have HX2 : Hid (W2.heap[w.heap.size]? = some (.cells #[.int .i64 0, .int .i64 0, .slice none 0 0] 26)) := (hb12.block _ (by omega)).trans hx1
      have HB2 : Hid (W2.heap[g11]? = some (.cells #[.int .i64 ri, .int .i64 fa, .slice a1 (newL P).length c1] 26)) := by rw [hW2, hg11]; exact hst_new _ _
      have HN2 : Hid ((Value.slice a1 (newL P).length c1).ownBlock ≠ some g11) := fun h => by have := (ho1.lt _ h).2; omega
      have HOW2 : Hid (OwnH W2 (w.heap.size + 1) (.slice a1 (newL P).length c1) (newL P)) := by
        have h := ho1.kept hb12
        rw [hz0] at h
        exact h
      have hbw2 := hbw1.trans (hb12.mono hbw1.size)
      have hgw : w.heap.size + 1 ≤ g11 := by omega
      have HW2 : Hid (w1.alloc (.cells #[.int .i64 ri, .int .i64 fa, .slice a1 (newL P).length c1] 26) = W2) := hW2.symm
      have HG11 : Hid (w1.heap.size = g11) := hg11.symm
      clear ho1 hb1 hx1 hW2 hb12 hbw1 hg11 hs1 HX0 HW0 hb0 hz0 HNH
      go_wp2_with fail
      rw [HW2.out, HG11.out]
      clear HW2 HG11
      go_loopw [13, 36] (fun cv i wr => ∃ (k : Nat) (M : List HosT) (c : Int) (u : Value), k ≤ Q.length ∧ i = .int .i64 (k : Int) ∧ cv = .int .i64 c ∧ Hid (plF ri fa (newL P) 0 (Q.take k) = some (M, c) ∧ goodH ri fa M = true ∧ nmL M = P) ∧ Hid (wr.heap[w.heap.size]? = some (.cells #[.int .i64 0, .int .i64 0, .slice none 0 0] 26)) ∧ Hid (wr.heap[g11]? = some (.cells #[.int .i64 ri, .int .i64 fa, u] 26)) ∧ Hid (OwnH wr (w.heap.size + 1) u M ∧ u.ownBlock ≠ some g11) ∧ Below w.heap.size w wr) (fun _ i _ => Q.length - (intOf i).toNat)
      case atStart => exact ⟨0, newL P, 0, _, Nat.zero_le _, rfl, rfl, ⟨by simp [plF], hgood, newL_names P⟩, HX2, HB2, ⟨HOW2.out, HN2.out⟩, hbw2⟩
      case round =>
        obtain ⟨k, M, c, u, hk, rfl, rfl, HP, HX, HB, HO, hb⟩ := hrel
        clear HX2 HB2 HN2 HOW2 hbw2
        have hcb := plF_length _ _ _ _ _ HP.out.1
        rw [List.length_take] at hcb
        have hc0 : 0 ≤ c ∧ c ≤ 200 := by omega
        clear hcb
        obtain ⟨ua, uc, hu, _⟩ := HO.out.1.shape
        subst hu
        obtain ⟨⟨b0, b1, b2⟩, ⟨f0, f1, f2⟩⟩ := hst_cells HB.out
        have hXl : w.heap.size < wr.heap.size := (Array.getElem?_eq_some_iff.1 HX.out).1
        have hBl : g11 < wr.heap.size := (Array.getElem?_eq_some_iff.1 HB.out).1
        by_cases hlt : k < Q.length
        · obtain ⟨b, o, ha, hbl, hcel⟩ := HROW.out (by omega)
          have hcx := (hcel k hlt).kept hb
          unfold PrbAt at hcx
          obtain ⟨m0, m1⟩ := hcx
          have HST : Hid (inB (Q[k]'hlt).1 0 ((M.length : Int) - 1) = false → plB ri fa P Q = false) := fun h => HPL.out k hlt M c HP.out.1 h
          have HNX : Hid (inB (Q[k]'hlt).1 0 ((M.length : Int) - 1) = true → plF ri fa (newL P) 0 (Q.take (k + 1)) = some (tkL ri fa M (Q[k]'hlt).1.toNat (Q[k]'hlt).2, if tkC ri fa M (Q[k]'hlt).1.toNat (Q[k]'hlt).2 = true then c + 1 else c)) := fun h => plF_next hlt HP.out.1 h
          have HTB : Hid (∀ n, tkB ri fa M n = inB n 0 ((M.length : Int) - 1)) := fun n => by unfold tkB; rw [HP.out.2.1]; rfl
          have HGN : Hid (∀ j f, goodH ri fa (tkL ri fa M j f) = true ∧ nmL (tkL ri fa M j f) = P) := fun j f => ⟨good_tk j f HP.out.2.1, by rw [nm_tk]; exact HP.out.2.2⟩
          have htk : (k : Int) ≤ 200 := by omega
          obtain ⟨x, hxe⟩ : ∃ x, x = Q[k]'hlt := ⟨_, rfl⟩
          rw [← hxe] at m0 m1 HST HNX
          obtain ⟨n, fi⟩ := x
          simp only at m0 m1 HST HNX
          obtain ⟨V1, hV1⟩ : ∃ V1, V1 = wr.alloc (.cells #[.int .i64 n, .bool fi] 45) := ⟨_, rfl⟩
          have hbV : Below wr.heap.size wr V1 := by rw [hV1]; exact (Below.refl _ _).alloc (Nat.le_refl _) _
          have hnV : V1.heap[wr.heap.size]? = some (.cells #[.int .i64 n, .bool fi] 45) := by rw [hV1]; exact hst_new _ _
          obtain ⟨i0, i1⟩ := prb_cells hnV
          obtain ⟨⟨i2, i3, i4⟩, _⟩ := hst_cells ((hbV.block g11 hBl).trans HB.out)
          have HCA : Hid (Calls Tryd.prog 23 #[.agg #[.int .i64 ri, .int .i64 fa, .slice ua M.length uc], .agg #[.int .i64 n, .bool fi]] V1 fun e w' => TAns w' V1.heap.size (tkB ri fa M n) (tkC ri fa M n.toNat fi) ri fa (tkL ri fa M n.toNat fi) e ∧ Below V1.heap.size V1 w') := HTP.out M _ n fi V1 HP.out.2.2 (HO.out.1.row.kept hbV)
          rw [HTB.out n] at HCA
          have hsV : V1.heap.size = wr.heap.size + 1 := by rw [hV1]; simp
          have HV1 : Hid (wr.alloc (.cells #[.int .i64 n, .bool fi] 45) = V1) := hV1.symm
          have HXV : Hid (V1.heap[w.heap.size]? = some (.cells #[.int .i64 0, .int .i64 0, .slice none 0 0] 26)) := (hbV.block _ hXl).trans HX.out
          have HBV : Hid (V1.heap[g11]? = some (.cells #[.int .i64 ri, .int .i64 fa, .slice ua M.length uc] 26)) := (hbV.block _ hBl).trans HB.out
          have hbwV := hb.trans (hbV.mono hb.size)
          rw [ha]
          clear hcel hxe hV1 hbV hnV HX HB HO HP HTP HROW HTB
          cases hin : inB n 0 ((M.length : Int) - 1) with
          | false =>
            rw [hin] at HCA
            have HR : Hid (plB ri fa P Q = false) := HST.out hin
            clear HNX HST HGN hin
            go_wp2_with (rw [HV1.out])
            refine HCA.out.mono ?_
            rintro e w5 ⟨⟨v5, rfl, ho5⟩, hb5⟩
            obtain ⟨a5, c5, hv5, _⟩ := ho5.shape
            subst hv5
            unfold HeaV
            have hx5 : w5.heap[w.heap.size]? = some (.cells #[.int .i64 0, .int .i64 0, .slice none 0 0] 26) := (hb5.block _ (by omega)).trans HXV.out
            have hbw5 := hbwV.trans (hb5.mono hbwV.size)
            have hs5 := hb5.size
            obtain ⟨V6, hV6⟩ : ∃ V6, V6 = w5.alloc (.cells #[.int .i64 0, .int .i64 0, .slice a5 0 c5] 26) := ⟨_, rfl⟩
            have hb56 : Below w5.heap.size w5 V6 := by rw [hV6]; exact (Below.refl _ _).alloc (Nat.le_refl _) _
            have HX6 : Hid (V6.heap[w.heap.size]? = some (.cells #[.int .i64 0, .int .i64 0, .slice none 0 0] 26)) := (hb56.block _ (by omega)).trans hx5
            have hbw6 := hbw5.trans (hb56.mono hbw5.size)
            obtain ⟨⟨d0, d1, d2⟩, ⟨z0, z1, z2⟩⟩ := hst_cells HX6.out
            have HV6 : Hid (w5.alloc (.cells #[.int .i64 0, .int .i64 0, .slice a5 0 c5] 26) = V6) := hV6.symm
            clear ho5 hb5 hx5 hbw5 hV6 hb56 HXV HBV hbwV HCA b0 b1 b2 f0 f1 f2 m0 m1 i0 i1 i2 i3 i4
            go_wp2_with (rw [HV6.out])
            (try simp only [Exit.inBlock, Exit.then])
            refine bodyPost_ret (results_hea_tt rfl _ _ w.heap.size 26 #[.int .i64 0, .int .i64 0, .slice none 0 0] (0, 0) _ (.int .i64 0) (.bool false) rfl rfl rfl ?_ Tryd.underlying26 rfl (by kernel_rfl)) rfl ⟨by rw [HR.out]; exact pans_off _ _ _ _ _ _, ?_⟩
            · exact put3h_heap HX6.out
            · exact put3h_below hbw6 (Nat.le_refl _) _ _ _
          | true =>
            rw [hin] at HCA
            have HNX2 := HNX.out hin
            have hgn := HGN.out n.toNat fi
            obtain ⟨M2, hM2⟩ : ∃ M2, M2 = tkL ri fa M n.toNat fi := ⟨_, rfl⟩
            obtain ⟨bc, hbc⟩ : ∃ bc, bc = tkC ri fa M n.toNat fi := ⟨_, rfl⟩
            rw [← hM2, ← hbc] at HNX2 HCA
            rw [← hM2] at hgn
            have HP2 : Hid (plF ri fa (newL P) 0 (Q.take (k + 1)) = some (M2, if bc = true then c + 1 else c) ∧ goodH ri fa M2 = true ∧ nmL M2 = P) := ⟨HNX2, hgn.1, hgn.2⟩
            clear HNX HST HGN hin HNX2 hgn hM2 hbc
            go_wp2_with (rw [HV1.out])
            refine HCA.out.mono ?_
            rintro e w5 ⟨⟨v5, rfl, ho5⟩, hb5⟩
            obtain ⟨a5, c5, hv5, _⟩ := ho5.shape
            subst hv5
            unfold HeaV
            have hx5 : w5.heap[w.heap.size]? = some (.cells #[.int .i64 0, .int .i64 0, .slice none 0 0] 26) := (hb5.block _ (by omega)).trans HXV.out
            have hy5 : w5.heap[g11]? = some (.cells #[.int .i64 ri, .int .i64 fa, .slice ua M.length uc] 26) := (hb5.block _ (by omega)).trans HBV.out
            have hbw5 := hbwV.trans (hb5.mono hbwV.size)
            have hs5 := hb5.size
            obtain ⟨V6, hV6⟩ : ∃ V6, V6 = w5.alloc (.cells #[.int .i64 ri, .int .i64 fa, .slice a5 M2.length c5] 26) := ⟨_, rfl⟩
            have hb56 : Below w5.heap.size w5 V6 := by rw [hV6]; exact (Below.refl _ _).alloc (Nat.le_refl _) _
            have hn6 : V6.heap[w5.heap.size]? = some (.cells #[.int .i64 ri, .int .i64 fa, .slice a5 M2.length c5] 26) := by rw [hV6]; exact hst_new _ _
            have hx6 := (hb56.block _ (by omega)).trans hx5
            have hy6 := (hb56.block _ (by omega)).trans hy5
            have hbw6 := hbw5.trans (hb56.mono hbw5.size)
            have HV6 : Hid (w5.alloc (.cells #[.int .i64 ri, .int .i64 fa, .slice a5 M2.length c5] 26) = V6) := hV6.symm
            obtain ⟨V7, hV7⟩ : ∃ V7, V7 = put3h V6 g11 (.int .i64 ri) (.int .i64 fa) (.slice a5 M2.length c5) := ⟨_, rfl⟩
            have HX7 : Hid (V7.heap[w.heap.size]? = some (.cells #[.int .i64 0, .int .i64 0, .slice none 0 0] 26)) := by rw [hV7, put3h_kpt (by omega)]; exact hx6
            have HB7 : Hid (V7.heap[g11]? = some (.cells #[.int .i64 ri, .int .i64 fa, .slice a5 M2.length c5] 26)) := by rw [hV7]; exact put3h_heap hy6
            have HN7 : Hid ((Value.slice a5 M2.length c5).ownBlock ≠ some g11) := fun h => by have := (ho5.lt _ h).1; omega
            have HO7 : Hid (OwnH V7 (w.heap.size + 1) (.slice a5 M2.length c5) M2 ∧ (Value.slice a5 M2.length c5).ownBlock ≠ some g11) := by
              refine ⟨?_, HN7.out⟩
              rw [hV7]
              exact OwnH.base (OwnH.kpt (ho5.kept hb56) (kpt_put3h V6 g11 _ _ _) (fun g hg e => HN7.out (by rw [← e]; exact hg))) (by omega)
            have hbw7 : Below w.heap.size w V7 := by rw [hV7]; exact put3h_below hbw6 (by omega) _ _ _
            have HV7 : Hid (((V6.setCell ⟨g11, 0, none⟩ (.int .i64 ri)).setCell ⟨g11, 1, none⟩ (.int .i64 fa)).setCell ⟨g11, 2, none⟩ (.slice a5 M2.length c5) = V7) := by rw [hV7]; rfl
            obtain ⟨⟨d0, d1, d2⟩, ⟨z0, z1, z2⟩⟩ := hst_cells hy6
            obtain ⟨⟨e0, e1, e2⟩, _⟩ := hst_cells hn6
            clear ho5 hb5 hx5 hy5 hbw5 hV6 hb56 hn6 hx6 hy6 hbw6 hV7 HN7 HXV HBV hbwV HCA b0 b1 b2 f0 f1 f2 m0 m1 i0 i1 i2 i3 i4
            cases bc with
            | false =>
              go_wp2_with (first | rw [HV6.out] | rw [HV7.out])
              (try rw [HV7.out])
              go_roundw
              case rel => exact ⟨k + 1, M2, c, _, by omega, by go_num, rfl, HP2, HX7, HB7, HO7, hbw7⟩
              case measure => simp [intOf]; omega
            | true =>
              go_wp2_with (first | rw [HV6.out] | rw [HV7.out])
              (try rw [HV7.out])
              go_roundw
              case rel => exact ⟨k + 1, M2, c + 1, _, by omega, by go_num, by go_num, HP2, HX7, HB7, HO7, hbw7⟩
              case measure => simp [intOf]; omega
        · have hfin : Q.take k = Q := List.take_of_length_le (by omega)
          have HE : Hid (plB ri fa P Q = true ∧ plV ri fa P Q = (M, c)) := HDN.out M c (by have h := HP.out.1; rw [hfin] at h; exact h)
          obtain ⟨⟨d0, d1, d2⟩, ⟨z0, z1, z2⟩⟩ := hst_cells HX.out
          have HOW : Hid (OwnH wr (w.heap.size + 1) (.slice ua M.length uc) M) := HO.out.1
          clear hfin
          go_wp2_with fail
          (try simp only [Exit.inBlock, Exit.then])
          refine bodyPost_ret (results_hea_tt rfl _ _ w.heap.size 26 #[.int .i64 ri, .int .i64 fa, .slice ua M.length uc] (0, 0) _ (.int .i64 c) (.bool true) rfl rfl rfl ?_ Tryd.underlying26 rfl (by kernel_rfl)) rfl ⟨?_, ?_⟩
          · exact put3h_heap HX.out
          · rw [HE.out.1, HE.out.2]
            exact ⟨.slice ua M.length uc, rfl, OwnH.base (OwnH.kpt HOW.out (kpt_put3h wr w.heap.size _ _ _) (fun g hg e => by have := (HOW.out.lt g hg).1; omega)) (by omega)⟩
          · exact put3h_below hb (Nat.le_refl _) _ _ _
end Go.Proofs.YtoopfmebpjojiaaDoor
