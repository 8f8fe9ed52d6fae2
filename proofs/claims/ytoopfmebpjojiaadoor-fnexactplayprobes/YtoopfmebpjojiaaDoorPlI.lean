import Derived.Test.YtoopfmebpjojiaaDoorPlS
namespace Go.Proofs.YtoopfmebpjojiaaDoor
open Go.RowKit

theorem hl_rw (L : List HosT) : hlL L (rwL L) = L := by
  apply List.ext_getElem
  · simp [hlL, rwL]
  · intro j h1 h2
    simp [hlL, rwL]
theorem hl_bound {ri fa : Int} {M : List HosT} {R : List Int} (h : goodH ri fa (hlL M R) = true) (hR : R.length = M.length) {k : Nat} (hk : k < M.length) : 0 ≤ R.getD k 0 ∧ R.getD k 0 ≤ 1000 := by
  obtain ⟨h1, h2, _, hgr, _⟩ := good_parts h
  have hk2 : k < (hlL M R).length := by rw [hlL_length M R hR]; exact hk
  have hrow := hgr _ (List.getElem_mem hk2)
  rw [hl_at hk hR] at hrow
  have hml : mostH ri fa M[k].2.1 ≤ 10 := by unfold mostH; split <;> omega
  rw [rgetD_at (by omega : k < R.length)]
  simp only at hrow
  omega
theorem new_bound {P : List (List UInt8)} (h : Hid (∀ x ∈ P, x.length ≤ 1048576)) : Hid (∀ x ∈ newL P, x.1.length ≤ 1048576) := fun x hx => by
  obtain ⟨n, hn, rfl⟩ := List.mem_map.1 hx
  exact h n hn

set_option maxRecDepth 20000 in
set_option maxHeartbeats 16000000 in
theorem iPlayProbes_any (ri fa : Int) (v vq : Value) (P : List (List UInt8)) (Q : List PrbT) (w : World) (hr : Row w v P) (hq : PrbRow w vq Q) (hl : P.length ≤ 1048576) (hx : Hid (∀ x ∈ P, x.length ≤ 1048576)) (hE : Env w) :
    Calls Tryd.prog 29 #[.int .i64 ri, .int .i64 fa, v, vq] w fun e w' => PAnsH w' w.heap.size (plB ri fa P Q) ri fa (plV ri fa P Q).2 (plV ri fa P Q).1 e ∧ Below w.heap.size w w' := by
  have HNH : Hid (∀ W, Below w.heap.size w W → Calls Tryd.prog 13 #[.int .i64 ri, .int .i64 fa, v] W fun e w' => HAns w' W.heap.size (newB ri fa P) ri fa (newL P) e ∧ Below W.heap.size W w') := fun W hW => iNewHealth_any ri fa v P W (hr.kept hW) hx (hE.below hW)
  have HO1 : Hid (newB ri fa P = false → plB ri fa P Q = false) := pl_off1
  have HO2 : Hid (¬ Q.length ≤ 200 → plB ri fa P Q = false) := pl_off2
  have HO3 : Hid (plF ri fa (newL P) 0 Q = none → plB ri fa P Q = false) := pl_off3
  have HON : Hid (∀ M c, newB ri fa P = true → Q.length ≤ 200 → plF ri fa (newL P) 0 Q = some (M, c) → plB ri fa P Q = true ∧ plV ri fa P Q = (M, c)) := fun M c h1 h2 h3 => pl_on h1 h2 h3
  have HXN := new_bound hx
  obtain ⟨va, vc, rfl, _, hvm, _⟩ := row_value hr
  obtain ⟨qa, qc, rfl, hqc, hqm, HROW⟩ := prb_value hq
  obtain ⟨W0, hW0⟩ : ∃ W0, W0 = w.alloc (.cells #[.int .i64 0, .int .i64 0, .slice none 0 0] 26) := ⟨_, rfl⟩
  have hb0 : Below w.heap.size w W0 := by rw [hW0]; exact (Below.refl w.heap.size w).alloc (Nat.le_refl _) _
  have hz0 : W0.heap.size = w.heap.size + 1 := by rw [hW0]; simp
  have HX0 : Hid (W0.heap[w.heap.size]? = some (.cells #[.int .i64 0, .int .i64 0, .slice none 0 0] 26)) := by rw [hW0]; exact hst_new _ _
  have HW0 : Hid (w.alloc (.cells #[.int .i64 0, .int .i64 0, .slice none 0 0] 26) = W0) := hW0.symm
  clear hW0 hr hq hx
  cases hnb : newB ri fa P with
  | false =>
    rw [HO1.out hnb]
    rw [hnb] at HNH
    go_enter Tryd.func29, Tryd.ntmps29
    go_wp2_with fail
    rw [HW0.out]
    refine (HNH.out _ hb0).mono ?_
    rintro e w1 ⟨⟨u1, rfl, ho1⟩, hb1⟩
    obtain ⟨a1, c1, hu1, _⟩ := ho1.shape
    subst hu1
    unfold HeaV
    have hx1 : w1.heap[w.heap.size]? = some (.cells #[.int .i64 0, .int .i64 0, .slice none 0 0] 26) := (hb1.block _ (by omega)).trans HX0.out
    have hbw1 := hb0.trans (hb1.mono hb0.size)
    obtain ⟨W2, hW2⟩ : ∃ W2, W2 = w1.alloc (.cells #[.int .i64 0, .int .i64 0, .slice a1 0 c1] 26) := ⟨_, rfl⟩
    have hb12 : Below w1.heap.size w1 W2 := by rw [hW2]; exact (Below.refl _ _).alloc (Nat.le_refl _) _
    have hs1 := hb1.size
    have HX2 : Hid (W2.heap[w.heap.size]? = some (.cells #[.int .i64 0, .int .i64 0, .slice none 0 0] 26)) := (hb12.block _ (by omega)).trans hx1
    have hbw2 := hbw1.trans (hb12.mono hbw1.size)
    obtain ⟨⟨d0, d1, d2⟩, ⟨z0, z1, z2⟩⟩ := hst_cells HX2.out
    have HW2 : Hid (w1.alloc (.cells #[.int .i64 0, .int .i64 0, .slice a1 0 c1] 26) = W2) := hW2.symm
    clear ho1 hb1 hx1 hW2 hb12 hbw1
    go_wp2_with (rw [HW2.out])
    (try simp only [Exit.inBlock, Exit.then])
    refine bodyPost_ret (results_hea_tt rfl _ _ w.heap.size 26 #[.int .i64 0, .int .i64 0, .slice none 0 0] (0, 0) _ (.int .i64 0) (.bool false) rfl rfl rfl ?_ Tryd.underlying26 rfl (by kernel_rfl)) rfl ⟨pans_off _ _ _ _ _ _, ?_⟩
    · exact put3h_heap HX2.out
    · exact put3h_below hbw2 (Nat.le_refl _) _ _ _
  | true =>
    rw [hnb] at HNH
    have hgood : goodH ri fa (newL P) = true := by rw [new_good]; exact hnb
    by_cases hq200 : (200 : Int) < (Q.length : Int)
    · rw [HO2.out (by omega)]
      go_enter Tryd.func29, Tryd.ntmps29
      go_wp2_with fail
      rw [HW0.out]
      refine (HNH.out _ hb0).mono ?_
      rintro e w1 ⟨⟨u1, rfl, ho1⟩, hb1⟩
      obtain ⟨a1, c1, hu1, _⟩ := ho1.shape
      subst hu1
      unfold HeaV
      have hx1 : w1.heap[w.heap.size]? = some (.cells #[.int .i64 0, .int .i64 0, .slice none 0 0] 26) := (hb1.block _ (by omega)).trans HX0.out
      have hbw1 := hb0.trans (hb1.mono hb0.size)
      obtain ⟨W2, hW2⟩ : ∃ W2, W2 = w1.alloc (.cells #[.int .i64 ri, .int .i64 fa, .slice a1 (newL P).length c1] 26) := ⟨_, rfl⟩
      have hb12 : Below w1.heap.size w1 W2 := by rw [hW2]; exact (Below.refl _ _).alloc (Nat.le_refl _) _
      have hs1 := hb1.size
      have HX2 : Hid (W2.heap[w.heap.size]? = some (.cells #[.int .i64 0, .int .i64 0, .slice none 0 0] 26)) := (hb12.block _ (by omega)).trans hx1
      have hbw2 := hbw1.trans (hb12.mono hbw1.size)
      obtain ⟨⟨d0, d1, d2⟩, ⟨z0, z1, z2⟩⟩ := hst_cells HX2.out
      have HW2 : Hid (w1.alloc (.cells #[.int .i64 ri, .int .i64 fa, .slice a1 (newL P).length c1] 26) = W2) := hW2.symm
      clear ho1 hb1 hx1 hW2 hb12 hbw1
      go_wp2_with (rw [HW2.out])
      (try simp only [Exit.inBlock, Exit.then])
      refine bodyPost_ret (results_hea_tt rfl _ _ w.heap.size 26 #[.int .i64 0, .int .i64 0, .slice none 0 0] (0, 0) _ (.int .i64 0) (.bool false) rfl rfl rfl ?_ Tryd.underlying26 rfl (by kernel_rfl)) rfl ⟨pans_off _ _ _ _ _ _, ?_⟩
      · exact put3h_heap HX2.out
      · exact put3h_below hbw2 (Nat.le_refl _) _ _ _
    · have hq2 : Q.length ≤ 200 := by omega
      have HDN : Hid (∀ M c, plF ri fa (newL P) 0 Q = some (M, c) → plB ri fa P Q = true ∧ plV ri fa P Q = (M, c)) := fun M c h => HON.out M c hnb hq2 h
      have HPL : Hid (∀ k (hk : k < Q.length) M c, plF ri fa (newL P) 0 (Q.take k) = some (M, c) → inB Q[k].1 0 ((M.length : Int) - 1) = false → plB ri fa P Q = false) := fun k hk M c h hi => HO3.out (plF_stop hk h hi)
      clear HO1 HO2 HO3 HON
      obtain ⟨_, _, hlen12, _, _⟩ := good_parts hgood
      have hnl : (newL P).length ≤ 1048576 := by rw [newL_length]; exact hl
      have HNU : Hid (∀ u n W, HstRow W u (newL P) → Calls Tryd.prog 52 #[HeaV ri fa u, .int .i64 n] W fun e w' => e = .returned (.bool (inB n 0 (((newL P).length : Int) - 1))) ∧ Below W.heap.size W w') := fun u n W h => isNumberIn_any ri fa n u _ W h hnl
      have HWC : Hid (∀ u W, HstRow W u (newL P) → Calls Tryd.prog 53 #[HeaV ri fa u] W fun e w' => (∃ gh gr ch, e = .returned (WatV ri fa (.slice (some ⟨gh, 0, none⟩) (newL P).length ch) (.slice (some ⟨gr, 0, none⟩) (newL P).length (newL P).length)) ∧ (newL P).length ≤ ch ∧ ch ≤ maxLen ∧ W.heap.size ≤ gh ∧ W.heap.size ≤ gr ∧ gr ≠ gh ∧ HoRow w' gh (newL P) ∧ ZSRow w' gr (rwL (newL P))) ∧ Below W.heap.size W w') := fun u W h => watchOf_any ri fa u _ W h hnl (by omega) HXN
      have HTA : Hid (∀ (M : List HosT) (R : List Int) (k : Nat) (fi : Bool) gh gr ch W, M.length = (newL P).length → R.length = M.length → goodH ri fa (hlL M R) = true → k < (newL P).length → HoRow W gh M → ZSRow W gr R → gr ≠ gh → ((newL P).length ≤ ch ∧ ch ≤ maxLen) → Calls Tryd.prog 54 #[WatV ri fa (.slice (some ⟨gh, 0, none⟩) (newL P).length ch) (.slice (some ⟨gr, 0, none⟩) (newL P).length (newL P).length), .agg #[.int .i64 (k : Int), .bool fi]] W fun e w' => e = .returned (.bool (wtL ri fa M R k fi).2.2) ∧ HoRow w' gh (wtL ri fa M R k fi).1 ∧ ZSRow w' gr (wtL ri fa M R k fi).2.1 ∧ Kpt W w' (fun b => b = gh ∨ b = gr)) := fun M R k fi gh gr ch W hM hR hg hk h1 h2 h3 h4 => by
        rw [← hM] at hk h4 hnl ⊢
        exact take_any ri fa M R k fi gh gr ch M.length W h1 h2 h3 hk hR h4 ⟨Nat.le_refl _, by unfold maxLen; omega⟩ (hl_bound hg hR hk)
      have HHE : Hid (∀ (M : List HosT) (R : List Int) gh gr ch W, M.length = (newL P).length → R.length = M.length → HoRow W gh M → ZSRow W gr R → gr ≠ gh → ((newL P).length ≤ ch ∧ ch ≤ maxLen) → Calls Tryd.prog 55 #[WatV ri fa (.slice (some ⟨gh, 0, none⟩) (newL P).length ch) (.slice (some ⟨gr, 0, none⟩) (newL P).length (newL P).length)] W fun e w' => e = .returned (HeaV ri fa (.slice (some ⟨gh, 0, none⟩) (newL P).length ch)) ∧ HoRow w' gh (hlL M R) ∧ Kpt W w' (fun b => b = gh)) := fun M R gh gr ch W hM hR h1 h2 h3 h4 => by
        rw [← hM] at h4 hnl ⊢
        exact health_any ri fa M R gh gr ch M.length W h1 h2 h3 hR hnl h4 ⟨Nat.le_refl _, by unfold maxLen; omega⟩
      have HPS : Hid (plF ri fa (newL P) 0 (Q.take 0) = some (hlL (newL P) (rwL (newL P)), 0) ∧ goodH ri fa (hlL (newL P) (rwL (newL P))) = true ∧ (newL P).length = (newL P).length ∧ (rwL (newL P)).length = (newL P).length) := ⟨by rw [hl_rw]; simp [plF], by rw [hl_rw]; exact hgood, rfl, rwL_length _⟩
      obtain ⟨n0, hn0⟩ : ∃ n0, n0 = (newL P).length := ⟨_, rfl⟩
      rw [← hn0] at HNU HWC HTA HHE HPS
      have HLL : Hid ((newL P).length = n0) := hn0.symm
      have hn12 : n0 ≤ 12 ∧ 1 ≤ n0 := by omega
      unfold HeaV at HNU HWC HHE
      unfold WatV at HWC HTA HHE
      clear hgood hnb hlen12 hnl HXN hn0
      go_enter Tryd.func29, Tryd.ntmps29
      go_wp2_with fail
      rw [HW0.out]
      refine (HNH.out _ hb0).mono ?_
      rintro e w1 ⟨⟨u1, rfl, ho1⟩, hb1⟩
      obtain ⟨a1, c1, hu1, _⟩ := ho1.shape
      simp only [if_true] at hu1 ho1
      rw [HLL.out] at hu1
      subst hu1
      unfold HeaV
      have hx1 : w1.heap[w.heap.size]? = some (.cells #[.int .i64 0, .int .i64 0, .slice none 0 0] 26) := (hb1.block _ (by omega)).trans HX0.out
      have hbw1 := hb0.trans (hb1.mono hb0.size)
      have hs1 := hb1.size
      obtain ⟨W2, hW2⟩ : ∃ W2, W2 = w1.alloc (.cells #[.int .i64 ri, .int .i64 fa, .slice a1 n0 c1] 26) := ⟨_, rfl⟩
      have hb12 : Below w1.heap.size w1 W2 := by rw [hW2]; exact (Below.refl _ _).alloc (Nat.le_refl _) _
      have HX2 : Hid (W2.heap[w.heap.size]? = some (.cells #[.int .i64 0, .int .i64 0, .slice none 0 0] 26)) := (hb12.block _ (by omega)).trans hx1
      have hB2 : W2.heap[w1.heap.size]? = some (.cells #[.int .i64 ri, .int .i64 fa, .slice a1 n0 c1] 26) := by rw [hW2]; exact hst_new _ _
      have HB2 : Hid (W2.heap[w1.heap.size]? = some (.cells #[.int .i64 ri, .int .i64 fa, .slice a1 n0 c1] 26)) := hB2
      have HLT : Hid (∀ k, (Value.slice a1 n0 c1).ownBlock = some k → w.heap.size + 1 ≤ k ∧ k < w1.heap.size) := fun k h => by have := ho1.lt k h; omega
      have HOW2 : Hid (OwnH W2 (w.heap.size + 1) (.slice a1 n0 c1) (newL P)) := by
        have h := ho1.kept hb12
        rw [hz0] at h
        exact h
      have hbw2 := hbw1.trans (hb12.mono hbw1.size)
      have hs12 : w1.heap.size < W2.heap.size := by rw [hW2]; simp
      obtain ⟨⟨b0, b1, b2⟩, _⟩ := hst_cells hB2
      have HW2 : Hid (w1.alloc (.cells #[.int .i64 ri, .int .i64 fa, .slice a1 n0 c1] 26) = W2) := hW2.symm
      have hsw : w.heap.size < w1.heap.size := by omega
      clear ho1 hb1 hx1 hW2 hb12 hbw1 HX0 HW0 hb0 hz0 HNH hB2 hs1
      go_wp2_with (rw [HW2.out])
      refine (HWC.out _ _ HOW2.out.row).mono ?_
      rintro e w3 ⟨⟨gh, gr, ch, rfl, hc1, hc2, hgh, hgr, hne, hqh, hqr⟩, hb3⟩
      have hx3 : w3.heap[w.heap.size]? = some (.cells #[.int .i64 0, .int .i64 0, .slice none 0 0] 26) := (hb3.block _ (by omega)).trans HX2.out
      have hB3 : w3.heap[w1.heap.size]? = some (.cells #[.int .i64 ri, .int .i64 fa, .slice a1 n0 c1] 26) := (hb3.block _ (by omega)).trans HB2.out
      have hO3 := HOW2.out.kept hb3
      have hbw3 := hbw2.trans (hb3.mono hbw2.size)
      have hs23 : W2.heap.size ≤ w3.heap.size := hb3.size
      have hgw3 : gh < w3.heap.size := hqh.1
      have hrw3 : gr < w3.heap.size := hqr.1
      obtain ⟨W4, hW4⟩ : ∃ W4, W4 = w3.alloc (.cells #[.int .i64 ri, .int .i64 fa, .slice (some ⟨gh, 0, none⟩) n0 ch, .slice (some ⟨gr, 0, none⟩) n0 n0] 79) := ⟨_, rfl⟩
      have hb34 : Below w3.heap.size w3 W4 := by rw [hW4]; exact (Below.refl _ _).alloc (Nat.le_refl _) _
      have HN4 : Hid (W4.heap[w3.heap.size]? = some (.cells #[.int .i64 ri, .int .i64 fa, .slice (some ⟨gh, 0, none⟩) n0 ch, .slice (some ⟨gr, 0, none⟩) n0 n0] 79)) := by rw [hW4]; exact hst_new _ _
      have HX4 : Hid (W4.heap[w.heap.size]? = some (.cells #[.int .i64 0, .int .i64 0, .slice none 0 0] 26)) := (hb34.block _ (by omega)).trans hx3
      have HB4 : Hid (W4.heap[w1.heap.size]? = some (.cells #[.int .i64 ri, .int .i64 fa, .slice a1 n0 c1] 26)) := (hb34.block _ (by omega)).trans hB3
      have HO4 : Hid (OwnH W4 (w.heap.size + 1) (.slice a1 n0 c1) (newL P)) := hO3.kept hb34
      have HQ4 : Hid (HoRow W4 gh (newL P) ∧ ZSRow W4 gr (rwL (newL P))) := ⟨hqh.kept hb34, hqr.kept hb34⟩
      have hbw4 := hbw3.trans (hb34.mono hbw3.size)
      have HW4 : Hid (w3.alloc (.cells #[.int .i64 ri, .int .i64 fa, .slice (some ⟨gh, 0, none⟩) n0 ch, .slice (some ⟨gr, 0, none⟩) n0 n0] 79) = W4) := hW4.symm
      have HCC : Hid (n0 ≤ ch ∧ ch ≤ maxLen) := ⟨hc1, hc2⟩
      have HGB : Hid (W2.heap.size ≤ gh ∧ W2.heap.size ≤ gr ∧ w1.heap.size < W2.heap.size ∧ gh < w3.heap.size ∧ gr < w3.heap.size ∧ gr ≠ gh ∧ w.heap.size < w1.heap.size) := ⟨hgh, hgr, hs12, hgw3, hrw3, hne, hsw⟩
      clear hW4 hb3 hb34 hx3 hB3 hO3 hqh hqr hbw3 hbw2 HX2 HB2 HOW2 HW2 HWC b0 b1 b2 hc1 hc2
      go_wp2_with (rw [HW4.out])
      (try rw [HW4.out])
      clear HW4
      go_loopw [14, 36] (fun cv i wr => ∃ (k : Nat) (M : List HosT) (R : List Int) (c : Int), k ≤ Q.length ∧ i = .int .i64 (k : Int) ∧ cv = .int .i64 c ∧ Hid (plF ri fa (newL P) 0 (Q.take k) = some (hlL M R, c) ∧ goodH ri fa (hlL M R) = true ∧ M.length = n0 ∧ R.length = M.length) ∧ Hid (wr.heap[w.heap.size]? = some (.cells #[.int .i64 0, .int .i64 0, .slice none 0 0] 26)) ∧ Hid (wr.heap[w1.heap.size]? = some (.cells #[.int .i64 ri, .int .i64 fa, .slice a1 n0 c1] 26)) ∧ Hid (wr.heap[w3.heap.size]? = some (.cells #[.int .i64 ri, .int .i64 fa, .slice (some ⟨gh, 0, none⟩) n0 ch, .slice (some ⟨gr, 0, none⟩) n0 n0] 79)) ∧ Hid (OwnH wr (w.heap.size + 1) (.slice a1 n0 c1) (newL P)) ∧ Hid (HoRow wr gh M ∧ ZSRow wr gr R) ∧ Below w.heap.size w wr) (fun _ i _ => Q.length - (intOf i).toNat)
      case atStart => exact ⟨0, newL P, rwL (newL P), 0, Nat.zero_le _, rfl, rfl, ⟨HPS.out.1, HPS.out.2.1, HLL.out, by rw [HPS.out.2.2.2, HLL.out]⟩, HX4, HB4, HN4, HO4, HQ4, hbw4⟩
      case round =>
        obtain ⟨k, M, R, c, hk, rfl, rfl, HP, HX, HB, HN, HO, HQ, hb⟩ := hrel
        clear HX4 HB4 HN4 HO4 HQ4 hbw4 HPS
        have hXl : w.heap.size < wr.heap.size := (Array.getElem?_eq_some_iff.1 HX.out).1
        have hBl : w1.heap.size < wr.heap.size := (Array.getElem?_eq_some_iff.1 HB.out).1
        have hNl : w3.heap.size < wr.heap.size := (Array.getElem?_eq_some_iff.1 HN.out).1
        have hhl : (hlL M R).length = n0 := by rw [hlL_length M R HP.out.2.2.2]; exact HP.out.2.2.1
        by_cases hlt : k < Q.length
        · have hcb := plF_length _ _ _ _ _ HP.out.1
          rw [List.length_take] at hcb
          have hc0 : 0 ≤ c ∧ c ≤ 200 := by omega
          clear hcb
          obtain ⟨b, o, ha, hbl, hcel⟩ := HROW.out (by omega)
          have hcx := (hcel k hlt).kept hb
          unfold PrbAt at hcx
          obtain ⟨m0, m1⟩ := hcx
          have HST : Hid (inB (Q[k]'hlt).1 0 ((n0 : Int) - 1) = false → plB ri fa P Q = false) := fun h => HPL.out k hlt _ c HP.out.1 (by rw [hhl]; exact h)
          have HNX : Hid (inB (Q[k]'hlt).1 0 ((n0 : Int) - 1) = true → plF ri fa (newL P) 0 (Q.take (k + 1)) = some (tkL ri fa (hlL M R) (Q[k]'hlt).1.toNat (Q[k]'hlt).2, if tkC ri fa (hlL M R) (Q[k]'hlt).1.toNat (Q[k]'hlt).2 = true then c + 1 else c)) := fun h => plF_next hlt HP.out.1 (by rw [hhl]; exact h)
          have htk : (k : Int) ≤ 200 := by omega
          obtain ⟨x, hxe⟩ : ∃ x, x = Q[k]'hlt := ⟨_, rfl⟩
          rw [← hxe] at m0 m1 HST HNX
          obtain ⟨n, fi⟩ := x
          simp only at m0 m1 HST HNX
          obtain ⟨V1, hV1⟩ : ∃ V1, V1 = wr.alloc (.cells #[.int .i64 n, .bool fi] 45) := ⟨_, rfl⟩
          have hbV : Below wr.heap.size wr V1 := by rw [hV1]; exact (Below.refl _ _).alloc (Nat.le_refl _) _
          have hnV : V1.heap[wr.heap.size]? = some (.cells #[.int .i64 n, .bool fi] 45) := by rw [hV1]; exact hst_new _ _
          have HPV : Hid (V1.heap[wr.heap.size]? = some (.cells #[.int .i64 n, .bool fi] 45)) := hnV
          obtain ⟨i0, i1⟩ := prb_cells hnV
          have hsV : V1.heap.size = wr.heap.size + 1 := by rw [hV1]; simp
          have HV1 : Hid (wr.alloc (.cells #[.int .i64 n, .bool fi] 45) = V1) := hV1.symm
          have HXV : Hid (V1.heap[w.heap.size]? = some (.cells #[.int .i64 0, .int .i64 0, .slice none 0 0] 26)) := (hbV.block _ hXl).trans HX.out
          have HBV : Hid (V1.heap[w1.heap.size]? = some (.cells #[.int .i64 ri, .int .i64 fa, .slice a1 n0 c1] 26)) := (hbV.block _ hBl).trans HB.out
          have HNV : Hid (V1.heap[w3.heap.size]? = some (.cells #[.int .i64 ri, .int .i64 fa, .slice (some ⟨gh, 0, none⟩) n0 ch, .slice (some ⟨gr, 0, none⟩) n0 n0] 79)) := (hbV.block _ hNl).trans HN.out
          have HOV : Hid (OwnH V1 (w.heap.size + 1) (.slice a1 n0 c1) (newL P)) := HO.out.kept hbV
          have HQV : Hid (HoRow V1 gh M ∧ ZSRow V1 gr R) := ⟨HQ.out.1.kept hbV, HQ.out.2.kept hbV⟩
          obtain ⟨⟨i2, i3, i4⟩, _⟩ := hst_cells HBV.out
          have hbwV := hb.trans (hbV.mono hb.size)
          have HCA : Hid (Calls Tryd.prog 52 #[.agg #[.int .i64 ri, .int .i64 fa, .slice a1 n0 c1], .int .i64 n] V1 fun e w' => e = .returned (.bool (inB n 0 ((n0 : Int) - 1))) ∧ Below V1.heap.size V1 w') := HNU.out _ n V1 HOV.out.row
          rw [ha]
          clear hcel hxe hV1 hbV hnV HX HB HN HO HQ HNU HROW hhl
          cases hin : inB n 0 ((n0 : Int) - 1) with
          | false =>
            rw [hin] at HCA
            have HR : Hid (plB ri fa P Q = false) := HST.out hin
            clear HNX HST hin
            go_wp2_with (rw [HV1.out])
            refine HCA.out.mono ?_
            rintro e w5 ⟨rfl, hb5⟩
            have HX5 : Hid (w5.heap[w.heap.size]? = some (.cells #[.int .i64 0, .int .i64 0, .slice none 0 0] 26)) := (hb5.block _ (by omega)).trans HXV.out
            have hbw5 := hbwV.trans (hb5.mono hbwV.size)
            obtain ⟨⟨d0, d1, d2⟩, ⟨z0, z1, z2⟩⟩ := hst_cells HX5.out
            clear hb5 HXV HBV HNV HOV HQV HPV hbwV HCA m0 m1 i0 i1 i2 i3 i4
            go_wp2_with fail
            (try simp only [Exit.inBlock, Exit.then])
            refine bodyPost_ret (results_hea_tt rfl _ _ w.heap.size 26 #[.int .i64 0, .int .i64 0, .slice none 0 0] (0, 0) _ (.int .i64 0) (.bool false) rfl rfl rfl ?_ Tryd.underlying26 rfl (by kernel_rfl)) rfl ⟨by rw [HR.out]; exact pans_off _ _ _ _ _ _, ?_⟩
            · exact put3h_heap HX5.out
            · exact put3h_below hbw5 (Nat.le_refl _) _ _ _
          | true =>
            rw [hin] at HCA
            have hnx := HNX.out hin
            obtain ⟨j, hj, hjl⟩ := in_at hin
            subst hj
            rw [show ((j : Int)).toNat = j from by omega] at hnx
            have hjM : j < M.length := by have := HP.out.2.2.1; omega
            have hw2 := wt_tk2 (ri := ri) (fa := fa) fi hjM HP.out.2.2.2
            have hwl := wtL_length ri fa M R j fi
            have hgn := good_tk j fi HP.out.2.1
            have HCT : Hid (∀ W, HoRow W gh M → ZSRow W gr R → Calls Tryd.prog 54 #[.agg #[.int .i64 ri, .int .i64 fa, .slice (some ⟨gh, 0, none⟩) n0 ch, .slice (some ⟨gr, 0, none⟩) n0 n0], .agg #[.int .i64 (j : Int), .bool fi]] W fun e w' => e = .returned (.bool (wtL ri fa M R j fi).2.2) ∧ HoRow w' gh (wtL ri fa M R j fi).1 ∧ ZSRow w' gr (wtL ri fa M R j fi).2.1 ∧ Kpt W w' (fun b => b = gh ∨ b = gr)) := fun W h1 h2 => HTA.out M R j fi gh gr ch W HP.out.2.2.1 HP.out.2.2.2 HP.out.2.1 (by omega) h1 h2 HGB.out.2.2.2.2.2.1 HCC.out
            obtain ⟨T, hT⟩ : ∃ T, T = wtL ri fa M R j fi := ⟨_, rfl⟩
            rw [← hT] at hw2 hwl HCT
            obtain ⟨M2, R2, bc⟩ := T
            simp only at hw2 hwl HCT
            rw [← hw2.1, ← hw2.2] at hnx
            rw [← hw2.1] at hgn
            have HP2 : Hid (plF ri fa (newL P) 0 (Q.take (k + 1)) = some (hlL M2 R2, if bc = true then c + 1 else c) ∧ goodH ri fa (hlL M2 R2) = true ∧ M2.length = n0 ∧ R2.length = M2.length) := ⟨hnx, hgn, by rw [hwl.1]; exact HP.out.2.2.1, by rw [hwl.1, hwl.2]; exact HP.out.2.2.2⟩
            clear HNX HST hin hnx hw2 hwl hgn hT hjl hjM HP
            go_wp2_with (rw [HV1.out])
            refine HCA.out.mono ?_
            rintro e w5 ⟨rfl, hb5⟩
            have hs5 := hb5.size
            have HX5 : Hid (w5.heap[w.heap.size]? = some (.cells #[.int .i64 0, .int .i64 0, .slice none 0 0] 26)) := (hb5.block _ (by omega)).trans HXV.out
            have HB5 : Hid (w5.heap[w1.heap.size]? = some (.cells #[.int .i64 ri, .int .i64 fa, .slice a1 n0 c1] 26)) := (hb5.block _ (by omega)).trans HBV.out
            have HN5 : Hid (w5.heap[w3.heap.size]? = some (.cells #[.int .i64 ri, .int .i64 fa, .slice (some ⟨gh, 0, none⟩) n0 ch, .slice (some ⟨gr, 0, none⟩) n0 n0] 79)) := (hb5.block _ (by omega)).trans HNV.out
            have hP5 : w5.heap[wr.heap.size]? = some (.cells #[.int .i64 (j : Int), .bool fi] 45) := (hb5.block _ (by omega)).trans HPV.out
            have HO5 : Hid (OwnH w5 (w.heap.size + 1) (.slice a1 n0 c1) (newL P)) := HOV.out.kept hb5
            have HQ5 : Hid (HoRow w5 gh M ∧ ZSRow w5 gr R) := ⟨HQV.out.1.kept hb5, HQV.out.2.kept hb5⟩
            have hbw5 := hbwV.trans (hb5.mono hbwV.size)
            clear hb5 HXV HBV HNV HOV HQV HPV hbwV HCA m0 m1 i0 i1 i2 i3 i4
            obtain ⟨⟨q0, q1, q2, q3⟩, _⟩ := wat_cells HN5.out
            obtain ⟨p0, p1⟩ := prb_cells hP5
            clear hP5
            go_wp2_with fail
            refine (HCT.out _ HQ5.out.1 HQ5.out.2).mono ?_
            rintro e w6 ⟨rfl, hqh6, hqr6, hk6⟩
            have hgb := HGB.out
            have HX6 : Hid (w6.heap[w.heap.size]? = some (.cells #[.int .i64 0, .int .i64 0, .slice none 0 0] 26)) := (hk6.block _ (by omega) (fun h => by omega)).trans HX5.out
            have HB6 : Hid (w6.heap[w1.heap.size]? = some (.cells #[.int .i64 ri, .int .i64 fa, .slice a1 n0 c1] 26)) := (hk6.block _ (by omega) (fun h => by omega)).trans HB5.out
            have HN6 : Hid (w6.heap[w3.heap.size]? = some (.cells #[.int .i64 ri, .int .i64 fa, .slice (some ⟨gh, 0, none⟩) n0 ch, .slice (some ⟨gr, 0, none⟩) n0 n0] 79)) := (hk6.block _ (by omega) (fun h => by omega)).trans HN5.out
            have HO6 : Hid (OwnH w6 (w.heap.size + 1) (.slice a1 n0 c1) (newL P)) := HO5.out.kpt hk6 (fun g hg h => by have := HLT.out g hg; omega)
            have HQ6 : Hid (HoRow w6 gh M2 ∧ ZSRow w6 gr R2) := ⟨hqh6, hqr6⟩
            have hbw6 : Below w.heap.size w w6 := hbw5.trans (hk6.below hbw5.size (fun b hb h => by omega))
            clear hqh6 hqr6 hk6 HX5 HB5 HN5 HO5 HQ5 hbw5 q0 q1 q2 q3 p0 p1 hgb HCT
            cases bc with
            | false =>
              go_wp2_with fail
              go_roundw
              case rel => exact ⟨k + 1, M2, R2, c, by omega, by go_num, rfl, HP2, HX6, HB6, HN6, HO6, HQ6, hbw6⟩
              case measure => simp [intOf]; omega
            | true =>
              go_wp2_with fail
              go_roundw
              case rel => exact ⟨k + 1, M2, R2, c + 1, by omega, by go_num, by go_num, HP2, HX6, HB6, HN6, HO6, HQ6, hbw6⟩
              case measure => simp [intOf]; omega
        · have hfin : Q.take k = Q := List.take_of_length_le (by omega)
          have HE : Hid (plB ri fa P Q = true ∧ plV ri fa P Q = (hlL M R, c)) := HDN.out _ c (by have h := HP.out.1; rw [hfin] at h; exact h)
          have HHL : Hid ((hlL M R).length = n0) := hhl
          obtain ⟨⟨q0, q1, q2, q3⟩, _⟩ := wat_cells HN.out
          have HCH : Hid (Calls Tryd.prog 55 #[.agg #[.int .i64 ri, .int .i64 fa, .slice (some ⟨gh, 0, none⟩) n0 ch, .slice (some ⟨gr, 0, none⟩) n0 n0]] wr fun e w' => e = .returned (.agg #[.int .i64 ri, .int .i64 fa, .slice (some ⟨gh, 0, none⟩) n0 ch]) ∧ HoRow w' gh (hlL M R) ∧ Kpt wr w' (fun b => b = gh)) := HHE.out M R gh gr ch wr HP.out.2.2.1 HP.out.2.2.2 HQ.out.1 HQ.out.2 HGB.out.2.2.2.2.2.1 HCC.out
          clear hfin hhl
          go_wp2_with fail
          refine HCH.out.mono ?_
          rintro e w6 ⟨rfl, hqh6, hk6⟩
          have hgb := HGB.out
          have HX6 : Hid (w6.heap[w.heap.size]? = some (.cells #[.int .i64 0, .int .i64 0, .slice none 0 0] 26)) := (hk6.block _ (by omega) (fun h => by omega)).trans HX.out
          have hbw6 : Below w.heap.size w w6 := hb.trans (hk6.below hb.size (fun b hb h => by omega))
          have HQ6 : Hid (HoRow w6 gh (hlL M R)) := hqh6
          obtain ⟨⟨d0, d1, d2⟩, ⟨z0, z1, z2⟩⟩ := hst_cells HX6.out
          clear q0 q1 q2 q3 hqh6 hk6 hgb HCH
          go_wp2_with fail
          (try simp only [Exit.inBlock, Exit.then])
          refine bodyPost_ret (results_hea_tt rfl _ _ w.heap.size 26 #[.int .i64 ri, .int .i64 fa, .slice (some ⟨gh, 0, none⟩) n0 ch] (0, 0) _ (.int .i64 c) (.bool true) rfl rfl rfl ?_ Tryd.underlying26 rfl (by kernel_rfl)) rfl ⟨?_, ?_⟩
          · exact put3h_heap HX6.out
          · rw [HE.out.1, HE.out.2]
            have hgb := HGB.out
            exact ⟨.slice (some ⟨gh, 0, none⟩) n0 ch, rfl, .inr ⟨gh, ch, by show Value.slice _ n0 ch = Value.slice _ (hlL M R).length ch; rw [HHL.out], by show (hlL M R).length ≤ ch; rw [HHL.out]; exact HCC.out.1, HCC.out.2, by omega, put3h_far HQ6.out (by omega)⟩⟩
          · exact put3h_below hbw6 (Nat.le_refl _) _ _ _
end Go.Proofs.YtoopfmebpjojiaaDoor
