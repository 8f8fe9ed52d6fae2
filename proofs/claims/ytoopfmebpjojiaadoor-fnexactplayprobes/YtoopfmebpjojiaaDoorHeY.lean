import Derived.Test.YtoopfmebpjojiaaDoorHeV
import Derived.Test.YtoopfmebpjojiaaDoorHeL
namespace Go.Proofs.YtoopfmebpjojiaaDoor
open Go.RowKit

theorem hl_set (L : List HosT) (k : Nat) (y : HosT) (r : Int) : hlL (L.set k y) ((rwL L).set k r) = L.set k (y.1, y.2.1, r) := by
  apply List.ext_getElem
  · simp [hlL, rwL]
  · intro j h1 h2
    simp only [hlL, List.getElem_zipWith, List.getElem_set]
    split
    · rfl
    · simp [rwL]
theorem hl_row (L : List HosT) (k : Nat) (r : Int) (hk : k < L.length) : hlL L ((rwL L).set k r) = L.set k (L[k].1, L[k].2.1, r) := by
  have h := hl_set L k L[k] r
  rw [List.set_getElem_self] at h
  exact h
theorem rw_at {L : List HosT} {k : Nat} (hk : k < L.length) : (rwL L).getD k 0 = L[k].2.2 := by
  rw [rgetD_at (by rw [rwL_length]; exact hk)]; simp [rwL]
theorem wt_tk {ri fa : Int} {L : List HosT} {k : Nat} (fi : Bool) (hk : k < L.length) : hlL (wtL ri fa L (rwL L) k fi).1 (wtL ri fa L (rwL L) k fi).2.1 = tkL ri fa L k fi ∧ (wtL ri fa L (rwL L) k fi).2.2 = tkC ri fa L k fi := by
  rw [tkL_at hk, tkC_at hk]
  unfold wtL
  rw [getD_at hk, rw_at hk]
  obtain ⟨x, hx⟩ : ∃ x, x = L[k] := ⟨_, rfl⟩
  have hrow := fun r => hl_row L k r hk
  rw [← hx] at hrow ⊢
  obtain ⟨n, u, r⟩ := x
  simp only at hrow ⊢
  by_cases h1 : (fi == u) = true
  · rw [if_pos h1]
    have hfu : fi = u := by simpa using h1
    subst hfu
    rw [tkH_same]
    exact ⟨hrow 0, rfl⟩
  · have h1' : (fi == u) = false := by simpa using h1
    rw [if_neg h1]
    by_cases h2 : r + 1 < mostH ri fa u
    · rw [if_pos h2, tkH_less n h1' h2]
      exact ⟨hrow (r + 1), rfl⟩
    · rw [if_neg h2, tkH_turn n h1' h2]
      refine ⟨?_, rfl⟩
      have h3 := hl_set L k (n, fi, r) 0
      have h4 : fi = !u := by cases fi <;> cases u <;> simp_all
      rw [← h4]
      exact h3
theorem wtL_length (ri fa : Int) (L : List HosT) (R : List Int) (k : Nat) (fi : Bool) : (wtL ri fa L R k fi).1.length = L.length ∧ (wtL ri fa L R k fi).2.1.length = R.length := by
  unfold wtL
  split
  · simp
  · split <;> simp

set_option maxRecDepth 20000 in
set_option maxHeartbeats 8000000 in
theorem iTakeProbe_any (ri fa : Int) (v : Value) (L : List HosT) (n : Int) (fi : Bool) (w : World) (hr : HstRow w v L) (hl : L.length ≤ 1048576) (hx : Hid (∀ x ∈ L, x.1.length ≤ 1048576)) (hE : Env w) :
    Calls Tryd.prog 25 #[HeaV ri fa v, .agg #[.int .i64 n, .bool fi]] w fun e w' => TAns w' w.heap.size (tkB ri fa L n) (tkC ri fa L n.toNat fi) ri fa (tkL ri fa L n.toNat fi) e ∧ Below w.heap.size w w' := by
  have HG : Hid (∀ W, Below w.heap.size w W → Calls Tryd.prog 22 #[HeaV ri fa v] W fun e w' => e = .returned (.bool (goodH ri fa L)) ∧ Below W.heap.size W w') := fun W hW => iGoodHealth_any ri fa v L W (hr.kept hW) (hE.below hW)
  have HN : Hid (∀ W, Below w.heap.size w W → Calls Tryd.prog 52 #[HeaV ri fa v, .int .i64 n] W fun e w' => e = .returned (.bool (inB n 0 ((L.length : Int) - 1))) ∧ Below W.heap.size W w') := fun W hW => isNumberIn_any ri fa n v L W (hr.kept hW) hl
  have HWO : Hid (0 < L.length → ∀ W, Below w.heap.size w W → Calls Tryd.prog 53 #[HeaV ri fa v] W fun e w' => (∃ gh gr ch, e = .returned (WatV ri fa (.slice (some ⟨gh, 0, none⟩) L.length ch) (.slice (some ⟨gr, 0, none⟩) L.length L.length)) ∧ L.length ≤ ch ∧ ch ≤ maxLen ∧ W.heap.size ≤ gh ∧ W.heap.size ≤ gr ∧ gr ≠ gh ∧ HoRow w' gh L ∧ ZSRow w' gr (rwL L)) ∧ Below W.heap.size W w') := fun hp W hW => watchOf_any ri fa v L W (hr.kept hW) hl hp hx
  obtain ⟨ok, hok⟩ : ∃ ok, ok = tkB ri fa L n := ⟨_, rfl⟩
  have HOK : Hid (ok = (goodH ri fa L && inB n 0 ((L.length : Int) - 1))) := hok
  rw [← hok]
  unfold TAns
  unfold HeaV at HG HN HWO ⊢
  unfold WatV at HWO
  obtain ⟨a, cap, rfl, hcap, hmax, _⟩ := hst_value hr
  obtain ⟨W0, hW0⟩ : ∃ W0, W0 = ((w.alloc (.cells #[.int .i64 ri, .int .i64 fa, .slice a L.length cap] 26)).alloc (.cells #[.int .i64 n, .bool fi] 45)).alloc (.cells #[.int .i64 0, .int .i64 0, .slice none 0 0] 26) := ⟨_, rfl⟩
  have hz0 : W0.heap.size = w.heap.size + 1 + 1 + 1 := by rw [hW0]; simp
  have HX : Hid (∀ W, Below W0.heap.size W0 W → W.heap[w.heap.size]? = some (.cells #[.int .i64 ri, .int .i64 fa, .slice a L.length cap] 26) ∧ W.heap[w.heap.size + 1]? = some (.cells #[.int .i64 n, .bool fi] 45) ∧ W.heap[w.heap.size + 1 + 1]? = some (.cells #[.int .i64 0, .int .i64 0, .slice none 0 0] 26) ∧ Below w.heap.size w W) := fun W hW => by rw [hW0] at hW; exact three_boxes hW
  have hb0 : Below w.heap.size w W0 := (HX.out _ (Below.refl _ _)).2.2.2
  have HW0 : Hid (((w.alloc (.cells #[.int .i64 ri, .int .i64 fa, .slice a L.length cap] 26)).alloc (.cells #[.int .i64 n, .bool fi] 45)).alloc (.cells #[.int .i64 0, .int .i64 0, .slice none 0 0] 26) = W0) := hW0.symm
  clear hW0 hok hr hx
  cases hg : goodH ri fa L with
  | false =>
    rw [hg] at HG HOK
    obtain rfl : ok = false := HOK.out
    go_enter Tryd.func25, Tryd.ntmps25
    go_wp2_with fail
    rw [HW0.out]
    refine (HG.out _ hb0).mono ?_
    rintro e w1 ⟨rfl, hb1⟩
    obtain ⟨x1, x2, x3, hbw⟩ := HX.out _ hb1
    have HX3 : Hid (w1.heap[w.heap.size + 1 + 1]? = some (.cells #[.int .i64 0, .int .i64 0, .slice none 0 0] 26)) := x3
    obtain ⟨⟨d0, d1, d2⟩, ⟨z0, z1, z2⟩⟩ := hst_cells x3
    clear x1 x2 x3
    go_wp2_with fail
    (try simp only [Exit.inBlock, Exit.then])
    refine bodyPost_ret (results_hea_tt rfl _ _ (w.heap.size + 1 + 1) 26 #[.int .i64 0, .int .i64 0, .slice none 0 0] (0, 0) _ (.bool false) (.bool false) rfl rfl rfl ?_ Tryd.underlying26 rfl (by kernel_rfl)) rfl ⟨⟨_, rfl, .inl ⟨rfl, rfl⟩⟩, ?_⟩
    · exact put3h_heap HX3.out
    · exact put3h_below hbw (by omega) _ _ _
  | true =>
    rw [hg] at HG HOK
    cases hn : inB n 0 ((L.length : Int) - 1) with
    | false =>
      rw [hn] at HN HOK
      obtain rfl : ok = false := HOK.out
      clear hn
      go_enter Tryd.func25, Tryd.ntmps25
      go_wp2_with fail
      rw [HW0.out]
      refine (HG.out _ hb0).mono ?_
      rintro e w1 ⟨rfl, hb1⟩
      obtain ⟨x1, x2, _, hbw⟩ := HX.out _ hb1
      obtain ⟨⟨c0, c1, c2⟩, _⟩ := hst_cells x1
      obtain ⟨p0, p1⟩ := prb_cells x2
      clear x1 x2
      go_wp2_with fail
      refine (HN.out _ hbw).mono ?_
      rintro e w2 ⟨rfl, hb2⟩
      have hb12 := hb1.trans (hb2.mono hb1.size)
      clear c0 c1 c2 p0 p1
      obtain ⟨x1, x2, x3, hbw2⟩ := HX.out _ hb12
      have HX3 : Hid (w2.heap[w.heap.size + 1 + 1]? = some (.cells #[.int .i64 0, .int .i64 0, .slice none 0 0] 26)) := x3
      obtain ⟨⟨d0, d1, d2⟩, ⟨z0, z1, z2⟩⟩ := hst_cells x3
      clear x1 x2 x3
      go_wp2_with fail
      (try simp only [Exit.inBlock, Exit.then])
      refine bodyPost_ret (results_hea_tt rfl _ _ (w.heap.size + 1 + 1) 26 #[.int .i64 0, .int .i64 0, .slice none 0 0] (0, 0) _ (.bool false) (.bool false) rfl rfl rfl ?_ Tryd.underlying26 rfl (by kernel_rfl)) rfl ⟨⟨_, rfl, .inl ⟨rfl, rfl⟩⟩, ?_⟩
      · exact put3h_heap HX3.out
      · exact put3h_below hbw2 (by omega) _ _ _
    | true =>
      rw [hn] at HN HOK
      obtain rfl : ok = true := HOK.out
      obtain ⟨k, hk, hkl⟩ := in_at hn
      subst hk
      have HWC := HWO.out (by omega)
      obtain ⟨_, _, hlen, hgr, _⟩ := good_parts hg
      have hrow := hgr _ (List.getElem_mem hkl)
      have hml : mostH ri fa L[k].2.1 ≤ 10 := by
        obtain ⟨h1, h2, _⟩ := good_parts hg
        unfold mostH; split <;> omega
      have HBD : Hid (0 ≤ (rwL L).getD k 0 ∧ (rwL L).getD k 0 ≤ 1000) := by rw [rw_at hkl]; exact ⟨by omega, by omega⟩
      have HTK := wt_tk (ri := ri) (fa := fa) fi hkl
      have HLN := wtL_length ri fa L (rwL L) k fi
      have HTA : Hid (∀ gh gr ch W, HoRow W gh L → ZSRow W gr (rwL L) → gr ≠ gh → (L.length ≤ ch ∧ ch ≤ maxLen) → Calls Tryd.prog 54 #[WatV ri fa (.slice (some ⟨gh, 0, none⟩) L.length ch) (.slice (some ⟨gr, 0, none⟩) L.length L.length), .agg #[.int .i64 (k : Int), .bool fi]] W fun e w' => e = .returned (.bool (wtL ri fa L (rwL L) k fi).2.2) ∧ HoRow w' gh (wtL ri fa L (rwL L) k fi).1 ∧ ZSRow w' gr (wtL ri fa L (rwL L) k fi).2.1 ∧ Kpt W w' (fun b => b = gh ∨ b = gr)) := fun gh gr ch W h1 h2 h3 h4 => take_any ri fa L (rwL L) k fi gh gr ch L.length W h1 h2 h3 hkl (rwL_length L) h4 ⟨Nat.le_refl _, by unfold maxLen; omega⟩ HBD.out
      obtain ⟨T, hT⟩ : ∃ T, T = wtL ri fa L (rwL L) k fi := ⟨_, rfl⟩
      rw [← hT] at HTA HTK HLN
      obtain ⟨L2, R2, ch2⟩ := T
      simp only at HTA HTK HLN
      have HRL : R2.length = L2.length := by rw [HLN.1, HLN.2, rwL_length]
      have HHE : Hid (∀ gh gr ch W, HoRow W gh L2 → ZSRow W gr R2 → gr ≠ gh → (L2.length ≤ ch ∧ ch ≤ maxLen) → Calls Tryd.prog 55 #[WatV ri fa (.slice (some ⟨gh, 0, none⟩) L2.length ch) (.slice (some ⟨gr, 0, none⟩) L2.length L2.length)] W fun e w' => e = .returned (HeaV ri fa (.slice (some ⟨gh, 0, none⟩) L2.length ch)) ∧ HoRow w' gh (hlL L2 R2) ∧ Kpt W w' (fun b => b = gh)) := fun gh gr ch W h1 h2 h3 h4 => health_any ri fa L2 R2 gh gr ch L2.length W h1 h2 h3 HRL (by rw [HLN.1]; exact hl) h4 ⟨Nat.le_refl _, by unfold maxLen; omega⟩
      rw [HLN.1, HTK.1] at HHE
      have HCE : Hid (ch2 = tkC ri fa L k fi) := HTK.2
      have HKL : Hid ((tkL ri fa L k fi).length = L.length) := tkL_length ri fa L k fi
      unfold WatV HeaV at HHE
      unfold WatV at HTA
      clear hn HWO HOK hgr hg hT HTK HLN HRL HBD hrow hml
      go_enter Tryd.func25, Tryd.ntmps25
      go_wp2_with fail
      rw [HW0.out]
      refine (HG.out _ hb0).mono ?_
      rintro e w1 ⟨rfl, hb1⟩
      obtain ⟨x1, x2, _, hbw⟩ := HX.out _ hb1
      obtain ⟨⟨c0, c1, c2⟩, _⟩ := hst_cells x1
      obtain ⟨p0, p1⟩ := prb_cells x2
      clear x1 x2
      go_wp2_with fail
      refine (HN.out _ hbw).mono ?_
      rintro e w2 ⟨rfl, hb2⟩
      have hb12 := hb1.trans (hb2.mono hb1.size)
      clear c0 c1 c2 p0 p1 hbw
      obtain ⟨x1, x2, _, hbw2⟩ := HX.out _ hb12
      obtain ⟨⟨c0, c1, c2⟩, _⟩ := hst_cells x1
      obtain ⟨p0, p1⟩ := prb_cells x2
      clear x1 x2
      go_wp2_with fail
      refine (HWC _ hbw2).mono ?_
      rintro e w3 ⟨⟨gh, gr, ch, rfl, hc1, hc2, hgh, hgr, hne, hqh, hqr⟩, hb3⟩
      have hb13 := hb12.trans (hb3.mono hb12.size)
      clear c0 c1 c2 p0 p1
      obtain ⟨_, _, _, hbw3⟩ := HX.out _ hb13
      have hs3 : W0.heap.size ≤ w2.heap.size := hb12.size
      have hgw3 : gh < w3.heap.size := hqh.1
      have hrw3 : gr < w3.heap.size := hqr.1
      obtain ⟨W4, hW4⟩ : ∃ W4, W4 = w3.alloc (.cells #[.int .i64 ri, .int .i64 fa, .slice (some ⟨gh, 0, none⟩) L.length ch, .slice (some ⟨gr, 0, none⟩) L.length L.length] 79) := ⟨_, rfl⟩
      have hb34 : Below w3.heap.size w3 W4 := by rw [hW4]; exact (Below.refl _ _).alloc (Nat.le_refl _) _
      have hb14 := hb13.trans (hb34.mono hb13.size)
      have hn4 : W4.heap[w3.heap.size]? = some (.cells #[.int .i64 ri, .int .i64 fa, .slice (some ⟨gh, 0, none⟩) L.length ch, .slice (some ⟨gr, 0, none⟩) L.length L.length] 79) := by rw [hW4]; exact hst_new _ _
      have HN4 : Hid (W4.heap[w3.heap.size]? = some (.cells #[.int .i64 ri, .int .i64 fa, .slice (some ⟨gh, 0, none⟩) L.length ch, .slice (some ⟨gr, 0, none⟩) L.length L.length] 79)) := hn4
      obtain ⟨x1, x2, x3, hbw4⟩ := HX.out _ hb14
      have HX4 : Hid (W4.heap[w.heap.size + 1 + 1]? = some (.cells #[.int .i64 0, .int .i64 0, .slice none 0 0] 26)) := x3
      have HQH : Hid (HoRow W4 gh L) := hqh.kept hb34
      have HQR : Hid (ZSRow W4 gr (rwL L)) := hqr.kept hb34
      obtain ⟨⟨q0, q1, q2, q3⟩, _⟩ := wat_cells hn4
      obtain ⟨p0, p1⟩ := prb_cells x2
      have HW4 : Hid (w3.alloc (.cells #[.int .i64 ri, .int .i64 fa, .slice (some ⟨gh, 0, none⟩) L.length ch, .slice (some ⟨gr, 0, none⟩) L.length L.length] 79) = W4) := hW4.symm
      have hs34 : w3.heap.size < W4.heap.size := by rw [hW4]; simp
      have hs23 : w2.heap.size ≤ w3.heap.size := hb3.size
      clear hW4 hn4 x1 x2 x3 hqh hqr hb1 hb2 hb3 hb12 hb13 hb14 hb34 hbw2 hbw3 HG HN HWC HX HW0 hb0
      go_wp2_with (rw [HW4.out])
      refine (HTA.out gh gr ch _ HQH.out HQR.out hne ⟨hc1, hc2⟩).mono ?_
      rintro e w5 ⟨rfl, hqh5, hqr5, hk5⟩
      have hx5 : w5.heap[w3.heap.size]? = some (.cells #[.int .i64 ri, .int .i64 fa, .slice (some ⟨gh, 0, none⟩) L.length ch, .slice (some ⟨gr, 0, none⟩) L.length L.length] 79) := (hk5.block _ hs34 (fun h => by omega)).trans HN4.out
      have HX5 : Hid (w5.heap[w.heap.size + 1 + 1]? = some (.cells #[.int .i64 0, .int .i64 0, .slice none 0 0] 26)) := (hk5.block _ (by omega) (fun h => by omega)).trans HX4.out
      have hbw5 : Below w.heap.size w w5 := hbw4.trans (hk5.below hbw4.size (fun b hb h => by omega))
      have hs45 := hk5.size
      have HQ5 : Hid (HoRow w5 gh L2) := hqh5
      have HR5 : Hid (ZSRow w5 gr R2) := hqr5
      clear q0 q1 q2 q3 p0 p1
      obtain ⟨⟨q0, q1, q2, q3⟩, _⟩ := wat_cells hx5
      clear hqh5 hqr5 hk5 hx5 HN4 HX4 HQH HQR hbw4 HTA
      go_wp2_with fail
      refine (HHE.out gh gr ch _ HQ5.out HR5.out hne ⟨hc1, hc2⟩).mono ?_
      rintro e w6 ⟨rfl, hqh6, hk6⟩
      have HX6 : Hid (w6.heap[w.heap.size + 1 + 1]? = some (.cells #[.int .i64 0, .int .i64 0, .slice none 0 0] 26)) := (hk6.block _ (by omega) (fun h => by omega)).trans HX5.out
      have hbw6 : Below w.heap.size w w6 := hbw5.trans (hk6.below hbw5.size (fun b hb h => by omega))
      have HQ6 : Hid (HoRow w6 gh (tkL ri fa L k fi)) := hqh6
      obtain ⟨⟨d0, d1, d2⟩, ⟨z0, z1, z2⟩⟩ := hst_cells HX6.out
      have HCC : Hid (L.length ≤ ch ∧ ch ≤ maxLen) := ⟨hc1, hc2⟩
      clear q0 q1 q2 q3 hqh6 hk6 HX5 HQ5 HR5 hbw5 HHE
      go_wp2_with fail
      (try simp only [Exit.inBlock, Exit.then])
      refine bodyPost_ret (results_hea_tt rfl _ _ (w.heap.size + 1 + 1) 26 #[.int .i64 ri, .int .i64 fa, .slice (some ⟨gh, 0, none⟩) L.length ch] (0, 0) _ (.bool ch2) (.bool true) rfl rfl rfl ?_ Tryd.underlying26 rfl (by kernel_rfl)) rfl ⟨⟨.slice (some ⟨gh, 0, none⟩) L.length ch, ?_, ?_⟩, ?_⟩
      · exact put3h_heap HX6.out
      · rw [HCE.out]
      · exact .inr ⟨gh, ch, by rw [HKL.out], by rw [HKL.out]; exact HCC.out.1, HCC.out.2, by omega, put3h_far HQ6.out (by omega)⟩
      · exact put3h_below hbw6 (by omega) _ _ _
end Go.Proofs.YtoopfmebpjojiaaDoor
