import Derived.Test.YtdbbcepjdojdcaaGreatDoorZ31
import Derived.Test.YtdbbcepjdojdcaaGreatDoorZ37
import Derived.Test.YtdbbcepjdojdcaaGreatDoorZ45
import Derived.Test.YtdbbcepjdojdcaaGreatDoorZ48
import Derived.Test.YtdbbcepjdojdcaaGreatDoorZ23
import Derived.Deep.RegionHeld3
namespace Go.Proofs.YtdbbcepjdojdcaaGreatDoor
open Go.RowKit

set_option maxRecDepth 20000 in
set_option maxHeartbeats 32000000 in
theorem sApplyDiff_any (nm : ByteArray) (ct : Int) (vl : Value) (L : List (List UInt8 × Int × Int × List UInt8)) (f t : Int) (va vu : Value) (A U : List (List UInt8 × Int × Int × List UInt8)) (w : World) (hr : RRow w vl L) (ha : RRow w va A) (hu : RRow w vu U) (hn : nm.size ≤ 1048576) (hl : L.length ≤ 1048576)
    (hxl : Hid (∀ x ∈ L, x.1.length ≤ 1048576 ∧ x.2.2.2.length ≤ 1048576)) (hxa : Hid (∀ x ∈ A, x.1.length ≤ 1048576 ∧ x.2.2.2.length ≤ 1048576)) (hxu : Hid (∀ x ∈ U, x.1.length ≤ 1048576 ∧ x.2.2.2.length ≤ 1048576)) :
    Calls Tryz.prog 8 #[ZonV nm ct vl, DifV f t va vu] w fun e w' => (((canB nm.data.toList ct L f t A U && zoneB nm.data.toList t (andQ (wthR L A) U)) = false → ZRes w' false ⟨#[]⟩ 0 [] e) ∧ ((canB nm.data.toList ct L f t A U && zoneB nm.data.toList t (andQ (wthR L A) U)) = true → ZRes w' true nm t (andQ (wthR L A) U) e)) ∧ Below w.heap.size w w' := by
  have HG : Hid (∀ W, Below w.heap.size w W → Calls Tryz.prog 27 #[ZonV nm ct vl] W fun e w' => e = .returned (.bool (zoneB nm.data.toList ct L)) ∧ Below W.heap.size W w') := fun W hW => sGoodZone_any nm ct vl L W (hr.kept hW) hn hl hxl
  have HD : Hid (∀ W, Below w.heap.size w W → Calls Tryz.prog 28 #[DifV f t va vu] W fun e w' => e = .returned (.bool (difB f t A U)) ∧ Below W.heap.size W w') := fun W hW => sGoodDiff_any f t va vu A U W (ha.kept hW) (hu.kept hW) hxa hxu
  have HHS : Hid (∀ (x : List UInt8 × Int × Int × List UInt8) W, Below w.heap.size w W → Calls Tryz.prog 29 #[vl, .agg #[.string ⟨x.1.toArray⟩, .int .i64 x.2.1, .int .i64 x.2.2.1, .string ⟨x.2.2.2.toArray⟩]] W fun e w' => e = .returned (.bool (hasR L x)) ∧ Below W.heap.size W w') := fun x W hW => l9Has_any vl L x W (hr.kept hW)
  have HLE : Hid (∀ W, Below w.heap.size w W → Calls Tryz.prog 31 #[vl, va] W fun e w' => (∃ u, e = .returned u ∧ OwnQ w' W.heap.size u (wthR L A)) ∧ Below W.heap.size W w') := fun W hW => l9Less_any vl va L A W (hr.kept hW) (ha.kept hW) hl
  have HAN : Hid (zoneB nm.data.toList ct L = true → difB f t A U = true → ∀ v W, Below w.heap.size w W → RRow W v (wthR L A) → (∀ n c, v = .slice none n c → c = 0) → Calls Tryz.prog 30 #[v, vu] W fun e w' => (∃ u, e = .returned u ∧ RRow w' u (andQ (wthR L A) U) ∧ ∀ n c, u = .slice none n c → c = 0) ∧ Below W.heap.size W w') := fun hz hd v W hW hv hnv => by
    have hz2 := zone_list hz
    have hd2 := dif_lists hd
    have l1 := listB_len hz2
    have l2 := listB_len hd2.2
    have l3 := wthR_le L A
    exact l9And_any v vu (wthR L A) U W hv (hu.kept hW) hnv (fun x hx => goodq_of (list_ares hz2) hxl.out x (wthR_mem hx)) (goodq_of (list_ares hd2.2) hxu.out) (by omega)
  have HGO : Hid (zoneB nm.data.toList ct L = true → difB f t A U = true → ∀ v W, RRow W v (andQ (wthR L A) U) → Calls Tryz.prog 27 #[ZonV nm t v] W fun e w' => e = .returned (.bool (zoneB nm.data.toList t (andQ (wthR L A) U))) ∧ Below W.heap.size W w') := fun hz hd v W hv => by
    have l1 := listB_len (zone_list hz)
    have l2 := listB_len (dif_lists hd).2
    have l3 := wthR_le L A
    have l4 := andQ_len (wthR L A) U
    exact sGoodZone_any nm t v _ W hv hn (by omega) (fun x hx => by
      rcases andQ_mem hx with h | h
      · exact hxl.out x (wthR_mem h)
      · exact hxu.out x h)
  obtain ⟨al, cl, rfl, hcl1, hcl, _⟩ := rrow_value hr
  obtain ⟨aa, ca, rfl, hca1, hca, HROWA⟩ := rrow_value ha
  obtain ⟨au, cu, rfl, hcu1, hcu, HROWU⟩ := rrow_value hu
  clear hr ha hu
  obtain ⟨W0, hW0⟩ : ∃ W0, W0 = ((w.alloc (.cells #[.string nm, .int .i64 ct, .slice al L.length cl] 31)).alloc (.cells #[.int .i64 f, .int .i64 t, .slice aa A.length ca, .slice au U.length cu] 36)).alloc (.cells #[.string ⟨#[]⟩, .int .i64 0, .slice none 0 0] 31) := ⟨_, rfl⟩
  have HW0 : Hid (((w.alloc (.cells #[.string nm, .int .i64 ct, .slice al L.length cl] 31)).alloc (.cells #[.int .i64 f, .int .i64 t, .slice aa A.length ca, .slice au U.length cu] 36)).alloc (.cells #[.string ⟨#[]⟩, .int .i64 0, .slice none 0 0] 31) = W0) := hW0.symm
  have HX : Hid (∀ W, Below W0.heap.size W0 W → (W.cell? ⟨w.heap.size, 0, none⟩ = some (.string nm) ∧ W.cell? ⟨w.heap.size, 1, none⟩ = some (.int .i64 ct) ∧ W.cell? ⟨w.heap.size, 2, none⟩ = some (.slice al L.length cl)) ∧ (W.cell? ⟨w.heap.size + 1, 0, none⟩ = some (.int .i64 f) ∧ W.cell? ⟨w.heap.size + 1, 1, none⟩ = some (.int .i64 t) ∧ W.cell? ⟨w.heap.size + 1, 2, none⟩ = some (.slice aa A.length ca) ∧ W.cell? ⟨w.heap.size + 1, 3, none⟩ = some (.slice au U.length cu)) ∧ ((W.cell? ⟨w.heap.size + 1 + 1, 0, none⟩ = some (.string ⟨#[]⟩) ∧ W.cell? ⟨w.heap.size + 1 + 1, 1, none⟩ = some (.int .i64 0) ∧ W.cell? ⟨w.heap.size + 1 + 1, 2, none⟩ = some (.slice none 0 0)) ∧ (W.frozen? ⟨w.heap.size + 1 + 1, 0, none⟩ = false ∧ W.frozen? ⟨w.heap.size + 1 + 1, 1, none⟩ = false ∧ W.frozen? ⟨w.heap.size + 1 + 1, 2, none⟩ = false)) ∧ W.heap[w.heap.size + 1 + 1]? = some (.cells #[.string ⟨#[]⟩, .int .i64 0, .slice none 0 0] 31) ∧ Below w.heap.size w W ∧ w.heap.size + 1 + 1 < W.heap.size) := fun W hW => by
    rw [hW0] at hW
    obtain ⟨q1, q2, q3, q4, q5⟩ := heaps3 hW
    exact ⟨(zon_cells q1).1, (dif_cells q2).1, zon_cells q3, q3, q4, q5⟩
  have hb0 : Below W0.heap.size W0 W0 := Below.refl _ _
  have HTR : Hid (∀ W W', Below W0.heap.size W0 W → Below W.heap.size W W' → Below W0.heap.size W0 W') := fun W W' h1 h2 => h1.trans (h2.mono h1.size)
  have HCAN : Hid (canB nm.data.toList ct L f t A U = (zoneB nm.data.toList ct L && (difB f t A U && (decide (ct = f) && (A.all (fun x => hasR L x) && U.all (fun x => !hasR L x)))))) := rfl
  obtain ⟨ok4, hok4⟩ : ∃ b, b = canB nm.data.toList ct L f t A U := ⟨_, rfl⟩
  obtain ⟨ok5, hok5⟩ : ∃ b, b = zoneB nm.data.toList t (andQ (wthR L A) U) := ⟨_, rfl⟩
  rw [← hok4, ← hok5]
  rw [← hok4] at HCAN
  rw [← hok5] at HGO
  have HBADA : Hid (∀ k (hk : k < A.length), hasR L A[k] = false → ok4 = false) := fun k hk h => by
    rw [HCAN.out, show A.all (fun x => hasR L x) = false by rw [List.all_eq_false]; exact ⟨_, List.getElem_mem hk, by simp [h]⟩]
    simp
  have HBADU : Hid (∀ k (hk : k < U.length), hasR L U[k] = true → ok4 = false) := fun k hk h => by
    rw [HCAN.out, show U.all (fun x => !hasR L x) = false by rw [List.all_eq_false]; exact ⟨_, List.getElem_mem hk, by simp [h]⟩]
    simp
  clear hok4 hok5 hW0
  unfold ZonV at HG HGO ⊢
  unfold DifV at HD ⊢
  cases h1 : zoneB nm.data.toList ct L with
  | false =>
    have hF : ok4 = false := by rw [HCAN.out, h1]; rfl
    rw [h1] at HG
    go_enter Tryz.func8, Tryz.ntmps8
    go_wp2_with fail
    rw [HW0.out]
    refine (HG.out _ (HX.out _ hb0).2.2.2.2.1).mono ?_
    rintro e w1 ⟨rfl, hb1⟩
    have hb01 := HTR.out _ _ hb0 hb1
    obtain ⟨⟨c0, c1, c2⟩, ⟨d0, d1, d2, d3⟩, ⟨⟨r0, r1, r2⟩, ⟨f0, f1, f2⟩⟩, HZ, hbw, hz⟩ := HX.out _ hb01
    have HNO : (ok4 && ok5) = false := by rw [hF]; rfl
    go_wp2_with fail
    (try simp only [Exit.inBlock, Exit.then])
    refine bodyPost_ret (results_row_tmp rfl _ _ (w.heap.size + 1 + 1) 31 #[.string ⟨#[]⟩, .int .i64 0, .slice none 0 0] (0, 0) _ (.bool false) rfl rfl ?_ Tryz.underlying31 rfl (by kernel_rfl)) rfl ⟨⟨fun _ => zres_no _, fun h => absurd h (by rw [HNO]; simp)⟩, ?_⟩
    · exact put3_heap HZ
    · exact put3_below hbw (by omega) _ _ _
  | true =>
  rw [h1] at HG
  cases h2 : difB f t A U with
  | false =>
    have hF : ok4 = false := by rw [HCAN.out, h2]; simp
    rw [h2] at HD
    go_enter Tryz.func8, Tryz.ntmps8
    go_wp2_with fail
    rw [HW0.out]
    refine (HG.out _ (HX.out _ hb0).2.2.2.2.1).mono ?_
    rintro e w1 ⟨rfl, hb1⟩
    have hb01 := HTR.out _ _ hb0 hb1
    obtain ⟨⟨c0, c1, c2⟩, ⟨d0, d1, d2, d3⟩, ⟨⟨r0, r1, r2⟩, ⟨f0, f1, f2⟩⟩, HZ, hbw, hz⟩ := HX.out _ hb01
    go_wp2_with fail
    refine (HD.out _ hbw).mono ?_
    rintro e w2 ⟨rfl, hb2⟩
    have hb02 := HTR.out _ _ hb01 hb2
    clear c0 c1 c2 d0 d1 d2 d3 r0 r1 r2 f0 f1 f2 HZ hbw hz
    obtain ⟨⟨c0, c1, c2⟩, ⟨d0, d1, d2, d3⟩, ⟨⟨r0, r1, r2⟩, ⟨f0, f1, f2⟩⟩, HZ, hbw, hz⟩ := HX.out _ hb02
    have HNO : (ok4 && ok5) = false := by rw [hF]; rfl
    go_wp2_with fail
    (try simp only [Exit.inBlock, Exit.then])
    refine bodyPost_ret (results_row_tmp rfl _ _ (w.heap.size + 1 + 1) 31 #[.string ⟨#[]⟩, .int .i64 0, .slice none 0 0] (0, 0) _ (.bool false) rfl rfl ?_ Tryz.underlying31 rfl (by kernel_rfl)) rfl ⟨⟨fun _ => zres_no _, fun h => absurd h (by rw [HNO]; simp)⟩, ?_⟩
    · exact put3_heap HZ
    · exact put3_below hbw (by omega) _ _ _
  | true =>
  rw [h2] at HD
  by_cases h3 : ¬ ct = f
  · have hF : ok4 = false := by rw [HCAN.out, decide_eq_false h3]; simp
    have e1 : (ct == f) = false := by simpa using h3
    have e2 : (ct != f) = true := by simpa using h3
    go_enter Tryz.func8, Tryz.ntmps8
    go_wp2_with fail
    rw [HW0.out]
    refine (HG.out _ (HX.out _ hb0).2.2.2.2.1).mono ?_
    rintro e w1 ⟨rfl, hb1⟩
    have hb01 := HTR.out _ _ hb0 hb1
    obtain ⟨⟨c0, c1, c2⟩, ⟨d0, d1, d2, d3⟩, ⟨⟨r0, r1, r2⟩, ⟨f0, f1, f2⟩⟩, HZ, hbw, hz⟩ := HX.out _ hb01
    go_wp2_with fail
    refine (HD.out _ hbw).mono ?_
    rintro e w2 ⟨rfl, hb2⟩
    have hb02 := HTR.out _ _ hb01 hb2
    clear c0 c1 c2 d0 d1 d2 d3 r0 r1 r2 f0 f1 f2 HZ hbw hz
    obtain ⟨⟨c0, c1, c2⟩, ⟨d0, d1, d2, d3⟩, ⟨⟨r0, r1, r2⟩, ⟨f0, f1, f2⟩⟩, HZ, hbw, hz⟩ := HX.out _ hb02
    have HNO : (ok4 && ok5) = false := by rw [hF]; rfl
    go_wp2_with fail
    (try simp only [Exit.inBlock, Exit.then])
    refine bodyPost_ret (results_row_tmp rfl _ _ (w.heap.size + 1 + 1) 31 #[.string ⟨#[]⟩, .int .i64 0, .slice none 0 0] (0, 0) _ (.bool false) rfl rfl ?_ Tryz.underlying31 rfl (by kernel_rfl)) rfl ⟨⟨fun _ => zres_no _, fun h => absurd h (by rw [HNO]; simp)⟩, ?_⟩
    · exact put3_heap HZ
    · exact put3_below hbw (by omega) _ _ _
  replace h3 := Classical.not_not.1 h3
  have HAN2 := HAN.out h1 h2
  have HGO2 := HGO.out h1 h2
  have HOK4 : Hid ((∀ j, (hj : j < A.length) → hasR L A[j] = true) → (∀ j, (hj : j < U.length) → hasR L U[j] = false) → ok4 = true) := fun ka ku => by
    rw [HCAN.out, h1, h2, decide_eq_true h3, show A.all (fun x => hasR L x) = true by
      rw [List.all_eq_true]; intro x hx
      obtain ⟨j, hj, rfl⟩ := List.getElem_of_mem hx
      exact ka j hj, show U.all (fun x => !hasR L x) = true by
      rw [List.all_eq_true]; intro x hx
      obtain ⟨j, hj, rfl⟩ := List.getElem_of_mem hx
      simp [ku j hj]]
    rfl
  subst h3
  go_enter Tryz.func8, Tryz.ntmps8
  go_wp2_with fail
  rw [HW0.out]
  refine (HG.out _ (HX.out _ hb0).2.2.2.2.1).mono ?_
  rintro e w1 ⟨rfl, hb1⟩
  have hb01x := HTR.out _ _ hb0 hb1
  obtain ⟨⟨c0, c1, c2⟩, ⟨d0, d1, d2, d3⟩, ⟨⟨r0, r1, r2⟩, ⟨f0, f1, f2⟩⟩, HZ, hbw, hz⟩ := HX.out _ hb01x
  go_wp2_with fail
  refine (HD.out _ hbw).mono ?_
  rintro e w2 ⟨rfl, hb2⟩
  have hb01 := HTR.out _ _ hb01x hb2
  clear c0 c1 c2 d0 d1 d2 d3 r0 r1 r2 f0 f1 f2 HZ hbw hz
  obtain ⟨⟨c0, c1, c2⟩, ⟨d0, d1, d2, d3⟩, ⟨⟨r0, r1, r2⟩, ⟨f0, f1, f2⟩⟩, HZ, hbw, hz⟩ := HX.out _ hb01
  go_wp2_with fail
  clear c0 c1 c2 d0 d1 d2 d3 r0 r1 r2 f0 f1 f2 HZ hbw hz
  clear HG HD HCAN h1 h2 hb1 hb2 hb01x
  go_loopw [30] (fun i wr => ∃ k : Nat, k ≤ A.length ∧ i = .int .i64 (k : Int) ∧ Hid (∀ j, (hj : j < A.length) → j < k → hasR L A[j] = true) ∧ Below W0.heap.size W0 wr) (fun i _ => A.length - (intOf i).toNat)
  case atStart => exact ⟨0, Nat.zero_le _, rfl, fun j _ h => absurd h (Nat.not_lt_zero _), hb01⟩
  case round =>
    obtain ⟨k, hk, rfl, HA1, hb⟩ := hrel
    obtain ⟨⟨c0, c1, c2⟩, ⟨d0, d1, d2, d3⟩, ⟨⟨r0, r1, r2⟩, ⟨f0, f1, f2⟩⟩, HZ, hbw, hz⟩ := HX.out _ hb
    by_cases hlt : k < A.length
    · obtain ⟨b, o, ha, hbl, hcel⟩ := HROWA.out (by omega)
      rw [ha]
      have hcx := (hcel k hlt).kept hbw
      have HBADX : Hid (hasR L (A[k]'hlt) = false → ok4 = false) := HBADA.out k hlt
      have HUP : Hid (hasR L (A[k]'hlt) = true → ∀ j, (hj : j < A.length) → j < k + 1 → hasR L A[j] = true) := fun h j hj hj2 => by
        rcases Nat.lt_or_ge j k with h' | h'
        · exact HA1.out j hj h'
        · obtain rfl : j = k := by omega
          exact h
      obtain ⟨x, hxe⟩ : ∃ x, x = A[k]'hlt := ⟨_, rfl⟩
      rw [← hxe] at hcx HBADX HUP
      unfold RecAt at hcx
      obtain ⟨m0, m1, m2, m3⟩ := hcx
      have HB2 : Hid (Below W0.heap.size W0 (wr.alloc (.cells #[.string ⟨x.1.toArray⟩, .int .i64 x.2.1, .int .i64 x.2.2.1, .string ⟨x.2.2.2.toArray⟩] 63))) := hb.alloc hb.size _
      have HHX : Hid (∀ W, Below w.heap.size w W → Calls Tryz.prog 29 #[.slice al L.length cl, .agg #[.string ⟨x.1.toArray⟩, .int .i64 x.2.1, .int .i64 x.2.2.1, .string ⟨x.2.2.2.toArray⟩]] W fun e w' => e = .returned (.bool (hasR L x)) ∧ Below W.heap.size W w') := HHS.out x
      have hzw : w.heap.size < wr.heap.size := World.block_lt_of_cell? _ _ c0
      clear hcel hxe
      cases hh : hasR L x with
      | false =>
        have HF4 := HBADX.out hh
        rw [hh] at HHX
        clear HBADX HUP hh
        go_wp2_with fail
        refine (HHX.out _ (HX.out _ HB2.out).2.2.2.2.1).mono ?_
        rintro e w4 ⟨rfl, hb4⟩
        have hb04 := HTR.out _ _ HB2.out hb4
        clear c0 c1 c2 d0 d1 d2 d3 r0 r1 r2 f0 f1 f2 HZ hbw hz m0 m1 m2 m3
        obtain ⟨⟨c0, c1, c2⟩, ⟨d0, d1, d2, d3⟩, ⟨⟨r0, r1, r2⟩, ⟨f0, f1, f2⟩⟩, HZ, hbw, hz⟩ := HX.out _ hb04
        have HNO : (ok4 && ok5) = false := by rw [HF4]; rfl
        go_wp2_with fail
        (try simp only [Exit.inBlock, Exit.then])
        refine bodyPost_ret (results_row_tmp rfl _ _ (w.heap.size + 1 + 1) 31 #[.string ⟨#[]⟩, .int .i64 0, .slice none 0 0] (0, 0) _ (.bool false) rfl rfl ?_ Tryz.underlying31 rfl (by kernel_rfl)) rfl ⟨⟨fun _ => zres_no _, fun h => absurd h (by rw [HNO]; simp)⟩, ?_⟩
        · exact put3_heap HZ
        · exact put3_below hbw (by omega) _ _ _
      | true =>
        have HU := HUP.out hh
        have HU2 : Hid (∀ j, (hj : j < A.length) → j < k + 1 → hasR L A[j] = true) := HU
        rw [hh] at HHX
        clear HBADX HUP hh HU
        go_wp2_with fail
        refine (HHX.out _ (HX.out _ HB2.out).2.2.2.2.1).mono ?_
        rintro e w4 ⟨rfl, hb4⟩
        have hb04 := HTR.out _ _ HB2.out hb4
        clear c0 c1 c2 d0 d1 d2 d3 r0 r1 r2 f0 f1 f2 HZ hbw hz m0 m1 m2 m3
        obtain ⟨⟨c0, c1, c2⟩, ⟨d0, d1, d2, d3⟩, ⟨⟨r0, r1, r2⟩, ⟨f0, f1, f2⟩⟩, HZ, hbw, hz⟩ := HX.out _ hb04
        go_wp2_with fail
        go_roundw
        case rel => exact ⟨k + 1, by omega, by go_num, HU2, hb04⟩
        case measure => simp [intOf]; omega
    · have hkk : k = A.length := by omega
      subst hkk
      have HALL1 : Hid (∀ j, (hj : j < A.length) → hasR L A[j] = true) := fun j hj => HA1.out j hj hj
      clear HA1
      go_wp2_with fail
      have hb02 : Below W0.heap.size W0 wr := hb
      clear c0 c1 c2 d0 d1 d2 d3 r0 r1 r2 f0 f1 f2 HZ hbw hz
      clear hb
      go_loopw [44] (fun i wr => ∃ k : Nat, k ≤ U.length ∧ i = .int .i64 (k : Int) ∧ Hid (∀ j, (hj : j < U.length) → j < k → hasR L U[j] = false) ∧ Below W0.heap.size W0 wr) (fun i _ => U.length - (intOf i).toNat)
      case atStart => exact ⟨0, Nat.zero_le _, rfl, fun j _ h => absurd h (Nat.not_lt_zero _), hb02⟩
      case round =>
        obtain ⟨k, hk, rfl, HA2, hb⟩ := hrel
        obtain ⟨⟨c0, c1, c2⟩, ⟨d0, d1, d2, d3⟩, ⟨⟨r0, r1, r2⟩, ⟨f0, f1, f2⟩⟩, HZ, hbw, hz⟩ := HX.out _ hb
        by_cases hlt : k < U.length
        · obtain ⟨b, o, ha, hbl, hcel⟩ := HROWU.out (by omega)
          rw [ha]
          have hcx := (hcel k hlt).kept hbw
          have HBADX : Hid (hasR L (U[k]'hlt) = true → ok4 = false) := HBADU.out k hlt
          have HUP : Hid (hasR L (U[k]'hlt) = false → ∀ j, (hj : j < U.length) → j < k + 1 → hasR L U[j] = false) := fun h j hj hj2 => by
            rcases Nat.lt_or_ge j k with h' | h'
            · exact HA2.out j hj h'
            · obtain rfl : j = k := by omega
              exact h
          obtain ⟨x, hxe⟩ : ∃ x, x = U[k]'hlt := ⟨_, rfl⟩
          rw [← hxe] at hcx HBADX HUP
          unfold RecAt at hcx
          obtain ⟨m0, m1, m2, m3⟩ := hcx
          have HB2 : Hid (Below W0.heap.size W0 (wr.alloc (.cells #[.string ⟨x.1.toArray⟩, .int .i64 x.2.1, .int .i64 x.2.2.1, .string ⟨x.2.2.2.toArray⟩] 63))) := hb.alloc hb.size _
          have HHX : Hid (∀ W, Below w.heap.size w W → Calls Tryz.prog 29 #[.slice al L.length cl, .agg #[.string ⟨x.1.toArray⟩, .int .i64 x.2.1, .int .i64 x.2.2.1, .string ⟨x.2.2.2.toArray⟩]] W fun e w' => e = .returned (.bool (hasR L x)) ∧ Below W.heap.size W w') := HHS.out x
          have hzw : w.heap.size < wr.heap.size := World.block_lt_of_cell? _ _ c0
          clear hcel hxe
          cases hh : hasR L x with
          | true =>
            have HF4 := HBADX.out hh
            rw [hh] at HHX
            clear HBADX HUP hh
            go_wp2_with fail
            refine (HHX.out _ (HX.out _ HB2.out).2.2.2.2.1).mono ?_
            rintro e w4 ⟨rfl, hb4⟩
            have hb04 := HTR.out _ _ HB2.out hb4
            clear c0 c1 c2 d0 d1 d2 d3 r0 r1 r2 f0 f1 f2 HZ hbw hz m0 m1 m2 m3
            obtain ⟨⟨c0, c1, c2⟩, ⟨d0, d1, d2, d3⟩, ⟨⟨r0, r1, r2⟩, ⟨f0, f1, f2⟩⟩, HZ, hbw, hz⟩ := HX.out _ hb04
            have HNO : (ok4 && ok5) = false := by rw [HF4]; rfl
            go_wp2_with fail
            (try simp only [Exit.inBlock, Exit.then])
            refine bodyPost_ret (results_row_tmp rfl _ _ (w.heap.size + 1 + 1) 31 #[.string ⟨#[]⟩, .int .i64 0, .slice none 0 0] (0, 0) _ (.bool false) rfl rfl ?_ Tryz.underlying31 rfl (by kernel_rfl)) rfl ⟨⟨fun _ => zres_no _, fun h => absurd h (by rw [HNO]; simp)⟩, ?_⟩
            · exact put3_heap HZ
            · exact put3_below hbw (by omega) _ _ _
          | false =>
            have HU := HUP.out hh
            have HU2 : Hid (∀ j, (hj : j < U.length) → j < k + 1 → hasR L U[j] = false) := HU
            rw [hh] at HHX
            clear HBADX HUP hh HU
            go_wp2_with fail
            refine (HHX.out _ (HX.out _ HB2.out).2.2.2.2.1).mono ?_
            rintro e w4 ⟨rfl, hb4⟩
            have hb04 := HTR.out _ _ HB2.out hb4
            clear c0 c1 c2 d0 d1 d2 d3 r0 r1 r2 f0 f1 f2 HZ hbw hz m0 m1 m2 m3
            obtain ⟨⟨c0, c1, c2⟩, ⟨d0, d1, d2, d3⟩, ⟨⟨r0, r1, r2⟩, ⟨f0, f1, f2⟩⟩, HZ, hbw, hz⟩ := HX.out _ hb04
            go_wp2_with fail
            go_roundw
            case rel => exact ⟨k + 1, by omega, by go_num, HU2, hb04⟩
            case measure => simp [intOf]; omega
        · have hkk : k = U.length := by omega
          subst hkk
          have HALL2 : Hid (∀ j, (hj : j < U.length) → hasR L U[j] = false) := fun j hj => HA2.out j hj hj
          clear HA2
          obtain ⟨W1, hW1⟩ : ∃ W1, W1 = wr := ⟨_, rfl⟩
          rw [← hW1] at hb ⊢
          have hF4 : ok4 = true := HOK4.out HALL1.out HALL2.out
          subst hF4
          have hS1 : Below W1.heap.size W1 W1.drew := (Below.refl _ _).drew
          have HXS : Hid (∀ W, Below W1.heap.size W1 W → (W.cell? ⟨w.heap.size, 0, none⟩ = some (.string nm) ∧ W.cell? ⟨w.heap.size, 1, none⟩ = some (.int .i64 ct) ∧ W.cell? ⟨w.heap.size, 2, none⟩ = some (.slice al L.length cl)) ∧ (W.cell? ⟨w.heap.size + 1, 0, none⟩ = some (.int .i64 ct) ∧ W.cell? ⟨w.heap.size + 1, 1, none⟩ = some (.int .i64 t) ∧ W.cell? ⟨w.heap.size + 1, 2, none⟩ = some (.slice aa A.length ca) ∧ W.cell? ⟨w.heap.size + 1, 3, none⟩ = some (.slice au U.length cu)) ∧ ((W.cell? ⟨w.heap.size + 1 + 1, 0, none⟩ = some (.string ⟨#[]⟩) ∧ W.cell? ⟨w.heap.size + 1 + 1, 1, none⟩ = some (.int .i64 0) ∧ W.cell? ⟨w.heap.size + 1 + 1, 2, none⟩ = some (.slice none 0 0)) ∧ (W.frozen? ⟨w.heap.size + 1 + 1, 0, none⟩ = false ∧ W.frozen? ⟨w.heap.size + 1 + 1, 1, none⟩ = false ∧ W.frozen? ⟨w.heap.size + 1 + 1, 2, none⟩ = false)) ∧ W.heap[w.heap.size + 1 + 1]? = some (.cells #[.string ⟨#[]⟩, .int .i64 0, .slice none 0 0] 31) ∧ Below w.heap.size w W ∧ w.heap.size + 1 + 1 < W.heap.size) := fun W hW => HX.out W (HTR.out _ _ hb hW)
          have HBW : Hid (∀ W, Below W1.heap.size W1 W → Below w.heap.size w W) := fun W hW => (HXS.out W hW).2.2.2.2.1
          have HTS : Hid (∀ W W', Below W1.heap.size W1 W → Below W.heap.size W W' → Below W1.heap.size W1 W') := fun W W' h1 h2 => h1.trans (h2.mono h1.size)
          clear c0 c1 c2 d0 d1 d2 d3 r0 r1 r2 f0 f1 f2 HZ hbw hz
          clear hW1 HALL1 HALL2
          go_wp2_with fail
          refine wp_region_held_drew (S := fun W : World => Below W1.heap.size W1 W) (by kernel_rfl) hS1 (fun hHeld => ?_)
          refine wpAnyH_take (i := 0) (v := .pointer (some ⟨w.heap.size, 0, none⟩)) rfl (by kernel_rfl) (by kernel_rfl) (by kernel_rfl) (fun _ _ _ h => h) (Or.inl ⟨by rfl, ?_⟩) (by assumption) ?_
          · intro W hSW
            go_simp
          simp only [Act.put, List.setIfInBounds_toArray]
          refine wpAnyH_take (i := 1) (v := .string nm) rfl (by kernel_rfl) (by kernel_rfl) (by kernel_rfl) (fun _ _ _ h => h) (Or.inl ⟨by rfl, ?_⟩) (by assumption) ?_
          · intro W hSW
            obtain ⟨⟨q0, q1, q2⟩, ⟨y0, y1, y2, y3⟩, _⟩ := HXS.out _ hSW
            go_simp
          simp only [Act.put]
          refine wpAnyH_take (i := 2) (v := .pointer (some ⟨w.heap.size + 1, 1, none⟩)) rfl (by kernel_rfl) (by kernel_rfl) (by kernel_rfl) (fun _ _ _ h => h) (Or.inl ⟨by rfl, ?_⟩) (by assumption) ?_
          · intro W hSW
            go_simp
          simp only [Act.put]
          refine wpAnyH_take (i := 3) (v := .int .i64 t) rfl (by kernel_rfl) (by kernel_rfl) (by kernel_rfl) (fun _ _ _ h => h) (Or.inl ⟨by rfl, ?_⟩) (by assumption) ?_
          · intro W hSW
            obtain ⟨⟨q0, q1, q2⟩, ⟨y0, y1, y2, y3⟩, _⟩ := HXS.out _ hSW
            go_simp
          simp only [Act.put]
          refine wpAnyH_take (i := 4) (v := .pointer (some ⟨w.heap.size, 2, none⟩)) rfl (by kernel_rfl) (by kernel_rfl) (by kernel_rfl) (fun _ _ _ h => h) (Or.inl ⟨by rfl, ?_⟩) (by assumption) ?_
          · intro W hSW
            go_simp
          simp only [Act.put]
          refine wpAnyH_take (i := 5) (v := .slice al L.length cl) rfl (by kernel_rfl) (by kernel_rfl) (by kernel_rfl) (fun _ _ _ h => h) (Or.inl ⟨by rfl, ?_⟩) (by assumption) ?_
          · intro W hSW
            obtain ⟨⟨q0, q1, q2⟩, ⟨y0, y1, y2, y3⟩, _⟩ := HXS.out _ hSW
            go_simp
          simp only [Act.put]
          refine wpAnyH_take (i := 6) (v := .pointer (some ⟨w.heap.size + 1, 2, none⟩)) rfl (by kernel_rfl) (by kernel_rfl) (by kernel_rfl) (fun _ _ _ h => h) (Or.inl ⟨by rfl, ?_⟩) (by assumption) ?_
          · intro W hSW
            go_simp
          simp only [Act.put]
          refine wpAnyH_take (i := 7) (v := .slice aa A.length ca) rfl (by kernel_rfl) (by kernel_rfl) (by kernel_rfl) (fun _ _ _ h => h) (Or.inl ⟨by rfl, ?_⟩) (by assumption) ?_
          · intro W hSW
            obtain ⟨⟨q0, q1, q2⟩, ⟨y0, y1, y2, y3⟩, _⟩ := HXS.out _ hSW
            go_simp
          simp only [Act.put]
          refine wpAnyH_take (i := 9) (v := .pointer (some ⟨w.heap.size + 1, 3, none⟩)) rfl (by kernel_rfl) (by kernel_rfl) (by kernel_rfl) (fun _ _ _ h => h) (Or.inl ⟨by rfl, ?_⟩) (by assumption) ?_
          · intro W hSW
            go_simp
          simp only [Act.put]
          refine wpAnyH_take (i := 10) (v := .slice au U.length cu) rfl (by kernel_rfl) (by kernel_rfl) (by kernel_rfl) (fun _ _ _ h => h) (Or.inl ⟨by rfl, ?_⟩) (by assumption) ?_
          · intro W hSW
            obtain ⟨⟨q0, q1, q2⟩, ⟨y0, y1, y2, y3⟩, _⟩ := HXS.out _ hSW
            go_simp
          simp only [Act.put]
          refine wpAnyH_ready (rs := [8, 13]) (by kernel_rfl) (by simp) ?_
          refine AllReadyH.cons rfl (fun K hK => ?_) (AllReadyH.cons rfl (fun K hK => ?_) AllReadyH.nil)
          · rw [if_pos (by rfl)]
            go_simp
            refine (HLE.out _ (HBW.out _ hS1)).mono ?_
            rintro e w5 ⟨⟨u1, rfl, ho1⟩, hb5⟩
            obtain ⟨b1, m1, hu1, hm1⟩ := ho1.shape
            have hn1 := ownq_nil ho1
            subst hu1
            go_simp
            have hS5 := HTS.out _ _ hS1 hb5
            refine hK.out _ _ hS5 (fun hSS => ?_)
            clear hK
            refine wpAnyH_ready (rs := [11, 13]) (by kernel_rfl) (by simp) ?_
            refine AllReadyH.cons rfl (fun K hK => ?_) (AllReadyH.cons rfl (fun K hK => ?_) AllReadyH.nil)
            · rw [if_pos (by rfl)]
              go_simp
              refine (HAN2 _ _ (HBW.out _ hS5) (ho1.row) hn1).mono ?_
              rintro e w6 ⟨⟨u2, rfl, hr2, hn2⟩, hb6⟩
              obtain ⟨b2, m2, hu2, _, hm2, _⟩ := id hr2
              subst hu2
              go_simp
              have hS6 := HTS.out _ _ hS5 hb6
              refine hK.out _ _ hS6 (fun hSS => ?_)
              clear hK
              refine wpAnyH_take (i := 12) (v := .agg #[.string nm, .int .i64 t, .slice b2 (andQ (wthR L A) U).length m2]) rfl (by kernel_rfl) (by kernel_rfl) (by kernel_rfl) (fun _ _ _ h => h) (Or.inl ⟨by rfl, ?_⟩) (by assumption) ?_
              · intro W hSW
                first | rfl | kernel_rfl | go_simp
              simp only [Act.put]
              refine wpAnyH_ready (rs := [13]) (by kernel_rfl) (by simp) ?_
              refine AllReadyH.cons rfl (fun K hK => ?_) AllReadyH.nil
              rw [if_pos (by rfl)]
              go_simp
              have hS8 := Below.alloc hS6 (Below.size hS6) (.cells #[.string ⟨#[]⟩, .int .i64 0, .slice none 0 0] 31)
              refine hK.out _ _ hS8 (fun hSS => ?_)
              clear hK
              refine wpAnyH_ready (rs := [14]) (by kernel_rfl) (by simp) ?_
              refine AllReadyH.cons rfl (fun K hK => ?_) AllReadyH.nil
              rw [if_pos (by rfl)]
              have hF : (w6.alloc (.cells #[.string nm, .int .i64 t, .slice b2 (andQ (wthR L A) U).length m2] 31)).heap[w6.heap.size]? = some (.cells #[.string nm, .int .i64 t, .slice b2 (andQ (wthR L A) U).length m2] 31) := blk_new _ _
              have hR2 := hr2.kept ((Below.refl w6.heap.size w6).alloc (Nat.le_refl _) (.cells #[.string nm, .int .i64 t, .slice b2 (andQ (wthR L A) U).length m2] 31))
              have hSF := Below.alloc hS6 (Below.size hS6) (.cells #[.string nm, .int .i64 t, .slice b2 (andQ (wthR L A) U).length m2] 31)
              go_simp
              refine hK.out _ _ hSF (fun hSS => ?_)
              clear hK
              refine wpAnyH_done (by kernel_rfl) ?_ _
              obtain ⟨WF, gF, hWF, hgF⟩ : ∃ W g, W = (w6.alloc (.cells #[.string nm, .int .i64 t, .slice b2 (andQ (wthR L A) U).length m2] 31)) ∧ g = w6.heap.size := ⟨_, _, rfl, rfl⟩
              rw [← hWF] at hF hR2 hSF ⊢
              rw [← hgF] at hF ⊢
              clear hWF hgF
              obtain ⟨⟨x0, x1, x2⟩, _⟩ := zon_cells hF
              have HF : Hid (WF.heap[gF]? = some (.cells #[.string nm, .int .i64 t, .slice b2 (andQ (wthR L A) U).length m2] 31)) := hF
              have hgl : gF < WF.heap.size := (Array.getElem?_eq_some_iff.1 hF).1
              have HR2 : Hid (∀ W, Below WF.heap.size WF W → RRow W (.slice b2 (andQ (wthR L A) U).length m2) (andQ (wthR L A) U)) := fun W hW => hR2.kept hW
              have HSF : Hid (Below W1.heap.size W1 WF) := hSF
              clear hSS hF
              go_wp2_with fail
              refine (HGO2 _ _ hR2).mono ?_
              rintro e w7 ⟨rfl, hb7⟩
              have hS7 := HTS.out _ _ HSF.out hb7
              obtain ⟨⟨c0, c1, c2⟩, ⟨d0, d1, d2, d3⟩, ⟨⟨r0, r1, r2⟩, ⟨f0, f1, f2⟩⟩, HZ, hbw, hz⟩ := HXS.out _ hS7
              have hF7 : w7.heap[gF]? = some (.cells #[.string nm, .int .i64 t, .slice b2 (andQ (wthR L A) U).length m2] 31) := (hb7.block _ hgl).trans HF.out
              obtain ⟨⟨x3, x4, x5⟩, _⟩ := zon_cells hF7
              have HR7 : Hid (RRow w7 (.slice b2 (andQ (wthR L A) U).length m2) (andQ (wthR L A) U)) := HR2.out _ hb7
              clear x0 x1 x2 hF7
              cases ok5 with
              | false =>
                have HNO : (true && false) = false := rfl
                go_wp2_with fail
                (try simp only [Exit.inBlock, Exit.then])
                refine bodyPost_ret (results_row_tmp rfl _ _ (w.heap.size + 1 + 1) 31 #[.string ⟨#[]⟩, .int .i64 0, .slice none 0 0] (0, 0) _ (.bool false) rfl rfl ?_ Tryz.underlying31 rfl (by kernel_rfl)) rfl ⟨⟨fun _ => zres_no _, fun h => absurd h (by rw [HNO]; simp)⟩, ?_⟩
                · exact put3_heap HZ
                · exact put3_below hbw (by omega) _ _ _
              | true =>
                go_wp2_with fail
                (try simp only [Exit.inBlock, Exit.then])
                refine bodyPost_ret (results_row_tmp rfl _ _ (w.heap.size + 1 + 1) 31 #[.string nm, .int .i64 t, .slice b2 (andQ (wthR L A) U).length m2] (0, 0) _ (.bool true) rfl rfl ?_ Tryz.underlying31 rfl (by kernel_rfl)) rfl ⟨⟨fun h => absurd h (by simp), fun _ => ⟨_, rfl, ?_⟩⟩, ?_⟩
                · exact put3_heap HZ
                · exact HR7.out.apartZ HZ (kpt_put3 _ (w.heap.size + 1 + 1) _ _ _ (S := fun k => k = w.heap.size + 1 + 1) rfl)
                · exact put3_below hbw (by omega) _ _ _
            · rw [if_pos (by rfl)]
              go_simp
              have hS8 := Below.alloc hS5 (Below.size hS5) (.cells #[.string ⟨#[]⟩, .int .i64 0, .slice none 0 0] 31)
              refine hK.out _ _ hS8 (fun hSS => ?_)
              clear hK
              refine wpAnyH_ready (rs := [11]) (by kernel_rfl) (by simp) ?_
              refine AllReadyH.cons rfl (fun K hK => ?_) AllReadyH.nil
              rw [if_pos (by rfl)]
              go_simp
              refine (HAN2 _ _ (HBW.out _ hS8) (ho1.row.kept ((Below.refl _ _).alloc (Nat.le_refl _) _)) hn1).mono ?_
              rintro e w6 ⟨⟨u2, rfl, hr2, hn2⟩, hb6⟩
              obtain ⟨b2, m2, hu2, _, hm2, _⟩ := id hr2
              subst hu2
              go_simp
              have hS6 := HTS.out _ _ hS8 hb6
              refine hK.out _ _ hS6 (fun hSS => ?_)
              clear hK
              refine wpAnyH_take (i := 12) (v := .agg #[.string nm, .int .i64 t, .slice b2 (andQ (wthR L A) U).length m2]) rfl (by kernel_rfl) (by kernel_rfl) (by kernel_rfl) (fun _ _ _ h => h) (Or.inl ⟨by rfl, ?_⟩) (by assumption) ?_
              · intro W hSW
                first | rfl | kernel_rfl | go_simp
              simp only [Act.put]
              refine wpAnyH_ready (rs := [14]) (by kernel_rfl) (by simp) ?_
              refine AllReadyH.cons rfl (fun K hK => ?_) AllReadyH.nil
              rw [if_pos (by rfl)]
              have hk4 : w6.heap[w5.heap.size]? = some (.cells #[.string ⟨#[]⟩, .int .i64 0, .slice none 0 0] 31) := (hb6.block w5.heap.size (by simp)).trans (blk_new _ _)
              have hgk := kpt_put3 w6 (w5.heap.size) (.string nm) (.int .i64 t) (.slice b2 (andQ (wthR L A) U).length m2) (S := fun k => k = w5.heap.size) rfl
              have hF := put3_heap (v0 := .string nm) (v1 := .int .i64 t) (v2 := .slice b2 (andQ (wthR L A) U).length m2) hk4
              have hR2 := hr2.apartZ hk4 hgk
              have hSF := put3_below hS6 (g := w5.heap.size) (hS5.size) (.string nm) (.int .i64 t) (.slice b2 (andQ (wthR L A) U).length m2)
              obtain ⟨⟨r0, r1, r2⟩, ⟨f0, f1, f2⟩⟩ := zon_cells hk4
              go_simp
              unfold put3 at hF hR2 hSF
              refine hK.out _ _ hSF (fun hSS => ?_)
              clear hK r0 r1 r2 f0 f1 f2 hgk hk4
              refine wpAnyH_done (by kernel_rfl) ?_ _
              obtain ⟨WF, gF, hWF, hgF⟩ : ∃ W g, W = (((w6.setCell ⟨w5.heap.size, 0, none⟩ (.string nm)).setCell ⟨w5.heap.size, 1, none⟩ (.int .i64 t)).setCell ⟨w5.heap.size, 2, none⟩ (.slice b2 (andQ (wthR L A) U).length m2)) ∧ g = w5.heap.size := ⟨_, _, rfl, rfl⟩
              rw [← hWF] at hF hR2 hSF ⊢
              rw [← hgF] at hF ⊢
              clear hWF hgF
              obtain ⟨⟨x0, x1, x2⟩, _⟩ := zon_cells hF
              have HF : Hid (WF.heap[gF]? = some (.cells #[.string nm, .int .i64 t, .slice b2 (andQ (wthR L A) U).length m2] 31)) := hF
              have hgl : gF < WF.heap.size := (Array.getElem?_eq_some_iff.1 hF).1
              have HR2 : Hid (∀ W, Below WF.heap.size WF W → RRow W (.slice b2 (andQ (wthR L A) U).length m2) (andQ (wthR L A) U)) := fun W hW => hR2.kept hW
              have HSF : Hid (Below W1.heap.size W1 WF) := hSF
              clear hSS hF
              go_wp2_with fail
              refine (HGO2 _ _ hR2).mono ?_
              rintro e w7 ⟨rfl, hb7⟩
              have hS7 := HTS.out _ _ HSF.out hb7
              obtain ⟨⟨c0, c1, c2⟩, ⟨d0, d1, d2, d3⟩, ⟨⟨r0, r1, r2⟩, ⟨f0, f1, f2⟩⟩, HZ, hbw, hz⟩ := HXS.out _ hS7
              have hF7 : w7.heap[gF]? = some (.cells #[.string nm, .int .i64 t, .slice b2 (andQ (wthR L A) U).length m2] 31) := (hb7.block _ hgl).trans HF.out
              obtain ⟨⟨x3, x4, x5⟩, _⟩ := zon_cells hF7
              have HR7 : Hid (RRow w7 (.slice b2 (andQ (wthR L A) U).length m2) (andQ (wthR L A) U)) := HR2.out _ hb7
              clear x0 x1 x2 hF7
              cases ok5 with
              | false =>
                have HNO : (true && false) = false := rfl
                go_wp2_with fail
                (try simp only [Exit.inBlock, Exit.then])
                refine bodyPost_ret (results_row_tmp rfl _ _ (w.heap.size + 1 + 1) 31 #[.string ⟨#[]⟩, .int .i64 0, .slice none 0 0] (0, 0) _ (.bool false) rfl rfl ?_ Tryz.underlying31 rfl (by kernel_rfl)) rfl ⟨⟨fun _ => zres_no _, fun h => absurd h (by rw [HNO]; simp)⟩, ?_⟩
                · exact put3_heap HZ
                · exact put3_below hbw (by omega) _ _ _
              | true =>
                go_wp2_with fail
                (try simp only [Exit.inBlock, Exit.then])
                refine bodyPost_ret (results_row_tmp rfl _ _ (w.heap.size + 1 + 1) 31 #[.string nm, .int .i64 t, .slice b2 (andQ (wthR L A) U).length m2] (0, 0) _ (.bool true) rfl rfl ?_ Tryz.underlying31 rfl (by kernel_rfl)) rfl ⟨⟨fun h => absurd h (by simp), fun _ => ⟨_, rfl, ?_⟩⟩, ?_⟩
                · exact put3_heap HZ
                · exact HR7.out.apartZ HZ (kpt_put3 _ (w.heap.size + 1 + 1) _ _ _ (S := fun k => k = w.heap.size + 1 + 1) rfl)
                · exact put3_below hbw (by omega) _ _ _
          · rw [if_pos (by rfl)]
            go_simp
            have hS8 := Below.alloc hS1 (Below.size hS1) (.cells #[.string ⟨#[]⟩, .int .i64 0, .slice none 0 0] 31)
            refine hK.out _ _ hS8 (fun hSS => ?_)
            clear hK
            refine wpAnyH_ready (rs := [8]) (by kernel_rfl) (by simp) ?_
            refine AllReadyH.cons rfl (fun K hK => ?_) AllReadyH.nil
            rw [if_pos (by rfl)]
            go_simp
            refine (HLE.out _ (HBW.out _ hS8)).mono ?_
            rintro e w5 ⟨⟨u1, rfl, ho1⟩, hb5⟩
            obtain ⟨b1, m1, hu1, hm1⟩ := ho1.shape
            have hn1 := ownq_nil ho1
            subst hu1
            go_simp
            have hS5 := HTS.out _ _ hS8 hb5
            refine hK.out _ _ hS5 (fun hSS => ?_)
            clear hK
            refine wpAnyH_ready (rs := [11]) (by kernel_rfl) (by simp) ?_
            refine AllReadyH.cons rfl (fun K hK => ?_) AllReadyH.nil
            rw [if_pos (by rfl)]
            go_simp
            refine (HAN2 _ _ (HBW.out _ hS5) (ho1.row) hn1).mono ?_
            rintro e w6 ⟨⟨u2, rfl, hr2, hn2⟩, hb6⟩
            obtain ⟨b2, m2, hu2, _, hm2, _⟩ := id hr2
            subst hu2
            go_simp
            have hS6 := HTS.out _ _ hS5 hb6
            refine hK.out _ _ hS6 (fun hSS => ?_)
            clear hK
            refine wpAnyH_take (i := 12) (v := .agg #[.string nm, .int .i64 t, .slice b2 (andQ (wthR L A) U).length m2]) rfl (by kernel_rfl) (by kernel_rfl) (by kernel_rfl) (fun _ _ _ h => h) (Or.inl ⟨by rfl, ?_⟩) (by assumption) ?_
            · intro W hSW
              first | rfl | kernel_rfl | go_simp
            simp only [Act.put]
            refine wpAnyH_ready (rs := [14]) (by kernel_rfl) (by simp) ?_
            refine AllReadyH.cons rfl (fun K hK => ?_) AllReadyH.nil
            rw [if_pos (by rfl)]
            have hk4 : w6.heap[W1.heap.size]? = some (.cells #[.string ⟨#[]⟩, .int .i64 0, .slice none 0 0] 31) := (hb6.block W1.heap.size (by have h := hb5.size; simp at h; omega)).trans ((hb5.block W1.heap.size (by simp)).trans (blk_new W1.drew _))
            have hgk := kpt_put3 w6 (W1.heap.size) (.string nm) (.int .i64 t) (.slice b2 (andQ (wthR L A) U).length m2) (S := fun k => k = W1.heap.size) rfl
            have hF := put3_heap (v0 := .string nm) (v1 := .int .i64 t) (v2 := .slice b2 (andQ (wthR L A) U).length m2) hk4
            have hR2 := hr2.apartZ hk4 hgk
            have hSF := put3_below hS6 (g := W1.heap.size) (Nat.le_refl _) (.string nm) (.int .i64 t) (.slice b2 (andQ (wthR L A) U).length m2)
            obtain ⟨⟨r0, r1, r2⟩, ⟨f0, f1, f2⟩⟩ := zon_cells hk4
            go_simp
            unfold put3 at hF hR2 hSF
            refine hK.out _ _ hSF (fun hSS => ?_)
            clear hK r0 r1 r2 f0 f1 f2 hgk hk4
            refine wpAnyH_done (by kernel_rfl) ?_ _
            obtain ⟨WF, gF, hWF, hgF⟩ : ∃ W g, W = (((w6.setCell ⟨W1.heap.size, 0, none⟩ (.string nm)).setCell ⟨W1.heap.size, 1, none⟩ (.int .i64 t)).setCell ⟨W1.heap.size, 2, none⟩ (.slice b2 (andQ (wthR L A) U).length m2)) ∧ g = W1.heap.size := ⟨_, _, rfl, rfl⟩
            rw [← hWF] at hF hR2 hSF ⊢
            rw [← hgF] at hF ⊢
            clear hWF hgF
            obtain ⟨⟨x0, x1, x2⟩, _⟩ := zon_cells hF
            have HF : Hid (WF.heap[gF]? = some (.cells #[.string nm, .int .i64 t, .slice b2 (andQ (wthR L A) U).length m2] 31)) := hF
            have hgl : gF < WF.heap.size := (Array.getElem?_eq_some_iff.1 hF).1
            have HR2 : Hid (∀ W, Below WF.heap.size WF W → RRow W (.slice b2 (andQ (wthR L A) U).length m2) (andQ (wthR L A) U)) := fun W hW => hR2.kept hW
            have HSF : Hid (Below W1.heap.size W1 WF) := hSF
            clear hSS hF
            go_wp2_with fail
            refine (HGO2 _ _ hR2).mono ?_
            rintro e w7 ⟨rfl, hb7⟩
            have hS7 := HTS.out _ _ HSF.out hb7
            obtain ⟨⟨c0, c1, c2⟩, ⟨d0, d1, d2, d3⟩, ⟨⟨r0, r1, r2⟩, ⟨f0, f1, f2⟩⟩, HZ, hbw, hz⟩ := HXS.out _ hS7
            have hF7 : w7.heap[gF]? = some (.cells #[.string nm, .int .i64 t, .slice b2 (andQ (wthR L A) U).length m2] 31) := (hb7.block _ hgl).trans HF.out
            obtain ⟨⟨x3, x4, x5⟩, _⟩ := zon_cells hF7
            have HR7 : Hid (RRow w7 (.slice b2 (andQ (wthR L A) U).length m2) (andQ (wthR L A) U)) := HR2.out _ hb7
            clear x0 x1 x2 hF7
            cases ok5 with
            | false =>
              have HNO : (true && false) = false := rfl
              go_wp2_with fail
              (try simp only [Exit.inBlock, Exit.then])
              refine bodyPost_ret (results_row_tmp rfl _ _ (w.heap.size + 1 + 1) 31 #[.string ⟨#[]⟩, .int .i64 0, .slice none 0 0] (0, 0) _ (.bool false) rfl rfl ?_ Tryz.underlying31 rfl (by kernel_rfl)) rfl ⟨⟨fun _ => zres_no _, fun h => absurd h (by rw [HNO]; simp)⟩, ?_⟩
              · exact put3_heap HZ
              · exact put3_below hbw (by omega) _ _ _
            | true =>
              go_wp2_with fail
              (try simp only [Exit.inBlock, Exit.then])
              refine bodyPost_ret (results_row_tmp rfl _ _ (w.heap.size + 1 + 1) 31 #[.string nm, .int .i64 t, .slice b2 (andQ (wthR L A) U).length m2] (0, 0) _ (.bool true) rfl rfl ?_ Tryz.underlying31 rfl (by kernel_rfl)) rfl ⟨⟨fun h => absurd h (by simp), fun _ => ⟨_, rfl, ?_⟩⟩, ?_⟩
              · exact put3_heap HZ
              · exact HR7.out.apartZ HZ (kpt_put3 _ (w.heap.size + 1 + 1) _ _ _ (S := fun k => k = w.heap.size + 1 + 1) rfl)
              · exact put3_below hbw (by omega) _ _ _
end Go.Proofs.YtdbbcepjdojdcaaGreatDoor
