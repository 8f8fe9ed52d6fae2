import Derived.Test.YtdbbcepjdojdcaaGreatDoorZ37
import Derived.Test.YtdbbcepjdojdcaaGreatDoorZ40
import Derived.Test.YtdbbcepjdojdcaaGreatDoorZ41
import Derived.Test.YtdbbcepjdojdcaaGreatDoorZ04
import Derived.Deep.RegionHeld3
namespace Go.Proofs.YtdbbcepjdojdcaaGreatDoor
open Go.RowKit

theorem zown_no (w : World) (base : Nat) : ZOwn w base false ⟨#[]⟩ 0 [] (.returned (.tuple #[ZonV ⟨#[]⟩ 0 (.slice none 0 0), .bool false])) := ⟨_, rfl, .inl ⟨rfl, rfl⟩⟩

set_option maxRecDepth 20000 in
set_option maxHeartbeats 16000000 in
theorem iApplyDiff_any (nm : ByteArray) (ct : Int) (vl : Value) (L : List (List UInt8 × Int × Int × List UInt8)) (f t : Int) (va vu : Value) (A U : List (List UInt8 × Int × Int × List UInt8)) (w : World) (hr : RRow w vl L) (ha : RRow w va A) (hu : RRow w vu U) (hn : nm.size ≤ 1048576) (hl : L.length ≤ 1048576) (hla : A.length ≤ 1048576) (hlu : U.length ≤ 1048576)
    (hxl : Hid (∀ x ∈ L, x.1.length ≤ 1048576 ∧ x.2.2.2.length ≤ 1048576)) (hxa : Hid (∀ x ∈ A, x.1.length ≤ 1048576 ∧ x.2.2.2.length ≤ 1048576)) (hxu : Hid (∀ x ∈ U, x.1.length ≤ 1048576 ∧ x.2.2.2.length ≤ 1048576)) (hE : EnvZ w) :
    Calls Tryz.prog 11 #[ZonV nm ct vl, DifV f t va vu] w fun e w' => (((canB nm.data.toList ct L f t A U && zoneB nm.data.toList t (andQ (wthR L A) U)) = false → ZOwn w' w.heap.size false ⟨#[]⟩ 0 [] e) ∧ ((canB nm.data.toList ct L f t A U && zoneB nm.data.toList t (andQ (wthR L A) U)) = true → ZOwn w' w.heap.size true nm t (andQ (wthR L A) U) e)) ∧ Below w.heap.size w w' := by
  have HG : Hid (∀ W, Below w.heap.size w W → Calls Tryz.prog 33 #[ZonV nm ct vl] W fun e w' => e = .returned (.bool (zoneB nm.data.toList ct L)) ∧ Below W.heap.size W w') := fun W hW => iGoodZone_any nm ct vl L W (hr.kept hW) hn hxl (hE.below hW)
  have HD : Hid (∀ W, Below w.heap.size w W → Calls Tryz.prog 34 #[DifV f t va vu] W fun e w' => e = .returned (.bool (difB f t A U)) ∧ Below W.heap.size W w') := fun W hW => iGoodDiff_any f t va vu A U W (ha.kept hW) (hu.kept hW) hxa hxu (hE.below hW).1
  have HP : Hid (∀ W, Below w.heap.size w W → Calls Tryz.prog 35 #[DifV f t va vu, ZonV nm ct vl] W fun e w' => e = .returned (.bool (decide (ct = f) && (A.all (fun x => hasR L x) && U.all (fun x => !hasR L x)))) ∧ Below W.heap.size W w') := fun W hW => by
    have h := canBePut_any nm ct vl L f t va vu A U W (hr.kept hW) (ha.kept hW) (hu.kept hW) hla hlu
    rw [none_swap L U, show decide (f = ct) = decide (ct = f) from by rw [Bool.eq_iff_iff]; simp [eq_comm]] at h
    exact h
  have HLE : Hid (∀ W, Below w.heap.size w W → Calls Tryz.prog 37 #[vl, va] W fun e w' => (∃ u, e = .returned u ∧ OwnQ w' W.heap.size u (wthR L A)) ∧ Below W.heap.size W w') := fun W hW => recordsWithout_any vl va L A W (hr.kept hW) (ha.kept hW) hl
  have HAN : Hid (zoneB nm.data.toList ct L = true → difB f t A U = true → ∀ b v W, Below w.heap.size w W → OwnQ W b v (wthR L A) → Calls Tryz.prog 36 #[v, vu] W fun e w' => (∃ u, e = .returned u ∧ OwnQ w' W.heap.size u (andQ (wthR L A) U)) ∧ Below W.heap.size W w') := fun hz hd b v W hW hv => by
    have hz2 := zone_list hz
    have hd2 := dif_lists hd
    have l1 := listB_len hz2
    have l2 := listB_len hd2.2
    have l3 := wthR_le L A
    have g1 := goodq_of (list_ares hz2) hxl.out
    exact inOneList_any b v vu (wthR L A) U W (hE.below hW).1 hv (hu.kept hW) (by omega) (fun x hx => g1 x (wthR_mem hx)) (goodq_of (list_ares hd2.2) hxu.out) (wth_ris (list_ris hz2 g1) A)
  have HGO : Hid (∀ v W, Below w.heap.size w W → RRow W v (andQ (wthR L A) U) → Calls Tryz.prog 33 #[ZonV nm t v] W fun e w' => e = .returned (.bool (zoneB nm.data.toList t (andQ (wthR L A) U))) ∧ Below W.heap.size W w') := fun v W hW hv =>
    iGoodZone_any nm t v _ W hv hn (fun x hx => by
      rcases andQ_mem hx with h | h
      · exact hxl.out x (wthR_mem h)
      · exact hxu.out x h) (hE.below hW)
  have HCL : Hid (∀ W, Calls Tryz.prog 38 #[.string nm] W fun e w' => e = .returned (.string nm) ∧ Below W.heap.size W w') := fun W => cloneR_any nm W (by omega)
  obtain ⟨al, cl, rfl, hcl1, hcl, _⟩ := rrow_value hr
  obtain ⟨aa, ca, rfl, hca1, hca, _⟩ := rrow_value ha
  obtain ⟨au, cu, rfl, hcu1, hcu, _⟩ := rrow_value hu
  clear hr ha hu
  obtain ⟨W0, hW0⟩ : ∃ W0, W0 = ((w.alloc (.cells #[.string nm, .int .i64 ct, .slice al L.length cl] 31)).alloc (.cells #[.int .i64 f, .int .i64 t, .slice aa A.length ca, .slice au U.length cu] 36)).alloc (.cells #[.string ⟨#[]⟩, .int .i64 0, .slice none 0 0] 31) := ⟨_, rfl⟩
  have HW0 : Hid (((w.alloc (.cells #[.string nm, .int .i64 ct, .slice al L.length cl] 31)).alloc (.cells #[.int .i64 f, .int .i64 t, .slice aa A.length ca, .slice au U.length cu] 36)).alloc (.cells #[.string ⟨#[]⟩, .int .i64 0, .slice none 0 0] 31) = W0) := hW0.symm
  have HX : Hid (∀ W, Below W0.heap.size W0 W → (W.cell? ⟨w.heap.size, 0, none⟩ = some (.string nm) ∧ W.cell? ⟨w.heap.size, 1, none⟩ = some (.int .i64 ct) ∧ W.cell? ⟨w.heap.size, 2, none⟩ = some (.slice al L.length cl)) ∧ (W.cell? ⟨w.heap.size + 1, 0, none⟩ = some (.int .i64 f) ∧ W.cell? ⟨w.heap.size + 1, 1, none⟩ = some (.int .i64 t) ∧ W.cell? ⟨w.heap.size + 1, 2, none⟩ = some (.slice aa A.length ca) ∧ W.cell? ⟨w.heap.size + 1, 3, none⟩ = some (.slice au U.length cu)) ∧ ((W.cell? ⟨w.heap.size + 1 + 1, 0, none⟩ = some (.string ⟨#[]⟩) ∧ W.cell? ⟨w.heap.size + 1 + 1, 1, none⟩ = some (.int .i64 0) ∧ W.cell? ⟨w.heap.size + 1 + 1, 2, none⟩ = some (.slice none 0 0)) ∧ (W.frozen? ⟨w.heap.size + 1 + 1, 0, none⟩ = false ∧ W.frozen? ⟨w.heap.size + 1 + 1, 1, none⟩ = false ∧ W.frozen? ⟨w.heap.size + 1 + 1, 2, none⟩ = false)) ∧ W.heap[w.heap.size + 1 + 1]? = some (.cells #[.string ⟨#[]⟩, .int .i64 0, .slice none 0 0] 31) ∧ Below w.heap.size w W ∧ w.heap.size + 1 + 1 < W.heap.size) := fun W hW => by
    rw [hW0] at hW
    obtain ⟨q1, q2, q3, q4, q5⟩ := heaps3 hW
    exact ⟨(zon_cells q1).1, (dif_cells q2).1, zon_cells q3, q3, q4, q5⟩
  have hb0 : Below W0.heap.size W0 W0 := Below.refl _ _
  have HTR : Hid (∀ W W', Below W0.heap.size W0 W → Below W.heap.size W W' → Below W0.heap.size W0 W') := fun W W' h1 h2 => h1.trans (h2.mono h1.size)
  have HCAN : Hid (canB nm.data.toList ct L f t A U = (zoneB nm.data.toList ct L && (difB f t A U && (decide (ct = f) && (A.all (fun x => hasR L x) && U.all (fun x => !hasR L x)))))) := rfl
  obtain ⟨ok4, hok4⟩ : ∃ b, b = canB nm.data.toList ct L f t A U := ⟨_, rfl⟩
  obtain ⟨ok5, hok5⟩ : ∃ b, b = zoneB nm.data.toList t (andQ (wthR L A) U) := ⟨_, rfl⟩
  rw [← hok4, ← hok5]
  rw [← hok4] at HCAN
  rw [← hok5] at HGO
  obtain ⟨ok1, hok1⟩ : ∃ b, b = zoneB nm.data.toList ct L := ⟨_, rfl⟩
  obtain ⟨ok2, hok2⟩ : ∃ b, b = difB f t A U := ⟨_, rfl⟩
  obtain ⟨ok3, hok3⟩ : ∃ b, b = (decide (ct = f) && (A.all (fun x => hasR L x) && U.all (fun x => !hasR L x))) := ⟨_, rfl⟩
  rw [← hok1, ← hok2, ← hok3] at HCAN
  rw [← hok1] at HG HAN
  rw [← hok2] at HD HAN
  rw [← hok3] at HP
  clear hok1 hok2 hok3 hok4 hok5 hW0
  unfold ZonV at HG HP HGO ⊢
  unfold DifV at HD HP ⊢
  cases ok1 with
  | false =>
    have hF : ok4 = false := HCAN.out
    subst hF
    have HNO : (false && ok5) = false := rfl
    clear HCAN
    go_enter Tryz.func11, Tryz.ntmps11
    go_wp2_with fail
    rw [HW0.out]
    obtain ⟨⟨c0, c1, c2⟩, ⟨d0, d1, d2, d3⟩, ⟨⟨r0, r1, r2⟩, ⟨f0, f1, f2⟩⟩, HZ, hbw, hz⟩ := HX.out _ hb0
    refine (HG.out _ hbw).mono ?_
    rintro e w1 ⟨rfl, hb1⟩
    have hb01 := HTR.out _ _ hb0 hb1
    clear c0 c1 c2 d0 d1 d2 d3 r0 r1 r2 f0 f1 f2 HZ hbw hz
    obtain ⟨⟨c0, c1, c2⟩, ⟨d0, d1, d2, d3⟩, ⟨⟨r0, r1, r2⟩, ⟨f0, f1, f2⟩⟩, HZ, hbw, hz⟩ := HX.out _ hb01
    go_wp2_with fail
    (try simp only [Exit.inBlock, Exit.then])
    refine bodyPost_ret (results_row_tmp rfl _ _ (w.heap.size + 1 + 1) 31 #[.string ⟨#[]⟩, .int .i64 0, .slice none 0 0] (0, 0) _ (.bool false) rfl rfl ?_ Tryz.underlying31 rfl (by kernel_rfl)) rfl ⟨⟨fun _ => zown_no _ _, fun h => absurd h (by rw [HNO]; simp)⟩, ?_⟩
    · exact put3_heap HZ
    · exact put3_below hbw (by omega) _ _ _
  | true =>
  cases ok2 with
  | false =>
    have hF : ok4 = false := HCAN.out
    subst hF
    have HNO : (false && ok5) = false := rfl
    clear HCAN
    go_enter Tryz.func11, Tryz.ntmps11
    go_wp2_with fail
    rw [HW0.out]
    obtain ⟨⟨c0, c1, c2⟩, ⟨d0, d1, d2, d3⟩, ⟨⟨r0, r1, r2⟩, ⟨f0, f1, f2⟩⟩, HZ, hbw, hz⟩ := HX.out _ hb0
    refine (HG.out _ hbw).mono ?_
    rintro e w1 ⟨rfl, hb1⟩
    have hb01 := HTR.out _ _ hb0 hb1
    clear c0 c1 c2 d0 d1 d2 d3 r0 r1 r2 f0 f1 f2 HZ hbw hz
    obtain ⟨⟨c0, c1, c2⟩, ⟨d0, d1, d2, d3⟩, ⟨⟨r0, r1, r2⟩, ⟨f0, f1, f2⟩⟩, HZ, hbw, hz⟩ := HX.out _ hb01
    go_wp2_with fail
    refine (HD.out _ hbw).mono ?_
    rintro e w2 ⟨rfl, hb2⟩
    have hb02 := HTR.out _ _ hb01 hb2
    clear c0 c1 c2 d0 d1 d2 d3 r0 r1 r2 f0 f1 f2 HZ hbw hz
    obtain ⟨⟨c0, c1, c2⟩, ⟨d0, d1, d2, d3⟩, ⟨⟨r0, r1, r2⟩, ⟨f0, f1, f2⟩⟩, HZ, hbw, hz⟩ := HX.out _ hb02
    go_wp2_with fail
    (try simp only [Exit.inBlock, Exit.then])
    refine bodyPost_ret (results_row_tmp rfl _ _ (w.heap.size + 1 + 1) 31 #[.string ⟨#[]⟩, .int .i64 0, .slice none 0 0] (0, 0) _ (.bool false) rfl rfl ?_ Tryz.underlying31 rfl (by kernel_rfl)) rfl ⟨⟨fun _ => zown_no _ _, fun h => absurd h (by rw [HNO]; simp)⟩, ?_⟩
    · exact put3_heap HZ
    · exact put3_below hbw (by omega) _ _ _
  | true =>
  cases ok3 with
  | false =>
    have hF : ok4 = false := HCAN.out
    subst hF
    have HNO : (false && ok5) = false := rfl
    clear HCAN
    go_enter Tryz.func11, Tryz.ntmps11
    go_wp2_with fail
    rw [HW0.out]
    obtain ⟨⟨c0, c1, c2⟩, ⟨d0, d1, d2, d3⟩, ⟨⟨r0, r1, r2⟩, ⟨f0, f1, f2⟩⟩, HZ, hbw, hz⟩ := HX.out _ hb0
    refine (HG.out _ hbw).mono ?_
    rintro e w1 ⟨rfl, hb1⟩
    have hb01 := HTR.out _ _ hb0 hb1
    clear c0 c1 c2 d0 d1 d2 d3 r0 r1 r2 f0 f1 f2 HZ hbw hz
    obtain ⟨⟨c0, c1, c2⟩, ⟨d0, d1, d2, d3⟩, ⟨⟨r0, r1, r2⟩, ⟨f0, f1, f2⟩⟩, HZ, hbw, hz⟩ := HX.out _ hb01
    go_wp2_with fail
    refine (HD.out _ hbw).mono ?_
    rintro e w2 ⟨rfl, hb2⟩
    have hb02 := HTR.out _ _ hb01 hb2
    clear c0 c1 c2 d0 d1 d2 d3 r0 r1 r2 f0 f1 f2 HZ hbw hz
    obtain ⟨⟨c0, c1, c2⟩, ⟨d0, d1, d2, d3⟩, ⟨⟨r0, r1, r2⟩, ⟨f0, f1, f2⟩⟩, HZ, hbw, hz⟩ := HX.out _ hb02
    go_wp2_with fail
    refine (HP.out _ hbw).mono ?_
    rintro e w3 ⟨rfl, hb3⟩
    have hb03 := HTR.out _ _ hb02 hb3
    clear c0 c1 c2 d0 d1 d2 d3 r0 r1 r2 f0 f1 f2 HZ hbw hz
    obtain ⟨⟨c0, c1, c2⟩, ⟨d0, d1, d2, d3⟩, ⟨⟨r0, r1, r2⟩, ⟨f0, f1, f2⟩⟩, HZ, hbw, hz⟩ := HX.out _ hb03
    go_wp2_with fail
    (try simp only [Exit.inBlock, Exit.then])
    refine bodyPost_ret (results_row_tmp rfl _ _ (w.heap.size + 1 + 1) 31 #[.string ⟨#[]⟩, .int .i64 0, .slice none 0 0] (0, 0) _ (.bool false) rfl rfl ?_ Tryz.underlying31 rfl (by kernel_rfl)) rfl ⟨⟨fun _ => zown_no _ _, fun h => absurd h (by rw [HNO]; simp)⟩, ?_⟩
    · exact put3_heap HZ
    · exact put3_below hbw (by omega) _ _ _
  | true =>
  have hF : ok4 = true := HCAN.out
  subst hF
  have HAN2 := HAN.out rfl rfl
  clear HCAN HAN
  go_enter Tryz.func11, Tryz.ntmps11
  go_wp2_with fail
  rw [HW0.out]
  obtain ⟨⟨c0, c1, c2⟩, ⟨d0, d1, d2, d3⟩, ⟨⟨r0, r1, r2⟩, ⟨f0, f1, f2⟩⟩, HZ, hbw, hz⟩ := HX.out _ hb0
  refine (HG.out _ hbw).mono ?_
  rintro e w1 ⟨rfl, hb1⟩
  have hb01 := HTR.out _ _ hb0 hb1
  clear c0 c1 c2 d0 d1 d2 d3 r0 r1 r2 f0 f1 f2 HZ hbw hz
  obtain ⟨⟨c0, c1, c2⟩, ⟨d0, d1, d2, d3⟩, ⟨⟨r0, r1, r2⟩, ⟨f0, f1, f2⟩⟩, HZ, hbw, hz⟩ := HX.out _ hb01
  go_wp2_with fail
  refine (HD.out _ hbw).mono ?_
  rintro e w2 ⟨rfl, hb2⟩
  have hb02 := HTR.out _ _ hb01 hb2
  clear c0 c1 c2 d0 d1 d2 d3 r0 r1 r2 f0 f1 f2 HZ hbw hz
  obtain ⟨⟨c0, c1, c2⟩, ⟨d0, d1, d2, d3⟩, ⟨⟨r0, r1, r2⟩, ⟨f0, f1, f2⟩⟩, HZ, hbw, hz⟩ := HX.out _ hb02
  go_wp2_with fail
  refine (HP.out _ hbw).mono ?_
  rintro e w3 ⟨rfl, hb3⟩
  have hb03 := HTR.out _ _ hb02 hb3
  clear c0 c1 c2 d0 d1 d2 d3 r0 r1 r2 f0 f1 f2 HZ hbw hz
  obtain ⟨⟨c0, c1, c2⟩, ⟨d0, d1, d2, d3⟩, ⟨⟨r0, r1, r2⟩, ⟨f0, f1, f2⟩⟩, HZ, hbw, hz⟩ := HX.out _ hb03
  go_wp2_with fail
  have hS1 : Below w3.heap.size w3 w3.drew := (Below.refl _ _).drew
  have HXS : Hid (∀ W, Below w3.heap.size w3 W → (W.cell? ⟨w.heap.size, 0, none⟩ = some (.string nm) ∧ W.cell? ⟨w.heap.size, 1, none⟩ = some (.int .i64 ct) ∧ W.cell? ⟨w.heap.size, 2, none⟩ = some (.slice al L.length cl)) ∧ (W.cell? ⟨w.heap.size + 1, 0, none⟩ = some (.int .i64 f) ∧ W.cell? ⟨w.heap.size + 1, 1, none⟩ = some (.int .i64 t) ∧ W.cell? ⟨w.heap.size + 1, 2, none⟩ = some (.slice aa A.length ca) ∧ W.cell? ⟨w.heap.size + 1, 3, none⟩ = some (.slice au U.length cu)) ∧ ((W.cell? ⟨w.heap.size + 1 + 1, 0, none⟩ = some (.string ⟨#[]⟩) ∧ W.cell? ⟨w.heap.size + 1 + 1, 1, none⟩ = some (.int .i64 0) ∧ W.cell? ⟨w.heap.size + 1 + 1, 2, none⟩ = some (.slice none 0 0)) ∧ (W.frozen? ⟨w.heap.size + 1 + 1, 0, none⟩ = false ∧ W.frozen? ⟨w.heap.size + 1 + 1, 1, none⟩ = false ∧ W.frozen? ⟨w.heap.size + 1 + 1, 2, none⟩ = false)) ∧ W.heap[w.heap.size + 1 + 1]? = some (.cells #[.string ⟨#[]⟩, .int .i64 0, .slice none 0 0] 31) ∧ Below w.heap.size w W ∧ w.heap.size + 1 + 1 < W.heap.size) := fun W hW => HX.out W (HTR.out _ _ hb03 hW)
  have HBW : Hid (∀ W, Below w3.heap.size w3 W → Below w.heap.size w W) := fun W hW => (HXS.out W hW).2.2.2.2.1
  have HTS : Hid (∀ W W', Below w3.heap.size w3 W → Below W.heap.size W W' → Below w3.heap.size w3 W') := fun W W' h1 h2 => h1.trans (h2.mono h1.size)
  clear c0 c1 c2 d0 d1 d2 d3 r0 r1 r2 f0 f1 f2 HZ hbw hz
  refine wp_region_held_drew (S := fun W : World => Below w3.heap.size w3 W) (by kernel_rfl) hS1 (fun hHeld => ?_)
  refine wpAnyH_take (i := 0) (v := .pointer (some ⟨w.heap.size, 2, none⟩)) rfl (by kernel_rfl) (by kernel_rfl) (by kernel_rfl) (fun _ _ _ h => h) (Or.inl ⟨by rfl, ?_⟩) (by assumption) ?_
  · intro W hSW
    first | (go_simp; done) | rfl | go_simp
  simp only [Act.put, List.setIfInBounds_toArray]
  refine wpAnyH_take (i := 1) (v := .slice al L.length cl) rfl (by kernel_rfl) (by kernel_rfl) (by kernel_rfl) (fun _ _ _ h => h) (Or.inl ⟨by rfl, ?_⟩) (by assumption) ?_
  · intro W hSW
    obtain ⟨⟨q0, q1, q2⟩, ⟨y0, y1, y2, y3⟩, _⟩ := HXS.out _ hSW
    go_simp
  simp only [Act.put]
  refine wpAnyH_take (i := 2) (v := .pointer (some ⟨w.heap.size + 1, 2, none⟩)) rfl (by kernel_rfl) (by kernel_rfl) (by kernel_rfl) (fun _ _ _ h => h) (Or.inl ⟨by rfl, ?_⟩) (by assumption) ?_
  · intro W hSW
    first | (go_simp; done) | rfl | go_simp
  simp only [Act.put]
  refine wpAnyH_take (i := 3) (v := .slice aa A.length ca) rfl (by kernel_rfl) (by kernel_rfl) (by kernel_rfl) (fun _ _ _ h => h) (Or.inl ⟨by rfl, ?_⟩) (by assumption) ?_
  · intro W hSW
    obtain ⟨⟨q0, q1, q2⟩, ⟨y0, y1, y2, y3⟩, _⟩ := HXS.out _ hSW
    go_simp
  simp only [Act.put]
  refine wpAnyH_take (i := 5) (v := .pointer (some ⟨w.heap.size + 1, 3, none⟩)) rfl (by kernel_rfl) (by kernel_rfl) (by kernel_rfl) (fun _ _ _ h => h) (Or.inl ⟨by rfl, ?_⟩) (by assumption) ?_
  · intro W hSW
    first | (go_simp; done) | rfl | go_simp
  simp only [Act.put]
  refine wpAnyH_take (i := 6) (v := .slice au U.length cu) rfl (by kernel_rfl) (by kernel_rfl) (by kernel_rfl) (fun _ _ _ h => h) (Or.inl ⟨by rfl, ?_⟩) (by assumption) ?_
  · intro W hSW
    obtain ⟨⟨q0, q1, q2⟩, ⟨y0, y1, y2, y3⟩, _⟩ := HXS.out _ hSW
    go_simp
  simp only [Act.put]
  refine wpAnyH_ready (rs := [4]) (by kernel_rfl) (by simp) ?_
  refine AllReadyH.cons rfl (fun K hK => ?_) AllReadyH.nil
  rw [if_pos (by rfl)]
  go_simp
  refine (HLE.out _ (HBW.out _ hS1)).mono ?_
  rintro e w5 ⟨⟨u1, rfl, ho1⟩, hb5⟩
  obtain ⟨b1, m1, hu1, hm1⟩ := ho1.shape
  subst hu1
  go_simp
  have hS5 := HTS.out _ _ hS1 hb5
  refine hK.out _ _ hS5 (fun hSS => ?_)
  clear hK
  refine wpAnyH_ready (rs := [7]) (by kernel_rfl) (by simp) ?_
  refine AllReadyH.cons rfl (fun K hK => ?_) AllReadyH.nil
  rw [if_pos (by rfl)]
  go_simp
  refine (HAN2 _ _ _ (HBW.out _ hS5) ho1).mono ?_
  rintro e w6 ⟨⟨u2, rfl, ho2⟩, hb6⟩
  obtain ⟨b2, m2, hu2, hm2⟩ := ho2.shape
  subst hu2
  go_simp
  have hS6 := HTS.out _ _ hS5 hb6
  refine hK.out _ _ hS6 (fun hSS => ?_)
  clear hK
  refine wpAnyH_ready (rs := [8]) (by kernel_rfl) (by simp) ?_
  refine AllReadyH.cons rfl (fun K hK => ?_) AllReadyH.nil
  rw [if_pos (by rfl)]
  go_simp
  refine hK.out _ _ hS6 (fun hSS => ?_)
  clear hK
  refine wpAnyH_done (by kernel_rfl) ?_ _
  have HO6 : Hid (OwnQ w6 w5.heap.size (.slice b2 (andQ (wthR L A) U).length m2) (andQ (wthR L A) U)) := ho2
  have hw56 : w.heap.size + 1 + 1 < w5.heap.size := (HXS.out _ hS5).2.2.2.2.2
  clear ho1 ho2 hb5 hb6 hS5 hSS hS1 HAN2 HLE HG HD HP
  obtain ⟨⟨c0, c1, c2⟩, ⟨d0, d1, d2, d3⟩, ⟨⟨r0, r1, r2⟩, ⟨f0, f1, f2⟩⟩, HZ, hbw, hz⟩ := HXS.out _ hS6
  go_wp2_with fail
  have hT1 : Below w6.heap.size w6 w6.drew := (Below.refl _ _).drew
  have HXT : Hid (∀ W, Below w6.heap.size w6 W → (W.cell? ⟨w.heap.size, 0, none⟩ = some (.string nm) ∧ W.cell? ⟨w.heap.size, 1, none⟩ = some (.int .i64 ct) ∧ W.cell? ⟨w.heap.size, 2, none⟩ = some (.slice al L.length cl)) ∧ (W.cell? ⟨w.heap.size + 1, 0, none⟩ = some (.int .i64 f) ∧ W.cell? ⟨w.heap.size + 1, 1, none⟩ = some (.int .i64 t) ∧ W.cell? ⟨w.heap.size + 1, 2, none⟩ = some (.slice aa A.length ca) ∧ W.cell? ⟨w.heap.size + 1, 3, none⟩ = some (.slice au U.length cu)) ∧ ((W.cell? ⟨w.heap.size + 1 + 1, 0, none⟩ = some (.string ⟨#[]⟩) ∧ W.cell? ⟨w.heap.size + 1 + 1, 1, none⟩ = some (.int .i64 0) ∧ W.cell? ⟨w.heap.size + 1 + 1, 2, none⟩ = some (.slice none 0 0)) ∧ (W.frozen? ⟨w.heap.size + 1 + 1, 0, none⟩ = false ∧ W.frozen? ⟨w.heap.size + 1 + 1, 1, none⟩ = false ∧ W.frozen? ⟨w.heap.size + 1 + 1, 2, none⟩ = false)) ∧ W.heap[w.heap.size + 1 + 1]? = some (.cells #[.string ⟨#[]⟩, .int .i64 0, .slice none 0 0] 31) ∧ Below w.heap.size w W ∧ w.heap.size + 1 + 1 < W.heap.size) := fun W hW => HXS.out W (HTS.out _ _ hS6 hW)
  have HBT : Hid (∀ W, Below w6.heap.size w6 W → Below w.heap.size w W) := fun W hW => (HXT.out W hW).2.2.2.2.1
  have HTT : Hid (∀ W W', Below w6.heap.size w6 W → Below W.heap.size W W' → Below w6.heap.size w6 W') := fun W W' h1 h2 => h1.trans (h2.mono h1.size)
  have HOT : Hid (∀ W, Below w6.heap.size w6 W → OwnQ W w5.heap.size (.slice b2 (andQ (wthR L A) U).length m2) (andQ (wthR L A) U)) := fun W hW => HO6.out.kept hW
  have HLT : Hid (∀ b, (Value.slice b2 (andQ (wthR L A) U).length m2).ownBlock = some b → b < w6.heap.size) := fun b hb => (HO6.out.lt b hb).2
  clear c0 c1 c2 d0 d1 d2 d3 r0 r1 r2 f0 f1 f2 HZ hbw hz
  clear HXS HTS HBW hS6
  refine wp_region_held_drew (S := fun W : World => Below w6.heap.size w6 W) (by kernel_rfl) hT1 (fun hHeld => ?_)
  refine wpAnyH_take (i := 0) (v := .pointer (some ⟨w.heap.size, 0, none⟩)) rfl (by kernel_rfl) (by kernel_rfl) (by kernel_rfl) (fun _ _ _ h => h) (Or.inl ⟨by rfl, ?_⟩) (by assumption) ?_
  · intro W hSW
    first | (go_simp; done) | rfl | go_simp
  simp only [Act.put, List.setIfInBounds_toArray]
  refine wpAnyH_take (i := 1) (v := .string nm) rfl (by kernel_rfl) (by kernel_rfl) (by kernel_rfl) (fun _ _ _ h => h) (Or.inl ⟨by rfl, ?_⟩) (by assumption) ?_
  · intro W hSW
    obtain ⟨⟨q0, q1, q2⟩, ⟨y0, y1, y2, y3⟩, _⟩ := HXT.out _ hSW
    go_simp
  simp only [Act.put]
  refine wpAnyH_take (i := 3) (v := .pointer (some ⟨w.heap.size + 1, 1, none⟩)) rfl (by kernel_rfl) (by kernel_rfl) (by kernel_rfl) (fun _ _ _ h => h) (Or.inl ⟨by rfl, ?_⟩) (by assumption) ?_
  · intro W hSW
    first | (go_simp; done) | rfl | go_simp
  simp only [Act.put]
  refine wpAnyH_take (i := 4) (v := .int .i64 t) rfl (by kernel_rfl) (by kernel_rfl) (by kernel_rfl) (fun _ _ _ h => h) (Or.inl ⟨by rfl, ?_⟩) (by assumption) ?_
  · intro W hSW
    obtain ⟨⟨q0, q1, q2⟩, ⟨y0, y1, y2, y3⟩, _⟩ := HXT.out _ hSW
    go_simp
  simp only [Act.put]
  refine wpAnyH_take (i := 5) (v := .slice b2 (andQ (wthR L A) U).length m2) rfl (by kernel_rfl) (by kernel_rfl) (by kernel_rfl) (fun _ _ _ h => h) (Or.inl ⟨by rfl, ?_⟩) (by assumption) ?_
  · intro W hSW
    first | (go_simp; done) | rfl | go_simp
  simp only [Act.put]
  refine wpAnyH_ready (rs := [2, 7]) (by kernel_rfl) (by simp) ?_
  refine AllReadyH.cons rfl (fun K hK => ?_) (AllReadyH.cons rfl (fun K hK => ?_) AllReadyH.nil)
  · rw [if_pos (by rfl)]
    go_simp
    refine (HCL.out _).mono ?_
    rintro e w8 ⟨rfl, hb8⟩
    go_simp
    have hT8 := HTT.out _ _ hT1 hb8
    refine hK.out _ _ hT8 (fun hSS => ?_)
    clear hK
    have HO8 : Hid (OwnQ w8 w5.heap.size (.slice b2 (andQ (wthR L A) U).length m2) (andQ (wthR L A) U)) := HOT.out _ hT8
    refine wpAnyH_take (i := 6) (v := .agg #[.string nm, .int .i64 t, .slice b2 (andQ (wthR L A) U).length m2]) rfl (by kernel_rfl) (by kernel_rfl) (by kernel_rfl) (fun _ _ _ h => h) (Or.inl ⟨by rfl, ?_⟩) (by assumption) ?_
    · intro W hSW
      first | (go_simp; done) | rfl | go_simp
    simp only [Act.put]
    refine wpAnyH_ready (rs := [7]) (by kernel_rfl) (by simp) ?_
    refine AllReadyH.cons rfl (fun K hK => ?_) AllReadyH.nil
    rw [if_pos (by rfl)]
    go_simp
    have hT9 := Below.alloc hT8 (Below.size hT8) (.cells #[.string ⟨#[]⟩, .int .i64 0, .slice none 0 0] 31)
    refine hK.out _ _ hT9 (fun hSS => ?_)
    clear hK
    refine wpAnyH_ready (rs := [8]) (by kernel_rfl) (by simp) ?_
    refine AllReadyH.cons rfl (fun K hK => ?_) AllReadyH.nil
    rw [if_pos (by rfl)]
    have hF : (w8.alloc (.cells #[.string nm, .int .i64 t, .slice b2 (andQ (wthR L A) U).length m2] 31)).heap[w8.heap.size]? = some (.cells #[.string nm, .int .i64 t, .slice b2 (andQ (wthR L A) U).length m2] 31) := blk_new _ _
    have hRF := (HO8.out).kept ((Below.refl w8.heap.size w8).alloc (Nat.le_refl _) (.cells #[.string nm, .int .i64 t, .slice b2 (andQ (wthR L A) U).length m2] 31))
    have hSF := Below.alloc hT8 (Below.size hT8) (.cells #[.string nm, .int .i64 t, .slice b2 (andQ (wthR L A) U).length m2] 31)
    go_simp
    refine hK.out _ _ hSF (fun hSS => ?_)
    clear hK
    refine wpAnyH_done (by kernel_rfl) ?_ _
    obtain ⟨WF, gF, hWF, hgF⟩ : ∃ W g, W = (w8.alloc (.cells #[.string nm, .int .i64 t, .slice b2 (andQ (wthR L A) U).length m2] 31)) ∧ g = w8.heap.size := ⟨_, _, rfl, rfl⟩
    rw [← hWF] at hF hRF hSF ⊢
    rw [← hgF] at hF ⊢
    clear hWF hgF
    obtain ⟨⟨x0, x1, x2⟩, _⟩ := zon_cells hF
    have HF : Hid (WF.heap[gF]? = some (.cells #[.string nm, .int .i64 t, .slice b2 (andQ (wthR L A) U).length m2] 31)) := hF
    have hgl : gF < WF.heap.size := (Array.getElem?_eq_some_iff.1 hF).1
    have HRF : Hid (∀ W, Below WF.heap.size WF W → OwnQ W w5.heap.size (.slice b2 (andQ (wthR L A) U).length m2) (andQ (wthR L A) U)) := fun W hW => hRF.kept hW
    have HSF : Hid (Below w6.heap.size w6 WF) := hSF
    have hrow := hRF.row
    have hbwF : Below w.heap.size w WF := HBT.out _ hSF
    clear hSS hF hRF hSF
    go_wp2_with fail
    refine (HGO.out _ _ hbwF hrow).mono ?_
    rintro e w7 ⟨rfl, hb7⟩
    have hT7 := HTT.out _ _ HSF.out hb7
    obtain ⟨⟨c0, c1, c2⟩, ⟨d0, d1, d2, d3⟩, ⟨⟨r0, r1, r2⟩, ⟨f0, f1, f2⟩⟩, HZ, hbw, hz⟩ := HXT.out _ hT7
    have hF7 : w7.heap[gF]? = some (.cells #[.string nm, .int .i64 t, .slice b2 (andQ (wthR L A) U).length m2] 31) := (hb7.block _ hgl).trans HF.out
    obtain ⟨⟨x3, x4, x5⟩, _⟩ := zon_cells hF7
    have HR7 : Hid (OwnQ w7 w5.heap.size (.slice b2 (andQ (wthR L A) U).length m2) (andQ (wthR L A) U)) := HRF.out _ hb7
    clear x0 x1 x2 hF7 hrow hbwF
    cases ok5 with
    | false =>
      have HNO : (true && false) = false := rfl
      go_wp2_with fail
      (try simp only [Exit.inBlock, Exit.then])
      refine bodyPost_ret (results_row_tmp rfl _ _ (w.heap.size + 1 + 1) 31 #[.string ⟨#[]⟩, .int .i64 0, .slice none 0 0] (0, 0) _ (.bool false) rfl rfl ?_ Tryz.underlying31 rfl (by kernel_rfl)) rfl ⟨⟨fun _ => zown_no _ _, fun h => absurd h (by rw [HNO]; simp)⟩, ?_⟩
      · exact put3_heap HZ
      · exact put3_below hbw (by omega) _ _ _
    | true =>
      go_wp2_with fail
      (try simp only [Exit.inBlock, Exit.then])
      refine bodyPost_ret (results_row_tmp rfl _ _ (w.heap.size + 1 + 1) 31 #[.string nm, .int .i64 t, .slice b2 (andQ (wthR L A) U).length m2] (0, 0) _ (.bool true) rfl rfl ?_ Tryz.underlying31 rfl (by kernel_rfl)) rfl ⟨⟨fun h => absurd h (by simp), fun _ => ⟨_, rfl, ?_⟩⟩, ?_⟩
      · exact put3_heap HZ
      · exact (HR7.out.kpt (kpt_put3 _ (w.heap.size + 1 + 1) _ _ _ (S := fun k => k = w.heap.size + 1 + 1) rfl) (fun g hg h => by have h1 := HR7.out.lt g hg; omega)).base (by omega)
      · exact put3_below hbw (by omega) _ _ _
  · rw [if_pos (by rfl)]
    go_simp
    have hT9 := Below.alloc hT1 (Below.size hT1) (.cells #[.string ⟨#[]⟩, .int .i64 0, .slice none 0 0] 31)
    refine hK.out _ _ hT9 (fun hSS => ?_)
    clear hK
    refine wpAnyH_ready (rs := [2]) (by kernel_rfl) (by simp) ?_
    refine AllReadyH.cons rfl (fun K hK => ?_) AllReadyH.nil
    rw [if_pos (by rfl)]
    go_simp
    refine (HCL.out _).mono ?_
    rintro e w8 ⟨rfl, hb8⟩
    go_simp
    have hT8 := HTT.out _ _ hT9 hb8
    refine hK.out _ _ hT8 (fun hSS => ?_)
    clear hK
    have HO8 : Hid (OwnQ w8 w5.heap.size (.slice b2 (andQ (wthR L A) U).length m2) (andQ (wthR L A) U)) := HOT.out _ hT8
    refine wpAnyH_take (i := 6) (v := .agg #[.string nm, .int .i64 t, .slice b2 (andQ (wthR L A) U).length m2]) rfl (by kernel_rfl) (by kernel_rfl) (by kernel_rfl) (fun _ _ _ h => h) (Or.inl ⟨by rfl, ?_⟩) (by assumption) ?_
    · intro W hSW
      first | (go_simp; done) | rfl | go_simp
    simp only [Act.put]
    refine wpAnyH_ready (rs := [8]) (by kernel_rfl) (by simp) ?_
    refine AllReadyH.cons rfl (fun K hK => ?_) AllReadyH.nil
    rw [if_pos (by rfl)]
    have hk4 : w8.heap[w6.heap.size]? = some (.cells #[.string ⟨#[]⟩, .int .i64 0, .slice none 0 0] 31) := (hb8.block w6.heap.size (by simp)).trans (blk_new w6.drew _)
    have hgk := kpt_put3 w8 (w6.heap.size) (.string nm) (.int .i64 t) (.slice b2 (andQ (wthR L A) U).length m2) (S := fun k => k = w6.heap.size) rfl
    have hF := put3_heap (v0 := .string nm) (v1 := .int .i64 t) (v2 := .slice b2 (andQ (wthR L A) U).length m2) hk4
    have hRF := HO8.out.kpt hgk (fun b hb h => by have h1 := HLT.out b hb; omega)
    have hSF := put3_below hT8 (g := w6.heap.size) (Nat.le_refl _) (.string nm) (.int .i64 t) (.slice b2 (andQ (wthR L A) U).length m2)
    obtain ⟨⟨r0, r1, r2⟩, ⟨f0, f1, f2⟩⟩ := zon_cells hk4
    go_simp
    unfold put3 at hF hRF hSF
    refine hK.out _ _ hSF (fun hSS => ?_)
    clear hK r0 r1 r2 f0 f1 f2 hgk hk4
    refine wpAnyH_done (by kernel_rfl) ?_ _
    obtain ⟨WF, gF, hWF, hgF⟩ : ∃ W g, W = (((w8.setCell ⟨w6.heap.size, 0, none⟩ (.string nm)).setCell ⟨w6.heap.size, 1, none⟩ (.int .i64 t)).setCell ⟨w6.heap.size, 2, none⟩ (.slice b2 (andQ (wthR L A) U).length m2)) ∧ g = w6.heap.size := ⟨_, _, rfl, rfl⟩
    rw [← hWF] at hF hRF hSF ⊢
    rw [← hgF] at hF ⊢
    clear hWF hgF
    obtain ⟨⟨x0, x1, x2⟩, _⟩ := zon_cells hF
    have HF : Hid (WF.heap[gF]? = some (.cells #[.string nm, .int .i64 t, .slice b2 (andQ (wthR L A) U).length m2] 31)) := hF
    have hgl : gF < WF.heap.size := (Array.getElem?_eq_some_iff.1 hF).1
    have HRF : Hid (∀ W, Below WF.heap.size WF W → OwnQ W w5.heap.size (.slice b2 (andQ (wthR L A) U).length m2) (andQ (wthR L A) U)) := fun W hW => hRF.kept hW
    have HSF : Hid (Below w6.heap.size w6 WF) := hSF
    have hrow := hRF.row
    have hbwF : Below w.heap.size w WF := HBT.out _ hSF
    clear hSS hF hRF hSF
    go_wp2_with fail
    refine (HGO.out _ _ hbwF hrow).mono ?_
    rintro e w7 ⟨rfl, hb7⟩
    have hT7 := HTT.out _ _ HSF.out hb7
    obtain ⟨⟨c0, c1, c2⟩, ⟨d0, d1, d2, d3⟩, ⟨⟨r0, r1, r2⟩, ⟨f0, f1, f2⟩⟩, HZ, hbw, hz⟩ := HXT.out _ hT7
    have hF7 : w7.heap[gF]? = some (.cells #[.string nm, .int .i64 t, .slice b2 (andQ (wthR L A) U).length m2] 31) := (hb7.block _ hgl).trans HF.out
    obtain ⟨⟨x3, x4, x5⟩, _⟩ := zon_cells hF7
    have HR7 : Hid (OwnQ w7 w5.heap.size (.slice b2 (andQ (wthR L A) U).length m2) (andQ (wthR L A) U)) := HRF.out _ hb7
    clear x0 x1 x2 hF7 hrow hbwF
    cases ok5 with
    | false =>
      have HNO : (true && false) = false := rfl
      go_wp2_with fail
      (try simp only [Exit.inBlock, Exit.then])
      refine bodyPost_ret (results_row_tmp rfl _ _ (w.heap.size + 1 + 1) 31 #[.string ⟨#[]⟩, .int .i64 0, .slice none 0 0] (0, 0) _ (.bool false) rfl rfl ?_ Tryz.underlying31 rfl (by kernel_rfl)) rfl ⟨⟨fun _ => zown_no _ _, fun h => absurd h (by rw [HNO]; simp)⟩, ?_⟩
      · exact put3_heap HZ
      · exact put3_below hbw (by omega) _ _ _
    | true =>
      go_wp2_with fail
      (try simp only [Exit.inBlock, Exit.then])
      refine bodyPost_ret (results_row_tmp rfl _ _ (w.heap.size + 1 + 1) 31 #[.string nm, .int .i64 t, .slice b2 (andQ (wthR L A) U).length m2] (0, 0) _ (.bool true) rfl rfl ?_ Tryz.underlying31 rfl (by kernel_rfl)) rfl ⟨⟨fun h => absurd h (by simp), fun _ => ⟨_, rfl, ?_⟩⟩, ?_⟩
      · exact put3_heap HZ
      · exact (HR7.out.kpt (kpt_put3 _ (w.heap.size + 1 + 1) _ _ _ (S := fun k => k = w.heap.size + 1 + 1) rfl) (fun g hg h => by have h1 := HR7.out.lt g hg; omega)).base (by omega)
      · exact put3_below hbw (by omega) _ _ _
end Go.Proofs.YtdbbcepjdojdcaaGreatDoor
