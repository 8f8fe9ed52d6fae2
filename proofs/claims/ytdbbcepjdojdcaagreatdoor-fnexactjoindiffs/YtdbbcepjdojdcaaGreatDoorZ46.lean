import Derived.Test.YtdbbcepjdojdcaaGreatDoorZ41
import Derived.Test.YtdbbcepjdojdcaaGreatDoorZ44
import Derived.Test.YtdbbcepjdojdcaaGreatDoorZ45
import Derived.Deep.RegionHeld3
namespace Go.Proofs.YtdbbcepjdojdcaaGreatDoor
open Go.RowKit

set_option maxRecDepth 20000 in
set_option maxHeartbeats 32000000 in
theorem iJoinDiffs_any (f1 t1 : Int) (va vu : Value) (A1 U1 : List (List UInt8 × Int × Int × List UInt8)) (f2 t2 : Int) (vb vc : Value) (A2 U2 : List (List UInt8 × Int × Int × List UInt8)) (w : World) (ha : RRow w va A1) (hu : RRow w vu U1) (hb : RRow w vb A2) (hc : RRow w vc U2)
    (hxa : Hid (∀ x ∈ A1, x.1.length ≤ 1048576 ∧ x.2.2.2.length ≤ 1048576)) (hxu : Hid (∀ x ∈ U1, x.1.length ≤ 1048576 ∧ x.2.2.2.length ≤ 1048576)) (hxb : Hid (∀ x ∈ A2, x.1.length ≤ 1048576 ∧ x.2.2.2.length ≤ 1048576)) (hxc : Hid (∀ x ∈ U2, x.1.length ≤ 1048576 ∧ x.2.2.2.length ≤ 1048576)) (hE : EnvR w) :
    Calls Tryz.prog 18 #[DifV f1 t1 va vu, DifV f2 t2 vb vc] w fun e w' => (((joiB f1 t1 A1 U1 f2 t2 A2 U2 && difB f1 t2 (andQ (wthR A1 U2) (wthR A2 U1)) (andQ (wthR U1 A2) (wthR U2 A1))) = false → DOwn w' w.heap.size false 0 0 [] [] e) ∧ ((joiB f1 t1 A1 U1 f2 t2 A2 U2 && difB f1 t2 (andQ (wthR A1 U2) (wthR A2 U1)) (andQ (wthR U1 A2) (wthR U2 A1))) = true → DOwn w' w.heap.size true f1 t2 (andQ (wthR A1 U2) (wthR A2 U1)) (andQ (wthR U1 A2) (wthR U2 A1)) e)) ∧ Below w.heap.size w w' := by
  have HG1 : Hid (∀ W, Below w.heap.size w W → Calls Tryz.prog 34 #[DifV f1 t1 va vu] W fun e w' => e = .returned (.bool (difB f1 t1 A1 U1)) ∧ Below W.heap.size W w') := fun W hW => iGoodDiff_any f1 t1 va vu A1 U1 W (ha.kept hW) (hu.kept hW) hxa hxu (hE.below hW)
  have HG2 : Hid (∀ W, Below w.heap.size w W → Calls Tryz.prog 34 #[DifV f2 t2 vb vc] W fun e w' => e = .returned (.bool (difB f2 t2 A2 U2)) ∧ Below W.heap.size W w') := fun W hW => iGoodDiff_any f2 t2 vb vc A2 U2 W (hb.kept hW) (hc.kept hW) hxb hxc (hE.below hW)
  have HL1 : Hid (A1.length ≤ 1048576 → ∀ W, Below w.heap.size w W → Calls Tryz.prog 37 #[va, vc] W fun e w' => (∃ u, e = .returned u ∧ OwnQ w' W.heap.size u (wthR A1 U2)) ∧ Below W.heap.size W w') := fun hl W hW => recordsWithout_any va vc A1 U2 W (ha.kept hW) (hc.kept hW) hl
  have HL2 : Hid (A2.length ≤ 1048576 → ∀ W, Below w.heap.size w W → Calls Tryz.prog 37 #[vb, vu] W fun e w' => (∃ u, e = .returned u ∧ OwnQ w' W.heap.size u (wthR A2 U1)) ∧ Below W.heap.size W w') := fun hl W hW => recordsWithout_any vb vu A2 U1 W (hb.kept hW) (hu.kept hW) hl
  have HL3 : Hid (U1.length ≤ 1048576 → ∀ W, Below w.heap.size w W → Calls Tryz.prog 37 #[vu, vb] W fun e w' => (∃ u, e = .returned u ∧ OwnQ w' W.heap.size u (wthR U1 A2)) ∧ Below W.heap.size W w') := fun hl W hW => recordsWithout_any vu vb U1 A2 W (hu.kept hW) (hb.kept hW) hl
  have HL4 : Hid (U2.length ≤ 1048576 → ∀ W, Below w.heap.size w W → Calls Tryz.prog 37 #[vc, va] W fun e w' => (∃ u, e = .returned u ∧ OwnQ w' W.heap.size u (wthR U2 A1)) ∧ Below W.heap.size W w') := fun hl W hW => recordsWithout_any vc va U2 A1 W (hc.kept hW) (ha.kept hW) hl
  have HGQ : Hid (∀ {f t : Int} {A U : List (List UInt8 × Int × Int × List UInt8)}, difB f t A U = true → (∀ x ∈ A, x.1.length ≤ 1048576 ∧ x.2.2.2.length ≤ 1048576) → (∀ x ∈ U, x.1.length ≤ 1048576 ∧ x.2.2.2.length ≤ 1048576) → (A.length ≤ 40 ∧ (∀ x ∈ A, GoodQ x) ∧ risQ A) ∧ (U.length ≤ 40 ∧ (∀ x ∈ U, GoodQ x) ∧ risQ U)) := fun h hA hU => by
    have k := dif_lists h
    have g1 := goodq_of (list_ares k.1) hA
    have g2 := goodq_of (list_ares k.2) hU
    exact ⟨⟨listB_len k.1, g1, list_ris k.1 g1⟩, ⟨listB_len k.2, g2, list_ris k.2 g2⟩⟩
  have HN1 : Hid (difB f1 t1 A1 U1 = true → difB f2 t2 A2 U2 = true → ∀ b v v' W, Below w.heap.size w W → OwnQ W b v (wthR A1 U2) → RRow W v' (wthR A2 U1) → Calls Tryz.prog 36 #[v, v'] W fun e w' => (∃ u, e = .returned u ∧ OwnQ w' W.heap.size u (andQ (wthR A1 U2) (wthR A2 U1))) ∧ Below W.heap.size W w') := fun hd1 hd2 b v v' W hW hv hv' => by
    have q1 := HGQ.out hd1 hxa.out hxu.out
    have q2 := HGQ.out hd2 hxb.out hxc.out
    have l1 := wthR_le A1 U2
    have l2 := wthR_le A2 U1
    have l3 := q1.1.1
    have l4 := q2.1.1
    exact inOneList_any b v v' (wthR A1 U2) (wthR A2 U1) W (hE.below hW) hv hv' (by omega) (fun x hx => q1.1.2.1 x (wthR_mem hx)) (fun x hx => q2.1.2.1 x (wthR_mem hx)) (wth_ris q1.1.2.2 _)
  have HN2 : Hid (difB f1 t1 A1 U1 = true → difB f2 t2 A2 U2 = true → ∀ b v v' W, Below w.heap.size w W → OwnQ W b v (wthR U1 A2) → RRow W v' (wthR U2 A1) → Calls Tryz.prog 36 #[v, v'] W fun e w' => (∃ u, e = .returned u ∧ OwnQ w' W.heap.size u (andQ (wthR U1 A2) (wthR U2 A1))) ∧ Below W.heap.size W w') := fun hd1 hd2 b v v' W hW hv hv' => by
    have q1 := HGQ.out hd1 hxa.out hxu.out
    have q2 := HGQ.out hd2 hxb.out hxc.out
    have l1 := wthR_le U1 A2
    have l2 := wthR_le U2 A1
    have l3 := q1.2.1
    have l4 := q2.2.1
    exact inOneList_any b v v' (wthR U1 A2) (wthR U2 A1) W (hE.below hW) hv hv' (by omega) (fun x hx => q1.2.2.1 x (wthR_mem hx)) (fun x hx => q2.2.2.1 x (wthR_mem hx)) (wth_ris q1.2.2.2 _)
  have HGO : Hid (∀ v v' W, Below w.heap.size w W → RRow W v (andQ (wthR A1 U2) (wthR A2 U1)) → RRow W v' (andQ (wthR U1 A2) (wthR U2 A1)) → Calls Tryz.prog 34 #[DifV f1 t2 v v'] W fun e w' => e = .returned (.bool (difB f1 t2 (andQ (wthR A1 U2) (wthR A2 U1)) (andQ (wthR U1 A2) (wthR U2 A1)))) ∧ Below W.heap.size W w') := fun v v' W hW hv hv' =>
    iGoodDiff_any f1 t2 v v' _ _ W hv hv' (fun x hx => by
      rcases andQ_mem hx with h | h
      · exact hxa.out x (wthR_mem h)
      · exact hxb.out x (wthR_mem h)) (fun x hx => by
      rcases andQ_mem hx with h | h
      · exact hxu.out x (wthR_mem h)
      · exact hxc.out x (wthR_mem h)) (hE.below hW)
  have HLEN : Hid (difB f1 t1 A1 U1 = true → difB f2 t2 A2 U2 = true → A1.length ≤ 1048576 ∧ U1.length ≤ 1048576 ∧ A2.length ≤ 1048576 ∧ U2.length ≤ 1048576) := fun h1 h2 => by
    have q1 := HGQ.out h1 hxa.out hxu.out
    have q2 := HGQ.out h2 hxb.out hxc.out
    omega
  obtain ⟨a1, c1, rfl, hc11, hc1, _⟩ := rrow_value ha
  obtain ⟨b1, e1, rfl, he11, he1, _⟩ := rrow_value hu
  obtain ⟨a2, c2, rfl, hc21, hc2, _⟩ := rrow_value hb
  obtain ⟨b2, e2, rfl, he21, he2, _⟩ := rrow_value hc
  clear ha hu hb hc
  obtain ⟨W0, hW0⟩ : ∃ W0, W0 = ((w.alloc (.cells #[.int .i64 f1, .int .i64 t1, .slice a1 A1.length c1, .slice b1 U1.length e1] 36)).alloc (.cells #[.int .i64 f2, .int .i64 t2, .slice a2 A2.length c2, .slice b2 U2.length e2] 36)).alloc (.cells #[.int .i64 0, .int .i64 0, .slice none 0 0, .slice none 0 0] 36) := ⟨_, rfl⟩
  have HW0 : Hid (((w.alloc (.cells #[.int .i64 f1, .int .i64 t1, .slice a1 A1.length c1, .slice b1 U1.length e1] 36)).alloc (.cells #[.int .i64 f2, .int .i64 t2, .slice a2 A2.length c2, .slice b2 U2.length e2] 36)).alloc (.cells #[.int .i64 0, .int .i64 0, .slice none 0 0, .slice none 0 0] 36) = W0) := hW0.symm
  have HX : Hid (∀ W, Below W0.heap.size W0 W → (W.cell? ⟨w.heap.size, 0, none⟩ = some (.int .i64 f1) ∧ W.cell? ⟨w.heap.size, 1, none⟩ = some (.int .i64 t1) ∧ W.cell? ⟨w.heap.size, 2, none⟩ = some (.slice a1 A1.length c1) ∧ W.cell? ⟨w.heap.size, 3, none⟩ = some (.slice b1 U1.length e1)) ∧ (W.cell? ⟨w.heap.size + 1, 0, none⟩ = some (.int .i64 f2) ∧ W.cell? ⟨w.heap.size + 1, 1, none⟩ = some (.int .i64 t2) ∧ W.cell? ⟨w.heap.size + 1, 2, none⟩ = some (.slice a2 A2.length c2) ∧ W.cell? ⟨w.heap.size + 1, 3, none⟩ = some (.slice b2 U2.length e2)) ∧ ((W.cell? ⟨w.heap.size + 1 + 1, 0, none⟩ = some (.int .i64 0) ∧ W.cell? ⟨w.heap.size + 1 + 1, 1, none⟩ = some (.int .i64 0) ∧ W.cell? ⟨w.heap.size + 1 + 1, 2, none⟩ = some (.slice none 0 0) ∧ W.cell? ⟨w.heap.size + 1 + 1, 3, none⟩ = some (.slice none 0 0)) ∧ (W.frozen? ⟨w.heap.size + 1 + 1, 0, none⟩ = false ∧ W.frozen? ⟨w.heap.size + 1 + 1, 1, none⟩ = false ∧ W.frozen? ⟨w.heap.size + 1 + 1, 2, none⟩ = false ∧ W.frozen? ⟨w.heap.size + 1 + 1, 3, none⟩ = false)) ∧ W.heap[w.heap.size + 1 + 1]? = some (.cells #[.int .i64 0, .int .i64 0, .slice none 0 0, .slice none 0 0] 36) ∧ Below w.heap.size w W ∧ w.heap.size + 1 + 1 < W.heap.size) := fun W hW => by
    rw [hW0] at hW
    obtain ⟨q1, q2, q3, q4, q5⟩ := heaps3 hW
    exact ⟨(dif_cells q1).1, (dif_cells q2).1, dif_cells q3, q3, q4, q5⟩
  have hb0 : Below W0.heap.size W0 W0 := Below.refl _ _
  have HTR : Hid (∀ W W', Below W0.heap.size W0 W → Below W.heap.size W W' → Below W0.heap.size W0 W') := fun W W' h1 h2 => h1.trans (h2.mono h1.size)
  have HJO : Hid (joiB f1 t1 A1 U1 f2 t2 A2 U2 = (difB f1 t1 A1 U1 && (difB f2 t2 A2 U2 && decide (t1 = f2)))) := rfl
  obtain ⟨ok4, hok4⟩ : ∃ b, b = joiB f1 t1 A1 U1 f2 t2 A2 U2 := ⟨_, rfl⟩
  obtain ⟨ok5, hok5⟩ : ∃ b, b = difB f1 t2 (andQ (wthR A1 U2) (wthR A2 U1)) (andQ (wthR U1 A2) (wthR U2 A1)) := ⟨_, rfl⟩
  rw [← hok4, ← hok5]
  rw [← hok4] at HJO
  rw [← hok5] at HGO
  obtain ⟨ok1, hok1⟩ : ∃ b, b = difB f1 t1 A1 U1 := ⟨_, rfl⟩
  obtain ⟨ok2, hok2⟩ : ∃ b, b = difB f2 t2 A2 U2 := ⟨_, rfl⟩
  rw [← hok1] at HG1 HN1 HN2 HLEN HJO
  rw [← hok2] at HG2 HN1 HN2 HLEN HJO
  clear hok1 hok2 hok4 hok5 hW0 HGQ
  unfold DifV at HG1 HG2 HGO ⊢
  by_cases h3 : t1 = f2
  rotate_left
  · have hF : ok4 = false := HJO.out.trans (by simp [h3])
    subst hF
    have HNO : (false && ok5) = false := rfl
    have HNE : ((t1 == f2) : Bool) = false := by simpa using h3
    clear HJO
    go_enter Tryz.func18, Tryz.ntmps18
    go_wp2_with fail
    rw [HW0.out]
    obtain ⟨⟨p0, p1, p2, p3⟩, ⟨d0, d1, d2, d3⟩, ⟨⟨r0, r1, r2, r3⟩, ⟨f0, f1', f2', f3⟩⟩, HZ, hbw, hz⟩ := HX.out _ hb0
    go_wp2_with fail
    (try simp only [Exit.inBlock, Exit.then])
    refine bodyPost_ret (results_row_tmp rfl _ _ (w.heap.size + 1 + 1) 36 #[.int .i64 0, .int .i64 0, .slice none 0 0, .slice none 0 0] (0, 0) _ (.bool false) rfl rfl ?_ Tryz.underlying36 rfl (by kernel_rfl)) rfl ⟨⟨fun _ => down_no _ _, fun h => absurd h (by rw [HNO]; simp)⟩, ?_⟩
    · first | exact put4v_heap HZ | exact HZ
    · first | exact put4v_below hbw (by omega) _ _ _ _ | exact hbw
  cases ok1 with
  | false =>
    have hF : ok4 = false := HJO.out
    subst hF
    have HNO : (false && ok5) = false := rfl
    subst h3
    clear HJO
    go_enter Tryz.func18, Tryz.ntmps18
    go_wp2_with fail
    rw [HW0.out]
    obtain ⟨⟨p0, p1, p2, p3⟩, ⟨d0, d1, d2, d3⟩, ⟨⟨r0, r1, r2, r3⟩, ⟨f0, f1', f2', f3⟩⟩, HZ, hbw, hz⟩ := HX.out _ hb0
    refine (HG1.out _ hbw).mono ?_
    rintro e w1 ⟨rfl, hb1⟩
    have hb01 := HTR.out _ _ hb0 hb1
    clear p0 p1 p2 p3 d0 d1 d2 d3 r0 r1 r2 r3 f0 f1' f2' f3 HZ hbw hz
    obtain ⟨⟨p0, p1, p2, p3⟩, ⟨d0, d1, d2, d3⟩, ⟨⟨r0, r1, r2, r3⟩, ⟨f0, f1', f2', f3⟩⟩, HZ, hbw, hz⟩ := HX.out _ hb01
    go_wp2_with fail
    (try simp only [Exit.inBlock, Exit.then])
    refine bodyPost_ret (results_row_tmp rfl _ _ (w.heap.size + 1 + 1) 36 #[.int .i64 0, .int .i64 0, .slice none 0 0, .slice none 0 0] (0, 0) _ (.bool false) rfl rfl ?_ Tryz.underlying36 rfl (by kernel_rfl)) rfl ⟨⟨fun _ => down_no _ _, fun h => absurd h (by rw [HNO]; simp)⟩, ?_⟩
    · first | exact put4v_heap HZ | exact HZ
    · first | exact put4v_below hbw (by omega) _ _ _ _ | exact hbw
  | true =>
  cases ok2 with
  | false =>
    have hF : ok4 = false := HJO.out
    subst hF
    have HNO : (false && ok5) = false := rfl
    subst h3
    clear HJO
    go_enter Tryz.func18, Tryz.ntmps18
    go_wp2_with fail
    rw [HW0.out]
    obtain ⟨⟨p0, p1, p2, p3⟩, ⟨d0, d1, d2, d3⟩, ⟨⟨r0, r1, r2, r3⟩, ⟨f0, f1', f2', f3⟩⟩, HZ, hbw, hz⟩ := HX.out _ hb0
    refine (HG1.out _ hbw).mono ?_
    rintro e w1 ⟨rfl, hb1⟩
    have hb01 := HTR.out _ _ hb0 hb1
    clear p0 p1 p2 p3 d0 d1 d2 d3 r0 r1 r2 r3 f0 f1' f2' f3 HZ hbw hz
    obtain ⟨⟨p0, p1, p2, p3⟩, ⟨d0, d1, d2, d3⟩, ⟨⟨r0, r1, r2, r3⟩, ⟨f0, f1', f2', f3⟩⟩, HZ, hbw, hz⟩ := HX.out _ hb01
    go_wp2_with fail
    refine (HG2.out _ hbw).mono ?_
    rintro e w2 ⟨rfl, hb2⟩
    have hb02 := HTR.out _ _ hb01 hb2
    clear p0 p1 p2 p3 d0 d1 d2 d3 r0 r1 r2 r3 f0 f1' f2' f3 HZ hbw hz
    obtain ⟨⟨p0, p1, p2, p3⟩, ⟨d0, d1, d2, d3⟩, ⟨⟨r0, r1, r2, r3⟩, ⟨f0, f1', f2', f3⟩⟩, HZ, hbw, hz⟩ := HX.out _ hb02
    go_wp2_with fail
    (try simp only [Exit.inBlock, Exit.then])
    refine bodyPost_ret (results_row_tmp rfl _ _ (w.heap.size + 1 + 1) 36 #[.int .i64 0, .int .i64 0, .slice none 0 0, .slice none 0 0] (0, 0) _ (.bool false) rfl rfl ?_ Tryz.underlying36 rfl (by kernel_rfl)) rfl ⟨⟨fun _ => down_no _ _, fun h => absurd h (by rw [HNO]; simp)⟩, ?_⟩
    · first | exact put4v_heap HZ | exact HZ
    · first | exact put4v_below hbw (by omega) _ _ _ _ | exact hbw
  | true =>
  have hF : ok4 = true := HJO.out.trans (by simp [h3])
  subst hF
  subst h3
  clear HJO
  obtain ⟨l1, l2, l3, l4⟩ := HLEN.out rfl rfl
  have HA : Hid _ := HL1.out l1
  have HB : Hid _ := HL2.out l3
  have HC : Hid _ := HL3.out l2
  have HD : Hid _ := HL4.out l4
  have HM1 : Hid _ := HN1.out rfl rfl
  have HM2 : Hid _ := HN2.out rfl rfl
  clear HL1 HL2 HL3 HL4 HN1 HN2 HLEN l1 l2 l3 l4
  go_enter Tryz.func18, Tryz.ntmps18
  go_wp2_with fail
  rw [HW0.out]
  obtain ⟨⟨p0, p1, p2, p3⟩, ⟨d0, d1, d2, d3⟩, ⟨⟨r0, r1, r2, r3⟩, ⟨f0, f1', f2', f3⟩⟩, HZ, hbw, hz⟩ := HX.out _ hb0
  refine (HG1.out _ hbw).mono ?_
  rintro e w1 ⟨rfl, hb1⟩
  have hb01 := HTR.out _ _ hb0 hb1
  clear p0 p1 p2 p3 d0 d1 d2 d3 r0 r1 r2 r3 f0 f1' f2' f3 HZ hbw hz
  obtain ⟨⟨p0, p1, p2, p3⟩, ⟨d0, d1, d2, d3⟩, ⟨⟨r0, r1, r2, r3⟩, ⟨f0, f1', f2', f3⟩⟩, HZ, hbw, hz⟩ := HX.out _ hb01
  go_wp2_with fail
  refine (HG2.out _ hbw).mono ?_
  rintro e w2 ⟨rfl, hb2⟩
  have hb02 := HTR.out _ _ hb01 hb2
  clear p0 p1 p2 p3 d0 d1 d2 d3 r0 r1 r2 r3 f0 f1' f2' f3 HZ hbw hz
  obtain ⟨⟨p0, p1, p2, p3⟩, ⟨d0, d1, d2, d3⟩, ⟨⟨r0, r1, r2, r3⟩, ⟨f0, f1', f2', f3⟩⟩, HZ, hbw, hz⟩ := HX.out _ hb02
  go_wp2_with fail
  have HXS : Hid (∀ W, Below w2.heap.size w2 W → (W.cell? ⟨w.heap.size, 0, none⟩ = some (.int .i64 f1) ∧ W.cell? ⟨w.heap.size, 1, none⟩ = some (.int .i64 t1) ∧ W.cell? ⟨w.heap.size, 2, none⟩ = some (.slice a1 A1.length c1) ∧ W.cell? ⟨w.heap.size, 3, none⟩ = some (.slice b1 U1.length e1)) ∧ (W.cell? ⟨w.heap.size + 1, 0, none⟩ = some (.int .i64 t1) ∧ W.cell? ⟨w.heap.size + 1, 1, none⟩ = some (.int .i64 t2) ∧ W.cell? ⟨w.heap.size + 1, 2, none⟩ = some (.slice a2 A2.length c2) ∧ W.cell? ⟨w.heap.size + 1, 3, none⟩ = some (.slice b2 U2.length e2)) ∧ ((W.cell? ⟨w.heap.size + 1 + 1, 0, none⟩ = some (.int .i64 0) ∧ W.cell? ⟨w.heap.size + 1 + 1, 1, none⟩ = some (.int .i64 0) ∧ W.cell? ⟨w.heap.size + 1 + 1, 2, none⟩ = some (.slice none 0 0) ∧ W.cell? ⟨w.heap.size + 1 + 1, 3, none⟩ = some (.slice none 0 0)) ∧ (W.frozen? ⟨w.heap.size + 1 + 1, 0, none⟩ = false ∧ W.frozen? ⟨w.heap.size + 1 + 1, 1, none⟩ = false ∧ W.frozen? ⟨w.heap.size + 1 + 1, 2, none⟩ = false ∧ W.frozen? ⟨w.heap.size + 1 + 1, 3, none⟩ = false)) ∧ W.heap[w.heap.size + 1 + 1]? = some (.cells #[.int .i64 0, .int .i64 0, .slice none 0 0, .slice none 0 0] 36) ∧ Below w.heap.size w W ∧ w.heap.size + 1 + 1 < W.heap.size) := fun W hW => HX.out W (HTR.out _ _ hb02 hW)
  have HBW : Hid (∀ W, Below w2.heap.size w2 W → Below w.heap.size w W) := fun W hW => (HXS.out W hW).2.2.2.2.1
  have HTS : Hid (∀ W W', Below w2.heap.size w2 W → Below W.heap.size W W' → Below w2.heap.size w2 W') := fun W W' h1 h2 => h1.trans (h2.mono h1.size)
  clear p0 p1 p2 p3 d0 d1 d2 d3 r0 r1 r2 r3 f0 f1' f2' f3 HZ hbw hz
  clear HG1 HG2
  have hS2 : Below w2.heap.size w2 w2.drew := (Below.refl _ _).drew
  refine wp_region_held_drew (S := fun W : World => Below w2.heap.size w2 W) (by kernel_rfl) hS2 (fun hHeld => ?_)
  refine wpAnyH_take (i := 0) (v := .pointer (some ⟨w.heap.size, 0, none⟩)) rfl (by kernel_rfl) (by kernel_rfl) (by kernel_rfl) (fun _ _ _ h => h) (Or.inl ⟨by rfl, ?_⟩) (by assumption) ?_
  · intro W hSW
    first | (go_simp; done) | rfl | go_simp
  simp only [Act.put, List.getElem_toArray, List.getElem_cons_zero, List.setIfInBounds_toArray, List.set_cons_succ, List.set_cons_zero]
  refine wpAnyH_take (i := 1) (v := .int .i64 f1) rfl (by kernel_rfl) (by kernel_rfl) (by kernel_rfl) (fun _ _ _ h => h) (Or.inl ⟨by rfl, ?_⟩) (by assumption) ?_
  · intro W hSW
    obtain ⟨⟨q0, q1, q2, q3⟩, ⟨y0, y1, y2, y3⟩, _⟩ := HXS.out _ hSW
    go_simp
  simp only [Act.put, List.getElem_toArray, List.getElem_cons_succ, List.getElem_cons_zero, List.setIfInBounds_toArray, List.set_cons_succ, List.set_cons_zero]
  refine wpAnyH_take (i := 2) (v := .pointer (some ⟨w.heap.size + 1, 1, none⟩)) rfl (by kernel_rfl) (by kernel_rfl) (by kernel_rfl) (fun _ _ _ h => h) (Or.inl ⟨by rfl, ?_⟩) (by assumption) ?_
  · intro W hSW
    first | (go_simp; done) | rfl | go_simp
  simp only [Act.put, List.getElem_toArray, List.getElem_cons_succ, List.getElem_cons_zero, List.setIfInBounds_toArray, List.set_cons_succ, List.set_cons_zero]
  refine wpAnyH_take (i := 3) (v := .int .i64 t2) rfl (by kernel_rfl) (by kernel_rfl) (by kernel_rfl) (fun _ _ _ h => h) (Or.inl ⟨by rfl, ?_⟩) (by assumption) ?_
  · intro W hSW
    obtain ⟨⟨q0, q1, q2, q3⟩, ⟨y0, y1, y2, y3⟩, _⟩ := HXS.out _ hSW
    go_simp
  simp only [Act.put, List.getElem_toArray, List.getElem_cons_succ, List.getElem_cons_zero, List.setIfInBounds_toArray, List.set_cons_succ, List.set_cons_zero]
  refine wpAnyH_take (i := 4) (v := .pointer (some ⟨w.heap.size, 2, none⟩)) rfl (by kernel_rfl) (by kernel_rfl) (by kernel_rfl) (fun _ _ _ h => h) (Or.inl ⟨by rfl, ?_⟩) (by assumption) ?_
  · intro W hSW
    first | (go_simp; done) | rfl | go_simp
  simp only [Act.put, List.getElem_toArray, List.getElem_cons_succ, List.getElem_cons_zero, List.setIfInBounds_toArray, List.set_cons_succ, List.set_cons_zero]
  refine wpAnyH_take (i := 5) (v := .slice a1 A1.length c1) rfl (by kernel_rfl) (by kernel_rfl) (by kernel_rfl) (fun _ _ _ h => h) (Or.inl ⟨by rfl, ?_⟩) (by assumption) ?_
  · intro W hSW
    obtain ⟨⟨q0, q1, q2, q3⟩, ⟨y0, y1, y2, y3⟩, _⟩ := HXS.out _ hSW
    go_simp
  simp only [Act.put, List.getElem_toArray, List.getElem_cons_succ, List.getElem_cons_zero, List.setIfInBounds_toArray, List.set_cons_succ, List.set_cons_zero]
  refine wpAnyH_take (i := 6) (v := .pointer (some ⟨w.heap.size + 1, 3, none⟩)) rfl (by kernel_rfl) (by kernel_rfl) (by kernel_rfl) (fun _ _ _ h => h) (Or.inl ⟨by rfl, ?_⟩) (by assumption) ?_
  · intro W hSW
    first | (go_simp; done) | rfl | go_simp
  simp only [Act.put, List.getElem_toArray, List.getElem_cons_succ, List.getElem_cons_zero, List.setIfInBounds_toArray, List.set_cons_succ, List.set_cons_zero]
  refine wpAnyH_take (i := 7) (v := .slice b2 U2.length e2) rfl (by kernel_rfl) (by kernel_rfl) (by kernel_rfl) (fun _ _ _ h => h) (Or.inl ⟨by rfl, ?_⟩) (by assumption) ?_
  · intro W hSW
    obtain ⟨⟨q0, q1, q2, q3⟩, ⟨y0, y1, y2, y3⟩, _⟩ := HXS.out _ hSW
    go_simp
  simp only [Act.put, List.getElem_toArray, List.getElem_cons_succ, List.getElem_cons_zero, List.setIfInBounds_toArray, List.set_cons_succ, List.set_cons_zero]
  refine wpAnyH_take (i := 9) (v := .pointer (some ⟨w.heap.size + 1, 2, none⟩)) rfl (by kernel_rfl) (by kernel_rfl) (by kernel_rfl) (fun _ _ _ h => h) (Or.inl ⟨by rfl, ?_⟩) (by assumption) ?_
  · intro W hSW
    first | (go_simp; done) | rfl | go_simp
  simp only [Act.put, List.getElem_toArray, List.getElem_cons_succ, List.getElem_cons_zero, List.setIfInBounds_toArray, List.set_cons_succ, List.set_cons_zero]
  refine wpAnyH_take (i := 10) (v := .slice a2 A2.length c2) rfl (by kernel_rfl) (by kernel_rfl) (by kernel_rfl) (fun _ _ _ h => h) (Or.inl ⟨by rfl, ?_⟩) (by assumption) ?_
  · intro W hSW
    obtain ⟨⟨q0, q1, q2, q3⟩, ⟨y0, y1, y2, y3⟩, _⟩ := HXS.out _ hSW
    go_simp
  simp only [Act.put, List.getElem_toArray, List.getElem_cons_succ, List.getElem_cons_zero, List.setIfInBounds_toArray, List.set_cons_succ, List.set_cons_zero]
  refine wpAnyH_take (i := 11) (v := .pointer (some ⟨w.heap.size, 3, none⟩)) rfl (by kernel_rfl) (by kernel_rfl) (by kernel_rfl) (fun _ _ _ h => h) (Or.inl ⟨by rfl, ?_⟩) (by assumption) ?_
  · intro W hSW
    first | (go_simp; done) | rfl | go_simp
  simp only [Act.put, List.getElem_toArray, List.getElem_cons_succ, List.getElem_cons_zero, List.setIfInBounds_toArray, List.set_cons_succ, List.set_cons_zero]
  refine wpAnyH_take (i := 12) (v := .slice b1 U1.length e1) rfl (by kernel_rfl) (by kernel_rfl) (by kernel_rfl) (fun _ _ _ h => h) (Or.inl ⟨by rfl, ?_⟩) (by assumption) ?_
  · intro W hSW
    obtain ⟨⟨q0, q1, q2, q3⟩, ⟨y0, y1, y2, y3⟩, _⟩ := HXS.out _ hSW
    go_simp
  simp only [Act.put, List.getElem_toArray, List.getElem_cons_succ, List.getElem_cons_zero, List.setIfInBounds_toArray, List.set_cons_succ, List.set_cons_zero]
  refine wpAnyH_take (i := 15) (v := .pointer (some ⟨w.heap.size, 3, none⟩)) rfl (by kernel_rfl) (by kernel_rfl) (by kernel_rfl) (fun _ _ _ h => h) (Or.inl ⟨by rfl, ?_⟩) (by assumption) ?_
  · intro W hSW
    first | (go_simp; done) | rfl | go_simp
  simp only [Act.put, List.getElem_toArray, List.getElem_cons_succ, List.getElem_cons_zero, List.setIfInBounds_toArray, List.set_cons_succ, List.set_cons_zero]
  refine wpAnyH_take (i := 16) (v := .slice b1 U1.length e1) rfl (by kernel_rfl) (by kernel_rfl) (by kernel_rfl) (fun _ _ _ h => h) (Or.inl ⟨by rfl, ?_⟩) (by assumption) ?_
  · intro W hSW
    obtain ⟨⟨q0, q1, q2, q3⟩, ⟨y0, y1, y2, y3⟩, _⟩ := HXS.out _ hSW
    go_simp
  simp only [Act.put, List.getElem_toArray, List.getElem_cons_succ, List.getElem_cons_zero, List.setIfInBounds_toArray, List.set_cons_succ, List.set_cons_zero]
  refine wpAnyH_take (i := 17) (v := .pointer (some ⟨w.heap.size + 1, 2, none⟩)) rfl (by kernel_rfl) (by kernel_rfl) (by kernel_rfl) (fun _ _ _ h => h) (Or.inl ⟨by rfl, ?_⟩) (by assumption) ?_
  · intro W hSW
    first | (go_simp; done) | rfl | go_simp
  simp only [Act.put, List.getElem_toArray, List.getElem_cons_succ, List.getElem_cons_zero, List.setIfInBounds_toArray, List.set_cons_succ, List.set_cons_zero]
  refine wpAnyH_take (i := 18) (v := .slice a2 A2.length c2) rfl (by kernel_rfl) (by kernel_rfl) (by kernel_rfl) (fun _ _ _ h => h) (Or.inl ⟨by rfl, ?_⟩) (by assumption) ?_
  · intro W hSW
    obtain ⟨⟨q0, q1, q2, q3⟩, ⟨y0, y1, y2, y3⟩, _⟩ := HXS.out _ hSW
    go_simp
  simp only [Act.put, List.getElem_toArray, List.getElem_cons_succ, List.getElem_cons_zero, List.setIfInBounds_toArray, List.set_cons_succ, List.set_cons_zero]
  refine wpAnyH_take (i := 20) (v := .pointer (some ⟨w.heap.size + 1, 3, none⟩)) rfl (by kernel_rfl) (by kernel_rfl) (by kernel_rfl) (fun _ _ _ h => h) (Or.inl ⟨by rfl, ?_⟩) (by assumption) ?_
  · intro W hSW
    first | (go_simp; done) | rfl | go_simp
  simp only [Act.put, List.getElem_toArray, List.getElem_cons_succ, List.getElem_cons_zero, List.setIfInBounds_toArray, List.set_cons_succ, List.set_cons_zero]
  refine wpAnyH_take (i := 21) (v := .slice b2 U2.length e2) rfl (by kernel_rfl) (by kernel_rfl) (by kernel_rfl) (fun _ _ _ h => h) (Or.inl ⟨by rfl, ?_⟩) (by assumption) ?_
  · intro W hSW
    obtain ⟨⟨q0, q1, q2, q3⟩, ⟨y0, y1, y2, y3⟩, _⟩ := HXS.out _ hSW
    go_simp
  simp only [Act.put, List.getElem_toArray, List.getElem_cons_succ, List.getElem_cons_zero, List.setIfInBounds_toArray, List.set_cons_succ, List.set_cons_zero]
  refine wpAnyH_take (i := 22) (v := .pointer (some ⟨w.heap.size, 2, none⟩)) rfl (by kernel_rfl) (by kernel_rfl) (by kernel_rfl) (fun _ _ _ h => h) (Or.inl ⟨by rfl, ?_⟩) (by assumption) ?_
  · intro W hSW
    first | (go_simp; done) | rfl | go_simp
  simp only [Act.put, List.getElem_toArray, List.getElem_cons_succ, List.getElem_cons_zero, List.setIfInBounds_toArray, List.set_cons_succ, List.set_cons_zero]
  refine wpAnyH_take (i := 23) (v := .slice a1 A1.length c1) rfl (by kernel_rfl) (by kernel_rfl) (by kernel_rfl) (fun _ _ _ h => h) (Or.inl ⟨by rfl, ?_⟩) (by assumption) ?_
  · intro W hSW
    obtain ⟨⟨q0, q1, q2, q3⟩, ⟨y0, y1, y2, y3⟩, _⟩ := HXS.out _ hSW
    go_simp
  simp only [Act.put, List.getElem_toArray, List.getElem_cons_succ, List.getElem_cons_zero, List.setIfInBounds_toArray, List.set_cons_succ, List.set_cons_zero]
  refine wpAnyH_ready (rs := [8, 27]) (by kernel_rfl) (by simp) ?_
  refine AllReadyH.cons rfl (fun K hK => ?_) (AllReadyH.cons rfl (fun K hK => ?_) AllReadyH.nil)
  · rw [if_pos (by rfl)]
    go_simp
    refine (HA.out _ (HBW.out _ hS2)).mono ?_
    rintro e w4 ⟨⟨u4, rfl, ho4⟩, hb4⟩
    obtain ⟨g4, m4, hu4, hm4⟩ := ho4.shape
    subst hu4
    go_simp
    have hS4 := HTS.out _ _ hS2 hb4
    refine hK.out _ _ hS4 (fun hSS => ?_)
    clear hK
    refine wpAnyH_ready (rs := [13, 27]) (by kernel_rfl) (by simp) ?_
    refine AllReadyH.cons rfl (fun K hK => ?_) (AllReadyH.cons rfl (fun K hK => ?_) AllReadyH.nil)
    · rw [if_pos (by rfl)]
      go_simp
      refine (HB.out _ (HBW.out _ hS4)).mono ?_
      rintro e w5 ⟨⟨u5, rfl, ho5⟩, hb5⟩
      obtain ⟨g5, m5, hu5, hm5⟩ := ho5.shape
      subst hu5
      go_simp
      have hS5 := HTS.out _ _ hS4 hb5
      refine hK.out _ _ hS5 (fun hSS => ?_)
      clear hK
      refine wpAnyH_ready (rs := [14, 27]) (by kernel_rfl) (by simp) ?_
      refine AllReadyH.cons rfl (fun K hK => ?_) (AllReadyH.cons rfl (fun K hK => ?_) AllReadyH.nil)
      · rw [if_pos (by rfl)]
        go_simp
        refine (HM1.out _ _ _ _ (HBW.out _ hS5) (ho4.kept hb5) ho5.row).mono ?_
        rintro e w6 ⟨⟨u6, rfl, ho6⟩, hb6⟩
        obtain ⟨g6, m6, hu6, hm6⟩ := ho6.shape
        subst hu6
        go_simp
        have hS6 := HTS.out _ _ hS5 hb6
        refine hK.out _ _ hS6 (fun hSS => ?_)
        clear hK
        refine wpAnyH_ready (rs := [19, 27]) (by kernel_rfl) (by simp) ?_
        refine AllReadyH.cons rfl (fun K hK => ?_) (AllReadyH.cons rfl (fun K hK => ?_) AllReadyH.nil)
        · rw [if_pos (by rfl)]
          go_simp
          refine (HC.out _ (HBW.out _ hS6)).mono ?_
          rintro e w8 ⟨⟨u8, rfl, ho8⟩, hb8⟩
          obtain ⟨g8, m8, hu8, hm8⟩ := ho8.shape
          subst hu8
          go_simp
          have hS8 := HTS.out _ _ hS6 hb8
          refine hK.out _ _ hS8 (fun hSS => ?_)
          clear hK
          refine wpAnyH_ready (rs := [24, 27]) (by kernel_rfl) (by simp) ?_
          refine AllReadyH.cons rfl (fun K hK => ?_) (AllReadyH.cons rfl (fun K hK => ?_) AllReadyH.nil)
          · rw [if_pos (by rfl)]
            go_simp
            refine (HD.out _ (HBW.out _ hS8)).mono ?_
            rintro e w9 ⟨⟨u9, rfl, ho9⟩, hb9⟩
            obtain ⟨g9, m9, hu9, hm9⟩ := ho9.shape
            subst hu9
            go_simp
            have hS9 := HTS.out _ _ hS8 hb9
            refine hK.out _ _ hS9 (fun hSS => ?_)
            clear hK
            refine wpAnyH_ready (rs := [25, 27]) (by kernel_rfl) (by simp) ?_
            refine AllReadyH.cons rfl (fun K hK => ?_) (AllReadyH.cons rfl (fun K hK => ?_) AllReadyH.nil)
            · rw [if_pos (by rfl)]
              go_simp
              refine (HM2.out _ _ _ _ (HBW.out _ hS9) (ho8.kept hb9) ho9.row).mono ?_
              rintro e w10 ⟨⟨u10, rfl, ho10⟩, hb10⟩
              obtain ⟨g10, m10, hu10, hm10⟩ := ho10.shape
              subst hu10
              go_simp
              have hS10 := HTS.out _ _ hS9 hb10
              refine hK.out _ _ hS10 (fun hSS => ?_)
              clear hK
              refine wpAnyH_take (i := 26) (v := .agg #[.int .i64 f1, .int .i64 t2, .slice g6 (andQ (wthR A1 U2) (wthR A2 U1)).length m6, .slice g10 (andQ (wthR U1 A2) (wthR U2 A1)).length m10]) rfl (by kernel_rfl) (by kernel_rfl) (by kernel_rfl) (fun _ _ _ h => h) (Or.inl ⟨by rfl, ?_⟩) (by assumption) ?_
              · intro W hSW
                first | (go_simp; done) | rfl | go_simp
              simp only [Act.put, List.getElem_toArray, List.getElem_cons_succ, List.getElem_cons_zero, List.setIfInBounds_toArray, List.set_cons_succ, List.set_cons_zero]
              refine wpAnyH_ready (rs := [27]) (by kernel_rfl) (by simp) ?_
              refine AllReadyH.cons rfl (fun K hK => ?_) AllReadyH.nil
              rw [if_pos (by rfl)]
              go_simp
              have hSB := Below.alloc hS10 (Below.size hS10) (.cells #[.int .i64 0, .int .i64 0, .slice none 0 0, .slice none 0 0] 36)
              refine hK.out _ _ hSB (fun hSS => ?_)
              clear hK
              refine wpAnyH_ready (rs := [28]) (by kernel_rfl) (by simp) ?_
              refine AllReadyH.cons rfl (fun K hK => ?_) AllReadyH.nil
              rw [if_pos (by rfl)]
              have hF : (w10.alloc (.cells #[.int .i64 f1, .int .i64 t2, .slice g6 (andQ (wthR A1 U2) (wthR A2 U1)).length m6, .slice g10 (andQ (wthR U1 A2) (wthR U2 A1)).length m10] 36)).heap[w10.heap.size]? = some (.cells #[.int .i64 f1, .int .i64 t2, .slice g6 (andQ (wthR A1 U2) (wthR A2 U1)).length m6, .slice g10 (andQ (wthR U1 A2) (wthR U2 A1)).length m10] 36) := blk_new _ _
              have hRA := ((((ho6.kept hb8).kept hb9).kept hb10).kept ((Below.refl w10.heap.size w10).alloc (Nat.le_refl _) (.cells #[.int .i64 f1, .int .i64 t2, .slice g6 (andQ (wthR A1 U2) (wthR A2 U1)).length m6, .slice g10 (andQ (wthR U1 A2) (wthR U2 A1)).length m10] 36)))
              have hRU := ho10.kept ((Below.refl w10.heap.size w10).alloc (Nat.le_refl _) (.cells #[.int .i64 f1, .int .i64 t2, .slice g6 (andQ (wthR A1 U2) (wthR A2 U1)).length m6, .slice g10 (andQ (wthR U1 A2) (wthR U2 A1)).length m10] 36))
              have hSF := Below.alloc hS10 (Below.size hS10) (.cells #[.int .i64 f1, .int .i64 t2, .slice g6 (andQ (wthR A1 U2) (wthR A2 U1)).length m6, .slice g10 (andQ (wthR U1 A2) (wthR U2 A1)).length m10] 36)
              have hgl : w6.heap.size ≤ w9.heap.size := Nat.le_trans hb8.size hb9.size
              have hg2 : w2.heap.size ≤ w5.heap.size := hS5.size
              go_simp
              refine hK.out _ _ hSF (fun hSS => ?_)
              clear hK
              refine wpAnyH_done (by kernel_rfl) ?_ _
              obtain ⟨WF, gF, hWF, hgF⟩ : ∃ W g, W = (w10.alloc (.cells #[.int .i64 f1, .int .i64 t2, .slice g6 (andQ (wthR A1 U2) (wthR A2 U1)).length m6, .slice g10 (andQ (wthR U1 A2) (wthR U2 A1)).length m10] 36)) ∧ g = w10.heap.size := ⟨_, _, rfl, rfl⟩
              rw [← hWF] at hF hRA hRU hSF ⊢
              rw [← hgF] at hF ⊢
              clear hWF hgF
              have HAP : Hid (∀ g, (Value.slice g6 (andQ (wthR A1 U2) (wthR A2 U1)).length m6).ownBlock = some g → (Value.slice g10 (andQ (wthR U1 A2) (wthR U2 A1)).length m10).ownBlock ≠ some g) := fun g h1 h2 => by
                have k1 := ho6.lt g h1
                have k2 := ho10.lt g h2
                (try simp at k1)
                (try simp at k2)
                omega
              have hRA2 : OwnQ WF w2.heap.size (.slice g6 (andQ (wthR A1 U2) (wthR A2 U1)).length m6) (andQ (wthR A1 U2) (wthR A2 U1)) := hRA.base (by (try simp); omega)
              have hRU2 : OwnQ WF w2.heap.size (.slice g10 (andQ (wthR U1 A2) (wthR U2 A1)).length m10) (andQ (wthR U1 A2) (wthR U2 A1)) := hRU.base (by have q := hS9.size; (try simp); omega)
              have HKF : Hid (WF.heap[gF]? = some (.cells #[.int .i64 f1, .int .i64 t2, .slice g6 (andQ (wthR A1 U2) (wthR A2 U1)).length m6, .slice g10 (andQ (wthR U1 A2) (wthR U2 A1)).length m10] 36)) := hF
              have hzF : gF < WF.heap.size := (Array.getElem?_eq_some_iff.1 hF).1
              have HRA : Hid (∀ W, Below WF.heap.size WF W → OwnQ W w2.heap.size (.slice g6 (andQ (wthR A1 U2) (wthR A2 U1)).length m6) (andQ (wthR A1 U2) (wthR A2 U1)) ∧ OwnQ W w2.heap.size (.slice g10 (andQ (wthR U1 A2) (wthR U2 A1)).length m10) (andQ (wthR U1 A2) (wthR U2 A1))) := fun W hW => ⟨hRA2.kept hW, hRU2.kept hW⟩
              have hrA := hRA2.row
              have hrU := hRU2.row
              have HSF : Hid (Below w2.heap.size w2 WF) := hSF
              have hbF := HBW.out _ hSF
              have hz2 : w.heap.size + 1 + 1 < w2.heap.size := (HXS.out _ (Below.refl _ _)).2.2.2.2.2
              obtain ⟨k0, k1, k2, k3⟩ := dif4 hF
              clear hF hRA hRU hRA2 hRU2 hSF hSS
              go_wp2_with fail
              refine (HGO.out _ _ _ hbF hrA hrU).mono ?_
              rintro e w11 ⟨rfl, hb11⟩
              have hS11 := HTS.out _ _ HSF.out hb11
              obtain ⟨⟨p0, p1, p2, p3⟩, ⟨d0, d1, d2, d3⟩, ⟨⟨r0, r1, r2, r3⟩, ⟨f0, f1', f2', f3⟩⟩, HZ, hbw, hz⟩ := HXS.out _ hS11
              have hK11 : w11.heap[gF]? = some (.cells #[.int .i64 f1, .int .i64 t2, .slice g6 (andQ (wthR A1 U2) (wthR A2 U1)).length m6, .slice g10 (andQ (wthR U1 A2) (wthR U2 A1)).length m10] 36) := (hb11.block _ hzF).trans HKF.out
              obtain ⟨h0, h1, h2, h3⟩ := dif4 hK11
              have HRA2 := HRA.out _ hb11
              have HRB : Hid (OwnQ w11 w2.heap.size (.slice g6 (andQ (wthR A1 U2) (wthR A2 U1)).length m6) (andQ (wthR A1 U2) (wthR A2 U1)) ∧ OwnQ w11 w2.heap.size (.slice g10 (andQ (wthR U1 A2) (wthR U2 A1)).length m10) (andQ (wthR U1 A2) (wthR U2 A1))) := HRA2
              clear k0 k1 k2 k3 hK11 HRA2 hrA hrU hbF
              cases ok5 with
              | false =>
                have HNO : (true && false) = false := rfl
                go_wp2_with fail
                (try simp only [Exit.inBlock, Exit.then])
                refine bodyPost_ret (results_row_tmp rfl _ _ (w.heap.size + 1 + 1) 36 #[.int .i64 0, .int .i64 0, .slice none 0 0, .slice none 0 0] (0, 0) _ (.bool false) rfl rfl ?_ Tryz.underlying36 rfl (by kernel_rfl)) rfl ⟨⟨fun _ => down_no _ _, fun h => absurd h (by rw [HNO]; simp)⟩, ?_⟩
                · first | exact put4v_heap HZ | exact HZ
                · first | exact put4v_below hbw (by omega) _ _ _ _ | exact hbw
              | true =>
                go_wp2_with fail
                (try simp only [Exit.inBlock, Exit.then])
                refine bodyPost_ret (results_row_tmp rfl _ _ (w.heap.size + 1 + 1) 36 #[.int .i64 f1, .int .i64 t2, .slice g6 (andQ (wthR A1 U2) (wthR A2 U1)).length m6, .slice g10 (andQ (wthR U1 A2) (wthR U2 A1)).length m10] (0, 0) _ (.bool true) rfl rfl ?_ Tryz.underlying36 rfl (by kernel_rfl)) rfl ⟨⟨fun h => absurd h (by simp), fun _ => ⟨_, _, rfl, ?_, ?_, HAP.out⟩⟩, ?_⟩
                · exact put4v_heap HZ
                · exact (HRB.out.1.kpt (kpt_put4v _ (w.heap.size + 1 + 1) _ _ _ _ (S := fun k => k = w.heap.size + 1 + 1) rfl) (fun g hg h => by have h1 := HRB.out.1.lt g hg; omega)).base (by omega)
                · exact (HRB.out.2.kpt (kpt_put4v _ (w.heap.size + 1 + 1) _ _ _ _ (S := fun k => k = w.heap.size + 1 + 1) rfl) (fun g hg h => by have h1 := HRB.out.2.lt g hg; omega)).base (by omega)
                · exact put4v_below hbw (by omega) _ _ _ _
            · rw [if_pos (by rfl)]
              go_simp
              have hSB := Below.alloc hS9 (Below.size hS9) (.cells #[.int .i64 0, .int .i64 0, .slice none 0 0, .slice none 0 0] 36)
              refine hK.out _ _ hSB (fun hSS => ?_)
              clear hK
              refine wpAnyH_ready (rs := [25]) (by kernel_rfl) (by simp) ?_
              refine AllReadyH.cons rfl (fun K hK => ?_) AllReadyH.nil
              rw [if_pos (by rfl)]
              go_simp
              refine (HM2.out _ _ _ _ (HBW.out _ hSB) ((ho8.kept hb9).kept ((Below.refl _ _).alloc (Nat.le_refl _) _)) (ho9.kept ((Below.refl _ _).alloc (Nat.le_refl _) _)).row).mono ?_
              rintro e w10 ⟨⟨u10, rfl, ho10⟩, hb10⟩
              obtain ⟨g10, m10, hu10, hm10⟩ := ho10.shape
              subst hu10
              go_simp
              have hS10 := HTS.out _ _ hSB hb10
              refine hK.out _ _ hS10 (fun hSS => ?_)
              clear hK
              refine wpAnyH_take (i := 26) (v := .agg #[.int .i64 f1, .int .i64 t2, .slice g6 (andQ (wthR A1 U2) (wthR A2 U1)).length m6, .slice g10 (andQ (wthR U1 A2) (wthR U2 A1)).length m10]) rfl (by kernel_rfl) (by kernel_rfl) (by kernel_rfl) (fun _ _ _ h => h) (Or.inl ⟨by rfl, ?_⟩) (by assumption) ?_
              · intro W hSW
                first | (go_simp; done) | rfl | go_simp
              simp only [Act.put, List.getElem_toArray, List.getElem_cons_succ, List.getElem_cons_zero, List.setIfInBounds_toArray, List.set_cons_succ, List.set_cons_zero]
              refine wpAnyH_ready (rs := [28]) (by kernel_rfl) (by simp) ?_
              refine AllReadyH.cons rfl (fun K hK => ?_) AllReadyH.nil
              rw [if_pos (by rfl)]
              have hk4 : w10.heap[w9.heap.size]? = some (.cells #[.int .i64 0, .int .i64 0, .slice none 0 0, .slice none 0 0] 36) := ((hb10.block w9.heap.size (by simp)).trans (blk_new w9 _))
              have hgk := kpt_put4v w10 (w9.heap.size) (.int .i64 f1) (.int .i64 t2) (.slice g6 (andQ (wthR A1 U2) (wthR A2 U1)).length m6) (.slice g10 (andQ (wthR U1 A2) (wthR U2 A1)).length m10) (S := fun k => k = w9.heap.size) rfl
              have hF := put4v_heap (v0 := .int .i64 f1) (v1 := .int .i64 t2) (v2 := .slice g6 (andQ (wthR A1 U2) (wthR A2 U1)).length m6) (v3 := .slice g10 (andQ (wthR U1 A2) (wthR U2 A1)).length m10) hk4
              have hRA0 := ((((ho6.kept hb8).kept hb9).kept ((Below.refl _ _).alloc (Nat.le_refl _) _)).kept hb10)
              have hRA := hRA0.kpt hgk (fun b hb h => by have q := ho6.lt b hb; have q0 := hb4.size; have q1 := hb5.size; have q2 := hb6.size; have q3 := hb8.size; have q4 := hb9.size; have q5 := hb10.size; (try simp at q); (try simp at q0 q1 q2 q3 q4 q5); omega)
              have hRU := ho10.kpt hgk (fun b hb h => by have q := ho10.lt b hb; have q0 := hb4.size; have q1 := hb5.size; have q2 := hb6.size; have q3 := hb8.size; have q4 := hb9.size; have q5 := hb10.size; (try simp at q); (try simp at q0 q1 q2 q3 q4 q5); omega)
              have hgB : w2.heap.size ≤ w9.heap.size := hS9.size
              have hSF := put4v_below hS10 (g := w9.heap.size) hgB (.int .i64 f1) (.int .i64 t2) (.slice g6 (andQ (wthR A1 U2) (wthR A2 U1)).length m6) (.slice g10 (andQ (wthR U1 A2) (wthR U2 A1)).length m10)
              have hgl : w6.heap.size ≤ w9.heap.size := by have q0 := hb4.size; have q1 := hb5.size; have q2 := hb6.size; have q3 := hb8.size; have q4 := hb9.size; have q5 := hb10.size; (try simp at q0 q1 q2 q3 q4 q5); omega
              have hg2 : w2.heap.size ≤ w5.heap.size := hS5.size
              obtain ⟨⟨s0, s1, s2, s3⟩, ⟨z0, z1, z2, z3⟩⟩ := dif_cells hk4
              go_simp
              unfold put4v at hF hRA hRU hSF
              refine hK.out _ _ hSF (fun hSS => ?_)
              clear hK s0 s1 s2 s3 z0 z1 z2 z3 hgk hk4
              refine wpAnyH_done (by kernel_rfl) ?_ _
              obtain ⟨WF, gF, hWF, hgF⟩ : ∃ W g, W = (((((w10).setCell ⟨w9.heap.size, 0, none⟩ (.int .i64 f1)).setCell ⟨w9.heap.size, 1, none⟩ (.int .i64 t2)).setCell ⟨w9.heap.size, 2, none⟩ (.slice g6 (andQ (wthR A1 U2) (wthR A2 U1)).length m6)).setCell ⟨w9.heap.size, 3, none⟩ (.slice g10 (andQ (wthR U1 A2) (wthR U2 A1)).length m10)) ∧ g = w9.heap.size := ⟨_, _, rfl, rfl⟩
              rw [← hWF] at hF hRA hRU hSF ⊢
              rw [← hgF] at hF ⊢
              clear hWF hgF
              have HAP : Hid (∀ g, (Value.slice g6 (andQ (wthR A1 U2) (wthR A2 U1)).length m6).ownBlock = some g → (Value.slice g10 (andQ (wthR U1 A2) (wthR U2 A1)).length m10).ownBlock ≠ some g) := fun g h1 h2 => by
                have k1 := ho6.lt g h1
                have k2 := ho10.lt g h2
                (try simp at k1)
                (try simp at k2)
                omega
              have hRA2 : OwnQ WF w2.heap.size (.slice g6 (andQ (wthR A1 U2) (wthR A2 U1)).length m6) (andQ (wthR A1 U2) (wthR A2 U1)) := hRA.base (by (try simp); omega)
              have hRU2 : OwnQ WF w2.heap.size (.slice g10 (andQ (wthR U1 A2) (wthR U2 A1)).length m10) (andQ (wthR U1 A2) (wthR U2 A1)) := hRU.base (by have q := hS9.size; (try simp); omega)
              have HKF : Hid (WF.heap[gF]? = some (.cells #[.int .i64 f1, .int .i64 t2, .slice g6 (andQ (wthR A1 U2) (wthR A2 U1)).length m6, .slice g10 (andQ (wthR U1 A2) (wthR U2 A1)).length m10] 36)) := hF
              have hzF : gF < WF.heap.size := (Array.getElem?_eq_some_iff.1 hF).1
              have HRA : Hid (∀ W, Below WF.heap.size WF W → OwnQ W w2.heap.size (.slice g6 (andQ (wthR A1 U2) (wthR A2 U1)).length m6) (andQ (wthR A1 U2) (wthR A2 U1)) ∧ OwnQ W w2.heap.size (.slice g10 (andQ (wthR U1 A2) (wthR U2 A1)).length m10) (andQ (wthR U1 A2) (wthR U2 A1))) := fun W hW => ⟨hRA2.kept hW, hRU2.kept hW⟩
              have hrA := hRA2.row
              have hrU := hRU2.row
              have HSF : Hid (Below w2.heap.size w2 WF) := hSF
              have hbF := HBW.out _ hSF
              have hz2 : w.heap.size + 1 + 1 < w2.heap.size := (HXS.out _ (Below.refl _ _)).2.2.2.2.2
              obtain ⟨k0, k1, k2, k3⟩ := dif4 hF
              clear hF hRA hRU hRA2 hRU2 hSF hSS
              go_wp2_with fail
              refine (HGO.out _ _ _ hbF hrA hrU).mono ?_
              rintro e w11 ⟨rfl, hb11⟩
              have hS11 := HTS.out _ _ HSF.out hb11
              obtain ⟨⟨p0, p1, p2, p3⟩, ⟨d0, d1, d2, d3⟩, ⟨⟨r0, r1, r2, r3⟩, ⟨f0, f1', f2', f3⟩⟩, HZ, hbw, hz⟩ := HXS.out _ hS11
              have hK11 : w11.heap[gF]? = some (.cells #[.int .i64 f1, .int .i64 t2, .slice g6 (andQ (wthR A1 U2) (wthR A2 U1)).length m6, .slice g10 (andQ (wthR U1 A2) (wthR U2 A1)).length m10] 36) := (hb11.block _ hzF).trans HKF.out
              obtain ⟨h0, h1, h2, h3⟩ := dif4 hK11
              have HRA2 := HRA.out _ hb11
              have HRB : Hid (OwnQ w11 w2.heap.size (.slice g6 (andQ (wthR A1 U2) (wthR A2 U1)).length m6) (andQ (wthR A1 U2) (wthR A2 U1)) ∧ OwnQ w11 w2.heap.size (.slice g10 (andQ (wthR U1 A2) (wthR U2 A1)).length m10) (andQ (wthR U1 A2) (wthR U2 A1))) := HRA2
              clear k0 k1 k2 k3 hK11 HRA2 hrA hrU hbF
              cases ok5 with
              | false =>
                have HNO : (true && false) = false := rfl
                go_wp2_with fail
                (try simp only [Exit.inBlock, Exit.then])
                refine bodyPost_ret (results_row_tmp rfl _ _ (w.heap.size + 1 + 1) 36 #[.int .i64 0, .int .i64 0, .slice none 0 0, .slice none 0 0] (0, 0) _ (.bool false) rfl rfl ?_ Tryz.underlying36 rfl (by kernel_rfl)) rfl ⟨⟨fun _ => down_no _ _, fun h => absurd h (by rw [HNO]; simp)⟩, ?_⟩
                · first | exact put4v_heap HZ | exact HZ
                · first | exact put4v_below hbw (by omega) _ _ _ _ | exact hbw
              | true =>
                go_wp2_with fail
                (try simp only [Exit.inBlock, Exit.then])
                refine bodyPost_ret (results_row_tmp rfl _ _ (w.heap.size + 1 + 1) 36 #[.int .i64 f1, .int .i64 t2, .slice g6 (andQ (wthR A1 U2) (wthR A2 U1)).length m6, .slice g10 (andQ (wthR U1 A2) (wthR U2 A1)).length m10] (0, 0) _ (.bool true) rfl rfl ?_ Tryz.underlying36 rfl (by kernel_rfl)) rfl ⟨⟨fun h => absurd h (by simp), fun _ => ⟨_, _, rfl, ?_, ?_, HAP.out⟩⟩, ?_⟩
                · exact put4v_heap HZ
                · exact (HRB.out.1.kpt (kpt_put4v _ (w.heap.size + 1 + 1) _ _ _ _ (S := fun k => k = w.heap.size + 1 + 1) rfl) (fun g hg h => by have h1 := HRB.out.1.lt g hg; omega)).base (by omega)
                · exact (HRB.out.2.kpt (kpt_put4v _ (w.heap.size + 1 + 1) _ _ _ _ (S := fun k => k = w.heap.size + 1 + 1) rfl) (fun g hg h => by have h1 := HRB.out.2.lt g hg; omega)).base (by omega)
                · exact put4v_below hbw (by omega) _ _ _ _
          · rw [if_pos (by rfl)]
            go_simp
            have hSB := Below.alloc hS8 (Below.size hS8) (.cells #[.int .i64 0, .int .i64 0, .slice none 0 0, .slice none 0 0] 36)
            refine hK.out _ _ hSB (fun hSS => ?_)
            clear hK
            refine wpAnyH_ready (rs := [24]) (by kernel_rfl) (by simp) ?_
            refine AllReadyH.cons rfl (fun K hK => ?_) AllReadyH.nil
            rw [if_pos (by rfl)]
            go_simp
            refine (HD.out _ (HBW.out _ hSB)).mono ?_
            rintro e w9 ⟨⟨u9, rfl, ho9⟩, hb9⟩
            obtain ⟨g9, m9, hu9, hm9⟩ := ho9.shape
            subst hu9
            go_simp
            have hS9 := HTS.out _ _ hSB hb9
            refine hK.out _ _ hS9 (fun hSS => ?_)
            clear hK
            refine wpAnyH_ready (rs := [25]) (by kernel_rfl) (by simp) ?_
            refine AllReadyH.cons rfl (fun K hK => ?_) AllReadyH.nil
            rw [if_pos (by rfl)]
            go_simp
            refine (HM2.out _ _ _ _ (HBW.out _ hS9) ((ho8.kept ((Below.refl _ _).alloc (Nat.le_refl _) _)).kept hb9) ho9.row).mono ?_
            rintro e w10 ⟨⟨u10, rfl, ho10⟩, hb10⟩
            obtain ⟨g10, m10, hu10, hm10⟩ := ho10.shape
            subst hu10
            go_simp
            have hS10 := HTS.out _ _ hS9 hb10
            refine hK.out _ _ hS10 (fun hSS => ?_)
            clear hK
            refine wpAnyH_take (i := 26) (v := .agg #[.int .i64 f1, .int .i64 t2, .slice g6 (andQ (wthR A1 U2) (wthR A2 U1)).length m6, .slice g10 (andQ (wthR U1 A2) (wthR U2 A1)).length m10]) rfl (by kernel_rfl) (by kernel_rfl) (by kernel_rfl) (fun _ _ _ h => h) (Or.inl ⟨by rfl, ?_⟩) (by assumption) ?_
            · intro W hSW
              first | (go_simp; done) | rfl | go_simp
            simp only [Act.put, List.getElem_toArray, List.getElem_cons_succ, List.getElem_cons_zero, List.setIfInBounds_toArray, List.set_cons_succ, List.set_cons_zero]
            refine wpAnyH_ready (rs := [28]) (by kernel_rfl) (by simp) ?_
            refine AllReadyH.cons rfl (fun K hK => ?_) AllReadyH.nil
            rw [if_pos (by rfl)]
            have hk4 : w10.heap[w8.heap.size]? = some (.cells #[.int .i64 0, .int .i64 0, .slice none 0 0, .slice none 0 0] 36) := ((hb10.block w8.heap.size (by have q0 := hb9.size; simp at q0; omega)).trans ((hb9.block w8.heap.size (by simp)).trans (blk_new w8 _)))
            have hgk := kpt_put4v w10 (w8.heap.size) (.int .i64 f1) (.int .i64 t2) (.slice g6 (andQ (wthR A1 U2) (wthR A2 U1)).length m6) (.slice g10 (andQ (wthR U1 A2) (wthR U2 A1)).length m10) (S := fun k => k = w8.heap.size) rfl
            have hF := put4v_heap (v0 := .int .i64 f1) (v1 := .int .i64 t2) (v2 := .slice g6 (andQ (wthR A1 U2) (wthR A2 U1)).length m6) (v3 := .slice g10 (andQ (wthR U1 A2) (wthR U2 A1)).length m10) hk4
            have hRA0 := ((((ho6.kept hb8).kept ((Below.refl _ _).alloc (Nat.le_refl _) _)).kept hb9).kept hb10)
            have hRA := hRA0.kpt hgk (fun b hb h => by have q := ho6.lt b hb; have q0 := hb4.size; have q1 := hb5.size; have q2 := hb6.size; have q3 := hb8.size; have q4 := hb9.size; have q5 := hb10.size; (try simp at q); (try simp at q0 q1 q2 q3 q4 q5); omega)
            have hRU := ho10.kpt hgk (fun b hb h => by have q := ho10.lt b hb; have q0 := hb4.size; have q1 := hb5.size; have q2 := hb6.size; have q3 := hb8.size; have q4 := hb9.size; have q5 := hb10.size; (try simp at q); (try simp at q0 q1 q2 q3 q4 q5); omega)
            have hgB : w2.heap.size ≤ w8.heap.size := hS8.size
            have hSF := put4v_below hS10 (g := w8.heap.size) hgB (.int .i64 f1) (.int .i64 t2) (.slice g6 (andQ (wthR A1 U2) (wthR A2 U1)).length m6) (.slice g10 (andQ (wthR U1 A2) (wthR U2 A1)).length m10)
            have hgl : w6.heap.size ≤ w9.heap.size := by have q0 := hb4.size; have q1 := hb5.size; have q2 := hb6.size; have q3 := hb8.size; have q4 := hb9.size; have q5 := hb10.size; (try simp at q0 q1 q2 q3 q4 q5); omega
            have hg2 : w2.heap.size ≤ w5.heap.size := hS5.size
            obtain ⟨⟨s0, s1, s2, s3⟩, ⟨z0, z1, z2, z3⟩⟩ := dif_cells hk4
            go_simp
            unfold put4v at hF hRA hRU hSF
            refine hK.out _ _ hSF (fun hSS => ?_)
            clear hK s0 s1 s2 s3 z0 z1 z2 z3 hgk hk4
            refine wpAnyH_done (by kernel_rfl) ?_ _
            obtain ⟨WF, gF, hWF, hgF⟩ : ∃ W g, W = (((((w10).setCell ⟨w8.heap.size, 0, none⟩ (.int .i64 f1)).setCell ⟨w8.heap.size, 1, none⟩ (.int .i64 t2)).setCell ⟨w8.heap.size, 2, none⟩ (.slice g6 (andQ (wthR A1 U2) (wthR A2 U1)).length m6)).setCell ⟨w8.heap.size, 3, none⟩ (.slice g10 (andQ (wthR U1 A2) (wthR U2 A1)).length m10)) ∧ g = w8.heap.size := ⟨_, _, rfl, rfl⟩
            rw [← hWF] at hF hRA hRU hSF ⊢
            rw [← hgF] at hF ⊢
            clear hWF hgF
            have HAP : Hid (∀ g, (Value.slice g6 (andQ (wthR A1 U2) (wthR A2 U1)).length m6).ownBlock = some g → (Value.slice g10 (andQ (wthR U1 A2) (wthR U2 A1)).length m10).ownBlock ≠ some g) := fun g h1 h2 => by
              have k1 := ho6.lt g h1
              have k2 := ho10.lt g h2
              (try simp at k1)
              (try simp at k2)
              omega
            have hRA2 : OwnQ WF w2.heap.size (.slice g6 (andQ (wthR A1 U2) (wthR A2 U1)).length m6) (andQ (wthR A1 U2) (wthR A2 U1)) := hRA.base (by (try simp); omega)
            have hRU2 : OwnQ WF w2.heap.size (.slice g10 (andQ (wthR U1 A2) (wthR U2 A1)).length m10) (andQ (wthR U1 A2) (wthR U2 A1)) := hRU.base (by have q := hS9.size; (try simp); omega)
            have HKF : Hid (WF.heap[gF]? = some (.cells #[.int .i64 f1, .int .i64 t2, .slice g6 (andQ (wthR A1 U2) (wthR A2 U1)).length m6, .slice g10 (andQ (wthR U1 A2) (wthR U2 A1)).length m10] 36)) := hF
            have hzF : gF < WF.heap.size := (Array.getElem?_eq_some_iff.1 hF).1
            have HRA : Hid (∀ W, Below WF.heap.size WF W → OwnQ W w2.heap.size (.slice g6 (andQ (wthR A1 U2) (wthR A2 U1)).length m6) (andQ (wthR A1 U2) (wthR A2 U1)) ∧ OwnQ W w2.heap.size (.slice g10 (andQ (wthR U1 A2) (wthR U2 A1)).length m10) (andQ (wthR U1 A2) (wthR U2 A1))) := fun W hW => ⟨hRA2.kept hW, hRU2.kept hW⟩
            have hrA := hRA2.row
            have hrU := hRU2.row
            have HSF : Hid (Below w2.heap.size w2 WF) := hSF
            have hbF := HBW.out _ hSF
            have hz2 : w.heap.size + 1 + 1 < w2.heap.size := (HXS.out _ (Below.refl _ _)).2.2.2.2.2
            obtain ⟨k0, k1, k2, k3⟩ := dif4 hF
            clear hF hRA hRU hRA2 hRU2 hSF hSS
            go_wp2_with fail
            refine (HGO.out _ _ _ hbF hrA hrU).mono ?_
            rintro e w11 ⟨rfl, hb11⟩
            have hS11 := HTS.out _ _ HSF.out hb11
            obtain ⟨⟨p0, p1, p2, p3⟩, ⟨d0, d1, d2, d3⟩, ⟨⟨r0, r1, r2, r3⟩, ⟨f0, f1', f2', f3⟩⟩, HZ, hbw, hz⟩ := HXS.out _ hS11
            have hK11 : w11.heap[gF]? = some (.cells #[.int .i64 f1, .int .i64 t2, .slice g6 (andQ (wthR A1 U2) (wthR A2 U1)).length m6, .slice g10 (andQ (wthR U1 A2) (wthR U2 A1)).length m10] 36) := (hb11.block _ hzF).trans HKF.out
            obtain ⟨h0, h1, h2, h3⟩ := dif4 hK11
            have HRA2 := HRA.out _ hb11
            have HRB : Hid (OwnQ w11 w2.heap.size (.slice g6 (andQ (wthR A1 U2) (wthR A2 U1)).length m6) (andQ (wthR A1 U2) (wthR A2 U1)) ∧ OwnQ w11 w2.heap.size (.slice g10 (andQ (wthR U1 A2) (wthR U2 A1)).length m10) (andQ (wthR U1 A2) (wthR U2 A1))) := HRA2
            clear k0 k1 k2 k3 hK11 HRA2 hrA hrU hbF
            cases ok5 with
            | false =>
              have HNO : (true && false) = false := rfl
              go_wp2_with fail
              (try simp only [Exit.inBlock, Exit.then])
              refine bodyPost_ret (results_row_tmp rfl _ _ (w.heap.size + 1 + 1) 36 #[.int .i64 0, .int .i64 0, .slice none 0 0, .slice none 0 0] (0, 0) _ (.bool false) rfl rfl ?_ Tryz.underlying36 rfl (by kernel_rfl)) rfl ⟨⟨fun _ => down_no _ _, fun h => absurd h (by rw [HNO]; simp)⟩, ?_⟩
              · first | exact put4v_heap HZ | exact HZ
              · first | exact put4v_below hbw (by omega) _ _ _ _ | exact hbw
            | true =>
              go_wp2_with fail
              (try simp only [Exit.inBlock, Exit.then])
              refine bodyPost_ret (results_row_tmp rfl _ _ (w.heap.size + 1 + 1) 36 #[.int .i64 f1, .int .i64 t2, .slice g6 (andQ (wthR A1 U2) (wthR A2 U1)).length m6, .slice g10 (andQ (wthR U1 A2) (wthR U2 A1)).length m10] (0, 0) _ (.bool true) rfl rfl ?_ Tryz.underlying36 rfl (by kernel_rfl)) rfl ⟨⟨fun h => absurd h (by simp), fun _ => ⟨_, _, rfl, ?_, ?_, HAP.out⟩⟩, ?_⟩
              · exact put4v_heap HZ
              · exact (HRB.out.1.kpt (kpt_put4v _ (w.heap.size + 1 + 1) _ _ _ _ (S := fun k => k = w.heap.size + 1 + 1) rfl) (fun g hg h => by have h1 := HRB.out.1.lt g hg; omega)).base (by omega)
              · exact (HRB.out.2.kpt (kpt_put4v _ (w.heap.size + 1 + 1) _ _ _ _ (S := fun k => k = w.heap.size + 1 + 1) rfl) (fun g hg h => by have h1 := HRB.out.2.lt g hg; omega)).base (by omega)
              · exact put4v_below hbw (by omega) _ _ _ _
        · rw [if_pos (by rfl)]
          go_simp
          have hSB := Below.alloc hS6 (Below.size hS6) (.cells #[.int .i64 0, .int .i64 0, .slice none 0 0, .slice none 0 0] 36)
          refine hK.out _ _ hSB (fun hSS => ?_)
          clear hK
          refine wpAnyH_ready (rs := [19]) (by kernel_rfl) (by simp) ?_
          refine AllReadyH.cons rfl (fun K hK => ?_) AllReadyH.nil
          rw [if_pos (by rfl)]
          go_simp
          refine (HC.out _ (HBW.out _ hSB)).mono ?_
          rintro e w8 ⟨⟨u8, rfl, ho8⟩, hb8⟩
          obtain ⟨g8, m8, hu8, hm8⟩ := ho8.shape
          subst hu8
          go_simp
          have hS8 := HTS.out _ _ hSB hb8
          refine hK.out _ _ hS8 (fun hSS => ?_)
          clear hK
          refine wpAnyH_ready (rs := [24]) (by kernel_rfl) (by simp) ?_
          refine AllReadyH.cons rfl (fun K hK => ?_) AllReadyH.nil
          rw [if_pos (by rfl)]
          go_simp
          refine (HD.out _ (HBW.out _ hS8)).mono ?_
          rintro e w9 ⟨⟨u9, rfl, ho9⟩, hb9⟩
          obtain ⟨g9, m9, hu9, hm9⟩ := ho9.shape
          subst hu9
          go_simp
          have hS9 := HTS.out _ _ hS8 hb9
          refine hK.out _ _ hS9 (fun hSS => ?_)
          clear hK
          refine wpAnyH_ready (rs := [25]) (by kernel_rfl) (by simp) ?_
          refine AllReadyH.cons rfl (fun K hK => ?_) AllReadyH.nil
          rw [if_pos (by rfl)]
          go_simp
          refine (HM2.out _ _ _ _ (HBW.out _ hS9) (ho8.kept hb9) ho9.row).mono ?_
          rintro e w10 ⟨⟨u10, rfl, ho10⟩, hb10⟩
          obtain ⟨g10, m10, hu10, hm10⟩ := ho10.shape
          subst hu10
          go_simp
          have hS10 := HTS.out _ _ hS9 hb10
          refine hK.out _ _ hS10 (fun hSS => ?_)
          clear hK
          refine wpAnyH_take (i := 26) (v := .agg #[.int .i64 f1, .int .i64 t2, .slice g6 (andQ (wthR A1 U2) (wthR A2 U1)).length m6, .slice g10 (andQ (wthR U1 A2) (wthR U2 A1)).length m10]) rfl (by kernel_rfl) (by kernel_rfl) (by kernel_rfl) (fun _ _ _ h => h) (Or.inl ⟨by rfl, ?_⟩) (by assumption) ?_
          · intro W hSW
            first | (go_simp; done) | rfl | go_simp
          simp only [Act.put, List.getElem_toArray, List.getElem_cons_succ, List.getElem_cons_zero, List.setIfInBounds_toArray, List.set_cons_succ, List.set_cons_zero]
          refine wpAnyH_ready (rs := [28]) (by kernel_rfl) (by simp) ?_
          refine AllReadyH.cons rfl (fun K hK => ?_) AllReadyH.nil
          rw [if_pos (by rfl)]
          have hk4 : w10.heap[w6.heap.size]? = some (.cells #[.int .i64 0, .int .i64 0, .slice none 0 0, .slice none 0 0] 36) := ((hb10.block w6.heap.size (by have q0 := hb8.size; have q1 := hb9.size; simp at q0; omega)).trans ((hb9.block w6.heap.size (by have q0 := hb8.size; simp at q0; omega)).trans ((hb8.block w6.heap.size (by simp)).trans (blk_new w6 _))))
          have hgk := kpt_put4v w10 (w6.heap.size) (.int .i64 f1) (.int .i64 t2) (.slice g6 (andQ (wthR A1 U2) (wthR A2 U1)).length m6) (.slice g10 (andQ (wthR U1 A2) (wthR U2 A1)).length m10) (S := fun k => k = w6.heap.size) rfl
          have hF := put4v_heap (v0 := .int .i64 f1) (v1 := .int .i64 t2) (v2 := .slice g6 (andQ (wthR A1 U2) (wthR A2 U1)).length m6) (v3 := .slice g10 (andQ (wthR U1 A2) (wthR U2 A1)).length m10) hk4
          have hRA0 := ((((ho6.kept ((Below.refl _ _).alloc (Nat.le_refl _) _)).kept hb8).kept hb9).kept hb10)
          have hRA := hRA0.kpt hgk (fun b hb h => by have q := ho6.lt b hb; have q0 := hb4.size; have q1 := hb5.size; have q2 := hb6.size; have q3 := hb8.size; have q4 := hb9.size; have q5 := hb10.size; (try simp at q); (try simp at q0 q1 q2 q3 q4 q5); omega)
          have hRU := ho10.kpt hgk (fun b hb h => by have q := ho10.lt b hb; have q0 := hb4.size; have q1 := hb5.size; have q2 := hb6.size; have q3 := hb8.size; have q4 := hb9.size; have q5 := hb10.size; (try simp at q); (try simp at q0 q1 q2 q3 q4 q5); omega)
          have hgB : w2.heap.size ≤ w6.heap.size := hS6.size
          have hSF := put4v_below hS10 (g := w6.heap.size) hgB (.int .i64 f1) (.int .i64 t2) (.slice g6 (andQ (wthR A1 U2) (wthR A2 U1)).length m6) (.slice g10 (andQ (wthR U1 A2) (wthR U2 A1)).length m10)
          have hgl : w6.heap.size ≤ w9.heap.size := by have q0 := hb4.size; have q1 := hb5.size; have q2 := hb6.size; have q3 := hb8.size; have q4 := hb9.size; have q5 := hb10.size; (try simp at q0 q1 q2 q3 q4 q5); omega
          have hg2 : w2.heap.size ≤ w5.heap.size := hS5.size
          obtain ⟨⟨s0, s1, s2, s3⟩, ⟨z0, z1, z2, z3⟩⟩ := dif_cells hk4
          go_simp
          unfold put4v at hF hRA hRU hSF
          refine hK.out _ _ hSF (fun hSS => ?_)
          clear hK s0 s1 s2 s3 z0 z1 z2 z3 hgk hk4
          refine wpAnyH_done (by kernel_rfl) ?_ _
          obtain ⟨WF, gF, hWF, hgF⟩ : ∃ W g, W = (((((w10).setCell ⟨w6.heap.size, 0, none⟩ (.int .i64 f1)).setCell ⟨w6.heap.size, 1, none⟩ (.int .i64 t2)).setCell ⟨w6.heap.size, 2, none⟩ (.slice g6 (andQ (wthR A1 U2) (wthR A2 U1)).length m6)).setCell ⟨w6.heap.size, 3, none⟩ (.slice g10 (andQ (wthR U1 A2) (wthR U2 A1)).length m10)) ∧ g = w6.heap.size := ⟨_, _, rfl, rfl⟩
          rw [← hWF] at hF hRA hRU hSF ⊢
          rw [← hgF] at hF ⊢
          clear hWF hgF
          have HAP : Hid (∀ g, (Value.slice g6 (andQ (wthR A1 U2) (wthR A2 U1)).length m6).ownBlock = some g → (Value.slice g10 (andQ (wthR U1 A2) (wthR U2 A1)).length m10).ownBlock ≠ some g) := fun g h1 h2 => by
            have k1 := ho6.lt g h1
            have k2 := ho10.lt g h2
            (try simp at k1)
            (try simp at k2)
            omega
          have hRA2 : OwnQ WF w2.heap.size (.slice g6 (andQ (wthR A1 U2) (wthR A2 U1)).length m6) (andQ (wthR A1 U2) (wthR A2 U1)) := hRA.base (by (try simp); omega)
          have hRU2 : OwnQ WF w2.heap.size (.slice g10 (andQ (wthR U1 A2) (wthR U2 A1)).length m10) (andQ (wthR U1 A2) (wthR U2 A1)) := hRU.base (by have q := hS9.size; (try simp); omega)
          have HKF : Hid (WF.heap[gF]? = some (.cells #[.int .i64 f1, .int .i64 t2, .slice g6 (andQ (wthR A1 U2) (wthR A2 U1)).length m6, .slice g10 (andQ (wthR U1 A2) (wthR U2 A1)).length m10] 36)) := hF
          have hzF : gF < WF.heap.size := (Array.getElem?_eq_some_iff.1 hF).1
          have HRA : Hid (∀ W, Below WF.heap.size WF W → OwnQ W w2.heap.size (.slice g6 (andQ (wthR A1 U2) (wthR A2 U1)).length m6) (andQ (wthR A1 U2) (wthR A2 U1)) ∧ OwnQ W w2.heap.size (.slice g10 (andQ (wthR U1 A2) (wthR U2 A1)).length m10) (andQ (wthR U1 A2) (wthR U2 A1))) := fun W hW => ⟨hRA2.kept hW, hRU2.kept hW⟩
          have hrA := hRA2.row
          have hrU := hRU2.row
          have HSF : Hid (Below w2.heap.size w2 WF) := hSF
          have hbF := HBW.out _ hSF
          have hz2 : w.heap.size + 1 + 1 < w2.heap.size := (HXS.out _ (Below.refl _ _)).2.2.2.2.2
          obtain ⟨k0, k1, k2, k3⟩ := dif4 hF
          clear hF hRA hRU hRA2 hRU2 hSF hSS
          go_wp2_with fail
          refine (HGO.out _ _ _ hbF hrA hrU).mono ?_
          rintro e w11 ⟨rfl, hb11⟩
          have hS11 := HTS.out _ _ HSF.out hb11
          obtain ⟨⟨p0, p1, p2, p3⟩, ⟨d0, d1, d2, d3⟩, ⟨⟨r0, r1, r2, r3⟩, ⟨f0, f1', f2', f3⟩⟩, HZ, hbw, hz⟩ := HXS.out _ hS11
          have hK11 : w11.heap[gF]? = some (.cells #[.int .i64 f1, .int .i64 t2, .slice g6 (andQ (wthR A1 U2) (wthR A2 U1)).length m6, .slice g10 (andQ (wthR U1 A2) (wthR U2 A1)).length m10] 36) := (hb11.block _ hzF).trans HKF.out
          obtain ⟨h0, h1, h2, h3⟩ := dif4 hK11
          have HRA2 := HRA.out _ hb11
          have HRB : Hid (OwnQ w11 w2.heap.size (.slice g6 (andQ (wthR A1 U2) (wthR A2 U1)).length m6) (andQ (wthR A1 U2) (wthR A2 U1)) ∧ OwnQ w11 w2.heap.size (.slice g10 (andQ (wthR U1 A2) (wthR U2 A1)).length m10) (andQ (wthR U1 A2) (wthR U2 A1))) := HRA2
          clear k0 k1 k2 k3 hK11 HRA2 hrA hrU hbF
          cases ok5 with
          | false =>
            have HNO : (true && false) = false := rfl
            go_wp2_with fail
            (try simp only [Exit.inBlock, Exit.then])
            refine bodyPost_ret (results_row_tmp rfl _ _ (w.heap.size + 1 + 1) 36 #[.int .i64 0, .int .i64 0, .slice none 0 0, .slice none 0 0] (0, 0) _ (.bool false) rfl rfl ?_ Tryz.underlying36 rfl (by kernel_rfl)) rfl ⟨⟨fun _ => down_no _ _, fun h => absurd h (by rw [HNO]; simp)⟩, ?_⟩
            · first | exact put4v_heap HZ | exact HZ
            · first | exact put4v_below hbw (by omega) _ _ _ _ | exact hbw
          | true =>
            go_wp2_with fail
            (try simp only [Exit.inBlock, Exit.then])
            refine bodyPost_ret (results_row_tmp rfl _ _ (w.heap.size + 1 + 1) 36 #[.int .i64 f1, .int .i64 t2, .slice g6 (andQ (wthR A1 U2) (wthR A2 U1)).length m6, .slice g10 (andQ (wthR U1 A2) (wthR U2 A1)).length m10] (0, 0) _ (.bool true) rfl rfl ?_ Tryz.underlying36 rfl (by kernel_rfl)) rfl ⟨⟨fun h => absurd h (by simp), fun _ => ⟨_, _, rfl, ?_, ?_, HAP.out⟩⟩, ?_⟩
            · exact put4v_heap HZ
            · exact (HRB.out.1.kpt (kpt_put4v _ (w.heap.size + 1 + 1) _ _ _ _ (S := fun k => k = w.heap.size + 1 + 1) rfl) (fun g hg h => by have h1 := HRB.out.1.lt g hg; omega)).base (by omega)
            · exact (HRB.out.2.kpt (kpt_put4v _ (w.heap.size + 1 + 1) _ _ _ _ (S := fun k => k = w.heap.size + 1 + 1) rfl) (fun g hg h => by have h1 := HRB.out.2.lt g hg; omega)).base (by omega)
            · exact put4v_below hbw (by omega) _ _ _ _
      · rw [if_pos (by rfl)]
        go_simp
        have hSB := Below.alloc hS5 (Below.size hS5) (.cells #[.int .i64 0, .int .i64 0, .slice none 0 0, .slice none 0 0] 36)
        refine hK.out _ _ hSB (fun hSS => ?_)
        clear hK
        refine wpAnyH_ready (rs := [14]) (by kernel_rfl) (by simp) ?_
        refine AllReadyH.cons rfl (fun K hK => ?_) AllReadyH.nil
        rw [if_pos (by rfl)]
        go_simp
        refine (HM1.out _ _ _ _ (HBW.out _ hSB) ((ho4.kept hb5).kept ((Below.refl _ _).alloc (Nat.le_refl _) _)) (ho5.kept ((Below.refl _ _).alloc (Nat.le_refl _) _)).row).mono ?_
        rintro e w6 ⟨⟨u6, rfl, ho6⟩, hb6⟩
        obtain ⟨g6, m6, hu6, hm6⟩ := ho6.shape
        subst hu6
        go_simp
        have hS6 := HTS.out _ _ hSB hb6
        refine hK.out _ _ hS6 (fun hSS => ?_)
        clear hK
        refine wpAnyH_ready (rs := [19]) (by kernel_rfl) (by simp) ?_
        refine AllReadyH.cons rfl (fun K hK => ?_) AllReadyH.nil
        rw [if_pos (by rfl)]
        go_simp
        refine (HC.out _ (HBW.out _ hS6)).mono ?_
        rintro e w8 ⟨⟨u8, rfl, ho8⟩, hb8⟩
        obtain ⟨g8, m8, hu8, hm8⟩ := ho8.shape
        subst hu8
        go_simp
        have hS8 := HTS.out _ _ hS6 hb8
        refine hK.out _ _ hS8 (fun hSS => ?_)
        clear hK
        refine wpAnyH_ready (rs := [24]) (by kernel_rfl) (by simp) ?_
        refine AllReadyH.cons rfl (fun K hK => ?_) AllReadyH.nil
        rw [if_pos (by rfl)]
        go_simp
        refine (HD.out _ (HBW.out _ hS8)).mono ?_
        rintro e w9 ⟨⟨u9, rfl, ho9⟩, hb9⟩
        obtain ⟨g9, m9, hu9, hm9⟩ := ho9.shape
        subst hu9
        go_simp
        have hS9 := HTS.out _ _ hS8 hb9
        refine hK.out _ _ hS9 (fun hSS => ?_)
        clear hK
        refine wpAnyH_ready (rs := [25]) (by kernel_rfl) (by simp) ?_
        refine AllReadyH.cons rfl (fun K hK => ?_) AllReadyH.nil
        rw [if_pos (by rfl)]
        go_simp
        refine (HM2.out _ _ _ _ (HBW.out _ hS9) (ho8.kept hb9) ho9.row).mono ?_
        rintro e w10 ⟨⟨u10, rfl, ho10⟩, hb10⟩
        obtain ⟨g10, m10, hu10, hm10⟩ := ho10.shape
        subst hu10
        go_simp
        have hS10 := HTS.out _ _ hS9 hb10
        refine hK.out _ _ hS10 (fun hSS => ?_)
        clear hK
        refine wpAnyH_take (i := 26) (v := .agg #[.int .i64 f1, .int .i64 t2, .slice g6 (andQ (wthR A1 U2) (wthR A2 U1)).length m6, .slice g10 (andQ (wthR U1 A2) (wthR U2 A1)).length m10]) rfl (by kernel_rfl) (by kernel_rfl) (by kernel_rfl) (fun _ _ _ h => h) (Or.inl ⟨by rfl, ?_⟩) (by assumption) ?_
        · intro W hSW
          first | (go_simp; done) | rfl | go_simp
        simp only [Act.put, List.getElem_toArray, List.getElem_cons_succ, List.getElem_cons_zero, List.setIfInBounds_toArray, List.set_cons_succ, List.set_cons_zero]
        refine wpAnyH_ready (rs := [28]) (by kernel_rfl) (by simp) ?_
        refine AllReadyH.cons rfl (fun K hK => ?_) AllReadyH.nil
        rw [if_pos (by rfl)]
        have hk4 : w10.heap[w5.heap.size]? = some (.cells #[.int .i64 0, .int .i64 0, .slice none 0 0, .slice none 0 0] 36) := ((hb10.block w5.heap.size (by have q0 := hb6.size; have q1 := hb8.size; have q2 := hb9.size; simp at q0; omega)).trans ((hb9.block w5.heap.size (by have q0 := hb6.size; have q1 := hb8.size; simp at q0; omega)).trans ((hb8.block w5.heap.size (by have q0 := hb6.size; simp at q0; omega)).trans ((hb6.block w5.heap.size (by simp)).trans (blk_new w5 _)))))
        have hgk := kpt_put4v w10 (w5.heap.size) (.int .i64 f1) (.int .i64 t2) (.slice g6 (andQ (wthR A1 U2) (wthR A2 U1)).length m6) (.slice g10 (andQ (wthR U1 A2) (wthR U2 A1)).length m10) (S := fun k => k = w5.heap.size) rfl
        have hF := put4v_heap (v0 := .int .i64 f1) (v1 := .int .i64 t2) (v2 := .slice g6 (andQ (wthR A1 U2) (wthR A2 U1)).length m6) (v3 := .slice g10 (andQ (wthR U1 A2) (wthR U2 A1)).length m10) hk4
        have hRA0 := (((ho6.kept hb8).kept hb9).kept hb10)
        have hRA := hRA0.kpt hgk (fun b hb h => by have q := ho6.lt b hb; have q0 := hb4.size; have q1 := hb5.size; have q2 := hb6.size; have q3 := hb8.size; have q4 := hb9.size; have q5 := hb10.size; (try simp at q); (try simp at q0 q1 q2 q3 q4 q5); omega)
        have hRU := ho10.kpt hgk (fun b hb h => by have q := ho10.lt b hb; have q0 := hb4.size; have q1 := hb5.size; have q2 := hb6.size; have q3 := hb8.size; have q4 := hb9.size; have q5 := hb10.size; (try simp at q); (try simp at q0 q1 q2 q3 q4 q5); omega)
        have hgB : w2.heap.size ≤ w5.heap.size := hS5.size
        have hSF := put4v_below hS10 (g := w5.heap.size) hgB (.int .i64 f1) (.int .i64 t2) (.slice g6 (andQ (wthR A1 U2) (wthR A2 U1)).length m6) (.slice g10 (andQ (wthR U1 A2) (wthR U2 A1)).length m10)
        have hgl : w6.heap.size ≤ w9.heap.size := by have q0 := hb4.size; have q1 := hb5.size; have q2 := hb6.size; have q3 := hb8.size; have q4 := hb9.size; have q5 := hb10.size; (try simp at q0 q1 q2 q3 q4 q5); omega
        have hg2 : w2.heap.size ≤ w5.heap.size := hS5.size
        obtain ⟨⟨s0, s1, s2, s3⟩, ⟨z0, z1, z2, z3⟩⟩ := dif_cells hk4
        go_simp
        unfold put4v at hF hRA hRU hSF
        refine hK.out _ _ hSF (fun hSS => ?_)
        clear hK s0 s1 s2 s3 z0 z1 z2 z3 hgk hk4
        refine wpAnyH_done (by kernel_rfl) ?_ _
        obtain ⟨WF, gF, hWF, hgF⟩ : ∃ W g, W = (((((w10).setCell ⟨w5.heap.size, 0, none⟩ (.int .i64 f1)).setCell ⟨w5.heap.size, 1, none⟩ (.int .i64 t2)).setCell ⟨w5.heap.size, 2, none⟩ (.slice g6 (andQ (wthR A1 U2) (wthR A2 U1)).length m6)).setCell ⟨w5.heap.size, 3, none⟩ (.slice g10 (andQ (wthR U1 A2) (wthR U2 A1)).length m10)) ∧ g = w5.heap.size := ⟨_, _, rfl, rfl⟩
        rw [← hWF] at hF hRA hRU hSF ⊢
        rw [← hgF] at hF ⊢
        clear hWF hgF
        have HAP : Hid (∀ g, (Value.slice g6 (andQ (wthR A1 U2) (wthR A2 U1)).length m6).ownBlock = some g → (Value.slice g10 (andQ (wthR U1 A2) (wthR U2 A1)).length m10).ownBlock ≠ some g) := fun g h1 h2 => by
          have k1 := ho6.lt g h1
          have k2 := ho10.lt g h2
          (try simp at k1)
          (try simp at k2)
          omega
        have hRA2 : OwnQ WF w2.heap.size (.slice g6 (andQ (wthR A1 U2) (wthR A2 U1)).length m6) (andQ (wthR A1 U2) (wthR A2 U1)) := hRA.base (by (try simp); omega)
        have hRU2 : OwnQ WF w2.heap.size (.slice g10 (andQ (wthR U1 A2) (wthR U2 A1)).length m10) (andQ (wthR U1 A2) (wthR U2 A1)) := hRU.base (by have q := hS9.size; (try simp); omega)
        have HKF : Hid (WF.heap[gF]? = some (.cells #[.int .i64 f1, .int .i64 t2, .slice g6 (andQ (wthR A1 U2) (wthR A2 U1)).length m6, .slice g10 (andQ (wthR U1 A2) (wthR U2 A1)).length m10] 36)) := hF
        have hzF : gF < WF.heap.size := (Array.getElem?_eq_some_iff.1 hF).1
        have HRA : Hid (∀ W, Below WF.heap.size WF W → OwnQ W w2.heap.size (.slice g6 (andQ (wthR A1 U2) (wthR A2 U1)).length m6) (andQ (wthR A1 U2) (wthR A2 U1)) ∧ OwnQ W w2.heap.size (.slice g10 (andQ (wthR U1 A2) (wthR U2 A1)).length m10) (andQ (wthR U1 A2) (wthR U2 A1))) := fun W hW => ⟨hRA2.kept hW, hRU2.kept hW⟩
        have hrA := hRA2.row
        have hrU := hRU2.row
        have HSF : Hid (Below w2.heap.size w2 WF) := hSF
        have hbF := HBW.out _ hSF
        have hz2 : w.heap.size + 1 + 1 < w2.heap.size := (HXS.out _ (Below.refl _ _)).2.2.2.2.2
        obtain ⟨k0, k1, k2, k3⟩ := dif4 hF
        clear hF hRA hRU hRA2 hRU2 hSF hSS
        go_wp2_with fail
        refine (HGO.out _ _ _ hbF hrA hrU).mono ?_
        rintro e w11 ⟨rfl, hb11⟩
        have hS11 := HTS.out _ _ HSF.out hb11
        obtain ⟨⟨p0, p1, p2, p3⟩, ⟨d0, d1, d2, d3⟩, ⟨⟨r0, r1, r2, r3⟩, ⟨f0, f1', f2', f3⟩⟩, HZ, hbw, hz⟩ := HXS.out _ hS11
        have hK11 : w11.heap[gF]? = some (.cells #[.int .i64 f1, .int .i64 t2, .slice g6 (andQ (wthR A1 U2) (wthR A2 U1)).length m6, .slice g10 (andQ (wthR U1 A2) (wthR U2 A1)).length m10] 36) := (hb11.block _ hzF).trans HKF.out
        obtain ⟨h0, h1, h2, h3⟩ := dif4 hK11
        have HRA2 := HRA.out _ hb11
        have HRB : Hid (OwnQ w11 w2.heap.size (.slice g6 (andQ (wthR A1 U2) (wthR A2 U1)).length m6) (andQ (wthR A1 U2) (wthR A2 U1)) ∧ OwnQ w11 w2.heap.size (.slice g10 (andQ (wthR U1 A2) (wthR U2 A1)).length m10) (andQ (wthR U1 A2) (wthR U2 A1))) := HRA2
        clear k0 k1 k2 k3 hK11 HRA2 hrA hrU hbF
        cases ok5 with
        | false =>
          have HNO : (true && false) = false := rfl
          go_wp2_with fail
          (try simp only [Exit.inBlock, Exit.then])
          refine bodyPost_ret (results_row_tmp rfl _ _ (w.heap.size + 1 + 1) 36 #[.int .i64 0, .int .i64 0, .slice none 0 0, .slice none 0 0] (0, 0) _ (.bool false) rfl rfl ?_ Tryz.underlying36 rfl (by kernel_rfl)) rfl ⟨⟨fun _ => down_no _ _, fun h => absurd h (by rw [HNO]; simp)⟩, ?_⟩
          · first | exact put4v_heap HZ | exact HZ
          · first | exact put4v_below hbw (by omega) _ _ _ _ | exact hbw
        | true =>
          go_wp2_with fail
          (try simp only [Exit.inBlock, Exit.then])
          refine bodyPost_ret (results_row_tmp rfl _ _ (w.heap.size + 1 + 1) 36 #[.int .i64 f1, .int .i64 t2, .slice g6 (andQ (wthR A1 U2) (wthR A2 U1)).length m6, .slice g10 (andQ (wthR U1 A2) (wthR U2 A1)).length m10] (0, 0) _ (.bool true) rfl rfl ?_ Tryz.underlying36 rfl (by kernel_rfl)) rfl ⟨⟨fun h => absurd h (by simp), fun _ => ⟨_, _, rfl, ?_, ?_, HAP.out⟩⟩, ?_⟩
          · exact put4v_heap HZ
          · exact (HRB.out.1.kpt (kpt_put4v _ (w.heap.size + 1 + 1) _ _ _ _ (S := fun k => k = w.heap.size + 1 + 1) rfl) (fun g hg h => by have h1 := HRB.out.1.lt g hg; omega)).base (by omega)
          · exact (HRB.out.2.kpt (kpt_put4v _ (w.heap.size + 1 + 1) _ _ _ _ (S := fun k => k = w.heap.size + 1 + 1) rfl) (fun g hg h => by have h1 := HRB.out.2.lt g hg; omega)).base (by omega)
          · exact put4v_below hbw (by omega) _ _ _ _
    · rw [if_pos (by rfl)]
      go_simp
      have hSB := Below.alloc hS4 (Below.size hS4) (.cells #[.int .i64 0, .int .i64 0, .slice none 0 0, .slice none 0 0] 36)
      refine hK.out _ _ hSB (fun hSS => ?_)
      clear hK
      refine wpAnyH_ready (rs := [13]) (by kernel_rfl) (by simp) ?_
      refine AllReadyH.cons rfl (fun K hK => ?_) AllReadyH.nil
      rw [if_pos (by rfl)]
      go_simp
      refine (HB.out _ (HBW.out _ hSB)).mono ?_
      rintro e w5 ⟨⟨u5, rfl, ho5⟩, hb5⟩
      obtain ⟨g5, m5, hu5, hm5⟩ := ho5.shape
      subst hu5
      go_simp
      have hS5 := HTS.out _ _ hSB hb5
      refine hK.out _ _ hS5 (fun hSS => ?_)
      clear hK
      refine wpAnyH_ready (rs := [14]) (by kernel_rfl) (by simp) ?_
      refine AllReadyH.cons rfl (fun K hK => ?_) AllReadyH.nil
      rw [if_pos (by rfl)]
      go_simp
      refine (HM1.out _ _ _ _ (HBW.out _ hS5) ((ho4.kept ((Below.refl _ _).alloc (Nat.le_refl _) _)).kept hb5) ho5.row).mono ?_
      rintro e w6 ⟨⟨u6, rfl, ho6⟩, hb6⟩
      obtain ⟨g6, m6, hu6, hm6⟩ := ho6.shape
      subst hu6
      go_simp
      have hS6 := HTS.out _ _ hS5 hb6
      refine hK.out _ _ hS6 (fun hSS => ?_)
      clear hK
      refine wpAnyH_ready (rs := [19]) (by kernel_rfl) (by simp) ?_
      refine AllReadyH.cons rfl (fun K hK => ?_) AllReadyH.nil
      rw [if_pos (by rfl)]
      go_simp
      refine (HC.out _ (HBW.out _ hS6)).mono ?_
      rintro e w8 ⟨⟨u8, rfl, ho8⟩, hb8⟩
      obtain ⟨g8, m8, hu8, hm8⟩ := ho8.shape
      subst hu8
      go_simp
      have hS8 := HTS.out _ _ hS6 hb8
      refine hK.out _ _ hS8 (fun hSS => ?_)
      clear hK
      refine wpAnyH_ready (rs := [24]) (by kernel_rfl) (by simp) ?_
      refine AllReadyH.cons rfl (fun K hK => ?_) AllReadyH.nil
      rw [if_pos (by rfl)]
      go_simp
      refine (HD.out _ (HBW.out _ hS8)).mono ?_
      rintro e w9 ⟨⟨u9, rfl, ho9⟩, hb9⟩
      obtain ⟨g9, m9, hu9, hm9⟩ := ho9.shape
      subst hu9
      go_simp
      have hS9 := HTS.out _ _ hS8 hb9
      refine hK.out _ _ hS9 (fun hSS => ?_)
      clear hK
      refine wpAnyH_ready (rs := [25]) (by kernel_rfl) (by simp) ?_
      refine AllReadyH.cons rfl (fun K hK => ?_) AllReadyH.nil
      rw [if_pos (by rfl)]
      go_simp
      refine (HM2.out _ _ _ _ (HBW.out _ hS9) (ho8.kept hb9) ho9.row).mono ?_
      rintro e w10 ⟨⟨u10, rfl, ho10⟩, hb10⟩
      obtain ⟨g10, m10, hu10, hm10⟩ := ho10.shape
      subst hu10
      go_simp
      have hS10 := HTS.out _ _ hS9 hb10
      refine hK.out _ _ hS10 (fun hSS => ?_)
      clear hK
      refine wpAnyH_take (i := 26) (v := .agg #[.int .i64 f1, .int .i64 t2, .slice g6 (andQ (wthR A1 U2) (wthR A2 U1)).length m6, .slice g10 (andQ (wthR U1 A2) (wthR U2 A1)).length m10]) rfl (by kernel_rfl) (by kernel_rfl) (by kernel_rfl) (fun _ _ _ h => h) (Or.inl ⟨by rfl, ?_⟩) (by assumption) ?_
      · intro W hSW
        first | (go_simp; done) | rfl | go_simp
      simp only [Act.put, List.getElem_toArray, List.getElem_cons_succ, List.getElem_cons_zero, List.setIfInBounds_toArray, List.set_cons_succ, List.set_cons_zero]
      refine wpAnyH_ready (rs := [28]) (by kernel_rfl) (by simp) ?_
      refine AllReadyH.cons rfl (fun K hK => ?_) AllReadyH.nil
      rw [if_pos (by rfl)]
      have hk4 : w10.heap[w4.heap.size]? = some (.cells #[.int .i64 0, .int .i64 0, .slice none 0 0, .slice none 0 0] 36) := ((hb10.block w4.heap.size (by have q0 := hb5.size; have q1 := hb6.size; have q2 := hb8.size; have q3 := hb9.size; simp at q0; omega)).trans ((hb9.block w4.heap.size (by have q0 := hb5.size; have q1 := hb6.size; have q2 := hb8.size; simp at q0; omega)).trans ((hb8.block w4.heap.size (by have q0 := hb5.size; have q1 := hb6.size; simp at q0; omega)).trans ((hb6.block w4.heap.size (by have q0 := hb5.size; simp at q0; omega)).trans ((hb5.block w4.heap.size (by simp)).trans (blk_new w4 _))))))
      have hgk := kpt_put4v w10 (w4.heap.size) (.int .i64 f1) (.int .i64 t2) (.slice g6 (andQ (wthR A1 U2) (wthR A2 U1)).length m6) (.slice g10 (andQ (wthR U1 A2) (wthR U2 A1)).length m10) (S := fun k => k = w4.heap.size) rfl
      have hF := put4v_heap (v0 := .int .i64 f1) (v1 := .int .i64 t2) (v2 := .slice g6 (andQ (wthR A1 U2) (wthR A2 U1)).length m6) (v3 := .slice g10 (andQ (wthR U1 A2) (wthR U2 A1)).length m10) hk4
      have hRA0 := (((ho6.kept hb8).kept hb9).kept hb10)
      have hRA := hRA0.kpt hgk (fun b hb h => by have q := ho6.lt b hb; have q0 := hb4.size; have q1 := hb5.size; have q2 := hb6.size; have q3 := hb8.size; have q4 := hb9.size; have q5 := hb10.size; (try simp at q); (try simp at q0 q1 q2 q3 q4 q5); omega)
      have hRU := ho10.kpt hgk (fun b hb h => by have q := ho10.lt b hb; have q0 := hb4.size; have q1 := hb5.size; have q2 := hb6.size; have q3 := hb8.size; have q4 := hb9.size; have q5 := hb10.size; (try simp at q); (try simp at q0 q1 q2 q3 q4 q5); omega)
      have hgB : w2.heap.size ≤ w4.heap.size := hS4.size
      have hSF := put4v_below hS10 (g := w4.heap.size) hgB (.int .i64 f1) (.int .i64 t2) (.slice g6 (andQ (wthR A1 U2) (wthR A2 U1)).length m6) (.slice g10 (andQ (wthR U1 A2) (wthR U2 A1)).length m10)
      have hgl : w6.heap.size ≤ w9.heap.size := by have q0 := hb4.size; have q1 := hb5.size; have q2 := hb6.size; have q3 := hb8.size; have q4 := hb9.size; have q5 := hb10.size; (try simp at q0 q1 q2 q3 q4 q5); omega
      have hg2 : w2.heap.size ≤ w5.heap.size := hS5.size
      obtain ⟨⟨s0, s1, s2, s3⟩, ⟨z0, z1, z2, z3⟩⟩ := dif_cells hk4
      go_simp
      unfold put4v at hF hRA hRU hSF
      refine hK.out _ _ hSF (fun hSS => ?_)
      clear hK s0 s1 s2 s3 z0 z1 z2 z3 hgk hk4
      refine wpAnyH_done (by kernel_rfl) ?_ _
      obtain ⟨WF, gF, hWF, hgF⟩ : ∃ W g, W = (((((w10).setCell ⟨w4.heap.size, 0, none⟩ (.int .i64 f1)).setCell ⟨w4.heap.size, 1, none⟩ (.int .i64 t2)).setCell ⟨w4.heap.size, 2, none⟩ (.slice g6 (andQ (wthR A1 U2) (wthR A2 U1)).length m6)).setCell ⟨w4.heap.size, 3, none⟩ (.slice g10 (andQ (wthR U1 A2) (wthR U2 A1)).length m10)) ∧ g = w4.heap.size := ⟨_, _, rfl, rfl⟩
      rw [← hWF] at hF hRA hRU hSF ⊢
      rw [← hgF] at hF ⊢
      clear hWF hgF
      have HAP : Hid (∀ g, (Value.slice g6 (andQ (wthR A1 U2) (wthR A2 U1)).length m6).ownBlock = some g → (Value.slice g10 (andQ (wthR U1 A2) (wthR U2 A1)).length m10).ownBlock ≠ some g) := fun g h1 h2 => by
        have k1 := ho6.lt g h1
        have k2 := ho10.lt g h2
        (try simp at k1)
        (try simp at k2)
        omega
      have hRA2 : OwnQ WF w2.heap.size (.slice g6 (andQ (wthR A1 U2) (wthR A2 U1)).length m6) (andQ (wthR A1 U2) (wthR A2 U1)) := hRA.base (by (try simp); omega)
      have hRU2 : OwnQ WF w2.heap.size (.slice g10 (andQ (wthR U1 A2) (wthR U2 A1)).length m10) (andQ (wthR U1 A2) (wthR U2 A1)) := hRU.base (by have q := hS9.size; (try simp); omega)
      have HKF : Hid (WF.heap[gF]? = some (.cells #[.int .i64 f1, .int .i64 t2, .slice g6 (andQ (wthR A1 U2) (wthR A2 U1)).length m6, .slice g10 (andQ (wthR U1 A2) (wthR U2 A1)).length m10] 36)) := hF
      have hzF : gF < WF.heap.size := (Array.getElem?_eq_some_iff.1 hF).1
      have HRA : Hid (∀ W, Below WF.heap.size WF W → OwnQ W w2.heap.size (.slice g6 (andQ (wthR A1 U2) (wthR A2 U1)).length m6) (andQ (wthR A1 U2) (wthR A2 U1)) ∧ OwnQ W w2.heap.size (.slice g10 (andQ (wthR U1 A2) (wthR U2 A1)).length m10) (andQ (wthR U1 A2) (wthR U2 A1))) := fun W hW => ⟨hRA2.kept hW, hRU2.kept hW⟩
      have hrA := hRA2.row
      have hrU := hRU2.row
      have HSF : Hid (Below w2.heap.size w2 WF) := hSF
      have hbF := HBW.out _ hSF
      have hz2 : w.heap.size + 1 + 1 < w2.heap.size := (HXS.out _ (Below.refl _ _)).2.2.2.2.2
      obtain ⟨k0, k1, k2, k3⟩ := dif4 hF
      clear hF hRA hRU hRA2 hRU2 hSF hSS
      go_wp2_with fail
      refine (HGO.out _ _ _ hbF hrA hrU).mono ?_
      rintro e w11 ⟨rfl, hb11⟩
      have hS11 := HTS.out _ _ HSF.out hb11
      obtain ⟨⟨p0, p1, p2, p3⟩, ⟨d0, d1, d2, d3⟩, ⟨⟨r0, r1, r2, r3⟩, ⟨f0, f1', f2', f3⟩⟩, HZ, hbw, hz⟩ := HXS.out _ hS11
      have hK11 : w11.heap[gF]? = some (.cells #[.int .i64 f1, .int .i64 t2, .slice g6 (andQ (wthR A1 U2) (wthR A2 U1)).length m6, .slice g10 (andQ (wthR U1 A2) (wthR U2 A1)).length m10] 36) := (hb11.block _ hzF).trans HKF.out
      obtain ⟨h0, h1, h2, h3⟩ := dif4 hK11
      have HRA2 := HRA.out _ hb11
      have HRB : Hid (OwnQ w11 w2.heap.size (.slice g6 (andQ (wthR A1 U2) (wthR A2 U1)).length m6) (andQ (wthR A1 U2) (wthR A2 U1)) ∧ OwnQ w11 w2.heap.size (.slice g10 (andQ (wthR U1 A2) (wthR U2 A1)).length m10) (andQ (wthR U1 A2) (wthR U2 A1))) := HRA2
      clear k0 k1 k2 k3 hK11 HRA2 hrA hrU hbF
      cases ok5 with
      | false =>
        have HNO : (true && false) = false := rfl
        go_wp2_with fail
        (try simp only [Exit.inBlock, Exit.then])
        refine bodyPost_ret (results_row_tmp rfl _ _ (w.heap.size + 1 + 1) 36 #[.int .i64 0, .int .i64 0, .slice none 0 0, .slice none 0 0] (0, 0) _ (.bool false) rfl rfl ?_ Tryz.underlying36 rfl (by kernel_rfl)) rfl ⟨⟨fun _ => down_no _ _, fun h => absurd h (by rw [HNO]; simp)⟩, ?_⟩
        · first | exact put4v_heap HZ | exact HZ
        · first | exact put4v_below hbw (by omega) _ _ _ _ | exact hbw
      | true =>
        go_wp2_with fail
        (try simp only [Exit.inBlock, Exit.then])
        refine bodyPost_ret (results_row_tmp rfl _ _ (w.heap.size + 1 + 1) 36 #[.int .i64 f1, .int .i64 t2, .slice g6 (andQ (wthR A1 U2) (wthR A2 U1)).length m6, .slice g10 (andQ (wthR U1 A2) (wthR U2 A1)).length m10] (0, 0) _ (.bool true) rfl rfl ?_ Tryz.underlying36 rfl (by kernel_rfl)) rfl ⟨⟨fun h => absurd h (by simp), fun _ => ⟨_, _, rfl, ?_, ?_, HAP.out⟩⟩, ?_⟩
        · exact put4v_heap HZ
        · exact (HRB.out.1.kpt (kpt_put4v _ (w.heap.size + 1 + 1) _ _ _ _ (S := fun k => k = w.heap.size + 1 + 1) rfl) (fun g hg h => by have h1 := HRB.out.1.lt g hg; omega)).base (by omega)
        · exact (HRB.out.2.kpt (kpt_put4v _ (w.heap.size + 1 + 1) _ _ _ _ (S := fun k => k = w.heap.size + 1 + 1) rfl) (fun g hg h => by have h1 := HRB.out.2.lt g hg; omega)).base (by omega)
        · exact put4v_below hbw (by omega) _ _ _ _
  · rw [if_pos (by rfl)]
    go_simp
    have hSB := Below.alloc hS2 (Below.size hS2) (.cells #[.int .i64 0, .int .i64 0, .slice none 0 0, .slice none 0 0] 36)
    refine hK.out _ _ hSB (fun hSS => ?_)
    clear hK
    refine wpAnyH_ready (rs := [8]) (by kernel_rfl) (by simp) ?_
    refine AllReadyH.cons rfl (fun K hK => ?_) AllReadyH.nil
    rw [if_pos (by rfl)]
    go_simp
    refine (HA.out _ (HBW.out _ hSB)).mono ?_
    rintro e w4 ⟨⟨u4, rfl, ho4⟩, hb4⟩
    obtain ⟨g4, m4, hu4, hm4⟩ := ho4.shape
    subst hu4
    go_simp
    have hS4 := HTS.out _ _ hSB hb4
    refine hK.out _ _ hS4 (fun hSS => ?_)
    clear hK
    refine wpAnyH_ready (rs := [13]) (by kernel_rfl) (by simp) ?_
    refine AllReadyH.cons rfl (fun K hK => ?_) AllReadyH.nil
    rw [if_pos (by rfl)]
    go_simp
    refine (HB.out _ (HBW.out _ hS4)).mono ?_
    rintro e w5 ⟨⟨u5, rfl, ho5⟩, hb5⟩
    obtain ⟨g5, m5, hu5, hm5⟩ := ho5.shape
    subst hu5
    go_simp
    have hS5 := HTS.out _ _ hS4 hb5
    refine hK.out _ _ hS5 (fun hSS => ?_)
    clear hK
    refine wpAnyH_ready (rs := [14]) (by kernel_rfl) (by simp) ?_
    refine AllReadyH.cons rfl (fun K hK => ?_) AllReadyH.nil
    rw [if_pos (by rfl)]
    go_simp
    refine (HM1.out _ _ _ _ (HBW.out _ hS5) (ho4.kept hb5) ho5.row).mono ?_
    rintro e w6 ⟨⟨u6, rfl, ho6⟩, hb6⟩
    obtain ⟨g6, m6, hu6, hm6⟩ := ho6.shape
    subst hu6
    go_simp
    have hS6 := HTS.out _ _ hS5 hb6
    refine hK.out _ _ hS6 (fun hSS => ?_)
    clear hK
    refine wpAnyH_ready (rs := [19]) (by kernel_rfl) (by simp) ?_
    refine AllReadyH.cons rfl (fun K hK => ?_) AllReadyH.nil
    rw [if_pos (by rfl)]
    go_simp
    refine (HC.out _ (HBW.out _ hS6)).mono ?_
    rintro e w8 ⟨⟨u8, rfl, ho8⟩, hb8⟩
    obtain ⟨g8, m8, hu8, hm8⟩ := ho8.shape
    subst hu8
    go_simp
    have hS8 := HTS.out _ _ hS6 hb8
    refine hK.out _ _ hS8 (fun hSS => ?_)
    clear hK
    refine wpAnyH_ready (rs := [24]) (by kernel_rfl) (by simp) ?_
    refine AllReadyH.cons rfl (fun K hK => ?_) AllReadyH.nil
    rw [if_pos (by rfl)]
    go_simp
    refine (HD.out _ (HBW.out _ hS8)).mono ?_
    rintro e w9 ⟨⟨u9, rfl, ho9⟩, hb9⟩
    obtain ⟨g9, m9, hu9, hm9⟩ := ho9.shape
    subst hu9
    go_simp
    have hS9 := HTS.out _ _ hS8 hb9
    refine hK.out _ _ hS9 (fun hSS => ?_)
    clear hK
    refine wpAnyH_ready (rs := [25]) (by kernel_rfl) (by simp) ?_
    refine AllReadyH.cons rfl (fun K hK => ?_) AllReadyH.nil
    rw [if_pos (by rfl)]
    go_simp
    refine (HM2.out _ _ _ _ (HBW.out _ hS9) (ho8.kept hb9) ho9.row).mono ?_
    rintro e w10 ⟨⟨u10, rfl, ho10⟩, hb10⟩
    obtain ⟨g10, m10, hu10, hm10⟩ := ho10.shape
    subst hu10
    go_simp
    have hS10 := HTS.out _ _ hS9 hb10
    refine hK.out _ _ hS10 (fun hSS => ?_)
    clear hK
    refine wpAnyH_take (i := 26) (v := .agg #[.int .i64 f1, .int .i64 t2, .slice g6 (andQ (wthR A1 U2) (wthR A2 U1)).length m6, .slice g10 (andQ (wthR U1 A2) (wthR U2 A1)).length m10]) rfl (by kernel_rfl) (by kernel_rfl) (by kernel_rfl) (fun _ _ _ h => h) (Or.inl ⟨by rfl, ?_⟩) (by assumption) ?_
    · intro W hSW
      first | (go_simp; done) | rfl | go_simp
    simp only [Act.put, List.getElem_toArray, List.getElem_cons_succ, List.getElem_cons_zero, List.setIfInBounds_toArray, List.set_cons_succ, List.set_cons_zero]
    refine wpAnyH_ready (rs := [28]) (by kernel_rfl) (by simp) ?_
    refine AllReadyH.cons rfl (fun K hK => ?_) AllReadyH.nil
    rw [if_pos (by rfl)]
    have hk4 : w10.heap[w2.heap.size]? = some (.cells #[.int .i64 0, .int .i64 0, .slice none 0 0, .slice none 0 0] 36) := ((hb10.block w2.heap.size (by have q0 := hb4.size; have q1 := hb5.size; have q2 := hb6.size; have q3 := hb8.size; have q4 := hb9.size; simp at q0; omega)).trans ((hb9.block w2.heap.size (by have q0 := hb4.size; have q1 := hb5.size; have q2 := hb6.size; have q3 := hb8.size; simp at q0; omega)).trans ((hb8.block w2.heap.size (by have q0 := hb4.size; have q1 := hb5.size; have q2 := hb6.size; simp at q0; omega)).trans ((hb6.block w2.heap.size (by have q0 := hb4.size; have q1 := hb5.size; simp at q0; omega)).trans ((hb5.block w2.heap.size (by have q0 := hb4.size; simp at q0; omega)).trans ((hb4.block w2.heap.size (by simp)).trans (blk_new w2.drew _)))))))
    have hgk := kpt_put4v w10 (w2.heap.size) (.int .i64 f1) (.int .i64 t2) (.slice g6 (andQ (wthR A1 U2) (wthR A2 U1)).length m6) (.slice g10 (andQ (wthR U1 A2) (wthR U2 A1)).length m10) (S := fun k => k = w2.heap.size) rfl
    have hF := put4v_heap (v0 := .int .i64 f1) (v1 := .int .i64 t2) (v2 := .slice g6 (andQ (wthR A1 U2) (wthR A2 U1)).length m6) (v3 := .slice g10 (andQ (wthR U1 A2) (wthR U2 A1)).length m10) hk4
    have hRA0 := (((ho6.kept hb8).kept hb9).kept hb10)
    have hRA := hRA0.kpt hgk (fun b hb h => by have q := ho6.lt b hb; have q0 := hb4.size; have q1 := hb5.size; have q2 := hb6.size; have q3 := hb8.size; have q4 := hb9.size; have q5 := hb10.size; (try simp at q); (try simp at q0 q1 q2 q3 q4 q5); omega)
    have hRU := ho10.kpt hgk (fun b hb h => by have q := ho10.lt b hb; have q0 := hb4.size; have q1 := hb5.size; have q2 := hb6.size; have q3 := hb8.size; have q4 := hb9.size; have q5 := hb10.size; (try simp at q); (try simp at q0 q1 q2 q3 q4 q5); omega)
    have hgB : w2.heap.size ≤ w2.heap.size := Nat.le_refl _
    have hSF := put4v_below hS10 (g := w2.heap.size) hgB (.int .i64 f1) (.int .i64 t2) (.slice g6 (andQ (wthR A1 U2) (wthR A2 U1)).length m6) (.slice g10 (andQ (wthR U1 A2) (wthR U2 A1)).length m10)
    have hgl : w6.heap.size ≤ w9.heap.size := by have q0 := hb4.size; have q1 := hb5.size; have q2 := hb6.size; have q3 := hb8.size; have q4 := hb9.size; have q5 := hb10.size; (try simp at q0 q1 q2 q3 q4 q5); omega
    have hg2 : w2.heap.size ≤ w5.heap.size := hS5.size
    obtain ⟨⟨s0, s1, s2, s3⟩, ⟨z0, z1, z2, z3⟩⟩ := dif_cells hk4
    go_simp
    unfold put4v at hF hRA hRU hSF
    refine hK.out _ _ hSF (fun hSS => ?_)
    clear hK s0 s1 s2 s3 z0 z1 z2 z3 hgk hk4
    refine wpAnyH_done (by kernel_rfl) ?_ _
    obtain ⟨WF, gF, hWF, hgF⟩ : ∃ W g, W = (((((w10).setCell ⟨w2.heap.size, 0, none⟩ (.int .i64 f1)).setCell ⟨w2.heap.size, 1, none⟩ (.int .i64 t2)).setCell ⟨w2.heap.size, 2, none⟩ (.slice g6 (andQ (wthR A1 U2) (wthR A2 U1)).length m6)).setCell ⟨w2.heap.size, 3, none⟩ (.slice g10 (andQ (wthR U1 A2) (wthR U2 A1)).length m10)) ∧ g = w2.heap.size := ⟨_, _, rfl, rfl⟩
    rw [← hWF] at hF hRA hRU hSF ⊢
    rw [← hgF] at hF ⊢
    clear hWF hgF
    have HAP : Hid (∀ g, (Value.slice g6 (andQ (wthR A1 U2) (wthR A2 U1)).length m6).ownBlock = some g → (Value.slice g10 (andQ (wthR U1 A2) (wthR U2 A1)).length m10).ownBlock ≠ some g) := fun g h1 h2 => by
      have k1 := ho6.lt g h1
      have k2 := ho10.lt g h2
      (try simp at k1)
      (try simp at k2)
      omega
    have hRA2 : OwnQ WF w2.heap.size (.slice g6 (andQ (wthR A1 U2) (wthR A2 U1)).length m6) (andQ (wthR A1 U2) (wthR A2 U1)) := hRA.base (by (try simp); omega)
    have hRU2 : OwnQ WF w2.heap.size (.slice g10 (andQ (wthR U1 A2) (wthR U2 A1)).length m10) (andQ (wthR U1 A2) (wthR U2 A1)) := hRU.base (by have q := hS9.size; (try simp); omega)
    have HKF : Hid (WF.heap[gF]? = some (.cells #[.int .i64 f1, .int .i64 t2, .slice g6 (andQ (wthR A1 U2) (wthR A2 U1)).length m6, .slice g10 (andQ (wthR U1 A2) (wthR U2 A1)).length m10] 36)) := hF
    have hzF : gF < WF.heap.size := (Array.getElem?_eq_some_iff.1 hF).1
    have HRA : Hid (∀ W, Below WF.heap.size WF W → OwnQ W w2.heap.size (.slice g6 (andQ (wthR A1 U2) (wthR A2 U1)).length m6) (andQ (wthR A1 U2) (wthR A2 U1)) ∧ OwnQ W w2.heap.size (.slice g10 (andQ (wthR U1 A2) (wthR U2 A1)).length m10) (andQ (wthR U1 A2) (wthR U2 A1))) := fun W hW => ⟨hRA2.kept hW, hRU2.kept hW⟩
    have hrA := hRA2.row
    have hrU := hRU2.row
    have HSF : Hid (Below w2.heap.size w2 WF) := hSF
    have hbF := HBW.out _ hSF
    have hz2 : w.heap.size + 1 + 1 < w2.heap.size := (HXS.out _ (Below.refl _ _)).2.2.2.2.2
    obtain ⟨k0, k1, k2, k3⟩ := dif4 hF
    clear hF hRA hRU hRA2 hRU2 hSF hSS
    go_wp2_with fail
    refine (HGO.out _ _ _ hbF hrA hrU).mono ?_
    rintro e w11 ⟨rfl, hb11⟩
    have hS11 := HTS.out _ _ HSF.out hb11
    obtain ⟨⟨p0, p1, p2, p3⟩, ⟨d0, d1, d2, d3⟩, ⟨⟨r0, r1, r2, r3⟩, ⟨f0, f1', f2', f3⟩⟩, HZ, hbw, hz⟩ := HXS.out _ hS11
    have hK11 : w11.heap[gF]? = some (.cells #[.int .i64 f1, .int .i64 t2, .slice g6 (andQ (wthR A1 U2) (wthR A2 U1)).length m6, .slice g10 (andQ (wthR U1 A2) (wthR U2 A1)).length m10] 36) := (hb11.block _ hzF).trans HKF.out
    obtain ⟨h0, h1, h2, h3⟩ := dif4 hK11
    have HRA2 := HRA.out _ hb11
    have HRB : Hid (OwnQ w11 w2.heap.size (.slice g6 (andQ (wthR A1 U2) (wthR A2 U1)).length m6) (andQ (wthR A1 U2) (wthR A2 U1)) ∧ OwnQ w11 w2.heap.size (.slice g10 (andQ (wthR U1 A2) (wthR U2 A1)).length m10) (andQ (wthR U1 A2) (wthR U2 A1))) := HRA2
    clear k0 k1 k2 k3 hK11 HRA2 hrA hrU hbF
    cases ok5 with
    | false =>
      have HNO : (true && false) = false := rfl
      go_wp2_with fail
      (try simp only [Exit.inBlock, Exit.then])
      refine bodyPost_ret (results_row_tmp rfl _ _ (w.heap.size + 1 + 1) 36 #[.int .i64 0, .int .i64 0, .slice none 0 0, .slice none 0 0] (0, 0) _ (.bool false) rfl rfl ?_ Tryz.underlying36 rfl (by kernel_rfl)) rfl ⟨⟨fun _ => down_no _ _, fun h => absurd h (by rw [HNO]; simp)⟩, ?_⟩
      · first | exact put4v_heap HZ | exact HZ
      · first | exact put4v_below hbw (by omega) _ _ _ _ | exact hbw
    | true =>
      go_wp2_with fail
      (try simp only [Exit.inBlock, Exit.then])
      refine bodyPost_ret (results_row_tmp rfl _ _ (w.heap.size + 1 + 1) 36 #[.int .i64 f1, .int .i64 t2, .slice g6 (andQ (wthR A1 U2) (wthR A2 U1)).length m6, .slice g10 (andQ (wthR U1 A2) (wthR U2 A1)).length m10] (0, 0) _ (.bool true) rfl rfl ?_ Tryz.underlying36 rfl (by kernel_rfl)) rfl ⟨⟨fun h => absurd h (by simp), fun _ => ⟨_, _, rfl, ?_, ?_, HAP.out⟩⟩, ?_⟩
      · exact put4v_heap HZ
      · exact (HRB.out.1.kpt (kpt_put4v _ (w.heap.size + 1 + 1) _ _ _ _ (S := fun k => k = w.heap.size + 1 + 1) rfl) (fun g hg h => by have h1 := HRB.out.1.lt g hg; omega)).base (by omega)
      · exact (HRB.out.2.kpt (kpt_put4v _ (w.heap.size + 1 + 1) _ _ _ _ (S := fun k => k = w.heap.size + 1 + 1) rfl) (fun g hg h => by have h1 := HRB.out.2.lt g hg; omega)).base (by omega)
      · exact put4v_below hbw (by omega) _ _ _ _
end Go.Proofs.YtdbbcepjdojdcaaGreatDoor
