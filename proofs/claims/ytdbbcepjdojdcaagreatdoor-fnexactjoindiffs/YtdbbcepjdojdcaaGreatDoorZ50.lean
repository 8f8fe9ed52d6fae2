import Derived.Test.YtdbbcepjdojdcaaGreatDoorZ41
import Derived.Test.YtdbbcepjdojdcaaGreatDoorZ48
import Derived.Test.YtdbbcepjdojdcaaGreatDoorZ28
import Derived.Test.YtdbbcepjdojdcaaGreatDoorZ49
import Derived.Deep.RegionHeld3
namespace Go.Proofs.YtdbbcepjdojdcaaGreatDoor
open Go.RowKit

set_option maxRecDepth 20000 in
set_option maxHeartbeats 32000000 in
theorem sJoinDiffs_any (f1 t1 : Int) (va vu : Value) (A1 U1 : List (List UInt8 × Int × Int × List UInt8)) (f2 t2 : Int) (vb vc : Value) (A2 U2 : List (List UInt8 × Int × Int × List UInt8)) (w : World) (ha : RRow w va A1) (hu : RRow w vu U1) (hb : RRow w vb A2) (hc : RRow w vc U2)
    (hxa : Hid (∀ x ∈ A1, x.1.length ≤ 1048576 ∧ x.2.2.2.length ≤ 1048576)) (hxu : Hid (∀ x ∈ U1, x.1.length ≤ 1048576 ∧ x.2.2.2.length ≤ 1048576)) (hxb : Hid (∀ x ∈ A2, x.1.length ≤ 1048576 ∧ x.2.2.2.length ≤ 1048576)) (hxc : Hid (∀ x ∈ U2, x.1.length ≤ 1048576 ∧ x.2.2.2.length ≤ 1048576)) :
    Calls Tryz.prog 17 #[DifV f1 t1 va vu, DifV f2 t2 vb vc] w fun e w' => (((joiB f1 t1 A1 U1 f2 t2 A2 U2 && difB f1 t2 (andQ (wthR A1 U2) (wthR A2 U1)) (andQ (wthR U1 A2) (wthR U2 A1))) = false → DRes w' false 0 0 [] [] e) ∧ ((joiB f1 t1 A1 U1 f2 t2 A2 U2 && difB f1 t2 (andQ (wthR A1 U2) (wthR A2 U1)) (andQ (wthR U1 A2) (wthR U2 A1))) = true → DRes w' true f1 t2 (andQ (wthR A1 U2) (wthR A2 U1)) (andQ (wthR U1 A2) (wthR U2 A1)) e)) ∧ Below w.heap.size w w' := by
  have HG1 : Hid (∀ W, Below w.heap.size w W → Calls Tryz.prog 28 #[DifV f1 t1 va vu] W fun e w' => e = .returned (.bool (difB f1 t1 A1 U1)) ∧ Below W.heap.size W w') := fun W hW => sGoodDiff_any f1 t1 va vu A1 U1 W (ha.kept hW) (hu.kept hW) hxa hxu
  have HG2 : Hid (∀ W, Below w.heap.size w W → Calls Tryz.prog 28 #[DifV f2 t2 vb vc] W fun e w' => e = .returned (.bool (difB f2 t2 A2 U2)) ∧ Below W.heap.size W w') := fun W hW => sGoodDiff_any f2 t2 vb vc A2 U2 W (hb.kept hW) (hc.kept hW) hxb hxc
  have HL1 : Hid (A1.length ≤ 1048576 → ∀ W, Below w.heap.size w W → Calls Tryz.prog 31 #[va, vc] W fun e w' => (∃ u, e = .returned u ∧ OwnQ w' W.heap.size u (wthR A1 U2)) ∧ Below W.heap.size W w') := fun hl W hW => l9Less_any va vc A1 U2 W (ha.kept hW) (hc.kept hW) hl
  have HL2 : Hid (A2.length ≤ 1048576 → ∀ W, Below w.heap.size w W → Calls Tryz.prog 31 #[vb, vu] W fun e w' => (∃ u, e = .returned u ∧ OwnQ w' W.heap.size u (wthR A2 U1)) ∧ Below W.heap.size W w') := fun hl W hW => l9Less_any vb vu A2 U1 W (hb.kept hW) (hu.kept hW) hl
  have HL3 : Hid (U1.length ≤ 1048576 → ∀ W, Below w.heap.size w W → Calls Tryz.prog 31 #[vu, vb] W fun e w' => (∃ u, e = .returned u ∧ OwnQ w' W.heap.size u (wthR U1 A2)) ∧ Below W.heap.size W w') := fun hl W hW => l9Less_any vu vb U1 A2 W (hu.kept hW) (hb.kept hW) hl
  have HL4 : Hid (U2.length ≤ 1048576 → ∀ W, Below w.heap.size w W → Calls Tryz.prog 31 #[vc, va] W fun e w' => (∃ u, e = .returned u ∧ OwnQ w' W.heap.size u (wthR U2 A1)) ∧ Below W.heap.size W w') := fun hl W hW => l9Less_any vc va U2 A1 W (hc.kept hW) (ha.kept hW) hl
  have HGQ : Hid (∀ {f t : Int} {A U : List (List UInt8 × Int × Int × List UInt8)}, difB f t A U = true → (∀ x ∈ A, x.1.length ≤ 1048576 ∧ x.2.2.2.length ≤ 1048576) → (∀ x ∈ U, x.1.length ≤ 1048576 ∧ x.2.2.2.length ≤ 1048576) → (A.length ≤ 40 ∧ (∀ x ∈ A, GoodQ x) ∧ risQ A) ∧ (U.length ≤ 40 ∧ (∀ x ∈ U, GoodQ x) ∧ risQ U)) := fun h hA hU => by
    have k := dif_lists h
    have g1 := goodq_of (list_ares k.1) hA
    have g2 := goodq_of (list_ares k.2) hU
    exact ⟨⟨listB_len k.1, g1, list_ris k.1 g1⟩, ⟨listB_len k.2, g2, list_ris k.2 g2⟩⟩
  have HN1 : Hid (difB f1 t1 A1 U1 = true → difB f2 t2 A2 U2 = true → ∀ v v' W, RRow W v (wthR A1 U2) → (∀ n c, v = .slice none n c → c = 0) → RRow W v' (wthR A2 U1) → Calls Tryz.prog 30 #[v, v'] W fun e w' => (∃ u, e = .returned u ∧ RRow w' u (andQ (wthR A1 U2) (wthR A2 U1)) ∧ ∀ n c, u = .slice none n c → c = 0) ∧ Below W.heap.size W w') := fun hd1 hd2 v v' W hv hn hv' => by
    have q1 := HGQ.out hd1 hxa.out hxu.out
    have q2 := HGQ.out hd2 hxb.out hxc.out
    have l1 := wthR_le A1 U2
    have l2 := wthR_le A2 U1
    have l3 := q1.1.1
    have l4 := q2.1.1
    exact l9And_any v v' (wthR A1 U2) (wthR A2 U1) W hv hv' hn (fun x hx => q1.1.2.1 x (wthR_mem hx)) (fun x hx => q2.1.2.1 x (wthR_mem hx)) (by omega)
  have HN2 : Hid (difB f1 t1 A1 U1 = true → difB f2 t2 A2 U2 = true → ∀ v v' W, RRow W v (wthR U1 A2) → (∀ n c, v = .slice none n c → c = 0) → RRow W v' (wthR U2 A1) → Calls Tryz.prog 30 #[v, v'] W fun e w' => (∃ u, e = .returned u ∧ RRow w' u (andQ (wthR U1 A2) (wthR U2 A1)) ∧ ∀ n c, u = .slice none n c → c = 0) ∧ Below W.heap.size W w') := fun hd1 hd2 v v' W hv hn hv' => by
    have q1 := HGQ.out hd1 hxa.out hxu.out
    have q2 := HGQ.out hd2 hxb.out hxc.out
    have l1 := wthR_le U1 A2
    have l2 := wthR_le U2 A1
    have l3 := q1.2.1
    have l4 := q2.2.1
    exact l9And_any v v' (wthR U1 A2) (wthR U2 A1) W hv hv' hn (fun x hx => q1.2.2.1 x (wthR_mem hx)) (fun x hx => q2.2.2.1 x (wthR_mem hx)) (by omega)
  have HGO : Hid (∀ v v' W, RRow W v (andQ (wthR A1 U2) (wthR A2 U1)) → RRow W v' (andQ (wthR U1 A2) (wthR U2 A1)) → Calls Tryz.prog 28 #[DifV f1 t2 v v'] W fun e w' => e = .returned (.bool (difB f1 t2 (andQ (wthR A1 U2) (wthR A2 U1)) (andQ (wthR U1 A2) (wthR U2 A1)))) ∧ Below W.heap.size W w') := fun v v' W hv hv' =>
    sGoodDiff_any f1 t2 v v' _ _ W hv hv' (fun x hx => by
      rcases andQ_mem hx with h | h
      · exact hxa.out x (wthR_mem h)
      · exact hxb.out x (wthR_mem h)) (fun x hx => by
      rcases andQ_mem hx with h | h
      · exact hxu.out x (wthR_mem h)
      · exact hxc.out x (wthR_mem h))
  have HLEN : Hid (difB f1 t1 A1 U1 = true → difB f2 t2 A2 U2 = true → A1.length ≤ 1048576 ∧ U1.length ≤ 1048576 ∧ A2.length ≤ 1048576 ∧ U2.length ≤ 1048576) := fun h1 h2 => by
    have q1 := HGQ.out h1 hxa.out hxu.out
    have q2 := HGQ.out h2 hxb.out hxc.out
    omega
  obtain ⟨a1, c1, rfl, hc11, hc1, _⟩ := rrow_value ha
  obtain ⟨b1, e1, rfl, he11, he1, _⟩ := rrow_value hu
  obtain ⟨a2, c2, rfl, hc21, hc2, _⟩ := rrow_value hb
  obtain ⟨b2, e2, rfl, he21, he2, _⟩ := rrow_value hc
  clear ha hu hb hc
  obtain ⟨W0, hW0⟩ : ∃ W0, W0 = ((w.alloc (.cells #[.int .i64 f1, .int .i64 t1, .slice a1 A1.length c1, .slice b1 U1.length e1] 36)).alloc (.cells #[.int .i64 f2, .int .i64 t2, .slice a2 A2.length c2, .slice b2 U2.length e2] 36)).alloc (.cells #[.int .i64 0, .int .i64 0, .slice none 0 0, .slice none 0 0] 36) := ⟨_, rfl⟩
  have HW0 : Hid (((w.alloc (.cells #[.int .i64 f1, .int .i64 t1, .slice a1 A1.length c1, .slice b1 U1.length e1] 36)).alloc (.cells #[.int .i64 f2, .int .i64 t2, .slice a2 A2.length c2, .slice b2 U2.length e2] 36)).alloc (.cells #[.int .i64 0, .int .i64 0, .slice none 0 0, .slice none 0 0] 36) = W0) := hW0.symm
  have HX : Hid (∀ W, Below W0.heap.size W0 W → (W.cell? ⟨w.heap.size, 0, none⟩ = some (.int .i64 f1) ∧ W.cell? ⟨w.heap.size, 1, none⟩ = some (.int .i64 t1) ∧ W.cell? ⟨w.heap.size, 2, none⟩ = some (.slice a1 A1.length c1) ∧ W.cell? ⟨w.heap.size, 3, none⟩ = some (.slice b1 U1.length e1)) ∧ (W.cell? ⟨w.heap.size + 1, 0, none⟩ = some (.int .i64 f2) ∧ W.cell? ⟨w.heap.size + 1, 1, none⟩ = some (.int .i64 t2) ∧ W.cell? ⟨w.heap.size + 1, 2, none⟩ = some (.slice a2 A2.length c2) ∧ W.cell? ⟨w.heap.size + 1, 3, none⟩ = some (.slice b2 U2.length e2)) ∧ ((W.cell? ⟨w.heap.size + 1 + 1, 0, none⟩ = some (.int .i64 0) ∧ W.cell? ⟨w.heap.size + 1 + 1, 1, none⟩ = some (.int .i64 0) ∧ W.cell? ⟨w.heap.size + 1 + 1, 2, none⟩ = some (.slice none 0 0) ∧ W.cell? ⟨w.heap.size + 1 + 1, 3, none⟩ = some (.slice none 0 0)) ∧ (W.frozen? ⟨w.heap.size + 1 + 1, 0, none⟩ = false ∧ W.frozen? ⟨w.heap.size + 1 + 1, 1, none⟩ = false ∧ W.frozen? ⟨w.heap.size + 1 + 1, 2, none⟩ = false ∧ W.frozen? ⟨w.heap.size + 1 + 1, 3, none⟩ = false)) ∧ W.heap[w.heap.size + 1 + 1]? = some (.cells #[.int .i64 0, .int .i64 0, .slice none 0 0, .slice none 0 0] 36) ∧ Below w.heap.size w W ∧ w.heap.size + 1 + 1 < W.heap.size) := fun W hW => by
    rw [hW0] at hW
    obtain ⟨q1, q2, q3, q4, q5⟩ := heaps3 hW
    exact ⟨(dif_cells q1).1, (dif_cells q2).1, dif_cells q3, q3, q4, q5⟩
  have hb0 : Below W0.heap.size W0 W0 := Below.refl _ _
  have HTR : Hid (∀ W W', Below W0.heap.size W0 W → Below W.heap.size W W' → Below W0.heap.size W0 W') := fun W W' h1 h2 => h1.trans (h2.mono h1.size)
  have HJO : Hid (joiB f1 t1 A1 U1 f2 t2 A2 U2 = (difB f1 t1 A1 U1 && (difB f2 t2 A2 U2 && decide (t1 = f2)))) := rfl
  have HFT : Hid (f1 = t2 → difB f1 t2 (andQ (wthR A1 U2) (wthR A2 U1)) (andQ (wthR U1 A2) (wthR U2 A1)) = false) := fun h => dif_ends h
  obtain ⟨ok4, hok4⟩ : ∃ b, b = joiB f1 t1 A1 U1 f2 t2 A2 U2 := ⟨_, rfl⟩
  obtain ⟨ok5, hok5⟩ : ∃ b, b = difB f1 t2 (andQ (wthR A1 U2) (wthR A2 U1)) (andQ (wthR U1 A2) (wthR U2 A1)) := ⟨_, rfl⟩
  rw [← hok4, ← hok5]
  rw [← hok4] at HJO
  rw [← hok5] at HGO HFT
  obtain ⟨ok1, hok1⟩ : ∃ b, b = difB f1 t1 A1 U1 := ⟨_, rfl⟩
  obtain ⟨ok2, hok2⟩ : ∃ b, b = difB f2 t2 A2 U2 := ⟨_, rfl⟩
  rw [← hok1] at HG1 HN1 HN2 HLEN HJO
  rw [← hok2] at HG2 HN1 HN2 HLEN HJO
  clear hok1 hok2 hok4 hok5 hW0 HGQ
  unfold DifV at HG1 HG2 HGO ⊢
  cases ok1 with
  | false =>
    have hF : ok4 = false := HJO.out
    subst hF
    have HNO : (false && ok5) = false := rfl
    clear HJO
    go_enter Tryz.func17, Tryz.ntmps17
    go_wp2_with fail
    rw [HW0.out]
    obtain ⟨⟨p0, p1, p2, p3⟩, ⟨d0, d1, d2, d3⟩, ⟨⟨r0, r1, r2, r3⟩, ⟨f0, f1', f2', f3⟩⟩, HZ, hbw, hz⟩ := HX.out _ hb0
    refine (HG1.out _ hbw).mono ?_
    rintro e w1 ⟨rfl, hb1⟩
    have hb01 := HTR.out _ _ hb0 hb1
    clear p0 p1 p2 p3 d0 d1 d2 d3 r0 r1 r2 r3 f0 f1' f2' f3 HZ hbw hz
    obtain ⟨⟨p0, p1, p2, p3⟩, ⟨d0, d1, d2, d3⟩, ⟨⟨r0, r1, r2, r3⟩, ⟨f0, f1', f2', f3⟩⟩, HZ, hbw, hz⟩ := HX.out _ hb01
    go_wp2_with fail
    (try simp only [Exit.inBlock, Exit.then])
    refine bodyPost_ret (results_row_tmp rfl _ _ (w.heap.size + 1 + 1) 36 #[.int .i64 0, .int .i64 0, .slice none 0 0, .slice none 0 0] (0, 0) _ (.bool false) rfl rfl ?_ Tryz.underlying36 rfl (by kernel_rfl)) rfl ⟨⟨fun _ => dres_no _, fun h => absurd h (by rw [HNO]; simp)⟩, ?_⟩
    · first | exact put4v_heap HZ | exact HZ
    · first | exact put4v_below hbw (by omega) _ _ _ _ | exact hbw
  | true =>
  cases ok2 with
  | false =>
    have hF : ok4 = false := HJO.out
    subst hF
    have HNO : (false && ok5) = false := rfl
    clear HJO
    go_enter Tryz.func17, Tryz.ntmps17
    go_wp2_with fail
    rw [HW0.out]
    obtain ⟨⟨p0, p1, p2, p3⟩, ⟨d0, d1, d2, d3⟩, ⟨⟨r0, r1, r2, r3⟩, ⟨f0, f1', f2', f3⟩⟩, HZ, hbw, hz⟩ := HX.out _ hb0
    refine (HG1.out _ hbw).mono ?_
    rintro e w1 ⟨rfl, hb1⟩
    have hb01 := HTR.out _ _ hb0 hb1
    clear p0 p1 p2 p3 d0 d1 d2 d3 r0 r1 r2 r3 f0 f1' f2' f3 HZ hbw hz
    obtain ⟨⟨p0, p1, p2, p3⟩, ⟨d0, d1, d2, d3⟩, ⟨⟨r0, r1, r2, r3⟩, ⟨f0, f1', f2', f3⟩⟩, HZ, hbw, hz⟩ := HX.out _ hb01
    go_wp2_with fail
    refine (HG2.out _ hbw).mono ?_
    rintro e w2 ⟨rfl, hb2⟩
    have hb02 := HTR.out _ _ hb01 hb2
    clear p0 p1 p2 p3 d0 d1 d2 d3 r0 r1 r2 r3 f0 f1' f2' f3 HZ hbw hz
    obtain ⟨⟨p0, p1, p2, p3⟩, ⟨d0, d1, d2, d3⟩, ⟨⟨r0, r1, r2, r3⟩, ⟨f0, f1', f2', f3⟩⟩, HZ, hbw, hz⟩ := HX.out _ hb02
    go_wp2_with fail
    (try simp only [Exit.inBlock, Exit.then])
    refine bodyPost_ret (results_row_tmp rfl _ _ (w.heap.size + 1 + 1) 36 #[.int .i64 0, .int .i64 0, .slice none 0 0, .slice none 0 0] (0, 0) _ (.bool false) rfl rfl ?_ Tryz.underlying36 rfl (by kernel_rfl)) rfl ⟨⟨fun _ => dres_no _, fun h => absurd h (by rw [HNO]; simp)⟩, ?_⟩
    · first | exact put4v_heap HZ | exact HZ
    · first | exact put4v_below hbw (by omega) _ _ _ _ | exact hbw
  | true =>
  by_cases h3 : t1 = f2
  rotate_left
  · have hF : ok4 = false := HJO.out.trans (by simp [h3])
    subst hF
    have HNO : (false && ok5) = false := rfl
    have HNE : ((f2 == t1) : Bool) = false := by simpa using fun e => h3 e.symm
    clear HJO
    go_enter Tryz.func17, Tryz.ntmps17
    go_wp2_with fail
    rw [HW0.out]
    obtain ⟨⟨p0, p1, p2, p3⟩, ⟨d0, d1, d2, d3⟩, ⟨⟨r0, r1, r2, r3⟩, ⟨f0, f1', f2', f3⟩⟩, HZ, hbw, hz⟩ := HX.out _ hb0
    refine (HG1.out _ hbw).mono ?_
    rintro e w1 ⟨rfl, hb1⟩
    have hb01 := HTR.out _ _ hb0 hb1
    clear p0 p1 p2 p3 d0 d1 d2 d3 r0 r1 r2 r3 f0 f1' f2' f3 HZ hbw hz
    obtain ⟨⟨p0, p1, p2, p3⟩, ⟨d0, d1, d2, d3⟩, ⟨⟨r0, r1, r2, r3⟩, ⟨f0, f1', f2', f3⟩⟩, HZ, hbw, hz⟩ := HX.out _ hb01
    go_wp2_with fail
    refine (HG2.out _ hbw).mono ?_
    rintro e w2 ⟨rfl, hb2⟩
    have hb02 := HTR.out _ _ hb01 hb2
    clear p0 p1 p2 p3 d0 d1 d2 d3 r0 r1 r2 r3 f0 f1' f2' f3 HZ hbw hz
    obtain ⟨⟨p0, p1, p2, p3⟩, ⟨d0, d1, d2, d3⟩, ⟨⟨r0, r1, r2, r3⟩, ⟨f0, f1', f2', f3⟩⟩, HZ, hbw, hz⟩ := HX.out _ hb02
    go_wp2_with fail
    (try simp only [Exit.inBlock, Exit.then])
    refine bodyPost_ret (results_row_tmp rfl _ _ (w.heap.size + 1 + 1) 36 #[.int .i64 0, .int .i64 0, .slice none 0 0, .slice none 0 0] (0, 0) _ (.bool false) rfl rfl ?_ Tryz.underlying36 rfl (by kernel_rfl)) rfl ⟨⟨fun _ => dres_no _, fun h => absurd h (by rw [HNO]; simp)⟩, ?_⟩
    · first | exact put4v_heap HZ | exact HZ
    · first | exact put4v_below hbw (by omega) _ _ _ _ | exact hbw
  have hF : ok4 = true := HJO.out.trans (by simp [h3])
  subst hF
  subst h3
  clear HJO
  by_cases h4 : f1 = t2
  · have hF5 : ok5 = false := HFT.out h4
    subst hF5
    have HNO : (true && false) = false := rfl
    subst h4
    clear HFT
    go_enter Tryz.func17, Tryz.ntmps17
    go_wp2_with fail
    rw [HW0.out]
    obtain ⟨⟨p0, p1, p2, p3⟩, ⟨d0, d1, d2, d3⟩, ⟨⟨r0, r1, r2, r3⟩, ⟨f0, f1', f2', f3⟩⟩, HZ, hbw, hz⟩ := HX.out _ hb0
    refine (HG1.out _ hbw).mono ?_
    rintro e w1 ⟨rfl, hb1⟩
    have hb01 := HTR.out _ _ hb0 hb1
    clear p0 p1 p2 p3 d0 d1 d2 d3 r0 r1 r2 r3 f0 f1' f2' f3 HZ hbw hz
    obtain ⟨⟨p0, p1, p2, p3⟩, ⟨d0, d1, d2, d3⟩, ⟨⟨r0, r1, r2, r3⟩, ⟨f0, f1', f2', f3⟩⟩, HZ, hbw, hz⟩ := HX.out _ hb01
    go_wp2_with fail
    refine (HG2.out _ hbw).mono ?_
    rintro e w2 ⟨rfl, hb2⟩
    have hb02 := HTR.out _ _ hb01 hb2
    clear p0 p1 p2 p3 d0 d1 d2 d3 r0 r1 r2 r3 f0 f1' f2' f3 HZ hbw hz
    obtain ⟨⟨p0, p1, p2, p3⟩, ⟨d0, d1, d2, d3⟩, ⟨⟨r0, r1, r2, r3⟩, ⟨f0, f1', f2', f3⟩⟩, HZ, hbw, hz⟩ := HX.out _ hb02
    go_wp2_with fail
    (try simp only [Exit.inBlock, Exit.then])
    refine bodyPost_ret (results_row_tmp rfl _ _ (w.heap.size + 1 + 1) 36 #[.int .i64 0, .int .i64 0, .slice none 0 0, .slice none 0 0] (0, 0) _ (.bool false) rfl rfl ?_ Tryz.underlying36 rfl (by kernel_rfl)) rfl ⟨⟨fun _ => dres_no _, fun h => absurd h (by rw [HNO]; simp)⟩, ?_⟩
    · first | exact put4v_heap HZ | exact HZ
    · first | exact put4v_below hbw (by omega) _ _ _ _ | exact hbw
  have HEQ : ((f1 == t2) : Bool) = false := by simpa using h4
  obtain ⟨l1, l2, l3, l4⟩ := HLEN.out rfl rfl
  have HA : Hid _ := HL1.out l1
  have HB : Hid _ := HL2.out l3
  have HC : Hid _ := HL3.out l2
  have HD : Hid _ := HL4.out l4
  have HM1 : Hid _ := HN1.out rfl rfl
  have HM2 : Hid _ := HN2.out rfl rfl
  clear HL1 HL2 HL3 HL4 HN1 HN2 HLEN HFT l1 l2 l3 l4
  go_enter Tryz.func17, Tryz.ntmps17
  go_wp2_with fail
  rw [HW0.out]
  obtain ⟨⟨p0, p1, p2, p3⟩, ⟨d0, d1, d2, d3⟩, ⟨⟨r0, r1, r2, r3⟩, ⟨f0, f1', f2', f3⟩⟩, HZ, hbw, hz⟩ := HX.out _ hb0
  refine (HG1.out _ hbw).mono ?_
  rintro e w1 ⟨rfl, hb1⟩
  have hb01 := HTR.out _ _ hb0 hb1
  clear p0 p1 p2 p3 d0 d1 d2 d3 r0 r1 r2 r3 f0 f1' f2' f3 HZ hbw hz
  obtain ⟨⟨p0, p1, p2, p3⟩, ⟨d0, d1, d2, d3⟩, ⟨⟨r0, r1, r2, r3⟩, ⟨f0, f1', f2', f3⟩⟩, HZ, hbw, hz⟩ := HX.out _ hb01
  go_wp2_with fail
  refine (HG2.out _ hbw).mono ?_
  rintro e w2 ⟨rfl, hb2⟩
  have hb02 := HTR.out _ _ hb01 hb2
  clear p0 p1 p2 p3 d0 d1 d2 d3 r0 r1 r2 r3 f0 f1' f2' f3 HZ hbw hz
  obtain ⟨⟨p0, p1, p2, p3⟩, ⟨d0, d1, d2, d3⟩, ⟨⟨r0, r1, r2, r3⟩, ⟨f0, f1', f2', f3⟩⟩, HZ, hbw, hz⟩ := HX.out _ hb02
  go_wp2_with fail
  have HXS : Hid (∀ W, Below w2.heap.size w2 W → (W.cell? ⟨w.heap.size, 0, none⟩ = some (.int .i64 f1) ∧ W.cell? ⟨w.heap.size, 1, none⟩ = some (.int .i64 t1) ∧ W.cell? ⟨w.heap.size, 2, none⟩ = some (.slice a1 A1.length c1) ∧ W.cell? ⟨w.heap.size, 3, none⟩ = some (.slice b1 U1.length e1)) ∧ (W.cell? ⟨w.heap.size + 1, 0, none⟩ = some (.int .i64 t1) ∧ W.cell? ⟨w.heap.size + 1, 1, none⟩ = some (.int .i64 t2) ∧ W.cell? ⟨w.heap.size + 1, 2, none⟩ = some (.slice a2 A2.length c2) ∧ W.cell? ⟨w.heap.size + 1, 3, none⟩ = some (.slice b2 U2.length e2)) ∧ ((W.cell? ⟨w.heap.size + 1 + 1, 0, none⟩ = some (.int .i64 0) ∧ W.cell? ⟨w.heap.size + 1 + 1, 1, none⟩ = some (.int .i64 0) ∧ W.cell? ⟨w.heap.size + 1 + 1, 2, none⟩ = some (.slice none 0 0) ∧ W.cell? ⟨w.heap.size + 1 + 1, 3, none⟩ = some (.slice none 0 0)) ∧ (W.frozen? ⟨w.heap.size + 1 + 1, 0, none⟩ = false ∧ W.frozen? ⟨w.heap.size + 1 + 1, 1, none⟩ = false ∧ W.frozen? ⟨w.heap.size + 1 + 1, 2, none⟩ = false ∧ W.frozen? ⟨w.heap.size + 1 + 1, 3, none⟩ = false)) ∧ W.heap[w.heap.size + 1 + 1]? = some (.cells #[.int .i64 0, .int .i64 0, .slice none 0 0, .slice none 0 0] 36) ∧ Below w.heap.size w W ∧ w.heap.size + 1 + 1 < W.heap.size) := fun W hW => HX.out W (HTR.out _ _ hb02 hW)
  have HBW : Hid (∀ W, Below w2.heap.size w2 W → Below w.heap.size w W) := fun W hW => (HXS.out W hW).2.2.2.2.1
  have HTS : Hid (∀ W W', Below w2.heap.size w2 W → Below W.heap.size W W' → Below w2.heap.size w2 W') := fun W W' h1 h2 => h1.trans (h2.mono h1.size)
  clear p0 p1 p2 p3 d0 d1 d2 d3 r0 r1 r2 r3 f0 f1' f2' f3 HZ hbw hz
  clear HG1 HG2 HEQ h4
  have hS3 : Below w2.heap.size w2 (w2.alloc (.cells #[.int .i64 f1, .int .i64 t2, .slice none 0 0, .slice none 0 0] 36)).drew := ((Below.refl _ _).alloc (Nat.le_refl _) _).drew
  have HK3 : Hid ((w2.alloc (.cells #[.int .i64 f1, .int .i64 t2, .slice none 0 0, .slice none 0 0] 36)).drew.heap[w2.heap.size]? = some (.cells #[.int .i64 f1, .int .i64 t2, .slice none 0 0, .slice none 0 0] 36)) := blk_new w2 _
  have hz3 : w2.heap.size < (w2.alloc (.cells #[.int .i64 f1, .int .i64 t2, .slice none 0 0, .slice none 0 0] 36)).drew.heap.size := by simp
  obtain ⟨W3, hW3⟩ : ∃ W, W = (w2.alloc (.cells #[.int .i64 f1, .int .i64 t2, .slice none 0 0, .slice none 0 0] 36)).drew := ⟨_, rfl⟩
  refine wp_region_held_drew (S := fun W : World => Below w2.heap.size w2 W) (by kernel_rfl) hS3 (fun hHeld => ?_)
  refine wpAnyH_take (i := 0) (v := .pointer (some ⟨w.heap.size, 2, none⟩)) rfl (by kernel_rfl) (by kernel_rfl) (by kernel_rfl) (fun _ _ _ h => h) (Or.inl ⟨by rfl, ?_⟩) (by assumption) ?_
  · intro W hSW
    first | (go_simp; done) | rfl | go_simp
  simp only [Act.put, List.getElem_toArray, List.getElem_cons_zero, List.setIfInBounds_toArray, List.set_cons_succ, List.set_cons_zero]
  refine wpAnyH_take (i := 1) (v := .slice a1 A1.length c1) rfl (by kernel_rfl) (by kernel_rfl) (by kernel_rfl) (fun _ _ _ h => h) (Or.inl ⟨by rfl, ?_⟩) (by assumption) ?_
  · intro W hSW
    obtain ⟨⟨q0, q1, q2, q3⟩, ⟨y0, y1, y2, y3⟩, _⟩ := HXS.out _ hSW
    go_simp
  simp only [Act.put, List.getElem_toArray, List.getElem_cons_succ, List.getElem_cons_zero, List.setIfInBounds_toArray, List.set_cons_succ, List.set_cons_zero]
  refine wpAnyH_take (i := 2) (v := .pointer (some ⟨w.heap.size + 1, 3, none⟩)) rfl (by kernel_rfl) (by kernel_rfl) (by kernel_rfl) (fun _ _ _ h => h) (Or.inl ⟨by rfl, ?_⟩) (by assumption) ?_
  · intro W hSW
    first | (go_simp; done) | rfl | go_simp
  simp only [Act.put, List.getElem_toArray, List.getElem_cons_succ, List.getElem_cons_zero, List.setIfInBounds_toArray, List.set_cons_succ, List.set_cons_zero]
  refine wpAnyH_take (i := 3) (v := .slice b2 U2.length e2) rfl (by kernel_rfl) (by kernel_rfl) (by kernel_rfl) (fun _ _ _ h => h) (Or.inl ⟨by rfl, ?_⟩) (by assumption) ?_
  · intro W hSW
    obtain ⟨⟨q0, q1, q2, q3⟩, ⟨y0, y1, y2, y3⟩, _⟩ := HXS.out _ hSW
    go_simp
  simp only [Act.put, List.getElem_toArray, List.getElem_cons_succ, List.getElem_cons_zero, List.setIfInBounds_toArray, List.set_cons_succ, List.set_cons_zero]
  refine wpAnyH_take (i := 5) (v := .pointer (some ⟨w.heap.size + 1, 2, none⟩)) rfl (by kernel_rfl) (by kernel_rfl) (by kernel_rfl) (fun _ _ _ h => h) (Or.inl ⟨by rfl, ?_⟩) (by assumption) ?_
  · intro W hSW
    first | (go_simp; done) | rfl | go_simp
  simp only [Act.put, List.getElem_toArray, List.getElem_cons_succ, List.getElem_cons_zero, List.setIfInBounds_toArray, List.set_cons_succ, List.set_cons_zero]
  refine wpAnyH_take (i := 6) (v := .slice a2 A2.length c2) rfl (by kernel_rfl) (by kernel_rfl) (by kernel_rfl) (fun _ _ _ h => h) (Or.inl ⟨by rfl, ?_⟩) (by assumption) ?_
  · intro W hSW
    obtain ⟨⟨q0, q1, q2, q3⟩, ⟨y0, y1, y2, y3⟩, _⟩ := HXS.out _ hSW
    go_simp
  simp only [Act.put, List.getElem_toArray, List.getElem_cons_succ, List.getElem_cons_zero, List.setIfInBounds_toArray, List.set_cons_succ, List.set_cons_zero]
  refine wpAnyH_take (i := 7) (v := .pointer (some ⟨w.heap.size, 3, none⟩)) rfl (by kernel_rfl) (by kernel_rfl) (by kernel_rfl) (fun _ _ _ h => h) (Or.inl ⟨by rfl, ?_⟩) (by assumption) ?_
  · intro W hSW
    first | (go_simp; done) | rfl | go_simp
  simp only [Act.put, List.getElem_toArray, List.getElem_cons_succ, List.getElem_cons_zero, List.setIfInBounds_toArray, List.set_cons_succ, List.set_cons_zero]
  refine wpAnyH_take (i := 8) (v := .slice b1 U1.length e1) rfl (by kernel_rfl) (by kernel_rfl) (by kernel_rfl) (fun _ _ _ h => h) (Or.inl ⟨by rfl, ?_⟩) (by assumption) ?_
  · intro W hSW
    obtain ⟨⟨q0, q1, q2, q3⟩, ⟨y0, y1, y2, y3⟩, _⟩ := HXS.out _ hSW
    go_simp
  simp only [Act.put, List.getElem_toArray, List.getElem_cons_succ, List.getElem_cons_zero, List.setIfInBounds_toArray, List.set_cons_succ, List.set_cons_zero]
  refine wpAnyH_ready (rs := [4]) (by kernel_rfl) (by simp) ?_
  refine AllReadyH.cons rfl (fun K hK => ?_) AllReadyH.nil
  rw [if_pos (by rfl)]
  go_simp
  refine (HA.out _ (HBW.out _ hS3)).mono ?_
  rintro e w4 ⟨⟨u4, rfl, ho4⟩, hb4⟩
  obtain ⟨g4, m4, hu4, hm4⟩ := ho4.shape
  have hn4 : Hid _ := ownq_nil ho4
  subst hu4
  go_simp
  have hS4 := HTS.out _ _ hS3 hb4
  refine hK.out _ _ hS4 (fun hSS => ?_)
  clear hK
  refine wpAnyH_ready (rs := [9]) (by kernel_rfl) (by simp) ?_
  refine AllReadyH.cons rfl (fun K hK => ?_) AllReadyH.nil
  rw [if_pos (by rfl)]
  go_simp
  refine (HB.out _ (HBW.out _ hS4)).mono ?_
  rintro e w5 ⟨⟨u5, rfl, ho5⟩, hb5⟩
  obtain ⟨g5, m5, hu5, hm5⟩ := ho5.shape
  subst hu5
  go_simp
  have hS5 := HTS.out _ _ hS4 hb5
  refine hK.out _ _ hS5 (fun hSS => ?_)
  clear hK
  refine wpAnyH_ready (rs := [10]) (by kernel_rfl) (by simp) ?_
  refine AllReadyH.cons rfl (fun K hK => ?_) AllReadyH.nil
  rw [if_pos (by rfl)]
  go_simp
  refine (HM1.out _ _ _ (ho4.row.kept hb5) hn4.out ho5.row).mono ?_
  rintro e w6 ⟨⟨u6, rfl, hr6, _⟩, hb6⟩
  obtain ⟨g6, m6, hu6, _, hm6, _⟩ := id hr6
  subst hu6
  go_simp
  have hS6 := HTS.out _ _ hS5 hb6
  refine hK.out _ _ hS6 (fun hSS => ?_)
  clear hK
  refine wpAnyH_take (i := 11) (v := .pointer (some ⟨w2.heap.size, 2, none⟩)) rfl (by kernel_rfl) (by kernel_rfl) (by kernel_rfl) (fun _ _ _ h => h) (Or.inl ⟨by rfl, ?_⟩) (by assumption) ?_
  · intro W hSW
    first | (go_simp; done) | rfl | go_simp
  simp only [Act.put, List.getElem_toArray, List.getElem_cons_succ, List.getElem_cons_zero, List.setIfInBounds_toArray, List.set_cons_succ, List.set_cons_zero]
  refine wpAnyH_ready (rs := [12]) (by kernel_rfl) (by simp) ?_
  refine AllReadyH.cons rfl (fun K hK => ?_) AllReadyH.nil
  rw [if_pos (by rfl)]
  have hk6 : w6.heap[w2.heap.size]? = some (.cells #[.int .i64 f1, .int .i64 t2, .slice none 0 0, .slice none 0 0] 36) := ((hb6.block w2.heap.size (by have h1 := hb4.size; have h2 := hb5.size; omega)).trans ((hb5.block w2.heap.size (by have h1 := hb4.size; omega)).trans ((hb4.block w2.heap.size hz3).trans HK3.out)))
  have hq6 : (w6.setCell ⟨w2.heap.size, 2, none⟩ (.slice g6 (andQ (wthR A1 U2) (wthR A2 U1)).length m6)).heap[w2.heap.size]? = some (.cells #[.int .i64 f1, .int .i64 t2, .slice g6 (andQ (wthR A1 U2) (wthR A2 U1)).length m6, .slice none 0 0] 36) := by
    have h := heap_setCell_same _ _ 2 _ _ (.slice g6 (andQ (wthR A1 U2) (wthR A2 U1)).length m6) hk6
    simpa using h
  have hR6 := hr6.apartD hk6 (kpt_set w6 w2.heap.size 2 (.slice g6 (andQ (wthR A1 U2) (wthR A2 U1)).length m6) (S := fun k => k = w2.heap.size) rfl)
  have hSx6 := Below.setCell hS6 (p := ⟨w2.heap.size, 2, none⟩) (Nat.le_refl _) (.slice g6 (andQ (wthR A1 U2) (wthR A2 U1)).length m6)
  obtain ⟨⟨s0, s1, s2, s3⟩, ⟨z0, z1, z2, z3⟩⟩ := dif_cells hk6
  go_simp
  refine hK.out _ _ hSx6 (fun hSS => ?_)
  clear hK s0 s1 s2 s3 z0 z1 z2 z3
  refine wpAnyH_done (by kernel_rfl) ?_ _
  obtain ⟨W6, hW6⟩ : ∃ W, W = w6.setCell ⟨w2.heap.size, 2, none⟩ (.slice g6 (andQ (wthR A1 U2) (wthR A2 U1)).length m6) := ⟨_, rfl⟩
  rw [← hW6] at hq6 hR6 hSx6 ⊢
  clear HA HB HM1 hW6 hSS hW3 hS4 hS5 hS6 hr6 ho4 ho5 hb4 hb5 hb6 hk6 hn4 HK3 hz3 hS3 W3
  have HK6 : Hid (W6.heap[w2.heap.size]? = some (.cells #[.int .i64 f1, .int .i64 t2, .slice g6 (andQ (wthR A1 U2) (wthR A2 U1)).length m6, .slice none 0 0] 36)) := hq6
  have HR6 : Hid (∀ W, Below W6.heap.size W6 W → RRow W (.slice g6 (andQ (wthR A1 U2) (wthR A2 U1)).length m6) (andQ (wthR A1 U2) (wthR A2 U1))) := fun W hW => hR6.kept hW
  have hz6 : w2.heap.size < W6.heap.size := (Array.getElem?_eq_some_iff.1 hq6).1
  have hS7 : Below w2.heap.size w2 W6.drew := hSx6.drew
  clear hq6 hR6
  go_wp2_with fail
  refine wp_region_held_drew (S := fun W : World => Below w2.heap.size w2 W) (by kernel_rfl) hS7 (fun hHeld => ?_)
  refine wpAnyH_take (i := 0) (v := .pointer (some ⟨w.heap.size, 3, none⟩)) rfl (by kernel_rfl) (by kernel_rfl) (by kernel_rfl) (fun _ _ _ h => h) (Or.inl ⟨by rfl, ?_⟩) (by assumption) ?_
  · intro W hSW
    first | (go_simp; done) | rfl | go_simp
  simp only [Act.put, List.getElem_toArray, List.getElem_cons_zero, List.setIfInBounds_toArray, List.set_cons_succ, List.set_cons_zero]
  refine wpAnyH_take (i := 1) (v := .slice b1 U1.length e1) rfl (by kernel_rfl) (by kernel_rfl) (by kernel_rfl) (fun _ _ _ h => h) (Or.inl ⟨by rfl, ?_⟩) (by assumption) ?_
  · intro W hSW
    obtain ⟨⟨q0, q1, q2, q3⟩, ⟨y0, y1, y2, y3⟩, _⟩ := HXS.out _ hSW
    go_simp
  simp only [Act.put, List.getElem_toArray, List.getElem_cons_succ, List.getElem_cons_zero, List.setIfInBounds_toArray, List.set_cons_succ, List.set_cons_zero]
  refine wpAnyH_take (i := 2) (v := .pointer (some ⟨w.heap.size + 1, 2, none⟩)) rfl (by kernel_rfl) (by kernel_rfl) (by kernel_rfl) (fun _ _ _ h => h) (Or.inl ⟨by rfl, ?_⟩) (by assumption) ?_
  · intro W hSW
    first | (go_simp; done) | rfl | go_simp
  simp only [Act.put, List.getElem_toArray, List.getElem_cons_succ, List.getElem_cons_zero, List.setIfInBounds_toArray, List.set_cons_succ, List.set_cons_zero]
  refine wpAnyH_take (i := 3) (v := .slice a2 A2.length c2) rfl (by kernel_rfl) (by kernel_rfl) (by kernel_rfl) (fun _ _ _ h => h) (Or.inl ⟨by rfl, ?_⟩) (by assumption) ?_
  · intro W hSW
    obtain ⟨⟨q0, q1, q2, q3⟩, ⟨y0, y1, y2, y3⟩, _⟩ := HXS.out _ hSW
    go_simp
  simp only [Act.put, List.getElem_toArray, List.getElem_cons_succ, List.getElem_cons_zero, List.setIfInBounds_toArray, List.set_cons_succ, List.set_cons_zero]
  refine wpAnyH_take (i := 5) (v := .pointer (some ⟨w.heap.size + 1, 3, none⟩)) rfl (by kernel_rfl) (by kernel_rfl) (by kernel_rfl) (fun _ _ _ h => h) (Or.inl ⟨by rfl, ?_⟩) (by assumption) ?_
  · intro W hSW
    first | (go_simp; done) | rfl | go_simp
  simp only [Act.put, List.getElem_toArray, List.getElem_cons_succ, List.getElem_cons_zero, List.setIfInBounds_toArray, List.set_cons_succ, List.set_cons_zero]
  refine wpAnyH_take (i := 6) (v := .slice b2 U2.length e2) rfl (by kernel_rfl) (by kernel_rfl) (by kernel_rfl) (fun _ _ _ h => h) (Or.inl ⟨by rfl, ?_⟩) (by assumption) ?_
  · intro W hSW
    obtain ⟨⟨q0, q1, q2, q3⟩, ⟨y0, y1, y2, y3⟩, _⟩ := HXS.out _ hSW
    go_simp
  simp only [Act.put, List.getElem_toArray, List.getElem_cons_succ, List.getElem_cons_zero, List.setIfInBounds_toArray, List.set_cons_succ, List.set_cons_zero]
  refine wpAnyH_take (i := 7) (v := .pointer (some ⟨w.heap.size, 2, none⟩)) rfl (by kernel_rfl) (by kernel_rfl) (by kernel_rfl) (fun _ _ _ h => h) (Or.inl ⟨by rfl, ?_⟩) (by assumption) ?_
  · intro W hSW
    first | (go_simp; done) | rfl | go_simp
  simp only [Act.put, List.getElem_toArray, List.getElem_cons_succ, List.getElem_cons_zero, List.setIfInBounds_toArray, List.set_cons_succ, List.set_cons_zero]
  refine wpAnyH_take (i := 8) (v := .slice a1 A1.length c1) rfl (by kernel_rfl) (by kernel_rfl) (by kernel_rfl) (fun _ _ _ h => h) (Or.inl ⟨by rfl, ?_⟩) (by assumption) ?_
  · intro W hSW
    obtain ⟨⟨q0, q1, q2, q3⟩, ⟨y0, y1, y2, y3⟩, _⟩ := HXS.out _ hSW
    go_simp
  simp only [Act.put, List.getElem_toArray, List.getElem_cons_succ, List.getElem_cons_zero, List.setIfInBounds_toArray, List.set_cons_succ, List.set_cons_zero]
  refine wpAnyH_ready (rs := [4]) (by kernel_rfl) (by simp) ?_
  refine AllReadyH.cons rfl (fun K hK => ?_) AllReadyH.nil
  rw [if_pos (by rfl)]
  go_simp
  refine (HC.out _ (HBW.out _ hS7)).mono ?_
  rintro e w8 ⟨⟨u8, rfl, ho8⟩, hb8⟩
  obtain ⟨g8, m8, hu8, hm8⟩ := ho8.shape
  have hn8 : Hid _ := ownq_nil ho8
  subst hu8
  go_simp
  have hS8 := HTS.out _ _ hS7 hb8
  refine hK.out _ _ hS8 (fun hSS => ?_)
  clear hK
  refine wpAnyH_ready (rs := [9]) (by kernel_rfl) (by simp) ?_
  refine AllReadyH.cons rfl (fun K hK => ?_) AllReadyH.nil
  rw [if_pos (by rfl)]
  go_simp
  refine (HD.out _ (HBW.out _ hS8)).mono ?_
  rintro e w9 ⟨⟨u9, rfl, ho9⟩, hb9⟩
  obtain ⟨g9, m9, hu9, hm9⟩ := ho9.shape
  subst hu9
  go_simp
  have hS9 := HTS.out _ _ hS8 hb9
  refine hK.out _ _ hS9 (fun hSS => ?_)
  clear hK
  refine wpAnyH_ready (rs := [10]) (by kernel_rfl) (by simp) ?_
  refine AllReadyH.cons rfl (fun K hK => ?_) AllReadyH.nil
  rw [if_pos (by rfl)]
  go_simp
  refine (HM2.out _ _ _ (ho8.row.kept hb9) hn8.out ho9.row).mono ?_
  rintro e w10 ⟨⟨u10, rfl, hr10, _⟩, hb10⟩
  obtain ⟨g10, m10, hu10, _, hm10, _⟩ := id hr10
  subst hu10
  go_simp
  have hS10 := HTS.out _ _ hS9 hb10
  refine hK.out _ _ hS10 (fun hSS => ?_)
  clear hK
  refine wpAnyH_take (i := 11) (v := .pointer (some ⟨w2.heap.size, 3, none⟩)) rfl (by kernel_rfl) (by kernel_rfl) (by kernel_rfl) (fun _ _ _ h => h) (Or.inl ⟨by rfl, ?_⟩) (by assumption) ?_
  · intro W hSW
    first | (go_simp; done) | rfl | go_simp
  simp only [Act.put, List.getElem_toArray, List.getElem_cons_succ, List.getElem_cons_zero, List.setIfInBounds_toArray, List.set_cons_succ, List.set_cons_zero]
  refine wpAnyH_ready (rs := [12]) (by kernel_rfl) (by simp) ?_
  refine AllReadyH.cons rfl (fun K hK => ?_) AllReadyH.nil
  rw [if_pos (by rfl)]
  have hk10 : w10.heap[w2.heap.size]? = some (.cells #[.int .i64 f1, .int .i64 t2, .slice g6 (andQ (wthR A1 U2) (wthR A2 U1)).length m6, .slice none 0 0] 36) := ((hb10.block w2.heap.size (by have h1 := hb8.size; have h2 := hb9.size; simp at h1; omega)).trans ((hb9.block w2.heap.size (by have h1 := hb8.size; simp at h1; omega)).trans ((hb8.block w2.heap.size (by simpa using hz6)).trans HK6.out)))
  have hq10 : (w10.setCell ⟨w2.heap.size, 3, none⟩ (.slice g10 (andQ (wthR U1 A2) (wthR U2 A1)).length m10)).heap[w2.heap.size]? = some (.cells #[.int .i64 f1, .int .i64 t2, .slice g6 (andQ (wthR A1 U2) (wthR A2 U1)).length m6, .slice g10 (andQ (wthR U1 A2) (wthR U2 A1)).length m10] 36) := by
    have h := heap_setCell_same _ _ 3 _ _ (.slice g10 (andQ (wthR U1 A2) (wthR U2 A1)).length m10) hk10
    simpa using h
  have hR10 := hr10.apartD hk10 (kpt_set w10 w2.heap.size 3 (.slice g10 (andQ (wthR U1 A2) (wthR U2 A1)).length m10) (S := fun k => k = w2.heap.size) rfl)
  have hR6 := (((HR6.out _ ((Below.refl W6.heap.size W6).drew.trans hb8)).kept hb9).kept hb10).apartD hk10 (kpt_set w10 w2.heap.size 3 (.slice g10 (andQ (wthR U1 A2) (wthR U2 A1)).length m10) (S := fun k => k = w2.heap.size) rfl)
  have hSx10 := Below.setCell hS10 (p := ⟨w2.heap.size, 3, none⟩) (Nat.le_refl _) (.slice g10 (andQ (wthR U1 A2) (wthR U2 A1)).length m10)
  obtain ⟨⟨s0, s1, s2, s3⟩, ⟨z0, z1, z2, z3⟩⟩ := dif_cells hk10
  go_simp
  refine hK.out _ _ hSx10 (fun hSS => ?_)
  clear hK s0 s1 s2 s3 z0 z1 z2 z3
  refine wpAnyH_done (by kernel_rfl) ?_ _
  obtain ⟨WF, hWF⟩ : ∃ W, W = w10.setCell ⟨w2.heap.size, 3, none⟩ (.slice g10 (andQ (wthR U1 A2) (wthR U2 A1)).length m10) := ⟨_, rfl⟩
  rw [← hWF] at hq10 hR10 hR6 hSx10 ⊢
  clear hWF hSS hS8 hS9 hS10 hr10 ho8 ho9 hb8 hb9 hb10 hk10 hn8 HK6 HR6 hz6 hS7
  have HKF : Hid (WF.heap[w2.heap.size]? = some (.cells #[.int .i64 f1, .int .i64 t2, .slice g6 (andQ (wthR A1 U2) (wthR A2 U1)).length m6, .slice g10 (andQ (wthR U1 A2) (wthR U2 A1)).length m10] 36)) := hq10
  have hzF : w2.heap.size < WF.heap.size := (Array.getElem?_eq_some_iff.1 hq10).1
  have HRA : Hid (∀ W, Below WF.heap.size WF W → RRow W (.slice g6 (andQ (wthR A1 U2) (wthR A2 U1)).length m6) (andQ (wthR A1 U2) (wthR A2 U1)) ∧ RRow W (.slice g10 (andQ (wthR U1 A2) (wthR U2 A1)).length m10) (andQ (wthR U1 A2) (wthR U2 A1))) := fun W hW => ⟨hR6.kept hW, hR10.kept hW⟩
  obtain ⟨k0, k1, k2, k3⟩ := dif4 hq10
  clear hq10
  go_wp2_with fail
  refine (HGO.out _ _ _ hR6 hR10).mono ?_
  rintro e w11 ⟨rfl, hb11⟩
  have hS11 := HTS.out _ _ hSx10 hb11
  obtain ⟨⟨p0, p1, p2, p3⟩, ⟨d0, d1, d2, d3⟩, ⟨⟨r0, r1, r2, r3⟩, ⟨f0, f1', f2', f3⟩⟩, HZ, hbw, hz⟩ := HXS.out _ hS11
  have hK11 : w11.heap[w2.heap.size]? = some (.cells #[.int .i64 f1, .int .i64 t2, .slice g6 (andQ (wthR A1 U2) (wthR A2 U1)).length m6, .slice g10 (andQ (wthR U1 A2) (wthR U2 A1)).length m10] 36) := (hb11.block _ hzF).trans HKF.out
  obtain ⟨h0, h1, h2, h3⟩ := dif4 hK11
  obtain ⟨ra, ru⟩ := HRA.out _ hb11
  have HRA2 : Hid (RRow w11 (.slice g6 (andQ (wthR A1 U2) (wthR A2 U1)).length m6) (andQ (wthR A1 U2) (wthR A2 U1)) ∧ RRow w11 (.slice g10 (andQ (wthR U1 A2) (wthR U2 A1)).length m10) (andQ (wthR U1 A2) (wthR U2 A1))) := ⟨ra, ru⟩
  clear k0 k1 k2 k3 hK11 ra ru hR6 hR10
  cases ok5 with
  | false =>
    have HNO : (true && false) = false := rfl
    go_wp2_with fail
    (try simp only [Exit.inBlock, Exit.then])
    refine bodyPost_ret (results_row_tmp rfl _ _ (w.heap.size + 1 + 1) 36 #[.int .i64 0, .int .i64 0, .slice none 0 0, .slice none 0 0] (0, 0) _ (.bool false) rfl rfl ?_ Tryz.underlying36 rfl (by kernel_rfl)) rfl ⟨⟨fun _ => dres_no _, fun h => absurd h (by rw [HNO]; simp)⟩, ?_⟩
    · first | exact put4v_heap HZ | exact HZ
    · first | exact put4v_below hbw (by omega) _ _ _ _ | exact hbw
  | true =>
    go_wp2_with fail
    (try simp only [Exit.inBlock, Exit.then])
    refine bodyPost_ret (results_row_tmp rfl _ _ (w.heap.size + 1 + 1) 36 #[.int .i64 f1, .int .i64 t2, .slice g6 (andQ (wthR A1 U2) (wthR A2 U1)).length m6, .slice g10 (andQ (wthR U1 A2) (wthR U2 A1)).length m10] (0, 0) _ (.bool true) rfl rfl ?_ Tryz.underlying36 rfl (by kernel_rfl)) rfl ⟨⟨fun h => absurd h (by simp), fun _ => ⟨_, _, rfl, ?_, ?_⟩⟩, ?_⟩
    · exact put4v_heap HZ
    · exact HRA2.out.1.apart4 HZ (kpt_put4v _ (w.heap.size + 1 + 1) _ _ _ _ (S := fun k => k = w.heap.size + 1 + 1) rfl)
    · exact HRA2.out.2.apart4 HZ (kpt_put4v _ (w.heap.size + 1 + 1) _ _ _ _ (S := fun k => k = w.heap.size + 1 + 1) rfl)
    · exact put4v_below hbw (by omega) _ _ _ _
end Go.Proofs.YtdbbcepjdojdcaaGreatDoor
