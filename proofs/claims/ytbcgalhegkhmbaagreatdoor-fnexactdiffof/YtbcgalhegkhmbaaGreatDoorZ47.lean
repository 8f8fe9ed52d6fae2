import Derived.Test.YtbcgalhegkhmbaaGreatDoorZ44
import Derived.Test.YtbcgalhegkhmbaaGreatDoorZ46
import Derived.Deep.RegionHeld3
namespace Go.Proofs.YtbcgalhegkhmbaaGreatDoor
open Go.RowKit

set_option maxRecDepth 20000 in
set_option maxHeartbeats 8000000 in
theorem iDiffOf_any (nm1 : ByteArray) (ct1 : Int) (v1 : Value) (L1 : List (List UInt8 × Int × Int × List UInt8)) (nm2 : ByteArray) (ct2 : Int) (v2 : Value) (L2 : List (List UInt8 × Int × Int × List UInt8)) (w : World) (hr1 : RRow w v1 L1) (hr2 : RRow w v2 L2) (hn1 : nm1.size ≤ 1048576) (hn2 : nm2.size ≤ 1048576) (hl1 : L1.length ≤ 1048576) (hl2 : L2.length ≤ 1048576)
    (hx1 : Hid (∀ x ∈ L1, x.1.length ≤ 1048576 ∧ x.2.2.2.length ≤ 1048576)) (hx2 : Hid (∀ x ∈ L2, x.1.length ≤ 1048576 ∧ x.2.2.2.length ≤ 1048576)) (hE : EnvZ w) :
    Calls Tryz.prog 7 #[ZonV nm1 ct1 v1, ZonV nm2 ct2 v2] w fun e w' => ((offB nm1.data.toList ct1 L1 nm2.data.toList ct2 L2 = false → DOwn w' w.heap.size false 0 0 [] [] e) ∧ (offB nm1.data.toList ct1 L1 nm2.data.toList ct2 L2 = true → DOwn w' w.heap.size true ct1 ct2 (wthR L1 L2) (wthR L2 L1) e)) ∧ Below w.heap.size w w' := by
  have HG1 : Hid (∀ W, Below w.heap.size w W → Calls Tryz.prog 17 #[ZonV nm1 ct1 v1] W fun e w' => e = .returned (.bool (zoneB nm1.data.toList ct1 L1)) ∧ Below W.heap.size W w') := fun W hW => iGoodZone_any nm1 ct1 v1 L1 W (hr1.kept hW) hn1 hx1 (hE.below hW)
  have HG2 : Hid (∀ W, Below w.heap.size w W → Calls Tryz.prog 17 #[ZonV nm2 ct2 v2] W fun e w' => e = .returned (.bool (zoneB nm2.data.toList ct2 L2)) ∧ Below W.heap.size W w') := fun W hW => iGoodZone_any nm2 ct2 v2 L2 W (hr2.kept hW) hn2 hx2 (hE.below hW)
  have HR12 : Hid (∀ W, Below w.heap.size w W → Calls Tryz.prog 18 #[v1, v2] W fun e w' => (∃ u, e = .returned u ∧ OwnQ w' W.heap.size u (wthR L1 L2)) ∧ Below W.heap.size W w') := fun W hW => recordsWithout_any v1 v2 L1 L2 W (hr1.kept hW) (hr2.kept hW) hl1
  have HR21 : Hid (∀ W, Below w.heap.size w W → Calls Tryz.prog 18 #[v2, v1] W fun e w' => (∃ u, e = .returned u ∧ OwnQ w' W.heap.size u (wthR L2 L1)) ∧ Below W.heap.size W w') := fun W hW => recordsWithout_any v2 v1 L2 L1 W (hr2.kept hW) (hr1.kept hW) hl2
  have hy1 : Hid (∀ x ∈ wthR L1 L2, x.1.length ≤ 1048576 ∧ x.2.2.2.length ≤ 1048576) := fun x hx => hx1.out x (wthR_mem hx)
  have hy2 : Hid (∀ x ∈ wthR L2 L1, x.1.length ≤ 1048576 ∧ x.2.2.2.length ≤ 1048576) := fun x hx => hx2.out x (wthR_mem hx)
  have HCP : Hid (∀ u1 u2 W, RRow W u1 (wthR L1 L2) → RRow W u2 (wthR L2 L1) → Calls Tryz.prog 19 #[DifV ct1 ct2 u1 u2] W fun e w' => (∃ va' vu', e = .returned (DifV ct1 ct2 va' vu') ∧ OwnQ w' W.heap.size va' (wthR L1 L2) ∧ OwnQ w' W.heap.size vu' (wthR L2 L1) ∧ ∀ g, va'.ownBlock = some g → vu'.ownBlock ≠ some g) ∧ Below W.heap.size W w') := fun u1 u2 W h1 h2 => copyDiff_any ct1 ct2 u1 u2 _ _ W h1 h2 (Nat.le_trans (wthR_le _ _) hl1) (Nat.le_trans (wthR_le _ _) hl2) hy1 hy2
  obtain ⟨a1, k1, rfl, _, hk1, _⟩ := rrow_value hr1
  obtain ⟨a2, k2, rfl, _, hk2, _⟩ := rrow_value hr2
  clear hr1 hr2
  obtain ⟨W0, hW0⟩ : ∃ W0, W0 = ((w.alloc (.cells #[.string nm1, .int .i64 ct1, .slice a1 L1.length k1] 32)).alloc (.cells #[.string nm2, .int .i64 ct2, .slice a2 L2.length k2] 32)).alloc (.cells #[.int .i64 0, .int .i64 0, .slice none 0 0, .slice none 0 0] 28) := ⟨_, rfl⟩
  have HW0 : Hid (((w.alloc (.cells #[.string nm1, .int .i64 ct1, .slice a1 L1.length k1] 32)).alloc (.cells #[.string nm2, .int .i64 ct2, .slice a2 L2.length k2] 32)).alloc (.cells #[.int .i64 0, .int .i64 0, .slice none 0 0, .slice none 0 0] 28) = W0) := hW0.symm
  have HX : Hid (∀ W, Below W0.heap.size W0 W → ((W.cell? ⟨w.heap.size, 0, none⟩ = some (.string nm1) ∧ W.cell? ⟨w.heap.size, 1, none⟩ = some (.int .i64 ct1) ∧ W.cell? ⟨w.heap.size, 2, none⟩ = some (.slice a1 L1.length k1)) ∧ (W.cell? ⟨w.heap.size + 1, 0, none⟩ = some (.string nm2) ∧ W.cell? ⟨w.heap.size + 1, 1, none⟩ = some (.int .i64 ct2) ∧ W.cell? ⟨w.heap.size + 1, 2, none⟩ = some (.slice a2 L2.length k2))) ∧ ((W.cell? ⟨w.heap.size + 1 + 1, 0, none⟩ = some (.int .i64 0) ∧ W.cell? ⟨w.heap.size + 1 + 1, 1, none⟩ = some (.int .i64 0) ∧ W.cell? ⟨w.heap.size + 1 + 1, 2, none⟩ = some (.slice none 0 0) ∧ W.cell? ⟨w.heap.size + 1 + 1, 3, none⟩ = some (.slice none 0 0)) ∧ (W.frozen? ⟨w.heap.size + 1 + 1, 0, none⟩ = false ∧ W.frozen? ⟨w.heap.size + 1 + 1, 1, none⟩ = false ∧ W.frozen? ⟨w.heap.size + 1 + 1, 2, none⟩ = false ∧ W.frozen? ⟨w.heap.size + 1 + 1, 3, none⟩ = false)) ∧ W.heap[w.heap.size + 1 + 1]? = some (.cells #[.int .i64 0, .int .i64 0, .slice none 0 0, .slice none 0 0] 28) ∧ Below w.heap.size w W ∧ w.heap.size + 1 + 1 < W.heap.size) := fun W hW => by
    rw [hW0] at hW
    obtain ⟨q1, q2, q3, q4, q5⟩ := heaps3 hW
    exact ⟨⟨(zon_cells q1).1, (zon_cells q2).1⟩, dif_cells q3, q3, q4, q5⟩
  have hb0 : Below W0.heap.size W0 W0 := Below.refl _ _
  have HTR : Hid (∀ W W', Below W0.heap.size W0 W → Below W.heap.size W W' → Below W0.heap.size W0 W') := fun W W' h1 h2 => h1.trans (h2.mono h1.size)
  obtain ⟨ok, hok⟩ : ∃ ok, ok = offB nm1.data.toList ct1 L1 nm2.data.toList ct2 L2 := ⟨_, rfl⟩
  have HOK : Hid (ok = offB nm1.data.toList ct1 L1 nm2.data.toList ct2 L2) := hok
  rw [← hok]
  clear hok hW0
  unfold ZonV at HG1 HG2 ⊢
  by_cases hap : ¬ nm1 = nm2
  · have hF : ok = false := HOK.out.trans (off_apex (fun h => hap (Go.WideShapes.bytes_inj h)))
    have e1 : (nm1.toList == nm2.toList) = false := by
      rw [beq_eq_false_iff_ne]
      exact fun h => hap (Go.WideShapes.bytes_inj (by rw [← ByteArray.toList_eq, ← ByteArray.toList_eq]; exact h))
    subst hF
    clear HOK hap
    go_enter Tryz.func7, Tryz.ntmps7
    go_wp2_with fail
    rw [HW0.out]
    obtain ⟨_, _, HZ, hbw, hz⟩ := HX.out _ hb0
    (try simp only [Exit.inBlock, Exit.then])
    exact bodyPost_ret (results_row_tmp rfl _ _ (w.heap.size + 1 + 1) 28 #[.int .i64 0, .int .i64 0, .slice none 0 0, .slice none 0 0] (0, 0) _ (.bool false) rfl rfl HZ Tryz.underlying28 rfl (by kernel_rfl)) rfl ⟨by first | exact down_no _ _ | exact ⟨fun _ => down_no _ _, fun h => (by cases h)⟩, hbw⟩
  replace hap := Classical.not_not.1 hap
  by_cases hct : ct1 = ct2
  · have hF : ok = false := HOK.out.trans (off_ct hct)
    subst hF
    subst hap
    subst hct
    clear HOK
    go_enter Tryz.func7, Tryz.ntmps7
    go_wp2_with fail
    rw [HW0.out]
    obtain ⟨_, _, HZ, hbw, hz⟩ := HX.out _ hb0
    (try simp only [Exit.inBlock, Exit.then])
    exact bodyPost_ret (results_row_tmp rfl _ _ (w.heap.size + 1 + 1) 28 #[.int .i64 0, .int .i64 0, .slice none 0 0, .slice none 0 0] (0, 0) _ (.bool false) rfl rfl HZ Tryz.underlying28 rfl (by kernel_rfl)) rfl ⟨by first | exact down_no _ _ | exact ⟨fun _ => down_no _ _, fun h => (by cases h)⟩, hbw⟩
  have e1 : (ct1 == ct2) = false := by simpa using hct
  cases hz1 : zoneB nm1.data.toList ct1 L1 with
  | false =>
    have hF : ok = false := HOK.out.trans (off_one hz1)
    rw [hz1] at HG1
    subst hF
    subst hap
    clear HOK hz1
    go_enter Tryz.func7, Tryz.ntmps7
    go_wp2_with fail
    rw [HW0.out]
    obtain ⟨⟨⟨c0, c1, c2⟩, ⟨d0, d1, d2⟩⟩, ⟨⟨r0, r1, r2, r3⟩, ⟨f0, f1, f2, f3⟩⟩, HZ, hbw, hz⟩ := HX.out _ hb0
    refine (HG1.out _ hbw).mono ?_
    rintro e w1 ⟨rfl, hb1⟩
    have hb01 := HTR.out _ _ hb0 hb1
    clear c0 c1 c2 d0 d1 d2 r0 r1 r2 r3 f0 f1 f2 f3 HZ hbw hz
    obtain ⟨⟨⟨c0, c1, c2⟩, ⟨d0, d1, d2⟩⟩, ⟨⟨r0, r1, r2, r3⟩, ⟨f0, f1, f2, f3⟩⟩, HZ, hbw, hz⟩ := HX.out _ hb01
    go_wp2_with fail
    (try simp only [Exit.inBlock, Exit.then])
    refine bodyPost_ret (results_row_tmp rfl _ _ (w.heap.size + 1 + 1) 28 #[.int .i64 0, .int .i64 0, .slice none 0 0, .slice none 0 0] (0, 0) _ (.bool false) rfl rfl ?_ Tryz.underlying28 rfl (by kernel_rfl)) rfl ⟨by first | exact down_no _ _ | exact ⟨fun _ => down_no _ _, fun h => (by cases h)⟩, ?_⟩
    · exact put4v_heap HZ
    · exact put4v_below hbw (by omega) _ _ _ _
  | true =>
  rw [hz1] at HG1
  cases hz2 : zoneB nm2.data.toList ct2 L2 with
  | false =>
    have hF : ok = false := HOK.out.trans (off_two hz2)
    rw [hz2] at HG2
    subst hF
    subst hap
    clear HOK hz1 hz2
    go_enter Tryz.func7, Tryz.ntmps7
    go_wp2_with fail
    rw [HW0.out]
    obtain ⟨⟨⟨c0, c1, c2⟩, ⟨d0, d1, d2⟩⟩, ⟨⟨r0, r1, r2, r3⟩, ⟨f0, f1, f2, f3⟩⟩, HZ, hbw, hz⟩ := HX.out _ hb0
    refine (HG1.out _ hbw).mono ?_
    rintro e w1 ⟨rfl, hb1⟩
    have hb01 := HTR.out _ _ hb0 hb1
    clear c0 c1 c2 d0 d1 d2 r0 r1 r2 r3 f0 f1 f2 f3 HZ hbw hz
    obtain ⟨⟨⟨c0, c1, c2⟩, ⟨d0, d1, d2⟩⟩, ⟨⟨r0, r1, r2, r3⟩, ⟨f0, f1, f2, f3⟩⟩, HZ, hbw, hz⟩ := HX.out _ hb01
    go_wp2_with fail
    refine (HG2.out _ hbw).mono ?_
    rintro e w2 ⟨rfl, hb2⟩
    have hb02 := HTR.out _ _ hb01 hb2
    clear c0 c1 c2 d0 d1 d2 r0 r1 r2 r3 f0 f1 f2 f3 HZ hbw hz
    obtain ⟨⟨⟨c0, c1, c2⟩, ⟨d0, d1, d2⟩⟩, ⟨⟨r0, r1, r2, r3⟩, ⟨f0, f1, f2, f3⟩⟩, HZ, hbw, hz⟩ := HX.out _ hb02
    go_wp2_with fail
    (try simp only [Exit.inBlock, Exit.then])
    refine bodyPost_ret (results_row_tmp rfl _ _ (w.heap.size + 1 + 1) 28 #[.int .i64 0, .int .i64 0, .slice none 0 0, .slice none 0 0] (0, 0) _ (.bool false) rfl rfl ?_ Tryz.underlying28 rfl (by kernel_rfl)) rfl ⟨by first | exact down_no _ _ | exact ⟨fun _ => down_no _ _, fun h => (by cases h)⟩, ?_⟩
    · exact put4v_heap HZ
    · exact put4v_below hbw (by omega) _ _ _ _
  | true =>
  rw [hz2] at HG2
  have hF : ok = true := HOK.out.trans (off_ok hz1 hz2 (by rw [hap]) hct)
  subst hF
  subst hap
  clear HOK hz1 hz2
  go_enter Tryz.func7, Tryz.ntmps7
  go_wp2_with fail
  rw [HW0.out]
  obtain ⟨⟨⟨c0, c1, c2⟩, ⟨d0, d1, d2⟩⟩, ⟨⟨r0, r1, r2, r3⟩, ⟨f0, f1, f2, f3⟩⟩, HZ, hbw, hz⟩ := HX.out _ hb0
  refine (HG1.out _ hbw).mono ?_
  rintro e w1 ⟨rfl, hb1⟩
  have hb01 := HTR.out _ _ hb0 hb1
  clear c0 c1 c2 d0 d1 d2 r0 r1 r2 r3 f0 f1 f2 f3 HZ hbw hz
  obtain ⟨⟨⟨c0, c1, c2⟩, ⟨d0, d1, d2⟩⟩, ⟨⟨r0, r1, r2, r3⟩, ⟨f0, f1, f2, f3⟩⟩, HZ, hbw, hz⟩ := HX.out _ hb01
  go_wp2_with fail
  refine (HG2.out _ hbw).mono ?_
  rintro e w2 ⟨rfl, hb2⟩
  have hb02 := HTR.out _ _ hb01 hb2
  clear c0 c1 c2 d0 d1 d2 r0 r1 r2 r3 f0 f1 f2 f3 HZ hbw hz
  obtain ⟨⟨⟨c0, c1, c2⟩, ⟨d0, d1, d2⟩⟩, ⟨⟨r0, r1, r2, r3⟩, ⟨f0, f1, f2, f3⟩⟩, HZ, hbw, hz⟩ := HX.out _ hb02
  go_wp2_with fail
  have hS1 : Below w2.heap.size w2 w2.drew := (Below.refl _ _).drew
  have HXS : Hid (∀ W, Below w2.heap.size w2 W → ((W.cell? ⟨w.heap.size, 0, none⟩ = some (.string nm1) ∧ W.cell? ⟨w.heap.size, 1, none⟩ = some (.int .i64 ct1) ∧ W.cell? ⟨w.heap.size, 2, none⟩ = some (.slice a1 L1.length k1)) ∧ (W.cell? ⟨w.heap.size + 1, 0, none⟩ = some (.string nm1) ∧ W.cell? ⟨w.heap.size + 1, 1, none⟩ = some (.int .i64 ct2) ∧ W.cell? ⟨w.heap.size + 1, 2, none⟩ = some (.slice a2 L2.length k2))) ∧ ((W.cell? ⟨w.heap.size + 1 + 1, 0, none⟩ = some (.int .i64 0) ∧ W.cell? ⟨w.heap.size + 1 + 1, 1, none⟩ = some (.int .i64 0) ∧ W.cell? ⟨w.heap.size + 1 + 1, 2, none⟩ = some (.slice none 0 0) ∧ W.cell? ⟨w.heap.size + 1 + 1, 3, none⟩ = some (.slice none 0 0)) ∧ (W.frozen? ⟨w.heap.size + 1 + 1, 0, none⟩ = false ∧ W.frozen? ⟨w.heap.size + 1 + 1, 1, none⟩ = false ∧ W.frozen? ⟨w.heap.size + 1 + 1, 2, none⟩ = false ∧ W.frozen? ⟨w.heap.size + 1 + 1, 3, none⟩ = false)) ∧ W.heap[w.heap.size + 1 + 1]? = some (.cells #[.int .i64 0, .int .i64 0, .slice none 0 0, .slice none 0 0] 28) ∧ Below w.heap.size w W ∧ w.heap.size + 1 + 1 < W.heap.size) := fun W hW => HX.out W (HTR.out _ _ hb02 hW)
  have HBW : Hid (∀ W, Below w2.heap.size w2 W → Below w.heap.size w W) := fun W hW => (HXS.out W hW).2.2.2.1
  have HTS : Hid (∀ W W', Below w2.heap.size w2 W → Below W.heap.size W W' → Below w2.heap.size w2 W') := fun W W' h1 h2 => h1.trans (h2.mono h1.size)
  unfold DifV at HCP
  clear c0 c1 c2 d0 d1 d2 r0 r1 r2 r3 f0 f1 f2 f3 HZ HG1 HG2 hbw hz
  refine wp_region_held_drew (S := fun W : World => Below w2.heap.size w2 W) (by kernel_rfl) hS1 (fun hHeld => ?_)
  refine wpAnyH_take (i := 0) (v := .pointer (some ⟨w.heap.size, 1, none⟩)) rfl (by kernel_rfl) (by kernel_rfl) (by kernel_rfl) (fun _ _ _ h => h) (Or.inl ⟨by rfl, ?_⟩) (by assumption) ?_
  · intro W hSW
    go_simp
  simp only [Act.put, List.setIfInBounds_toArray]
  refine wpAnyH_take (i := 1) (v := .int .i64 ct1) rfl (by kernel_rfl) (by kernel_rfl) (by kernel_rfl) (fun _ _ _ h => h) (Or.inl ⟨by rfl, ?_⟩) (by assumption) ?_
  · intro W hSW
    obtain ⟨⟨⟨q0, q1, q2⟩, ⟨y0, y1, y2⟩⟩, _⟩ := HXS.out _ hSW
    go_simp
  simp only [Act.put]
  refine wpAnyH_take (i := 2) (v := .pointer (some ⟨w.heap.size + 1, 1, none⟩)) rfl (by kernel_rfl) (by kernel_rfl) (by kernel_rfl) (fun _ _ _ h => h) (Or.inl ⟨by rfl, ?_⟩) (by assumption) ?_
  · intro W hSW
    go_simp
  simp only [Act.put]
  refine wpAnyH_take (i := 3) (v := .int .i64 ct2) rfl (by kernel_rfl) (by kernel_rfl) (by kernel_rfl) (fun _ _ _ h => h) (Or.inl ⟨by rfl, ?_⟩) (by assumption) ?_
  · intro W hSW
    obtain ⟨⟨⟨q0, q1, q2⟩, ⟨y0, y1, y2⟩⟩, _⟩ := HXS.out _ hSW
    go_simp
  simp only [Act.put]
  refine wpAnyH_take (i := 4) (v := .pointer (some ⟨w.heap.size, 2, none⟩)) rfl (by kernel_rfl) (by kernel_rfl) (by kernel_rfl) (fun _ _ _ h => h) (Or.inl ⟨by rfl, ?_⟩) (by assumption) ?_
  · intro W hSW
    go_simp
  simp only [Act.put]
  refine wpAnyH_take (i := 5) (v := .slice a1 L1.length k1) rfl (by kernel_rfl) (by kernel_rfl) (by kernel_rfl) (fun _ _ _ h => h) (Or.inl ⟨by rfl, ?_⟩) (by assumption) ?_
  · intro W hSW
    obtain ⟨⟨⟨q0, q1, q2⟩, ⟨y0, y1, y2⟩⟩, _⟩ := HXS.out _ hSW
    go_simp
  simp only [Act.put]
  refine wpAnyH_take (i := 6) (v := .pointer (some ⟨w.heap.size + 1, 2, none⟩)) rfl (by kernel_rfl) (by kernel_rfl) (by kernel_rfl) (fun _ _ _ h => h) (Or.inl ⟨by rfl, ?_⟩) (by assumption) ?_
  · intro W hSW
    go_simp
  simp only [Act.put]
  refine wpAnyH_take (i := 7) (v := .slice a2 L2.length k2) rfl (by kernel_rfl) (by kernel_rfl) (by kernel_rfl) (fun _ _ _ h => h) (Or.inl ⟨by rfl, ?_⟩) (by assumption) ?_
  · intro W hSW
    obtain ⟨⟨⟨q0, q1, q2⟩, ⟨y0, y1, y2⟩⟩, _⟩ := HXS.out _ hSW
    go_simp
  simp only [Act.put]
  refine wpAnyH_take (i := 9) (v := .pointer (some ⟨w.heap.size + 1, 2, none⟩)) rfl (by kernel_rfl) (by kernel_rfl) (by kernel_rfl) (fun _ _ _ h => h) (Or.inl ⟨by rfl, ?_⟩) (by assumption) ?_
  · intro W hSW
    go_simp
  simp only [Act.put]
  refine wpAnyH_take (i := 10) (v := .slice a2 L2.length k2) rfl (by kernel_rfl) (by kernel_rfl) (by kernel_rfl) (fun _ _ _ h => h) (Or.inl ⟨by rfl, ?_⟩) (by assumption) ?_
  · intro W hSW
    obtain ⟨⟨⟨q0, q1, q2⟩, ⟨y0, y1, y2⟩⟩, _⟩ := HXS.out _ hSW
    go_simp
  simp only [Act.put]
  refine wpAnyH_take (i := 11) (v := .pointer (some ⟨w.heap.size, 2, none⟩)) rfl (by kernel_rfl) (by kernel_rfl) (by kernel_rfl) (fun _ _ _ h => h) (Or.inl ⟨by rfl, ?_⟩) (by assumption) ?_
  · intro W hSW
    go_simp
  simp only [Act.put]
  refine wpAnyH_take (i := 12) (v := .slice a1 L1.length k1) rfl (by kernel_rfl) (by kernel_rfl) (by kernel_rfl) (fun _ _ _ h => h) (Or.inl ⟨by rfl, ?_⟩) (by assumption) ?_
  · intro W hSW
    obtain ⟨⟨⟨q0, q1, q2⟩, ⟨y0, y1, y2⟩⟩, _⟩ := HXS.out _ hSW
    go_simp
  simp only [Act.put]
  refine wpAnyH_ready (rs := [8, 15]) (by kernel_rfl) (by simp) ?_
  refine AllReadyH.cons rfl (fun K hK => ?_) (AllReadyH.cons rfl (fun K hK => ?_) AllReadyH.nil)
  · rw [if_pos (by rfl)]
    go_simp
    refine (HR12.out _ (HBW.out _ hS1)).mono ?_
    rintro e w5 ⟨⟨u1, rfl, ho1⟩, hb5⟩
    obtain ⟨b1, m1, hu1, hm1⟩ := ho1.shape
    subst hu1
    go_simp
    have hS5 := HTS.out _ _ hS1 hb5
    refine hK.out _ _ hS5 (fun hSS => ?_)
    clear hK
    refine wpAnyH_ready (rs := [13, 15]) (by kernel_rfl) (by simp) ?_
    refine AllReadyH.cons rfl (fun K hK => ?_) (AllReadyH.cons rfl (fun K hK => ?_) AllReadyH.nil)
    · rw [if_pos (by rfl)]
      go_simp
      refine (HR21.out _ (HBW.out _ hS5)).mono ?_
      rintro e w6 ⟨⟨u2, rfl, ho2⟩, hb6⟩
      obtain ⟨b2, m2, hu2, hm2⟩ := ho2.shape
      subst hu2
      go_simp
      have hS6 := HTS.out _ _ hS5 hb6
      refine hK.out _ _ hS6 (fun hSS => ?_)
      clear hK
      refine wpAnyH_take (i := 14) (v := .agg #[.int .i64 ct1, .int .i64 ct2, .slice b1 (wthR L1 L2).length m1, .slice b2 (wthR L2 L1).length m2]) rfl (by kernel_rfl) (by kernel_rfl) (by kernel_rfl) (fun _ _ _ h => h) (Or.inl ⟨by rfl, ?_⟩) (by assumption) ?_
      · intro W hSW
        go_simp
      simp only [Act.put]
      refine wpAnyH_ready (rs := [15]) (by kernel_rfl) (by simp) ?_
      refine AllReadyH.cons rfl (fun K hK => ?_) AllReadyH.nil
      rw [if_pos (by rfl)]
      go_simp
      have hS8 := Below.alloc hS6 (Below.size hS6) (.cells #[.int .i64 0, .int .i64 0, .slice none 0 0, .slice none 0 0] 28)
      refine hK.out _ _ hS8 (fun hSS => ?_)
      clear hK
      refine wpAnyH_ready (rs := [16]) (by kernel_rfl) (by simp) ?_
      refine AllReadyH.cons rfl (fun K hK => ?_) AllReadyH.nil
      rw [if_pos (by rfl)]
      have hF : (w6.alloc (.cells #[.int .i64 ct1, .int .i64 ct2, .slice b1 (wthR L1 L2).length m1, .slice b2 (wthR L2 L1).length m2] 28)).heap[w6.heap.size]? = some (.cells #[.int .i64 ct1, .int .i64 ct2, .slice b1 (wthR L1 L2).length m1, .slice b2 (wthR L2 L1).length m2] 28) := blk_new _ _
      have hR1 := ((ho1.kept hb6).kept ((Below.refl w6.heap.size w6).alloc (Nat.le_refl _) (.cells #[.int .i64 ct1, .int .i64 ct2, .slice b1 (wthR L1 L2).length m1, .slice b2 (wthR L2 L1).length m2] 28))).row
      have hR2 := (ho2.kept ((Below.refl w6.heap.size w6).alloc (Nat.le_refl _) (.cells #[.int .i64 ct1, .int .i64 ct2, .slice b1 (wthR L1 L2).length m1, .slice b2 (wthR L2 L1).length m2] 28))).row
      have hSF := Below.alloc hS6 (Below.size hS6) (.cells #[.int .i64 ct1, .int .i64 ct2, .slice b1 (wthR L1 L2).length m1, .slice b2 (wthR L2 L1).length m2] 28)
      go_simp
      refine hK.out _ _ hSF (fun hSS => ?_)
      clear hK
      refine wpAnyH_done (by kernel_rfl) ?_ _
      obtain ⟨WF, hWF⟩ : ∃ WF, WF = w6.alloc (.cells #[.int .i64 ct1, .int .i64 ct2, .slice b1 (wthR L1 L2).length m1, .slice b2 (wthR L2 L1).length m2] 28) := ⟨_, rfl⟩
      rw [← hWF] at hF hR1 hR2 hSF ⊢
      clear hWF
      obtain ⟨x0, x1, x2, x3⟩ := dif4 hF
      have HSF : Hid (Below w2.heap.size w2 WF) := hSF
      clear hSS hF
      go_wp2_with fail
      refine (HCP.out _ _ _ hR1 hR2).mono ?_
      rintro e w7 ⟨⟨y1, y2, rfl, hp1, hp2, hpa⟩, hb7⟩
      obtain ⟨p1, l1, hy1, hl1'⟩ := hp1.shape
      obtain ⟨p2, l2, hy2, hl2'⟩ := hp2.shape
      subst hy1
      subst hy2
      have hS7 := HTS.out _ _ HSF.out hb7
      obtain ⟨_, ⟨⟨r0, r1, r2, r3⟩, ⟨f0, f1, f2, f3⟩⟩, HZ7, hbw7, hz7⟩ := HXS.out _ hS7
      have HZS := hbw7
      have hbig : w.heap.size + 1 + 1 < WF.heap.size := (HXS.out _ HSF.out).2.2.2.2
      have HP1 : Hid (OwnQ w7 WF.heap.size (.slice p1 (wthR L1 L2).length l1) (wthR L1 L2)) := hp1
      have HP2 : Hid (OwnQ w7 WF.heap.size (.slice p2 (wthR L2 L1).length l2) (wthR L2 L1)) := hp2
      have HPA : Hid (∀ g, (Value.slice p1 (wthR L1 L2).length l1).ownBlock = some g → (Value.slice p2 (wthR L2 L1).length l2).ownBlock ≠ some g) := hpa
      have HZ8 : Hid (w7.heap[w.heap.size + 1 + 1]? = some (.cells #[.int .i64 0, .int .i64 0, .slice none 0 0, .slice none 0 0] 28)) := HZ7
      clear x0 x1 x2 x3 hp1 hp2 hpa hb7 hS7 HZ7 HZS hR1 hR2 hSF
      go_wp2_with fail
      (try simp only [Exit.inBlock, Exit.then])
      refine bodyPost_ret (results_row_tmp rfl _ _ (w.heap.size + 1 + 1) 28 #[.int .i64 ct1, .int .i64 ct2, .slice p1 (wthR L1 L2).length l1, .slice p2 (wthR L2 L1).length l2] (0, 0) _ (.bool true) rfl rfl (put4v_heap HZ8.out) Tryz.underlying28 rfl (by kernel_rfl)) rfl ⟨?_, put4v_below hbw7 (by omega) _ _ _ _⟩
      have hfin : DOwn (put4v w7 (w.heap.size + 1 + 1) (.int .i64 ct1) (.int .i64 ct2) (.slice p1 (wthR L1 L2).length l1) (.slice p2 (wthR L2 L1).length l2)) w.heap.size true ct1 ct2 (wthR L1 L2) (wthR L2 L1) (.returned (.tuple #[DifV ct1 ct2 (.slice p1 (wthR L1 L2).length l1) (.slice p2 (wthR L2 L1).length l2), .bool true])) := ⟨_, _, rfl, (HP1.out.kpt (kpt_put4v _ (w.heap.size + 1 + 1) _ _ _ _ (S := fun k => k = w.heap.size + 1 + 1) rfl) (fun g hg h => by have h1 := HP1.out.lt g hg; omega)).base (by omega), (HP2.out.kpt (kpt_put4v _ (w.heap.size + 1 + 1) _ _ _ _ (S := fun k => k = w.heap.size + 1 + 1) rfl) (fun g hg h => by have h1 := HP2.out.lt g hg; omega)).base (by omega), HPA.out⟩
      first | exact hfin | exact ⟨fun h => (by cases h), fun _ => hfin⟩
    · rw [if_pos (by rfl)]
      go_simp
      have hS8 := Below.alloc hS5 (Below.size hS5) (.cells #[.int .i64 0, .int .i64 0, .slice none 0 0, .slice none 0 0] 28)
      refine hK.out _ _ hS8 (fun hSS => ?_)
      clear hK
      refine wpAnyH_ready (rs := [13]) (by kernel_rfl) (by simp) ?_
      refine AllReadyH.cons rfl (fun K hK => ?_) AllReadyH.nil
      rw [if_pos (by rfl)]
      go_simp
      refine (HR21.out _ (HBW.out _ hS8)).mono ?_
      rintro e w6 ⟨⟨u2, rfl, ho2⟩, hb6⟩
      obtain ⟨b2, m2, hu2, hm2⟩ := ho2.shape
      subst hu2
      go_simp
      have hS6 := HTS.out _ _ hS8 hb6
      refine hK.out _ _ hS6 (fun hSS => ?_)
      clear hK
      refine wpAnyH_take (i := 14) (v := .agg #[.int .i64 ct1, .int .i64 ct2, .slice b1 (wthR L1 L2).length m1, .slice b2 (wthR L2 L1).length m2]) rfl (by kernel_rfl) (by kernel_rfl) (by kernel_rfl) (fun _ _ _ h => h) (Or.inl ⟨by rfl, ?_⟩) (by assumption) ?_
      · intro W hSW
        go_simp
      simp only [Act.put]
      refine wpAnyH_ready (rs := [16]) (by kernel_rfl) (by simp) ?_
      refine AllReadyH.cons rfl (fun K hK => ?_) AllReadyH.nil
      rw [if_pos (by rfl)]
      have hk4 : (w6).heap[w5.heap.size]? = some (.cells #[.int .i64 0, .int .i64 0, .slice none 0 0, .slice none 0 0] 28) := (hb6.block w5.heap.size (by simp)).trans (blk_new _ _)
      have hO1 : OwnQ (w6) w2.heap.size (.slice b1 (wthR L1 L2).length m1) (wthR L1 L2) := ((ho1.kept ((Below.refl w5.heap.size w5).alloc (Nat.le_refl _) _)).kept hb6).base hS1.size
      have hO2 : OwnQ (w6) w2.heap.size (.slice b2 (wthR L2 L1).length m2) (wthR L2 L1) := ho2.base (Nat.le_trans hS5.size (by simp))
      have hg2 : w2.heap.size ≤ w5.heap.size := by first | exact Nat.le_refl _ | exact hS5.size | exact hS6.size
      have hgk := kpt_put4v (w6) (w5.heap.size) (.int .i64 ct1) (.int .i64 ct2) (.slice b1 (wthR L1 L2).length m1) (.slice b2 (wthR L2 L1).length m2) (S := fun k => k = w5.heap.size) rfl
      have hF := put4v_heap (v0 := .int .i64 ct1) (v1 := .int .i64 ct2) (v2 := .slice b1 (wthR L1 L2).length m1) (v3 := .slice b2 (wthR L2 L1).length m2) hk4
      have hR1 := (hO1.kpt hgk (fun b hb h => by have h1 := ho1.lt b hb; omega)).row
      have hR2 := (hO2.kpt hgk (fun b hb h => by have h1 := ho2.lt b hb; simp at h1; omega)).row
      have hSF := put4v_below hS6 (g := w5.heap.size) hg2 (.int .i64 ct1) (.int .i64 ct2) (.slice b1 (wthR L1 L2).length m1) (.slice b2 (wthR L2 L1).length m2)
      obtain ⟨⟨r0, r1, r2, r3⟩, ⟨f0, f1, f2, f3⟩⟩ := dif_cells hk4
      go_simp
      unfold put4v at hF hR1 hR2 hSF
      refine hK.out _ _ hSF (fun hSS => ?_)
      clear hK r0 r1 r2 r3 f0 f1 f2 f3
      refine wpAnyH_done (by kernel_rfl) ?_ _
      obtain ⟨WF, hWF⟩ : ∃ WF, WF = ((((w6).setCell ⟨w5.heap.size, 0, none⟩ (.int .i64 ct1)).setCell ⟨w5.heap.size, 1, none⟩ (.int .i64 ct2)).setCell ⟨w5.heap.size, 2, none⟩ (.slice b1 (wthR L1 L2).length m1)).setCell ⟨w5.heap.size, 3, none⟩ (.slice b2 (wthR L2 L1).length m2) := ⟨_, rfl⟩
      rw [← hWF] at hF hR1 hR2 hSF ⊢
      clear hWF hgk hO1 hO2 hk4
      obtain ⟨x0, x1, x2, x3⟩ := dif4 hF
      have HSF : Hid (Below w2.heap.size w2 WF) := hSF
      clear hSS hF
      go_wp2_with fail
      refine (HCP.out _ _ _ hR1 hR2).mono ?_
      rintro e w7 ⟨⟨y1, y2, rfl, hp1, hp2, hpa⟩, hb7⟩
      obtain ⟨p1, l1, hy1, hl1'⟩ := hp1.shape
      obtain ⟨p2, l2, hy2, hl2'⟩ := hp2.shape
      subst hy1
      subst hy2
      have hS7 := HTS.out _ _ HSF.out hb7
      obtain ⟨_, ⟨⟨r0, r1, r2, r3⟩, ⟨f0, f1, f2, f3⟩⟩, HZ7, hbw7, hz7⟩ := HXS.out _ hS7
      have HZS := hbw7
      have hbig : w.heap.size + 1 + 1 < WF.heap.size := (HXS.out _ HSF.out).2.2.2.2
      have HP1 : Hid (OwnQ w7 WF.heap.size (.slice p1 (wthR L1 L2).length l1) (wthR L1 L2)) := hp1
      have HP2 : Hid (OwnQ w7 WF.heap.size (.slice p2 (wthR L2 L1).length l2) (wthR L2 L1)) := hp2
      have HPA : Hid (∀ g, (Value.slice p1 (wthR L1 L2).length l1).ownBlock = some g → (Value.slice p2 (wthR L2 L1).length l2).ownBlock ≠ some g) := hpa
      have HZ8 : Hid (w7.heap[w.heap.size + 1 + 1]? = some (.cells #[.int .i64 0, .int .i64 0, .slice none 0 0, .slice none 0 0] 28)) := HZ7
      clear x0 x1 x2 x3 hp1 hp2 hpa hb7 hS7 HZ7 HZS hR1 hR2 hSF
      go_wp2_with fail
      (try simp only [Exit.inBlock, Exit.then])
      refine bodyPost_ret (results_row_tmp rfl _ _ (w.heap.size + 1 + 1) 28 #[.int .i64 ct1, .int .i64 ct2, .slice p1 (wthR L1 L2).length l1, .slice p2 (wthR L2 L1).length l2] (0, 0) _ (.bool true) rfl rfl (put4v_heap HZ8.out) Tryz.underlying28 rfl (by kernel_rfl)) rfl ⟨?_, put4v_below hbw7 (by omega) _ _ _ _⟩
      have hfin : DOwn (put4v w7 (w.heap.size + 1 + 1) (.int .i64 ct1) (.int .i64 ct2) (.slice p1 (wthR L1 L2).length l1) (.slice p2 (wthR L2 L1).length l2)) w.heap.size true ct1 ct2 (wthR L1 L2) (wthR L2 L1) (.returned (.tuple #[DifV ct1 ct2 (.slice p1 (wthR L1 L2).length l1) (.slice p2 (wthR L2 L1).length l2), .bool true])) := ⟨_, _, rfl, (HP1.out.kpt (kpt_put4v _ (w.heap.size + 1 + 1) _ _ _ _ (S := fun k => k = w.heap.size + 1 + 1) rfl) (fun g hg h => by have h1 := HP1.out.lt g hg; omega)).base (by omega), (HP2.out.kpt (kpt_put4v _ (w.heap.size + 1 + 1) _ _ _ _ (S := fun k => k = w.heap.size + 1 + 1) rfl) (fun g hg h => by have h1 := HP2.out.lt g hg; omega)).base (by omega), HPA.out⟩
      first | exact hfin | exact ⟨fun h => (by cases h), fun _ => hfin⟩
  · rw [if_pos (by rfl)]
    go_simp
    have hS8 := Below.alloc hS1 (Below.size hS1) (.cells #[.int .i64 0, .int .i64 0, .slice none 0 0, .slice none 0 0] 28)
    refine hK.out _ _ hS8 (fun hSS => ?_)
    clear hK
    refine wpAnyH_ready (rs := [8]) (by kernel_rfl) (by simp) ?_
    refine AllReadyH.cons rfl (fun K hK => ?_) AllReadyH.nil
    rw [if_pos (by rfl)]
    go_simp
    refine (HR12.out _ (HBW.out _ hS8)).mono ?_
    rintro e w5 ⟨⟨u1, rfl, ho1⟩, hb5⟩
    obtain ⟨b1, m1, hu1, hm1⟩ := ho1.shape
    subst hu1
    go_simp
    have hS5 := HTS.out _ _ hS8 hb5
    refine hK.out _ _ hS5 (fun hSS => ?_)
    clear hK
    refine wpAnyH_ready (rs := [13]) (by kernel_rfl) (by simp) ?_
    refine AllReadyH.cons rfl (fun K hK => ?_) AllReadyH.nil
    rw [if_pos (by rfl)]
    go_simp
    refine (HR21.out _ (HBW.out _ hS5)).mono ?_
    rintro e w6 ⟨⟨u2, rfl, ho2⟩, hb6⟩
    obtain ⟨b2, m2, hu2, hm2⟩ := ho2.shape
    subst hu2
    go_simp
    have hS6 := HTS.out _ _ hS5 hb6
    refine hK.out _ _ hS6 (fun hSS => ?_)
    clear hK
    refine wpAnyH_take (i := 14) (v := .agg #[.int .i64 ct1, .int .i64 ct2, .slice b1 (wthR L1 L2).length m1, .slice b2 (wthR L2 L1).length m2]) rfl (by kernel_rfl) (by kernel_rfl) (by kernel_rfl) (fun _ _ _ h => h) (Or.inl ⟨by rfl, ?_⟩) (by assumption) ?_
    · intro W hSW
      go_simp
    simp only [Act.put]
    refine wpAnyH_ready (rs := [16]) (by kernel_rfl) (by simp) ?_
    refine AllReadyH.cons rfl (fun K hK => ?_) AllReadyH.nil
    rw [if_pos (by rfl)]
    have hk4 : (w6).heap[w2.heap.size]? = some (.cells #[.int .i64 0, .int .i64 0, .slice none 0 0, .slice none 0 0] 28) := (hb6.block w2.heap.size (by have h := hb5.size; simp at h; omega)).trans ((hb5.block w2.heap.size (by simp)).trans (blk_new w2.drew _))
    have hO1 : OwnQ (w6) w2.heap.size (.slice b1 (wthR L1 L2).length m1) (wthR L1 L2) := (ho1.kept hb6).base (by simp)
    have hO2 : OwnQ (w6) w2.heap.size (.slice b2 (wthR L2 L1).length m2) (wthR L2 L1) := ho2.base hS5.size
    have hg2 : w2.heap.size ≤ w2.heap.size := by first | exact Nat.le_refl _ | exact hS5.size | exact hS6.size
    have hgk := kpt_put4v (w6) (w2.heap.size) (.int .i64 ct1) (.int .i64 ct2) (.slice b1 (wthR L1 L2).length m1) (.slice b2 (wthR L2 L1).length m2) (S := fun k => k = w2.heap.size) rfl
    have hF := put4v_heap (v0 := .int .i64 ct1) (v1 := .int .i64 ct2) (v2 := .slice b1 (wthR L1 L2).length m1) (v3 := .slice b2 (wthR L2 L1).length m2) hk4
    have hR1 := (hO1.kpt hgk (fun b hb h => by have h1 := ho1.lt b hb; simp at h1; omega)).row
    have hR2 := (hO2.kpt hgk (fun b hb h => by have h1 := ho2.lt b hb; have h2 := hb5.size; simp at h2; omega)).row
    have hSF := put4v_below hS6 (g := w2.heap.size) hg2 (.int .i64 ct1) (.int .i64 ct2) (.slice b1 (wthR L1 L2).length m1) (.slice b2 (wthR L2 L1).length m2)
    obtain ⟨⟨r0, r1, r2, r3⟩, ⟨f0, f1, f2, f3⟩⟩ := dif_cells hk4
    go_simp
    unfold put4v at hF hR1 hR2 hSF
    refine hK.out _ _ hSF (fun hSS => ?_)
    clear hK r0 r1 r2 r3 f0 f1 f2 f3
    refine wpAnyH_done (by kernel_rfl) ?_ _
    obtain ⟨WF, hWF⟩ : ∃ WF, WF = ((((w6).setCell ⟨w2.heap.size, 0, none⟩ (.int .i64 ct1)).setCell ⟨w2.heap.size, 1, none⟩ (.int .i64 ct2)).setCell ⟨w2.heap.size, 2, none⟩ (.slice b1 (wthR L1 L2).length m1)).setCell ⟨w2.heap.size, 3, none⟩ (.slice b2 (wthR L2 L1).length m2) := ⟨_, rfl⟩
    rw [← hWF] at hF hR1 hR2 hSF ⊢
    clear hWF hgk hO1 hO2 hk4
    obtain ⟨x0, x1, x2, x3⟩ := dif4 hF
    have HSF : Hid (Below w2.heap.size w2 WF) := hSF
    clear hSS hF
    go_wp2_with fail
    refine (HCP.out _ _ _ hR1 hR2).mono ?_
    rintro e w7 ⟨⟨y1, y2, rfl, hp1, hp2, hpa⟩, hb7⟩
    obtain ⟨p1, l1, hy1, hl1'⟩ := hp1.shape
    obtain ⟨p2, l2, hy2, hl2'⟩ := hp2.shape
    subst hy1
    subst hy2
    have hS7 := HTS.out _ _ HSF.out hb7
    obtain ⟨_, ⟨⟨r0, r1, r2, r3⟩, ⟨f0, f1, f2, f3⟩⟩, HZ7, hbw7, hz7⟩ := HXS.out _ hS7
    have HZS := hbw7
    have hbig : w.heap.size + 1 + 1 < WF.heap.size := (HXS.out _ HSF.out).2.2.2.2
    have HP1 : Hid (OwnQ w7 WF.heap.size (.slice p1 (wthR L1 L2).length l1) (wthR L1 L2)) := hp1
    have HP2 : Hid (OwnQ w7 WF.heap.size (.slice p2 (wthR L2 L1).length l2) (wthR L2 L1)) := hp2
    have HPA : Hid (∀ g, (Value.slice p1 (wthR L1 L2).length l1).ownBlock = some g → (Value.slice p2 (wthR L2 L1).length l2).ownBlock ≠ some g) := hpa
    have HZ8 : Hid (w7.heap[w.heap.size + 1 + 1]? = some (.cells #[.int .i64 0, .int .i64 0, .slice none 0 0, .slice none 0 0] 28)) := HZ7
    clear x0 x1 x2 x3 hp1 hp2 hpa hb7 hS7 HZ7 HZS hR1 hR2 hSF
    go_wp2_with fail
    (try simp only [Exit.inBlock, Exit.then])
    refine bodyPost_ret (results_row_tmp rfl _ _ (w.heap.size + 1 + 1) 28 #[.int .i64 ct1, .int .i64 ct2, .slice p1 (wthR L1 L2).length l1, .slice p2 (wthR L2 L1).length l2] (0, 0) _ (.bool true) rfl rfl (put4v_heap HZ8.out) Tryz.underlying28 rfl (by kernel_rfl)) rfl ⟨?_, put4v_below hbw7 (by omega) _ _ _ _⟩
    have hfin : DOwn (put4v w7 (w.heap.size + 1 + 1) (.int .i64 ct1) (.int .i64 ct2) (.slice p1 (wthR L1 L2).length l1) (.slice p2 (wthR L2 L1).length l2)) w.heap.size true ct1 ct2 (wthR L1 L2) (wthR L2 L1) (.returned (.tuple #[DifV ct1 ct2 (.slice p1 (wthR L1 L2).length l1) (.slice p2 (wthR L2 L1).length l2), .bool true])) := ⟨_, _, rfl, (HP1.out.kpt (kpt_put4v _ (w.heap.size + 1 + 1) _ _ _ _ (S := fun k => k = w.heap.size + 1 + 1) rfl) (fun g hg h => by have h1 := HP1.out.lt g hg; omega)).base (by omega), (HP2.out.kpt (kpt_put4v _ (w.heap.size + 1 + 1) _ _ _ _ (S := fun k => k = w.heap.size + 1 + 1) rfl) (fun g hg h => by have h1 := HP2.out.lt g hg; omega)).base (by omega), HPA.out⟩
    first | exact hfin | exact ⟨fun h => (by cases h), fun _ => hfin⟩
end Go.Proofs.YtbcgalhegkhmbaaGreatDoor
