import Derived.Test.YtbcgalhegkhmbaaGreatDoorZ44
import Derived.Test.YtbcgalhegkhmbaaGreatDoorZ50
import Derived.Test.YtbcgalhegkhmbaaGreatDoorZ54
import Derived.Test.YtbcgalhegkhmbaaGreatDoorZ31
import Derived.Deep.RegionHeld3
namespace Go.Proofs.YtbcgalhegkhmbaaGreatDoor
open Go.RowKit

set_option maxRecDepth 20000 in
set_option maxHeartbeats 4000000 in
theorem l9Less_any (v vg : Value) (L G : List (List UInt8 × Int × Int × List UInt8)) (w : World) (hr : RRow w v L) (hg : RRow w vg G) (hl : L.length ≤ 1048576) :
    Calls Tryz.prog 15 #[v, vg] w fun e w' => (∃ u, e = .returned u ∧ OwnQ w' w.heap.size u (wthR L G)) ∧ Below w.heap.size w w' := by
  obtain ⟨a, cap, rfl, hcap, hmax, HROW⟩ := rrow_value hr
  have HCO : Hid (∀ (x : List UInt8 × Int × Int × List UInt8) W, Below w.heap.size w W → Calls Tryz.prog 27 #[vg, .agg #[.string ⟨x.1.toArray⟩, .int .i64 x.2.1, .int .i64 x.2.2.1, .string ⟨x.2.2.2.toArray⟩]] W fun e w' => e = .returned (.bool (hasR G x)) ∧ Below W.heap.size W w') := fun x W hW => l9Has_any vg G x W (hg.kept hW)
  obtain ⟨ag, cg, rfl, hcg1, hcg, _⟩ := rrow_value hg
  clear hr hg
  have HO0 : Hid (w.ownsRow w.heap.size 51 4 (.slice none 0 0) (wthR (L.take 0) G).length (rcells (wthR (L.take 0) G))) := by
    have h : w.ownsRow w.heap.size 51 4 (.slice none 0 0) (wthR (L.take 0) G).length (rcells (wthR (L.take 0) G)) := by simpa [rcells, wthR] using World.ownsRow_nil _ _ _ _
    exact h
  go_enter Tryz.func15, Tryz.ntmps15
  go_wp2_with fail
  go_loopw [5, 10] (fun vv i wr => ∃ (k : Nat) (v : Value), k ≤ L.length ∧ i = .int .i64 (k : Int) ∧ v = vv ∧ Hid (wr.ownsRow w.heap.size 51 4 v (wthR (L.take k) G).length (rcells (wthR (L.take k) G))) ∧ Below w.heap.size w wr) (fun _ i _ => L.length - (intOf i).toNat)
  case atStart => exact ⟨0, _, Nat.zero_le _, rfl, rfl, HO0, Below.refl _ _⟩
  case round =>
    obtain ⟨k, v, hk, rfl, rfl, HO, hb⟩ := hrel
    clear HO0
    by_cases hlt : k < L.length
    · obtain ⟨b, o, ha, hbl, hcel⟩ := HROW.out (by omega)
      rw [ha]
      have hcx := (hcel k hlt).kept hb
      have HN : Hid (wthR (L.take (k + 1)) G = wthR (L.take k) G ++ (if hasR G (L[k]'hlt) then [] else [L[k]'hlt])) := wthR_take k hlt
      have hlen : Hid ((wthR (L.take k) G).length ≤ k) := Nat.le_trans (wthR_le _ _) (by rw [List.length_take]; omega)
      obtain ⟨x, hxe⟩ : ∃ x, x = L[k]'hlt := ⟨_, rfl⟩
      rw [← hxe] at hcx HN
      unfold RecAt at hcx
      obtain ⟨c0, c1, c2, c3⟩ := hcx
      have HCX : Hid (∀ W, Below w.heap.size w W → Calls Tryz.prog 27 #[.slice ag G.length cg, .agg #[.string ⟨x.1.toArray⟩, .int .i64 x.2.1, .int .i64 x.2.2.1, .string ⟨x.2.2.2.toArray⟩]] W fun e w' => e = .returned (.bool (hasR G x)) ∧ Below W.heap.size W w') := HCO.out x
      obtain ⟨P, hP⟩ : ∃ P, P = wthR (L.take k) G := ⟨_, rfl⟩
      rw [← hP] at HO HN hlen
      clear hcel hxe hP
      cases hh : hasR G x with
      | true =>
        rw [hh] at HCX HN
        have HN2 : Hid (wthR (L.take (k + 1)) G = P) := HN.out.trans (by simp)
        clear HN hh
        go_wp2_with fail
        refine (HCX.out _ (hb.alloc hb.size _)).mono ?_
        rintro e w1 ⟨rfl, hb1⟩
        have HO1 : Hid (w1.ownsRow w.heap.size 51 4 v (wthR (L.take (k + 1)) G).length (rcells (wthR (L.take (k + 1)) G))) := by rw [HN2.out]; exact own_below (HO.out.alloc _) hb1
        have hbw1 : Below w.heap.size w w1 := (hb.alloc hb.size _).trans (hb1.mono (hb.alloc hb.size _).size)
        clear c0 c1 c2 c3 hb1
        go_wp2_with fail
        go_roundw
        case rel => exact ⟨k + 1, v, by omega, by go_num, rfl, HO1, hbw1⟩
        case measure => simp [intOf]; omega
      | false =>
        rw [hh] at HCX HN
        have HN2 : Hid (wthR (L.take (k + 1)) G = P ++ [x]) := HN.out.trans (by simp)
        clear HN hh
        have HNB : Hid (v.ownBlock ≠ some wr.heap.size) := fun h => Nat.lt_irrefl _ (HO.out.lt _ h).2
        go_wp2_with fail
        refine (HCX.out _ (hb.alloc hb.size _)).mono ?_
        rintro e w1 ⟨rfl, hb1⟩
        have HO1 : Hid (w1.ownsRow w.heap.size 51 4 v P.length (rcells P)) := own_below (HO.out.alloc _) hb1
        have hbw1 : Below w.heap.size w w1 := (hb.alloc hb.size _).trans (hb1.mono (hb.alloc hb.size _).size)
        have HB1 : Hid (w1.heap[wr.heap.size]? = some (.cells #[.string ⟨x.1.toArray⟩, .int .i64 x.2.1, .int .i64 x.2.2.1, .string ⟨x.2.2.2.toArray⟩] 51)) := (hb1.block wr.heap.size (by simp)).trans (blk_new _ _)
        obtain ⟨d0, d1, d2, d3⟩ := rec4_cells HB1.out
        clear c0 c1 c2 c3 hb1
        go_wp2_with (first | (at_builtin; refine wpList_append_rows rfl (.tmp 18) (.tmp 20) 26 rfl Tryz.underlying26 w.heap.size v _ P rfl rfl ?b0 _ [x] rfl ?b1 ?b2 ?b3 ?b4 ?_))
        case b0 => exact HO1.out.alloc _
        case b1 => exact rrow_one _ x _ _ (by simp)
        case b2 => intro n c h; cases h
        case b3 => have h := hlen.out; simp; omega
        case b4 => simp; have := hbw1.size; omega
        intro v2 w4 hown hgrow
        have HO4 : Hid (w4.ownsRow w.heap.size 51 4 v2 (wthR (L.take (k + 1)) G).length (rcells (wthR (L.take (k + 1)) G))) := by
          have e : (P ++ [x]).length = P.length + 1 := by simp
          rw [HN2.out, e]; exact hown
        have hbw4 : Below w.heap.size w w4 := (hbw1.alloc hbw1.size _).grown hgrow (by simp; have := hbw1.size; omega) (fun j hj => (HO1.out.lt j hj).1)
        clear hown hgrow
        go_wp2_with fail
        go_roundw
        case rel => exact ⟨k + 1, v2, by omega, by go_num, rfl, HO4, hbw4⟩
        case measure => simp [intOf]; omega
    · have HOL : Hid (OwnQ wr w.heap.size v (wthR L G)) := by
        have h := HO.out
        rw [List.take_of_length_le (by omega)] at h
        exact own_q h
      go_wp2_with fail
      go_ret
      exact ⟨⟨_, rfl, HOL.out⟩, hb⟩


set_option maxRecDepth 20000 in
set_option maxHeartbeats 8000000 in
theorem sDiffOf_any (nm1 : ByteArray) (ct1 : Int) (v1 : Value) (L1 : List (List UInt8 × Int × Int × List UInt8)) (nm2 : ByteArray) (ct2 : Int) (v2 : Value) (L2 : List (List UInt8 × Int × Int × List UInt8)) (w : World) (hr1 : RRow w v1 L1) (hr2 : RRow w v2 L2) (hn1 : nm1.size ≤ 1048576) (hn2 : nm2.size ≤ 1048576) (hl1 : L1.length ≤ 1048576) (hl2 : L2.length ≤ 1048576)
    (hx1 : Hid (∀ x ∈ L1, x.1.length ≤ 1048576 ∧ x.2.2.2.length ≤ 1048576)) (hx2 : Hid (∀ x ∈ L2, x.1.length ≤ 1048576 ∧ x.2.2.2.length ≤ 1048576)) :
    Calls Tryz.prog 5 #[ZonV nm1 ct1 v1, ZonV nm2 ct2 v2] w fun e w' => ((offB nm1.data.toList ct1 L1 nm2.data.toList ct2 L2 = false → DRes w' false 0 0 [] [] e) ∧ (offB nm1.data.toList ct1 L1 nm2.data.toList ct2 L2 = true → DRes w' true ct1 ct2 (wthR L1 L2) (wthR L2 L1) e)) ∧ Below w.heap.size w w' := by
  have HG1 : Hid (∀ W, Below w.heap.size w W → Calls Tryz.prog 14 #[ZonV nm1 ct1 v1] W fun e w' => e = .returned (.bool (zoneB nm1.data.toList ct1 L1)) ∧ Below W.heap.size W w') := fun W hW => sGoodZone_any nm1 ct1 v1 L1 W (hr1.kept hW) hn1 hl1 hx1
  have HG2 : Hid (∀ W, Below w.heap.size w W → Calls Tryz.prog 14 #[ZonV nm2 ct2 v2] W fun e w' => e = .returned (.bool (zoneB nm2.data.toList ct2 L2)) ∧ Below W.heap.size W w') := fun W hW => sGoodZone_any nm2 ct2 v2 L2 W (hr2.kept hW) hn2 hl2 hx2
  have HR12 : Hid (∀ W, Below w.heap.size w W → Calls Tryz.prog 15 #[v1, v2] W fun e w' => (∃ u, e = .returned u ∧ OwnQ w' W.heap.size u (wthR L1 L2)) ∧ Below W.heap.size W w') := fun W hW => l9Less_any v1 v2 L1 L2 W (hr1.kept hW) (hr2.kept hW) hl1
  have HR21 : Hid (∀ W, Below w.heap.size w W → Calls Tryz.prog 15 #[v2, v1] W fun e w' => (∃ u, e = .returned u ∧ OwnQ w' W.heap.size u (wthR L2 L1)) ∧ Below W.heap.size W w') := fun W hW => l9Less_any v2 v1 L2 L1 W (hr2.kept hW) (hr1.kept hW) hl2
  obtain ⟨a1, k1, rfl, _, hk1, _⟩ := rrow_value hr1
  obtain ⟨a2, k2, rfl, _, hk2, _⟩ := rrow_value hr2
  clear hr1 hr2
  obtain ⟨W0, hW0⟩ : ∃ W0, W0 = ((w.alloc (.cells #[.string nm1, .int .i64 ct1, .slice a1 L1.length k1] 32)).alloc (.cells #[.string nm2, .int .i64 ct2, .slice a2 L2.length k2] 32)).alloc (.cells #[.int .i64 0, .int .i64 0, .slice none 0 0, .slice none 0 0] 28) := ⟨_, rfl⟩
  have HW0 : Hid (((w.alloc (.cells #[.string nm1, .int .i64 ct1, .slice a1 L1.length k1] 32)).alloc (.cells #[.string nm2, .int .i64 ct2, .slice a2 L2.length k2] 32)).alloc (.cells #[.int .i64 0, .int .i64 0, .slice none 0 0, .slice none 0 0] 28) = W0) := hW0.symm
  have HX : Hid (∀ W, Below W0.heap.size W0 W → ((W.cell? ⟨w.heap.size, 0, none⟩ = some (.string nm1) ∧ W.cell? ⟨w.heap.size, 1, none⟩ = some (.int .i64 ct1) ∧ W.cell? ⟨w.heap.size, 2, none⟩ = some (.slice a1 L1.length k1)) ∧ (W.cell? ⟨w.heap.size + 1, 0, none⟩ = some (.string nm2) ∧ W.cell? ⟨w.heap.size + 1, 1, none⟩ = some (.int .i64 ct2) ∧ W.cell? ⟨w.heap.size + 1, 2, none⟩ = some (.slice a2 L2.length k2))) ∧ ((W.cell? ⟨w.heap.size + 1 + 1, 0, none⟩ = some (.int .i64 0) ∧ W.cell? ⟨w.heap.size + 1 + 1, 1, none⟩ = some (.int .i64 0) ∧ W.cell? ⟨w.heap.size + 1 + 1, 2, none⟩ = some (.slice none 0 0) ∧ W.cell? ⟨w.heap.size + 1 + 1, 3, none⟩ = some (.slice none 0 0)) ∧ (W.frozen? ⟨w.heap.size + 1 + 1, 0, none⟩ = false ∧ W.frozen? ⟨w.heap.size + 1 + 1, 1, none⟩ = false ∧ W.frozen? ⟨w.heap.size + 1 + 1, 2, none⟩ = false ∧ W.frozen? ⟨w.heap.size + 1 + 1, 3, none⟩ = false)) ∧ W.heap[w.heap.size + 1 + 1]? = some (.cells #[.int .i64 0, .int .i64 0, .slice none 0 0, .slice none 0 0] 28) ∧ Below w.heap.size w W ∧ w.heap.size + 1 + 1 < W.heap.size) := fun W hW => by
    rw [hW0] at hW
    obtain ⟨q1, q2, q3, q4, q5⟩ := heaps3 hW
    exact ⟨⟨(zon_cells q1).1, (zon_cells q2).1⟩, dif_cells q3, q3, q4, q5⟩
  have hb0 : Below W0.heap.size W0 W0 := Below.refl _ _
  have HTR : Hid (∀ W W', Below W0.heap.size W0 W → Below W.heap.size W W' → Below W0.heap.size W0 W') := fun W W' h1 h2 => h1.trans (h2.mono h1.size)
  obtain ⟨ok, hok⟩ : ∃ ok, ok = offB nm1.data.toList ct1 L1 nm2.data.toList ct2 L2 := ⟨_, rfl⟩
  have HOK : Hid (ok = offB nm1.data.toList ct1 L1 nm2.data.toList ct2 L2) := hok
  rw [← hok]
  clear hok hW0
  unfold ZonV at HG1 HG2 ⊢
  cases hz1 : zoneB nm1.data.toList ct1 L1 with
  | false =>
    have hF : ok = false := HOK.out.trans (off_one hz1)
    rw [hz1] at HG1
    subst hF
    clear HOK hz1
    go_enter Tryz.func5, Tryz.ntmps5
    go_wp2_with fail
    rw [HW0.out]
    obtain ⟨⟨⟨c0, c1, c2⟩, ⟨d0, d1, d2⟩⟩, ⟨⟨r0, r1, r2, r3⟩, ⟨f0, f1, f2, f3⟩⟩, HZ, hbw, hz⟩ := HX.out _ hb0
    refine (HG1.out _ hbw).mono ?_
    rintro e w1 ⟨rfl, hb1⟩
    have hb01 := HTR.out _ _ hb0 hb1
    clear c0 c1 c2 d0 d1 d2 r0 r1 r2 r3 f0 f1 f2 f3 HZ hbw hz
    obtain ⟨⟨⟨c0, c1, c2⟩, ⟨d0, d1, d2⟩⟩, ⟨⟨r0, r1, r2, r3⟩, ⟨f0, f1, f2, f3⟩⟩, HZ, hbw, hz⟩ := HX.out _ hb01
    go_wp2_with fail
    (try simp only [Exit.inBlock, Exit.then])
    refine bodyPost_ret (results_row_tmp rfl _ _ (w.heap.size + 1 + 1) 28 #[.int .i64 0, .int .i64 0, .slice none 0 0, .slice none 0 0] (0, 0) _ (.bool false) rfl rfl ?_ Tryz.underlying28 rfl (by kernel_rfl)) rfl ⟨by first | exact dres_no _ | exact ⟨fun _ => dres_no _, fun h => (by cases h)⟩, ?_⟩
    · exact put4v_heap HZ
    · exact put4v_below hbw (by omega) _ _ _ _
  | true =>
  rw [hz1] at HG1
  cases hz2 : zoneB nm2.data.toList ct2 L2 with
  | false =>
    have hF : ok = false := HOK.out.trans (off_two hz2)
    rw [hz2] at HG2
    subst hF
    clear HOK hz1 hz2
    go_enter Tryz.func5, Tryz.ntmps5
    go_wp2_with fail
    rw [HW0.out]
    obtain ⟨⟨⟨c0, c1, c2⟩, ⟨d0, d1, d2⟩⟩, ⟨⟨r0, r1, r2, r3⟩, ⟨f0, f1, f2, f3⟩⟩, HZ, hbw, hz⟩ := HX.out _ hb0
    refine (HG1.out _ hbw).mono ?_
    rintro e w1 ⟨rfl, hb1⟩
    have hb01 := HTR.out _ _ hb0 hb1
    clear c0 c1 c2 d0 d1 d2 r0 r1 r2 r3 f0 f1 f2 f3 HZ hbw hz
    obtain ⟨⟨⟨c0, c1, c2⟩, ⟨d0, d1, d2⟩⟩, ⟨⟨r0, r1, r2, r3⟩, ⟨f0, f1, f2, f3⟩⟩, HZ, hbw, hz⟩ := HX.out _ hb01
    go_wp2_with fail
    refine (HG2.out _ hbw).mono ?_
    rintro e w2 ⟨rfl, hb2⟩
    have hb02 := HTR.out _ _ hb01 hb2
    clear c0 c1 c2 d0 d1 d2 r0 r1 r2 r3 f0 f1 f2 f3 HZ hbw hz
    obtain ⟨⟨⟨c0, c1, c2⟩, ⟨d0, d1, d2⟩⟩, ⟨⟨r0, r1, r2, r3⟩, ⟨f0, f1, f2, f3⟩⟩, HZ, hbw, hz⟩ := HX.out _ hb02
    go_wp2_with fail
    (try simp only [Exit.inBlock, Exit.then])
    refine bodyPost_ret (results_row_tmp rfl _ _ (w.heap.size + 1 + 1) 28 #[.int .i64 0, .int .i64 0, .slice none 0 0, .slice none 0 0] (0, 0) _ (.bool false) rfl rfl ?_ Tryz.underlying28 rfl (by kernel_rfl)) rfl ⟨by first | exact dres_no _ | exact ⟨fun _ => dres_no _, fun h => (by cases h)⟩, ?_⟩
    · exact put4v_heap HZ
    · exact put4v_below hbw (by omega) _ _ _ _
  | true =>
  rw [hz2] at HG2
  by_cases hap : ¬ nm1 = nm2
  · have hF : ok = false := HOK.out.trans (off_apex (fun h => hap (Go.WideShapes.bytes_inj h)))
    have e1 : (nm1.toList == nm2.toList) = false := by
      rw [beq_eq_false_iff_ne]
      exact fun h => hap (Go.WideShapes.bytes_inj (by rw [← ByteArray.toList_eq, ← ByteArray.toList_eq]; exact h))
    subst hF
    clear HOK hz1 hz2 hap
    go_enter Tryz.func5, Tryz.ntmps5
    go_wp2_with fail
    rw [HW0.out]
    obtain ⟨⟨⟨c0, c1, c2⟩, ⟨d0, d1, d2⟩⟩, ⟨⟨r0, r1, r2, r3⟩, ⟨f0, f1, f2, f3⟩⟩, HZ, hbw, hz⟩ := HX.out _ hb0
    refine (HG1.out _ hbw).mono ?_
    rintro e w1 ⟨rfl, hb1⟩
    have hb01 := HTR.out _ _ hb0 hb1
    clear c0 c1 c2 d0 d1 d2 r0 r1 r2 r3 f0 f1 f2 f3 HZ hbw hz
    obtain ⟨⟨⟨c0, c1, c2⟩, ⟨d0, d1, d2⟩⟩, ⟨⟨r0, r1, r2, r3⟩, ⟨f0, f1, f2, f3⟩⟩, HZ, hbw, hz⟩ := HX.out _ hb01
    go_wp2_with fail
    refine (HG2.out _ hbw).mono ?_
    rintro e w2 ⟨rfl, hb2⟩
    have hb02 := HTR.out _ _ hb01 hb2
    clear c0 c1 c2 d0 d1 d2 r0 r1 r2 r3 f0 f1 f2 f3 HZ hbw hz
    obtain ⟨⟨⟨c0, c1, c2⟩, ⟨d0, d1, d2⟩⟩, ⟨⟨r0, r1, r2, r3⟩, ⟨f0, f1, f2, f3⟩⟩, HZ, hbw, hz⟩ := HX.out _ hb02
    go_wp2_with fail
    (try simp only [Exit.inBlock, Exit.then])
    refine bodyPost_ret (results_row_tmp rfl _ _ (w.heap.size + 1 + 1) 28 #[.int .i64 0, .int .i64 0, .slice none 0 0, .slice none 0 0] (0, 0) _ (.bool false) rfl rfl ?_ Tryz.underlying28 rfl (by kernel_rfl)) rfl ⟨by first | exact dres_no _ | exact ⟨fun _ => dres_no _, fun h => (by cases h)⟩, ?_⟩
    · exact put4v_heap HZ
    · exact put4v_below hbw (by omega) _ _ _ _
  replace hap := Classical.not_not.1 hap
  by_cases hct : ct1 = ct2
  · have hF : ok = false := HOK.out.trans (off_ct hct)
    subst hF
    subst hap
    subst hct
    clear HOK hz1 hz2
    go_enter Tryz.func5, Tryz.ntmps5
    go_wp2_with fail
    rw [HW0.out]
    obtain ⟨⟨⟨c0, c1, c2⟩, ⟨d0, d1, d2⟩⟩, ⟨⟨r0, r1, r2, r3⟩, ⟨f0, f1, f2, f3⟩⟩, HZ, hbw, hz⟩ := HX.out _ hb0
    refine (HG1.out _ hbw).mono ?_
    rintro e w1 ⟨rfl, hb1⟩
    have hb01 := HTR.out _ _ hb0 hb1
    clear c0 c1 c2 d0 d1 d2 r0 r1 r2 r3 f0 f1 f2 f3 HZ hbw hz
    obtain ⟨⟨⟨c0, c1, c2⟩, ⟨d0, d1, d2⟩⟩, ⟨⟨r0, r1, r2, r3⟩, ⟨f0, f1, f2, f3⟩⟩, HZ, hbw, hz⟩ := HX.out _ hb01
    go_wp2_with fail
    refine (HG2.out _ hbw).mono ?_
    rintro e w2 ⟨rfl, hb2⟩
    have hb02 := HTR.out _ _ hb01 hb2
    clear c0 c1 c2 d0 d1 d2 r0 r1 r2 r3 f0 f1 f2 f3 HZ hbw hz
    obtain ⟨⟨⟨c0, c1, c2⟩, ⟨d0, d1, d2⟩⟩, ⟨⟨r0, r1, r2, r3⟩, ⟨f0, f1, f2, f3⟩⟩, HZ, hbw, hz⟩ := HX.out _ hb02
    go_wp2_with fail
    (try simp only [Exit.inBlock, Exit.then])
    refine bodyPost_ret (results_row_tmp rfl _ _ (w.heap.size + 1 + 1) 28 #[.int .i64 0, .int .i64 0, .slice none 0 0, .slice none 0 0] (0, 0) _ (.bool false) rfl rfl ?_ Tryz.underlying28 rfl (by kernel_rfl)) rfl ⟨by first | exact dres_no _ | exact ⟨fun _ => dres_no _, fun h => (by cases h)⟩, ?_⟩
    · exact put4v_heap HZ
    · exact put4v_below hbw (by omega) _ _ _ _
  have e1 : (ct1 == ct2) = false := by simpa using hct
  have hF : ok = true := HOK.out.trans (off_ok hz1 hz2 (by rw [hap]) hct)
  subst hF
  subst hap
  clear HOK hz1 hz2
  go_enter Tryz.func5, Tryz.ntmps5
  go_wp2_with fail
  rw [HW0.out]
  obtain ⟨⟨⟨c0, c1, c2⟩, ⟨d0, d1, d2⟩⟩, ⟨⟨r0, r1, r2, r3⟩, ⟨f0, f1, f2, f3⟩⟩, HZ, hbw, hz⟩ := HX.out _ hb0
  refine (HG1.out _ hbw).mono ?_
  rintro e w1 ⟨rfl, hb1⟩
  have hb01 := HTR.out _ _ hb0 hb1
  clear c0 c1 c2 d0 d1 d2 r0 r1 r2 r3 f0 f1 f2 f3 HZ hbw hz
  obtain ⟨⟨⟨c0, c1, c2⟩, ⟨d0, d1, d2⟩⟩, ⟨⟨r0, r1, r2, r3⟩, ⟨f0, f1, f2, f3⟩⟩, HZ, hbw, hz⟩ := HX.out _ hb01
  go_wp2_with fail
  refine (HG2.out _ hbw).mono ?_
  rintro e w2 ⟨rfl, hb2⟩
  have hb02 := HTR.out _ _ hb01 hb2
  clear c0 c1 c2 d0 d1 d2 r0 r1 r2 r3 f0 f1 f2 f3 HZ hbw hz
  obtain ⟨⟨⟨c0, c1, c2⟩, ⟨d0, d1, d2⟩⟩, ⟨⟨r0, r1, r2, r3⟩, ⟨f0, f1, f2, f3⟩⟩, HZ, hbw, hz⟩ := HX.out _ hb02
  go_wp2_with fail
  have hbd : Below W0.heap.size W0 w2.drew := hb02.drew
  have HS1 : Hid (∀ W, Below W0.heap.size W0 W → (fun W : World => W.heap[w.heap.size]? = some (.cells #[.string nm1, .int .i64 ct1, .slice a1 L1.length k1] 32) ∧ W.heap[w.heap.size + 1]? = some (.cells #[.string nm1, .int .i64 ct2, .slice a2 L2.length k2] 32) ∧ (∃ u0 u1 u2 u3, W.heap[w.heap.size + 1 + 1]? = some (.cells #[u0, u1, u2, u3] 28)) ∧ Below w.heap.size w W ∧ w.heap.size + 1 + 1 < W.heap.size) W) := fun W hW => by
    rw [← HW0.out] at hW
    obtain ⟨q1, q2, q3, q4, q5⟩ := heaps3 hW
    exact ⟨q1, q2, ⟨_, _, _, _, q3⟩, q4, q5⟩
  have hS1 := HS1.out _ hbd
  have HSK : Hid (∀ W W', (fun W : World => W.heap[w.heap.size]? = some (.cells #[.string nm1, .int .i64 ct1, .slice a1 L1.length k1] 32) ∧ W.heap[w.heap.size + 1]? = some (.cells #[.string nm1, .int .i64 ct2, .slice a2 L2.length k2] 32) ∧ (∃ u0 u1 u2 u3, W.heap[w.heap.size + 1 + 1]? = some (.cells #[u0, u1, u2, u3] 28)) ∧ Below w.heap.size w W ∧ w.heap.size + 1 + 1 < W.heap.size) W → Below W.heap.size W W' → (fun W : World => W.heap[w.heap.size]? = some (.cells #[.string nm1, .int .i64 ct1, .slice a1 L1.length k1] 32) ∧ W.heap[w.heap.size + 1]? = some (.cells #[.string nm1, .int .i64 ct2, .slice a2 L2.length k2] 32) ∧ (∃ u0 u1 u2 u3, W.heap[w.heap.size + 1 + 1]? = some (.cells #[u0, u1, u2, u3] 28)) ∧ Below w.heap.size w W ∧ w.heap.size + 1 + 1 < W.heap.size) W') := fun W W' h hb => by
    obtain ⟨s1, s2, ⟨u0, u1, u2, u3, s3⟩, s4, s5⟩ := h
    exact ⟨(hb.block _ (by omega)).trans s1, (hb.block _ (by omega)).trans s2, ⟨u0, u1, u2, u3, (hb.block _ (by omega)).trans s3⟩, s4.trans (hb.mono s4.size), Nat.lt_of_lt_of_le s5 hb.size⟩
  clear c0 c1 c2 d0 d1 d2 r0 r1 r2 r3 f0 f1 f2 f3 HZ HG1 HG2 HS1
  refine wp_region_held_drew (S := (fun W : World => W.heap[w.heap.size]? = some (.cells #[.string nm1, .int .i64 ct1, .slice a1 L1.length k1] 32) ∧ W.heap[w.heap.size + 1]? = some (.cells #[.string nm1, .int .i64 ct2, .slice a2 L2.length k2] 32) ∧ (∃ u0 u1 u2 u3, W.heap[w.heap.size + 1 + 1]? = some (.cells #[u0, u1, u2, u3] 28)) ∧ Below w.heap.size w W ∧ w.heap.size + 1 + 1 < W.heap.size)) (by kernel_rfl) hS1 (fun hHeld => ?_)
  refine wpAnyH_take (i := 0) (v := .pointer (some ⟨w.heap.size, 1, none⟩)) rfl (by kernel_rfl) (by kernel_rfl) (by kernel_rfl) (fun _ _ _ h => h) (Or.inl ⟨by rfl, ?_⟩) (by assumption) ?_
  · intro W hSW
    go_simp
  simp only [Act.put, List.setIfInBounds_toArray]
  refine wpAnyH_take (i := 1) (v := .int .i64 ct1) rfl (by kernel_rfl) (by kernel_rfl) (by kernel_rfl) (fun _ _ _ h => h) (Or.inl ⟨by rfl, ?_⟩) (by assumption) ?_
  · intro W hSW
    obtain ⟨⟨q0, q1, q2⟩, _⟩ := zon_cells hSW.1
    go_simp
  simp only [Act.put]
  refine wpAnyH_take (i := 2) (v := .pointer (some ⟨w.heap.size + 1, 1, none⟩)) rfl (by kernel_rfl) (by kernel_rfl) (by kernel_rfl) (fun _ _ _ h => h) (Or.inl ⟨by rfl, ?_⟩) (by assumption) ?_
  · intro W hSW
    go_simp
  simp only [Act.put]
  refine wpAnyH_take (i := 3) (v := .int .i64 ct2) rfl (by kernel_rfl) (by kernel_rfl) (by kernel_rfl) (fun _ _ _ h => h) (Or.inl ⟨by rfl, ?_⟩) (by assumption) ?_
  · intro W hSW
    obtain ⟨⟨q0, q1, q2⟩, _⟩ := zon_cells hSW.2.1
    go_simp
  simp only [Act.put]
  refine wpAnyH_take (i := 4) (v := .pointer (some ⟨w.heap.size, 2, none⟩)) rfl (by kernel_rfl) (by kernel_rfl) (by kernel_rfl) (fun _ _ _ h => h) (Or.inl ⟨by rfl, ?_⟩) (by assumption) ?_
  · intro W hSW
    go_simp
  simp only [Act.put]
  refine wpAnyH_take (i := 5) (v := .slice a1 L1.length k1) rfl (by kernel_rfl) (by kernel_rfl) (by kernel_rfl) (fun _ _ _ h => h) (Or.inl ⟨by rfl, ?_⟩) (by assumption) ?_
  · intro W hSW
    obtain ⟨⟨q0, q1, q2⟩, _⟩ := zon_cells hSW.1
    go_simp
  simp only [Act.put]
  refine wpAnyH_take (i := 6) (v := .pointer (some ⟨w.heap.size + 1, 2, none⟩)) rfl (by kernel_rfl) (by kernel_rfl) (by kernel_rfl) (fun _ _ _ h => h) (Or.inl ⟨by rfl, ?_⟩) (by assumption) ?_
  · intro W hSW
    go_simp
  simp only [Act.put]
  refine wpAnyH_take (i := 7) (v := .slice a2 L2.length k2) rfl (by kernel_rfl) (by kernel_rfl) (by kernel_rfl) (fun _ _ _ h => h) (Or.inl ⟨by rfl, ?_⟩) (by assumption) ?_
  · intro W hSW
    obtain ⟨⟨q0, q1, q2⟩, _⟩ := zon_cells hSW.2.1
    go_simp
  simp only [Act.put]
  refine wpAnyH_take (i := 9) (v := .pointer (some ⟨w.heap.size + 1, 2, none⟩)) rfl (by kernel_rfl) (by kernel_rfl) (by kernel_rfl) (fun _ _ _ h => h) (Or.inl ⟨by rfl, ?_⟩) (by assumption) ?_
  · intro W hSW
    go_simp
  simp only [Act.put]
  refine wpAnyH_take (i := 10) (v := .slice a2 L2.length k2) rfl (by kernel_rfl) (by kernel_rfl) (by kernel_rfl) (fun _ _ _ h => h) (Or.inl ⟨by rfl, ?_⟩) (by assumption) ?_
  · intro W hSW
    obtain ⟨⟨q0, q1, q2⟩, _⟩ := zon_cells hSW.2.1
    go_simp
  simp only [Act.put]
  refine wpAnyH_take (i := 11) (v := .pointer (some ⟨w.heap.size, 2, none⟩)) rfl (by kernel_rfl) (by kernel_rfl) (by kernel_rfl) (fun _ _ _ h => h) (Or.inl ⟨by rfl, ?_⟩) (by assumption) ?_
  · intro W hSW
    go_simp
  simp only [Act.put]
  refine wpAnyH_take (i := 12) (v := .slice a1 L1.length k1) rfl (by kernel_rfl) (by kernel_rfl) (by kernel_rfl) (fun _ _ _ h => h) (Or.inl ⟨by rfl, ?_⟩) (by assumption) ?_
  · intro W hSW
    obtain ⟨⟨q0, q1, q2⟩, _⟩ := zon_cells hSW.1
    go_simp
  simp only [Act.put]
  refine wpAnyH_ready (rs := [8]) (by kernel_rfl) (by simp) ?_
  refine AllReadyH.cons rfl (fun K hK => ?_) AllReadyH.nil
  rw [if_pos (by rfl)]
  go_simp
  refine (HR12.out _ hS1.2.2.2.1).mono ?_
  rintro e w5 ⟨⟨u1, rfl, ho1⟩, hb5⟩
  obtain ⟨b1, m1, hu1, hm1⟩ := ho1.shape
  subst hu1
  go_simp
  have hS5 := HSK.out _ _ hS1 hb5
  refine hK.out _ _ hS5 (fun hSS => ?_)
  clear hK
  refine wpAnyH_ready (rs := [13]) (by kernel_rfl) (by simp) ?_
  refine AllReadyH.cons rfl (fun K hK => ?_) AllReadyH.nil
  rw [if_pos (by rfl)]
  go_simp
  refine (HR21.out _ hS5.2.2.2.1).mono ?_
  rintro e w6 ⟨⟨u2, rfl, ho2⟩, hb6⟩
  obtain ⟨b2, m2, hu2, hm2⟩ := ho2.shape
  subst hu2
  go_simp
  have hS6 := HSK.out _ _ hS5 hb6
  refine hK.out _ _ hS6 (fun hSS => ?_)
  clear hK
  refine wpAnyH_take (i := 14) (v := .agg #[.int .i64 ct1, .int .i64 ct2, .slice b1 (wthR L1 L2).length m1, .slice b2 (wthR L2 L1).length m2]) rfl (by kernel_rfl) (by kernel_rfl) (by kernel_rfl) (fun _ _ _ h => h) (Or.inl ⟨by rfl, ?_⟩) (by assumption) ?_
  · intro W hSW
    go_simp
  simp only [Act.put]
  refine wpAnyH_ready (rs := [15]) (by kernel_rfl) (by simp) ?_
  refine AllReadyH.cons rfl (fun K hK => ?_) AllReadyH.nil
  rw [if_pos (by rfl)]
  obtain ⟨s1, s2, ⟨x0, x1, x2, x3, s3⟩, s4, s5⟩ := id hS6
  obtain ⟨⟨r0, r1, r2, r3⟩, ⟨f0, f1, f2, f3⟩⟩ := dif_cells s3
  have hO1 : OwnQ w6 (w.heap.size + 1 + 1 + 1) (.slice b1 (wthR L1 L2).length m1) (wthR L1 L2) := (ho1.kept hb6).base (by have h := hS1.2.2.2.2; simp at h ⊢; omega)
  have hO2 : OwnQ w6 (w.heap.size + 1 + 1 + 1) (.slice b2 (wthR L2 L1).length m2) (wthR L2 L1) := ho2.base (by have h := hS5.2.2.2.2; omega)
  have hg4 := put4v_heap (v0 := .int .i64 ct1) (v1 := .int .i64 ct2) (v2 := .slice b1 (wthR L1 L2).length m1) (v3 := .slice b2 (wthR L2 L1).length m2) s3
  have hgb := put4v_below s4 (g := w.heap.size + 1 + 1) (by omega) (.int .i64 ct1) (.int .i64 ct2) (.slice b1 (wthR L1 L2).length m1) (.slice b2 (wthR L2 L1).length m2)
  have hgk := kpt_put4v w6 (w.heap.size + 1 + 1) (.int .i64 ct1) (.int .i64 ct2) (.slice b1 (wthR L1 L2).length m1) (.slice b2 (wthR L2 L1).length m2) (S := fun k => k = w.heap.size + 1 + 1) rfl
  have hR1 := (hO1.kpt hgk (fun g hg h => by have h1 := hO1.lt g hg; omega)).row
  have hR2 := (hO2.kpt hgk (fun g hg h => by have h1 := hO2.lt g hg; omega)).row
  have hs1' := (hgk.block w.heap.size (by omega) (fun h => by omega)).trans s1
  have hs2' := (hgk.block (w.heap.size + 1) (by omega) (fun h => by omega)).trans s2
  have hs5' : w.heap.size + 1 + 1 < (put4v w6 (w.heap.size + 1 + 1) (.int .i64 ct1) (.int .i64 ct2) (.slice b1 (wthR L1 L2).length m1) (.slice b2 (wthR L2 L1).length m2)).heap.size := Nat.lt_of_lt_of_le s5 hgk.size
  go_simp
  unfold put4v at hg4 hgb hR1 hR2 hs1' hs2' hs5'
  refine hK.out _ _ ⟨hs1', hs2', ⟨_, _, _, _, hg4⟩, hgb, hs5'⟩ (fun hS7 => ?_)
  clear hK
  refine wpAnyH_take (i := 16) (v := .bool true) rfl (by kernel_rfl) (by kernel_rfl) (by kernel_rfl) (fun _ _ _ h => h) (Or.inl ⟨by rfl, ?_⟩) (by assumption) ?_
  · intro W hSW
    go_simp
  simp only [Act.put]
  refine wpAnyH_done (by kernel_rfl) ?_ _
  go_wp2_with fail
  (try simp only [Exit.inBlock, Exit.then])
  exact bodyPost_ret (results_row_tmp rfl _ _ (w.heap.size + 1 + 1) 28 #[.int .i64 ct1, .int .i64 ct2, .slice b1 (wthR L1 L2).length m1, .slice b2 (wthR L2 L1).length m2] (0, 0) _ (.bool true) rfl rfl hg4 Tryz.underlying28 rfl (by kernel_rfl)) rfl ⟨by first | exact ⟨_, _, rfl, hR1, hR2⟩ | exact ⟨fun h => (by cases h), fun _ => ⟨_, _, rfl, hR1, hR2⟩⟩, hgb⟩
end Go.Proofs.YtbcgalhegkhmbaaGreatDoor
