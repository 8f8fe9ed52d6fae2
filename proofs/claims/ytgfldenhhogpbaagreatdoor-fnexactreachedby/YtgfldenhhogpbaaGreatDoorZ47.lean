import Derived.Test.YtgfldenhhogpbaaGreatDoorZ40
import Derived.Test.YtgfldenhhogpbaaGreatDoorZ46
namespace Go.Proofs.YtgfldenhhogpbaaGreatDoor
open Go.RowKit

set_option maxRecDepth 20000 in
set_option maxHeartbeats 8000000 in
theorem sGoodWorld_any (v : Value) (L : List ZonT) (w : World) (hr : ZnRow w v L) (hx : Hid (∀ x ∈ L, ZBig x)) :
    Calls Tryz.prog 9 #[WldV v] w fun e w' => e = .returned (.bool (worldB L)) ∧ Below w.heap.size w w' := by
  unfold WldV
  obtain ⟨a, cap, rfl, hcap, hmax, HROW⟩ := znrow_value hr
  clear hr
  obtain ⟨r, hrr⟩ : ∃ r, r = worldB L := ⟨_, rfl⟩
  have HRR : Hid (r = worldB L) := hrr
  rw [← hrr]
  clear hrr
  obtain ⟨WB, hWB⟩ : ∃ W, W = w.alloc (.cells #[.slice a L.length cap] 29) := ⟨_, rfl⟩
  have HWB : Hid (w.alloc (.cells #[.slice a L.length cap] 29) = WB) := hWB.symm
  have HCB : Hid (∀ W, Below WB.heap.size WB W → W.cell? ⟨w.heap.size, 0, none⟩ = some (.slice a L.length cap) ∧ Below w.heap.size w W) := fun W hW => by rw [hWB] at hW; exact box1w hW
  have HIN : Hid (∀ W, Calls Tryz.prog 31 #[.int .i64 (L.length : Int), .int .i64 1, .int .i64 6] W fun e w' => e = .returned (.bool (decide ((1 : Int) ≤ (L.length : Int)) && decide ((L.length : Int) ≤ 6))) ∧ w' = W) := fun W => l1In_any (L.length : Int) 1 6 W
  clear hWB
  by_cases gl : 1 ≤ L.length ∧ L.length ≤ 6
  case neg =>
    have HF : Hid (r = false) := HRR.out.trans (worldB_len gl)
    have e0 : (decide ((1 : Int) ≤ (L.length : Int)) && decide ((L.length : Int) ≤ 6)) = false := by simp; omega
    rw [e0] at HIN
    clear gl e0
    go_enter Tryz.func9, Tryz.ntmps9
    go_wp2_with fail
    rw [HWB.out]
    refine (HIN.out _).mono ?_
    rintro e w1 ⟨rfl, rfl⟩
    have hbw := (HCB.out _ (Below.refl _ _)).2
    go_wp2_with fail
    go_ret
    exact ⟨ret_bool HF.out.symm, hbw⟩
  have e0 : (decide ((1 : Int) ≤ (L.length : Int)) && decide ((L.length : Int) ≤ 6)) = true := by simp; omega
  rw [e0] at HIN
  clear e0
  have hpos : 0 < L.length := by omega
  obtain ⟨b, o, ha, hbl, hcel⟩ := HROW.out hpos
  subst ha
  have hLn : ¬ L = [] := fun e => by rw [e] at hpos; simp at hpos
  have hposi : (0 : Int) < (L.length : Int) := by omega
  obtain ⟨v0, h00⟩ := hcel 0 hpos
  rw [Nat.zero_mul, Nat.add_zero] at h00
  have H00 : Hid (∀ W, Below w.heap.size w W → W.cell? ⟨b, o, none⟩ = some (.string ⟨(L[0]'hpos).1.toArray⟩)) := fun W hW => (h00.kept hW).1
  have HBADR : Hid (¬ (L[0]'hpos).1 = [] → r = false) := fun h => HRR.out.trans (worldB_root hpos h)
  have HALL : Hid ((L[0]'hpos).1 = [] → (∀ j, j < L.length → stepZ L j = true) → r = true) := fun h1 h => HRR.out.trans (worldB_all gl h1 h)
  have HBADA : Hid (∀ k, k < L.length → stepZ L k = false → r = false) := fun k hk h => HRR.out.trans (worldB_bad k hk h)
  obtain ⟨s0, hs0⟩ : ∃ s0, s0 = (L[0]'hpos).1 := ⟨_, rfl⟩
  rw [← hs0] at H00 HBADR HALL
  have hWBw := (HCB.out _ (Below.refl _ _)).2
  have HBB : Hid (Below w.heap.size w WB) := hWBw
  clear h00 hs0 HRR hWBw
  by_cases gr : s0 = []
  case neg =>
    have HF : Hid (r = false) := HBADR.out gr
    have er : (s0 == []) = false := by simpa using gr
    have er' : (s0 != []) = true := by simpa using gr
    clear HBADR HALL HBADA gr hcel
    go_enter Tryz.func9, Tryz.ntmps9
    go_wp2_with fail
    rw [HWB.out]
    refine (HIN.out _).mono ?_
    rintro e w1 ⟨rfl, hw1⟩
    rw [hw1]
    clear hw1
    obtain ⟨k0, hbw⟩ := HCB.out _ (Below.refl _ _)
    have c00 := H00.out WB HBB.out
    go_wp2_with fail
    go_ret
    exact ⟨ret_bool HF.out.symm, hbw⟩
  have er : (s0 == []) = true := by simpa using gr
  have er' : (s0 != []) = false := by simpa using gr
  have HALL2 : Hid ((∀ j, j < L.length → stepZ L j = true) → r = true) := HALL.out gr
  clear HALL HBADR
  subst gr
  go_enter Tryz.func9, Tryz.ntmps9
  go_wp2_with fail
  rw [HWB.out]
  refine (HIN.out _).mono ?_
  rintro e w1 ⟨rfl, hw1⟩
  rw [hw1]
  clear hw1
  obtain ⟨k0, hbw⟩ := HCB.out _ (Below.refl _ _)
  have c00 := H00.out WB HBB.out
  go_wp2_with fail
  clear k0 hbw HIN
  clear c00 H00 er er' HBB
  go_loopw [21] (fun i wr => ∃ k : Nat, k ≤ L.length ∧ i = .int .i64 (k : Int) ∧ Hid (∀ j, j < k → stepZ L j = true) ∧ Below WB.heap.size WB wr) (fun i _ => L.length - (intOf i).toNat)
  case atStart => exact ⟨0, Nat.zero_le _, rfl, fun j h => absurd h (Nat.not_lt_zero _), Below.refl _ _⟩
  case round =>
    obtain ⟨k, hk, rfl, HA, hbB⟩ := hrel
    have hb : Below w.heap.size w wr := (HCB.out wr hbB).2
    by_cases hlt : k < L.length
    · obtain ⟨va, hcx0⟩ := hcel k hlt
      have hcx := hcx0.kept hb
      have hxl := hx.out _ (List.getElem_mem hlt)
      have HG : Hid (stepZ L k = (zoneB (L[k]'hlt).1 (L[k]'hlt).2.1 (L[k]'hlt).2.2 && (k == 0 || decide (cmpN (zO L (k - 1)).1 (L[k]'hlt).1 < 0)))) := stepZ_at hlt
      have HBAD : Hid (stepZ L k = false → r = false) := HBADA.out k hlt
      have HUPA : Hid (stepZ L k = true → ∀ j, j < k + 1 → stepZ L j = true) := fun h => upZ_all HA.out h
      have HPREV : Hid (∀ j, (hj : k = j + 1) → ∃ y vb, zO L (k - 1) = y ∧ nameB y.1 = true ∧ y.1.length ≤ 1048576 ∧ (∃ a n c, vb = .slice a n c) ∧ ∀ W, Below w.heap.size w W → ZonAt W b (o + j * 3) y vb) := fun j hj => by
        obtain ⟨vb, h⟩ := hcel j (by omega)
        have h1 := HA.out j (by omega)
        rw [stepZ_at (show j < L.length by omega)] at h1
        simp only [Bool.and_eq_true] at h1
        obtain ⟨a1, c1, e1, _⟩ := id h.2.2.2
        exact ⟨_, vb, by rw [show k - 1 = j by omega, zO_at (show j < L.length by omega)], zone_name h1.1, (hx.out _ (List.getElem_mem (by omega))).1, ⟨a1, _, c1, e1⟩, fun W hW => h.kept hW⟩
      obtain ⟨x, hxe⟩ : ∃ x, x = L[k]'hlt := ⟨_, rfl⟩
      rw [← hxe] at HG hcx hxl
      clear hxe hcx0 hcel HBADA
      obtain ⟨nm, ct, R⟩ := x
      simp only at HG
      have hz : RRow wr va R := hcx.2.2.2
      unfold ZonAt at hcx
      obtain ⟨c0, c1, c2, _⟩ := hcx
      obtain ⟨aa, ca, rfl, hca1, hca, _⟩ := id hz
      obtain ⟨W0, hW0⟩ : ∃ W0, W0 = wr.alloc (.cells #[.string ⟨nm.toArray⟩, .int .i64 ct, .slice aa R.length ca] 52) := ⟨_, rfl⟩
      have HW0 : Hid (wr.alloc (.cells #[.string ⟨nm.toArray⟩, .int .i64 ct, .slice aa R.length ca] 52) = W0) := hW0.symm
      obtain ⟨gx, hgx⟩ : ∃ gx, gx = wr.heap.size := ⟨_, rfl⟩
      have HGX : Hid (wr.heap.size = gx) := hgx.symm
      have HTR : Hid (∀ W W', Below W0.heap.size W0 W → Below W.heap.size W W' → Below W0.heap.size W0 W') := fun W W' h1 h2 => h1.trans (h2.mono h1.size)
      have HX : Hid (∀ W, Below W0.heap.size W0 W → (W.cell? ⟨gx, 0, none⟩ = some (.string ⟨nm.toArray⟩) ∧ W.cell? ⟨gx, 1, none⟩ = some (.int .i64 ct) ∧ W.cell? ⟨gx, 2, none⟩ = some (.slice aa R.length ca)) ∧ Below wr.heap.size wr W) := fun W hW => by
        rw [hW0] at hW
        obtain ⟨u0, u1, u2, u3⟩ := box3c hW
        rw [hgx]
        exact ⟨⟨u0, u1, u2⟩, u3⟩
      have HIB : Hid (∀ W, Below W0.heap.size W0 W → Below WB.heap.size WB W) := fun W hW => hbB.trans ((HX.out W hW).2.mono hbB.size)
      have HBW : Hid (∀ W, Below W0.heap.size W0 W → Below w.heap.size w W) := fun W hW => (HCB.out W (HIB.out W hW)).2
      have HBR0 : Hid (∀ W, Below W0.heap.size W0 W → Below wr.heap.size wr W) := fun W hW => (HX.out W hW).2
      have HCX : Hid (∀ W, Below W0.heap.size W0 W → W.cell? ⟨w.heap.size, 0, none⟩ = some (.slice (some ⟨b, o, none⟩) L.length cap)) := fun W hW => (HCB.out W (HIB.out W hW)).1
      have HXL : Hid (nm.length ≤ 1048576) := hxl.1
      have HGZ : Hid (∀ W, Below W0.heap.size W0 W → Calls Tryz.prog 32 #[.agg #[.string ⟨nm.toArray⟩, .int .i64 ct, .slice aa R.length ca]] W fun e w' => e = .returned (.bool (zoneB nm ct R)) ∧ Below W.heap.size W w') := fun W hW => sGoodZone_any ⟨nm.toArray⟩ ct _ R W (hz.kept (HBR0.out W hW)) (by rw [size_list]; exact HXL.out) hxl.2.1 hxl.2.2
      have hbd : Below W0.heap.size W0 W0.drew := (Below.refl _ _).drew
      have hlk : (k : Int) < (L.length : Int) := by omega
      clear hW0 hgx hz hxl
      cases h1 : zoneB nm ct R with
      | false =>
        have HF : Hid (r = false) := HBAD.out (HG.out.trans (by rw [h1]; simp))
        rw [h1] at HGZ
        clear HBAD HG h1 HUPA HPREV
        obtain ⟨u29, hu29⟩ : ∃ u : Bool, u = true := ⟨_, rfl⟩
        have HU29 : Hid (u29 = true) := hu29
        clear hu29
        go_wp2_with fail
        rw [HW0.out, HGX.out]
        refine wp_region_quiet (C := fun W => Below W0.heap.size W0 W) (by kernel_rfl) (by kernel_rfl) hbd ?_
        refine wpQuiet_step (fun K hK => ?_)
        rw [if_pos (by rfl)]
        refine ⟨.agg #[.string ⟨nm.toArray⟩, .int .i64 ct, .slice aa R.length ca], fun W hW => quiet_ok ?_, hK _ ?_⟩
        · have q := HX.out W hW
          obtain ⟨⟨m0, m1, m2⟩, _⟩ := q
          have k0 := HCX.out W hW
          go_simp
          all_goals (try omega)
        clear hK K
        simp only [Act.put, List.setIfInBounds_toArray, List.set_cons_succ, List.set_cons_zero]
        refine wpQuiet_step (fun K hK => ?_)
        rw [if_pos (by rfl)]
        refine ⟨.bool false, fun W hW => quiet_call (f := 32) (args := #[.agg #[.string ⟨nm.toArray⟩, .int .i64 ct, .slice aa R.length ca]]) ?_ ?_, hK _ ?_⟩
        · go_simp
        · exact (HGZ.out W hW).mono fun e w'' h => ⟨h.1, HTR.out _ _ hW h.2⟩
        clear hK K
        simp only [Act.put, List.setIfInBounds_toArray, List.set_cons_succ, List.set_cons_zero]
        refine wpQuiet_step (fun K hK => ?_)
        rw [if_pos (by rfl)]
        refine ⟨.bool true, fun W hW => quiet_ok ?_, hK _ ?_⟩
        · have q := HX.out W hW
          obtain ⟨⟨m0, m1, m2⟩, _⟩ := q
          have k0 := HCX.out W hW
          go_simp
          all_goals (try omega)
        clear hK K
        simp only [Act.put, List.setIfInBounds_toArray, List.set_cons_succ, List.set_cons_zero]
        refine wpQuiet_step (fun K hK => ?_)
        rw [if_pos (by rfl)]
        refine ⟨.bool u29, fun W hW => quiet_ok ?_, hK _ ?_⟩
        · have q := HX.out W hW
          obtain ⟨⟨m0, m1, m2⟩, _⟩ := q
          have k0 := HCX.out W hW
          have v29 := HU29.out
          go_simp
          all_goals (try omega)
        clear hK K
        simp only [Act.put, List.setIfInBounds_toArray, List.set_cons_succ, List.set_cons_zero]
        refine BigFrame.wpQuiet_skip (by show (some u29 == some false) = false; rw [HU29.out]; rfl) ?_
        simp only [Act.put, List.setIfInBounds_toArray, List.set_cons_succ, List.set_cons_zero]
        refine BigFrame.wpQuiet_skip (by show (some u29 == some false) = false; rw [HU29.out]; rfl) ?_
        simp only [Act.put, List.setIfInBounds_toArray, List.set_cons_succ, List.set_cons_zero]
        refine BigFrame.wpQuiet_skip (by show (some u29 == some false) = false; rw [HU29.out]; rfl) ?_
        simp only [Act.put, List.setIfInBounds_toArray, List.set_cons_succ, List.set_cons_zero]
        generalize hund : (undef : Value) = un
        refine BigFrame.wpQuiet_skip (by rw [← hund]; rfl) ?_
        simp only [Act.put, List.setIfInBounds_toArray, List.set_cons_succ, List.set_cons_zero]
        refine BigFrame.wpQuiet_skip (by rw [← hund]; rfl) ?_
        simp only [Act.put, List.setIfInBounds_toArray, List.set_cons_succ, List.set_cons_zero]
        refine BigFrame.wpQuiet_skip (by rw [← hund]; rfl) ?_
        simp only [Act.put, List.setIfInBounds_toArray, List.set_cons_succ, List.set_cons_zero]
        refine BigFrame.wpQuiet_skip (by rw [← hund]; rfl) ?_
        simp only [Act.put, List.setIfInBounds_toArray, List.set_cons_succ, List.set_cons_zero]
        refine BigFrame.wpQuiet_skip (by rw [← hund]; rfl) ?_
        simp only [Act.put, List.setIfInBounds_toArray, List.set_cons_succ, List.set_cons_zero]
        refine BigFrame.wpQuiet_skip (by rw [← hund]; rfl) ?_
        simp only [Act.put, List.setIfInBounds_toArray, List.set_cons_succ, List.set_cons_zero]
        refine BigFrame.wpQuiet_skip (by rw [← hund]; rfl) ?_
        simp only [Act.put, List.setIfInBounds_toArray, List.set_cons_succ, List.set_cons_zero]
        refine BigFrame.wpQuiet_skip (by rw [← hund]; rfl) ?_
        simp only [Act.put, List.setIfInBounds_toArray, List.set_cons_succ, List.set_cons_zero]
        refine BigFrame.wpQuiet_skip (by rw [← hund]; rfl) ?_
        simp only [Act.put, List.setIfInBounds_toArray, List.set_cons_succ, List.set_cons_zero]
        refine BigFrame.wpQuiet_skip (by rw [← hund]; rfl) ?_
        simp only [Act.put, List.setIfInBounds_toArray, List.set_cons_succ, List.set_cons_zero]
        refine BigFrame.wpQuiet_skip (by rw [← hund]; rfl) ?_
        simp only [Act.put, List.setIfInBounds_toArray, List.set_cons_succ, List.set_cons_zero]
        refine BigFrame.wpQuiet_skip (by show (some u29 == some false) = false; rw [HU29.out]; rfl) ?_
        simp only [Act.put, List.setIfInBounds_toArray, List.set_cons_succ, List.set_cons_zero]
        refine wpQuiet_step (fun K hK => ?_)
        rw [if_pos (by rfl)]
        refine ⟨.bool true, fun W hW => quiet_ok ?_, hK _ ?_⟩
        · have q := HX.out W hW
          obtain ⟨⟨m0, m1, m2⟩, _⟩ := q
          have k0 := HCX.out W hW
          have v29 := HU29.out
          go_simp
          all_goals (try omega)
        clear hK K
        simp only [Act.put, List.setIfInBounds_toArray, List.set_cons_succ, List.set_cons_zero]
        subst hund
        refine wpQuiet_nil ?_
        intro W hW
        have hbW := HBW.out W hW
        go_wp2_with fail
        go_ret
        exact ⟨ret_bool HF.out.symm, hbW⟩
      | true =>
      rw [h1] at HGZ
      rcases Nat.eq_zero_or_pos k with hk0 | hk0
      · have HU : Hid (∀ j, j < k + 1 → stepZ L j = true) := HUPA.out (HG.out.trans (by rw [h1, hk0]; rfl))
        have hk0i : ¬ (0 : Int) < (k : Int) := by omega
        clear HUPA HBAD HG HPREV hk0 h1
        obtain ⟨u32, hu32⟩ : ∃ u : Bool, u = false := ⟨_, rfl⟩
        have HU32 : Hid (u32 = false) := hu32
        clear hu32
        go_wp2_with fail
        rw [HW0.out, HGX.out]
        refine wp_region_quiet (C := fun W => Below W0.heap.size W0 W) (by kernel_rfl) (by kernel_rfl) hbd ?_
        refine wpQuiet_step (fun K hK => ?_)
        rw [if_pos (by rfl)]
        refine ⟨.agg #[.string ⟨nm.toArray⟩, .int .i64 ct, .slice aa R.length ca], fun W hW => quiet_ok ?_, hK _ ?_⟩
        · have q := HX.out W hW
          obtain ⟨⟨m0, m1, m2⟩, _⟩ := q
          have k0 := HCX.out W hW
          go_simp
          all_goals (try omega)
        clear hK K
        simp only [Act.put, List.setIfInBounds_toArray, List.set_cons_succ, List.set_cons_zero]
        refine wpQuiet_step (fun K hK => ?_)
        rw [if_pos (by rfl)]
        refine ⟨.bool true, fun W hW => quiet_call (f := 32) (args := #[.agg #[.string ⟨nm.toArray⟩, .int .i64 ct, .slice aa R.length ca]]) ?_ ?_, hK _ ?_⟩
        · go_simp
        · exact (HGZ.out W hW).mono fun e w'' h => ⟨h.1, HTR.out _ _ hW h.2⟩
        clear hK K
        simp only [Act.put, List.setIfInBounds_toArray, List.set_cons_succ, List.set_cons_zero]
        refine wpQuiet_step (fun K hK => ?_)
        rw [if_pos (by rfl)]
        refine ⟨.bool false, fun W hW => quiet_ok ?_, hK _ ?_⟩
        · have q := HX.out W hW
          obtain ⟨⟨m0, m1, m2⟩, _⟩ := q
          have k0 := HCX.out W hW
          go_simp
          all_goals (try omega)
        clear hK K
        simp only [Act.put, List.setIfInBounds_toArray, List.set_cons_succ, List.set_cons_zero]
        refine wpQuiet_step (fun K hK => ?_)
        rw [if_pos (by rfl)]
        refine ⟨.bool false, fun W hW => quiet_ok ?_, hK _ ?_⟩
        · have q := HX.out W hW
          obtain ⟨⟨m0, m1, m2⟩, _⟩ := q
          have k0 := HCX.out W hW
          go_simp
          all_goals (try omega)
        clear hK K
        simp only [Act.put, List.setIfInBounds_toArray, List.set_cons_succ, List.set_cons_zero]
        refine wpQuiet_step (fun K hK => ?_)
        rw [if_pos (by rfl)]
        refine ⟨.int .i64 (k : Int), fun W hW => quiet_ok ?_, hK _ ?_⟩
        · have q := HX.out W hW
          obtain ⟨⟨m0, m1, m2⟩, _⟩ := q
          have k0 := HCX.out W hW
          go_simp
          all_goals (try omega)
        clear hK K
        simp only [Act.put, List.setIfInBounds_toArray, List.set_cons_succ, List.set_cons_zero]
        refine wpQuiet_step (fun K hK => ?_)
        rw [if_pos (by rfl)]
        refine ⟨.bool false, fun W hW => quiet_ok ?_, hK _ ?_⟩
        · have q := HX.out W hW
          obtain ⟨⟨m0, m1, m2⟩, _⟩ := q
          have k0 := HCX.out W hW
          go_simp
          all_goals (try omega)
        clear hK K
        simp only [Act.put, List.setIfInBounds_toArray, List.set_cons_succ, List.set_cons_zero]
        refine wpQuiet_step (fun K hK => ?_)
        rw [if_pos (by rfl)]
        refine ⟨.bool u32, fun W hW => quiet_ok ?_, hK _ ?_⟩
        · have q := HX.out W hW
          obtain ⟨⟨m0, m1, m2⟩, _⟩ := q
          have k0 := HCX.out W hW
          have v32 := HU32.out
          go_simp
          all_goals (try omega)
        clear hK K
        simp only [Act.put, List.setIfInBounds_toArray, List.set_cons_succ, List.set_cons_zero]
        refine BigFrame.wpQuiet_skip (by show (some u32 == some true) = false; rw [HU32.out]; rfl) ?_
        simp only [Act.put, List.setIfInBounds_toArray, List.set_cons_succ, List.set_cons_zero]
        refine BigFrame.wpQuiet_skip (by show (some u32 == some true) = false; rw [HU32.out]; rfl) ?_
        simp only [Act.put, List.setIfInBounds_toArray, List.set_cons_succ, List.set_cons_zero]
        refine BigFrame.wpQuiet_skip (by show (some u32 == some true) = false; rw [HU32.out]; rfl) ?_
        simp only [Act.put, List.setIfInBounds_toArray, List.set_cons_succ, List.set_cons_zero]
        refine BigFrame.wpQuiet_skip (by show (some u32 == some true) = false; rw [HU32.out]; rfl) ?_
        simp only [Act.put, List.setIfInBounds_toArray, List.set_cons_succ, List.set_cons_zero]
        refine BigFrame.wpQuiet_skip (by show (some u32 == some true) = false; rw [HU32.out]; rfl) ?_
        simp only [Act.put, List.setIfInBounds_toArray, List.set_cons_succ, List.set_cons_zero]
        refine BigFrame.wpQuiet_skip (by show (some u32 == some true) = false; rw [HU32.out]; rfl) ?_
        simp only [Act.put, List.setIfInBounds_toArray, List.set_cons_succ, List.set_cons_zero]
        refine BigFrame.wpQuiet_skip (by show (some u32 == some true) = false; rw [HU32.out]; rfl) ?_
        simp only [Act.put, List.setIfInBounds_toArray, List.set_cons_succ, List.set_cons_zero]
        refine BigFrame.wpQuiet_skip (by show (some u32 == some true) = false; rw [HU32.out]; rfl) ?_
        simp only [Act.put, List.setIfInBounds_toArray, List.set_cons_succ, List.set_cons_zero]
        refine BigFrame.wpQuiet_skip (by show (some u32 == some true) = false; rw [HU32.out]; rfl) ?_
        simp only [Act.put, List.setIfInBounds_toArray, List.set_cons_succ, List.set_cons_zero]
        refine BigFrame.wpQuiet_skip (by show (some u32 == some true) = false; rw [HU32.out]; rfl) ?_
        simp only [Act.put, List.setIfInBounds_toArray, List.set_cons_succ, List.set_cons_zero]
        refine BigFrame.wpQuiet_skip (by show (some u32 == some true) = false; rw [HU32.out]; rfl) ?_
        simp only [Act.put, List.setIfInBounds_toArray, List.set_cons_succ, List.set_cons_zero]
        refine wpQuiet_step (fun K hK => ?_)
        rw [if_pos (by rfl)]
        refine ⟨.bool false, fun W hW => quiet_ok ?_, hK _ ?_⟩
        · have q := HX.out W hW
          obtain ⟨⟨m0, m1, m2⟩, _⟩ := q
          have k0 := HCX.out W hW
          have v32 := HU32.out
          go_simp
          all_goals (try omega)
        clear hK K
        simp only [Act.put, List.setIfInBounds_toArray, List.set_cons_succ, List.set_cons_zero]
        refine wpQuiet_step (fun K hK => ?_)
        rw [if_pos (by rfl)]
        refine ⟨.bool false, fun W hW => quiet_ok ?_, hK _ ?_⟩
        · have q := HX.out W hW
          obtain ⟨⟨m0, m1, m2⟩, _⟩ := q
          have k0 := HCX.out W hW
          have v32 := HU32.out
          go_simp
          all_goals (try omega)
        clear hK K
        simp only [Act.put, List.setIfInBounds_toArray, List.set_cons_succ, List.set_cons_zero]
        refine wpQuiet_nil ?_
        intro W hW
        have hbW := HBW.out W hW
        have HIW : Hid (Below WB.heap.size WB W) := HIB.out W hW
        go_wp2_with fail
        go_roundw
        case rel => exact ⟨k + 1, by omega, by go_num, HU, HIW.out⟩
        case measure => simp [intOf]; omega
      · obtain ⟨j, hj⟩ : ∃ j, k = j + 1 := ⟨k - 1, by omega⟩
        obtain ⟨y, vb, hye, hny, hyl, hys, hyc⟩ := HPREV.out j hj
        rw [hye] at HG
        have hnm : nameB nm = true := zone_name (x := (nm, ct, R)) h1
        have HCM : Hid (∀ W, Below W0.heap.size W0 W → Calls Tryz.prog 33 #[.string ⟨y.1.toArray⟩, .string ⟨nm.toArray⟩] W fun e w' => e = .returned (.int .i64 (cmpN y.1 nm)) ∧ Below W.heap.size W w') := fun W _ => l1Compare_any ⟨y.1.toArray⟩ ⟨nm.toArray⟩ W (by rw [size_list]; omega) (by rw [size_list]; have := HXL.out; omega) ⟨hny, hnm⟩
        have HY : Hid (∀ W, Below W0.heap.size W0 W → W.cell? ⟨b, o + j * 3, none⟩ = some (.string ⟨y.1.toArray⟩) ∧ W.cell? ⟨b, o + j * 3 + 1, none⟩ = some (.int .i64 y.2.1) ∧ W.cell? ⟨b, o + j * 3 + 2, none⟩ = some (vb)) := fun W hW => ⟨(hyc W (HBW.out W hW)).1, (hyc W (HBW.out W hW)).2.1, (hyc W (HBW.out W hW)).2.2.1⟩
        have hk0i : (0 : Int) < (k : Int) := by omega
        have wk : IntKind.i64.wrap ((k : Int) - 1) = (j : Int) := by rw [wrap_small _ (by omega) (by omega)]; omega
        have wk2 : (k : Int) - 1 = (j : Int) := by omega
        have wj : IntKind.i64.wrap (j : Int) = (j : Int) := wrap_small _ (by omega) (by omega)
        have hjl : (j : Int) < (L.length : Int) := by omega
        have HKB : Hid ((k == 0) = false) := by show _ = false; simp; omega
        obtain ⟨c, hc⟩ : ∃ c, c = cmpN y.1 nm := ⟨_, rfl⟩
        rw [← hc] at HCM HG
        clear HPREV hk0 hye hny hyl hyc hj hys hnm hc
        by_cases h5 : c < 0
        case neg =>
          have HF : Hid (r = false) := HBAD.out (HG.out.trans (by rw [HKB.out, decide_eq_false h5]; simp))
          have h5' : (0 : Int) ≤ c := by omega
          clear HBAD HG h1 HUPA HKB
          go_wp2_with fail
          rw [HW0.out, HGX.out]
          refine wp_region_quiet (C := fun W => Below W0.heap.size W0 W) (by kernel_rfl) (by kernel_rfl) hbd ?_
          refine wpQuiet_step (fun K hK => ?_)
          rw [if_pos (by rfl)]
          refine ⟨.agg #[.string ⟨nm.toArray⟩, .int .i64 ct, .slice aa R.length ca], fun W hW => quiet_ok ?_, hK _ ?_⟩
          · have q := HX.out W hW
            obtain ⟨⟨m0, m1, m2⟩, _⟩ := q
            have k0 := HCX.out W hW
            have q3 := HY.out W hW
            obtain ⟨y0, y1, y2⟩ := q3
            go_simp
            all_goals (try omega)
          clear hK K
          simp only [Act.put, List.setIfInBounds_toArray, List.set_cons_succ, List.set_cons_zero]
          refine wpQuiet_step (fun K hK => ?_)
          rw [if_pos (by rfl)]
          refine ⟨.bool true, fun W hW => quiet_call (f := 32) (args := #[.agg #[.string ⟨nm.toArray⟩, .int .i64 ct, .slice aa R.length ca]]) ?_ ?_, hK _ ?_⟩
          · go_simp
          · exact (HGZ.out W hW).mono fun e w'' h => ⟨h.1, HTR.out _ _ hW h.2⟩
          clear hK K
          simp only [Act.put, List.setIfInBounds_toArray, List.set_cons_succ, List.set_cons_zero]
          refine wpQuiet_step (fun K hK => ?_)
          rw [if_pos (by rfl)]
          refine ⟨.bool false, fun W hW => quiet_ok ?_, hK _ ?_⟩
          · have q := HX.out W hW
            obtain ⟨⟨m0, m1, m2⟩, _⟩ := q
            have k0 := HCX.out W hW
            have q3 := HY.out W hW
            obtain ⟨y0, y1, y2⟩ := q3
            go_simp
            all_goals (try omega)
          clear hK K
          simp only [Act.put, List.setIfInBounds_toArray, List.set_cons_succ, List.set_cons_zero]
          refine wpQuiet_step (fun K hK => ?_)
          rw [if_pos (by rfl)]
          refine ⟨.bool false, fun W hW => quiet_ok ?_, hK _ ?_⟩
          · have q := HX.out W hW
            obtain ⟨⟨m0, m1, m2⟩, _⟩ := q
            have k0 := HCX.out W hW
            have q3 := HY.out W hW
            obtain ⟨y0, y1, y2⟩ := q3
            go_simp
            all_goals (try omega)
          clear hK K
          simp only [Act.put, List.setIfInBounds_toArray, List.set_cons_succ, List.set_cons_zero]
          refine wpQuiet_step (fun K hK => ?_)
          rw [if_pos (by rfl)]
          refine ⟨.int .i64 (k : Int), fun W hW => quiet_ok ?_, hK _ ?_⟩
          · have q := HX.out W hW
            obtain ⟨⟨m0, m1, m2⟩, _⟩ := q
            have k0 := HCX.out W hW
            have q3 := HY.out W hW
            obtain ⟨y0, y1, y2⟩ := q3
            go_simp
            all_goals (try omega)
          clear hK K
          simp only [Act.put, List.setIfInBounds_toArray, List.set_cons_succ, List.set_cons_zero]
          refine wpQuiet_step (fun K hK => ?_)
          rw [if_pos (by rfl)]
          refine ⟨.bool true, fun W hW => quiet_ok ?_, hK _ ?_⟩
          · have q := HX.out W hW
            obtain ⟨⟨m0, m1, m2⟩, _⟩ := q
            have k0 := HCX.out W hW
            have q3 := HY.out W hW
            obtain ⟨y0, y1, y2⟩ := q3
            go_simp
            all_goals (try omega)
          clear hK K
          simp only [Act.put, List.setIfInBounds_toArray, List.set_cons_succ, List.set_cons_zero]
          refine wpQuiet_step (fun K hK => ?_)
          rw [if_pos (by rfl)]
          refine ⟨.bool true, fun W hW => quiet_ok ?_, hK _ ?_⟩
          · have q := HX.out W hW
            obtain ⟨⟨m0, m1, m2⟩, _⟩ := q
            have k0 := HCX.out W hW
            have q3 := HY.out W hW
            obtain ⟨y0, y1, y2⟩ := q3
            go_simp
            all_goals (try omega)
          clear hK K
          simp only [Act.put, List.setIfInBounds_toArray, List.set_cons_succ, List.set_cons_zero]
          refine wpQuiet_step (fun K hK => ?_)
          rw [if_pos (by rfl)]
          refine ⟨.pointer (some ⟨w.heap.size, 0, none⟩), fun W hW => quiet_ok ?_, hK _ ?_⟩
          · have q := HX.out W hW
            obtain ⟨⟨m0, m1, m2⟩, _⟩ := q
            have k0 := HCX.out W hW
            have q3 := HY.out W hW
            obtain ⟨y0, y1, y2⟩ := q3
            go_simp
            all_goals (try omega)
          clear hK K
          simp only [Act.put, List.setIfInBounds_toArray, List.set_cons_succ, List.set_cons_zero]
          refine wpQuiet_step (fun K hK => ?_)
          rw [if_pos (by rfl)]
          refine ⟨.slice (some ⟨b, o, none⟩) L.length cap, fun W hW => quiet_ok ?_, hK _ ?_⟩
          · have q := HX.out W hW
            obtain ⟨⟨m0, m1, m2⟩, _⟩ := q
            have k0 := HCX.out W hW
            have q3 := HY.out W hW
            obtain ⟨y0, y1, y2⟩ := q3
            go_simp
            all_goals (try omega)
          clear hK K
          simp only [Act.put, List.setIfInBounds_toArray, List.set_cons_succ, List.set_cons_zero]
          refine wpQuiet_step (fun K hK => ?_)
          rw [if_pos (by rfl)]
          refine ⟨.int .i64 (k : Int), fun W hW => quiet_ok ?_, hK _ ?_⟩
          · have q := HX.out W hW
            obtain ⟨⟨m0, m1, m2⟩, _⟩ := q
            have k0 := HCX.out W hW
            have q3 := HY.out W hW
            obtain ⟨y0, y1, y2⟩ := q3
            go_simp
            all_goals (try omega)
          clear hK K
          simp only [Act.put, List.setIfInBounds_toArray, List.set_cons_succ, List.set_cons_zero]
          refine wpQuiet_step (fun K hK => ?_)
          rw [if_pos (by rfl)]
          refine ⟨.int .i64 (j : Int), fun W hW => quiet_ok ?_, hK _ ?_⟩
          · have q := HX.out W hW
            obtain ⟨⟨m0, m1, m2⟩, _⟩ := q
            have k0 := HCX.out W hW
            have q3 := HY.out W hW
            obtain ⟨y0, y1, y2⟩ := q3
            go_simp
            all_goals (try omega)
          clear hK K
          simp only [Act.put, List.setIfInBounds_toArray, List.set_cons_succ, List.set_cons_zero]
          refine wpQuiet_step (fun K hK => ?_)
          rw [if_pos (by rfl)]
          refine ⟨.pointer (some ⟨b, o + j * 3, none⟩), fun W hW => quiet_ok ?_, hK _ ?_⟩
          · have q := HX.out W hW
            obtain ⟨⟨m0, m1, m2⟩, _⟩ := q
            have k0 := HCX.out W hW
            have q3 := HY.out W hW
            obtain ⟨y0, y1, y2⟩ := q3
            go_simp
            all_goals (try omega)
          clear hK K
          simp only [Act.put, List.setIfInBounds_toArray, List.set_cons_succ, List.set_cons_zero]
          refine wpQuiet_step (fun K hK => ?_)
          rw [if_pos (by rfl)]
          refine ⟨.pointer (some ⟨b, o + j * 3, none⟩), fun W hW => quiet_ok ?_, hK _ ?_⟩
          · have q := HX.out W hW
            obtain ⟨⟨m0, m1, m2⟩, _⟩ := q
            have k0 := HCX.out W hW
            have q3 := HY.out W hW
            obtain ⟨y0, y1, y2⟩ := q3
            go_simp
            all_goals (try omega)
          clear hK K
          simp only [Act.put, List.setIfInBounds_toArray, List.set_cons_succ, List.set_cons_zero]
          refine wpQuiet_step (fun K hK => ?_)
          rw [if_pos (by rfl)]
          refine ⟨.string ⟨y.1.toArray⟩, fun W hW => quiet_ok ?_, hK _ ?_⟩
          · have q := HX.out W hW
            obtain ⟨⟨m0, m1, m2⟩, _⟩ := q
            have k0 := HCX.out W hW
            have q3 := HY.out W hW
            obtain ⟨y0, y1, y2⟩ := q3
            go_simp
            all_goals (try omega)
          clear hK K
          simp only [Act.put, List.setIfInBounds_toArray, List.set_cons_succ, List.set_cons_zero]
          refine wpQuiet_step (fun K hK => ?_)
          rw [if_pos (by rfl)]
          refine ⟨.pointer (some ⟨gx, 0, none⟩), fun W hW => quiet_ok ?_, hK _ ?_⟩
          · have q := HX.out W hW
            obtain ⟨⟨m0, m1, m2⟩, _⟩ := q
            have k0 := HCX.out W hW
            have q3 := HY.out W hW
            obtain ⟨y0, y1, y2⟩ := q3
            go_simp
            all_goals (try omega)
          clear hK K
          simp only [Act.put, List.setIfInBounds_toArray, List.set_cons_succ, List.set_cons_zero]
          refine wpQuiet_step (fun K hK => ?_)
          rw [if_pos (by rfl)]
          refine ⟨.string ⟨nm.toArray⟩, fun W hW => quiet_ok ?_, hK _ ?_⟩
          · have q := HX.out W hW
            obtain ⟨⟨m0, m1, m2⟩, _⟩ := q
            have k0 := HCX.out W hW
            have q3 := HY.out W hW
            obtain ⟨y0, y1, y2⟩ := q3
            go_simp
            all_goals (try omega)
          clear hK K
          simp only [Act.put, List.setIfInBounds_toArray, List.set_cons_succ, List.set_cons_zero]
          refine wpQuiet_step (fun K hK => ?_)
          rw [if_pos (by rfl)]
          refine ⟨.int .i64 c, fun W hW => quiet_call (f := 33) (args := #[.string ⟨y.1.toArray⟩, .string ⟨nm.toArray⟩]) ?_ ?_, hK _ ?_⟩
          · go_simp
          · exact (HCM.out W hW).mono fun e w'' h => ⟨h.1, HTR.out _ _ hW h.2⟩
          clear hK K
          simp only [Act.put, List.setIfInBounds_toArray, List.set_cons_succ, List.set_cons_zero]
          refine wpQuiet_step (fun K hK => ?_)
          rw [if_pos (by rfl)]
          refine ⟨.bool true, fun W hW => quiet_ok ?_, hK _ ?_⟩
          · have q := HX.out W hW
            obtain ⟨⟨m0, m1, m2⟩, _⟩ := q
            have k0 := HCX.out W hW
            have q3 := HY.out W hW
            obtain ⟨y0, y1, y2⟩ := q3
            go_simp
            all_goals (try omega)
          clear hK K
          simp only [Act.put, List.setIfInBounds_toArray, List.set_cons_succ, List.set_cons_zero]
          refine wpQuiet_step (fun K hK => ?_)
          rw [if_pos (by rfl)]
          refine ⟨.bool true, fun W hW => quiet_ok ?_, hK _ ?_⟩
          · have q := HX.out W hW
            obtain ⟨⟨m0, m1, m2⟩, _⟩ := q
            have k0 := HCX.out W hW
            have q3 := HY.out W hW
            obtain ⟨y0, y1, y2⟩ := q3
            go_simp
            all_goals (try omega)
          clear hK K
          simp only [Act.put, List.setIfInBounds_toArray, List.set_cons_succ, List.set_cons_zero]
          refine wpQuiet_step (fun K hK => ?_)
          rw [if_pos (by rfl)]
          refine ⟨.bool true, fun W hW => quiet_ok ?_, hK _ ?_⟩
          · have q := HX.out W hW
            obtain ⟨⟨m0, m1, m2⟩, _⟩ := q
            have k0 := HCX.out W hW
            have q3 := HY.out W hW
            obtain ⟨y0, y1, y2⟩ := q3
            go_simp
            all_goals (try omega)
          clear hK K
          simp only [Act.put, List.setIfInBounds_toArray, List.set_cons_succ, List.set_cons_zero]
          refine wpQuiet_nil ?_
          intro W hW
          have hbW := HBW.out W hW
          go_wp2_with fail
          go_ret
          exact ⟨ret_bool HF.out.symm, hbW⟩
        have HU : Hid (∀ j, j < k + 1 → stepZ L j = true) := HUPA.out (HG.out.trans (by rw [h1, HKB.out, decide_eq_true h5]; rfl))
        have h5' : ¬ (0 : Int) ≤ c := by omega
        clear HUPA HBAD HG h1 HKB
        go_wp2_with fail
        rw [HW0.out, HGX.out]
        refine wp_region_quiet (C := fun W => Below W0.heap.size W0 W) (by kernel_rfl) (by kernel_rfl) hbd ?_
        refine wpQuiet_step (fun K hK => ?_)
        rw [if_pos (by rfl)]
        refine ⟨.agg #[.string ⟨nm.toArray⟩, .int .i64 ct, .slice aa R.length ca], fun W hW => quiet_ok ?_, hK _ ?_⟩
        · have q := HX.out W hW
          obtain ⟨⟨m0, m1, m2⟩, _⟩ := q
          have k0 := HCX.out W hW
          have q3 := HY.out W hW
          obtain ⟨y0, y1, y2⟩ := q3
          go_simp
          all_goals (try omega)
        clear hK K
        simp only [Act.put, List.setIfInBounds_toArray, List.set_cons_succ, List.set_cons_zero]
        refine wpQuiet_step (fun K hK => ?_)
        rw [if_pos (by rfl)]
        refine ⟨.bool true, fun W hW => quiet_call (f := 32) (args := #[.agg #[.string ⟨nm.toArray⟩, .int .i64 ct, .slice aa R.length ca]]) ?_ ?_, hK _ ?_⟩
        · go_simp
        · exact (HGZ.out W hW).mono fun e w'' h => ⟨h.1, HTR.out _ _ hW h.2⟩
        clear hK K
        simp only [Act.put, List.setIfInBounds_toArray, List.set_cons_succ, List.set_cons_zero]
        refine wpQuiet_step (fun K hK => ?_)
        rw [if_pos (by rfl)]
        refine ⟨.bool false, fun W hW => quiet_ok ?_, hK _ ?_⟩
        · have q := HX.out W hW
          obtain ⟨⟨m0, m1, m2⟩, _⟩ := q
          have k0 := HCX.out W hW
          have q3 := HY.out W hW
          obtain ⟨y0, y1, y2⟩ := q3
          go_simp
          all_goals (try omega)
        clear hK K
        simp only [Act.put, List.setIfInBounds_toArray, List.set_cons_succ, List.set_cons_zero]
        refine wpQuiet_step (fun K hK => ?_)
        rw [if_pos (by rfl)]
        refine ⟨.bool false, fun W hW => quiet_ok ?_, hK _ ?_⟩
        · have q := HX.out W hW
          obtain ⟨⟨m0, m1, m2⟩, _⟩ := q
          have k0 := HCX.out W hW
          have q3 := HY.out W hW
          obtain ⟨y0, y1, y2⟩ := q3
          go_simp
          all_goals (try omega)
        clear hK K
        simp only [Act.put, List.setIfInBounds_toArray, List.set_cons_succ, List.set_cons_zero]
        refine wpQuiet_step (fun K hK => ?_)
        rw [if_pos (by rfl)]
        refine ⟨.int .i64 (k : Int), fun W hW => quiet_ok ?_, hK _ ?_⟩
        · have q := HX.out W hW
          obtain ⟨⟨m0, m1, m2⟩, _⟩ := q
          have k0 := HCX.out W hW
          have q3 := HY.out W hW
          obtain ⟨y0, y1, y2⟩ := q3
          go_simp
          all_goals (try omega)
        clear hK K
        simp only [Act.put, List.setIfInBounds_toArray, List.set_cons_succ, List.set_cons_zero]
        refine wpQuiet_step (fun K hK => ?_)
        rw [if_pos (by rfl)]
        refine ⟨.bool true, fun W hW => quiet_ok ?_, hK _ ?_⟩
        · have q := HX.out W hW
          obtain ⟨⟨m0, m1, m2⟩, _⟩ := q
          have k0 := HCX.out W hW
          have q3 := HY.out W hW
          obtain ⟨y0, y1, y2⟩ := q3
          go_simp
          all_goals (try omega)
        clear hK K
        simp only [Act.put, List.setIfInBounds_toArray, List.set_cons_succ, List.set_cons_zero]
        refine wpQuiet_step (fun K hK => ?_)
        rw [if_pos (by rfl)]
        refine ⟨.bool true, fun W hW => quiet_ok ?_, hK _ ?_⟩
        · have q := HX.out W hW
          obtain ⟨⟨m0, m1, m2⟩, _⟩ := q
          have k0 := HCX.out W hW
          have q3 := HY.out W hW
          obtain ⟨y0, y1, y2⟩ := q3
          go_simp
          all_goals (try omega)
        clear hK K
        simp only [Act.put, List.setIfInBounds_toArray, List.set_cons_succ, List.set_cons_zero]
        refine wpQuiet_step (fun K hK => ?_)
        rw [if_pos (by rfl)]
        refine ⟨.pointer (some ⟨w.heap.size, 0, none⟩), fun W hW => quiet_ok ?_, hK _ ?_⟩
        · have q := HX.out W hW
          obtain ⟨⟨m0, m1, m2⟩, _⟩ := q
          have k0 := HCX.out W hW
          have q3 := HY.out W hW
          obtain ⟨y0, y1, y2⟩ := q3
          go_simp
          all_goals (try omega)
        clear hK K
        simp only [Act.put, List.setIfInBounds_toArray, List.set_cons_succ, List.set_cons_zero]
        refine wpQuiet_step (fun K hK => ?_)
        rw [if_pos (by rfl)]
        refine ⟨.slice (some ⟨b, o, none⟩) L.length cap, fun W hW => quiet_ok ?_, hK _ ?_⟩
        · have q := HX.out W hW
          obtain ⟨⟨m0, m1, m2⟩, _⟩ := q
          have k0 := HCX.out W hW
          have q3 := HY.out W hW
          obtain ⟨y0, y1, y2⟩ := q3
          go_simp
          all_goals (try omega)
        clear hK K
        simp only [Act.put, List.setIfInBounds_toArray, List.set_cons_succ, List.set_cons_zero]
        refine wpQuiet_step (fun K hK => ?_)
        rw [if_pos (by rfl)]
        refine ⟨.int .i64 (k : Int), fun W hW => quiet_ok ?_, hK _ ?_⟩
        · have q := HX.out W hW
          obtain ⟨⟨m0, m1, m2⟩, _⟩ := q
          have k0 := HCX.out W hW
          have q3 := HY.out W hW
          obtain ⟨y0, y1, y2⟩ := q3
          go_simp
          all_goals (try omega)
        clear hK K
        simp only [Act.put, List.setIfInBounds_toArray, List.set_cons_succ, List.set_cons_zero]
        refine wpQuiet_step (fun K hK => ?_)
        rw [if_pos (by rfl)]
        refine ⟨.int .i64 (j : Int), fun W hW => quiet_ok ?_, hK _ ?_⟩
        · have q := HX.out W hW
          obtain ⟨⟨m0, m1, m2⟩, _⟩ := q
          have k0 := HCX.out W hW
          have q3 := HY.out W hW
          obtain ⟨y0, y1, y2⟩ := q3
          go_simp
          all_goals (try omega)
        clear hK K
        simp only [Act.put, List.setIfInBounds_toArray, List.set_cons_succ, List.set_cons_zero]
        refine wpQuiet_step (fun K hK => ?_)
        rw [if_pos (by rfl)]
        refine ⟨.pointer (some ⟨b, o + j * 3, none⟩), fun W hW => quiet_ok ?_, hK _ ?_⟩
        · have q := HX.out W hW
          obtain ⟨⟨m0, m1, m2⟩, _⟩ := q
          have k0 := HCX.out W hW
          have q3 := HY.out W hW
          obtain ⟨y0, y1, y2⟩ := q3
          go_simp
          all_goals (try omega)
        clear hK K
        simp only [Act.put, List.setIfInBounds_toArray, List.set_cons_succ, List.set_cons_zero]
        refine wpQuiet_step (fun K hK => ?_)
        rw [if_pos (by rfl)]
        refine ⟨.pointer (some ⟨b, o + j * 3, none⟩), fun W hW => quiet_ok ?_, hK _ ?_⟩
        · have q := HX.out W hW
          obtain ⟨⟨m0, m1, m2⟩, _⟩ := q
          have k0 := HCX.out W hW
          have q3 := HY.out W hW
          obtain ⟨y0, y1, y2⟩ := q3
          go_simp
          all_goals (try omega)
        clear hK K
        simp only [Act.put, List.setIfInBounds_toArray, List.set_cons_succ, List.set_cons_zero]
        refine wpQuiet_step (fun K hK => ?_)
        rw [if_pos (by rfl)]
        refine ⟨.string ⟨y.1.toArray⟩, fun W hW => quiet_ok ?_, hK _ ?_⟩
        · have q := HX.out W hW
          obtain ⟨⟨m0, m1, m2⟩, _⟩ := q
          have k0 := HCX.out W hW
          have q3 := HY.out W hW
          obtain ⟨y0, y1, y2⟩ := q3
          go_simp
          all_goals (try omega)
        clear hK K
        simp only [Act.put, List.setIfInBounds_toArray, List.set_cons_succ, List.set_cons_zero]
        refine wpQuiet_step (fun K hK => ?_)
        rw [if_pos (by rfl)]
        refine ⟨.pointer (some ⟨gx, 0, none⟩), fun W hW => quiet_ok ?_, hK _ ?_⟩
        · have q := HX.out W hW
          obtain ⟨⟨m0, m1, m2⟩, _⟩ := q
          have k0 := HCX.out W hW
          have q3 := HY.out W hW
          obtain ⟨y0, y1, y2⟩ := q3
          go_simp
          all_goals (try omega)
        clear hK K
        simp only [Act.put, List.setIfInBounds_toArray, List.set_cons_succ, List.set_cons_zero]
        refine wpQuiet_step (fun K hK => ?_)
        rw [if_pos (by rfl)]
        refine ⟨.string ⟨nm.toArray⟩, fun W hW => quiet_ok ?_, hK _ ?_⟩
        · have q := HX.out W hW
          obtain ⟨⟨m0, m1, m2⟩, _⟩ := q
          have k0 := HCX.out W hW
          have q3 := HY.out W hW
          obtain ⟨y0, y1, y2⟩ := q3
          go_simp
          all_goals (try omega)
        clear hK K
        simp only [Act.put, List.setIfInBounds_toArray, List.set_cons_succ, List.set_cons_zero]
        refine wpQuiet_step (fun K hK => ?_)
        rw [if_pos (by rfl)]
        refine ⟨.int .i64 c, fun W hW => quiet_call (f := 33) (args := #[.string ⟨y.1.toArray⟩, .string ⟨nm.toArray⟩]) ?_ ?_, hK _ ?_⟩
        · go_simp
        · exact (HCM.out W hW).mono fun e w'' h => ⟨h.1, HTR.out _ _ hW h.2⟩
        clear hK K
        simp only [Act.put, List.setIfInBounds_toArray, List.set_cons_succ, List.set_cons_zero]
        refine wpQuiet_step (fun K hK => ?_)
        rw [if_pos (by rfl)]
        refine ⟨.bool false, fun W hW => quiet_ok ?_, hK _ ?_⟩
        · have q := HX.out W hW
          obtain ⟨⟨m0, m1, m2⟩, _⟩ := q
          have k0 := HCX.out W hW
          have q3 := HY.out W hW
          obtain ⟨y0, y1, y2⟩ := q3
          go_simp
          all_goals (try omega)
        clear hK K
        simp only [Act.put, List.setIfInBounds_toArray, List.set_cons_succ, List.set_cons_zero]
        refine wpQuiet_step (fun K hK => ?_)
        rw [if_pos (by rfl)]
        refine ⟨.bool false, fun W hW => quiet_ok ?_, hK _ ?_⟩
        · have q := HX.out W hW
          obtain ⟨⟨m0, m1, m2⟩, _⟩ := q
          have k0 := HCX.out W hW
          have q3 := HY.out W hW
          obtain ⟨y0, y1, y2⟩ := q3
          go_simp
          all_goals (try omega)
        clear hK K
        simp only [Act.put, List.setIfInBounds_toArray, List.set_cons_succ, List.set_cons_zero]
        refine wpQuiet_step (fun K hK => ?_)
        rw [if_pos (by rfl)]
        refine ⟨.bool false, fun W hW => quiet_ok ?_, hK _ ?_⟩
        · have q := HX.out W hW
          obtain ⟨⟨m0, m1, m2⟩, _⟩ := q
          have k0 := HCX.out W hW
          have q3 := HY.out W hW
          obtain ⟨y0, y1, y2⟩ := q3
          go_simp
          all_goals (try omega)
        clear hK K
        simp only [Act.put, List.setIfInBounds_toArray, List.set_cons_succ, List.set_cons_zero]
        refine wpQuiet_nil ?_
        intro W hW
        have hbW := HBW.out W hW
        have HIW : Hid (Below WB.heap.size WB W) := HIB.out W hW
        go_wp2_with fail
        go_roundw
        case rel => exact ⟨k + 1, by omega, by go_num, HU, HIW.out⟩
        case measure => simp [intOf]; omega
    · have HF : Hid (r = true) := HALL2.out (fun j hj => HA.out j (by omega))
      go_wp2_with fail
      go_ret
      exact ⟨ret_bool HF.out.symm, hb⟩
end Go.Proofs.YtgfldenhhogpbaaGreatDoor
