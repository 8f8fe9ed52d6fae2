import Derived.Test.YtgfldenhhogpbaaGreatDoorZ43
import Derived.Test.YtgfldenhhogpbaaGreatDoorZ48
namespace Go.Proofs.YtgfldenhhogpbaaGreatDoor
open Go.RowKit

set_option maxRecDepth 20000 in
set_option maxHeartbeats 8000000 in
theorem sZoneFor_any (v : Value) (L : List ZonT) (n : ByteArray) (w : World) (hr : ZnRow w v L) (hx : Hid (∀ x ∈ L, ZBig x)) (hn : n.size ≤ 1048576) :
    Calls Tryz.prog 13 #[WldV v, .string n] w fun e w' => e = .returned (.tuple #[.int .i64 (zfN L n.data.toList), .bool (zfO L n.data.toList)]) ∧ Below w.heap.size w w' := by
  have HG : Hid (∀ W, Below w.heap.size w W → Calls Tryz.prog 9 #[WldV v] W fun e w' => e = .returned (.bool (worldB L)) ∧ Below W.heap.size W w') := fun W hW => sGoodWorld_any v L W (hr.kept hW) hx
  obtain ⟨nl, hnl⟩ : ∃ nl, nl = n.data.toList := ⟨_, rfl⟩
  obtain rfl : n = ⟨nl.toArray⟩ := data_eq hnl.symm
  clear hnl
  rw [size_list] at hn
  have HN : Hid (∀ W, Calls Tryz.prog 38 #[.string ⟨nl.toArray⟩] W fun e w' => e = .returned (.bool (nameB nl)) ∧ Below W.heap.size W w') := fun W => sGoodName_any ⟨nl.toArray⟩ W (by rw [size_list]; omega)
  show Calls Tryz.prog 13 _ w fun e w' => e = .returned (.tuple #[.int .i64 (zfN L nl), .bool (zfO L nl)]) ∧ Below w.heap.size w w'
  unfold WldV at HG ⊢
  obtain ⟨a, cap, rfl, hcap, hmax, HROW⟩ := znrow_value hr
  clear hr
  obtain ⟨rn, hrn⟩ : ∃ r, r = zfN L nl := ⟨_, rfl⟩
  obtain ⟨ro, hro⟩ : ∃ r, r = zfO L nl := ⟨_, rfl⟩
  have HRN : Hid (rn = zfN L nl) := hrn
  have HRO : Hid (ro = zfO L nl) := hro
  rw [← hrn, ← hro]
  clear hrn hro
  obtain ⟨WB, hWB⟩ : ∃ W, W = w.alloc (.cells #[.slice a L.length cap] 29) := ⟨_, rfl⟩
  have HWB : Hid (w.alloc (.cells #[.slice a L.length cap] 29) = WB) := hWB.symm
  have HCB : Hid (∀ W, Below WB.heap.size WB W → W.cell? ⟨w.heap.size, 0, none⟩ = some (.slice a L.length cap) ∧ Below w.heap.size w W) := fun W hW => by rw [hWB] at hW; exact box1w hW
  have HZB : Hid (w.heap.size < WB.heap.size) := by rw [hWB]; show w.heap.size < _; simp
  clear hWB
  have hB0 : Below WB.heap.size WB WB := Below.refl _ _
  have HNO : Hid (nameB nl = false → rn = 0 ∧ ro = false) := fun h => by
    have e : zfO L nl = false := by unfold zfO; rw [h]; rfl
    exact ⟨HRN.out.trans (by unfold zfN; rw [e]; rfl), HRO.out.trans e⟩
  have HWO : Hid (worldB L = false → rn = 0 ∧ ro = false) := fun h => by
    have e : zfO L nl = false := by unfold zfO; rw [h]; simp
    exact ⟨HRN.out.trans (by unfold zfN; rw [e]; rfl), HRO.out.trans e⟩
  have HYES : Hid (nameB nl = true → worldB L = true → rn = (lastZ L nl L.length : Int) ∧ ro = true) := fun h1 h2 => by
    have e : zfO L nl = true := by unfold zfO; rw [h1, h2]; rfl
    exact ⟨HRN.out.trans (by unfold zfN; rw [e]; rfl), HRO.out.trans e⟩
  clear HRN HRO
  cases hG : worldB L with
  | false =>
    have HF : Hid (rn = 0 ∧ ro = false) := HWO.out hG
    rw [hG] at HG
    clear HNO HWO HYES hG
    obtain ⟨k0, hbw⟩ := HCB.out _ hB0
    go_enter Tryz.func13, Tryz.ntmps13
    go_wp2_with fail
    rw [HWB.out]
    refine (HG.out _ hbw).mono ?_
    rintro e w2 ⟨rfl, hb2⟩
    have hbw2 := hbw.trans (hb2.mono hbw.size)
    go_wp2_with fail
    go_ret2
    exact ⟨zret2 HF.out.1.symm HF.out.2.symm, hbw2⟩
  | true =>
  rw [hG] at HG
  cases hN : nameB nl with
  | false =>
    have HF : Hid (rn = 0 ∧ ro = false) := HNO.out hN
    rw [hN] at HN
    clear HNO HWO HYES hN hG
    obtain ⟨k0, hbw⟩ := HCB.out _ hB0
    go_enter Tryz.func13, Tryz.ntmps13
    go_wp2_with fail
    rw [HWB.out]
    refine (HG.out _ hbw).mono ?_
    rintro e w1 ⟨rfl, hb1⟩
    have hbw1 := hbw.trans (hb1.mono hbw.size)
    go_wp2_with fail
    refine (HN.out _).mono ?_
    rintro e w2 ⟨rfl, hb2⟩
    have hbw2 := hbw1.trans (hb2.mono hbw1.size)
    go_wp2_with fail
    go_ret2
    exact ⟨zret2 HF.out.1.symm HF.out.2.symm, hbw2⟩
  | true =>
  rw [hN] at HN
  have HF : Hid (rn = (lastZ L nl L.length : Int) ∧ ro = true) := HYES.out hN hG
  have HWG : Hid (worldB L = true ∧ nameB nl = true) := ⟨hG, hN⟩
  have hwf := world_facts hG
  have hpos : 0 < L.length := hwf.1.1
  have hlen : L.length ≤ 6 := hwf.1.2
  obtain ⟨b, o, ha, hbl, hcel⟩ := HROW.out hpos
  subst ha
  clear HNO HWO HYES hN hG hwf HROW
  obtain ⟨k0, hbw⟩ := HCB.out _ hB0
  go_enter Tryz.func13, Tryz.ntmps13
  go_wp2_with fail
  rw [HWB.out]
  refine (HG.out _ hbw).mono ?_
  rintro e w1 ⟨rfl, hb1⟩
  have hbw1 := hbw.trans (hb1.mono hbw.size)
  have hB1 : Below WB.heap.size WB w1 := hb1
  clear k0
  go_wp2_with fail
  refine (HN.out _).mono ?_
  rintro e w2 ⟨rfl, hb2⟩
  have hB2 : Below WB.heap.size WB w2 := hB1.trans (hb2.mono hB1.size)
  obtain ⟨k2, _⟩ := HCB.out _ hB2
  clear hb1 hb2 hbw1 hbw HN HG
  go_wp2_with fail
  clear k2
  go_loopw [6, 20] (fun at' i wr => ∃ k : Nat, k ≤ L.length ∧ i = .int .i64 (k : Int) ∧ at' = .int .i64 (lastZ L nl k : Int) ∧ Below WB.heap.size WB wr) (fun _ i _ => L.length - (intOf i).toNat)
  case atStart => exact ⟨0, Nat.zero_le _, rfl, rfl, hB2⟩
  case round =>
    obtain ⟨k, hk, rfl, rfl, hbB⟩ := hrel
    have hb : Below w.heap.size w wr := (HCB.out wr hbB).2
    by_cases hlt : k < L.length
    · obtain ⟨va, hcx0⟩ := hcel k hlt
      have hcx := hcx0.kept hb
      have hxl := hx.out _ (List.getElem_mem hlt)
      have HZK : Hid (zO L k = L[k]'hlt) := zO_at hlt
      have HML : Hid (lastZ L nl k < L.length) := by have h := lastZ_le L nl k; show lastZ L nl k < L.length; omega
      have HYC : Hid (∃ vy, ∀ W, Below w.heap.size w W → ZonAt W b (o + lastZ L nl k * 3) (zO L (lastZ L nl k)) vy) := by
        obtain ⟨vy, h⟩ := hcel (lastZ L nl k) HML.out
        exact ⟨vy, fun W hW => by rw [zO_at HML.out]; exact h.kept hW⟩
      have HNK : Hid (nameB (zO L k).1 = true ∧ nameB (zO L (lastZ L nl k)).1 = true) := by
        obtain ⟨_, _, h3, _⟩ := world_facts HWG.out.1
        refine ⟨?_, ?_⟩
        · rw [zO_at hlt]; exact zone_name (h3 _ hlt)
        · rw [zO_at HML.out]; exact zone_name (h3 _ HML.out)
      have HST : Hid (belowB nl (zO L k).1 = true → (manyN (zO L (lastZ L nl k)).1 < manyN (zO L k).1 ∧ 0 < k) ∨ (k = 0 ∧ lastZ L nl k = 0)) := fun h => last_step HWG.out.1 HWG.out.2 hlt h
      have HYS : Hid (belowB nl (zO L k).1 = true → lastZ L nl (k + 1) = k) := fun h => lastZ_yes h
      have HNS : Hid (belowB nl (zO L k).1 = false → lastZ L nl (k + 1) = lastZ L nl k) := fun h => lastZ_no h
      obtain ⟨yz, hyz⟩ : ∃ y, y = zO L (lastZ L nl k) := ⟨_, rfl⟩
      rw [← hyz] at HYC HNK HST
      obtain ⟨ym, yc, yr⟩ := yz
      rw [HZK.out] at HNK HST HYS HNS
      clear hyz
      obtain ⟨x, hxe⟩ : ∃ x, x = L[k]'hlt := ⟨_, rfl⟩
      rw [← hxe] at hcx hxl HYS HNS HNK HST
      clear hxe hcx0 hcel HZK
      obtain ⟨nm, ct, R⟩ := x
      simp only at HYS HNS
      simp only at HNK HST
      have hz : RRow wr va R := hcx.2.2.2
      unfold ZonAt at hcx
      obtain ⟨c0, c1, c2, _⟩ := hcx
      obtain ⟨aa, ca, rfl, hca1, hca, _⟩ := id hz
      have hnm : nm.length ≤ 1048576 := hxl.1
      have hlk : (k : Int) < (L.length : Int) := by omega
      obtain ⟨m, hm⟩ : ∃ m, m = lastZ L nl k := ⟨_, rfl⟩
      rw [← hm] at HNS HYC HML HST ⊢
      clear hm hz hxl
      obtain ⟨vy, hyc⟩ := HYC.out
      obtain ⟨W0, hW0⟩ : ∃ W0, W0 = wr.alloc (.cells #[.string ⟨nm.toArray⟩, .int .i64 ct, .slice aa R.length ca] 52) := ⟨_, rfl⟩
      have HW0 : Hid (wr.alloc (.cells #[.string ⟨nm.toArray⟩, .int .i64 ct, .slice aa R.length ca] 52) = W0) := hW0.symm
      obtain ⟨gx, hgx⟩ : ∃ gx, gx = wr.heap.size := ⟨_, rfl⟩
      have HGX : Hid (wr.heap.size = gx) := hgx.symm
      have HTR : Hid (∀ W W', Below W0.heap.size W0 W → Below W.heap.size W W' → Below W0.heap.size W0 W') := fun W W' h1 h2 => h1.trans (h2.mono h1.size)
      have HX : Hid (∀ W, Below W0.heap.size W0 W → (W.cell? ⟨gx, 0, none⟩ = some (.string ⟨nm.toArray⟩) ∧ W.cell? ⟨gx, 1, none⟩ = some (.int .i64 ct) ∧ W.cell? ⟨gx, 2, none⟩ = some (.slice aa R.length ca)) ∧ Below wr.heap.size wr W) := fun W hW => by
        rw [hW0] at hW
        obtain ⟨u0, u1, u2, u3⟩ := box3c hW
        rw [hgx]
        exact ⟨⟨u0, u1, u2⟩, u3⟩
      have HIB : Hid (∀ W, Below W0.heap.size W0 W → Below WB.heap.size WB W) := fun W hW => hbB.trans ((HX.out W hW).2.mono hbB.size)
      have HBW : Hid (∀ W, Below W0.heap.size W0 W → Below w.heap.size w W) := fun W hW => (HCB.out W (HIB.out W hW)).2
      have HCX : Hid (∀ W, Below W0.heap.size W0 W → W.cell? ⟨w.heap.size, 0, none⟩ = some (.slice (some ⟨b, o, none⟩) L.length cap)) := fun W hW => (HCB.out W (HIB.out W hW)).1
      have HY : Hid (∀ W, Below W0.heap.size W0 W → W.cell? ⟨b, o + m * 3, none⟩ = some (.string ⟨ym.toArray⟩)) := fun W hW => (hyc W (HBW.out W hW)).1
      have HLB : Hid (∀ W, Calls Tryz.prog 39 #[.string ⟨nl.toArray⟩, .string ⟨nm.toArray⟩] W fun e w' => e = .returned (.bool (belowB nl nm)) ∧ Below W.heap.size W w') := fun W => (l1Below_any ⟨nl.toArray⟩ ⟨nm.toArray⟩ W (by rw [size_list]; omega) (by rw [size_list]; omega)).mono fun e w' h => ⟨h.1, by rw [h.2]; exact Below.refl _ _⟩
      have HMZ : Hid (∀ W, Calls Tryz.prog 40 #[.string ⟨nm.toArray⟩] W fun e w' => e = .returned (.int .i64 (manyN nm : Int)) ∧ Below W.heap.size W w') := fun W => l8Many_any ⟨nm.toArray⟩ W HNK.out.1
      have HMY : Hid (∀ W, Calls Tryz.prog 40 #[.string ⟨ym.toArray⟩] W fun e w' => e = .returned (.int .i64 (manyN ym : Int)) ∧ Below W.heap.size W w') := fun W => l8Many_any ⟨ym.toArray⟩ W HNK.out.2
      have hbd : Below W0.heap.size W0 W0.drew := (Below.refl _ _).drew
      have hml : (m : Int) < (L.length : Int) := by have h := HML.out; omega
      clear hW0 hgx hyc HYC HNK
      cases hbl2 : belowB nl nm with
      | false =>
        have HK : Hid (lastZ L nl (k + 1) = m) := HNS.out hbl2
        rw [hbl2] at HLB
        clear HYS HNS HST hbl2
        obtain ⟨u29, hu29⟩ : ∃ u : Bool, u = false := ⟨_, rfl⟩
        have HU29 : Hid (u29 = false) := hu29
        clear hu29
        go_wp2_with fail
        rw [HW0.out, HGX.out]
        refine wp_region_quiet (C := fun W => Below W0.heap.size W0 W) (by kernel_rfl) (by kernel_rfl) hbd ?_
        refine wpQuiet_step (fun K hK => ?_)
        rw [if_pos (by rfl)]
        refine ⟨.string ⟨nl.toArray⟩, fun W hW => quiet_ok ?_, hK _ ?_⟩
        · have q := HX.out W hW
          obtain ⟨⟨m0, m1, m2⟩, _⟩ := q
          have k0 := HCX.out W hW
          go_simp
          all_goals (try omega)
        clear hK K
        simp only [Act.put, List.setIfInBounds_toArray, List.set_cons_succ, List.set_cons_zero]
        refine wpQuiet_step (fun K hK => ?_)
        rw [if_pos (by rfl)]
        refine ⟨.pointer (some ⟨gx, 0, none⟩), fun W hW => quiet_ok ?_, hK _ ?_⟩
        · have q := HX.out W hW
          obtain ⟨⟨m0, m1, m2⟩, _⟩ := q
          have k0 := HCX.out W hW
          go_simp
          all_goals (try omega)
        clear hK K
        simp only [Act.put, List.setIfInBounds_toArray, List.set_cons_succ, List.set_cons_zero]
        refine wpQuiet_step (fun K hK => ?_)
        rw [if_pos (by rfl)]
        refine ⟨.string ⟨nm.toArray⟩, fun W hW => quiet_ok ?_, hK _ ?_⟩
        · have q := HX.out W hW
          obtain ⟨⟨m0, m1, m2⟩, _⟩ := q
          have k0 := HCX.out W hW
          go_simp
          all_goals (try omega)
        clear hK K
        simp only [Act.put, List.setIfInBounds_toArray, List.set_cons_succ, List.set_cons_zero]
        refine wpQuiet_step (fun K hK => ?_)
        rw [if_pos (by rfl)]
        refine ⟨.bool false, fun W hW => quiet_call (f := 39) (args := #[.string ⟨nl.toArray⟩, .string ⟨nm.toArray⟩]) ?_ ?_, hK _ ?_⟩
        · go_simp
        · exact (HLB.out W).mono fun e w'' h => ⟨h.1, HTR.out _ _ hW h.2⟩
        clear hK K
        simp only [Act.put, List.setIfInBounds_toArray, List.set_cons_succ, List.set_cons_zero]
        refine wpQuiet_step (fun K hK => ?_)
        rw [if_pos (by rfl)]
        refine ⟨.bool u29, fun W hW => quiet_ok ?_, hK _ ?_⟩
        · have q := HX.out W hW
          obtain ⟨⟨m0, m1, m2⟩, _⟩ := q
          have k0 := HCX.out W hW
          have v29 := HU29.out
          go_simp
          all_goals (try omega)
        clear hK K
        simp only [Act.put, List.setIfInBounds_toArray, List.set_cons_succ, List.set_cons_zero]
        refine BigFrame.wpQuiet_skip (by show (some u29 == some true) = false; rw [HU29.out]; rfl) ?_
        simp only [Act.put, List.setIfInBounds_toArray, List.set_cons_succ, List.set_cons_zero]
        refine BigFrame.wpQuiet_skip (by show (some u29 == some true) = false; rw [HU29.out]; rfl) ?_
        simp only [Act.put, List.setIfInBounds_toArray, List.set_cons_succ, List.set_cons_zero]
        refine BigFrame.wpQuiet_skip (by show (some u29 == some true) = false; rw [HU29.out]; rfl) ?_
        simp only [Act.put, List.setIfInBounds_toArray, List.set_cons_succ, List.set_cons_zero]
        refine BigFrame.wpQuiet_skip (by show (some u29 == some true) = false; rw [HU29.out]; rfl) ?_
        simp only [Act.put, List.setIfInBounds_toArray, List.set_cons_succ, List.set_cons_zero]
        refine BigFrame.wpQuiet_skip (by show (some u29 == some true) = false; rw [HU29.out]; rfl) ?_
        simp only [Act.put, List.setIfInBounds_toArray, List.set_cons_succ, List.set_cons_zero]
        refine BigFrame.wpQuiet_skip (by show (some u29 == some true) = false; rw [HU29.out]; rfl) ?_
        simp only [Act.put, List.setIfInBounds_toArray, List.set_cons_succ, List.set_cons_zero]
        refine BigFrame.wpQuiet_skip (by show (some u29 == some true) = false; rw [HU29.out]; rfl) ?_
        simp only [Act.put, List.setIfInBounds_toArray, List.set_cons_succ, List.set_cons_zero]
        refine BigFrame.wpQuiet_skip (by show (some u29 == some true) = false; rw [HU29.out]; rfl) ?_
        simp only [Act.put, List.setIfInBounds_toArray, List.set_cons_succ, List.set_cons_zero]
        refine BigFrame.wpQuiet_skip (by show (some u29 == some true) = false; rw [HU29.out]; rfl) ?_
        simp only [Act.put, List.setIfInBounds_toArray, List.set_cons_succ, List.set_cons_zero]
        refine BigFrame.wpQuiet_skip (by show (some u29 == some true) = false; rw [HU29.out]; rfl) ?_
        simp only [Act.put, List.setIfInBounds_toArray, List.set_cons_succ, List.set_cons_zero]
        refine BigFrame.wpQuiet_skip (by show (some u29 == some true) = false; rw [HU29.out]; rfl) ?_
        simp only [Act.put, List.setIfInBounds_toArray, List.set_cons_succ, List.set_cons_zero]
        refine wpQuiet_step (fun K hK => ?_)
        rw [if_pos (by rfl)]
        refine ⟨.bool false, fun W hW => quiet_ok ?_, hK _ ?_⟩
        · have q := HX.out W hW
          obtain ⟨⟨m0, m1, m2⟩, _⟩ := q
          have k0 := HCX.out W hW
          have v29 := HU29.out
          go_simp
          all_goals (try omega)
        clear hK K
        simp only [Act.put, List.setIfInBounds_toArray, List.set_cons_succ, List.set_cons_zero]
        refine wpQuiet_nil ?_
        intro W hW
        have hbW := HBW.out W hW
        have HIW : Hid (Below WB.heap.size WB W) := HIB.out W hW
        go_wp2_with fail
        go_roundw
        case rel => exact ⟨k + 1, by omega, by go_num, by rw [HK.out], HIW.out⟩
        case measure => simp [intOf]; omega
      | true =>
        have HK : Hid (lastZ L nl (k + 1) = k) := HYS.out hbl2
        have HST2 : Hid ((manyN ym < manyN nm ∧ 0 < k) ∨ (k = 0 ∧ m = 0)) := HST.out hbl2
        rw [hbl2] at HLB
        obtain ⟨my, hmy⟩ : ∃ q, q = manyN ym := ⟨_, rfl⟩
        obtain ⟨mz, hmz⟩ : ∃ q, q = manyN nm := ⟨_, rfl⟩
        rw [← hmy] at HMY HST2
        rw [← hmz] at HMZ HST2
        clear HYS HNS HST hbl2 hmy hmz
        by_cases hgt : my < mz
        · have hgti : (my : Int) < (mz : Int) := by omega
          clear HST2
          go_wp2_with fail
          rw [HW0.out, HGX.out]
          refine wp_region_quiet (C := fun W => Below W0.heap.size W0 W) (by kernel_rfl) (by kernel_rfl) hbd ?_
          refine wpQuiet_step (fun K hK => ?_)
          rw [if_pos (by rfl)]
          refine ⟨.string ⟨nl.toArray⟩, fun W hW => quiet_ok ?_, hK _ ?_⟩
          · have q := HX.out W hW
            obtain ⟨⟨m0, m1, m2⟩, _⟩ := q
            have k0 := HCX.out W hW
            have y0 := HY.out W hW
            go_simp
            all_goals (try omega)
          clear hK K
          simp only [Act.put, List.setIfInBounds_toArray, List.set_cons_succ, List.set_cons_zero]
          refine wpQuiet_step (fun K hK => ?_)
          rw [if_pos (by rfl)]
          refine ⟨.pointer (some ⟨gx, 0, none⟩), fun W hW => quiet_ok ?_, hK _ ?_⟩
          · have q := HX.out W hW
            obtain ⟨⟨m0, m1, m2⟩, _⟩ := q
            have k0 := HCX.out W hW
            have y0 := HY.out W hW
            go_simp
            all_goals (try omega)
          clear hK K
          simp only [Act.put, List.setIfInBounds_toArray, List.set_cons_succ, List.set_cons_zero]
          refine wpQuiet_step (fun K hK => ?_)
          rw [if_pos (by rfl)]
          refine ⟨.string ⟨nm.toArray⟩, fun W hW => quiet_ok ?_, hK _ ?_⟩
          · have q := HX.out W hW
            obtain ⟨⟨m0, m1, m2⟩, _⟩ := q
            have k0 := HCX.out W hW
            have y0 := HY.out W hW
            go_simp
            all_goals (try omega)
          clear hK K
          simp only [Act.put, List.setIfInBounds_toArray, List.set_cons_succ, List.set_cons_zero]
          refine wpQuiet_step (fun K hK => ?_)
          rw [if_pos (by rfl)]
          refine ⟨.bool true, fun W hW => quiet_call (f := 39) (args := #[.string ⟨nl.toArray⟩, .string ⟨nm.toArray⟩]) ?_ ?_, hK _ ?_⟩
          · go_simp
          · exact (HLB.out W).mono fun e w'' h => ⟨h.1, HTR.out _ _ hW h.2⟩
          clear hK K
          simp only [Act.put, List.setIfInBounds_toArray, List.set_cons_succ, List.set_cons_zero]
          refine wpQuiet_step (fun K hK => ?_)
          rw [if_pos (by rfl)]
          refine ⟨.bool true, fun W hW => quiet_ok ?_, hK _ ?_⟩
          · have q := HX.out W hW
            obtain ⟨⟨m0, m1, m2⟩, _⟩ := q
            have k0 := HCX.out W hW
            have y0 := HY.out W hW
            go_simp
            all_goals (try omega)
          clear hK K
          simp only [Act.put, List.setIfInBounds_toArray, List.set_cons_succ, List.set_cons_zero]
          refine wpQuiet_step (fun K hK => ?_)
          rw [if_pos (by rfl)]
          refine ⟨.pointer (some ⟨gx, 0, none⟩), fun W hW => quiet_ok ?_, hK _ ?_⟩
          · have q := HX.out W hW
            obtain ⟨⟨m0, m1, m2⟩, _⟩ := q
            have k0 := HCX.out W hW
            have y0 := HY.out W hW
            go_simp
            all_goals (try omega)
          clear hK K
          simp only [Act.put, List.setIfInBounds_toArray, List.set_cons_succ, List.set_cons_zero]
          refine wpQuiet_step (fun K hK => ?_)
          rw [if_pos (by rfl)]
          refine ⟨.string ⟨nm.toArray⟩, fun W hW => quiet_ok ?_, hK _ ?_⟩
          · have q := HX.out W hW
            obtain ⟨⟨m0, m1, m2⟩, _⟩ := q
            have k0 := HCX.out W hW
            have y0 := HY.out W hW
            go_simp
            all_goals (try omega)
          clear hK K
          simp only [Act.put, List.setIfInBounds_toArray, List.set_cons_succ, List.set_cons_zero]
          refine wpQuiet_step (fun K hK => ?_)
          rw [if_pos (by rfl)]
          refine ⟨.int .i64 (mz : Int), fun W hW => quiet_call (f := 40) (args := #[.string ⟨nm.toArray⟩]) ?_ ?_, hK _ ?_⟩
          · go_simp
          · exact (HMZ.out W).mono fun e w'' h => ⟨h.1, HTR.out _ _ hW h.2⟩
          clear hK K
          simp only [Act.put, List.setIfInBounds_toArray, List.set_cons_succ, List.set_cons_zero]
          refine wpQuiet_step (fun K hK => ?_)
          rw [if_pos (by rfl)]
          refine ⟨.pointer (some ⟨w.heap.size, 0, none⟩), fun W hW => quiet_ok ?_, hK _ ?_⟩
          · have q := HX.out W hW
            obtain ⟨⟨m0, m1, m2⟩, _⟩ := q
            have k0 := HCX.out W hW
            have y0 := HY.out W hW
            go_simp
            all_goals (try omega)
          clear hK K
          simp only [Act.put, List.setIfInBounds_toArray, List.set_cons_succ, List.set_cons_zero]
          refine wpQuiet_step (fun K hK => ?_)
          rw [if_pos (by rfl)]
          refine ⟨.slice (some ⟨b, o, none⟩) L.length cap, fun W hW => quiet_ok ?_, hK _ ?_⟩
          · have q := HX.out W hW
            obtain ⟨⟨m0, m1, m2⟩, _⟩ := q
            have k0 := HCX.out W hW
            have y0 := HY.out W hW
            go_simp
            all_goals (try omega)
          clear hK K
          simp only [Act.put, List.setIfInBounds_toArray, List.set_cons_succ, List.set_cons_zero]
          refine wpQuiet_step (fun K hK => ?_)
          rw [if_pos (by rfl)]
          refine ⟨.int .i64 (m : Int), fun W hW => quiet_ok ?_, hK _ ?_⟩
          · have q := HX.out W hW
            obtain ⟨⟨m0, m1, m2⟩, _⟩ := q
            have k0 := HCX.out W hW
            have y0 := HY.out W hW
            go_simp
            all_goals (try omega)
          clear hK K
          simp only [Act.put, List.setIfInBounds_toArray, List.set_cons_succ, List.set_cons_zero]
          refine wpQuiet_step (fun K hK => ?_)
          rw [if_pos (by rfl)]
          refine ⟨.pointer (some ⟨b, o + m * 3, none⟩), fun W hW => quiet_ok ?_, hK _ ?_⟩
          · have q := HX.out W hW
            obtain ⟨⟨m0, m1, m2⟩, _⟩ := q
            have k0 := HCX.out W hW
            have y0 := HY.out W hW
            go_simp
            all_goals (try omega)
          clear hK K
          simp only [Act.put, List.setIfInBounds_toArray, List.set_cons_succ, List.set_cons_zero]
          refine wpQuiet_step (fun K hK => ?_)
          rw [if_pos (by rfl)]
          refine ⟨.pointer (some ⟨b, o + m * 3, none⟩), fun W hW => quiet_ok ?_, hK _ ?_⟩
          · have q := HX.out W hW
            obtain ⟨⟨m0, m1, m2⟩, _⟩ := q
            have k0 := HCX.out W hW
            have y0 := HY.out W hW
            go_simp
            all_goals (try omega)
          clear hK K
          simp only [Act.put, List.setIfInBounds_toArray, List.set_cons_succ, List.set_cons_zero]
          refine wpQuiet_step (fun K hK => ?_)
          rw [if_pos (by rfl)]
          refine ⟨.string ⟨ym.toArray⟩, fun W hW => quiet_ok ?_, hK _ ?_⟩
          · have q := HX.out W hW
            obtain ⟨⟨m0, m1, m2⟩, _⟩ := q
            have k0 := HCX.out W hW
            have y0 := HY.out W hW
            go_simp
            all_goals (try omega)
          clear hK K
          simp only [Act.put, List.setIfInBounds_toArray, List.set_cons_succ, List.set_cons_zero]
          refine wpQuiet_step (fun K hK => ?_)
          rw [if_pos (by rfl)]
          refine ⟨.int .i64 (my : Int), fun W hW => quiet_call (f := 40) (args := #[.string ⟨ym.toArray⟩]) ?_ ?_, hK _ ?_⟩
          · go_simp
          · exact (HMY.out W).mono fun e w'' h => ⟨h.1, HTR.out _ _ hW h.2⟩
          clear hK K
          simp only [Act.put, List.setIfInBounds_toArray, List.set_cons_succ, List.set_cons_zero]
          refine wpQuiet_step (fun K hK => ?_)
          rw [if_pos (by rfl)]
          refine ⟨.bool true, fun W hW => quiet_ok ?_, hK _ ?_⟩
          · have q := HX.out W hW
            obtain ⟨⟨m0, m1, m2⟩, _⟩ := q
            have k0 := HCX.out W hW
            have y0 := HY.out W hW
            go_simp
            all_goals (try omega)
          clear hK K
          simp only [Act.put, List.setIfInBounds_toArray, List.set_cons_succ, List.set_cons_zero]
          refine wpQuiet_step (fun K hK => ?_)
          rw [if_pos (by rfl)]
          refine ⟨.bool true, fun W hW => quiet_ok ?_, hK _ ?_⟩
          · have q := HX.out W hW
            obtain ⟨⟨m0, m1, m2⟩, _⟩ := q
            have k0 := HCX.out W hW
            have y0 := HY.out W hW
            go_simp
            all_goals (try omega)
          clear hK K
          simp only [Act.put, List.setIfInBounds_toArray, List.set_cons_succ, List.set_cons_zero]
          refine wpQuiet_nil ?_
          intro W hW
          have hbW := HBW.out W hW
          have HIW : Hid (Below WB.heap.size WB W) := HIB.out W hW
          go_wp2_with fail
          go_roundw
          case rel => exact ⟨k + 1, by omega, by go_num, by rw [HK.out], HIW.out⟩
          case measure => simp [intOf]; omega
        · have hgti : ¬ (my : Int) < (mz : Int) := by omega
          have HKM : Hid (lastZ L nl (k + 1) = m) := by
            have h := HST2.out
            have h2 := HK.out
            show _ = _
            omega
          clear HST2
          go_wp2_with fail
          rw [HW0.out, HGX.out]
          refine wp_region_quiet (C := fun W => Below W0.heap.size W0 W) (by kernel_rfl) (by kernel_rfl) hbd ?_
          refine wpQuiet_step (fun K hK => ?_)
          rw [if_pos (by rfl)]
          refine ⟨.string ⟨nl.toArray⟩, fun W hW => quiet_ok ?_, hK _ ?_⟩
          · have q := HX.out W hW
            obtain ⟨⟨m0, m1, m2⟩, _⟩ := q
            have k0 := HCX.out W hW
            have y0 := HY.out W hW
            go_simp
            all_goals (try omega)
          clear hK K
          simp only [Act.put, List.setIfInBounds_toArray, List.set_cons_succ, List.set_cons_zero]
          refine wpQuiet_step (fun K hK => ?_)
          rw [if_pos (by rfl)]
          refine ⟨.pointer (some ⟨gx, 0, none⟩), fun W hW => quiet_ok ?_, hK _ ?_⟩
          · have q := HX.out W hW
            obtain ⟨⟨m0, m1, m2⟩, _⟩ := q
            have k0 := HCX.out W hW
            have y0 := HY.out W hW
            go_simp
            all_goals (try omega)
          clear hK K
          simp only [Act.put, List.setIfInBounds_toArray, List.set_cons_succ, List.set_cons_zero]
          refine wpQuiet_step (fun K hK => ?_)
          rw [if_pos (by rfl)]
          refine ⟨.string ⟨nm.toArray⟩, fun W hW => quiet_ok ?_, hK _ ?_⟩
          · have q := HX.out W hW
            obtain ⟨⟨m0, m1, m2⟩, _⟩ := q
            have k0 := HCX.out W hW
            have y0 := HY.out W hW
            go_simp
            all_goals (try omega)
          clear hK K
          simp only [Act.put, List.setIfInBounds_toArray, List.set_cons_succ, List.set_cons_zero]
          refine wpQuiet_step (fun K hK => ?_)
          rw [if_pos (by rfl)]
          refine ⟨.bool true, fun W hW => quiet_call (f := 39) (args := #[.string ⟨nl.toArray⟩, .string ⟨nm.toArray⟩]) ?_ ?_, hK _ ?_⟩
          · go_simp
          · exact (HLB.out W).mono fun e w'' h => ⟨h.1, HTR.out _ _ hW h.2⟩
          clear hK K
          simp only [Act.put, List.setIfInBounds_toArray, List.set_cons_succ, List.set_cons_zero]
          refine wpQuiet_step (fun K hK => ?_)
          rw [if_pos (by rfl)]
          refine ⟨.bool true, fun W hW => quiet_ok ?_, hK _ ?_⟩
          · have q := HX.out W hW
            obtain ⟨⟨m0, m1, m2⟩, _⟩ := q
            have k0 := HCX.out W hW
            have y0 := HY.out W hW
            go_simp
            all_goals (try omega)
          clear hK K
          simp only [Act.put, List.setIfInBounds_toArray, List.set_cons_succ, List.set_cons_zero]
          refine wpQuiet_step (fun K hK => ?_)
          rw [if_pos (by rfl)]
          refine ⟨.pointer (some ⟨gx, 0, none⟩), fun W hW => quiet_ok ?_, hK _ ?_⟩
          · have q := HX.out W hW
            obtain ⟨⟨m0, m1, m2⟩, _⟩ := q
            have k0 := HCX.out W hW
            have y0 := HY.out W hW
            go_simp
            all_goals (try omega)
          clear hK K
          simp only [Act.put, List.setIfInBounds_toArray, List.set_cons_succ, List.set_cons_zero]
          refine wpQuiet_step (fun K hK => ?_)
          rw [if_pos (by rfl)]
          refine ⟨.string ⟨nm.toArray⟩, fun W hW => quiet_ok ?_, hK _ ?_⟩
          · have q := HX.out W hW
            obtain ⟨⟨m0, m1, m2⟩, _⟩ := q
            have k0 := HCX.out W hW
            have y0 := HY.out W hW
            go_simp
            all_goals (try omega)
          clear hK K
          simp only [Act.put, List.setIfInBounds_toArray, List.set_cons_succ, List.set_cons_zero]
          refine wpQuiet_step (fun K hK => ?_)
          rw [if_pos (by rfl)]
          refine ⟨.int .i64 (mz : Int), fun W hW => quiet_call (f := 40) (args := #[.string ⟨nm.toArray⟩]) ?_ ?_, hK _ ?_⟩
          · go_simp
          · exact (HMZ.out W).mono fun e w'' h => ⟨h.1, HTR.out _ _ hW h.2⟩
          clear hK K
          simp only [Act.put, List.setIfInBounds_toArray, List.set_cons_succ, List.set_cons_zero]
          refine wpQuiet_step (fun K hK => ?_)
          rw [if_pos (by rfl)]
          refine ⟨.pointer (some ⟨w.heap.size, 0, none⟩), fun W hW => quiet_ok ?_, hK _ ?_⟩
          · have q := HX.out W hW
            obtain ⟨⟨m0, m1, m2⟩, _⟩ := q
            have k0 := HCX.out W hW
            have y0 := HY.out W hW
            go_simp
            all_goals (try omega)
          clear hK K
          simp only [Act.put, List.setIfInBounds_toArray, List.set_cons_succ, List.set_cons_zero]
          refine wpQuiet_step (fun K hK => ?_)
          rw [if_pos (by rfl)]
          refine ⟨.slice (some ⟨b, o, none⟩) L.length cap, fun W hW => quiet_ok ?_, hK _ ?_⟩
          · have q := HX.out W hW
            obtain ⟨⟨m0, m1, m2⟩, _⟩ := q
            have k0 := HCX.out W hW
            have y0 := HY.out W hW
            go_simp
            all_goals (try omega)
          clear hK K
          simp only [Act.put, List.setIfInBounds_toArray, List.set_cons_succ, List.set_cons_zero]
          refine wpQuiet_step (fun K hK => ?_)
          rw [if_pos (by rfl)]
          refine ⟨.int .i64 (m : Int), fun W hW => quiet_ok ?_, hK _ ?_⟩
          · have q := HX.out W hW
            obtain ⟨⟨m0, m1, m2⟩, _⟩ := q
            have k0 := HCX.out W hW
            have y0 := HY.out W hW
            go_simp
            all_goals (try omega)
          clear hK K
          simp only [Act.put, List.setIfInBounds_toArray, List.set_cons_succ, List.set_cons_zero]
          refine wpQuiet_step (fun K hK => ?_)
          rw [if_pos (by rfl)]
          refine ⟨.pointer (some ⟨b, o + m * 3, none⟩), fun W hW => quiet_ok ?_, hK _ ?_⟩
          · have q := HX.out W hW
            obtain ⟨⟨m0, m1, m2⟩, _⟩ := q
            have k0 := HCX.out W hW
            have y0 := HY.out W hW
            go_simp
            all_goals (try omega)
          clear hK K
          simp only [Act.put, List.setIfInBounds_toArray, List.set_cons_succ, List.set_cons_zero]
          refine wpQuiet_step (fun K hK => ?_)
          rw [if_pos (by rfl)]
          refine ⟨.pointer (some ⟨b, o + m * 3, none⟩), fun W hW => quiet_ok ?_, hK _ ?_⟩
          · have q := HX.out W hW
            obtain ⟨⟨m0, m1, m2⟩, _⟩ := q
            have k0 := HCX.out W hW
            have y0 := HY.out W hW
            go_simp
            all_goals (try omega)
          clear hK K
          simp only [Act.put, List.setIfInBounds_toArray, List.set_cons_succ, List.set_cons_zero]
          refine wpQuiet_step (fun K hK => ?_)
          rw [if_pos (by rfl)]
          refine ⟨.string ⟨ym.toArray⟩, fun W hW => quiet_ok ?_, hK _ ?_⟩
          · have q := HX.out W hW
            obtain ⟨⟨m0, m1, m2⟩, _⟩ := q
            have k0 := HCX.out W hW
            have y0 := HY.out W hW
            go_simp
            all_goals (try omega)
          clear hK K
          simp only [Act.put, List.setIfInBounds_toArray, List.set_cons_succ, List.set_cons_zero]
          refine wpQuiet_step (fun K hK => ?_)
          rw [if_pos (by rfl)]
          refine ⟨.int .i64 (my : Int), fun W hW => quiet_call (f := 40) (args := #[.string ⟨ym.toArray⟩]) ?_ ?_, hK _ ?_⟩
          · go_simp
          · exact (HMY.out W).mono fun e w'' h => ⟨h.1, HTR.out _ _ hW h.2⟩
          clear hK K
          simp only [Act.put, List.setIfInBounds_toArray, List.set_cons_succ, List.set_cons_zero]
          refine wpQuiet_step (fun K hK => ?_)
          rw [if_pos (by rfl)]
          refine ⟨.bool false, fun W hW => quiet_ok ?_, hK _ ?_⟩
          · have q := HX.out W hW
            obtain ⟨⟨m0, m1, m2⟩, _⟩ := q
            have k0 := HCX.out W hW
            have y0 := HY.out W hW
            go_simp
            all_goals (try omega)
          clear hK K
          simp only [Act.put, List.setIfInBounds_toArray, List.set_cons_succ, List.set_cons_zero]
          refine wpQuiet_step (fun K hK => ?_)
          rw [if_pos (by rfl)]
          refine ⟨.bool false, fun W hW => quiet_ok ?_, hK _ ?_⟩
          · have q := HX.out W hW
            obtain ⟨⟨m0, m1, m2⟩, _⟩ := q
            have k0 := HCX.out W hW
            have y0 := HY.out W hW
            go_simp
            all_goals (try omega)
          clear hK K
          simp only [Act.put, List.setIfInBounds_toArray, List.set_cons_succ, List.set_cons_zero]
          refine wpQuiet_nil ?_
          intro W hW
          have hbW := HBW.out W hW
          have HIW : Hid (Below WB.heap.size WB W) := HIB.out W hW
          go_wp2_with fail
          go_roundw
          case rel => exact ⟨k + 1, by omega, by go_num, by rw [HKM.out], HIW.out⟩
          case measure => simp [intOf]; omega
    · have hkl : k = L.length := by omega
      have HKL : Hid (lastZ L nl k = lastZ L nl L.length) := by show _ = _; rw [hkl]
      clear hkl
      go_wp2_with fail
      go_ret2
      exact ⟨zret2 (by rw [HKL.out]; exact HF.out.1.symm) HF.out.2.symm, hb⟩
end Go.Proofs.YtgfldenhhogpbaaGreatDoor
