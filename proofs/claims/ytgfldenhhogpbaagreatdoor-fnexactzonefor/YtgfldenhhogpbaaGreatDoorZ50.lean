import Derived.Test.YtgfldenhhogpbaaGreatDoorZ43
import Derived.Test.YtgfldenhhogpbaaGreatDoorZ41
namespace Go.Proofs.YtgfldenhhogpbaaGreatDoor
open Go.RowKit

set_option maxRecDepth 20000 in
set_option maxHeartbeats 8000000 in
theorem iZoneFor_any (v : Value) (L : List ZonT) (n : ByteArray) (w : World) (hr : ZnRow w v L) (hx : Hid (∀ x ∈ L, ZBig x)) (hn : n.size ≤ 1048576) (hE : EnvZ w) :
    Calls Tryz.prog 14 #[WldV v, .string n] w fun e w' => e = .returned (.tuple #[.int .i64 (zfN L n.data.toList), .bool (zfO L n.data.toList)]) ∧ Below w.heap.size w w' := by
  have HG : Hid (∀ W, Below w.heap.size w W → Calls Tryz.prog 11 #[WldV v] W fun e w' => e = .returned (.bool (worldB L)) ∧ Below W.heap.size W w') := fun W hW => iGoodWorld_any v L W (hr.kept hW) hx (hE.below hW)
  obtain ⟨nl, hnl⟩ : ∃ nl, nl = n.data.toList := ⟨_, rfl⟩
  obtain rfl : n = ⟨nl.toArray⟩ := data_eq hnl.symm
  clear hnl
  rw [size_list] at hn
  have HN : Hid (∀ W, Below w.heap.size w W → Calls Tryz.prog 41 #[.string ⟨nl.toArray⟩] W fun e w' => e = .returned (.bool (nameB nl)) ∧ Below W.heap.size W w') := fun W hW => iGoodName_any ⟨nl.toArray⟩ W (hE.below hW).1.1
  show Calls Tryz.prog 14 _ w fun e w' => e = .returned (.tuple #[.int .i64 (zfN L nl), .bool (zfO L nl)]) ∧ Below w.heap.size w w'
  unfold WldV at HG ⊢
  obtain ⟨a, cap, rfl, hcap, hmax, HROW⟩ := znrow_value hr
  clear hr
  obtain ⟨rn, hrn⟩ : ∃ r, r = zfN L nl := ⟨_, rfl⟩
  obtain ⟨ro, hro⟩ : ∃ r, r = zfO L nl := ⟨_, rfl⟩
  have HRN : Hid (rn = zfN L nl) := hrn
  have HRO : Hid (ro = zfO L nl) := hro
  rw [← hrn, ← hro]
  clear hrn hro
  obtain ⟨WB, hWB⟩ : ∃ W, W = w.alloc (.cells #[.slice a L.length cap] 29) := ⟨_, rfl⟩
  have HWB : Hid (w.alloc (.cells #[.slice a L.length cap] 29) = WB) := hWB.symm
  have HCB : Hid (∀ W, Below WB.heap.size WB W → W.cell? ⟨w.heap.size, 0, none⟩ = some (.slice a L.length cap) ∧ Below w.heap.size w W) := fun W hW => by rw [hWB] at hW; exact box1w hW
  have HZB : Hid (w.heap.size < WB.heap.size) := by rw [hWB]; show w.heap.size < _; simp
  clear hWB
  have hB0 : Below WB.heap.size WB WB := Below.refl _ _
  have HNO : Hid (nameB nl = false → rn = 0 ∧ ro = false) := fun h => by
    have e : zfO L nl = false := by unfold zfO; rw [h]; rfl
    exact ⟨HRN.out.trans (by unfold zfN; rw [e]; rfl), HRO.out.trans e⟩
  have HWO : Hid (worldB L = false → rn = 0 ∧ ro = false) := fun h => by
    have e : zfO L nl = false := by unfold zfO; rw [h]; simp
    exact ⟨HRN.out.trans (by unfold zfN; rw [e]; rfl), HRO.out.trans e⟩
  have HYES : Hid (nameB nl = true → worldB L = true → rn = (lastZ L nl L.length : Int) ∧ ro = true) := fun h1 h2 => by
    have e : zfO L nl = true := by unfold zfO; rw [h1, h2]; rfl
    exact ⟨HRN.out.trans (by unfold zfN; rw [e]; rfl), HRO.out.trans e⟩
  clear HRN HRO
  cases hN : nameB nl with
  | false =>
    have HF : Hid (rn = 0 ∧ ro = false) := HNO.out hN
    rw [hN] at HN
    clear HNO HWO HYES hN
    obtain ⟨k0, hbw⟩ := HCB.out _ hB0
    go_enter Tryz.func14, Tryz.ntmps14
    go_wp2_with fail
    rw [HWB.out]
    refine (HN.out _ hbw).mono ?_
    rintro e w1 ⟨rfl, hb1⟩
    have hbw1 := hbw.trans (hb1.mono hbw.size)
    go_wp2_with fail
    go_ret2
    exact ⟨zret2 HF.out.1.symm HF.out.2.symm, hbw1⟩
  | true =>
  rw [hN] at HN
  cases hG : worldB L with
  | false =>
    have HF : Hid (rn = 0 ∧ ro = false) := HWO.out hG
    rw [hG] at HG
    clear HNO HWO HYES hG
    obtain ⟨k0, hbw⟩ := HCB.out _ hB0
    go_enter Tryz.func14, Tryz.ntmps14
    go_wp2_with fail
    rw [HWB.out]
    refine (HN.out _ hbw).mono ?_
    rintro e w1 ⟨rfl, hb1⟩
    have hbw1 := hbw.trans (hb1.mono hbw.size)
    have hB1 : Below WB.heap.size WB w1 := hb1
    obtain ⟨k1, _⟩ := HCB.out _ hB1
    clear k0
    go_wp2_with fail
    refine (HG.out _ hbw1).mono ?_
    rintro e w2 ⟨rfl, hb2⟩
    have hbw2 := hbw1.trans (hb2.mono hbw1.size)
    go_wp2_with fail
    go_ret2
    exact ⟨zret2 HF.out.1.symm HF.out.2.symm, hbw2⟩
  | true =>
  rw [hG] at HG
  have HF : Hid (rn = (lastZ L nl L.length : Int) ∧ ro = true) := HYES.out hN hG
  have HWG : Hid (worldB L = true ∧ nameB nl = true) := ⟨hG, hN⟩
  have hwf := world_facts hG
  have hpos : 0 < L.length := hwf.1.1
  have hlen : L.length ≤ 6 := hwf.1.2
  obtain ⟨b, o, ha, hbl, hcel⟩ := HROW.out hpos
  subst ha
  clear HNO HWO HYES hN hG hwf HROW
  obtain ⟨k0, hbw⟩ := HCB.out _ hB0
  go_enter Tryz.func14, Tryz.ntmps14
  go_wp2_with fail
  rw [HWB.out]
  refine (HN.out _ hbw).mono ?_
  rintro e w1 ⟨rfl, hb1⟩
  have hbw1 := hbw.trans (hb1.mono hbw.size)
  have hB1 : Below WB.heap.size WB w1 := hb1
  obtain ⟨k1, _⟩ := HCB.out _ hB1
  clear k0
  go_wp2_with fail
  refine (HG.out _ hbw1).mono ?_
  rintro e w2 ⟨rfl, hb2⟩
  have hB2 : Below WB.heap.size WB w2 := hB1.trans (hb2.mono hB1.size)
  obtain ⟨k2, _⟩ := HCB.out _ hB2
  clear hb1 hb2 hbw1 hbw HN HG
  go_wp2_with fail
  clear k2
  go_loopw [6, 20] (fun at' i wr => ∃ k : Nat, k ≤ L.length ∧ i = .int .i64 (k : Int) ∧ at' = .int .i64 (lastZ L nl k : Int) ∧ Below WB.heap.size WB wr) (fun _ i _ => L.length - (intOf i).toNat)
  case atStart => exact ⟨0, Nat.zero_le _, rfl, rfl, hB2⟩
  case round =>
    obtain ⟨k, hk, rfl, rfl, hbB⟩ := hrel
    have hb : Below w.heap.size w wr := (HCB.out wr hbB).2
    by_cases hlt : k < L.length
    · obtain ⟨va, hcx0⟩ := hcel k hlt
      have hcx := hcx0.kept hb
      have hxl := hx.out _ (List.getElem_mem hlt)
      have HZK : Hid (zO L k = L[k]'hlt) := zO_at hlt
      have HYS : Hid (belowB nl (zO L k).1 = true → lastZ L nl (k + 1) = k) := fun h => lastZ_yes h
      have HNS : Hid (belowB nl (zO L k).1 = false → lastZ L nl (k + 1) = lastZ L nl k) := fun h => lastZ_no h
      rw [HZK.out] at HYS HNS
      obtain ⟨x, hxe⟩ : ∃ x, x = L[k]'hlt := ⟨_, rfl⟩
      rw [← hxe] at hcx hxl HYS HNS
      clear hxe hcx0 hcel HZK
      obtain ⟨nm, ct, R⟩ := x
      simp only at HYS HNS
      have hz : RRow wr va R := hcx.2.2.2
      unfold ZonAt at hcx
      obtain ⟨c0, c1, c2, _⟩ := hcx
      obtain ⟨aa, ca, rfl, hca1, hca, _⟩ := id hz
      have hnm : nm.length ≤ 1048576 := hxl.1
      have hlk : (k : Int) < (L.length : Int) := by omega
      obtain ⟨m, hm⟩ : ∃ m, m = lastZ L nl k := ⟨_, rfl⟩
      rw [← hm] at HNS ⊢
      clear hm hz hxl
      have HLB : Hid (∀ W, Calls Tryz.prog 42 #[.string ⟨nl.toArray⟩, .string ⟨nm.toArray⟩] W fun e w' => e = .returned (.bool (belowB nl nm)) ∧ w' = W) := fun W => liesBelow_any ⟨nl.toArray⟩ ⟨nm.toArray⟩ W (by rw [size_list]; omega) (by rw [size_list]; omega)
      have hbA : Below WB.heap.size WB (wr.alloc (.cells #[.string ⟨nm.toArray⟩, .int .i64 ct, .slice aa R.length ca] 52)) := hbB.alloc hbB.size _
      cases hbl2 : belowB nl nm with
      | true =>
        have HK : Hid (lastZ L nl (k + 1) = k) := HYS.out hbl2
        rw [hbl2] at HLB
        clear HYS HNS hbl2
        go_wp2_with fail
        refine (HLB.out _).mono ?_
        rintro e w3 ⟨rfl, hw3⟩
        rw [hw3]
        clear hw3
        go_wp2_with fail
        go_roundw
        case rel => exact ⟨k + 1, by omega, by go_num, by rw [HK.out], hbA⟩
        case measure => simp [intOf]; omega
      | false =>
        have HK : Hid (lastZ L nl (k + 1) = m) := HNS.out hbl2
        rw [hbl2] at HLB
        clear HYS HNS hbl2
        go_wp2_with fail
        refine (HLB.out _).mono ?_
        rintro e w3 ⟨rfl, hw3⟩
        rw [hw3]
        clear hw3
        go_wp2_with fail
        go_roundw
        case rel => exact ⟨k + 1, by omega, by go_num, by rw [HK.out], hbA⟩
        case measure => simp [intOf]; omega
    · have hkl : k = L.length := by omega
      have HKL : Hid (lastZ L nl k = lastZ L nl L.length) := by show _ = _; rw [hkl]
      clear hkl
      go_wp2_with fail
      go_ret2
      exact ⟨zret2 (by rw [HKL.out]; exact HF.out.1.symm) HF.out.2.symm, hb⟩
end Go.Proofs.YtgfldenhhogpbaaGreatDoor
