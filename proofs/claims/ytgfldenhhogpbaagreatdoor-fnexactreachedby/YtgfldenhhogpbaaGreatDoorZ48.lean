import Derived.Test.YtgfldenhhogpbaaGreatDoorZ42
import Derived.Test.YtgfldenhhogpbaaGreatDoorZ47
import Derived.Test.YtgfldenhhogpbaaGreatDoorZ38
import Derived.Test.YtgfldenhhogpbaaGreatDoorZ06
namespace Go.Proofs.YtgfldenhhogpbaaGreatDoor
open Go.RowKit

set_option maxRecDepth 20000 in
set_option maxHeartbeats 2000000 in
theorem l11At_any (v : Value) (L : List ZonT) (c : List UInt8) (w : World) (hr : ZnRow w v L) (hl : L.length ≤ 1048576) :
    Calls Tryz.prog 47 #[.agg #[v], .string ⟨c.toArray⟩] w fun e w' => e = .returned (.int .i64 (numO (atI L c))) ∧ Below w.heap.size w w' := by
  obtain ⟨a, cap, rfl, hcap, hmax, HROW⟩ := znrow_value hr
  clear hr
  obtain ⟨r, hrr⟩ : ∃ r, r = numO (atI L c) := ⟨_, rfl⟩
  have HYES : Hid (∀ k, (hk : k < L.length) → (L[k]'hk).1 = c → (∀ j, j < k → (zO L j).1 ≠ c) → r = (k : Int)) := fun k hk h1 h2 => hrr.trans (by rw [atI_of hk h1 h2]; rfl)
  have HNO : Hid ((∀ j, j < L.length → (zO L j).1 ≠ c) → r = -1) := fun h => hrr.trans (by rw [atI_no h]; rfl)
  rw [← hrr]
  clear hrr
  obtain ⟨WB, hWB⟩ : ∃ W, W = w.alloc (.cells #[.slice a L.length cap] 29) := ⟨_, rfl⟩
  have HWB : Hid (w.alloc (.cells #[.slice a L.length cap] 29) = WB) := hWB.symm
  have HCB : Hid (∀ W, Below WB.heap.size WB W → W.cell? ⟨w.heap.size, 0, none⟩ = some (.slice a L.length cap) ∧ Below w.heap.size w W) := fun W hW => by rw [hWB] at hW; exact box1w hW
  clear hWB
  obtain ⟨k0, hbw⟩ := HCB.out _ (Below.refl _ _)
  go_enter Tryz.func47, Tryz.ntmps47
  go_wp2_with fail
  rw [HWB.out]
  clear k0 hbw
  go_loopw [10] (fun i wr => ∃ k : Nat, k ≤ L.length ∧ i = .int .i64 (k : Int) ∧ Hid (∀ j, j < k → (zO L j).1 ≠ c) ∧ Below WB.heap.size WB wr) (fun i _ => L.length - (intOf i).toNat)
  case atStart => exact ⟨0, Nat.zero_le _, rfl, fun j h => absurd h (Nat.not_lt_zero _), Below.refl _ _⟩
  case round =>
    obtain ⟨k, hk, rfl, HA, hbB⟩ := hrel
    have hb : Below w.heap.size w wr := (HCB.out wr hbB).2
    by_cases hlt : k < L.length
    · obtain ⟨b, o, ha, hbl, hcel⟩ := HROW.out (by omega)
      subst ha
      obtain ⟨va, hcx0⟩ := hcel k hlt
      have hcx := hcx0.kept hb
      have HY1 : Hid ((L[k]'hlt).1 = c → r = (k : Int)) := fun h => HYES.out k hlt h HA.out
      have HN1 : Hid ((L[k]'hlt).1 ≠ c → ∀ j, j < k + 1 → (zO L j).1 ≠ c) := fun h j hj => by
        by_cases e : j = k
        · subst e; rw [zO_at hlt]; exact h
        · exact HA.out j (by omega)
      obtain ⟨x, hxe⟩ : ∃ x, x = L[k]'hlt := ⟨_, rfl⟩
      rw [← hxe] at hcx HY1 HN1
      clear hxe hcx0 hcel HYES HNO HA
      obtain ⟨nm, ct, R⟩ := x
      simp only at HY1 HN1
      have hz : RRow wr va R := hcx.2.2.2
      unfold ZonAt at hcx
      obtain ⟨c0, c1, c2, _⟩ := hcx
      obtain ⟨aa, ca, rfl, hca1, hca, _⟩ := id hz
      have hlk : (k : Int) < (L.length : Int) := by omega
      have hbA : Below WB.heap.size WB (wr.alloc (.cells #[.string ⟨nm.toArray⟩, .int .i64 ct, .slice aa R.length ca] 52)) := hbB.alloc hbB.size _
      have hbA2 := (HCB.out _ hbA).2
      clear hz
      by_cases ge : nm = c
      · have HF : Hid (r = (k : Int)) := HY1.out ge
        have eq : (nm == c) = true := by simpa using ge
        clear HY1 HN1 ge
        go_wp2_with fail
        go_ret
        exact ⟨ret_int HF.out.symm, hbA2⟩
      · have HU := HN1.out ge
        have HU2 : Hid (∀ j, j < k + 1 → (zO L j).1 ≠ c) := HU
        have eq : (nm == c) = false := by simpa using ge
        clear HY1 HN1 ge HU
        go_wp2_with fail
        go_roundw
        case rel => exact ⟨k + 1, by omega, by go_num, HU2, hbA⟩
        case measure => simp [intOf]; omega
    · have HF : Hid (r = -1) := HNO.out (fun j hj => HA.out j (by omega))
      go_wp2_with fail
      go_ret
      exact ⟨ret_int HF.out.symm, hb⟩

set_option maxRecDepth 20000 in
set_option maxHeartbeats 4000000 in
theorem l11Next_any (v : Value) (L : List ZonT) (k : Nat) (n : List UInt8) (w : World) (hr : ZnRow w v L) (hw : Hid (worldB L = true ∧ nameB n = true)) (hk : k < L.length) (hbn : Hid (belowB n (zO L k).1 = true)) :
    Calls Tryz.prog 43 #[.agg #[v], .int .i64 (k : Int), .string ⟨n.toArray⟩] w fun e w' => e = .returned (.int .i64 (numO (nextZ L n k))) ∧ Below w.heap.size w w' := by
  have hl6 : L.length ≤ 6 := (world_facts hw.out.1).1.2
  have HAT : Hid (∀ c W, Below w.heap.size w W → Calls Tryz.prog 47 #[.agg #[v], .string ⟨c.toArray⟩] W fun e w' => e = .returned (.int .i64 (numO (atI L c))) ∧ Below W.heap.size W w') := fun c W hW => l11At_any v L c W (hr.kept hW) (by omega)
  obtain ⟨a, cap, rfl, hcap, hmax, HROW⟩ := znrow_value hr
  clear hr
  obtain ⟨r, hrr⟩ : ∃ r, r = numO (nextZ L n k) := ⟨_, rfl⟩
  rw [← hrr]
  obtain ⟨b, o, ha, hbl, hcel⟩ := HROW.out (by omega)
  subst ha
  obtain ⟨va, hcx⟩ := hcel k hk
  have HRN : Hid (r = if (cutT (L[k]'hk).1 (L[k]'hk).2.2 n).2 = true then numO (atI L (cutT (L[k]'hk).1 (L[k]'hk).2.2 n).1) else -1) := hrr.trans (by
    unfold nextZ
    rw [zO_at hk]
    cases (cutT (L[k]'hk).1 (L[k]'hk).2.2 n).2 <;> rfl)
  have hzk : zoneB (L[k]'hk).1 (L[k]'hk).2.1 (L[k]'hk).2.2 = true := (world_facts hw.out.1).2.2.1 k hk
  have hbk : belowB n (L[k]'hk).1 = true := by have h := hbn.out; rw [zO_at hk] at h; exact h
  obtain ⟨x, hxe⟩ : ∃ x, x = L[k]'hk := ⟨_, rfl⟩
  rw [← hxe] at HRN hzk hbk hcx
  obtain ⟨nm, ct, R⟩ := x
  simp only at HRN hzk hbk
  have hz : RRow w va R := hcx.2.2.2
  have hcx2 := hcx
  unfold ZonAt at hcx2
  obtain ⟨c0, c1, c2, _⟩ := hcx2
  obtain ⟨hap, hg, hri, hal, _, _⟩ := zone_facts hzk
  obtain ⟨aa, ca, rfl, hca1, hca, _⟩ := id hz
  have HCUT : Hid (∀ W, Below w.heap.size w W → Calls Tryz.prog 67 #[.string ⟨nm.toArray⟩, .slice aa R.length ca, .string ⟨n.toArray⟩] W fun e w' => e = .returned (.tuple #[.string ⟨(cutT nm R n).1.toArray⟩, .bool (cutT nm R n).2]) ∧ Below W.heap.size W w') := fun W hW => by
    have h := l6Cut_any ⟨nm.toArray⟩ (.slice aa R.length ca) R ⟨n.toArray⟩ W (hz.kept hW) ⟨hw.out.2, hap, hbk⟩
    have e : cutV n (zcutJ R n (upN nm n)) = cutT nm R n := cutT_same hap hw.out.2 hg hri hal
    have h2 : Calls Tryz.prog 67 #[.string ⟨nm.toArray⟩, .slice aa R.length ca, .string ⟨n.toArray⟩] W fun e w' => e = .returned (.tuple #[.string ⟨(cutV n (zcutJ R n (upN nm n))).1.toArray⟩, .bool (cutV n (zcutJ R n (upN nm n))).2]) ∧ Below W.heap.size W w' := h
    rw [e] at h2
    exact h2
  obtain ⟨q, hq⟩ : ∃ q, q = cutT nm R n := ⟨_, rfl⟩
  rw [← hq] at HCUT HRN
  obtain ⟨cu, cb⟩ := q
  simp only at HCUT HRN
  have HAT2 : Hid (∀ W, Below w.heap.size w W → Calls Tryz.prog 47 #[.agg #[.slice (some ⟨b, o, none⟩) L.length cap], .string ⟨cu.toArray⟩] W fun e w' => e = .returned (.int .i64 (numO (atI L cu))) ∧ Below W.heap.size W w') := HAT.out cu
  obtain ⟨m, hm⟩ : ∃ m, m = numO (atI L cu) := ⟨_, rfl⟩
  rw [← hm] at HAT2 HRN
  have HB2 : Hid (∀ W, Below ((w.alloc (.cells #[.slice (some ⟨b, o, none⟩) L.length cap] 29)).alloc (.cells #[.string ⟨nm.toArray⟩, .int .i64 ct, .slice aa R.length ca] 52)).heap.size ((w.alloc (.cells #[.slice (some ⟨b, o, none⟩) L.length cap] 29)).alloc (.cells #[.string ⟨nm.toArray⟩, .int .i64 ct, .slice aa R.length ca] 52)) W → W.cell? ⟨w.heap.size, 0, none⟩ = some (.slice (some ⟨b, o, none⟩) L.length cap) ∧ Below w.heap.size w W) := fun W hW => by
    have h1 := hW.mono (B' := (w.alloc (.cells #[.slice (some ⟨b, o, none⟩) L.length cap] 29)).heap.size) (by simp)
    exact box1w (((Below.refl _ _).alloc (Nat.le_refl _) _).trans h1)
  have hb2 : Below w.heap.size w ((w.alloc (.cells #[.slice (some ⟨b, o, none⟩) L.length cap] 29)).alloc (.cells #[.string ⟨nm.toArray⟩, .int .i64 ct, .slice aa R.length ca] 52)) := ((Below.refl _ _).alloc (Nat.le_refl _) _).alloc (by simp) _
  have hki : (k : Int) < (L.length : Int) := by omega
  clear hm hq hxe hcx hcel hzk hbk hap hg hri hal hz hrr HAT HROW hw hbn
  go_enter Tryz.func43, Tryz.ntmps43
  go_wp2_with fail
  refine (HCUT.out _ hb2).mono ?_
  rintro e w1 ⟨rfl, hb1⟩
  obtain ⟨k1, hbw1⟩ := HB2.out _ hb1
  cases cb with
  | false =>
    have HF : Hid (r = -1) := HRN.out
    clear HRN
    go_wp2_with fail
    go_ret
    exact ⟨ret_int HF.out.symm, hbw1⟩
  | true =>
    have HF : Hid (r = m) := HRN.out
    clear HRN
    go_wp2_with fail
    refine (HAT2.out _ hbw1).mono ?_
    rintro e w2 ⟨rfl, hb3⟩
    have hbw2 := hbw1.trans (hb3.mono hbw1.size)
    go_wp2_with fail
    go_ret
    exact ⟨ret_int HF.out.symm, hbw2⟩

set_option maxRecDepth 20000 in
set_option maxHeartbeats 8000000 in
theorem sReachedBy_any (v : Value) (L : List ZonT) (n : ByteArray) (w : World) (hr : ZnRow w v L) (hx : Hid (∀ x ∈ L, ZBig x)) (hn : n.size ≤ 1048576) :
    Calls Tryz.prog 15 #[WldV v, .string n] w fun e w' => (∃ u, e = .returned (.tuple #[u, .bool (rchO L n.data.toList)]) ∧ OwnS w' w.heap.size u (rchL L n.data.toList)) ∧ Below w.heap.size w w' := by
  have HG : Hid (∀ W, Below w.heap.size w W → Calls Tryz.prog 9 #[WldV v] W fun e w' => e = .returned (.bool (worldB L)) ∧ Below W.heap.size W w') := fun W hW => sGoodWorld_any v L W (hr.kept hW) hx
  obtain ⟨nl, hnl⟩ : ∃ nl, nl = n.data.toList := ⟨_, rfl⟩
  obtain rfl : n = ⟨nl.toArray⟩ := data_eq hnl.symm
  clear hnl
  rw [size_list] at hn
  have HN : Hid (∀ W, Calls Tryz.prog 38 #[.string ⟨nl.toArray⟩] W fun e w' => e = .returned (.bool (nameB nl)) ∧ Below W.heap.size W w') := fun W => sGoodName_any ⟨nl.toArray⟩ W (by rw [size_list]; omega)
  show Calls Tryz.prog 15 _ w fun e w' => (∃ u, e = .returned (.tuple #[u, .bool (rchO L nl)]) ∧ OwnS w' w.heap.size u (rchL L nl)) ∧ Below w.heap.size w w'
  have HNX : Hid (worldB L = true → nameB nl = true → ∀ k W, Below w.heap.size w W → k < L.length → belowB nl (zO L k).1 = true → Calls Tryz.prog 43 #[.agg #[v], .int .i64 (k : Int), .string ⟨nl.toArray⟩] W fun e w' => e = .returned (.int .i64 (numO (nextZ L nl k))) ∧ Below W.heap.size W w') := fun h1 h2 k W hW hk hb => l11Next_any v L k nl W (hr.kept hW) ⟨h1, h2⟩ hk hb
  unfold WldV at HG ⊢
  obtain ⟨a, cap, rfl, hcap, hmax, HROW⟩ := znrow_value hr
  clear hr
  obtain ⟨ro, hro⟩ : ∃ r, r = rchO L nl := ⟨_, rfl⟩
  obtain ⟨rl, hrl⟩ : ∃ r, r = rchL L nl := ⟨_, rfl⟩
  have HOFF : Hid (rchO L nl = false → ro = false ∧ rl = []) := fun h => ⟨hro.trans h, hrl.trans (by unfold rchL; rw [h]; rfl)⟩
  have HON : Hid (nameB nl = true → worldB L = true → ro = true ∧ rl = reach L nl) := fun h1 h2 => by
    have e : rchO L nl = true := by unfold rchO; rw [h1, h2]; rfl
    exact ⟨hro.trans e, hrl.trans (by unfold rchL; rw [e]; rfl)⟩
  rw [← hro, ← hrl]
  clear hro hrl
  obtain ⟨WB, hWB⟩ : ∃ W, W = w.alloc (.cells #[.slice a L.length cap] 29) := ⟨_, rfl⟩
  have HWB : Hid (w.alloc (.cells #[.slice a L.length cap] 29) = WB) := hWB.symm
  have HCB : Hid (∀ W, Below WB.heap.size WB W → W.cell? ⟨w.heap.size, 0, none⟩ = some (.slice a L.length cap) ∧ Below w.heap.size w W) := fun W hW => by rw [hWB] at hW; exact box1w hW
  have HZB : Hid (w.heap.size ≤ WB.heap.size) := by rw [hWB]; show w.heap.size ≤ _; simp
  clear hWB
  have hB0 : Below WB.heap.size WB WB := Below.refl _ _
  cases hG : worldB L with
  | false =>
    have HF : Hid (ro = false ∧ rl = []) := HOFF.out (by unfold rchO; rw [hG]; simp)
    rw [hG] at HG
    clear HOFF HON hG HNX
    obtain ⟨k0, hbw⟩ := HCB.out _ hB0
    go_enter Tryz.func15, Tryz.ntmps15
    go_wp2_with fail
    rw [HWB.out]
    refine (HG.out _ hbw).mono ?_
    rintro e w2 ⟨rfl, hb2⟩
    have hbw2 := hbw.trans (hb2.mono hbw.size)
    go_wp2_with fail
    go_ret2
    exact ⟨⟨_, by rw [HF.out.1]; rfl, by rw [HF.out.2]; exact .inl ⟨rfl, rfl⟩⟩, hbw2⟩
  | true =>
  rw [hG] at HG
  cases hN : nameB nl with
  | false =>
    have HF : Hid (ro = false ∧ rl = []) := HOFF.out (by unfold rchO; rw [hN]; rfl)
    rw [hN] at HN
    clear HOFF HON hN hG HNX
    obtain ⟨k0, hbw⟩ := HCB.out _ hB0
    go_enter Tryz.func15, Tryz.ntmps15
    go_wp2_with fail
    rw [HWB.out]
    refine (HG.out _ hbw).mono ?_
    rintro e w1 ⟨rfl, hb1⟩
    have hbw1 := hbw.trans (hb1.mono hbw.size)
    go_wp2_with fail
    refine (HN.out _).mono ?_
    rintro e w2 ⟨rfl, hb2⟩
    have hbw2 := hbw1.trans (hb2.mono hbw1.size)
    go_wp2_with fail
    go_ret2
    exact ⟨⟨_, by rw [HF.out.1]; rfl, by rw [HF.out.2]; exact .inl ⟨rfl, rfl⟩⟩, hbw2⟩
  | true =>
  rw [hN] at HN
  have HF : Hid (ro = true ∧ rl = reach L nl) := HON.out hN hG
  have HNX2 : Hid (∀ k W, Below w.heap.size w W → k < L.length → belowB nl (zO L k).1 = true → Calls Tryz.prog 43 #[.agg #[.slice a L.length cap], .int .i64 (k : Int), .string ⟨nl.toArray⟩] W fun e w' => e = .returned (.int .i64 (numO (nextZ L nl k))) ∧ Below W.heap.size W w') := HNX.out hG hN
  have HWG : Hid (worldB L = true) := hG
  obtain ⟨hpos, hroot⟩ := root_at hG
  have hl6 : L.length ≤ 6 := (world_facts hG).1.2
  have HB0 : Hid (belowB nl (zO L 0).1 = true) := by show _ = true; rw [hroot]; exact below_root nl
  clear HOFF HON hN hG HNX hroot
  obtain ⟨i0, hi, hz0, hz1, hz2⟩ := info_parts info_string
  obtain ⟨k0, hbw⟩ := HCB.out _ hB0
  go_enter Tryz.func15, Tryz.ntmps15
  go_wp2_with fail
  rw [HWB.out]
  refine (HG.out _ hbw).mono ?_
  rintro e w1 ⟨rfl, hb1⟩
  have hbw1 := hbw.trans (hb1.mono hbw.size)
  have hB1 : Below WB.heap.size WB w1 := hb1
  clear k0
  go_wp2_with fail
  refine (HN.out _).mono ?_
  rintro e w2 ⟨rfl, hb2⟩
  have hB2 : Below WB.heap.size WB w2 := hB1.trans (hb2.mono hB1.size)
  obtain ⟨k2, hbw2⟩ := HCB.out _ hB2
  clear hb1 hb2 hbw1 hbw HN HG hB1
  have HOW : Hid ((w2.alloc (.cells #[.string ⟨#[]⟩] 9)).ownsRow WB.heap.size 9 1 (.slice (some ⟨w2.heap.size, 0, none⟩) 1 1) ([[]] : List (List UInt8)).length (([[]] : List (List UInt8)).map S)) := World.ownsRow_lit w2 #[.string ⟨#[]⟩] 1 hB2.size (by unfold maxLen; omega) rfl
  have hB3 : Below WB.heap.size WB (w2.alloc (.cells #[.string ⟨#[]⟩] 9)) := hB2.alloc hB2.size _
  obtain ⟨k3, hbw3⟩ := HCB.out _ hB3
  have HC0 : Hid (∀ W, Below w.heap.size w W → Calls Tryz.prog 43 #[.agg #[.slice a L.length cap], .int .i64 0, .string ⟨nl.toArray⟩] W fun e w' => e = .returned (.int .i64 (numO (nextZ L nl 0))) ∧ Below W.heap.size W w') := fun W hW => HNX2.out 0 W hW hpos HB0.out
  obtain ⟨m0, hm0⟩ : ∃ m, m = numO (nextZ L nl 0) := ⟨_, rfl⟩
  have HM0 : Hid (m0 = numO (nextZ L nl 0)) := hm0
  rw [← hm0] at HC0
  clear hm0
  go_wp2_with fail
  refine (HC0.out _ hbw3).mono ?_
  rintro e w4 ⟨rfl, hb4⟩
  have hB4 : Below WB.heap.size WB w4 := hB3.trans (hb4.mono hB3.size)
  have HO4 : Hid (w4.ownsRow WB.heap.size 9 1 (.slice (some ⟨w2.heap.size, 0, none⟩) 1 1) ([[]] : List (List UInt8)).length (([[]] : List (List UInt8)).map S)) := own_below HOW.out hb4
  clear k2 k3 hb4 HOW hbw3 hbw2 hB2 hB3 HC0
  go_wp2_with fail
  go_loopw [6, 7] (fun out kv wr => ∃ (k f : Nat) (D : List (List UInt8)) (vo : Value) (m : Int), k < L.length ∧ L.length ≤ f + k ∧ D.length ≤ k + 1 ∧ out = vo ∧ kv = .int .i64 m ∧ Hid (m = numO (nextZ L nl k)) ∧ Hid (reach L nl = D ++ reachL f L nl k) ∧ Hid (belowB nl (zO L k).1 = true) ∧ Hid (wr.ownsRow WB.heap.size 9 1 vo D.length (D.map S)) ∧ Below WB.heap.size WB wr) (fun out _ _ => 8 - lenS out)
  case atStart => exact ⟨0, L.length, [[]], _, m0, hpos, by omega, by simp, rfl, rfl, HM0.out, rfl, HB0.out, HO4.out, hB4⟩
  case round =>
    obtain ⟨k, f, D, vo, m, hk, hf, hD, rfl, rfl, HM, HT, HB, HO, hbB⟩ := hrel
    obtain ⟨k5, hb⟩ := HCB.out wr hbB
    obtain ⟨ao, co, hvo⟩ := own1_slice HO.out
    subst hvo
    cases hX : nextZ L nl k with
    | none =>
      have HE : Hid (rl = D) := HF.out.2.trans (by rw [HT.out, reachL_none hX, List.append_nil])
      have HR : Hid (OwnS wr w.heap.size (.slice ao D.length co) D) := rch_base (owns_S HO.out) HZB.out
      have hme : m = -1 := HM.out.trans (by rw [hX]; rfl)
      subst hme
      clear HT HB HO hX HM
      go_wp2_with fail
      go_ret2
      exact ⟨⟨_, by rw [HF.out.1]; rfl, by rw [HE.out]; exact HR.out⟩, hb⟩
    | some j =>
      obtain ⟨hj, hkj, hbj, _, _, _⟩ := next_facts HWG.out hk hX
      obtain ⟨f', rfl⟩ : ∃ f', f = f' + 1 := ⟨f - 1, by omega⟩
      have HT2 : Hid (reach L nl = (D ++ [(zO L j).1]) ++ reachL f' L nl j) := by show _ = _; rw [HT.out, reachL_some hX, List.append_assoc]; rfl
      have HBJ : Hid (belowB nl (zO L j).1 = true) := hbj
      obtain ⟨b, o, ha, hbl, hcel⟩ := HROW.out (by omega)
      subst ha
      obtain ⟨va, hcx0⟩ := hcel j hj
      have c0 : wr.cell? ⟨b, o + j * 3, none⟩ = some (.string ⟨(zO L j).1.toArray⟩) := by rw [zO_at hj]; exact (hcx0.kept hb).1
      have HCJ : Hid (∀ W, Below w.heap.size w W → Calls Tryz.prog 43 #[.agg #[.slice (some ⟨b, o, none⟩) L.length cap], .int .i64 (j : Int), .string ⟨nl.toArray⟩] W fun e w' => e = .returned (.int .i64 (numO (nextZ L nl j))) ∧ Below W.heap.size W w') := fun W hW => HNX2.out j W hW hj hbj
      obtain ⟨t, ht⟩ : ∃ t, t = (zO L j).1 := ⟨_, rfl⟩
      rw [← ht] at c0 HT2
      have hji : (j : Int) < (L.length : Int) := by omega
      have hj0 : (0 : Int) ≤ (j : Int) := by omega
      have hown := HO.out
      have hzw := hbB.size
      have hD6 : D.length ≤ 6 := by omega
      have hme : m = (j : Int) := HM.out.trans (by rw [hX]; rfl)
      subst hme
      obtain ⟨m2, hm2⟩ : ∃ m, m = numO (nextZ L nl j) := ⟨_, rfl⟩
      have HM2 : Hid (m2 = numO (nextZ L nl j)) := hm2
      rw [← hm2] at HCJ
      clear HT HB HO hX hcel hcx0 ht hbj HM hm2
      go_wp2_with (at_builtin; refine wpList_append_own _ rfl (.tmp 26) (.tmp 33) 36 rfl WB.heap.size 9 i0 (.string ByteArray.empty) 1 16 Tryz.underlying36 hi hz0 hz1 hz2 rfl (by decide) _ _ _ rfl (hown.alloc _) ⟨wr.heap.size, 0, none⟩ 1 1 [.string ⟨t.toArray⟩] rfl rfl ?c1 ?c2 ?c3 ?c4 ?c5 ?_)
      case c1 => exact (by have h := cell_new_one wr (.string ⟨t.toArray⟩) 9; simpa using h)
      case c2 => exact one_string _
      case c3 => unfold maxLen; omega
      case c4 => omega
      case c5 => simp at hzw ⊢; omega
      intro v4 w5 hown4 hgrow4 _
      have hB5 : Below WB.heap.size WB w5 := below_append hbB hown hgrow4
      have HO5 : Hid (w5.ownsRow WB.heap.size 9 1 v4 (D ++ [t]).length ((D ++ [t]).map S)) := by
        show w5.ownsRow WB.heap.size 9 1 v4 (D ++ [t]).length ((D ++ [t]).map S)
        rw [List.length_append, List.map_append]
        exact hown4
      obtain ⟨k6, hb6⟩ := HCB.out _ hB5
      clear hown hown4 hgrow4 c0
      go_wp2_with fail
      refine (HCJ.out _ hb6).mono ?_
      rintro e w7 ⟨rfl, hb7⟩
      have hB7 : Below WB.heap.size WB w7 := hB5.trans (hb7.mono hB5.size)
      have HO7 : Hid (w7.ownsRow WB.heap.size 9 1 v4 (D ++ [t]).length ((D ++ [t]).map S)) := own_below HO5.out hb7
      obtain ⟨a4, c4, hv4⟩ := own1_slice HO7.out
      have e1 : (D ++ [t]).length = D.length + 1 := by simp
      rw [e1] at hv4
      subst hv4
      clear k6 HO5 hb7
      go_wp2_with fail
      go_roundw
      case rel => exact ⟨j, f', D ++ [t], _, m2, hj, by omega, by simp; omega, rfl, rfl, HM2, HT2, HBJ, HO7, hB7⟩
      case measure => simp [lenS]; omega
end Go.Proofs.YtgfldenhhogpbaaGreatDoor
