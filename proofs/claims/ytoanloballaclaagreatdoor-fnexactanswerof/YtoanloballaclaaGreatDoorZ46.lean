import Derived.Test.YtoanloballaclaaGreatDoorZ41
import Derived.Test.YtoanloballaclaaGreatDoorZ39
import Derived.Test.YtoanloballaclaaGreatDoorZ43
import Derived.Test.YtoanloballaclaaGreatDoorZ45
namespace Go.Proofs.YtoanloballaclaaGreatDoor
open Go.RowKit

theorem ownc_row {w : World} {base : Nat} {v : Value} {O : List ColT} (h : OwnC w base v O) : ColRow w v O := by
  rcases h with ⟨rfl, rfl⟩ | ⟨g, cap, rfl, h1, h2, _, hs⟩
  · exact ⟨none, 0, rfl, Nat.le_refl _, Nat.zero_le _, .inl rfl⟩
  · exact hs.row h1 h2
theorem made_wt {w w1 : World} {P : List Int} {n : Nat} (hn : P.length = n) (h : w1.ownsRow w.heap.size 3 1 (.slice (some ⟨w.heap.size, 0, none⟩) n n) n (madeCells #[.int .i64 0] n).toList) : ZSRow w1 w.heap.size (partZ P 0) := by
  subst hn; exact made_zs h
theorem partZ_wt {L : List TgtT} {C : List Int} {j i : Nat} (hj : j < C.length) (hi : i < L.length) (e : C[j] = (i : Int)) : partZ (wtsL L C) (j + 1) = (partZ (wtsL L C) j).set j (L[i]).2.2.2 := by
  rw [partZ_next _ _ (by rw [wtsL_length]; exact hj), wtsL_get hj hi e]
theorem partZ_all {L : List TgtT} {C : List Int} : partZ (wtsL L C) C.length = wtsL L C := by
  have h := partZ_end (wtsL L C)
  rw [wtsL_length] at h; exact h

set_option maxRecDepth 20000 in
set_option maxHeartbeats 8000000 in
theorem pick_any (v : Value) (L : List TgtT) (C : List Int) (gA d : Int) (u : Value) (w : World) (hr : TgtRow w v L) (hzr : ZRow .i64 w u C) (hcl : C.length ≤ 12) (hm : Hid (∀ x ∈ C, ∃ i : Nat, ∃ _ : i < L.length, x = (i : Int))) (hg : goodW (wtsL L C) = true) (hd : 0 ≤ d) :
    Calls Tryz.prog 51 #[.agg #[.int .i64 gA, u], v, .int .i64 d] w fun e w' => e = .returned (.int .i64 (C.getD (chK (wtsL L C) d) 0)) ∧ Below w.heap.size w w' := by
  obtain ⟨i0, hi, hz0, hz1, hz2⟩ := info_parts info_int
  have hch := ch_at hg hd
  have hfc := ali_facts hg
  have HGW : Hid (goodW (wtsL L C) = true) := hg
  have hwl := wtsL_length L C
  have HAL : Hid ((aliL (wtsL L C)).length = C.length) := by show _ = _; rw [ali_length, hwl]
  have hall : (wtsL L C).all smB = true := all_sm (goodW_parts hg).2.1
  have HSUM : Hid (∀ g W, ZSRow W g (wtsL L C) → Calls Tryz.prog 52 #[.slice (some ⟨g, 0, none⟩) C.length C.length] W fun e w' => e = .returned (.int .i64 (wtsL L C).sum) ∧ w' = W) := fun g W h => by
    have h2 := sumOf_any (.slice (some ⟨g, 0, none⟩) (wtsL L C).length (wtsL L C).length) (wtsL L C) W (h.row (by rw [hwl]; omega)) (by rw [hwl]; omega) hall
    rw [hwl] at h2; exact h2
  have HALI : Hid (∀ g W, ZSRow W g (wtsL L C) → Calls Tryz.prog 77 #[.slice (some ⟨g, 0, none⟩) C.length C.length] W fun e w' => (∃ x, e = .returned (.tuple #[x, .bool true]) ∧ ColRow w' x (aliL (wtsL L C))) ∧ Below W.heap.size W w') := fun g W h => by
    have h2 := iAliasOf_any (.slice (some ⟨g, 0, none⟩) (wtsL L C).length (wtsL L C).length) (wtsL L C) W (h.row (by rw [hwl]; omega)) (by rw [hwl]; omega)
    rw [hwl] at h2
    refine h2.mono fun e w' h3 => ⟨?_, h3.2⟩
    obtain ⟨x, h4, h5⟩ := h3.1
    rw [HGW.out] at h4 h5
    exact ⟨x, h4, ownc_row h5⟩
  have HPK : Hid (∀ x W, ColRow W x (aliL (wtsL L C)) → Calls Tryz.prog 78 #[x, .int .i64 (wtsL L C).sum, .int .i64 (d % ((C.length : Int) * (wtsL L C).sum))] W fun e w' => e = .returned (.tuple #[.int .i64 (chK (wtsL L C) d : Int), .bool true]) ∧ Below W.heap.size W w') := fun x W h => by
    rw [← Int.tmod_eq_emod_of_nonneg hd]
    have h2 := iPickBy_any x (wtsL L C).sum (d.tmod ((C.length : Int) * (wtsL L C).sum)) (aliL (wtsL L C)) W h
    have h3 := hch.2.1
    rw [hwl] at h3
    rw [h3] at h2; exact h2
  have hck0 : chK (wtsL L C) d < C.length := by have := hch.1; rw [hwl] at this; exact this
  have hnt : 1 ≤ (C.length : Int) * (wtsL L C).sum ∧ (C.length : Int) * (wtsL L C).sum ≤ 7200 := by have := hch.2.2; rw [hwl] at this; exact this
  obtain ⟨ck, hcke⟩ : ∃ ck, ck = chK (wtsL L C) d := ⟨_, rfl⟩
  rw [← hcke] at hck0 HPK ⊢
  obtain ⟨ans, hans⟩ : ∃ ans, ans = C.getD ck 0 := ⟨_, rfl⟩
  have HAN : Hid (ans = C[ck]'hck0) := by show _ = _; rw [hans, List.getD_eq_getElem?_getD, List.getElem?_eq_getElem hck0]; rfl
  rw [← hans]
  have hck := hck0
  obtain ⟨T, hT⟩ : ∃ T, T = (wtsL L C).sum := ⟨_, rfl⟩
  rw [← hT] at HSUM HPK hnt hfc
  have HPZ : Hid (∀ j i, (hj : j < C.length) → (hi : i < L.length) → C[j] = (i : Int) → partZ (wtsL L C) (j + 1) = (partZ (wtsL L C) j).set j (L[i]).2.2.2) := fun j i hj hi e => partZ_wt hj hi e
  have HPE : Hid (partZ (wtsL L C) C.length = wtsL L C) := partZ_all
  have HPL : Hid (∀ j, j ≤ C.length → (partZ (wtsL L C) j).length = C.length) := fun j hj => by rw [partZ_length _ _ (by rw [hwl]; exact hj), hwl]
  obtain ⟨Wt, hWt⟩ : ∃ Wt, Wt = wtsL L C := ⟨_, rfl⟩
  rw [← hWt] at HPZ HPE HPL HSUM HALI HPK HAL hwl
  obtain ⟨Co, hCo⟩ : ∃ Co, Co = aliL Wt := ⟨_, rfl⟩
  rw [← hCo] at HALI HPK HAL
  have HWL : Hid (Wt.length = C.length) := hwl
  clear hwl hch hall hg HGW hcke hans hT hWt hCo
  obtain ⟨a, cap, rfl, hcap, hmax, HROW⟩ := tgt_value hr
  obtain ⟨ua, uc, rfl, huc1, huc2, HROWC⟩ := zrow_value hzr
  obtain ⟨W2, hW2⟩ : ∃ W2, W2 = w.alloc (.cells #[.int .i64 gA, .slice ua C.length uc] 69) := ⟨_, rfl⟩
  have hb12 : Below w.heap.size w W2 := by rw [hW2]; exact (Below.refl _ _).alloc (Nat.le_refl _) _
  have hz12 : w.heap.size < W2.heap.size := by rw [hW2]; simp
  have HY : Hid (∀ W, Below W2.heap.size W2 W → (W.cell? ⟨w.heap.size, 0, none⟩ = some (.int .i64 gA) ∧ W.cell? ⟨w.heap.size, 1, none⟩ = some (.slice ua C.length uc)) ∧ Below w.heap.size w W) := fun W hW => ⟨(pol_cells ((hW.block _ hz12).trans (by rw [hW2]; exact tgt_new _ _))).1, hb12.trans (hW.mono hb12.size)⟩
  have HW2 : Hid (w.alloc (.cells #[.int .i64 gA, .slice ua C.length uc] 69) = W2) := hW2.symm
  have hb22 : Below W2.heap.size W2 W2 := Below.refl _ _
  obtain ⟨⟨q0, q1⟩, _⟩ := HY.out _ hb22
  obtain ⟨gO, hgO⟩ : ∃ gO, gO = W2.heap.size := ⟨_, rfl⟩
  clear hr hzr hW2 hb12
  go_enter Tryz.func51, Tryz.ntmps51
  go_wp2_with (first | rw [HW2.out] | (at_make; refine wpList_make_full _ rfl _ _ 43 rfl W2.heap.size 3 i0 (.int .i64 0) 1 Tryz.underlying43 hi hz0 hz1 _ _ _ _ C.length rfl rfl rfl rfl ?b2 ?b3 ?b4 ?_))
  case b2 => rw [hz2]; omega
  case b3 => unfold maxLen; omega
  case b4 => exact Nat.le_refl _
  intro w3 hown hgrow
  have HB0 : Below W2.heap.size W2 w3 := (Below.refl _ _).grown hgrow (Nat.le_refl _) (fun k h => by cases h)
  have HZ0 : Hid (ZSRow w3 gO (partZ Wt 0)) := by rw [hgO]; exact made_wt (w := W2) HWL.out hown
  have HGO : Hid (W2.heap.size = gO) := hgO.symm
  clear hown hgrow hgO q0 q1
  rw [HGO.out]
  obtain ⟨⟨q0, q1⟩, _⟩ := HY.out _ HB0
  go_wp2_with fail
  go_loopw [22] (fun i wr => ∃ j : Nat, j ≤ C.length ∧ i = .int .i64 (j : Int) ∧ Hid (ZSRow wr gO (partZ Wt j)) ∧ Below W2.heap.size W2 wr) (fun i _ => C.length - (intOf i).toNat)
  case atStart => exact ⟨0, Nat.zero_le _, rfl, HZ0, HB0⟩
  case round =>
    obtain ⟨j, hj, rfl, HZ, hb⟩ := hrel
    clear q0 q1
    by_cases hlt : j < C.length
    · obtain ⟨cb, co, hca, hcbl, hccel⟩ := HROWC.out (by omega)
      have hcj := hccel j hlt
      rw [← (HY.out _ hb).2.cell (p := ⟨cb, co + j, none⟩) hcbl] at hcj
      obtain ⟨i, hil, hie⟩ := hm.out _ (List.getElem_mem hlt)
      have HNX : Hid (partZ Wt (j + 1) = (partZ Wt j).set j (L[i]'hil).2.2.2) := HPZ.out j i hlt hil hie
      rw [hie] at hcj
      obtain ⟨b, o, ha, hbl, hcel⟩ := HROW.out (by omega)
      have hcx := (hcel i hil).kept (HY.out _ hb).2
      unfold TgtAt at hcx
      obtain ⟨c0, c1, c2, c3⟩ := hcx
      have hle : (partZ Wt j).length = C.length := HPL.out j hj
      have hpk := HZ.out.2 j (by rw [hle]; exact hlt)
      have hcg := hpk.1
      have hfg := hpk.2
      have hset := HZ.out.set j (by rw [hle]; exact hlt) (L[i]'hil).2.2.2
      rw [← HNX.out] at hset
      obtain ⟨y, hy⟩ : ∃ y, y = (L[i]'hil).2.2.2 := ⟨_, rfl⟩
      obtain ⟨z, hz⟩ : ∃ z, z = (partZ Wt j)[j]'(by rw [hle]; exact hlt) := ⟨_, rfl⟩
      rw [← hy] at c3 hset
      rw [← hz] at hcg
      have HSS : Hid (ZSRow (wr.setCell ⟨gO, j, none⟩ (.int .i64 y)) gO (partZ Wt (j + 1))) := hset
      have hki : (i : Int) < (L.length : Int) := by omega
      have hjc : (j : Int) < (C.length : Int) := by omega
      have hb2 := hb.setCell (p := ⟨gO, j, none⟩) (show W2.heap.size ≤ gO from Nat.le_of_eq HGO.out) (.int .i64 y)
      subst ha
      subst hca
      clear hcel hccel hset hpk hy hz HNX hle c0 c1 c2 hie
      go_wp2_with fail
      go_roundw
      case rel => exact ⟨j + 1, by omega, by go_num, HSS, hb2⟩
      case measure => simp [intOf]; omega
    · obtain rfl : j = C.length := by omega
      have HZ1 : Hid (ZSRow wr gO Wt) := by have := HZ.out; rw [HPE.out] at this; exact this
      have hwrap : IntKind.i64.wrap ((C.length : Int) * T) = (C.length : Int) * T := IntWalk.i64_in _ (by omega)
      have hne : ((C.length : Int) * T == 0) = false := by rw [beq_eq_false_iff_ne]; omega
      have hne2 : ¬ ((C.length : Int) * T = 0) := by omega
      clear HZ HZ0 HB0 HPZ HPE HPL
      go_wp2_with fail
      refine (HALI.out gO _ HZ1.out).mono ?_
      rintro e w5 ⟨⟨x, rfl, hx5⟩, hb5⟩
      have HZ5 : Hid (ZSRow w5 gO Wt) := HZ1.out.kept hb5
      have hb25 := hb.trans (hb5.mono hb.size)
      obtain ⟨xa, xc, rfl, _, _, _⟩ := col_value hx5
      have HX5 : Hid (ColRow w5 (.slice xa Co.length xc) Co) := hx5
      have HBO : Hid (Co.length = C.length) := HAL
      clear hx5
      rw [HBO.out] at HX5
      rw [HBO.out]
      go_wp2_with fail
      refine (HSUM.out gO _ HZ5.out).mono ?_
      rintro e w6 ⟨rfl, hw6⟩
      rw [hw6]
      clear hw6 w6
      go_wp2_with fail
      refine (HPK.out _ _ HX5.out).mono ?_
      rintro e w7 ⟨rfl, hb7⟩
      have hb27 := hb25.trans (hb7.mono hb25.size)
      obtain ⟨⟨q0, q1⟩, hbw7⟩ := HY.out _ hb27
      obtain ⟨cb, co, hca, hcbl, hccel⟩ := HROWC.out (by omega)
      have hcj := hccel ck hck
      rw [← hbw7.cell (p := ⟨cb, co + ck, none⟩) hcbl, ← HAN.out] at hcj
      have hkc : (ck : Int) < (C.length : Int) := by omega
      subst hca
      clear hccel
      go_wp2_with fail
      go_ret
      exact ⟨rfl, hbw7⟩
end Go.Proofs.YtoanloballaclaaGreatDoor

namespace Go.Proofs.YtoanloballaclaaGreatDoor
open Go.RowKit

/-- Whether anyone is chosen; who. -/
def chB (n : List UInt8) (L : List TgtT) (ri fa : Int) (H : List HosT) (d : Int) : Bool := okO n L ri fa H && inB d 0 1152921504606846976
def chA (n : List UInt8) (L : List TgtT) (ri fa : Int) (H : List HosT) (d : Int) : Int := if chB n L ri fa H d = true then (canO (wellB H) L).getD (chK (wtsL L (canO (wellB H) L)) d) 0 else 0
theorem ch_off {n : List UInt8} {L : List TgtT} {ri fa : Int} {H : List HosT} {d : Int} (h : chB n L ri fa H d = false) : chA n L ri fa H d = 0 := by unfold chA; rw [h]; rfl
theorem ch_on {n : List UInt8} {L : List TgtT} {ri fa : Int} {H : List HosT} {d : Int} (h : chB n L ri fa H d = true) : chA n L ri fa H d = (canO (wellB H) L).getD (chK (wtsL L (canO (wellB H) L)) d) 0 := by unfold chA; rw [h]; rfl
theorem can_good {n : List UInt8} {L : List TgtT} (p : TgtT → Bool) (h : polB n L = true) : goodW (wtsL L (canO p L)) = true ∧ (canO p L).length ≤ 12 :=
  ⟨wts_good h (can_pos h) (can_length p L) (fun _ hx => can_mem hx), Nat.le_trans (can_length p L) (pol_parts h).2.2.1⟩

set_option maxRecDepth 20000 in
set_option maxHeartbeats 8000000 in
theorem iChooseTarget_any (n : List UInt8) (v : Value) (L : List TgtT) (ri fa : Int) (hv : Value) (H : List HosT) (d : Int) (w : World) (hr : TgtRow w v L) (hl : L.length ≤ 1048576) (hx : Hid (∀ x ∈ L, x.1.length ≤ 1048576 ∧ x.2.1.length ≤ 1048576)) (hh : HstRow w hv H) (hE : EnvR w) :
    Calls Tryz.prog 25 #[PolV ⟨n.toArray⟩ v, HeaV ri fa hv, .int .i64 d] w fun e w' => e = .returned (.tuple #[.int .i64 (chA n L ri fa H d), .bool (chB n L ri fa H d)]) ∧ Below w.heap.size w w' := by
  have HCB : Hid (∀ W, Below w.heap.size w W → Calls Tryz.prog 40 #[PolV ⟨n.toArray⟩ v, HeaV ri fa hv] W fun e w' => CanT w' W.heap.size (okO n L ri fa H) (grpA n L ri fa H) (canA n L ri fa H) e ∧ Below W.heap.size W w') := fun W hW => candidatesBy_any n v L ri fa hv H W (hr.kept hW) hl hx (hh.kept hW) (hE.below hW)
  have HPI : Hid (polB n L = true → 0 ≤ d → ∀ gA u W, Below w.heap.size w W → ZRow .i64 W u (canO (wellB H) L) → Calls Tryz.prog 51 #[.agg #[.int .i64 gA, u], v, .int .i64 d] W fun e w' => e = .returned (.int .i64 ((canO (wellB H) L).getD (chK (wtsL L (canO (wellB H) L)) d) 0)) ∧ Below W.heap.size W w') := fun h1 h2 gA u W hW hz => pick_any v L _ gA d u W (hr.kept hW) hz (can_good _ h1).2 (fun x hx => can_mem hx) (can_good _ h1).1 h2
  have HIW : Hid (∀ W, Calls Tryz.prog 50 #[.int .i64 d, .int .i64 0, .int .i64 1152921504606846976] W fun e w' => e = .returned (.bool (inB d 0 1152921504606846976)) ∧ w' = W) := fun W => iWithin_any d 0 1152921504606846976 W
  have HCHB : Hid (chB n L ri fa H d = (okO n L ri fa H && inB d 0 1152921504606846976)) := rfl
  have HOFF := @ch_off n L ri fa H d
  have HONN := @ch_on n L ri fa H d
  have HCA : Hid (okO n L ri fa H = true → canA n L ri fa H = canO (wellB H) L) := fun h => (okO_on h).2
  have HPL : Hid (okO n L ri fa H = true → polB n L = true) := ok_pol
  obtain ⟨cb, hcb⟩ : ∃ cb, cb = chB n L ri fa H d := ⟨_, rfl⟩
  rw [← hcb] at HCHB HOFF HONN ⊢
  obtain ⟨ok, hok⟩ : ∃ ok, ok = okO n L ri fa H := ⟨_, rfl⟩
  obtain ⟨gA, hgA⟩ : ∃ gA, gA = grpA n L ri fa H := ⟨_, rfl⟩
  rw [← hok] at HCB HCHB HCA HPL
  rw [← hgA] at HCB
  unfold PolV HeaV at HCB ⊢
  obtain ⟨a, cap, rfl, hcap, hmax, _⟩ := tgt_value hr
  obtain ⟨a2, cap2, rfl, hcap2, hmax2, _⟩ := hst_value hh
  obtain ⟨W0, hW0⟩ : ∃ W0, W0 = (w.alloc (.cells #[.string ⟨n.toArray⟩, .slice a L.length cap] 34)).alloc (.cells #[.int .i64 ri, .int .i64 fa, .slice a2 H.length cap2] 38) := ⟨_, rfl⟩
  have hb0 : Below w.heap.size w W0 := by rw [hW0]; exact ((Below.refl w.heap.size w).alloc (Nat.le_refl _) _).alloc (by simp) _
  have hq0 := tgt_below2 (W := W0) (w := w) (by rw [hW0]; exact Below.refl _ _)
  have HP0 : Hid (W0.heap[w.heap.size]? = some (.cells #[.string ⟨n.toArray⟩, .slice a L.length cap] 34)) := hq0.1
  have HH0 : Hid (W0.heap[w.heap.size + 1]? = some (.cells #[.int .i64 ri, .int .i64 fa, .slice a2 H.length cap2] 38)) := hq0.2.1
  obtain ⟨⟨p0, p1⟩, _⟩ := pol_cells HP0.out
  obtain ⟨⟨h0, h1, h2⟩, _⟩ := hst_cells HH0.out
  have hzP : w.heap.size < W0.heap.size := by rw [hW0]; simp; omega
  have HW0 : Hid ((w.alloc (.cells #[.string ⟨n.toArray⟩, .slice a L.length cap] 34)).alloc (.cells #[.int .i64 ri, .int .i64 fa, .slice a2 H.length cap2] 38) = W0) := hW0.symm
  clear hW0 hq0 hcb hok hgA hr hh hx hE
  cases ok with
  | false =>
    have hk : cb = false := by rw [HCHB.out]; rfl
    rw [HOFF hk, hk]
    clear hk HONN HOFF HCHB HPI HCA HPL
    go_enter Tryz.func25, Tryz.ntmps25
    go_wp2_with (rw [HW0.out])
    refine (HCB.out _ hb0).mono ?_
    rintro e w1 ⟨⟨u, rfl, hu⟩, hb1⟩
    clear p0 p1 h0 h1 h2
    obtain ⟨ua, uc, hue, huc1, huc2⟩ := own_slice hu
    subst hue
    have hbw := hb0.trans (hb1.mono hb0.size)
    have hbw2 := hbw.alloc hbw.size (.cells #[.int .i64 gA, .slice ua (canA n L ri fa H).length uc] 69)
    clear hu
    go_wp2_with fail
    go_ret2
    exact ⟨rfl, hbw2⟩
  | true =>
    rw [HCA.out rfl] at HCB
    have hpl := HPL.out rfl
    cases hD : inB d 0 1152921504606846976 with
    | false =>
      have hk : cb = false := by rw [HCHB.out, hD]; rfl
      rw [HOFF hk, hk]
      rw [hD] at HIW
      clear hk HONN HOFF HCHB HPI HCA HPL hD hpl
      go_enter Tryz.func25, Tryz.ntmps25
      go_wp2_with (rw [HW0.out])
      refine (HCB.out _ hb0).mono ?_
      rintro e w1 ⟨⟨u, rfl, hu⟩, hb1⟩
      clear p0 p1 h0 h1 h2
      obtain ⟨ua, uc, hue, huc1, huc2⟩ := own_slice hu
      subst hue
      have hbw := hb0.trans (hb1.mono hb0.size)
      have hbw2 := hbw.alloc hbw.size (.cells #[.int .i64 gA, .slice ua (canO (wellB H) L).length uc] 69)
      clear hu
      go_wp2_with fail
      refine (HIW.out _).mono ?_
      rintro e w2 ⟨rfl, hw2⟩
      rw [hw2]
      clear hw2 w2
      go_wp2_with fail
      go_ret2
      exact ⟨rfl, hbw2⟩
    | true =>
      have hk : cb = true := by rw [HCHB.out, hD]; rfl
      have hd0 : 0 ≤ d := by simp only [inB, Bool.and_eq_true, decide_eq_true_eq] at hD; exact hD.1
      rw [HONN hk, hk]
      rw [hD] at HIW
      have hpi := HPI.out hpl hd0
      obtain ⟨C, hC⟩ : ∃ C, C = canO (wellB H) L := ⟨_, rfl⟩
      rw [← hC] at hpi HCB ⊢
      obtain ⟨ans, hans⟩ : ∃ ans, ans = C.getD (chK (wtsL L C) d) 0 := ⟨_, rfl⟩
      rw [← hans] at hpi ⊢
      have HPI2 : Hid (∀ gA u W, Below w.heap.size w W → ZRow .i64 W u C → Calls Tryz.prog 51 #[.agg #[.int .i64 gA, u], .slice a L.length cap, .int .i64 d] W fun e w' => e = .returned (.int .i64 ans) ∧ Below W.heap.size W w') := hpi
      clear hk HONN HOFF HCHB HPI HCA HPL hD hpl hpi hC hans
      go_enter Tryz.func25, Tryz.ntmps25
      go_wp2_with (rw [HW0.out])
      refine (HCB.out _ hb0).mono ?_
      rintro e w1 ⟨⟨u, rfl, hu⟩, hb1⟩
      clear p0 p1 h0 h1 h2
      have hzr := nums_row hu
      obtain ⟨ua, uc, hue, huc1, huc2⟩ := own_slice hu
      subst hue
      have hbw := hb0.trans (hb1.mono hb0.size)
      have hP1 := (hb1.block _ hzP).trans HP0.out
      have hz1l : w.heap.size < w1.heap.size := (Array.getElem?_eq_some_iff.1 hP1).1
      obtain ⟨W2, hW2⟩ : ∃ W2, W2 = w1.alloc (.cells #[.int .i64 gA, .slice ua C.length uc] 69) := ⟨_, rfl⟩
      have hb12 : Below w1.heap.size w1 W2 := by rw [hW2]; exact (Below.refl _ _).alloc (Nat.le_refl _) _
      have hbw2 := hbw.trans (hb12.mono hbw.size)
      have hP2 := (hb12.block _ hz1l).trans hP1
      obtain ⟨⟨p0, p1⟩, _⟩ := pol_cells hP2
      have hX2 : W2.heap[w1.heap.size]? = some (.cells #[.int .i64 gA, .slice ua C.length uc] 69) := by rw [hW2]; exact tgt_new _ _
      obtain ⟨⟨q0, q1⟩, _⟩ := pol_cells hX2
      have HZ2 : Hid (ZRow .i64 W2 (.slice ua C.length uc) C) := hzr.kept hb12
      have HW2 : Hid (w1.alloc (.cells #[.int .i64 gA, .slice ua C.length uc] 69) = W2) := hW2.symm
      clear hu hzr hW2 hP1 hP2 hX2 hb12 hb1
      go_wp2_with (rw [HW2.out])
      refine (HIW.out _).mono ?_
      rintro e w2 ⟨rfl, hw2⟩
      rw [hw2]
      clear hw2 w2
      go_wp2_with fail
      refine (HPI2.out _ _ _ hbw2 HZ2.out).mono ?_
      rintro e w3 ⟨rfl, hb3⟩
      have hbw3 := hbw2.trans (hb3.mono hbw2.size)
      go_wp2_with fail
      go_ret2
      exact ⟨rfl, hbw3⟩
end Go.Proofs.YtoanloballaclaaGreatDoor

namespace Go.Proofs.YtoanloballaclaaGreatDoor
open Go.RowKit

theorem l9C_any (n : Int) (w : World) : Calls Tryz.prog 46 #[.int .i64 n] w fun e w' => e = .returned (.bool (inB n 0 1152921504606846976)) ∧ w' = w := by
  have HI : Hid (∀ W, Calls Tryz.prog 62 #[.int .i64 n, .int .i64 0, .int .i64 1152921504606846976] W fun e w' => e = .returned (.bool (inB n 0 1152921504606846976)) ∧ w' = W) := fun W => l1In_any n 0 1152921504606846976 W
  go_enter Tryz.func46, Tryz.ntmps46
  go_wp2_with fail
  refine (HI.out _).mono ?_
  rintro e w1 ⟨rfl, rfl⟩
  go_wp2_with fail
  go_ret
  exact ⟨rfl, rfl⟩

set_option maxRecDepth 20000 in
set_option maxHeartbeats 8000000 in
theorem sChooseTarget_any (nm : List UInt8) (v : Value) (L : List TgtT) (ri fa : Int) (hv : Value) (H : List HosT) (d : Int) (w : World) (hr : TgtRow w v L) (hl : L.length ≤ 1048576) (hn : nm.length ≤ 1048576) (hx : Hid (∀ x ∈ L, x.1.length ≤ 1048576 ∧ x.2.1.length ≤ 1048576)) (hh : HstRow w hv H) (hlh : H.length ≤ 1048576) (hxh : Hid (∀ x ∈ H, x.1.length ≤ 1048576)) :
    Calls Tryz.prog 24 #[PolV ⟨nm.toArray⟩ v, HeaV ri fa hv, .int .i64 d] w fun e w' => e = .returned (.tuple #[.int .i64 (chA nm L ri fa H d), .bool (chB nm L ri fa H d)]) ∧ Below w.heap.size w w' := by
  obtain ⟨i0, hi, hz0, hz1', hz2'⟩ := info_parts info_int
  have HGP : Hid (∀ W, Below w.heap.size w W → Calls Tryz.prog 35 #[PolV ⟨nm.toArray⟩ v] W fun e w' => e = .returned (.bool (polB nm L)) ∧ Below W.heap.size W w') := fun W hW => sGoodPolicy_any nm v L W (hr.kept hW) hl hn hx
  have HGH : Hid (∀ W, Below w.heap.size w W → Calls Tryz.prog 36 #[HeaV ri fa hv] W fun e w' => e = .returned (.bool (goodH ri fa H)) ∧ Below W.heap.size W w') := fun W hW => sGoodHealth_any ri fa hv H W (hh.kept hW) hlh hxh
  have HGR : Hid (polB nm L = true → goodH ri fa H = true → ∀ W, Below w.heap.size w W → Calls Tryz.prog 43 #[PolV ⟨nm.toArray⟩ v, HeaV ri fa hv] W fun e w' => (∃ u, e = .returned u ∧ NumsO w' W.heap.size u (canO (wellB H) L)) ∧ Below W.heap.size W w') := fun h1 h2 W hW => l14Candidates_any nm v L ri fa hv H W (hr.kept hW) hl (hh.kept hW) hlh hxh h1 h2
  have HCN : Hid (∀ W, Calls Tryz.prog 46 #[.int .i64 d] W fun e w' => e = .returned (.bool (inB d 0 1152921504606846976)) ∧ w' = W) := fun W => l9C_any d W
  have HOK : Hid (chB nm L ri fa H d = ((polB nm L && goodH ri fa H) && inB d 0 1152921504606846976)) := rfl
  have HOF := @ch_off nm L ri fa H d
  have HON := @ch_on nm L ri fa H d
  have HMEM : Hid (∀ x ∈ canO (wellB H) L, ∃ i : Nat, ∃ _ : i < L.length, x = (i : Int)) := fun x hx => can_mem hx
  obtain ⟨ok, hok⟩ : ∃ ok, ok = chB nm L ri fa H d := ⟨_, rfl⟩
  rw [← hok] at HOK HOF HON ⊢
  unfold PolV at HGP HGR ⊢
  unfold HeaV at HGH HGR ⊢
  obtain ⟨a, cap, rfl, hcap, hmax, HROW⟩ := tgt_value hr
  obtain ⟨a2, cap2, rfl, hcap2, hmax2, _⟩ := hst_value hh
  obtain ⟨W0, hW0⟩ : ∃ W0, W0 = (w.alloc (.cells #[.string ⟨nm.toArray⟩, .slice a L.length cap] 34)).alloc (.cells #[.int .i64 ri, .int .i64 fa, .slice a2 H.length cap2] 38) := ⟨_, rfl⟩
  have HX : Hid (∀ W, Below W0.heap.size W0 W → ((W.cell? ⟨w.heap.size, 0, none⟩ = some (.string ⟨nm.toArray⟩) ∧ W.cell? ⟨w.heap.size, 1, none⟩ = some (.slice a L.length cap)) ∧ (W.cell? ⟨w.heap.size + 1, 0, none⟩ = some (.int .i64 ri) ∧ W.cell? ⟨w.heap.size + 1, 1, none⟩ = some (.int .i64 fa) ∧ W.cell? ⟨w.heap.size + 1, 2, none⟩ = some (.slice a2 H.length cap2))) ∧ Below w.heap.size w W) := fun W hW => by
    rw [hW0] at hW
    obtain ⟨h1, h2, h3⟩ := tgt_below2 hW
    exact ⟨⟨(pol_cells h1).1, (hst_cells h2).1⟩, h3⟩
  have hb00 : Below W0.heap.size W0 W0 := Below.refl _ _
  have HW0 : Hid ((w.alloc (.cells #[.string ⟨nm.toArray⟩, .slice a L.length cap] 34)).alloc (.cells #[.int .i64 ri, .int .i64 fa, .slice a2 H.length cap2] 38) = W0) := hW0.symm
  clear hW0 hr hh hx hxh hok
  cases hP : polB nm L with
  | false =>
    have hk : ok = false := by rw [HOK.out, hP]; rfl
    rw [HOF hk, hk]
    rw [hP] at HGP
    clear hk hP HOF HON HOK HGH HGR HMEM HCN
    go_enter Tryz.func24, Tryz.ntmps24
    go_wp2_with (rw [HW0.out]; obtain ⟨⟨⟨p0, p1⟩, h0, h1, h2⟩, hbw⟩ := HX.out _ hb00)
    refine (HGP.out _ hbw).mono ?_
    rintro e w1 ⟨rfl, hb1⟩
    have hb01 := hb00.trans (hb1.mono hb00.size)
    clear p0 p1 h0 h1 h2 hbw hb1
    obtain ⟨⟨⟨p0, p1⟩, h0, h1, h2⟩, hbw⟩ := HX.out _ hb01
    go_wp2_with fail
    go_ret2
    exact ⟨rfl, hbw⟩
  | true =>
    rw [hP] at HGP
    cases hG : goodH ri fa H with
    | false =>
      have hk : ok = false := by rw [HOK.out, hP, hG]; rfl
      rw [HOF hk, hk]
      rw [hG] at HGH
      clear hk hP hG HOF HON HOK HGR HMEM HCN
      go_enter Tryz.func24, Tryz.ntmps24
      go_wp2_with (rw [HW0.out]; obtain ⟨⟨⟨p0, p1⟩, h0, h1, h2⟩, hbw⟩ := HX.out _ hb00)
      refine (HGP.out _ hbw).mono ?_
      rintro e w1 ⟨rfl, hb1⟩
      have hb01 := hb00.trans (hb1.mono hb00.size)
      clear p0 p1 h0 h1 h2 hbw hb1
      obtain ⟨⟨⟨p0, p1⟩, h0, h1, h2⟩, hbw⟩ := HX.out _ hb01
      go_wp2_with fail
      refine (HGH.out _ hbw).mono ?_
      rintro e w2 ⟨rfl, hb2⟩
      have hb02 := hb01.trans (hb2.mono hb01.size)
      clear p0 p1 h0 h1 h2 hbw hb2
      obtain ⟨⟨⟨p0, p1⟩, h0, h1, h2⟩, hbw⟩ := HX.out _ hb02
      go_wp2_with fail
      go_ret2
      exact ⟨rfl, hbw⟩
    | true =>
      rw [hG] at HGH
      cases hD : inB d 0 1152921504606846976 with
      | false =>
        have hk : ok = false := by rw [HOK.out, hD]; simp
        rw [HOF hk, hk]
        rw [hD] at HCN
        clear hk hP hG hD HOF HON HOK HGR HMEM
        go_enter Tryz.func24, Tryz.ntmps24
        go_wp2_with (rw [HW0.out]; obtain ⟨⟨⟨p0, p1⟩, h0, h1, h2⟩, hbw⟩ := HX.out _ hb00)
        refine (HGP.out _ hbw).mono ?_
        rintro e w1 ⟨rfl, hb1⟩
        have hb01 := hb00.trans (hb1.mono hb00.size)
        clear p0 p1 h0 h1 h2 hbw hb1
        obtain ⟨⟨⟨p0, p1⟩, h0, h1, h2⟩, hbw⟩ := HX.out _ hb01
        go_wp2_with fail
        refine (HGH.out _ hbw).mono ?_
        rintro e w2 ⟨rfl, hb2⟩
        have hb02 := hb01.trans (hb2.mono hb01.size)
        clear p0 p1 h0 h1 h2 hbw hb2
        obtain ⟨⟨⟨p0, p1⟩, h0, h1, h2⟩, hbw⟩ := HX.out _ hb02
        go_wp2_with fail
        refine (HCN.out _).mono ?_
        rintro e w2' ⟨rfl, hw2'⟩
        rw [hw2']
        clear hw2' w2'
        go_wp2_with fail
        go_ret2
        exact ⟨rfl, hbw⟩
      | true =>
        have hk : ok = true := by rw [HOK.out, hP, hG, hD]; rfl
        have hd0 : 0 ≤ d := by simp only [inB, Bool.and_eq_true, decide_eq_true_eq] at hD; exact hD.1
        rw [HON hk, hk]
        rw [hD] at HCN
        have HGR2 := HGR.out hP hG
        have hcg := can_good (wellB H) hP
        obtain ⟨C, hC⟩ : ∃ C, C = canO (wellB H) L := ⟨_, rfl⟩
        rw [← hC] at HGR2 HMEM hcg ⊢
        have HGR3 : Hid (∀ W, Below w.heap.size w W → Calls Tryz.prog 43 #[.agg #[.string ⟨nm.toArray⟩, .slice a L.length cap], .agg #[.int .i64 ri, .int .i64 fa, .slice a2 H.length cap2]] W fun e w' => (∃ u, e = .returned u ∧ NumsO w' W.heap.size u C) ∧ Below W.heap.size W w') := HGR2
        have hcl := hcg.2
        have hg := hcg.1
        have hch := ch_at hg hd0
        have hfc := ali_facts hg
        have HGW : Hid (goodW (wtsL L C) = true) := hg
        have hwl := wtsL_length L C
        have HAL : Hid ((aliL (wtsL L C)).length = C.length) := by show _ = _; rw [ali_length, hwl]
        have hall : (wtsL L C).all smB = true := all_sm (goodW_parts hg).2.1
        have HSUM : Hid (∀ x W, ZRow .i64 W x (wtsL L C) → Calls Tryz.prog 48 #[x] W fun e w' => e = .returned (.int .i64 (wtsL L C).sum) ∧ w' = W) := fun x W h => l12Total_any x (wtsL L C) W h (by rw [hwl]; omega) hall
        have HALI : Hid (∀ x W, ZRow .i64 W x (wtsL L C) → Calls Tryz.prog 47 #[x] W fun e w' => (∃ y, e = .returned (.tuple #[y, .bool true]) ∧ ColRow w' y (aliL (wtsL L C))) ∧ Below W.heap.size W w') := fun x W h => by
          have h2 := sAliasOf_any x (wtsL L C) W h (by rw [hwl]; omega)
          refine h2.mono fun e w' h3 => ⟨?_, h3.2⟩
          obtain ⟨y, h4, h5⟩ := h3.1
          rw [HGW.out] at h4 h5
          exact ⟨y, h4, ownc_row h5⟩
        have HPK : Hid (∀ x W, ColRow W x (aliL (wtsL L C)) → Calls Tryz.prog 49 #[x, .int .i64 (wtsL L C).sum, .int .i64 (d % ((C.length : Int) * (wtsL L C).sum))] W fun e w' => e = .returned (.tuple #[.int .i64 (chK (wtsL L C) d : Int), .bool true]) ∧ Below W.heap.size W w') := fun x W h => by
          rw [← Int.tmod_eq_emod_of_nonneg hd0]
          have h2 := sPickBy_any x (wtsL L C).sum (d.tmod ((C.length : Int) * (wtsL L C).sum)) (aliL (wtsL L C)) W h
          have h3 := hch.2.1
          rw [hwl] at h3
          rw [h3] at h2; exact h2
        have hck0 : chK (wtsL L C) d < C.length := by have := hch.1; rw [hwl] at this; exact this
        have hnt : 1 ≤ (C.length : Int) * (wtsL L C).sum ∧ (C.length : Int) * (wtsL L C).sum ≤ 7200 := by have := hch.2.2; rw [hwl] at this; exact this
        obtain ⟨ck, hcke⟩ : ∃ ck, ck = chK (wtsL L C) d := ⟨_, rfl⟩
        rw [← hcke] at hck0 HPK ⊢
        obtain ⟨ans, hans⟩ : ∃ ans, ans = C.getD ck 0 := ⟨_, rfl⟩
        have HAN : Hid (ans = C[ck]'hck0) := by show _ = _; rw [hans, List.getD_eq_getElem?_getD, List.getElem?_eq_getElem hck0]; rfl
        rw [← hans]
        have hck := hck0
        obtain ⟨T, hT⟩ : ∃ T, T = (wtsL L C).sum := ⟨_, rfl⟩
        rw [← hT] at HSUM HPK hnt hfc
        have HPZ : Hid (∀ j i, (hj : j < C.length) → (hi : i < L.length) → C[j] = (i : Int) → wtsL L (C.take (j + 1)) = wtsL L (C.take j) ++ [(L[i]).2.2.2]) := fun j i hj hi e => wtsL_snoc hj hi e
        have HPL : Hid (∀ j, j ≤ C.length → (wtsL L (C.take j)).length = j) := fun j hj => by rw [wtsL_length, List.length_take]; omega
        obtain ⟨Co, hCo⟩ : ∃ Co, Co = aliL (wtsL L C) := ⟨_, rfl⟩
        rw [← hCo] at HALI HPK HAL
        clear hk hP hG hD HOF HON HOK HGR HGR2 hcg hwl hch hall hg HGW hcke hans hT hCo hC
        go_enter Tryz.func24, Tryz.ntmps24
        go_wp2_with (rw [HW0.out]; obtain ⟨⟨⟨p0, p1⟩, h0, h1, h2⟩, hbw⟩ := HX.out _ hb00)
        refine (HGP.out _ hbw).mono ?_
        rintro e w1 ⟨rfl, hb1⟩
        have hb01 := hb00.trans (hb1.mono hb00.size)
        clear p0 p1 h0 h1 h2 hbw hb1
        obtain ⟨⟨⟨p0, p1⟩, h0, h1, h2⟩, hbw⟩ := HX.out _ hb01
        go_wp2_with fail
        refine (HGH.out _ hbw).mono ?_
        rintro e w2 ⟨rfl, hb2⟩
        have hb02 := hb01.trans (hb2.mono hb01.size)
        clear p0 p1 h0 h1 h2 hbw hb2
        obtain ⟨⟨⟨p0, p1⟩, h0, h1, h2⟩, hbw⟩ := HX.out _ hb02
        go_wp2_with fail
        refine (HCN.out _).mono ?_
        rintro e w2' ⟨rfl, hw2'⟩
        rw [hw2']
        clear hw2' w2'
        go_wp2_with fail
        refine (HGR3.out _ hbw).mono ?_
        rintro e w3 ⟨⟨u, rfl, hu⟩, hb3⟩
        have hb03 := hb02.trans (hb3.mono hb02.size)
        have hzr := nums_row hu
        obtain ⟨ua, uc, rfl, huc1, huc2, HROWC⟩ := zrow_value hzr
        clear p0 p1 h0 h1 h2 hbw hu hzr hb3 hb01 hb02
        obtain ⟨⟨⟨p0, p1⟩, _⟩, _⟩ := HX.out _ hb03
        go_wp2_with fail
        go_loopw [9, 35] (fun wv i wr => ∃ (j : Nat) (x : Value), j ≤ C.length ∧ i = .int .i64 (j : Int) ∧ x = wv ∧ Hid (NumsO wr w3.heap.size x (wtsL L (C.take j))) ∧ Below w3.heap.size w3 wr) (fun _ i _ => C.length - (intOf i).toNat)
        case atStart => exact ⟨0, _, Nat.zero_le _, rfl, rfl, nums_nil _ _, Below.refl _ _⟩
        case round =>
          obtain ⟨j, x, hj, rfl, rfl, HZ, hb⟩ := hrel
          clear p0 p1
          have hb0 := hb03.trans (hb.mono hb03.size)
          have hz0r := hb.size
          by_cases hlt : j < C.length
          · obtain ⟨cb, co, hca, hcbl, hccel⟩ := HROWC.out (by omega)
            have hcj := hccel j hlt
            rw [← hb.cell (p := ⟨cb, co + j, none⟩) hcbl] at hcj
            obtain ⟨i, hil, hie⟩ := HMEM.out _ (List.getElem_mem hlt)
            have HNX : Hid (wtsL L (C.take (j + 1)) = wtsL L (C.take j) ++ [(L[i]'hil).2.2.2]) := HPZ.out j i hlt hil hie
            rw [hie] at hcj
            obtain ⟨b, o, ha, hbl, hcel⟩ := HROW.out (by omega)
            have hcx := (hcel i hil).kept (HX.out _ hb0).2
            unfold TgtAt at hcx
            obtain ⟨c0, c1, c2, c3⟩ := hcx
            obtain ⟨y, hy⟩ : ∃ y, y = (L[i]'hil).2.2.2 := ⟨_, rfl⟩
            rw [← hy] at c3 HNX
            have hlj := HPL.out j hj
            obtain ⟨Wj, hWj⟩ : ∃ Wj, Wj = wtsL L (C.take j) := ⟨_, rfl⟩
            rw [← hWj] at HZ HNX hlj
            have hown := HZ.out
            unfold NumsO at hown
            have hwj12 : Wj.length ≤ 12 := by omega
            obtain ⟨⟨⟨p0, p1⟩, _⟩, _⟩ := HX.out _ hb0
            have hki : (i : Int) < (L.length : Int) := by omega
            have hjc : (j : Int) < (C.length : Int) := by omega
            subst ha
            subst hca
            clear hcel hccel hy hie c0 c1 c2 hWj HZ hlj
            go_wp2_with (at_builtin; refine wpList_append_own _ rfl (.tmp 39) (.tmp 46) 43 rfl w3.heap.size 3 i0 (.int .i64 0) 1 8 Tryz.underlying43 hi hz0 hz1' hz2' rfl (by decide) _ _ _ rfl (own_below hown ((Below.refl wr.heap.size wr).alloc (Nat.le_refl _) _)) ⟨wr.heap.size, 0, none⟩ 1 1 [.int .i64 y] rfl rfl (cell_new_one wr (.int .i64 y) 3) (one_int _) ?c3 ?c4 ?c5 ?_)
            case c3 => unfold maxLen; omega
            case c4 => omega
            case c5 => simp; omega
            intro v4 w4 hown4 hgrow4 _
            have hb4 := below_appendG hb (Nat.le_refl _) hz0r hown hgrow4
            have HO4 : Hid (NumsO w4 w3.heap.size v4 (wtsL L (C.take (j + 1)))) := by
              show w4.ownsRow _ _ _ _ _ _
              rw [HNX.out, List.length_append, List.map_append]
              exact hown4
            clear hown hown4 hgrow4 HNX
            go_wp2_with fail
            go_roundw
            case rel => exact ⟨j + 1, _, by omega, by go_num, rfl, HO4, hb4⟩
            case measure => simp [intOf]; omega
          · obtain rfl : j = C.length := by omega
            have HZ1 : Hid (ZRow .i64 wr x (wtsL L C)) := by have := HZ.out; rw [List.take_length] at this; exact nums_row this
            have hwrap : IntKind.i64.wrap ((C.length : Int) * T) = (C.length : Int) * T := IntWalk.i64_in _ (by omega)
            have hne : ((C.length : Int) * T == 0) = false := by rw [beq_eq_false_iff_ne]; omega
            have hne2 : ¬ ((C.length : Int) * T = 0) := by omega
            obtain ⟨xa0, xn0, xc0, hxe⟩ : ∃ xa n xc, x = .slice xa n xc := by
              obtain ⟨xa, xc, h, _⟩ := zrow_value HZ1.out
              exact ⟨xa, _, xc, h⟩
            subst hxe
            clear HZ HPZ HPL
            go_wp2_with fail
            refine (HALI.out _ _ HZ1.out).mono ?_
            rintro e w5 ⟨⟨y, rfl, hx5⟩, hb5⟩
            have HZ5 : Hid (ZRow .i64 w5 (.slice xa0 xn0 xc0) (wtsL L C)) := HZ1.out.kept hb5
            have hb25 := hb.trans (hb5.mono hb.size)
            obtain ⟨xa, xc, rfl, _, _, _⟩ := col_value hx5
            have HX5 : Hid (ColRow w5 (.slice xa Co.length xc) Co) := hx5
            clear hx5
            rw [HAL.out] at HX5
            rw [HAL.out]
            go_wp2_with fail
            refine (HSUM.out _ _ HZ5.out).mono ?_
            rintro e w6 ⟨rfl, hw6⟩
            rw [hw6]
            clear hw6 w6
            go_wp2_with fail
            refine (HPK.out _ _ HX5.out).mono ?_
            rintro e w7 ⟨rfl, hb7⟩
            have hb27 := hb25.trans (hb7.mono hb25.size)
            have hbw7 := (HX.out _ (hb03.trans (hb27.mono hb03.size))).2
            obtain ⟨cb, co, hca, hcbl, hccel⟩ := HROWC.out (by omega)
            have hcj := hccel ck hck
            rw [← hb27.cell (p := ⟨cb, co + ck, none⟩) hcbl, ← HAN.out] at hcj
            have hkc : (ck : Int) < (C.length : Int) := by omega
            subst hca
            clear hccel
            go_wp2_with fail
            go_ret2
            exact ⟨rfl, hbw7⟩
end Go.Proofs.YtoanloballaclaaGreatDoor
