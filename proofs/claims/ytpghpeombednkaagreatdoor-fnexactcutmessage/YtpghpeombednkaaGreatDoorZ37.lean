import Derived.Test.YtpghpeombednkaaGreatDoorZ32
import Derived.Test.YtpghpeombednkaaGreatDoorZ36
import Derived.Test.YtpghpeombednkaaGreatDoorZ29
import Derived.Maps.AppendAt
namespace Go.Proofs.YtpghpeombednkaaGreatDoor
open Go.RowKit

/-- What the program's MessageBytes tells. -/
def mbI (mi : Int) (reply cutm : Bool) (code : Int) (nm : List UInt8) (ty : Int) (A U : List (List UInt8 × Int × Int × List UInt8)) : Option (List UInt8) :=
  if msgB mi reply cutm code nm ty A U = true then some (msgW mi reply cutm code nm ty A U) else none
theorem own_lit1 (w : World) (nm : ByteArray) (b : Nat) (hb : b = w.heap.size) : (w.alloc (.cells #[.string nm] 9)).ownsRow b 9 1 (.slice (some ⟨b, 0, none⟩) 1 1) 1 ((nm.data.toList :: ([] : List (List UInt8))).map S) := by
  subst hb
  exact World.ownsRow_lit w #[.string nm] 1 (Nat.le_refl _) (by unfold maxLen; omega) rfl
theorem marks_flag (reply cutm : Bool) : marksI reply cutm = flagI reply cutm := rfl
theorem marks_range (reply cutm : Bool) : 0 ≤ marksI reply cutm ∧ marksI reply cutm ≤ 255 := by cases reply <;> cases cutm <;> decide

set_option maxRecDepth 20000 in
set_option maxHeartbeats 4000000 in
theorem iMessageBytes_any (mi : Int) (reply cutm : Bool) (code : Int) (nm : ByteArray) (ty : Int) (va vu : Value) (A U : List (List UInt8 × Int × Int × List UInt8)) (w : World) (ha : RRow w va A) (hu : RRow w vu U)
    (hna : ∀ n c, va = .slice none n c → c = 0) (hnu : ∀ n c, vu = .slice none n c → c = 0)
    (hxa : Hid (∀ x ∈ A, x.1.length ≤ 1048576 ∧ x.2.2.2.length ≤ 1048576)) (hxu : Hid (∀ x ∈ U, x.1.length ≤ 1048576 ∧ x.2.2.2.length ≤ 1048576)) (hE : EnvR w) :
    Calls Tryz.prog 11 #[MsgV mi reply cutm code nm ty va vu] w fun e w' => e = putVal (mbI mi reply cutm code nm.data.toList ty A U) ∧ Below w.heap.size w w' := by
  have HG : Hid (∀ W, Below w.heap.size w W → Calls Tryz.prog 26 #[MsgV mi reply cutm code nm ty va vu] W fun e w' => e = .returned (.bool (msgB mi reply cutm code nm.data.toList ty A U)) ∧ Below W.heap.size W w') := fun W hW => iGoodMessage_any mi reply cutm code nm ty va vu A U W (ha.kept hW) (hu.kept hW) hxa hxu (hE.below hW)
  have HH : Hid (∀ W, Below w.heap.size w W → Calls Tryz.prog 34 #[MsgV mi reply cutm code nm ty va vu] W fun e w' => e = .returned (HeadV nm ty mi (marksI reply cutm) code A.length U.length) ∧ Below W.heap.size W w') := fun W hW => headOf_any mi reply cutm code nm ty va vu A U W (ha.kept hW) (hu.kept hW)
  have HCC : Hid (A.length ≤ 12 → U.length ≤ 12 → ∀ W b, Below w.heap.size w W → W.cell? ⟨b, 0, none⟩ = some va → W.cell? ⟨b, 1, none⟩ = some vu → b < W.heap.size → Calls Tryz.prog 36 #[.slice (some ⟨b, 0, none⟩) 2 2] W fun e w' => ∃ v, e = .returned v ∧ OwnQ w' W.heap.size v (A ++ U) ∧ Below W.heap.size W w') := fun h1 h2 W b hW c0 c1 hb => concat_any va vu A U b W (ha.kept hW) (hu.kept hW) hna hnu h1 h2 c0 c1 hb
  obtain ⟨i9, hi9, hy0, hy1, hy2⟩ := info_parts info_string
  obtain ⟨aa, ca, hva, _, hca, _⟩ := id ha
  obtain ⟨au, cu, hvu, _, hcu, _⟩ := id hu
  subst hva
  subst hvu
  obtain ⟨mk, hmk⟩ : ∃ mk, mk = marksI reply cutm := ⟨_, rfl⟩
  have hmr := marks_range reply cutm
  rw [← hmk] at HH hmr
  have HMK : Hid (mk = flagI reply cutm) := hmk
  clear ha hu hna hnu hmk
  obtain ⟨RR, hRR⟩ : ∃ RR, RR = mbI mi reply cutm code nm.data.toList ty A U := ⟨_, rfl⟩
  rw [← hRR]
  cases hB : msgB mi reply cutm code nm.data.toList ty A U with
  | false =>
    have HN : Hid (RR = none) := by rw [hRR]; unfold mbI; rw [hB]; exact if_neg (fun h => by cases h)
    rw [hB] at HG
    clear hB hRR
    unfold MsgV at HG ⊢
    go_enter Tryz.func11, Tryz.ntmps11
    go_wp2_with fail
    refine (HG.out _ ((Below.refl w.heap.size w).alloc (Nat.le_refl _) _)).mono ?_
    rintro e w1 ⟨rfl, hb1⟩
    have hbw := (box8 hb1).2
    clear hb1
    go_wp2_with fail
    go_ret2
    exact ⟨put_none HN.out, hbw⟩
  | true =>
    obtain ⟨id0, id1, code0, code1, hname, ty0, ty1, few, fewU, hall, _⟩ := goodM hB
    have HRR : Hid (RR = some (msgW mi reply cutm code nm.data.toList ty A U)) := by
      rw [hRR]; unfold mbI; rw [hB]; exact if_pos rfl
    rw [hB] at HG
    have HCN : Hid (∀ W b, Below w.heap.size w W → W.cell? ⟨b, 0, none⟩ = some (.slice aa A.length ca) → W.cell? ⟨b, 1, none⟩ = some (.slice au U.length cu) → b < W.heap.size → Calls Tryz.prog 36 #[.slice (some ⟨b, 0, none⟩) 2 2] W fun e w' => ∃ v, e = .returned v ∧ OwnQ w' W.heap.size v (A ++ U) ∧ Below W.heap.size W w') := HCC.out few fewU
    have HALL : Hid (∀ x ∈ A ++ U, GoodR x) := hall
    have hnl : nm.size ≤ 60 := by
      have h := hname
      unfold nameB at h
      simp only [Bool.and_eq_true, decide_eq_true_eq] at h
      have h2 := data_len nm
      omega
    obtain ⟨L, hL⟩ : ∃ L, L = A ++ U := ⟨_, rfl⟩
    have hLl : L.length ≤ 24 := by rw [hL, List.length_append]; omega
    have HL : Hid (L = A ++ U) := hL
    have HGL : Hid (∀ k, (h : k < L.length) → GoodR (L[k]'h)) := fun k h => HALL.out _ (by rw [← hL]; exact List.getElem_mem h)
    have HXD : Hid (∀ x ∈ A ++ U, x.2.2.2.length ≤ 1048576) := fun x hx => by
      rcases List.mem_append.1 hx with hx | hx
      · exact (hxa.out x hx).2
      · exact (hxu.out x hx).2
    have HNL : Hid (∀ p ∈ nm.data.toList :: L.map Prod.fst, nameB p = true) := fun p hp => by
      rcases List.mem_cons.1 hp with rfl | hp
      · exact hname
      · obtain ⟨x, hx, rfl⟩ := List.mem_map.1 hp
        exact (HALL.out x (by rw [← hL]; exact hx)).name
    have HTL : Hid (∀ k, k ≤ L.length → (beB ty 1 ++ recsW (L.take k)).length ≤ 20000) := fun k hk => by
      have h := recsW_len (L.take k) (fun x hx => HALL.out x (by rw [← hL]; exact List.mem_of_mem_take hx))
      rw [List.length_append, beB_length]
      rw [List.length_take] at h
      omega
    have HKB : Hid (∀ W, Calls Tryz.prog 35 #[.agg #[.string nm, .int .i64 ty]] W fun e w' => e = .returned (.string ⟨(beB ty 1).toArray⟩) ∧ Below W.heap.size W w') := fun W => kindByte_any nm ty W (by omega) (by omega)
    rw [← hL] at HCN
    clear hB hRR hall hL HCC hname
    unfold MsgV at HG HH ⊢
    go_enter Tryz.func11, Tryz.ntmps11
    go_wp2_with fail
    refine (HG.out _ ((Below.refl w.heap.size w).alloc (Nat.le_refl _) _)).mono ?_
    rintro e w1 ⟨rfl, hb1⟩
    have HM1 : Hid (w1.heap[w.heap.size]? = some (.cells #[.int .i64 mi, .bool reply, .bool cutm, .int .i64 code, .string nm, .int .i64 ty, .slice aa A.length ca, .slice au U.length cu] 25)) := (hb1.block w.heap.size (by simp)).trans (blk_new _ _)
    have hz1 : w.heap.size < w1.heap.size := Nat.lt_of_lt_of_le (by simp) hb1.size
    have hbw1 : Below w.heap.size w w1 := ((Below.refl w.heap.size w).alloc (Nat.le_refl _) _).trans (hb1.mono (by simp))
    clear hb1
    obtain ⟨c0, c1, c2, c3, c4, c5, c6, c7⟩ := msg_cells HM1.out
    go_wp2_with fail
    refine (HH.out _ hbw1).mono ?_
    rintro e w2 ⟨rfl, hb2⟩
    unfold HeadV
    have HM2 : Hid (w2.heap[w.heap.size]? = some (.cells #[.int .i64 mi, .bool reply, .bool cutm, .int .i64 code, .string nm, .int .i64 ty, .slice aa A.length ca, .slice au U.length cu] 25)) := (hb2.block w.heap.size hz1).trans HM1.out
    have hz2 : w.heap.size < w2.heap.size := Nat.lt_of_lt_of_le hz1 hb2.size
    have hbw2 : Below w.heap.size w w2 := hbw1.trans (hb2.mono hbw1.size)
    clear c0 c1 c2 c3 c4 c5 c6 c7 hb2 HM1
    go_wp2_with fail
    refine (HKB.out _).mono ?_
    rintro e w3 ⟨rfl, hb3⟩
    have hb23 : Below w2.heap.size w2 w3 := (((Below.refl w2.heap.size w2).alloc (Nat.le_refl _) _).alloc (by simp) _).trans (hb3.mono (by simp; omega))
    have HM3 : Hid (w3.heap[w.heap.size]? = some (.cells #[.int .i64 mi, .bool reply, .bool cutm, .int .i64 code, .string nm, .int .i64 ty, .slice aa A.length ca, .slice au U.length cu] 25)) := (hb23.block w.heap.size hz2).trans HM2.out
    have HH3 : Hid (w3.heap[w2.heap.size]? = some (.cells #[.string nm, .int .i64 ty, .int .i64 mi, .int .i64 mk, .int .i64 code, .int .i64 A.length, .int .i64 U.length] 68)) := (heaps2 hb3).1
    have HO3 : Hid (w3.ownsRow (w2.heap.size + 1) 9 1 (.slice (some ⟨w2.heap.size + 1, 0, none⟩) 1 1) 1 ((nm.data.toList :: ([] : List (List UInt8))).map S)) := own_below (own_lit1 _ nm _ (by simp)) hb3
    have hz3 : w2.heap.size + 2 ≤ w3.heap.size := by have h := hb3.size; simpa using h
    have hbw3 : Below w.heap.size w w3 := hbw2.trans (hb23.mono hbw2.size)
    obtain ⟨c0, c1, c2, c3, c4, c5, c6, c7⟩ := msg_cells HM3.out
    clear hb3 HM2
    go_wp2_with fail
    refine (HCN.out _ w3.heap.size (hbw3.alloc hbw3.size _) (by simp) (by simp) (by simp)).mono ?_
    rintro e w4 ⟨v4, rfl, ho4, hb4⟩
    have hb34 : Below w3.heap.size w3 w4 := ((Below.refl w3.heap.size w3).alloc (Nat.le_refl _) _).trans (hb4.mono (by simp))
    obtain ⟨a4, cap4, hv4, hc4⟩ := ho4.shape
    subst hv4
    have HRL : Hid (L = [] ∨ ∃ b o, a4 = some ⟨b, o, none⟩ ∧ b < w4.heap.size ∧ ∀ j, (hj : j < L.length) → RecAt w4 b (o + j * 4) L[j]) := by
      obtain ⟨x, c, e, _, _, h⟩ := ho4.row
      cases e; exact h
    have HBN : Hid (∀ b o, a4 = some ⟨b, o, none⟩ → b ≠ w2.heap.size + 1) := fun b o h => by
      have h1 := (ho4.lt b (by rw [h]; rfl)).1
      simp at h1; omega
    have hcm : L.length ≤ cap4 := by
      obtain ⟨x, c, e, h, _, _⟩ := ho4.row
      cases e; exact h
    have HM4 : Hid (w4.heap[w.heap.size]? = some (.cells #[.int .i64 mi, .bool reply, .bool cutm, .int .i64 code, .string nm, .int .i64 ty, .slice aa A.length ca, .slice au U.length cu] 25)) := (hb34.block w.heap.size (by omega)).trans HM3.out
    have HH4 : Hid (w4.heap[w2.heap.size]? = some (.cells #[.string nm, .int .i64 ty, .int .i64 mi, .int .i64 mk, .int .i64 code, .int .i64 A.length, .int .i64 U.length] 68)) := (hb34.block w2.heap.size (by omega)).trans HH3.out
    have HO4 : Hid (w4.ownsRow (w2.heap.size + 1) 9 1 (.slice (some ⟨w2.heap.size + 1, 0, none⟩) 1 1) 1 ((nm.data.toList :: (L.take 0).map Prod.fst).map S)) := own_below HO3.out hb34
    have hz4 : w3.heap.size ≤ w4.heap.size := hb34.size
    have hbw4 : Below w.heap.size w w4 := hbw3.trans (hb34.mono hbw3.size)
    unfold maxLen at hc4
    clear ho4 hb4 hb34 hb23 HM3 HH3 HO3 c0 c1 c2 c3 c4 c5 c6 c7
    go_wp2_with fail
    go_loopw [5, 6, 32] (fun vn vt i wr => ∃ (k : Nat) (u : Value), k ≤ L.length ∧ i = .int .i64 (k : Int) ∧ vt = .string ⟨(beB ty 1 ++ recsW (L.take k)).toArray⟩ ∧ u = vn ∧ Hid (wr.ownsRow (w2.heap.size + 1) 9 1 u (k + 1) ((nm.data.toList :: (L.take k).map Prod.fst).map S)) ∧ Hid (∀ g, u.ownBlock = some g → g = w2.heap.size + 1 ∨ w4.heap.size ≤ g) ∧ Hid (Kpt w4 wr (fun j => j = w2.heap.size + 1 ∨ w4.heap.size ≤ j))) (fun _ _ i _ => L.length - (intOf i).toNat)
    case atStart => exact ⟨0, _, Nat.zero_le _, rfl, by simp [recsW], rfl, HO4, fun g hg => .inl (by injection hg with hg; exact hg.symm), Kpt.refl _ _⟩
    case round =>
      obtain ⟨k, u, hk, rfl, rfl, rfl, HO, HAP, HK⟩ := hrel
      have hzr : w4.heap.size ≤ wr.heap.size := HK.out.size
      have HBW : Hid (Below w.heap.size w wr) := hbw4.trans (HK.out.below hbw4.size (fun j hj h => by omega))
      by_cases hlt : k < L.length
      · rcases HRL.out with hr | ⟨b, o, ha, hbl, hcel⟩
        · rw [hr] at hlt; simp at hlt
        · have hbn := HBN.out b o ha
          rw [ha]
          have HM := HK.out.recAt (hcel k hlt) (by omega)
          have hG := HGL.out k hlt
          have HST0 : beB ty 1 ++ recsW (L.take (k + 1)) = (beB ty 1 ++ recsW (L.take k)) ++ recW (L[k]'hlt) := by rw [recsW_snoc L k hlt, List.append_assoc]
          have HNX0 : (nm.data.toList :: (L.take (k + 1)).map Prod.fst).map S = (nm.data.toList :: (L.take k).map Prod.fst).map S ++ [S (L[k]'hlt).1] := by
            rw [List.take_succ_eq_append_getElem hlt]; simp only [List.map_append, List.map_cons, List.map_nil, List.cons_append]
          have htl := HTL.out k hk
          have hxd0 := HXD.out (L[k]'hlt) (by rw [← HL.out]; exact List.getElem_mem hlt)
          obtain ⟨x, hx⟩ : ∃ x, x = L[k]'hlt := ⟨_, rfl⟩
          rw [← hx] at HM hG HST0 HNX0 hxd0
          clear hx hcel
          obtain ⟨xn, xt, xl, xd⟩ := x
          obtain ⟨m0, m1, m2, m3⟩ := HM
          simp only at m0 m1 m2 m3 hxd0
          obtain ⟨dd, hdd⟩ : ∃ dd, dd = datW (xn, xt, xl, xd) := ⟨_, rfl⟩
          obtain ⟨tt, htt⟩ : ∃ tt, tt = beB ty 1 ++ recsW (L.take k) := ⟨_, rfl⟩
          have HD : Hid (dataP xt xd = some dd) := by rw [hdd]; exact hG.data
          have hdl : dd.length ≤ 600 := by rw [hdd]; exact hG.dlen
          have hxt0 : 1 ≤ xt := hG.ty0
          have hxt1 : xt ≤ 16 := hG.ty1
          have hxl0 : 0 ≤ xl := hG.ttl0
          have hxl1 : xl ≤ 100000 := hG.ttl1
          have hxd : (⟨xd.toArray⟩ : ByteArray).size ≤ 1048576 := by rw [size_list]; exact hxd0
          have HRW : recW (xn, xt, xl, xd) = beB xt 1 ++ beB xl 3 ++ beB (dd.length : Int) 1 ++ dd := by unfold recW; rw [← hdd]
          have HW0 : ∀ W, Calls Tryz.prog 39 #[.agg #[.string ⟨xn.toArray⟩, .int .i64 xt, .int .i64 xl, .int .i64 (dd.length : Int)]] W fun e w' => e = .returned (.string ⟨(beB xt 1 ++ beB xl 3 ++ beB (dd.length : Int) 1).toArray⟩) ∧ Below W.heap.size W w' := fun W => recWire_any ⟨xn.toArray⟩ xt xl (dd.length : Int) W (by omega) (by omega) (by omega) (by omega) (by omega) (by omega)
          have HR0 : ∀ W, Calls Tryz.prog 38 #[.agg #[.string ⟨xn.toArray⟩, .int .i64 xt, .int .i64 xl, .string ⟨xd.toArray⟩], .string ⟨dd.toArray⟩] W fun e w' => e = .returned (.agg #[.string ⟨xn.toArray⟩, .int .i64 xt, .int .i64 xl, .int .i64 (dd.length : Int)]) ∧ Below W.heap.size W w' := fun W => by
            have h := headOfRecord_any ⟨xn.toArray⟩ ⟨xd.toArray⟩ ⟨dd.toArray⟩ xt xl W
            rw [size_list] at h; exact h
          have hwl : (beB xt 1 ++ beB xl 3 ++ beB (dd.length : Int) 1).length = 5 := by simp only [List.length_append, beB_length]
          obtain ⟨wp, hwp⟩ : ∃ wp, wp = beB xt 1 ++ beB xl 3 ++ beB (dd.length : Int) 1 := ⟨_, rfl⟩
          rw [← hwp] at HW0 HRW hwl
          rw [← htt] at HST0 htl ⊢
          have HWI : Hid (∀ W, Calls Tryz.prog 39 #[.agg #[.string ⟨xn.toArray⟩, .int .i64 xt, .int .i64 xl, .int .i64 (dd.length : Int)]] W fun e w' => e = .returned (.string ⟨wp.toArray⟩) ∧ Below W.heap.size W w') := HW0
          have HRH : Hid (∀ W, Calls Tryz.prog 38 #[.agg #[.string ⟨xn.toArray⟩, .int .i64 xt, .int .i64 xl, .string ⟨xd.toArray⟩], .string ⟨dd.toArray⟩] W fun e w' => e = .returned (.agg #[.string ⟨xn.toArray⟩, .int .i64 xt, .int .i64 xl, .int .i64 (dd.length : Int)]) ∧ Below W.heap.size W w') := HR0
          have HDB : Hid (∀ W, EnvR W → Calls Tryz.prog 37 #[.int .i64 xt, .string ⟨xd.toArray⟩] W fun e w' => e = .returned (.tuple #[.string ⟨dd.toArray⟩, .bool true]) ∧ Below W.heap.size W w') := fun W hW => by
            have h := iDataBytes_any xt ⟨xd.toArray⟩ W hxd hW
            rw [show (⟨xd.toArray⟩ : ByteArray).data.toList = xd from rfl, HD.out] at h
            exact h
          have HST : Hid (beB ty 1 ++ recsW (L.take (k + 1)) = tt ++ (wp ++ dd)) := by rw [HST0, HRW]; exact rfl
          obtain ⟨ns, hns⟩ : ∃ ns, ns = (nm.data.toList :: (L.take k).map Prod.fst).map S := ⟨_, rfl⟩
          rw [← hns] at HO HNX0
          have HNX : Hid ((nm.data.toList :: (L.take (k + 1)).map Prod.fst).map S = ns ++ [.string ⟨xn.toArray⟩]) := HNX0
          have HUL : Hid (∀ g, u.ownBlock = some g → g < wr.heap.size) := fun g hg => (HO.out.lt g hg).2
          clear hns hxd0 HST0 HRW HNX0 hwp htt hdd hG HW0 HR0 HD
          go_wp2_with fail
          refine (HDB.out _ (hE.below (HBW.out.alloc HBW.out.size _))).mono ?_
          rintro e w5 ⟨rfl, hb5⟩
          have HB5 : Hid (w5.heap[wr.heap.size]? = some (.cells #[.string ⟨xn.toArray⟩, .int .i64 xt, .int .i64 xl, .string ⟨xd.toArray⟩] 35)) := (hb5.block wr.heap.size (by simp)).trans (blk_new _ _)
          have HO5 : Hid (w5.ownsRow (w2.heap.size + 1) 9 1 u (k + 1) ns) := own_below (HO.out.alloc _) hb5
          have hz5 : wr.heap.size < w5.heap.size := Nat.lt_of_lt_of_le (by simp) hb5.size
          have HK5 : Hid (Kpt w4 w5 (fun j => j = w2.heap.size + 1 ∨ w4.heap.size ≤ j)) := HK.out.trans ((kpt_alloc _ _ _).trans (below_kpt0 hb5 _))
          obtain ⟨r0, r1, r2, r3⟩ := rec_cells4 HB5.out
          clear hb5 m0 m1 m2 m3 HO HK
          go_wp2_with (first | (at_builtin; refine wpList_append_own_at _ rfl (.tmp 44) (.tmp 47) 70 rfl (w2.heap.size + 1) 9 i9 (.string ByteArray.empty) 1 16 Tryz.underlying70 hi9 hy0 hy1 hy2 rfl (by decide) u _ ns rfl (HO5.out.alloc _) ⟨w5.heap.size, 0, none⟩ 1 1 [.string ⟨xn.toArray⟩] rfl rfl ?k1 ?k2 ?k3 ?k4 ?k5 ?_))
          case k1 => exact cell_new_one' _ _ _ _ rfl
          case k2 => exact one_string _
          case k3 => unfold maxLen; omega
          case k4 => omega
          case k5 => simp; omega
          intro vn2 w6 hown6 hgrow6 _ hob
          have HB6 : Hid (w6.heap[wr.heap.size]? = some (.cells #[.string ⟨xn.toArray⟩, .int .i64 xt, .int .i64 xl, .string ⟨xd.toArray⟩] 35)) := by
            have e1 := hgrow6.block wr.heap.size (by simp; omega) (fun h => by have h1 := HUL.out _ h.symm; omega)
            exact e1.trans (((kpt_alloc w5 _ (fun _ => False)).block wr.heap.size hz5 (fun h => h)).trans HB5.out)
          have HO6 : Hid (w6.ownsRow (w2.heap.size + 1) 9 1 vn2 (k + 1 + 1) ((nm.data.toList :: (L.take (k + 1)).map Prod.fst).map S)) := by
            show w6.ownsRow (w2.heap.size + 1) 9 1 vn2 (k + 1 + 1) _
            rw [HNX.out]; exact hown6
          have HK6 : Hid (Kpt w4 w6 (fun j => j = w2.heap.size + 1 ∨ w4.heap.size ≤ j)) := HK5.out.trans ((kpt_alloc _ _ _).trans ((grown_kpt hgrow6).mono (fun j _ hj => HAP.out j hj)))
          have HAP6 : Hid (∀ g, vn2.ownBlock = some g → g = w2.heap.size + 1 ∨ w4.heap.size ≤ g) := fun g hg => by
            rcases hob with h | h
            · exact HAP.out g (h ▸ hg)
            · rw [h] at hg
              injection hg with hg
              omega
          have hz6 : wr.heap.size < w6.heap.size := Nat.lt_of_lt_of_le (by simp; omega) hgrow6.size
          clear r0 r1 r2 r3 hown6 hgrow6 hob HO5 HK5 HB5 HAP
          obtain ⟨r0, r1, r2, r3⟩ := rec_cells4 HB6.out
          go_wp2_with fail
          refine (HRH.out _).mono ?_
          rintro e w7 ⟨rfl, hb7⟩
          go_wp2_with fail
          refine (HWI.out _).mono ?_
          rintro e w8 ⟨rfl, hb8⟩
          have hb68 : Below w6.heap.size w6 w8 := hb7.trans (hb8.mono hb7.size)
          have HO8 : Hid (w8.ownsRow (w2.heap.size + 1) 9 1 vn2 (k + 1 + 1) ((nm.data.toList :: (L.take (k + 1)).map Prod.fst).map S)) := own_below HO6.out hb68
          have HK8 : Hid (Kpt w4 w8 (fun j => j = w2.heap.size + 1 ∨ w4.heap.size ≤ j)) := HK6.out.trans (below_kpt0 hb68 _)
          clear hb7 hb8 hb68 r0 r1 r2 r3 HO6 HK6
          go_wp2_with fail
          go_roundw
          case rel => exact ⟨k + 1, vn2, by omega, by go_num, val_strM (by rw [HST.out]; simp), rfl, HO8, HAP6, HK8⟩
          case measure => simp [intOf]; omega
      · have hkk : L.take k = L := List.take_of_length_le (by omega)
        have hke : k = L.length := by omega
        have htl := HTL.out k hk
        have HROW : Hid (Row wr u (nm.data.toList :: L.map Prod.fst)) := by
          have h := HO.out
          rw [hkk, hke] at h
          exact row_own (by rw [List.length_cons, List.length_map]; exact h)
        obtain ⟨pk, hpk⟩ : ∃ pk, pk = packAll [] (nm.data.toList :: L.map Prod.fst) := ⟨_, rfl⟩
        have hpl : pk.length ≤ 1575 := by
          have h := packAll_len (nm.data.toList :: L.map Prod.fst) [] HNL.out
          rw [List.length_cons, List.length_map] at h
          rw [hpk]; simp only [List.length_nil] at h; omega
        have HPK : Hid (trkR [] [] [] (nm.data.toList :: L.map Prod.fst) = some pk) := by
          have h := trkR_all (nm.data.toList :: L.map Prod.fst) [] [] [] HNL.out Trk.start (by rw [List.length_cons, List.length_map, List.length_nil]; omega)
          rw [← hpk] at h; exact h
        obtain ⟨tt, htt⟩ : ∃ tt, tt = beB ty 1 ++ recsW (L.take k) := ⟨_, rfl⟩
        have HPA : Hid (Calls Tryz.prog 40 #[u] wr fun e w' => e = putVal (trkR [] [] [] (nm.data.toList :: L.map Prod.fst)) ∧ Below wr.heap.size wr w') := iPackAll_any u (nm.data.toList :: L.map Prod.fst) wr HROW.out (by rw [List.length_cons, List.length_map]; omega) (hE.below HBW.out).1
        rw [HPK.out] at HPA
        have HE1 : Hid (namW nm.data.toList (A ++ U) = pk) := by rw [hpk, HL.out]; exact rfl
        have HE2 : Hid (beB ty 1 ++ recsW (A ++ U) = tt) := by rw [htt, hkk, HL.out]; exact rfl
        rw [← htt] at htl ⊢
        have HH5 : Hid (wr.heap[w2.heap.size]? = some (.cells #[.string nm, .int .i64 ty, .int .i64 mi, .int .i64 mk, .int .i64 code, .int .i64 A.length, .int .i64 U.length] 68)) := (HK.out.block w2.heap.size (by omega) (fun h => by omega)).trans HH4.out
        clear hkk hke htt HO hpk
        have HWH0 : ∀ W, Calls Tryz.prog 41 #[HeadV nm ty mi mk code A.length U.length] W fun e w' => e = .returned (.string ⟨(beB mi 2 ++ beB mk 1 ++ beB code 1 ++ (beB (A.length : Int) 1 ++ beB (U.length : Int) 1)).toArray⟩) ∧ Below W.heap.size W w' := fun W => msgWire_any nm ty mi mk code A.length U.length W id0 id1 hmr.1 hmr.2 code0 (by omega) (by omega) (by omega) (by omega) (by omega)
        have HNB0 : ∀ W, Calls Tryz.prog 42 #[.int .i64 (pk.length : Int), .int .i64 2] W fun e w' => e = .returned (.string ⟨(beB (pk.length : Int) 2).toArray⟩) ∧ Below W.heap.size W w' := fun W => numberBytes_any (pk.length : Int) 2 W (by omega) (by omega) (by omega)
        have hwl : (beB mi 2 ++ beB mk 1 ++ beB code 1 ++ (beB (A.length : Int) 1 ++ beB (U.length : Int) 1)).length = 6 := by simp only [List.length_append, beB_length]
        have hnl2 : (beB (pk.length : Int) 2).length = 2 := beB_length _ _
        have HRES0 : msgW mi reply cutm code nm.data.toList ty A U = (beB mi 2 ++ beB mk 1 ++ beB code 1 ++ (beB (A.length : Int) 1 ++ beB (U.length : Int) 1)) ++ beB (pk.length : Int) 2 ++ pk ++ tt := by
          unfold msgW
          rw [HE1.out, HE2.out, HMK.out]
          simp only [List.append_assoc]
        obtain ⟨wh, hwh⟩ : ∃ wh, wh = beB mi 2 ++ beB mk 1 ++ beB code 1 ++ (beB (A.length : Int) 1 ++ beB (U.length : Int) 1) := ⟨_, rfl⟩
        obtain ⟨n2, hn2⟩ : ∃ n2, n2 = beB (pk.length : Int) 2 := ⟨_, rfl⟩
        rw [← hwh] at HWH0 hwl HRES0
        rw [← hn2] at HNB0 hnl2 HRES0
        unfold HeadV at HWH0
        have HWH : Hid (∀ W, Calls Tryz.prog 41 #[.agg #[.string nm, .int .i64 ty, .int .i64 mi, .int .i64 mk, .int .i64 code, .int .i64 A.length, .int .i64 U.length]] W fun e w' => e = .returned (.string ⟨wh.toArray⟩) ∧ Below W.heap.size W w') := HWH0
        have HNB : Hid (∀ W, Calls Tryz.prog 42 #[.int .i64 (pk.length : Int), .int .i64 2] W fun e w' => e = .returned (.string ⟨n2.toArray⟩) ∧ Below W.heap.size W w') := HNB0
        have HN : Hid (RR = some (wh ++ n2 ++ pk ++ tt)) := by rw [HRR.out, HRES0]; exact rfl
        clear hwh hn2 HWH0 HNB0 HRES0 HRR
        go_wp2_with fail
        refine HPA.out.mono ?_
        rintro e w5 ⟨rfl, hb5⟩
        have hbw5 : Below w.heap.size w w5 := HBW.out.trans (hb5.mono HBW.out.size)
        have HH6 : w5.heap[w2.heap.size]? = some (.cells #[.string nm, .int .i64 ty, .int .i64 mi, .int .i64 mk, .int .i64 code, .int .i64 A.length, .int .i64 U.length] 68) := (hb5.block w2.heap.size (by omega)).trans HH5.out
        obtain ⟨d0, d1, d2, d3, d4, d5, d6⟩ := head_cells HH6
        unfold putVal
        rw [show (some pk).getD [] = pk from rfl, show (some pk).isSome = true from rfl]
        clear hb5 HH6
        go_wp2_with fail
        refine (HWH.out _).mono ?_
        rintro e w6 ⟨rfl, hb6⟩
        clear d0 d1 d2 d3 d4 d5 d6
        have hbw6 : Below w.heap.size w w6 := hbw5.trans (hb6.mono hbw5.size)
        go_wp2_with fail
        refine (HNB.out _).mono ?_
        rintro e w7 ⟨rfl, hb7⟩
        have hbw7 : Below w.heap.size w w7 := hbw6.trans (hb7.mono hbw6.size)
        go_wp2_with fail
        go_ret2
        exact ⟨put_some HN.out (by simp), hbw7⟩
end Go.Proofs.YtpghpeombednkaaGreatDoor
