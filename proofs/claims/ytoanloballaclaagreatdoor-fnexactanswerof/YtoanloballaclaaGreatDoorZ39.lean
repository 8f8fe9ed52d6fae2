import Derived.Test.YtoanloballaclaaGreatDoorZ35
import Derived.Test.YtoanloballaclaaGreatDoorZ38
namespace Go.Proofs.YtoanloballaclaaGreatDoor
open Go.RowKit

/-- Of each target its weight, where it is among the candidates. -/
def shL (L : List TgtT) (C : List Int) : List Int := (List.range L.length).map (fun (i : Nat) => if (i : Int) ∈ C then (L.getD i ([], [], 0, 0)).2.2.2 else 0)
theorem shL_length (L : List TgtT) (C : List Int) : (shL L C).length = L.length := by simp [shL]
theorem shL_get {L : List TgtT} {C : List Int} {i : Nat} (h : i < L.length) : (shL L C)[i]'(by rw [shL_length]; exact h) = if (i : Int) ∈ C then (L[i]).2.2.2 else 0 := by
  simp only [shL, List.getElem_map, List.getElem_range, tgetD h]
theorem shL_zero (L : List TgtT) : shL L [] = List.replicate L.length 0 := by
  refine List.ext_getElem (by simp [shL]) (fun i h1 h2 => ?_)
  rw [shL_get (by rw [shL_length] at h1; exact h1)]
  simp
theorem shL_next {L : List TgtT} {C : List Int} {j i : Nat} (hj : j < C.length) (hi : i < L.length) (e : C[j] = (i : Int)) : shL L (C.take (j + 1)) = (shL L (C.take j)).set i (L[i]).2.2.2 := by
  refine List.ext_getElem (by simp [shL_length]) (fun k h1 h2 => ?_)
  have hk : k < L.length := by rw [shL_length] at h1; exact h1
  rw [shL_get hk, List.getElem_set]
  by_cases hik : i = k
  · subst hik
    rw [if_pos rfl, if_pos]
    rw [List.take_succ_eq_append_getElem hj, List.mem_append]
    exact .inr (by simp [e])
  · rw [if_neg hik, shL_get hk]
    have hiff : ((k : Int) ∈ C.take (j + 1)) ↔ ((k : Int) ∈ C.take j) := by
      rw [List.take_succ_eq_append_getElem hj, List.mem_append, List.mem_singleton, e]
      constructor
      · rintro (h | h)
        · exact h
        · omega
      · exact .inl
    by_cases hm : (k : Int) ∈ C.take j
    · rw [if_pos hm, if_pos (hiff.2 hm)]
    · rw [if_neg hm, if_neg (fun h => hm (hiff.1 h))]
theorem shL_sm {L : List TgtT} (C : List Int) (h : ∀ x ∈ L, tgtB x = true) : (shL L C).all smB = true := by
  refine List.all_eq_true.2 fun x hx => ?_
  obtain ⟨i, hi, rfl⟩ := List.getElem_of_mem hx
  have hl : i < L.length := by rw [shL_length] at hi; exact hi
  rw [shL_get hl]
  split
  · have := tgt_parts (h _ (List.getElem_mem hl))
    simp only [smB, inB, Bool.and_eq_true, decide_eq_true_eq]; omega
  · decide
theorem made_sh {w w1 : World} {L : List TgtT} (h : w1.ownsRow w.heap.size 3 1 (.slice (some ⟨w.heap.size, 0, none⟩) L.length L.length) L.length (madeCells #[.int .i64 0] L.length).toList) (C : List Int) : ZSRow w1 w.heap.size (shL L (C.take 0)) := by
  have h2 := made_zs (w := w) (P := shL L []) (by rw [shL_length]; exact h)
  rw [List.take_zero, shL_zero]
  rw [show partZ (shL L []) 0 = List.replicate L.length 0 by simp [partZ, shL_length]] at h2
  exact h2
/-- The shares; their sum. -/
def shrA (nm : List UInt8) (L : List TgtT) (ri fa : Int) (H : List HosT) : List Int := if okO nm L ri fa H = true then shL L (canO (wellB H) L) else []
def sumA (nm : List UInt8) (L : List TgtT) (ri fa : Int) (H : List HosT) : Int := if okO nm L ri fa H = true then (shL L (canO (wellB H) L)).sum else 0
theorem shr_off {nm : List UInt8} {L : List TgtT} {ri fa : Int} {H : List HosT} (h : okO nm L ri fa H = false) : shrA nm L ri fa H = [] ∧ sumA nm L ri fa H = 0 := by unfold shrA sumA; rw [h]; exact ⟨rfl, rfl⟩
theorem shr_on {nm : List UInt8} {L : List TgtT} {ri fa : Int} {H : List HosT} (h : okO nm L ri fa H = true) : shrA nm L ri fa H = shL L (canO (wellB H) L) ∧ sumA nm L ri fa H = (shL L (canO (wellB H) L)).sum := by unfold shrA sumA; rw [h]; exact ⟨rfl, rfl⟩
theorem ok_pol {nm : List UInt8} {L : List TgtT} {ri fa : Int} {H : List HosT} (h : okO nm L ri fa H = true) : polB nm L = true := by
  unfold okO at h
  cases hp : polB nm L with
  | true => rfl
  | false => rw [hp] at h; cases h
theorem OwnN.mono {w : World} {b b' : Nat} {v : Value} {O : List Int} (h : OwnN w b v O) (hb : b' ≤ b) : OwnN w b' v O := by
  rcases h with h | ⟨g, c, rfl, h1, h2, h3, hs⟩
  · exact .inl h
  · exact .inr ⟨g, c, rfl, h1, h2, Nat.le_trans hb h3, hs⟩
/-- Shares told. -/
def ShT (w' : World) (base : Nat) (ok : Bool) (O : List Int) (S : Int) (e : Ending) : Prop := ∃ u, e = .returned (.tuple #[u, .int .i64 S, .bool ok]) ∧ OwnN w' base u O
theorem sh_off (w' : World) (base : Nat) : ShT w' base false [] 0 (.returned (.tuple #[.slice none 0 0, .int .i64 0, .bool false])) := ⟨_, rfl, .inl ⟨rfl, rfl⟩⟩

set_option maxRecDepth 20000 in
set_option maxHeartbeats 8000000 in
theorem iSharesOf_any (n : List UInt8) (v : Value) (L : List TgtT) (ri fa : Int) (hv : Value) (H : List HosT) (w : World) (hr : TgtRow w v L) (hl : L.length ≤ 1048576) (hx : Hid (∀ x ∈ L, x.1.length ≤ 1048576 ∧ x.2.1.length ≤ 1048576)) (hh : HstRow w hv H) (hE : EnvR w) :
    Calls Tryz.prog 27 #[PolV ⟨n.toArray⟩ v, HeaV ri fa hv] w fun e w' => ShT w' w.heap.size (okO n L ri fa H) (shrA n L ri fa H) (sumA n L ri fa H) e ∧ Below w.heap.size w w' := by
  obtain ⟨i0, hi, hz0, hz1, hz2⟩ := info_parts info_int
  have HCB : Hid (∀ W, Below w.heap.size w W → Calls Tryz.prog 40 #[PolV ⟨n.toArray⟩ v, HeaV ri fa hv] W fun e w' => CanT w' W.heap.size (okO n L ri fa H) (grpA n L ri fa H) (canA n L ri fa H) e ∧ Below W.heap.size W w') := fun W hW => candidatesBy_any n v L ri fa hv H W (hr.kept hW) hl hx (hh.kept hW) (hE.below hW)
  have HOFF : Hid (okO n L ri fa H = false → shrA n L ri fa H = [] ∧ sumA n L ri fa H = 0) := shr_off
  have HONN : Hid (okO n L ri fa H = true → canA n L ri fa H = canO (wellB H) L ∧ shrA n L ri fa H = shL L (canO (wellB H) L) ∧ sumA n L ri fa H = (shL L (canO (wellB H) L)).sum) := fun h => ⟨(okO_on h).2, shr_on h⟩
  have HALLT : Hid (okO n L ri fa H = true → ∀ x ∈ L, tgtB x = true) := fun h => (pol_parts (ok_pol h)).2.2.2
  obtain ⟨ok, hok⟩ : ∃ ok, ok = okO n L ri fa H := ⟨_, rfl⟩
  obtain ⟨gA, hgA⟩ : ∃ gA, gA = grpA n L ri fa H := ⟨_, rfl⟩
  rw [← hok] at HCB HOFF HONN HALLT ⊢
  rw [← hgA] at HCB
  unfold PolV HeaV at HCB ⊢
  obtain ⟨a, cap, rfl, hcap, hmax, HROW⟩ := tgt_value hr
  obtain ⟨a2, cap2, rfl, hcap2, hmax2, _⟩ := hst_value hh
  obtain ⟨W0, hW0⟩ : ∃ W0, W0 = (w.alloc (.cells #[.string ⟨n.toArray⟩, .slice a L.length cap] 34)).alloc (.cells #[.int .i64 ri, .int .i64 fa, .slice a2 H.length cap2] 38) := ⟨_, rfl⟩
  have hb0 : Below w.heap.size w W0 := by rw [hW0]; exact ((Below.refl w.heap.size w).alloc (Nat.le_refl _) _).alloc (by simp) _
  have HP0 : Hid (W0.heap[w.heap.size]? = some (.cells #[.string ⟨n.toArray⟩, .slice a L.length cap] 34)) := by
    have h := tgt_below2 (W := W0) (w := w) (by rw [hW0]; exact Below.refl _ _)
    exact h.1
  have HH0 : Hid (W0.heap[w.heap.size + 1]? = some (.cells #[.int .i64 ri, .int .i64 fa, .slice a2 H.length cap2] 38)) := by
    have h := tgt_below2 (W := W0) (w := w) (by rw [hW0]; exact Below.refl _ _)
    exact h.2.1
  obtain ⟨⟨p0, p1⟩, _⟩ := pol_cells HP0.out
  obtain ⟨⟨h0, h1, h2⟩, _⟩ := hst_cells HH0.out
  have hzP : w.heap.size < W0.heap.size := by rw [hW0]; simp; omega
  have HW0 : Hid ((w.alloc (.cells #[.string ⟨n.toArray⟩, .slice a L.length cap] 34)).alloc (.cells #[.int .i64 ri, .int .i64 fa, .slice a2 H.length cap2] 38) = W0) := hW0.symm
  clear hW0 hok hgA hr hh hx hE
  cases ok with
  | false =>
    rw [(HOFF.out rfl).1, (HOFF.out rfl).2]
    clear HONN HALLT HOFF
    go_enter Tryz.func27, Tryz.ntmps27
    go_wp2_with (rw [HW0.out])
    refine (HCB.out _ hb0).mono ?_
    rintro e w1 ⟨⟨u, rfl, hu⟩, hb1⟩
    clear p0 p1 h0 h1 h2
    obtain ⟨ua, uc, hue, huc1, huc2⟩ := own_slice hu
    subst hue
    have hbw := hb0.trans (hb1.mono hb0.size)
    have hbw2 := hbw.alloc hbw.size (.cells #[.int .i64 gA, .slice ua (canA n L ri fa H).length uc] 69)
    clear hu
    go_wp2_with fail
    go_ret3
    exact ⟨sh_off _ _, hbw2⟩
  | true =>
    have HMEM : Hid (∀ x ∈ canO (wellB H) L, ∃ i : Nat, ∃ _ : i < L.length, x = (i : Int)) := fun x hx => can_mem hx
    obtain ⟨C, hC⟩ : ∃ C, C = canO (wellB H) L := ⟨_, rfl⟩
    rw [← hC] at HONN HMEM
    rw [(HONN.out rfl).2.1, (HONN.out rfl).2.2]
    rw [(HONN.out rfl).1] at HCB
    have HSM : Hid ((shL L C).all smB = true) := shL_sm C (HALLT.out rfl)
    have HSUM : Hid (∀ g W, ZSRow W g (shL L C) → Calls Tryz.prog 52 #[.slice (some ⟨g, 0, none⟩) L.length L.length] W fun e w' => e = .returned (.int .i64 (shL L C).sum) ∧ w' = W) := fun g W h => by
      have h2 := sumOf_any (.slice (some ⟨g, 0, none⟩) (shL L C).length (shL L C).length) (shL L C) W (h.row (by rw [shL_length]; exact hl)) (by rw [shL_length]; exact hl) HSM.out
      rw [shL_length] at h2; exact h2
    clear HONN HALLT HOFF hC
    go_enter Tryz.func27, Tryz.ntmps27
    go_wp2_with (rw [HW0.out])
    refine (HCB.out _ hb0).mono ?_
    rintro e w1 ⟨⟨u, rfl, hu⟩, hb1⟩
    clear p0 p1 h0 h1 h2
    have hzr := nums_row hu
    obtain ⟨ua, uc, rfl, huc1, huc2, HROWC⟩ := zrow_value hzr
    have hbw := hb0.trans (hb1.mono hb0.size)
    have hP1 := (hb1.block _ hzP).trans HP0.out
    obtain ⟨W2, hW2⟩ : ∃ W2, W2 = w1.alloc (.cells #[.int .i64 gA, .slice ua C.length uc] 69) := ⟨_, rfl⟩
    have hb12 : Below w1.heap.size w1 W2 := by rw [hW2]; exact (Below.refl _ _).alloc (Nat.le_refl _) _
    have hbw2 := hbw.trans (hb12.mono hbw.size)
    have hz1l : w.heap.size < w1.heap.size := (Array.getElem?_eq_some_iff.1 hP1).1
    have hz12 : w1.heap.size < W2.heap.size := by rw [hW2]; simp
    have HX : Hid (∀ W, Below W2.heap.size W2 W → (W.cell? ⟨w.heap.size, 0, none⟩ = some (.string ⟨n.toArray⟩) ∧ W.cell? ⟨w.heap.size, 1, none⟩ = some (.slice a L.length cap)) ∧ Below w.heap.size w W) := fun W hW => ⟨(pol_cells ((hW.block _ (by omega)).trans ((hb12.block _ hz1l).trans hP1))).1, hbw2.trans (hW.mono hbw2.size)⟩
    have HY : Hid (∀ W, Below W2.heap.size W2 W → (W.cell? ⟨w1.heap.size, 0, none⟩ = some (.int .i64 gA) ∧ W.cell? ⟨w1.heap.size, 1, none⟩ = some (.slice ua C.length uc))) := fun W hW => (pol_cells ((hW.block _ hz12).trans (by rw [hW2]; exact tgt_new _ _))).1
    have HCC : Hid (∀ b k v, b < w1.heap.size → w1.cell? ⟨b, k, none⟩ = some v → ∀ W, Below W2.heap.size W2 W → W.cell? ⟨b, k, none⟩ = some v) := fun b k v hbk hv W hW => ((hW.cell (p := ⟨b, k, none⟩) (show b < W2.heap.size by omega)).trans (hb12.cell (p := ⟨b, k, none⟩) hbk)).trans hv
    have HW2 : Hid (w1.alloc (.cells #[.int .i64 gA, .slice ua C.length uc] 69) = W2) := hW2.symm
    have hb22 : Below W2.heap.size W2 W2 := Below.refl _ _
    obtain ⟨⟨p0, p1⟩, _⟩ := HX.out _ hb22
    obtain ⟨gO, hgO⟩ : ∃ gO, gO = W2.heap.size := ⟨_, rfl⟩
    have hwg : w.heap.size ≤ gO := by omega
    clear hu hzr hW2 hP1 hb1 hb12 hbw
    go_wp2_with (first | rw [HW2.out] | (at_make; refine wpList_make_full _ rfl _ _ 43 rfl W2.heap.size 3 i0 (.int .i64 0) 1 Tryz.underlying43 hi hz0 hz1 _ _ _ _ L.length rfl rfl rfl rfl ?b2 ?b3 ?b4 ?_))
    case b2 => rw [hz2]; omega
    case b3 => unfold maxLen; omega
    case b4 => exact Nat.le_refl _
    intro w3 hown hgrow
    have HB0 : Below W2.heap.size W2 w3 := (Below.refl _ _).grown hgrow (Nat.le_refl _) (fun k h => by cases h)
    have HZ0 : Hid (ZSRow w3 gO (shL L (C.take 0))) := by rw [hgO]; exact made_sh (w := W2) hown C
    have HGO : Hid (W2.heap.size = gO) := hgO.symm
    clear hown hgrow p0 p1 hgO
    rw [HGO.out]
    obtain ⟨q0, q1⟩ := HY.out _ HB0
    go_wp2_with fail
    go_loopw [27] (fun i wr => ∃ j : Nat, j ≤ C.length ∧ i = .int .i64 (j : Int) ∧ Hid (ZSRow wr gO (shL L (C.take j))) ∧ Below W2.heap.size W2 wr) (fun i _ => C.length - (intOf i).toNat)
    case atStart => exact ⟨0, Nat.zero_le _, rfl, HZ0, HB0⟩
    case round =>
      obtain ⟨j, hj, rfl, HZ, hb⟩ := hrel
      by_cases hlt : j < C.length
      · obtain ⟨cb, co, hca, hcbl, hccel⟩ := HROWC.out (by omega)
        have hcj := hccel j hlt
        have hcj2 := HCC.out cb (co + j) _ hcbl hcj _ hb
        clear hcj
        obtain ⟨i, hil, hie⟩ := HMEM.out _ (List.getElem_mem hlt)
        have HNX : Hid (shL L (C.take (j + 1)) = (shL L (C.take j)).set i (L[i]'hil).2.2.2) := shL_next hlt hil hie
        rw [hie] at hcj2
        obtain ⟨b, o, ha, hbl, hcel⟩ := HROW.out (by omega)
        have hcx := (hcel i hil).kept (HX.out _ hb).2
        unfold TgtAt at hcx
        obtain ⟨c0, c1, c2, c3⟩ := hcx
        have hle : (shL L (C.take j)).length = L.length := shL_length L _
        have hpk := HZ.out.2 i (by rw [hle]; exact hil)
        have hcg := hpk.1
        have hfg := hpk.2
        have hset := HZ.out.set i (by rw [hle]; exact hil) (L[i]'hil).2.2.2
        rw [← HNX.out] at hset
        obtain ⟨y, hy⟩ : ∃ y, y = (L[i]'hil).2.2.2 := ⟨_, rfl⟩
        obtain ⟨z, hz⟩ : ∃ z, z = (shL L (C.take j))[i]'(by rw [hle]; exact hil) := ⟨_, rfl⟩
        rw [← hy] at c3 hset
        rw [← hz] at hcg
        have HSS : Hid (ZSRow (wr.setCell ⟨gO, i, none⟩ (.int .i64 y)) gO (shL L (C.take (j + 1)))) := hset
        obtain ⟨⟨p0, p1⟩, _⟩ := HX.out _ hb
        obtain ⟨q0, q1⟩ := HY.out _ hb
        have hki : (i : Int) < (L.length : Int) := by omega
        have hjc : (j : Int) < (C.length : Int) := by omega
        have hb2 := hb.setCell (p := ⟨gO, i, none⟩) (show W2.heap.size ≤ gO from Nat.le_of_eq HGO.out) (.int .i64 y)
        subst ha
        subst hca
        clear hcel hccel hset hpk hy hz HNX hle c0 c1 c2 hie
        go_wp2_with fail
        go_roundw
        case rel => exact ⟨j + 1, by omega, by go_num, HSS, hb2⟩
        case measure => simp [intOf]; omega
      · obtain rfl : j = C.length := by omega
        have HZ1 : Hid (ZSRow wr gO (shL L C)) := by have := HZ.out; rw [List.take_length] at this; exact this
        have hbw3 := (HX.out _ hb).2
        clear HZ HZ0 HB0
        go_wp2_with fail
        refine (HSUM.out gO _ HZ1.out).mono ?_
        rintro e w5 ⟨rfl, rfl⟩
        go_wp2_with fail
        go_ret3
        exact ⟨⟨.slice (some ⟨gO, 0, none⟩) L.length L.length, rfl, .inr ⟨gO, L.length, by rw [shL_length], by rw [shL_length]; exact Nat.le_refl _, by omega, hwg, HZ1.out⟩⟩, hbw3⟩
end Go.Proofs.YtoanloballaclaaGreatDoor

namespace Go.Proofs.YtoanloballaclaaGreatDoor
open Go.RowKit

set_option maxRecDepth 20000 in
set_option maxHeartbeats 8000000 in
theorem sSharesOf_any (nm : List UInt8) (v : Value) (L : List TgtT) (ri fa : Int) (hv : Value) (H : List HosT) (w : World) (hr : TgtRow w v L) (hl : L.length ≤ 1048576) (hn : nm.length ≤ 1048576) (hx : Hid (∀ x ∈ L, x.1.length ≤ 1048576 ∧ x.2.1.length ≤ 1048576)) (hh : HstRow w hv H) (hlh : H.length ≤ 1048576) (hxh : Hid (∀ x ∈ H, x.1.length ≤ 1048576)) :
    Calls Tryz.prog 26 #[PolV ⟨nm.toArray⟩ v, HeaV ri fa hv] w fun e w' => ShT w' w.heap.size (okO nm L ri fa H) (shrA nm L ri fa H) (sumA nm L ri fa H) e ∧ Below w.heap.size w w' := by
  obtain ⟨i0, hi, hz0, hz1, hz2⟩ := info_parts info_int
  have HGP : Hid (∀ W, Below w.heap.size w W → Calls Tryz.prog 35 #[PolV ⟨nm.toArray⟩ v] W fun e w' => e = .returned (.bool (polB nm L)) ∧ Below W.heap.size W w') := fun W hW => sGoodPolicy_any nm v L W (hr.kept hW) hl hn hx
  have HGH : Hid (∀ W, Below w.heap.size w W → Calls Tryz.prog 36 #[HeaV ri fa hv] W fun e w' => e = .returned (.bool (goodH ri fa H)) ∧ Below W.heap.size W w') := fun W hW => sGoodHealth_any ri fa hv H W (hh.kept hW) hlh hxh
  have HGR : Hid (polB nm L = true → goodH ri fa H = true → ∀ W, Below w.heap.size w W → Calls Tryz.prog 43 #[PolV ⟨nm.toArray⟩ v, HeaV ri fa hv] W fun e w' => (∃ u, e = .returned u ∧ NumsO w' W.heap.size u (canO (wellB H) L)) ∧ Below W.heap.size W w') := fun h1 h2 W hW => l14Candidates_any nm v L ri fa hv H W (hr.kept hW) hl (hh.kept hW) hlh hxh h1 h2
  have HOK : Hid (okO nm L ri fa H = (polB nm L && goodH ri fa H)) := rfl
  have HOF := @shr_off nm L ri fa H
  have HON := @shr_on nm L ri fa H
  have HALLT : Hid (polB nm L = true → ∀ x ∈ L, tgtB x = true) := fun h => (pol_parts h).2.2.2
  have HMEM : Hid (∀ x ∈ canO (wellB H) L, ∃ i : Nat, ∃ _ : i < L.length, x = (i : Int)) := fun x hx => can_mem hx
  obtain ⟨ok, hok⟩ : ∃ ok, ok = okO nm L ri fa H := ⟨_, rfl⟩
  rw [← hok] at HOK HOF HON ⊢
  unfold PolV at HGP HGR ⊢
  unfold HeaV at HGH HGR ⊢
  obtain ⟨a, cap, rfl, hcap, hmax, HROW⟩ := tgt_value hr
  obtain ⟨a2, cap2, rfl, hcap2, hmax2, _⟩ := hst_value hh
  obtain ⟨W0, hW0⟩ : ∃ W0, W0 = (w.alloc (.cells #[.string ⟨nm.toArray⟩, .slice a L.length cap] 34)).alloc (.cells #[.int .i64 ri, .int .i64 fa, .slice a2 H.length cap2] 38) := ⟨_, rfl⟩
  have HX : Hid (∀ W, Below W0.heap.size W0 W → ((W.cell? ⟨w.heap.size, 0, none⟩ = some (.string ⟨nm.toArray⟩) ∧ W.cell? ⟨w.heap.size, 1, none⟩ = some (.slice a L.length cap)) ∧ (W.cell? ⟨w.heap.size + 1, 0, none⟩ = some (.int .i64 ri) ∧ W.cell? ⟨w.heap.size + 1, 1, none⟩ = some (.int .i64 fa) ∧ W.cell? ⟨w.heap.size + 1, 2, none⟩ = some (.slice a2 H.length cap2))) ∧ Below w.heap.size w W) := fun W hW => by
    rw [hW0] at hW
    obtain ⟨h1, h2, h3⟩ := tgt_below2 hW
    exact ⟨⟨(pol_cells h1).1, (hst_cells h2).1⟩, h3⟩
  have hb00 : Below W0.heap.size W0 W0 := Below.refl _ _
  have HW0 : Hid ((w.alloc (.cells #[.string ⟨nm.toArray⟩, .slice a L.length cap] 34)).alloc (.cells #[.int .i64 ri, .int .i64 fa, .slice a2 H.length cap2] 38) = W0) := hW0.symm
  clear hW0 hr hh hx hxh hok
  cases hP : polB nm L with
  | false =>
    have hk : ok = false := by rw [HOK.out, hP]; rfl
    rw [(HOF hk).1, (HOF hk).2, hk]
    rw [hP] at HGP
    clear hk hP HOF HON HOK HGH HGR HALLT HMEM
    go_enter Tryz.func26, Tryz.ntmps26
    go_wp2_with (rw [HW0.out]; obtain ⟨⟨⟨p0, p1⟩, h0, h1, h2⟩, hbw⟩ := HX.out _ hb00)
    refine (HGP.out _ hbw).mono ?_
    rintro e w1 ⟨rfl, hb1⟩
    have hb01 := hb00.trans (hb1.mono hb00.size)
    clear p0 p1 h0 h1 h2 hbw hb1
    obtain ⟨⟨⟨p0, p1⟩, h0, h1, h2⟩, hbw⟩ := HX.out _ hb01
    go_wp2_with fail
    go_ret3
    exact ⟨sh_off _ _, hbw⟩
  | true =>
    rw [hP] at HGP
    cases hG : goodH ri fa H with
    | false =>
      have hk : ok = false := by rw [HOK.out, hP, hG]; rfl
      rw [(HOF hk).1, (HOF hk).2, hk]
      rw [hG] at HGH
      clear hk hP hG HOF HON HOK HGR HALLT HMEM
      go_enter Tryz.func26, Tryz.ntmps26
      go_wp2_with (rw [HW0.out]; obtain ⟨⟨⟨p0, p1⟩, h0, h1, h2⟩, hbw⟩ := HX.out _ hb00)
      refine (HGP.out _ hbw).mono ?_
      rintro e w1 ⟨rfl, hb1⟩
      have hb01 := hb00.trans (hb1.mono hb00.size)
      clear p0 p1 h0 h1 h2 hbw hb1
      obtain ⟨⟨⟨p0, p1⟩, h0, h1, h2⟩, hbw⟩ := HX.out _ hb01
      go_wp2_with fail
      refine (HGH.out _ hbw).mono ?_
      rintro e w2 ⟨rfl, hb2⟩
      have hb02 := hb01.trans (hb2.mono hb01.size)
      clear p0 p1 h0 h1 h2 hbw hb2
      obtain ⟨⟨⟨p0, p1⟩, h0, h1, h2⟩, hbw⟩ := HX.out _ hb02
      go_wp2_with fail
      go_ret3
      exact ⟨sh_off _ _, hbw⟩
    | true =>
      have hk : ok = true := by rw [HOK.out, hP, hG]; rfl
      rw [(HON hk).1, (HON hk).2, hk]
      have HGR2 := HGR.out hP hG
      have HSM : Hid ((shL L (canO (wellB H) L)).all smB = true) := shL_sm _ (HALLT.out hP)
      obtain ⟨C, hC⟩ : ∃ C, C = canO (wellB H) L := ⟨_, rfl⟩
      rw [← hC] at HGR2 HSM HMEM ⊢
      have HGR3 : Hid (∀ W, Below w.heap.size w W → Calls Tryz.prog 43 #[.agg #[.string ⟨nm.toArray⟩, .slice a L.length cap], .agg #[.int .i64 ri, .int .i64 fa, .slice a2 H.length cap2]] W fun e w' => (∃ u, e = .returned u ∧ NumsO w' W.heap.size u C) ∧ Below W.heap.size W w') := HGR2
      have HSUM : Hid (∀ g W, ZSRow W g (shL L C) → Calls Tryz.prog 48 #[.slice (some ⟨g, 0, none⟩) L.length L.length] W fun e w' => e = .returned (.int .i64 (shL L C).sum) ∧ w' = W) := fun g W h => by
        have h2 := l12Total_any (.slice (some ⟨g, 0, none⟩) (shL L C).length (shL L C).length) (shL L C) W (h.row (by rw [shL_length]; exact hl)) (by rw [shL_length]; exact hl) HSM.out
        rw [shL_length] at h2; exact h2
      clear HGR HGR2 hC HALLT
      rw [hG] at HGH
      clear hk hP hG HOF HON HOK
      go_enter Tryz.func26, Tryz.ntmps26
      go_wp2_with (rw [HW0.out]; obtain ⟨⟨⟨p0, p1⟩, h0, h1, h2⟩, hbw⟩ := HX.out _ hb00)
      refine (HGP.out _ hbw).mono ?_
      rintro e w1 ⟨rfl, hb1⟩
      have hb01 := hb00.trans (hb1.mono hb00.size)
      clear p0 p1 h0 h1 h2 hbw hb1
      obtain ⟨⟨⟨p0, p1⟩, h0, h1, h2⟩, hbw⟩ := HX.out _ hb01
      go_wp2_with fail
      refine (HGH.out _ hbw).mono ?_
      rintro e w2 ⟨rfl, hb2⟩
      have hb02 := hb01.trans (hb2.mono hb01.size)
      clear p0 p1 h0 h1 h2 hbw hb2
      obtain ⟨⟨⟨p0, p1⟩, h0, h1, h2⟩, hbw⟩ := HX.out _ hb02
      go_wp2_with (at_make; refine wpList_make_full _ rfl _ _ 43 rfl w2.heap.size 3 i0 (.int .i64 0) 1 Tryz.underlying43 hi hz0 hz1 _ _ _ _ L.length rfl rfl rfl rfl ?b2 ?b3 ?b4 ?_)
      case b2 => rw [hz2]; omega
      case b3 => unfold maxLen; omega
      case b4 => exact Nat.le_refl _
      intro w3 hown hgrow
      obtain ⟨gO, hgO⟩ : ∃ gO, gO = w2.heap.size := ⟨_, rfl⟩
      have hwg : w.heap.size ≤ gO := by have := hbw.size; omega
      have hw0g : W0.heap.size ≤ gO := by have := hb02.size; omega
      have hb23 : Below w2.heap.size w2 w3 := (Below.refl _ _).grown hgrow (Nat.le_refl _) (fun k h => by cases h)
      have hb03 := hb02.trans (hb23.mono hb02.size)
      have HZ3 : Hid (ZSRow w3 gO (shL L (C.take 0))) := by rw [hgO]; exact made_sh (w := w2) hown C
      have HGO : Hid (w2.heap.size = gO) := hgO.symm
      clear hgO hown hgrow p0 p1 h0 h1 h2 hbw hb23
      rw [HGO.out]
      obtain ⟨⟨⟨p0, p1⟩, h0, h1, h2⟩, hbw⟩ := HX.out _ hb03
      go_wp2_with fail
      refine (HGR3.out _ hbw).mono ?_
      rintro e w4 ⟨⟨u, rfl, hu⟩, hb4⟩
      have hb04 := hb03.trans (hb4.mono hb03.size)
      have hzr := nums_row hu
      have hlu : ∀ g, u.ownBlock = some g → gO < g := fun g hg => by have h3 := (World.ownsRow.lt hu g hg).1; have h4 := HZ3.out.1; omega
      obtain ⟨ua, uc, rfl, huc1, huc2, HROWC⟩ := zrow_value hzr
      have HZ0 : Hid (ZSRow w4 gO (shL L (C.take 0))) := HZ3.out.kept hb4
      have hgl : gO < w4.heap.size := HZ0.out.1
      have HB0 : Below W0.heap.size W0 w4 ∧ Kpt w4 w4 (fun k => k = gO) := ⟨hb04, Kpt.refl _ _⟩
      have HXK : Hid (∀ W, (Below W0.heap.size W0 W ∧ Kpt w4 W (fun k => k = gO)) → (W.cell? ⟨w.heap.size, 0, none⟩ = some (.string ⟨nm.toArray⟩) ∧ W.cell? ⟨w.heap.size, 1, none⟩ = some (.slice a L.length cap)) ∧ Below w.heap.size w W) := fun W hW => ⟨(HX.out W hW.1).1.1, (HX.out W hW.1).2⟩
      have HUB : Hid (∀ cb co, ua = some ⟨cb, co, none⟩ → C.length ≠ 0 → cb ≠ gO) := fun cb co hua hne he => by
        subst hua
        obtain ⟨_, ⟨hq, _⟩ | ⟨b9, c9, cur, hq, hg9, _⟩⟩ := hu
        · cases hq
        · have e9 : b9 = cb := by injection hq with q1; injection q1 with q2; injection q2 with q3; exact q3.symm
          have h5 := HZ3.out.1
          omega
      clear p0 p1 h0 h1 h2 hbw hu hzr hb4 hlu HZ3 hb03 hb02 hb01
      go_wp2_with fail
      go_loopw [26] (fun i wr => ∃ j : Nat, j ≤ C.length ∧ i = .int .i64 (j : Int) ∧ Hid (ZSRow wr gO (shL L (C.take j))) ∧ (Below W0.heap.size W0 wr ∧ Kpt w4 wr (fun k => k = gO))) (fun i _ => C.length - (intOf i).toNat)
      case atStart => exact ⟨0, Nat.zero_le _, rfl, HZ0, HB0⟩
      case round =>
        obtain ⟨j, hj, rfl, HZ, hb⟩ := hrel
        by_cases hlt : j < C.length
        · obtain ⟨cb, co, hca, hcbl, hccel⟩ := HROWC.out (by omega)
          have hcj := hccel j hlt
          have hcj2 := hb.2.cell hcj (show ¬ (cb = gO) from HUB.out cb co hca (by omega))
          clear hcj
          obtain ⟨i, hil, hie⟩ := HMEM.out _ (List.getElem_mem hlt)
          have HNX : Hid (shL L (C.take (j + 1)) = (shL L (C.take j)).set i (L[i]'hil).2.2.2) := shL_next hlt hil hie
          rw [hie] at hcj2
          obtain ⟨b, o, ha, hbl, hcel⟩ := HROW.out (by omega)
          have hcx := (hcel i hil).kept (HXK.out _ hb).2
          unfold TgtAt at hcx
          obtain ⟨c0, c1, c2, c3⟩ := hcx
          have hle : (shL L (C.take j)).length = L.length := shL_length L _
          have hpk := HZ.out.2 i (by rw [hle]; exact hil)
          have hcg := hpk.1
          have hfg := hpk.2
          have hset := HZ.out.set i (by rw [hle]; exact hil) (L[i]'hil).2.2.2
          rw [← HNX.out] at hset
          obtain ⟨y, hy⟩ : ∃ y, y = (L[i]'hil).2.2.2 := ⟨_, rfl⟩
          obtain ⟨z, hz⟩ : ∃ z, z = (shL L (C.take j))[i]'(by rw [hle]; exact hil) := ⟨_, rfl⟩
          rw [← hy] at c3 hset
          rw [← hz] at hcg
          have HSS : Hid (ZSRow (wr.setCell ⟨gO, i, none⟩ (.int .i64 y)) gO (shL L (C.take (j + 1)))) := hset
          obtain ⟨⟨p0, p1⟩, _⟩ := HXK.out _ hb
          have hki : (i : Int) < (L.length : Int) := by omega
          have hjc : (j : Int) < (C.length : Int) := by omega
          have hb2 : Below W0.heap.size W0 (wr.setCell ⟨gO, i, none⟩ (.int .i64 y)) ∧ Kpt w4 (wr.setCell ⟨gO, i, none⟩ (.int .i64 y)) (fun k => k = gO) := ⟨hb.1.setCell (p := ⟨gO, i, none⟩) hw0g _, hb.2.trans (kpt_set (S := fun k => k = gO) _ _ _ _ rfl)⟩
          subst ha
          subst hca
          clear hcel hccel hset hpk hy hz HNX hle c0 c1 c2 hie
          go_wp2_with fail
          go_roundw
          case rel => exact ⟨j + 1, by omega, by go_num, HSS, hb2⟩
          case measure => simp [intOf]; omega
        · obtain rfl : j = C.length := by omega
          have HZ1 : Hid (ZSRow wr gO (shL L C)) := by have := HZ.out; rw [List.take_length] at this; exact this
          have hbw3 := (HXK.out _ hb).2
          clear HZ HZ0 HB0
          go_wp2_with fail
          refine (HSUM.out gO _ HZ1.out).mono ?_
          rintro e w5 ⟨rfl, rfl⟩
          go_wp2_with fail
          go_ret3
          exact ⟨⟨.slice (some ⟨gO, 0, none⟩) L.length L.length, rfl, .inr ⟨gO, L.length, by rw [shL_length], by rw [shL_length]; exact Nat.le_refl _, by omega, hwg, HZ1.out⟩⟩, hbw3⟩
end Go.Proofs.YtoanloballaclaaGreatDoor
