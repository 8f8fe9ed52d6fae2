import Derived.Test.YtoanloballaclaaGreatDoorZ35
import Derived.Test.YtoanloballaclaaGreatDoorZ38
namespace Go.Proofs.YtoanloballaclaaGreatDoor
open Go.RowKit

/-- Of each target its weight, where it is among the candidates. -/
def shL (L : List TgtT) (C : List Int) : List Int := (List.range L.length).map (fun (i : Nat) => if (i : Int) ∈ C then (L.getD i ([], [], 0, 0)).2.2.2 else 0)
theorem shL_length (L : List TgtT) (C : List Int) : (shL L C).length = L.length := by simp [shL]
theorem shL_get {L : List TgtT} {C : List Int} {i : Nat} (h : i < L.length) : (shL L C)[i]'(by rw [shL_length]; exact h) = if (i : Int) ∈ C then (L[i]).2.2.2 else 0 := by
  simp only [shL, List.getElem_map, List.getElem_range, tgetD h]
theorem shL_zero (L : List TgtT) : shL L [] = List.replicate L.length 0 := by
  refine List.ext_getElem (by simp [shL]) (fun i h1 h2 => ?_)
  rw [shL_get (by rw [shL_length] at h1; exact h1)]
  simp
theorem shL_next {L : List TgtT} {C : List Int} {j i : Nat} (hj : j < C.length) (hi : i < L.length) (e : C[j] = (i : Int)) : shL L (C.take (j + 1)) = (shL L (C.take j)).set i (L[i]).2.2.2 := by
  refine List.ext_getElem (by simp [shL_length]) (fun k h1 h2 => ?_)
  have hk : k < L.length := by rw [shL_length] at h1; exact h1
  rw [shL_get hk, List.getElem_set]
  by_cases hik : i = k
  · subst hik
    rw [if_pos rfl, if_pos]
    rw [List.take_succ_eq_append_getElem hj, List.mem_append]
    exact .inr (by simp [e])
  · rw [if_neg hik, shL_get hk]
    have hiff : ((k : Int) ∈ C.take (j + 1)) ↔ ((k : Int) ∈ C.take j) := by
      rw [List.take_succ_eq_append_getElem hj, List.mem_append, List.mem_singleton, e]
      constructor
      · rintro (h | h)
        · exact h
        · omega
      · exact .inl
    by_cases hm : (k : Int) ∈ C.take j
    · rw [if_pos hm, if_pos (hiff.2 hm)]
    · rw [if_neg hm, if_neg (fun h => hm (hiff.1 h))]
theorem shL_sm {L : List TgtT} (C : List Int) (h : ∀ x ∈ L, tgtB x = true) : (shL L C).all smB = true := by
  refine List.all_eq_true.2 fun x hx => ?_
  obtain ⟨i, hi, rfl⟩ := List.getElem_of_mem hx
  have hl : i < L.length := by rw [shL_length] at hi; exact hi
  rw [shL_get hl]
  split
  · have := tgt_parts (h _ (List.getElem_mem hl))
    simp only [smB, inB, Bool.and_eq_true, decide_eq_true_eq]; omega
  · decide
theorem made_sh {w w1 : World} {L : List TgtT} (h : w1.ownsRow w.heap.size 3 1 (.slice (some ⟨w.heap.size, 0, none⟩) L.length L.length) L.length (madeCells #[.int .i64 0] L.length).toList) (C : List Int) : ZSRow w1 w.heap.size (shL L (C.take 0)) := by
  have h2 := made_zs (w := w) (P := shL L []) (by rw [shL_length]; exact h)
  rw [List.take_zero, shL_zero]
  rw [show partZ (shL L []) 0 = List.replicate L.length 0 by simp [partZ, shL_length]] at h2
  exact h2
/-- The shares; their sum. -/
def shrA (nm : List UInt8) (L : List TgtT) (ri fa : Int) (H : List HosT) : List Int := if okO nm L ri fa H = true then shL L (canO (wellB H) L) else []
def sumA (nm : List UInt8) (L : List TgtT) (ri fa : Int) (H : List HosT) : Int := if okO nm L ri fa H = true then (shL L (canO (wellB H) L)).sum else 0
theorem shr_off {nm : List UInt8} {L : List TgtT} {ri fa : Int} {H : List HosT} (h : okO nm L ri fa H = false) : shrA nm L ri fa H = [] ∧ sumA nm L ri fa H = 0 := by unfold shrA sumA; rw [h]; exact ⟨rfl, rfl⟩
theorem shr_on {nm : List UInt8} {L : List TgtT} {ri fa : Int} {H : List HosT} (h : okO nm L ri fa H = true) : shrA nm L ri fa H = shL L (canO (wellB H) L) ∧ sumA nm L ri fa H = (shL L (canO (wellB H) L)).sum := by unfold shrA sumA; rw [h]; exact ⟨rfl, rfl⟩
theorem ok_pol {nm : List UInt8} {L : List TgtT} {ri fa : Int} {H : List HosT} (h : okO nm L ri fa H = true) : polB nm L = true := by
  unfold okO at h
  cases hp : polB nm L with
  | true => rfl
  | false => rw [hp] at h; cases h
theorem OwnN.mono {w : World} {b b' : Nat} {v : Value} {O : List Int} (h : OwnN w b v O) (hb : b' ≤ b) : OwnN w b' v O := by
  rcases h with h | ⟨g, c, rfl, h1, h2, h3, hs⟩
  · exact .inl h
  · exact .inr ⟨g, c, rfl, h1, h2, Nat.le_trans hb h3, hs⟩
/-- Shares told. -/
def ShT (w' : World) (base : Nat) (ok : Bool) (O : List Int) (S : Int) (e : Ending) : Prop := ∃ u, e = .returned (.tuple #[u, .int .i64 S, .bool ok]) ∧ OwnN w' base u O
theorem sh_off (w' : World) (base : Nat) : ShT w' base false [] 0 (.returned (.tuple #[.slice none 0 0, .int .i64 0, .bool false])) := ⟨_, rfl, .inl ⟨rfl, rfl⟩⟩

set_option maxRecDepth 20000 in
set_option maxHeartbeats 8000000 in
theorem iSharesOf_any (n : List UInt8) (v : Value) (L : List TgtT) (ri fa : Int) (hv : Value) (H : List HosT) (w : World) (hr : TgtRow w v L) (hl : L.length ≤ 1048576) (hx : Hid (∀ x ∈ L, x.1.length ≤ 1048576 ∧ x.2.1.length ≤ 1048576)) (hh : HstRow w hv H) (hE : EnvR w) :
    Calls Tryz.prog 27 #[PolV ⟨n.toArray⟩ v, HeaV ri fa hv] w fun e w' => ShT w' w.heap.size (okO n L ri fa H) (shrA n L ri fa H) (sumA n L ri fa H) e ∧ Below w.heap.size w w' := by
  obtain ⟨i0, hi, hz0, hz1, hz2⟩ := info_parts info_int
  have HCB : Hid (∀ W, Below w.heap.size w W → Calls Tryz.prog 40 #[PolV ⟨n.toArray⟩ v, HeaV ri fa hv] W fun e w' => CanT w' W.heap.size (okO n L ri fa H) (grpA n L ri fa H) (canA n L ri fa H) e ∧ Below W.heap.size W w') := fun W hW => candidatesBy_any n v L ri fa hv H W (hr.kept hW) hl hx (hh.kept hW) (hE.below hW)
  have HOFF : Hid (okO n L ri fa H = false → shrA n L ri fa H = [] ∧ sumA n L ri fa H = 0) := shr_off
  have HONN : Hid (okO n L ri fa H = true → canA n L ri fa H = canO (wellB H) L ∧ shrA n L ri fa H = shL L (canO (wellB H) L) ∧ sumA n L ri fa H = (shL L (canO (wellB H) L)).sum) := fun h => ⟨(okO_on h).2, shr_on h⟩
  have HALLT : Hid (okO n L ri fa H = true → ∀ x ∈ L, tgtB x = true) := fun h => (pol_parts (ok_pol h)).2.2.2
  obtain ⟨ok, hok⟩ : ∃ ok, ok = okO n L ri fa H := ⟨_, rfl⟩
  obtain ⟨gA, hgA⟩ : ∃ gA, gA = grpA n L ri fa H := ⟨_, rfl⟩
  rw [← hok] at HCB HOFF HONN HALLT ⊢
  rw [← hgA] at HCB
  unfold PolV HeaV at HCB ⊢
  obtain ⟨a, cap, rfl, hcap, hmax, HROW⟩ := tgt_value hr
  obtain ⟨a2, cap2, rfl, hcap2, hmax2, _⟩ := hst_value hh
  obtain ⟨W0, hW0⟩ : ∃ W0, W0 = (w.alloc (.cells #[.string ⟨n.toArray⟩, .slice a L.length cap] 34)).alloc (.cells #[.int .i64 ri, .int .i64 fa, .slice a2 H.length cap2] 38) := ⟨_, rfl⟩
  have hb0 : Below w.heap.size w W0 := by rw [hW0]; exact ((Below.refl w.heap.size w).alloc (Nat.le_refl _) _).alloc (by simp) _
  have HP0 : Hid (W0.heap[w.heap.size]? = some (.cells #[.string ⟨n.toArray⟩, .slice a L.length cap] 34)) := by
    have h := tgt_below2 (W := W0) (w := w) (by rw [hW0]; exact Below.refl _ _)
    exact h.1
  have HH0 : Hid (W0.heap[w.heap.size + 1]? = some (.cells #[.int .i64 ri, .int .i64 fa, .slice a2 H.length cap2] 38)) := by
    have h := tgt_below2 (W := W0) (w := w) (by rw [hW0]; exact Below.refl _ _)
    exact h.2.1
  obtain ⟨⟨p0, p1⟩, _⟩ := pol_cells HP0.out
  obtain ⟨⟨h0, h1, h2⟩, _⟩ := hst_cells HH0.out
  have hzP : w.heap.size < W0.heap.size := by rw [hW0]; simp; omega
  have HW0 : Hid ((w.alloc (.cells #[.string ⟨n.toArray⟩, .slice a L.length cap] 34)).alloc (.cells #[.int .i64 ri, .int .i64 fa, .slice a2 H.length cap2] 38) = W0) := hW0.symm
  clear hW0 hok hgA hr hh hx hE
  cases ok with
  | false =>
    rw [(HOFF.out rfl).1, (HOFF.out rfl).2]
    clear HONN HALLT HOFF
    go_enter Tryz.func27, Tryz.ntmps27
    go_wp2_with (rw [HW0.out])
    refine (HCB.out _ hb0).mono ?_
    rintro e w1 ⟨⟨u, rfl, hu⟩, hb1⟩
    clear p0 p1 h0 h1 h2
    obtain ⟨ua, uc, hue, huc1, huc2⟩ := own_slice hu
    subst hue
    have hbw := hb0.trans (hb1.mono hb0.size)
    have hbw2 := hbw.alloc hbw.size (.cells #[.int .i64 gA, .slice ua (canA n L ri fa H).length uc] 69)
    clear hu
    go_wp2_with fail
    go_ret3
    exact ⟨sh_off _ _, hbw2⟩
  | true =>
    have HMEM : Hid (∀ x ∈ canO (wellB H) L, ∃ i : Nat, ∃ _ : i < L.length, x = (i : Int)) := fun x hx => can_mem hx
    obtain ⟨C, hC⟩ : ∃ C, C = canO (wellB H) L := ⟨_, rfl⟩
    rw [← hC] at HONN HMEM
    rw [(HONN.out rfl).2.1, (HONN.out rfl).2.2]
    rw [(HONN.out rfl).1] at HCB
    have HSM : Hid ((shL L C).all smB = true) := shL_sm C (HALLT.out rfl)
    have HSUM : Hid (∀ g W, ZSRow W g (shL L C) → Calls Tryz.prog 52 #[.slice (some ⟨g, 0, none⟩) L.length L.length] W fun e w' => e = .returned (.int .i64 (shL L C).sum) ∧ w' = W) := fun g W h => by
      have h2 := sumOf_any (.slice (some ⟨g, 0, none⟩) (shL L C).length (shL L C).length) (shL L C) W (h.row (by rw [shL_length]; exact hl)) (by rw [shL_length]; exact hl) HSM.out
      rw [shL_length] at h2; exact h2
    clear HONN HALLT HOFF hC
    go_enter Tryz.func27, Tryz.ntmps27
    go_wp2_with (rw [HW0.out])
    refine (HCB.out _ hb0).mono ?_
    rintro e w1 ⟨⟨u, rfl, hu⟩, hb1⟩
    clear p0 p1 h0 h1 h2
    have hzr := nums_row hu
    obtain ⟨ua, uc, rfl, huc1, huc2, HROWC⟩ := zrow_value hzr
    have hbw := hb0.trans (hb1.mono hb0.size)
    have hP1 := (hb1.block _ hzP).trans HP0.out
    obtain ⟨W2, hW2⟩ : ∃ W2, W2 = w1.alloc (.cells #[.int .i64 gA, .slice ua C.length uc] 69) := ⟨_, rfl⟩
    have hb12 : Below w1.heap.size w1 W2 := by rw [hW2]; exact (Below.refl _ _).alloc (Nat.le_refl _) _
    have hbw2 := hbw.trans (hb12.mono hbw.size)
    have hz1l : w.heap.size < w1.heap.size := (Array.getElem?_eq_some_iff.1 hP1).1
    have hz12 : w1.heap.size < W2.heap.size := by rw [hW2]; simp
    have HX : Hid (∀ W, Below W2.heap.size W2 W → (W.cell? ⟨w.heap.size, 0, none⟩ = some (.string ⟨n.toArray⟩) ∧ W.cell? ⟨w.heap.size, 1, none⟩ = some (.slice a L.length cap)) ∧ Below w.heap.size w W) := fun W hW => ⟨(pol_cells ((hW.block _ (by omega)).trans ((hb12.block _ hz1l).trans hP1))).1, hbw2.trans (hW.mono hbw2.size)⟩
    have HY : Hid (∀ W, Below W2.heap.size W2 W → (W.cell? ⟨w1.heap.size, 0, none⟩ = some (.int .i64 gA) ∧ W.cell? ⟨w1.heap.size, 1, none⟩ = some (.slice ua C.length uc))) := fun W hW => (pol_cells ((hW.block _ hz12).trans (by rw [hW2]; exact tgt_new _ _))).1
    have HCC : Hid (∀ b k v, b < w1.heap.size → w1.cell? ⟨b, k, none⟩ = some v → ∀ W, Below W2.heap.size W2 W → W.cell? ⟨b, k, none⟩ = some v) := fun b k v hbk hv W hW => ((hW.cell (p := ⟨b, k, none⟩) (show b < W2.heap.size by omega)).trans (hb12.cell (p := ⟨b, k, none⟩) hbk)).trans hv
    have HW2 : Hid (w1.alloc (.cells #[.int .i64 gA, .slice ua C.length uc] 69) = W2) := hW2.symm
    have hb22 : Below W2.heap.size W2 W2 := Below.refl _ _
    obtain ⟨⟨p0, p1⟩, _⟩ := HX.out _ hb22
    obtain ⟨gO, hgO⟩ : ∃ gO, gO = W2.heap.size := ⟨_, rfl⟩
    have hwg : w.heap.size ≤ gO := by omega
    clear hu hzr hW2 hP1 hb1 hb12 hbw
    go_wp2_with (first | rw [HW2.out] | (at_make; refine wpList_make_full _ rfl _ _ 43 rfl W2.heap.size 3 i0 (.int .i64 0) 1 Tryz.underlying43 hi hz0 hz1 _ _ _ _ L.length rfl rfl rfl rfl ?b2 ?b3 ?b4 ?_))
    case b2 => rw [hz2]; omega
    case b3 => unfold maxLen; omega
    case b4 => exact Nat.le_refl _
    intro w3 hown hgrow
    have HB0 : Below W2.heap.size W2 w3 := (Below.refl _ _).grown hgrow (Nat.le_refl _) (fun k h => by cases h)
    have HZ0 : Hid (ZSRow w3 gO (shL L (C.take 0))) := by rw [hgO]; exact made_sh (w := W2) hown C
    have HGO : Hid (W2.heap.size = gO) := hgO.symm
    clear hown hgrow p0 p1 hgO
    rw [HGO.out]
    obtain ⟨q0, q1⟩ := HY.out _ HB0
    go_wp2_with fail
    go_loopw [27] (fun i wr => ∃ j : Nat, j ≤ C.length ∧ i = .int .i64 (j : Int) ∧ Hid (ZSRow wr gO (shL L (C.take j))) ∧ Below W2.heap.size W2 wr) (fun i _ => C.length - (intOf i).toNat)
    case atStart => exact ⟨0, Nat.zero_le _, rfl, HZ0, HB0⟩
    case round =>
      obtain ⟨j, hj, rfl, HZ, hb⟩ := hrel
      by_cases hlt : j < C.length
      · obtain ⟨cb, co, hca, hcbl, hccel⟩ := HROWC.out (by omega)
        have hcj := hccel j hlt
        have hcj2 := HCC.out cb (co + j) _ hcbl hcj _ hb
        clear hcj
        obtain ⟨i, hil, hie⟩ := HMEM.out _ (List.getElem_mem hlt)
        have HNX : Hid (shL L (C.take (j + 1)) = (shL L (C.take j)).set i (L[i]'hil).2.2.2) := shL_next hlt hil hie
        rw [hie] at hcj2
        obtain ⟨b, o, ha, hbl, hcel⟩ := HROW.out (by omega)
        have hcx := (hcel i hil).kept (HX.out _ hb).2
        unfold TgtAt at hcx
        obtain ⟨c0, c1, c2, c3⟩ := hcx
        have hle : (shL L (C.take j)).length = L.length := shL_length L _
        have hpk := HZ.out.2 i (by rw [hle]; exact hil)
        have hcg := hpk.1
        have hfg := hpk.2
        have hset := HZ.out.set i (by rw [hle]; exact hil) (L[i]'hil).2.2.2
        rw [← HNX.out] at hset
        obtain ⟨y, hy⟩ : ∃ y, y = (L[i]'hil).2.2.2 := ⟨_, rfl⟩
        obtain ⟨z, hz⟩ : ∃ z, z = (shL L (C.take j))[i]'(by rw [hle]; exact hil) := ⟨_, rfl⟩
        rw [← hy] at c3 hset
        rw [← hz] at hcg
        have HSS : Hid (ZSRow (wr.setCell ⟨gO, i, none⟩ (.int .i64 y)) gO (shL L (C.take (j + 1)))) := hset
        obtain ⟨⟨p0, p1⟩, _⟩ := HX.out _ hb
        obtain ⟨q0, q1⟩ := HY.out _ hb
        have hki : (i : Int) < (L.length : Int) := by omega
        have hjc : (j : Int) < (C.length : Int) := by omega
        have hb2 := hb.setCell (p := ⟨gO, i, none⟩) (show W2.heap.size ≤ gO from Nat.le_of_eq HGO.out) (.int .i64 y)
        subst ha
        subst hca
        clear hcel hccel hset hpk hy hz HNX hle c0 c1 c2 hie
        go_wp2_with fail
        go_roundw
        case rel => exact ⟨j + 1, by omega, by go_num, HSS, hb2⟩
        case measure => simp [intOf]; omega
      · obtain rfl : j = C.length := by omega
        have HZ1 : Hid (ZSRow wr gO (shL L C)) := by have := HZ.out; rw [List.take_length] at this; exact this
        have hbw3 := (HX.out _ hb).2
        clear HZ HZ0 HB0
        go_wp2_with fail
        refine (HSUM.out gO _ HZ1.out).mono ?_
        rintro e w5 ⟨rfl, rfl⟩
        go_wp2_with fail
        go_ret3
        exact ⟨⟨.slice (some ⟨gO, 0, none⟩) L.length L.length, rfl, .inr ⟨gO, L.length, by rw [shL_length], by rw [shL_length]; exact Nat.le_refl _, by omega, hwg, HZ1.out⟩⟩, hbw3⟩
end Go.Proofs.YtoanloballaclaaGreatDoor

namespace Go.Proofs.YtoanloballaclaaGreatDoor
open Go.RowKit

set_option maxRecDepth 20000 in
set_option maxHeartbeats 8000000 in
theorem sSharesOf_any (nm : List UInt8) (v : Value) (L : List TgtT) (ri fa : Int) (hv : Value) (H : List HosT) (w : World) (hr : TgtRow w v L) (hl : L.length ≤ 1048576) (hn : nm.length ≤ 1048576) (hx : Hid (∀ x ∈ L, x.1.length ≤ 1048576 ∧ x.2.1.length ≤ 1048576)) (hh : HstRow w hv H) (hlh : H.length ≤ 1048576) (hxh : Hid (∀ x ∈ H, x.1.length ≤ 1048576)) :
    Calls Tryz.prog 26 #[PolV ⟨nm.toArray⟩ v, HeaV ri fa hv] w fun e w' => ShT w' w.heap.size (okO nm L ri fa H) (shrA nm L ri fa H) (sumA nm L ri fa H) e ∧ Below w.heap.size w w' := by
  obtain ⟨i0, hi, hz0, hz1, hz2⟩ := info_parts info_int
  have HGP : Hid (∀ W, Below w.heap.size w W → Calls Tryz.prog 35 #[PolV ⟨nm.toArray⟩ v] W fun e w' => e = .returned (.bool (polB nm L)) ∧ Below W.heap.size W w') := fun W hW => sGoodPolicy_any nm v L W (hr.kept hW) hl hn hx
  have HGH : Hid (∀ W, Below w.heap.size w W → Calls Tryz.prog 36 #[HeaV ri fa hv] W fun e w' => e = .returned (.bool (goodH ri fa H)) ∧ Below W.heap.size W w') := fun W hW => sGoodHealth_any ri fa hv H W (hh.kept hW) hlh hxh
  have HGR : Hid (polB nm L = true → goodH ri fa H = true → ∀ W, Below w.heap.size w W → Calls Tryz.prog 43 #[PolV ⟨nm.toArray⟩ v, HeaV ri fa hv] W fun e w' => (∃ u, e = .returned u ∧ NumsO w' W.heap.size u (canO (wellB H) L)) ∧ Below W.heap.size W w') := fun h1 h2 W hW => l14Candidates_any nm v L ri fa hv H W (hr.kept hW) hl (hh.kept hW) hlh hxh h1 h2
  have HOK : Hid (okO nm L ri fa H = (polB nm L && goodH ri fa H)) := rfl
  have HOF := @shr_off nm L ri fa H
  have HON := @shr_on nm L ri fa H
  have HALLT : Hid (polB nm L = true → ∀ x ∈ L, tgtB x = true) := fun h => (pol_parts h).2.2.2
  have HMEM : Hid (∀ x ∈ canO (wellB H) L, ∃ i : Nat, ∃ _ : i < L.length, x = (i : Int)) := fun x hx => can_mem hx
  obtain ⟨ok, hok⟩ : ∃ ok, ok = okO nm L ri fa H := ⟨_, rfl⟩
  rw [← hok] at HOK HOF HON ⊢
  unfold PolV at HGP HGR ⊢
  unfold HeaV at HGH HGR ⊢
  obtain ⟨a, cap, rfl, hcap, hmax, HROW⟩ := tgt_value hr
  obtain ⟨a2, cap2, rfl, hcap2, hmax2, _⟩ := hst_value hh
  obtain ⟨W0, hW0⟩ : ∃ W0, W0 = (w.alloc (.cells #[.string ⟨nm.toArray⟩, .slice a L.length cap] 34)).alloc (.cells #[.int .i64 ri, .int .i64 fa, .slice a2 H.length cap2] 38) := ⟨_, rfl⟩
  have HX : Hid (∀ W, Below W0.heap.size W0 W → ((W.cell? ⟨w.heap.size, 0, none⟩ = some (.string ⟨nm.toArray⟩) ∧ W.cell? ⟨w.heap.size, 1, none⟩ = some (.slice a L.length cap)) ∧ (W.cell? ⟨w.heap.size + 1, 0, none⟩ = some (.int .i64 ri) ∧ W.cell? ⟨w.heap.size + 1, 1, none⟩ = some (.int .i64 fa) ∧ W.cell? ⟨w.heap.size + 1, 2, none⟩ = some (.slice a2 H.length cap2))) ∧ Below w.heap.size w W) := fun W hW => by
    rw [hW0] at hW
    obtain ⟨h1, h2, h3⟩ := tgt_below2 hW
    exact ⟨⟨(pol_cells h1).1, (hst_cells h2).1⟩, h3⟩
  have hb00 : Below W0.heap.size W0 W0 := Below.refl _ _
  have HW0 : Hid ((w.alloc (.cells #[.string ⟨nm.toArray⟩, .slice a L.length cap] 34)).alloc (.cells #[.int .i64 ri, .int .i64 fa, .slice a2 H.length cap2] 38) = W0) := hW0.symm
  clear hW0 hr hh hx hxh hok
  cases hP : polB nm L with
  | false =>
    have hk : ok = false := by rw [HOK.out, hP]; rfl
    rw [(HOF hk).1, (HOF hk).2, hk]
    rw [hP] at HGP
    clear hk hP HOF HON HOK HGH HGR HALLT HMEM
    go_enter Tryz.func26, Tryz.ntmps26
    go_wp2_with (rw [HW0.out]; obtain ⟨⟨⟨p0, p1⟩, h0, h1, h2⟩, hbw⟩ := HX.out _ hb00)
    refine (HGP.out _ hbw).mono ?_
    rintro e w1 ⟨rfl, hb1⟩
    have hb01 := hb00.trans (hb1.mono hb00.size)
    clear p0 p1 h0 h1 h2 hbw hb1
    obtain ⟨⟨⟨p0, p1⟩, h0, h1, h2⟩, hbw⟩ := HX.out _ hb01
    go_wp2_with fail
    go_ret3
    exact ⟨sh_off _ _, hbw⟩
  | true =>
    rw [hP] at HGP
    cases hG : goodH ri fa H with
    | false =>
      have hk : ok = false := by rw [HOK.out, hP, hG]; rfl
      rw [(HOF hk).1, (HOF hk).2, hk]
      rw [hG] at HGH
      clear hk hP hG HOF HON HOK HGR HALLT HMEM
      go_enter Tryz.func26, Tryz.ntmps26
      go_wp2_with (rw [HW0.out]; obtain ⟨⟨⟨p0, p1⟩, h0, h1, h2⟩, hbw⟩ := HX.out _ hb00)
      refine (HGP.out _ hbw).mono ?_
      rintro e w1 ⟨rfl, hb1⟩
      have hb01 := hb00.trans (hb1.mono hb00.size)
      clear p0 p1 h0 h1 h2 hbw hb1
      obtain ⟨⟨⟨p0, p1⟩, h0, h1, h2⟩, hbw⟩ := HX.out _ hb01
      go_wp2_with fail
      refine (HGH.out _ hbw).mono ?_
      rintro e w2 ⟨rfl, hb2⟩
      have hb02 := hb01.trans (hb2.mono hb01.size)
      clear p0 p1 h0 h1 h2 hbw hb2
      obtain ⟨⟨⟨p0, p1⟩, h0, h1, h2⟩, hbw⟩ := HX.out _ hb02
      go_wp2_with fail
      go_ret3
      exact ⟨sh_off _ _, hbw⟩
    | true =>
      have hk : ok = true := by rw [HOK.out, hP, hG]; rfl
      rw [(HON hk).1, (HON hk).2, hk]
      have HGR2 := HGR.out hP hG
      have HSM : Hid ((shL L (canO (wellB H) L)).all smB = true) := shL_sm _ (HALLT.out hP)
      obtain ⟨C, hC⟩ : ∃ C, C = canO (wellB H) L := ⟨_, rfl⟩
      rw [← hC] at HGR2 HSM HMEM ⊢
      have HGR3 : Hid (∀ W, Below w.heap.size w W → Calls Tryz.prog 43 #[.agg #[.string ⟨nm.toArray⟩, .slice a L.length cap], .agg #[.int .i64 ri, .int .i64 fa, .slice a2 H.length cap2]] W fun e w' => (∃ u, e = .returned u ∧ NumsO w' W.heap.size u C) ∧ Below W.heap.size W w') := HGR2
      have HSUM : Hid (∀ g W, ZSRow W g (shL L C) → Calls Tryz.prog 48 #[.slice (some ⟨g, 0, none⟩) L.length L.length] W fun e w' => e = .returned (.int .i64 (shL L C).sum) ∧ w' = W) := fun g W h => by
        have h2 := l12Total_any (.slice (some ⟨g, 0, none⟩) (shL L C).length (shL L C).length) (shL L C) W (h.row (by rw [shL_length]; exact hl)) (by rw [shL_length]; exact hl) HSM.out
        rw [shL_length] at h2; exact h2
      clear HGR HGR2 hC HALLT
      rw [hG] at HGH
      clear hk hP hG HOF HON HOK
      go_enter Tryz.func26, Tryz.ntmps26
      go_wp2_with (rw [HW0.out]; obtain ⟨⟨⟨p0, p1⟩, h0, h1, h2⟩, hbw⟩ := HX.out _ hb00)
      refine (HGP.out _ hbw).mono ?_
      rintro e w1 ⟨rfl, hb1⟩
      have hb01 := hb00.trans (hb1.mono hb00.size)
      clear p0 p1 h0 h1 h2 hbw hb1
      obtain ⟨⟨⟨p0, p1⟩, h0, h1, h2⟩, hbw⟩ := HX.out _ hb01
      go_wp2_with fail
      refine (HGH.out _ hbw).mono ?_
      rintro e w2 ⟨rfl, hb2⟩
      have hb02 := hb01.trans (hb2.mono hb01.size)
      clear p0 p1 h0 h1 h2 hbw hb2
      obtain ⟨⟨⟨p0, p1⟩, h0, h1, h2⟩, hbw⟩ := HX.out _ hb02
      go_wp2_with (at_make; refine wpList_make_full _ rfl _ _ 43 rfl w2.heap.size 3 i0 (.int .i64 0) 1 Tryz.underlying43 hi hz0 hz1 _ _ _ _ L.length rfl rfl rfl rfl ?b2 ?b3 ?b4 ?_)
      case b2 => rw [hz2]; omega
      case b3 => unfold maxLen; omega
      case b4 => exact Nat.le_refl _
      intro w3 hown hgrow
      obtain ⟨gO, hgO⟩ : ∃ gO, gO = w2.heap.size := ⟨_, rfl⟩
      have hwg : w.heap.size ≤ gO := by have := hbw.size; omega
      have hw0g : W0.heap.size ≤ gO := by have := hb02.size; omega
      have hb23 : Below w2.heap.size w2 w3 := (Below.refl _ _).grown hgrow (Nat.le_refl _) (fun k h => by cases h)
      have hb03 := hb02.trans (hb23.mono hb02.size)
      have HZ3 : Hid (ZSRow w3 gO (shL L (C.take 0))) := by rw [hgO]; exact made_sh (w := w2) hown C
      have HGO : Hid (w2.heap.size = gO) := hgO.symm
      clear hgO hown hgrow p0 p1 h0 h1 h2 hbw hb23
      rw [HGO.out]
      obtain ⟨⟨⟨p0, p1⟩, h0, h1, h2⟩, hbw⟩ := HX.out _ hb03
      go_wp2_with fail
      refine (HGR3.out _ hbw).mono ?_
      rintro e w4 ⟨⟨u, rfl, hu⟩, hb4⟩
      have hb04 := hb03.trans (hb4.mono hb03.size)
      have hzr := nums_row hu
      have hlu : ∀ g, u.ownBlock = some g → gO < g := fun g hg => by have h3 := (World.ownsRow.lt hu g hg).1; have h4 := HZ3.out.1; omega
      obtain ⟨ua, uc, rfl, huc1, huc2, HROWC⟩ := zrow_value hzr
      have HZ0 : Hid (ZSRow w4 gO (shL L (C.take 0))) := HZ3.out.kept hb4
      have hgl : gO < w4.heap.size := HZ0.out.1
      have HB0 : Below W0.heap.size W0 w4 ∧ Kpt w4 w4 (fun k => k = gO) := ⟨hb04, Kpt.refl _ _⟩
      have HXK : Hid (∀ W, (Below W0.heap.size W0 W ∧ Kpt w4 W (fun k => k = gO)) → (W.cell? ⟨w.heap.size, 0, none⟩ = some (.string ⟨nm.toArray⟩) ∧ W.cell? ⟨w.heap.size, 1, none⟩ = some (.slice a L.length cap)) ∧ Below w.heap.size w W) := fun W hW => ⟨(HX.out W hW.1).1.1, (HX.out W hW.1).2⟩
      have HUB : Hid (∀ cb co, ua = some ⟨cb, co, none⟩ → C.length ≠ 0 → cb ≠ gO) := fun cb co hua hne he => by
        subst hua
        obtain ⟨_, ⟨hq, _⟩ | ⟨b9, c9, cur, hq, hg9, _⟩⟩ := hu
        · cases hq
        · have e9 : b9 = cb := by injection hq with q1; injection q1 with q2; injection q2 with q3; exact q3.symm
          have h5 := HZ3.out.1
          omega
      clear p0 p1 h0 h1 h2 hbw hu hzr hb4 hlu HZ3 hb03 hb02 hb01
      go_wp2_with fail
      go_loopw [26] (fun i wr => ∃ j : Nat, j ≤ C.length ∧ i = .int .i64 (j : Int) ∧ Hid (ZSRow wr gO (shL L (C.take j))) ∧ (Below W0.heap.size W0 wr ∧ Kpt w4 wr (fun k => k = gO))) (fun i _ => C.length - (intOf i).toNat)
      case atStart => exact ⟨0, Nat.zero_le _, rfl, HZ0, HB0⟩
      case round =>
        obtain ⟨j, hj, rfl, HZ, hb⟩ := hrel
        by_cases hlt : j < C.length
        · obtain ⟨cb, co, hca, hcbl, hccel⟩ := HROWC.out (by omega)
          have hcj := hccel j hlt
          have hcj2 := hb.2.cell hcj (show ¬ (cb = gO) from HUB.out cb co hca (by omega))
          clear hcj
          obtain ⟨i, hil, hie⟩ := HMEM.out _ (List.getElem_mem hlt)
          have HNX : Hid (shL L (C.take (j + 1)) = (shL L (C.take j)).set i (L[i]'hil).2.2.2) := shL_next hlt hil hie
          rw [hie] at hcj2
          obtain ⟨b, o, ha, hbl, hcel⟩ := HROW.out (by omega)
          have hcx := (hcel i hil).kept (HXK.out _ hb).2
          unfold TgtAt at hcx
          obtain ⟨c0, c1, c2, c3⟩ := hcx
          have hle : (shL L (C.take j)).length = L.length := shL_length L _
          have hpk := HZ.out.2 i (by rw [hle]; exact hil)
          have hcg := hpk.1
          have hfg := hpk.2
          have hset := HZ.out.set i (by rw [hle]; exact hil) (L[i]'hil).2.2.2
          rw [← HNX.out] at hset
          obtain ⟨y, hy⟩ : ∃ y, y = (L[i]'hil).2.2.2 := ⟨_, rfl⟩
          obtain ⟨z, hz⟩ : ∃ z, z = (shL L (C.take j))[i]'(by rw [hle]; exact hil) := ⟨_, rfl⟩
          rw [← hy] at c3 hset
          rw [← hz] at hcg
          have HSS : Hid (ZSRow (wr.setCell ⟨gO, i, none⟩ (.int .i64 y)) gO (shL L (C.take (j + 1)))) := hset
          obtain ⟨⟨p0, p1⟩, _⟩ := HXK.out _ hb
          have hki : (i : Int) < (L.length : Int) := by omega
          have hjc : (j : Int) < (C.length : Int) := by omega
          have hb2 : Below W0.heap.size W0 (wr.setCell ⟨gO, i, none⟩ (.int .i64 y)) ∧ Kpt w4 (wr.setCell ⟨gO, i, none⟩ (.int .i64 y)) (fun k => k = gO) := ⟨hb.1.setCell (p := ⟨gO, i, none⟩) hw0g _, hb.2.trans (kpt_set (S := fun k => k = gO) _ _ _ _ rfl)⟩
          subst ha
          subst hca
          clear hcel hccel hset hpk hy hz HNX hle c0 c1 c2 hie
          go_wp2_with fail
          go_roundw
          case rel => exact ⟨j + 1, by omega, by go_num, HSS, hb2⟩
          case measure => simp [intOf]; omega
        · obtain rfl : j = C.length := by omega
          have HZ1 : Hid (ZSRow wr gO (shL L C)) := by have := HZ.out; rw [List.take_length] at this; exact this
          have hbw3 := (HXK.out _ hb).2
          clear HZ HZ0 HB0
          go_wp2_with fail
          refine (HSUM.out gO _ HZ1.out).mono ?_
          rintro e w5 ⟨rfl, rfl⟩
          go_wp2_with fail
          go_ret3
          exact ⟨⟨.slice (some ⟨gO, 0, none⟩) L.length L.length, rfl, .inr ⟨gO, L.length, by rw [shL_length], by rw [shL_length]; exact Nat.le_refl _, by omega, hwg, HZ1.out⟩⟩, hbw3⟩
end Go.Proofs.YtoanloballaclaaGreatDoor

namespace Go.Proofs.YtoanloballaclaaGreatDoor.sharesOf
open Go.RowKit

set_option maxRecDepth 20000 in
set_option maxHeartbeats 16000000 in
theorem core (nm : List UInt8) (v : Value) (L : List TgtT) (ri fa : Int) (hv : Value) (H : List HosT) (O : List Int) (AV : Int) (ok : Bool) (w : World) (hr : TgtRow w v L) (hn : nm.length ≤ maxLen) (hx : Hid (∀ x ∈ L, x.1.length ≤ maxLen ∧ x.2.1.length ≤ maxLen)) (hh : HstRow w hv H) (hxh : Hid (∀ x ∈ H, x.1.length ≤ maxLen)) (hol : O.length ≤ 1048576)
    (HS0 : Hid (L.length ≤ 1048576 → nm.length ≤ 1048576 → Hid (∀ x ∈ L, x.1.length ≤ 1048576 ∧ x.2.1.length ≤ 1048576) → H.length ≤ 1048576 → Hid (∀ x ∈ H, x.1.length ≤ 1048576) → ∀ g1 g2 W, TgoRow W g1 L → HoRow W g2 H → Calls Tryz.prog 26 #[.agg #[.string ⟨nm.toArray⟩, .slice (some ⟨g1, 0, none⟩) L.length L.length], .agg #[.int .i64 ri, .int .i64 fa, .slice (some ⟨g2, 0, none⟩) H.length H.length]] W fun e w' => (∃ u, e = .returned (.tuple #[u, .int .i64 AV, .bool ok]) ∧ OwnN w' W.heap.size u O) ∧ Below W.heap.size W w'))
    (HI0 : Hid (L.length ≤ 1048576 → nm.length ≤ 1048576 → Hid (∀ x ∈ L, x.1.length ≤ 1048576 ∧ x.2.1.length ≤ 1048576) → H.length ≤ 1048576 → Hid (∀ x ∈ H, x.1.length ≤ 1048576) → ∀ g1 g2 W, Below w.heap.size w W → TgoRow W g1 L → HoRow W g2 H → Calls Tryz.prog 27 #[.agg #[.string ⟨nm.toArray⟩, .slice (some ⟨g1, 0, none⟩) L.length L.length], .agg #[.int .i64 ri, .int .i64 fa, .slice (some ⟨g2, 0, none⟩) H.length H.length]] W fun e w' => (∃ u, e = .returned (.tuple #[u, .int .i64 AV, .bool ok]) ∧ OwnN w' W.heap.size u O) ∧ Below W.heap.size W w')) :
    Calls Tryz.prog 6 #[PolV ⟨nm.toArray⟩ v, HeaV ri fa hv] w fun e w' => e = .returned (.bool true) ∧ Below w.heap.size w w' := by
  have HSZ : Hid (∀ W, Below w.heap.size w W → Calls Tryz.prog 9 #[PolV ⟨nm.toArray⟩ v, .int .i64 1048576] W fun e w' => (∃ q : Int, e = .returned (.int .i64 q) ∧ (q = -1 ∨ (0 ≤ q ∧ q = 1048576 - (nm.length : Int) - (L.length : Int) - (wtG L : Int)))) ∧ Below W.heap.size W w') := fun W hW => by
    have h := szPolicy_any ⟨nm.toArray⟩ v L W (hr.kept hW) hx (by rw [size_list]; exact hn)
    rw [size_list] at h; exact h
  have HTP0 : Hid (L.length ≤ 1048576 → ∀ W, Below w.heap.size w W → Calls Tryz.prog 12 #[PolV ⟨nm.toArray⟩ v] W fun e w' => (∃ g, e = .returned (PolV ⟨nm.toArray⟩ (.slice (some ⟨g, 0, none⟩) L.length L.length)) ∧ W.heap.size ≤ g ∧ TgoRow w' g L) ∧ Below W.heap.size W w') := fun h1 W hW => toPolicy_any ⟨nm.toArray⟩ v L W (hr.kept hW) h1
  have HSH : Hid (∀ q W, 0 ≤ q → q ≤ 1048576 → Below w.heap.size w W → Calls Tryz.prog 10 #[HeaV ri fa hv, .int .i64 q] W fun e w' => (∃ q2 : Int, e = .returned (.int .i64 q2) ∧ (q2 = -1 ∨ (0 ≤ q2 ∧ q2 = q - (H.length : Int) - (wtH H : Int)))) ∧ Below W.heap.size W w') := fun q W h0 h1 hW => szHealthQ_any ri fa hv H q W (hh.kept hW) hxh h0 h1
  have HTH0 : Hid (H.length ≤ 1048576 → ∀ W, Below w.heap.size w W → Calls Tryz.prog 13 #[HeaV ri fa hv] W fun e w' => (∃ g, e = .returned (HeaV ri fa (.slice (some ⟨g, 0, none⟩) H.length H.length)) ∧ W.heap.size ≤ g ∧ HoRow w' g H) ∧ Below W.heap.size W w') := fun h1 W hW => toHealth_any ri fa hv H W (hh.kept hW) h1
  unfold PolV at HSZ HTP0 ⊢
  unfold HeaV at HSH HTH0 ⊢
  obtain ⟨a, cap, rfl, hcap, hmax, _⟩ := tgt_value hr
  obtain ⟨a2, cap2, rfl, hcap2, hmax2, _⟩ := hst_value hh
  obtain ⟨v0, hv0⟩ : ∃ v0, v0 = (w.alloc (.cells #[.string ⟨nm.toArray⟩, .slice a L.length cap] 24)).alloc (.cells #[.int .i64 ri, .int .i64 fa, .slice a2 H.length cap2] 27) := ⟨_, rfl⟩
  have hbw_v0 : Below w.heap.size w v0 := by rw [hv0]; exact ((Below.refl w.heap.size w).alloc (Nat.le_refl _) _).alloc (by simp) _
  have hq0 := tgt_below2 (W := v0) (w := w) (by rw [hv0]; exact Below.refl _ _)
  have P0_v0 : Hid (v0.heap[w.heap.size]? = some (.cells #[.string ⟨nm.toArray⟩, .slice a L.length cap] 24)) := hq0.1
  have H0_v0 : Hid (v0.heap[w.heap.size + 1]? = some (.cells #[.int .i64 ri, .int .i64 fa, .slice a2 H.length cap2] 27)) := hq0.2.1
  have hz0 : w.heap.size + 1 < v0.heap.size := by rw [hv0]; simp
  have HV0 : Hid ((w.alloc (.cells #[.string ⟨nm.toArray⟩, .slice a L.length cap] 24)).alloc (.cells #[.int .i64 ri, .int .i64 fa, .slice a2 H.length cap2] 27) = v0) := hv0.symm
  clear hv0 hr hx hh hxh hq0
  go_enter Tryz.func6, Tryz.ntmps6
  go_wp2_with (rw [HV0.out]; obtain ⟨⟨p0, p1⟩, _⟩ := pol_cells P0_v0.out)
  refine (HSZ.out _ hbw_v0).mono ?_
  rintro e v1 ⟨⟨q, rfl, hq⟩, hb1⟩
  have hbw_v1 : Below w.heap.size w v1 := hbw_v0.trans (hb1.mono hbw_v0.size)
  have hz_v1 : v0.heap.size ≤ v1.heap.size := hb1.size
  have P0_v1 : Hid (v1.heap[w.heap.size]? = some (.cells #[.string ⟨nm.toArray⟩, .slice a L.length cap] 24)) := (hb1.block w.heap.size (by omega)).trans P0_v0.out
  have H0_v1 : Hid (v1.heap[(w.heap.size + 1)]? = some (.cells #[.int .i64 ri, .int .i64 fa, .slice a2 H.length cap2] 27)) := (hb1.block (w.heap.size + 1) (by omega)).trans H0_v0.out
  clear P0_v0 H0_v0 hb1 hbw_v0 p0 p1
  rcases hq with rfl | ⟨hq0, hqe⟩
  · go_wp2_with fail
    go_ret
    exact ⟨rfl, hbw_v1⟩
  have hL : L.length ≤ 1048576 := by omega
  have hnl : nm.length ≤ 1048576 := by omega
  have HXL : Hid (∀ x ∈ L, x.1.length ≤ 1048576 ∧ x.2.1.length ≤ 1048576) := fun x hxm => by have := wtG_mem hxm; omega
  have hq1 : q ≤ 1048576 := by omega
  clear hqe
  obtain ⟨⟨h0, h1, h2⟩, _⟩ := hst_cells H0_v1.out
  go_wp2_with fail
  refine (HSH.out q _ hq0 hq1 hbw_v1).mono ?_
  rintro e v2 ⟨⟨q2, rfl, hq2⟩, hb2⟩
  have hbw_v2 : Below w.heap.size w v2 := hbw_v1.trans (hb2.mono hbw_v1.size)
  have hz_v2 : v1.heap.size ≤ v2.heap.size := hb2.size
  have P0_v2 : Hid (v2.heap[w.heap.size]? = some (.cells #[.string ⟨nm.toArray⟩, .slice a L.length cap] 24)) := (hb2.block w.heap.size (by omega)).trans P0_v1.out
  have H0_v2 : Hid (v2.heap[(w.heap.size + 1)]? = some (.cells #[.int .i64 ri, .int .i64 fa, .slice a2 H.length cap2] 27)) := (hb2.block (w.heap.size + 1) (by omega)).trans H0_v1.out
  clear P0_v1 H0_v1 hb2 hbw_v1 h0 h1 h2
  rcases hq2 with rfl | ⟨hq20, hqe2⟩
  · go_wp2_with fail
    go_ret
    exact ⟨rfl, hbw_v2⟩
  have hLH : H.length ≤ 1048576 := by omega
  have HXH : Hid (∀ x ∈ H, x.1.length ≤ 1048576) := fun x hxm => by have := wtH_mem hxm; omega
  clear hqe2
  have HTPa := HTP0.out hL
  have HTP : Hid (∀ W, Below w.heap.size w W → Calls Tryz.prog 12 #[.agg #[.string ⟨nm.toArray⟩, .slice a L.length cap]] W fun e w' => (∃ g, e = .returned (.agg #[.string ⟨nm.toArray⟩, .slice (some ⟨g, 0, none⟩) L.length L.length]) ∧ W.heap.size ≤ g ∧ TgoRow w' g L) ∧ Below W.heap.size W w') := HTPa
  have HTHa := HTH0.out hLH
  have HTH : Hid (∀ W, Below w.heap.size w W → Calls Tryz.prog 13 #[.agg #[.int .i64 ri, .int .i64 fa, .slice a2 H.length cap2]] W fun e w' => (∃ g, e = .returned (.agg #[.int .i64 ri, .int .i64 fa, .slice (some ⟨g, 0, none⟩) H.length H.length]) ∧ W.heap.size ≤ g ∧ HoRow w' g H) ∧ Below W.heap.size W w') := HTHa
  have HSa := HS0.out hL hnl HXL hLH HXH
  have HS : Hid (∀ g1 g2 W, TgoRow W g1 L → HoRow W g2 H → Calls Tryz.prog 26 #[.agg #[.string ⟨nm.toArray⟩, .slice (some ⟨g1, 0, none⟩) L.length L.length], .agg #[.int .i64 ri, .int .i64 fa, .slice (some ⟨g2, 0, none⟩) H.length H.length]] W fun e w' => (∃ u, e = .returned (.tuple #[u, .int .i64 AV, .bool ok]) ∧ OwnN w' W.heap.size u O) ∧ Below W.heap.size W w') := HSa
  have HIa := HI0.out hL hnl HXL hLH HXH
  have HI : Hid (∀ g1 g2 W, Below w.heap.size w W → TgoRow W g1 L → HoRow W g2 H → Calls Tryz.prog 27 #[.agg #[.string ⟨nm.toArray⟩, .slice (some ⟨g1, 0, none⟩) L.length L.length], .agg #[.int .i64 ri, .int .i64 fa, .slice (some ⟨g2, 0, none⟩) H.length H.length]] W fun e w' => (∃ u, e = .returned (.tuple #[u, .int .i64 AV, .bool ok]) ∧ OwnN w' W.heap.size u O) ∧ Below W.heap.size W w') := HIa
  have HEP : Hid (∀ g1 g2 W, TgoRow W g1 L → TgoRow W g2 L → Calls Tryz.prog 15 #[.agg #[.string ⟨nm.toArray⟩, .slice (some ⟨g1, 0, none⟩) L.length L.length], .agg #[.string ⟨nm.toArray⟩, .slice (some ⟨g2, 0, none⟩) L.length L.length]] W fun e w' => e = .returned (.bool true) ∧ Below W.heap.size W w') := fun g1 g2 W h1 h2 => eqPolicy_same ⟨nm.toArray⟩ _ _ L W (h1.row1 hL) (h2.row1 hL)
  have HEH : Hid (∀ g1 g2 W, HoRow W g1 H → HoRow W g2 H → Calls Tryz.prog 16 #[.agg #[.int .i64 ri, .int .i64 fa, .slice (some ⟨g1, 0, none⟩) H.length H.length], .agg #[.int .i64 ri, .int .i64 fa, .slice (some ⟨g2, 0, none⟩) H.length H.length]] W fun e w' => e = .returned (.bool true) ∧ Below W.heap.size W w') := fun g1 g2 W h1 h2 => eqHealth_same ri fa _ _ H W (h1.row1 hLH) (h2.row1 hLH)
  have e2 : (ok != ok) = false := by simp
  have e3 : (AV != AV) = false := by simp
  have HEI : Hid (∀ v1 v2 W, ZRow .i64 W v1 O → ZRow .i64 W v2 O → Calls Tryz.prog 19 #[v1, v2] W fun e w' => e = .returned (.bool true) ∧ Below W.heap.size W w') := fun v1 v2 W h1 h2 => by
    have h := eqIntS_any v1 v2 O O W h1 h2
    rw [show (O == O) = true by simp] at h
    exact h
  have HMK : Hid (∀ u base W, OwnN W base u O → Calls Tryz.prog 22 #[u, .int .i64 1] W fun e w' => e = .returned (.int .i64 (1 + (O.length : Int))) ∧ OwnN w' base u (mksZ 1 O.length) ∧ Kpt W w' (fun k => u.ownBlock = some k)) := fun u base W h => markN_any u O base W h hol
  have HHD : Hid (∀ u base W, OwnN W base u (mksZ 1 O.length) → Calls Tryz.prog 23 #[u, .int .i64 1] W fun e w' => e = .returned (.int .i64 (1 + (O.length : Int))) ∧ Below W.heap.size W w') := fun u base W h => heldN_any u O.length base W h hol
  have HMP : Hid (∀ g W, TgoRow W g L → Calls Tryz.prog 20 #[.agg #[.string ⟨nm.toArray⟩, .slice (some ⟨g, 0, none⟩) L.length L.length], .int .i64 1] W fun e w' => e = .returned (.int .i64 (1 + 4 * (L.length : Int))) ∧ Kpt W w' (fun k => k = g)) := fun g W h => markPolicy_any ⟨nm.toArray⟩ g L.length 1 W ⟨L, rfl, h⟩ hL (by omega) (by omega)
  have HMH : Hid (∀ g W, HoRow W g H → Calls Tryz.prog 21 #[.agg #[.int .i64 ri, .int .i64 fa, .slice (some ⟨g, 0, none⟩) H.length H.length], .int .i64 (1 + 4 * (L.length : Int))] W fun e w' => e = .returned (.int .i64 (1 + 4 * (L.length : Int) + 3 * (H.length : Int))) ∧ Kpt W w' (fun k => k = g)) := fun g W h => by
    have h2 := markHealth_any ri fa (.slice (some ⟨g, 0, none⟩) H.length H.length) H 0 (1 + 4 * L.length) W (.inr ⟨g, H.length, rfl, Nat.le_refl _, by unfold maxLen; omega, Nat.zero_le _, h⟩) hLH (by omega) (by omega)
    rw [show ((1 + 4 * L.length : Nat) : Int) = 1 + 4 * (L.length : Int) by omega] at h2
    exact h2.mono fun e w' h3 => ⟨h3.1, h3.2.2.mono (fun k _ hk => (Option.some.inj hk).symm)⟩
  obtain ⟨kp, hkp⟩ : ∃ kp : Int, kp = 1 + 4 * (L.length : Int) := ⟨_, rfl⟩
  rw [← hkp] at HMP HMH
  obtain ⟨kh, hkh⟩ : ∃ kh : Int, kh = kp + 3 * (H.length : Int) := ⟨_, rfl⟩
  rw [← hkh] at HMH
  have hkn : ¬ kh < 0 := by omega
  obtain ⟨m, hm⟩ : ∃ m : Int, m = 1 + (O.length : Int) := ⟨_, rfl⟩
  rw [← hm] at HMK HHD
  have hm0 : ¬ m < 0 := by omega
  have em : (m != m) = false := by simp
  clear hm hkp hkh
  clear HS0 HI0 HTP0 HTPa HSa HIa HSZ HTH0 HTHa HSH
  have hbz : Below v2.heap.size v2 v2 := Below.refl _ _
  have hbd : Below v2.heap.size v2 v2.drew := (Below.refl _ _).drew
  have HTR : Hid (∀ W W', Below v2.heap.size v2 W → Below W.heap.size W W' → Below v2.heap.size v2 W') := fun W W' h1 h2 => h1.trans (h2.mono h1.size)
  have HCL : Hid (∀ W, Below v2.heap.size v2 W → (W.cell? ⟨w.heap.size, 0, none⟩ = some (.string ⟨nm.toArray⟩) ∧ W.cell? ⟨w.heap.size, 1, none⟩ = some (.slice a L.length cap) ∧ W.cell? ⟨w.heap.size + 1, 0, none⟩ = some (.int .i64 ri) ∧ W.cell? ⟨w.heap.size + 1, 1, none⟩ = some (.int .i64 fa) ∧ W.cell? ⟨w.heap.size + 1, 2, none⟩ = some (.slice a2 H.length cap2)) ∧ Below v2.heap.size v2 W) := fun W hW => by
    have x1 := (pol_cells ((hW.block w.heap.size (by omega)).trans P0_v2.out)).1
    have x2 := (hst_cells ((hW.block (w.heap.size + 1) (by omega)).trans H0_v2.out)).1
    exact ⟨⟨x1.1, x1.2, x2.1, x2.2.1, x2.2.2⟩, hW⟩
  have HTPs : Hid (∀ W, Below v2.heap.size v2 W → Calls Tryz.prog 12 #[.agg #[.string ⟨nm.toArray⟩, .slice a L.length cap]] W fun e w' => (∃ g, e = .returned (.agg #[.string ⟨nm.toArray⟩, .slice (some ⟨g, 0, none⟩) L.length L.length]) ∧ W.heap.size ≤ g ∧ TgoRow w' g L) ∧ Below W.heap.size W w') := fun W hW => HTP.out W (hbw_v2.trans (hW.mono hbw_v2.size))
  have HTHs : Hid (∀ W, Below v2.heap.size v2 W → Calls Tryz.prog 13 #[.agg #[.int .i64 ri, .int .i64 fa, .slice a2 H.length cap2]] W fun e w' => (∃ g, e = .returned (.agg #[.int .i64 ri, .int .i64 fa, .slice (some ⟨g, 0, none⟩) H.length H.length]) ∧ W.heap.size ≤ g ∧ HoRow w' g H) ∧ Below W.heap.size W w') := fun W hW => HTH.out W (hbw_v2.trans (hW.mono hbw_v2.size))
  have HSs : Hid (∀ g1 g2 W, Below v2.heap.size v2 W → TgoRow W g1 L → HoRow W g2 H → Calls Tryz.prog 26 #[.agg #[.string ⟨nm.toArray⟩, .slice (some ⟨g1, 0, none⟩) L.length L.length], .agg #[.int .i64 ri, .int .i64 fa, .slice (some ⟨g2, 0, none⟩) H.length H.length]] W fun e w' => (∃ u, e = .returned (.tuple #[u, .int .i64 AV, .bool ok]) ∧ OwnN w' W.heap.size u O) ∧ Below W.heap.size W w') := fun g1 g2 W hW h1 h2 => HS.out g1 g2 W h1 h2
  go_wp2_with fail
  go_region_held3 (fun W => (W.cell? ⟨w.heap.size, 0, none⟩ = some (.string ⟨nm.toArray⟩) ∧ W.cell? ⟨w.heap.size, 1, none⟩ = some (.slice a L.length cap) ∧ W.cell? ⟨w.heap.size + 1, 0, none⟩ = some (.int .i64 ri) ∧ W.cell? ⟨w.heap.size + 1, 1, none⟩ = some (.int .i64 fa) ∧ W.cell? ⟨w.heap.size + 1, 2, none⟩ = some (.slice a2 H.length cap2)) ∧ Below v2.heap.size v2 W) (first | exact HCL.out _ (by assumption) | exact HCL.out _ (Below.drew (by assumption)))
    (first
    | (go_at_call 12; refine (HTPs.out _ (by assumption)).mono ?_; rintro e x1 ⟨⟨g91, rfl, _, hr1⟩, hc1⟩; have hd1 := HTR.out _ _ (by assumption) hc1)
    | (go_at_call 13; refine (HTHs.out _ (by assumption)).mono ?_; rintro e x2 ⟨⟨g92, rfl, _, hr2⟩, hc2⟩; have hd2 := HTR.out _ _ (by assumption) hc2; have hr12 := TgoRow.kept hr1 hc2)
    | (go_at_call 26; refine (HSs.out _ _ _ (by assumption) (by assumption) (by assumption)).mono ?_; rintro e v3 ⟨⟨u1, rfl, ho⟩, hc3⟩; have hbt := HTR.out _ _ (by assumption) hc3))
  clear hc3 hbz hbd HTR HCL HSs HTPs HTHs hd1 hc1 hr1 hd2 hc2 hr12 hr2
  have hlo3 : v2.heap.size ≤ v3.heap.size := hbt.size
  have HLA : Hid (∀ k, u1.ownBlock = some k → k < v3.heap.size) := fun k h => (ho.lt k h).2
  have hbw_v3 : Below w.heap.size w v3 := hbw_v2.trans (hbt.mono hbw_v2.size)
  have hz_v3 : v2.heap.size ≤ v3.heap.size := hbt.size
  have P0_v3 : Hid (v3.heap[w.heap.size]? = some (.cells #[.string ⟨nm.toArray⟩, .slice a L.length cap] 24)) := (hbt.block w.heap.size (by omega)).trans P0_v2.out
  have H0_v3 : Hid (v3.heap[(w.heap.size + 1)]? = some (.cells #[.int .i64 ri, .int .i64 fa, .slice a2 H.length cap2] 27)) := (hbt.block (w.heap.size + 1) (by omega)).trans H0_v2.out
  clear P0_v2 H0_v2 hbt hbw_v2 
  have A_v3 : Hid (OwnN v3 0 u1 O) := ho.mono (Nat.zero_le _)
  clear ho
  obtain ⟨⟨p0, p1⟩, _⟩ := pol_cells P0_v3.out
  go_wp2_with fail
  refine (HTP.out _ hbw_v3).mono ?_
  rintro e v4 ⟨⟨g1, rfl, hg1, hr1⟩, hb4⟩
  have hbw_v4 : Below w.heap.size w v4 := hbw_v3.trans (hb4.mono hbw_v3.size)
  have hz_v4 : v3.heap.size ≤ v4.heap.size := hb4.size
  have P0_v4 : Hid (v4.heap[w.heap.size]? = some (.cells #[.string ⟨nm.toArray⟩, .slice a L.length cap] 24)) := (hb4.block w.heap.size (by omega)).trans P0_v3.out
  have H0_v4 : Hid (v4.heap[(w.heap.size + 1)]? = some (.cells #[.int .i64 ri, .int .i64 fa, .slice a2 H.length cap2] 27)) := (hb4.block (w.heap.size + 1) (by omega)).trans H0_v3.out
  have A_v4 : Hid (OwnN v4 0 u1 O) := A_v3.out.kept hb4
  clear P0_v3 H0_v3 A_v3 hb4 hbw_v3 p0 p1
  have T1_v4 : Hid (TgoRow v4 g1 L) := hr1
  have hg1l : g1 < v4.heap.size := hr1.1
  clear hr1
  obtain ⟨v5, htv5⟩ : ∃ W, W = v4.alloc (.cells #[.string ⟨nm.toArray⟩, .slice (some ⟨g1, 0, none⟩) L.length L.length] 34) := ⟨_, rfl⟩
  have hbv5 : Below v4.heap.size v4 v5 := by rw [htv5]; exact (Below.refl _ _).alloc (Nat.le_refl _) _
  have hxv5 : v5.heap[v4.heap.size]? = some (.cells #[.string ⟨nm.toArray⟩, .slice (some ⟨g1, 0, none⟩) L.length L.length] 34) := by rw [htv5]; exact tgt_new _ _
  have HFv5 : Hid (v4.alloc (.cells #[.string ⟨nm.toArray⟩, .slice (some ⟨g1, 0, none⟩) L.length L.length] 34) = v5) := htv5.symm
  have hlv5 : v4.heap.size < v5.heap.size := by rw [htv5]; simp
  clear htv5
  have hbw_v5 : Below w.heap.size w v5 := hbw_v4.trans (hbv5.mono hbw_v4.size)
  have hz_v5 : v4.heap.size ≤ v5.heap.size := hbv5.size
  have P0_v5 : Hid (v5.heap[w.heap.size]? = some (.cells #[.string ⟨nm.toArray⟩, .slice a L.length cap] 24)) := (hbv5.block w.heap.size (by omega)).trans P0_v4.out
  have H0_v5 : Hid (v5.heap[(w.heap.size + 1)]? = some (.cells #[.int .i64 ri, .int .i64 fa, .slice a2 H.length cap2] 27)) := (hbv5.block (w.heap.size + 1) (by omega)).trans H0_v4.out
  have A_v5 : Hid (OwnN v5 0 u1 O) := A_v4.out.kept hbv5
  have T1_v5 : Hid (TgoRow v5 g1 L) := T1_v4.out.kept hbv5
  clear P0_v4 H0_v4 A_v4 T1_v4 hbv5 hbw_v4 
  have X0_v5 : Hid (v5.heap[v4.heap.size]? = some (.cells #[.string ⟨nm.toArray⟩, .slice (some ⟨g1, 0, none⟩) L.length L.length] 34)) := hxv5
  clear hxv5
  obtain ⟨⟨h0, h1, h2⟩, _⟩ := hst_cells H0_v5.out
  go_wp2_with (rw [HFv5.out])
  refine (HTH.out _ hbw_v5).mono ?_
  rintro e v6 ⟨⟨g2, rfl, hg2, hr2⟩, hb6⟩
  have hbw_v6 : Below w.heap.size w v6 := hbw_v5.trans (hb6.mono hbw_v5.size)
  have hz_v6 : v5.heap.size ≤ v6.heap.size := hb6.size
  have P0_v6 : Hid (v6.heap[w.heap.size]? = some (.cells #[.string ⟨nm.toArray⟩, .slice a L.length cap] 24)) := (hb6.block w.heap.size (by omega)).trans P0_v5.out
  have H0_v6 : Hid (v6.heap[(w.heap.size + 1)]? = some (.cells #[.int .i64 ri, .int .i64 fa, .slice a2 H.length cap2] 27)) := (hb6.block (w.heap.size + 1) (by omega)).trans H0_v5.out
  have A_v6 : Hid (OwnN v6 0 u1 O) := A_v5.out.kept hb6
  have T1_v6 : Hid (TgoRow v6 g1 L) := T1_v5.out.kept hb6
  have X0_v6 : Hid (v6.heap[v4.heap.size]? = some (.cells #[.string ⟨nm.toArray⟩, .slice (some ⟨g1, 0, none⟩) L.length L.length] 34)) := (hb6.block v4.heap.size (by omega)).trans X0_v5.out
  clear P0_v5 H0_v5 A_v5 T1_v5 X0_v5 hb6 hbw_v5 h0 h1 h2 HFv5
  have T2_v6 : Hid (HoRow v6 g2 H) := hr2
  have hg2l : g2 < v6.heap.size := hr2.1
  clear hr2
  obtain ⟨v7, htv7⟩ : ∃ W, W = v6.alloc (.cells #[.int .i64 ri, .int .i64 fa, .slice (some ⟨g2, 0, none⟩) H.length H.length] 38) := ⟨_, rfl⟩
  have hbv7 : Below v6.heap.size v6 v7 := by rw [htv7]; exact (Below.refl _ _).alloc (Nat.le_refl _) _
  have hxv7 : v7.heap[v6.heap.size]? = some (.cells #[.int .i64 ri, .int .i64 fa, .slice (some ⟨g2, 0, none⟩) H.length H.length] 38) := by rw [htv7]; exact tgt_new _ _
  have HFv7 : Hid (v6.alloc (.cells #[.int .i64 ri, .int .i64 fa, .slice (some ⟨g2, 0, none⟩) H.length H.length] 38) = v7) := htv7.symm
  have hlv7 : v6.heap.size < v7.heap.size := by rw [htv7]; simp
  clear htv7
  have hbw_v7 : Below w.heap.size w v7 := hbw_v6.trans (hbv7.mono hbw_v6.size)
  have hz_v7 : v6.heap.size ≤ v7.heap.size := hbv7.size
  have P0_v7 : Hid (v7.heap[w.heap.size]? = some (.cells #[.string ⟨nm.toArray⟩, .slice a L.length cap] 24)) := (hbv7.block w.heap.size (by omega)).trans P0_v6.out
  have H0_v7 : Hid (v7.heap[(w.heap.size + 1)]? = some (.cells #[.int .i64 ri, .int .i64 fa, .slice a2 H.length cap2] 27)) := (hbv7.block (w.heap.size + 1) (by omega)).trans H0_v6.out
  have A_v7 : Hid (OwnN v7 0 u1 O) := A_v6.out.kept hbv7
  have T1_v7 : Hid (TgoRow v7 g1 L) := T1_v6.out.kept hbv7
  have X0_v7 : Hid (v7.heap[v4.heap.size]? = some (.cells #[.string ⟨nm.toArray⟩, .slice (some ⟨g1, 0, none⟩) L.length L.length] 34)) := (hbv7.block v4.heap.size (by omega)).trans X0_v6.out
  have T2_v7 : Hid (HoRow v7 g2 H) := T2_v6.out.kept hbv7
  clear P0_v6 H0_v6 A_v6 T1_v6 X0_v6 T2_v6 hbv7 hbw_v6 
  have X1_v7 : Hid (v7.heap[v6.heap.size]? = some (.cells #[.int .i64 ri, .int .i64 fa, .slice (some ⟨g2, 0, none⟩) H.length H.length] 38)) := hxv7
  clear hxv7
  obtain ⟨⟨p0, p1⟩, _⟩ := pol_cells X0_v7.out
  obtain ⟨⟨h0, h1, h2⟩, _⟩ := hst_cells X1_v7.out
  go_wp2_with (rw [HFv7.out])
  refine (HI.out _ _ _ hbw_v7 T1_v7.out T2_v7.out).mono ?_
  rintro e v8 ⟨⟨u2, rfl, ho⟩, hb8⟩
  have HL2 : Hid (∀ k, u2.ownBlock = some k → v7.heap.size ≤ k ∧ k < v8.heap.size) := fun k h => ho.lt k h
  have hbw_v8 : Below w.heap.size w v8 := hbw_v7.trans (hb8.mono hbw_v7.size)
  have hz_v8 : v7.heap.size ≤ v8.heap.size := hb8.size
  have P0_v8 : Hid (v8.heap[w.heap.size]? = some (.cells #[.string ⟨nm.toArray⟩, .slice a L.length cap] 24)) := (hb8.block w.heap.size (by omega)).trans P0_v7.out
  have H0_v8 : Hid (v8.heap[(w.heap.size + 1)]? = some (.cells #[.int .i64 ri, .int .i64 fa, .slice a2 H.length cap2] 27)) := (hb8.block (w.heap.size + 1) (by omega)).trans H0_v7.out
  have A_v8 : Hid (OwnN v8 0 u1 O) := A_v7.out.kept hb8
  have T1_v8 : Hid (TgoRow v8 g1 L) := T1_v7.out.kept hb8
  have X0_v8 : Hid (v8.heap[v4.heap.size]? = some (.cells #[.string ⟨nm.toArray⟩, .slice (some ⟨g1, 0, none⟩) L.length L.length] 34)) := (hb8.block v4.heap.size (by omega)).trans X0_v7.out
  have T2_v8 : Hid (HoRow v8 g2 H) := T2_v7.out.kept hb8
  have X1_v8 : Hid (v8.heap[v6.heap.size]? = some (.cells #[.int .i64 ri, .int .i64 fa, .slice (some ⟨g2, 0, none⟩) H.length H.length] 38)) := (hb8.block v6.heap.size (by omega)).trans X1_v7.out
  clear P0_v7 H0_v7 A_v7 T1_v7 X0_v7 T2_v7 X1_v7 hb8 hbw_v7 p0 p1 h0 h1 h2 HFv7
  have O_v8 : Hid (OwnN v8 v7.heap.size u2 O) := ho
  clear ho
  go_wp2_with fail
  refine (HEI.out _ _ _ O_v8.out.row (A_v8.out.row)).mono ?_
  rintro e v9 ⟨rfl, hb9⟩
  have hbw_v9 : Below w.heap.size w v9 := hbw_v8.trans (hb9.mono hbw_v8.size)
  have hz_v9 : v8.heap.size ≤ v9.heap.size := hb9.size
  have P0_v9 : Hid (v9.heap[w.heap.size]? = some (.cells #[.string ⟨nm.toArray⟩, .slice a L.length cap] 24)) := (hb9.block w.heap.size (by omega)).trans P0_v8.out
  have H0_v9 : Hid (v9.heap[(w.heap.size + 1)]? = some (.cells #[.int .i64 ri, .int .i64 fa, .slice a2 H.length cap2] 27)) := (hb9.block (w.heap.size + 1) (by omega)).trans H0_v8.out
  have A_v9 : Hid (OwnN v9 0 u1 O) := A_v8.out.kept hb9
  have T1_v9 : Hid (TgoRow v9 g1 L) := T1_v8.out.kept hb9
  have X0_v9 : Hid (v9.heap[v4.heap.size]? = some (.cells #[.string ⟨nm.toArray⟩, .slice (some ⟨g1, 0, none⟩) L.length L.length] 34)) := (hb9.block v4.heap.size (by omega)).trans X0_v8.out
  have T2_v9 : Hid (HoRow v9 g2 H) := T2_v8.out.kept hb9
  have X1_v9 : Hid (v9.heap[v6.heap.size]? = some (.cells #[.int .i64 ri, .int .i64 fa, .slice (some ⟨g2, 0, none⟩) H.length H.length] 38)) := (hb9.block v6.heap.size (by omega)).trans X1_v8.out
  have O_v9 : Hid (OwnN v9 v7.heap.size u2 O) := O_v8.out.kept hb9
  clear P0_v8 H0_v8 A_v8 T1_v8 X0_v8 T2_v8 X1_v8 O_v8 hb9 hbw_v8 
  have hbz : Below v9.heap.size v9 v9 := Below.refl _ _
  have hbd : Below v9.heap.size v9 v9.drew := (Below.refl _ _).drew
  have HTR : Hid (∀ W W', Below v9.heap.size v9 W → Below W.heap.size W W' → Below v9.heap.size v9 W') := fun W W' h1 h2 => h1.trans (h2.mono h1.size)
  have HCL : Hid (∀ W, Below v9.heap.size v9 W → (W.cell? ⟨w.heap.size, 0, none⟩ = some (.string ⟨nm.toArray⟩) ∧ W.cell? ⟨w.heap.size, 1, none⟩ = some (.slice a L.length cap) ∧ W.cell? ⟨v4.heap.size, 0, none⟩ = some (.string ⟨nm.toArray⟩) ∧ W.cell? ⟨v4.heap.size, 1, none⟩ = some (.slice (some ⟨g1, 0, none⟩) L.length L.length)) ∧ Below v9.heap.size v9 W) := fun W hW => by
    have x1 := (pol_cells ((hW.block w.heap.size (by omega)).trans P0_v9.out)).1
    have x2 := (pol_cells ((hW.block v4.heap.size (by omega)).trans X0_v9.out)).1
    exact ⟨⟨x1.1, x1.2, x2.1, x2.2⟩, hW⟩
  have HTPs : Hid (∀ W, Below v9.heap.size v9 W → Calls Tryz.prog 12 #[.agg #[.string ⟨nm.toArray⟩, .slice a L.length cap]] W fun e w' => (∃ g, e = .returned (.agg #[.string ⟨nm.toArray⟩, .slice (some ⟨g, 0, none⟩) L.length L.length]) ∧ W.heap.size ≤ g ∧ TgoRow w' g L) ∧ Below W.heap.size W w') := fun W hW => HTP.out W (hbw_v9.trans (hW.mono hbw_v9.size))
  have HEPs : Hid (∀ g W, Below v9.heap.size v9 W → TgoRow W g L → Calls Tryz.prog 15 #[.agg #[.string ⟨nm.toArray⟩, .slice (some ⟨g1, 0, none⟩) L.length L.length], .agg #[.string ⟨nm.toArray⟩, .slice (some ⟨g, 0, none⟩) L.length L.length]] W fun e w' => e = .returned (.bool true) ∧ Below W.heap.size W w') := fun g W hW h1 => HEP.out g1 g W (T1_v9.out.kept hW) h1
  go_wp2_with fail
  go_region_held3 (fun W => (W.cell? ⟨w.heap.size, 0, none⟩ = some (.string ⟨nm.toArray⟩) ∧ W.cell? ⟨w.heap.size, 1, none⟩ = some (.slice a L.length cap) ∧ W.cell? ⟨v4.heap.size, 0, none⟩ = some (.string ⟨nm.toArray⟩) ∧ W.cell? ⟨v4.heap.size, 1, none⟩ = some (.slice (some ⟨g1, 0, none⟩) L.length L.length)) ∧ Below v9.heap.size v9 W) (first | exact HCL.out _ (by assumption) | exact HCL.out _ (Below.drew (by assumption)))
    (first
    | (go_at_call 12; refine (HTPs.out _ (by assumption)).mono ?_; rintro e x1 ⟨⟨g5, rfl, _, hr5⟩, hc1⟩; have hd1 := HTR.out _ _ (by assumption) hc1)
    | (go_at_call 15; refine (HEPs.out _ _ (by assumption) (by assumption)).mono ?_; rintro e v10 ⟨rfl, hc2⟩; have hbt := HTR.out _ _ (by assumption) hc2))
  clear hbz hbd HTR HCL HTPs HEPs hd1 hc1 hc2 hr5
  have hbw_v10 : Below w.heap.size w v10 := hbw_v9.trans (hbt.mono hbw_v9.size)
  have hz_v10 : v9.heap.size ≤ v10.heap.size := hbt.size
  have P0_v10 : Hid (v10.heap[w.heap.size]? = some (.cells #[.string ⟨nm.toArray⟩, .slice a L.length cap] 24)) := (hbt.block w.heap.size (by omega)).trans P0_v9.out
  have H0_v10 : Hid (v10.heap[(w.heap.size + 1)]? = some (.cells #[.int .i64 ri, .int .i64 fa, .slice a2 H.length cap2] 27)) := (hbt.block (w.heap.size + 1) (by omega)).trans H0_v9.out
  have A_v10 : Hid (OwnN v10 0 u1 O) := A_v9.out.kept hbt
  have T1_v10 : Hid (TgoRow v10 g1 L) := T1_v9.out.kept hbt
  have X0_v10 : Hid (v10.heap[v4.heap.size]? = some (.cells #[.string ⟨nm.toArray⟩, .slice (some ⟨g1, 0, none⟩) L.length L.length] 34)) := (hbt.block v4.heap.size (by omega)).trans X0_v9.out
  have T2_v10 : Hid (HoRow v10 g2 H) := T2_v9.out.kept hbt
  have X1_v10 : Hid (v10.heap[v6.heap.size]? = some (.cells #[.int .i64 ri, .int .i64 fa, .slice (some ⟨g2, 0, none⟩) H.length H.length] 38)) := (hbt.block v6.heap.size (by omega)).trans X1_v9.out
  have O_v10 : Hid (OwnN v10 v7.heap.size u2 O) := O_v9.out.kept hbt
  clear P0_v9 H0_v9 A_v9 T1_v9 X0_v9 T2_v9 X1_v9 O_v9 hbt hbw_v9 
  have hbz : Below v10.heap.size v10 v10 := Below.refl _ _
  have hbd : Below v10.heap.size v10 v10.drew := (Below.refl _ _).drew
  have HTR : Hid (∀ W W', Below v10.heap.size v10 W → Below W.heap.size W W' → Below v10.heap.size v10 W') := fun W W' h1 h2 => h1.trans (h2.mono h1.size)
  have HCL : Hid (∀ W, Below v10.heap.size v10 W → (W.cell? ⟨w.heap.size + 1, 0, none⟩ = some (.int .i64 ri) ∧ W.cell? ⟨w.heap.size + 1, 1, none⟩ = some (.int .i64 fa) ∧ W.cell? ⟨w.heap.size + 1, 2, none⟩ = some (.slice a2 H.length cap2) ∧ W.cell? ⟨v6.heap.size, 0, none⟩ = some (.int .i64 ri) ∧ W.cell? ⟨v6.heap.size, 1, none⟩ = some (.int .i64 fa) ∧ W.cell? ⟨v6.heap.size, 2, none⟩ = some (.slice (some ⟨g2, 0, none⟩) H.length H.length)) ∧ Below v10.heap.size v10 W) := fun W hW => by
    have x1 := (hst_cells ((hW.block (w.heap.size + 1) (by omega)).trans H0_v10.out)).1
    have x2 := (hst_cells ((hW.block v6.heap.size (by omega)).trans X1_v10.out)).1
    exact ⟨⟨x1.1, x1.2.1, x1.2.2, x2.1, x2.2.1, x2.2.2⟩, hW⟩
  have HTHs : Hid (∀ W, Below v10.heap.size v10 W → Calls Tryz.prog 13 #[.agg #[.int .i64 ri, .int .i64 fa, .slice a2 H.length cap2]] W fun e w' => (∃ g, e = .returned (.agg #[.int .i64 ri, .int .i64 fa, .slice (some ⟨g, 0, none⟩) H.length H.length]) ∧ W.heap.size ≤ g ∧ HoRow w' g H) ∧ Below W.heap.size W w') := fun W hW => HTH.out W (hbw_v10.trans (hW.mono hbw_v10.size))
  have HEHs : Hid (∀ g W, Below v10.heap.size v10 W → HoRow W g H → Calls Tryz.prog 16 #[.agg #[.int .i64 ri, .int .i64 fa, .slice (some ⟨g2, 0, none⟩) H.length H.length], .agg #[.int .i64 ri, .int .i64 fa, .slice (some ⟨g, 0, none⟩) H.length H.length]] W fun e w' => e = .returned (.bool true) ∧ Below W.heap.size W w') := fun g W hW h1 => HEH.out g2 g W (T2_v10.out.kept hW) h1
  go_wp2_with fail
  go_region_held3 (fun W => (W.cell? ⟨w.heap.size + 1, 0, none⟩ = some (.int .i64 ri) ∧ W.cell? ⟨w.heap.size + 1, 1, none⟩ = some (.int .i64 fa) ∧ W.cell? ⟨w.heap.size + 1, 2, none⟩ = some (.slice a2 H.length cap2) ∧ W.cell? ⟨v6.heap.size, 0, none⟩ = some (.int .i64 ri) ∧ W.cell? ⟨v6.heap.size, 1, none⟩ = some (.int .i64 fa) ∧ W.cell? ⟨v6.heap.size, 2, none⟩ = some (.slice (some ⟨g2, 0, none⟩) H.length H.length)) ∧ Below v10.heap.size v10 W) (first | exact HCL.out _ (by assumption) | exact HCL.out _ (Below.drew (by assumption)))
    (first
    | (go_at_call 13; refine (HTHs.out _ (by assumption)).mono ?_; rintro e x1 ⟨⟨g6, rfl, _, hr6⟩, hc1⟩; have hd1 := HTR.out _ _ (by assumption) hc1)
    | (go_at_call 16; refine (HEHs.out _ _ (by assumption) (by assumption)).mono ?_; rintro e v11 ⟨rfl, hc2⟩; have hbt := HTR.out _ _ (by assumption) hc2))
  clear hbz hbd HTR HCL HTHs HEHs hd1 hc1 hc2 hr6
  have hbw_v11 : Below w.heap.size w v11 := hbw_v10.trans (hbt.mono hbw_v10.size)
  have hz_v11 : v10.heap.size ≤ v11.heap.size := hbt.size
  have P0_v11 : Hid (v11.heap[w.heap.size]? = some (.cells #[.string ⟨nm.toArray⟩, .slice a L.length cap] 24)) := (hbt.block w.heap.size (by omega)).trans P0_v10.out
  have H0_v11 : Hid (v11.heap[(w.heap.size + 1)]? = some (.cells #[.int .i64 ri, .int .i64 fa, .slice a2 H.length cap2] 27)) := (hbt.block (w.heap.size + 1) (by omega)).trans H0_v10.out
  have A_v11 : Hid (OwnN v11 0 u1 O) := A_v10.out.kept hbt
  have T1_v11 : Hid (TgoRow v11 g1 L) := T1_v10.out.kept hbt
  have X0_v11 : Hid (v11.heap[v4.heap.size]? = some (.cells #[.string ⟨nm.toArray⟩, .slice (some ⟨g1, 0, none⟩) L.length L.length] 34)) := (hbt.block v4.heap.size (by omega)).trans X0_v10.out
  have T2_v11 : Hid (HoRow v11 g2 H) := T2_v10.out.kept hbt
  have X1_v11 : Hid (v11.heap[v6.heap.size]? = some (.cells #[.int .i64 ri, .int .i64 fa, .slice (some ⟨g2, 0, none⟩) H.length H.length] 38)) := (hbt.block v6.heap.size (by omega)).trans X1_v10.out
  have O_v11 : Hid (OwnN v11 v7.heap.size u2 O) := O_v10.out.kept hbt
  clear P0_v10 H0_v10 A_v10 T1_v10 X0_v10 T2_v10 X1_v10 O_v10 hbt hbw_v10 
  obtain ⟨⟨p0, p1⟩, _⟩ := pol_cells X0_v11.out
  go_wp2_with fail
  refine (HMP.out _ _ T1_v11.out).mono ?_
  rintro e v12 ⟨rfl, hk12⟩
  have HLA1 : Hid (∀ k, u1.ownBlock = some k → k < v3.heap.size) := HLA
  have hbw_v12 : Below w.heap.size w v12 := hbw_v11.trans (hk12.below hbw_v11.size (fun k hk0 h => by (try dsimp only at h); omega))
  have hz_v12 : v11.heap.size ≤ v12.heap.size := hk12.size
  have P0_v12 : Hid (v12.heap[w.heap.size]? = some (.cells #[.string ⟨nm.toArray⟩, .slice a L.length cap] 24)) := (hk12.block w.heap.size (by omega) (fun h => by (try dsimp only at h); omega)).trans P0_v11.out
  have H0_v12 : Hid (v12.heap[(w.heap.size + 1)]? = some (.cells #[.int .i64 ri, .int .i64 fa, .slice a2 H.length cap2] 27)) := (hk12.block (w.heap.size + 1) (by omega) (fun h => by (try dsimp only at h); omega)).trans H0_v11.out
  have A_v12 : Hid (OwnN v12 0 u1 O) := A_v11.out.kpt hk12 (fun g hg h => by have q := HLA1.out g hg; (try dsimp only at h); omega)
  have X0_v12 : Hid (v12.heap[v4.heap.size]? = some (.cells #[.string ⟨nm.toArray⟩, .slice (some ⟨g1, 0, none⟩) L.length L.length] 34)) := (hk12.block v4.heap.size (by omega) (fun h => by (try dsimp only at h); omega)).trans X0_v11.out
  have T2_v12 : Hid (HoRow v12 g2 H) := T2_v11.out.kpt hk12 (fun h => by (try dsimp only at h); omega)
  have X1_v12 : Hid (v12.heap[v6.heap.size]? = some (.cells #[.int .i64 ri, .int .i64 fa, .slice (some ⟨g2, 0, none⟩) H.length H.length] 38)) := (hk12.block v6.heap.size (by omega) (fun h => by (try dsimp only at h); omega)).trans X1_v11.out
  have O_v12 : Hid (OwnN v12 v7.heap.size u2 O) := O_v11.out.kpt hk12 (fun g hg h => by have q := HL2.out g hg; (try dsimp only at h); omega)
  clear P0_v11 H0_v11 A_v11 T1_v11 X0_v11 T2_v11 X1_v11 O_v11 hk12 hbw_v11 p0 p1
  obtain ⟨⟨h0, h1, h2⟩, _⟩ := hst_cells X1_v12.out
  go_wp2_with fail
  refine (HMH.out _ _ T2_v12.out).mono ?_
  rintro e v13 ⟨rfl, hk13⟩
  have hbw_v13 : Below w.heap.size w v13 := hbw_v12.trans (hk13.below hbw_v12.size (fun k hk0 h => by (try dsimp only at h); omega))
  have hz_v13 : v12.heap.size ≤ v13.heap.size := hk13.size
  have P0_v13 : Hid (v13.heap[w.heap.size]? = some (.cells #[.string ⟨nm.toArray⟩, .slice a L.length cap] 24)) := (hk13.block w.heap.size (by omega) (fun h => by (try dsimp only at h); omega)).trans P0_v12.out
  have H0_v13 : Hid (v13.heap[(w.heap.size + 1)]? = some (.cells #[.int .i64 ri, .int .i64 fa, .slice a2 H.length cap2] 27)) := (hk13.block (w.heap.size + 1) (by omega) (fun h => by (try dsimp only at h); omega)).trans H0_v12.out
  have A_v13 : Hid (OwnN v13 0 u1 O) := A_v12.out.kpt hk13 (fun g hg h => by have q := HLA1.out g hg; (try dsimp only at h); omega)
  have X0_v13 : Hid (v13.heap[v4.heap.size]? = some (.cells #[.string ⟨nm.toArray⟩, .slice (some ⟨g1, 0, none⟩) L.length L.length] 34)) := (hk13.block v4.heap.size (by omega) (fun h => by (try dsimp only at h); omega)).trans X0_v12.out
  have X1_v13 : Hid (v13.heap[v6.heap.size]? = some (.cells #[.int .i64 ri, .int .i64 fa, .slice (some ⟨g2, 0, none⟩) H.length H.length] 38)) := (hk13.block v6.heap.size (by omega) (fun h => by (try dsimp only at h); omega)).trans X1_v12.out
  have O_v13 : Hid (OwnN v13 v7.heap.size u2 O) := O_v12.out.kpt hk13 (fun g hg h => by have q := HL2.out g hg; (try dsimp only at h); omega)
  clear P0_v12 H0_v12 A_v12 X0_v12 T2_v12 X1_v12 O_v12 hk13 hbw_v12 h0 h1 h2
  go_wp2_with fail
  refine (HEI.out _ _ _ O_v13.out.row (A_v13.out.row)).mono ?_
  rintro e v14 ⟨rfl, hb14⟩
  have hbw_v14 : Below w.heap.size w v14 := hbw_v13.trans (hb14.mono hbw_v13.size)
  have hz_v14 : v13.heap.size ≤ v14.heap.size := hb14.size
  have P0_v14 : Hid (v14.heap[w.heap.size]? = some (.cells #[.string ⟨nm.toArray⟩, .slice a L.length cap] 24)) := (hb14.block w.heap.size (by omega)).trans P0_v13.out
  have H0_v14 : Hid (v14.heap[(w.heap.size + 1)]? = some (.cells #[.int .i64 ri, .int .i64 fa, .slice a2 H.length cap2] 27)) := (hb14.block (w.heap.size + 1) (by omega)).trans H0_v13.out
  have A_v14 : Hid (OwnN v14 0 u1 O) := A_v13.out.kept hb14
  have X0_v14 : Hid (v14.heap[v4.heap.size]? = some (.cells #[.string ⟨nm.toArray⟩, .slice (some ⟨g1, 0, none⟩) L.length L.length] 34)) := (hb14.block v4.heap.size (by omega)).trans X0_v13.out
  have X1_v14 : Hid (v14.heap[v6.heap.size]? = some (.cells #[.int .i64 ri, .int .i64 fa, .slice (some ⟨g2, 0, none⟩) H.length H.length] 38)) := (hb14.block v6.heap.size (by omega)).trans X1_v13.out
  have O_v14 : Hid (OwnN v14 v7.heap.size u2 O) := O_v13.out.kept hb14
  clear P0_v13 H0_v13 A_v13 X0_v13 X1_v13 O_v13 hb14 hbw_v13 
  go_wp2_with fail
  refine (HMK.out _ _ _ O_v14.out).mono ?_
  rintro e v15 ⟨rfl, hm15, hk15⟩
  have M_v15 : Hid (OwnN v15 v7.heap.size u2 (mksZ 1 O.length)) := hm15
  clear hm15
  have hbw_v15 : Below w.heap.size w v15 := hbw_v14.trans (hk15.below hbw_v14.size (fun k hk0 h => by have q0 := HL2.out _ h; omega))
  have hz_v15 : v14.heap.size ≤ v15.heap.size := hk15.size
  have P0_v15 : Hid (v15.heap[w.heap.size]? = some (.cells #[.string ⟨nm.toArray⟩, .slice a L.length cap] 24)) := (hk15.block w.heap.size (by omega) (fun h => by have q0 := HL2.out _ h; omega)).trans P0_v14.out
  have H0_v15 : Hid (v15.heap[(w.heap.size + 1)]? = some (.cells #[.int .i64 ri, .int .i64 fa, .slice a2 H.length cap2] 27)) := (hk15.block (w.heap.size + 1) (by omega) (fun h => by have q0 := HL2.out _ h; omega)).trans H0_v14.out
  have A_v15 : Hid (OwnN v15 0 u1 O) := A_v14.out.kpt hk15 (fun g hg h => by have q := HLA1.out g hg; have q0 := HL2.out _ h; omega)
  have X0_v15 : Hid (v15.heap[v4.heap.size]? = some (.cells #[.string ⟨nm.toArray⟩, .slice (some ⟨g1, 0, none⟩) L.length L.length] 34)) := (hk15.block v4.heap.size (by omega) (fun h => by have q0 := HL2.out _ h; omega)).trans X0_v14.out
  have X1_v15 : Hid (v15.heap[v6.heap.size]? = some (.cells #[.int .i64 ri, .int .i64 fa, .slice (some ⟨g2, 0, none⟩) H.length H.length] 38)) := (hk15.block v6.heap.size (by omega) (fun h => by have q0 := HL2.out _ h; omega)).trans X1_v14.out
  clear P0_v14 H0_v14 A_v14 X0_v14 X1_v14 O_v14 hk15 hbw_v14 
  go_wp2_with fail
  refine (HHD.out _ _ _ M_v15.out).mono ?_
  rintro e v16 ⟨rfl, hb16⟩
  have hbw_v16 : Below w.heap.size w v16 := hbw_v15.trans (hb16.mono hbw_v15.size)
  have hz_v16 : v15.heap.size ≤ v16.heap.size := hb16.size
  have P0_v16 : Hid (v16.heap[w.heap.size]? = some (.cells #[.string ⟨nm.toArray⟩, .slice a L.length cap] 24)) := (hb16.block w.heap.size (by omega)).trans P0_v15.out
  have H0_v16 : Hid (v16.heap[(w.heap.size + 1)]? = some (.cells #[.int .i64 ri, .int .i64 fa, .slice a2 H.length cap2] 27)) := (hb16.block (w.heap.size + 1) (by omega)).trans H0_v15.out
  have A_v16 : Hid (OwnN v16 0 u1 O) := A_v15.out.kept hb16
  have X0_v16 : Hid (v16.heap[v4.heap.size]? = some (.cells #[.string ⟨nm.toArray⟩, .slice (some ⟨g1, 0, none⟩) L.length L.length] 34)) := (hb16.block v4.heap.size (by omega)).trans X0_v15.out
  have X1_v16 : Hid (v16.heap[v6.heap.size]? = some (.cells #[.int .i64 ri, .int .i64 fa, .slice (some ⟨g2, 0, none⟩) H.length H.length] 38)) := (hb16.block v6.heap.size (by omega)).trans X1_v15.out
  have M_v16 : Hid (OwnN v16 v7.heap.size u2 (mksZ 1 O.length)) := M_v15.out.kept hb16
  clear P0_v15 H0_v15 A_v15 X0_v15 X1_v15 M_v15 hb16 hbw_v15 
  have hbz : Below v16.heap.size v16 v16 := Below.refl _ _
  have hbd : Below v16.heap.size v16 v16.drew := (Below.refl _ _).drew
  have HTR : Hid (∀ W W', Below v16.heap.size v16 W → Below W.heap.size W W' → Below v16.heap.size v16 W') := fun W W' h1 h2 => h1.trans (h2.mono h1.size)
  have HCL : Hid (∀ W, Below v16.heap.size v16 W → (W.cell? ⟨w.heap.size, 0, none⟩ = some (.string ⟨nm.toArray⟩) ∧ W.cell? ⟨w.heap.size, 1, none⟩ = some (.slice a L.length cap) ∧ W.cell? ⟨w.heap.size + 1, 0, none⟩ = some (.int .i64 ri) ∧ W.cell? ⟨w.heap.size + 1, 1, none⟩ = some (.int .i64 fa) ∧ W.cell? ⟨w.heap.size + 1, 2, none⟩ = some (.slice a2 H.length cap2)) ∧ Below v16.heap.size v16 W) := fun W hW => by
    have x1 := (pol_cells ((hW.block w.heap.size (by omega)).trans P0_v16.out)).1
    have x2 := (hst_cells ((hW.block (w.heap.size + 1) (by omega)).trans H0_v16.out)).1
    exact ⟨⟨x1.1, x1.2, x2.1, x2.2.1, x2.2.2⟩, hW⟩
  have HTPs : Hid (∀ W, Below v16.heap.size v16 W → Calls Tryz.prog 12 #[.agg #[.string ⟨nm.toArray⟩, .slice a L.length cap]] W fun e w' => (∃ g, e = .returned (.agg #[.string ⟨nm.toArray⟩, .slice (some ⟨g, 0, none⟩) L.length L.length]) ∧ W.heap.size ≤ g ∧ TgoRow w' g L) ∧ Below W.heap.size W w') := fun W hW => HTP.out W (hbw_v16.trans (hW.mono hbw_v16.size))
  have HTHs : Hid (∀ W, Below v16.heap.size v16 W → Calls Tryz.prog 13 #[.agg #[.int .i64 ri, .int .i64 fa, .slice a2 H.length cap2]] W fun e w' => (∃ g, e = .returned (.agg #[.int .i64 ri, .int .i64 fa, .slice (some ⟨g, 0, none⟩) H.length H.length]) ∧ W.heap.size ≤ g ∧ HoRow w' g H) ∧ Below W.heap.size W w') := fun W hW => HTH.out W (hbw_v16.trans (hW.mono hbw_v16.size))
  have HIs : Hid (∀ g1 g2 W, Below v16.heap.size v16 W → TgoRow W g1 L → HoRow W g2 H → Calls Tryz.prog 27 #[.agg #[.string ⟨nm.toArray⟩, .slice (some ⟨g1, 0, none⟩) L.length L.length], .agg #[.int .i64 ri, .int .i64 fa, .slice (some ⟨g2, 0, none⟩) H.length H.length]] W fun e w' => (∃ u, e = .returned (.tuple #[u, .int .i64 AV, .bool ok]) ∧ OwnN w' W.heap.size u O) ∧ Below W.heap.size W w') := fun g1 g2 W hW h1 h2 => HI.out g1 g2 W (hbw_v16.trans (hW.mono hbw_v16.size)) h1 h2
  go_wp2_with fail
  go_region_held3 (fun W => (W.cell? ⟨w.heap.size, 0, none⟩ = some (.string ⟨nm.toArray⟩) ∧ W.cell? ⟨w.heap.size, 1, none⟩ = some (.slice a L.length cap) ∧ W.cell? ⟨w.heap.size + 1, 0, none⟩ = some (.int .i64 ri) ∧ W.cell? ⟨w.heap.size + 1, 1, none⟩ = some (.int .i64 fa) ∧ W.cell? ⟨w.heap.size + 1, 2, none⟩ = some (.slice a2 H.length cap2)) ∧ Below v16.heap.size v16 W) (first | exact HCL.out _ (by assumption) | exact HCL.out _ (Below.drew (by assumption)))
    (first
    | (go_at_call 12; refine (HTPs.out _ (by assumption)).mono ?_; rintro e x1 ⟨⟨g91, rfl, _, hr1⟩, hc1⟩; have hd1 := HTR.out _ _ (by assumption) hc1)
    | (go_at_call 13; refine (HTHs.out _ (by assumption)).mono ?_; rintro e x2 ⟨⟨g92, rfl, _, hr2⟩, hc2⟩; have hd2 := HTR.out _ _ (by assumption) hc2; have hr12 := TgoRow.kept hr1 hc2)
    | (go_at_call 27; refine (HIs.out _ _ _ (by assumption) (by assumption) (by assumption)).mono ?_; rintro e v17 ⟨⟨u3, rfl, ho⟩, hc3⟩; have hbt := HTR.out _ _ (by assumption) hc3))
  clear hc3 hbz hbd HTR HCL HIs HTPs HTHs hd1 hc1 hr1 hd2 hc2 hr12 hr2
  have R_v17 : Hid (OwnN v17 0 u3 O) := ho.mono (Nat.zero_le _)
  clear ho
  have hbw_v17 : Below w.heap.size w v17 := hbw_v16.trans (hbt.mono hbw_v16.size)
  have hz_v17 : v16.heap.size ≤ v17.heap.size := hbt.size
  have P0_v17 : Hid (v17.heap[w.heap.size]? = some (.cells #[.string ⟨nm.toArray⟩, .slice a L.length cap] 24)) := (hbt.block w.heap.size (by omega)).trans P0_v16.out
  have H0_v17 : Hid (v17.heap[(w.heap.size + 1)]? = some (.cells #[.int .i64 ri, .int .i64 fa, .slice a2 H.length cap2] 27)) := (hbt.block (w.heap.size + 1) (by omega)).trans H0_v16.out
  have A_v17 : Hid (OwnN v17 0 u1 O) := A_v16.out.kept hbt
  have X0_v17 : Hid (v17.heap[v4.heap.size]? = some (.cells #[.string ⟨nm.toArray⟩, .slice (some ⟨g1, 0, none⟩) L.length L.length] 34)) := (hbt.block v4.heap.size (by omega)).trans X0_v16.out
  have X1_v17 : Hid (v17.heap[v6.heap.size]? = some (.cells #[.int .i64 ri, .int .i64 fa, .slice (some ⟨g2, 0, none⟩) H.length H.length] 38)) := (hbt.block v6.heap.size (by omega)).trans X1_v16.out
  have M_v17 : Hid (OwnN v17 v7.heap.size u2 (mksZ 1 O.length)) := M_v16.out.kept hbt
  clear P0_v16 H0_v16 A_v16 X0_v16 X1_v16 M_v16 hbt hbw_v16 
  go_wp2_with fail
  refine (HEI.out _ _ _ (R_v17.out.row) (A_v17.out.row)).mono ?_
  rintro e v18 ⟨rfl, hb18⟩
  clear R_v17
  have hbw_v18 : Below w.heap.size w v18 := hbw_v17.trans (hb18.mono hbw_v17.size)
  have hz_v18 : v17.heap.size ≤ v18.heap.size := hb18.size
  have P0_v18 : Hid (v18.heap[w.heap.size]? = some (.cells #[.string ⟨nm.toArray⟩, .slice a L.length cap] 24)) := (hb18.block w.heap.size (by omega)).trans P0_v17.out
  have H0_v18 : Hid (v18.heap[(w.heap.size + 1)]? = some (.cells #[.int .i64 ri, .int .i64 fa, .slice a2 H.length cap2] 27)) := (hb18.block (w.heap.size + 1) (by omega)).trans H0_v17.out
  have A_v18 : Hid (OwnN v18 0 u1 O) := A_v17.out.kept hb18
  have X0_v18 : Hid (v18.heap[v4.heap.size]? = some (.cells #[.string ⟨nm.toArray⟩, .slice (some ⟨g1, 0, none⟩) L.length L.length] 34)) := (hb18.block v4.heap.size (by omega)).trans X0_v17.out
  have X1_v18 : Hid (v18.heap[v6.heap.size]? = some (.cells #[.int .i64 ri, .int .i64 fa, .slice (some ⟨g2, 0, none⟩) H.length H.length] 38)) := (hb18.block v6.heap.size (by omega)).trans X1_v17.out
  have M_v18 : Hid (OwnN v18 v7.heap.size u2 (mksZ 1 O.length)) := M_v17.out.kept hb18
  clear P0_v17 H0_v17 A_v17 X0_v17 X1_v17 M_v17 hb18 hbw_v17 
  go_wp2_with fail
  refine (HHD.out _ _ _ M_v18.out).mono ?_
  rintro e v19 ⟨rfl, hb19⟩
  have hbw_v19 : Below w.heap.size w v19 := hbw_v18.trans (hb19.mono hbw_v18.size)
  have hz_v19 : v18.heap.size ≤ v19.heap.size := hb19.size
  have P0_v19 : Hid (v19.heap[w.heap.size]? = some (.cells #[.string ⟨nm.toArray⟩, .slice a L.length cap] 24)) := (hb19.block w.heap.size (by omega)).trans P0_v18.out
  have H0_v19 : Hid (v19.heap[(w.heap.size + 1)]? = some (.cells #[.int .i64 ri, .int .i64 fa, .slice a2 H.length cap2] 27)) := (hb19.block (w.heap.size + 1) (by omega)).trans H0_v18.out
  have A_v19 : Hid (OwnN v19 0 u1 O) := A_v18.out.kept hb19
  have X0_v19 : Hid (v19.heap[v4.heap.size]? = some (.cells #[.string ⟨nm.toArray⟩, .slice (some ⟨g1, 0, none⟩) L.length L.length] 34)) := (hb19.block v4.heap.size (by omega)).trans X0_v18.out
  have X1_v19 : Hid (v19.heap[v6.heap.size]? = some (.cells #[.int .i64 ri, .int .i64 fa, .slice (some ⟨g2, 0, none⟩) H.length H.length] 38)) := (hb19.block v6.heap.size (by omega)).trans X1_v18.out
  have M_v19 : Hid (OwnN v19 v7.heap.size u2 (mksZ 1 O.length)) := M_v18.out.kept hb19
  clear P0_v18 H0_v18 A_v18 X0_v18 X1_v18 M_v18 hb19 hbw_v18 
  go_wp2_with fail
  go_ret
  exact ⟨rfl, hbw_v19⟩
theorem shr_len (nm : List UInt8) (L : List TgtT) (ri fa : Int) (H : List HosT) : (shrA nm L ri fa H).length ≤ 12 := by
  unfold shrA
  split
  · rename_i h
    rw [shL_length]
    exact (pol_parts (ok_pol h)).2.2.1
  · simp
theorem walk (nm : List UInt8) (v : Value) (L : List TgtT) (ri fa : Int) (hv : Value) (H : List HosT) (w : World) (hr : TgtRow w v L) (hn : nm.length ≤ maxLen) (hx : Hid (∀ x ∈ L, x.1.length ≤ maxLen ∧ x.2.1.length ≤ maxLen)) (hh : HstRow w hv H) (hxh : Hid (∀ x ∈ H, x.1.length ≤ maxLen)) (hE : EnvR w) :
    Calls Tryz.prog 6 #[PolV ⟨nm.toArray⟩ v, HeaV ri fa hv] w fun e w' => e = .returned (.bool true) ∧ Below w.heap.size w w' :=
  core nm v L ri fa hv H (shrA nm L ri fa H) (sumA nm L ri fa H) (okO nm L ri fa H) w hr hn hx hh hxh (by have := shr_len nm L ri fa H; omega) (fun h1 h2 h3 h4 h5 _ _ W q1 q2 => sSharesOf_any nm _ L ri fa _ H W (q1.row1 h1) h1 h2 h3 (q2.row1 h4) h4 h5) (fun h1 _ h3 h4 _ _ _ W hW q1 q2 => iSharesOf_any nm _ L ri fa _ H W (q1.row1 h1) h1 h3 (q2.row1 h4) (hE.below hW))
end Go.Proofs.YtoanloballaclaaGreatDoor.sharesOf
