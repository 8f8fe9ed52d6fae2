import Derived.Test.YtoopfmebpjojiaaDoorLPrb
import Derived.Deep.RegionHeld3
namespace Go.Proofs.YtoopfmebpjojiaaDoor.takeProbe
open Go.RowKit

set_option maxRecDepth 20000 in
set_option maxHeartbeats 32000000 in
theorem core (ri fa : Int) (v : Value) (L : List HosT) (n : Int) (fi : Bool) (ok chg : Bool) (R F : Int) (M : List HosT) (w : World) (hr : HstRow w v L) (hxa : Hid (∀ x ∈ L, x.1.length ≤ maxLen)) (hE : Env w) (hM : L.length ≤ 1048576 → M.length ≤ 1048576)
    (HS0 : Hid (L.length ≤ 1048576 → Hid (∀ x ∈ L, x.1.length ≤ 1048576) → ∀ g W, HoRow W g L → Calls Tryd.prog 23 #[HeaV ri fa (.slice (some ⟨g, 0, none⟩) L.length L.length), .agg #[.int .i64 n, .bool fi]] W fun e w' => (∃ u, e = .returned (.tuple #[HeaV R F u, .bool chg, .bool ok]) ∧ OwnH w' W.heap.size u M) ∧ Below W.heap.size W w'))
    (HI0 : Hid (L.length ≤ 1048576 → Hid (∀ x ∈ L, x.1.length ≤ 1048576) → ∀ g W, Env W → HoRow W g L → Calls Tryd.prog 25 #[HeaV ri fa (.slice (some ⟨g, 0, none⟩) L.length L.length), .agg #[.int .i64 n, .bool fi]] W fun e w' => (∃ u, e = .returned (.tuple #[HeaV R F u, .bool chg, .bool ok]) ∧ OwnH w' W.heap.size u M) ∧ Below W.heap.size W w')) :
    Calls Tryd.prog 5 #[HeaV ri fa v, .agg #[.int .i64 n, .bool fi]] w fun e w' => e = .returned (.bool true) ∧ Below w.heap.size w w' := by
  obtain ⟨va, vc, hva, hvc1, hvc2, _⟩ := id hr
  have HSZ : Hid (∀ W, Below w.heap.size w W → Calls Tryd.prog 19 #[HeaV ri fa v, .int .i64 1048576] W fun e w' => (∃ q : Int, e = .returned (.int .i64 q) ∧ (q = -1 ∨ (0 ≤ q ∧ q = 1048576 - (L.length : Int) - (wtH L : Int)))) ∧ Below W.heap.size W w') := fun W hW => szHealth_any ri fa v L W (hr.kept hW) hxa
  have HTO0 : Hid (L.length ≤ 1048576 → ∀ W, Below w.heap.size w W → Calls Tryd.prog 21 #[HeaV ri fa v] W fun e w' => (∃ g, e = .returned (HeaV ri fa (.slice (some ⟨g, 0, none⟩) L.length L.length)) ∧ W.heap.size ≤ g ∧ HoRow w' g L) ∧ Below W.heap.size W w') := fun h1 W hW => toHealth_any ri fa v L W (hr.kept hW) h1
  have HTP : Hid (∀ W, Calls Tryd.prog 24 #[.agg #[.int .i64 n, .bool fi]] W fun e w' => e = .returned (.agg #[.int .i64 n, .bool fi]) ∧ Below W.heap.size W w') := fun W => toProbe_any n fi W
  subst hva
  clear hr hxa
  unfold HeaV at HSZ HTO0 ⊢
  obtain ⟨W0, hW0⟩ : ∃ W0, W0 = (w.alloc (.cells #[.int .i64 ri, .int .i64 fa, .slice va L.length vc] 36)).alloc (.cells #[.int .i64 n, .bool fi] 42) := ⟨_, rfl⟩
  have hb0 : Below w.heap.size w W0 := by rw [hW0]; exact ((Below.refl w.heap.size w).alloc (Nat.le_refl _) _).alloc (by simp) _
  have HX : Hid (∀ W, Below W0.heap.size W0 W → W.heap[w.heap.size]? = some (.cells #[.int .i64 ri, .int .i64 fa, .slice va L.length vc] 36) ∧ W.heap[w.heap.size + 1]? = some (.cells #[.int .i64 n, .bool fi] 42)) := fun W hW => by
    rw [hW0] at hW
    obtain ⟨h1, h2, _⟩ := hst_below2 hW
    exact ⟨h1, h2⟩
  have hz0 : W0.heap.size = w.heap.size + 1 + 1 := by rw [hW0]; simp
  have HW0 : Hid ((w.alloc (.cells #[.int .i64 ri, .int .i64 fa, .slice va L.length vc] 36)).alloc (.cells #[.int .i64 n, .bool fi] 42) = W0) := hW0.symm
  clear hW0
  go_enter Tryd.func5, Tryd.ntmps5
  go_wp2_with fail
  rw [HW0.out]
  refine (HSZ.out _ hb0).mono ?_
  rintro e w1 ⟨⟨q, rfl, hq⟩, hb1⟩
  have hbww1 : Below w.heap.size w w1 := hb0.trans (hb1.mono hb0.size)
  rcases hq with rfl | ⟨hq0, hqe⟩
  · go_wp2_with fail
    go_ret
    exact ⟨rfl, hbww1⟩
  · have hL : L.length ≤ 1048576 := by omega
    have HLX : Hid (∀ x ∈ L, x.1.length ≤ 1048576) := fun x hxm => by have := wtH_mem hxm; omega
    have hMl := hM hL
    have HTO : Hid (∀ W, Below w.heap.size w W → Calls Tryd.prog 21 #[.agg #[.int .i64 ri, .int .i64 fa, .slice va L.length vc]] W fun e w' => (∃ g, e = .returned (.agg #[.int .i64 ri, .int .i64 fa, .slice (some ⟨g, 0, none⟩) L.length L.length]) ∧ W.heap.size ≤ g ∧ HoRow w' g L) ∧ Below W.heap.size W w') := HTO0.out hL
    have HSP := HS0.out hL HLX
    have HS : Hid (∀ g W, HoRow W g L → Calls Tryd.prog 23 #[HeaV ri fa (.slice (some ⟨g, 0, none⟩) L.length L.length), .agg #[.int .i64 n, .bool fi]] W fun e w' => (∃ u, e = .returned (.tuple #[HeaV R F u, .bool chg, .bool ok]) ∧ OwnH w' W.heap.size u M) ∧ Below W.heap.size W w') := HSP
    have HIP := HI0.out hL HLX
    have HI : Hid (∀ g W, Env W → HoRow W g L → Calls Tryd.prog 25 #[HeaV ri fa (.slice (some ⟨g, 0, none⟩) L.length L.length), .agg #[.int .i64 n, .bool fi]] W fun e w' => (∃ u, e = .returned (.tuple #[HeaV R F u, .bool chg, .bool ok]) ∧ OwnH w' W.heap.size u M) ∧ Below W.heap.size W w') := HIP
    have HEQ : Hid (∀ u1 u2 W, HstRow W u1 M → HstRow W u2 M → Calls Tryd.prog 14 #[HeaV R F u1, HeaV R F u2] W fun e w' => e = .returned (.bool true) ∧ Below W.heap.size W w') := fun u1 u2 W h1 h2 => eqHealth_same R F u1 u2 M W h1 h2
    have HEX : Hid (∀ g1 g2 W, HoRow W g1 L → HoRow W g2 L → Calls Tryd.prog 14 #[HeaV ri fa (.slice (some ⟨g1, 0, none⟩) L.length L.length), HeaV ri fa (.slice (some ⟨g2, 0, none⟩) L.length L.length)] W fun e w' => e = .returned (.bool true) ∧ Below W.heap.size W w') := fun g1 g2 W h1 h2 => eqHealth_same ri fa _ _ L W (h1.row1 hL) (h2.row1 hL)
    have HMX : Hid (∀ g W, HoRow W g L → Calls Tryd.prog 17 #[HeaV ri fa (.slice (some ⟨g, 0, none⟩) L.length L.length), .int .i64 1] W fun e w' => e = .returned (.int .i64 (1 + 3 * (L.length : Int))) ∧ Kpt W w' (fun k => k = g)) := fun g W h1 => (markHealth_any ri fa _ L g 1 W (.inr ⟨g, L.length, rfl, Nat.le_refl _, by unfold maxLen; omega, Nat.le_refl _, h1⟩) hL (by omega) (by omega)).mono fun e w' h => ⟨h.1, h.2.2.mono (fun k _ hk => (Option.some.inj hk).symm)⟩
    have HMK : Hid (∀ u base W, OwnH W base u M → Calls Tryd.prog 17 #[HeaV R F u, .int .i64 1] W fun e w' => e = .returned (.int .i64 (1 + 3 * (M.length : Int))) ∧ OwnH w' base u (mrksH 1 M.length) ∧ Kpt W w' (fun k => u.ownBlock = some k)) := fun u base W h1 => markHealth_any R F u M base 1 W h1 hMl (by omega) (by omega)
    have HHD : Hid (∀ u base W, OwnH W base u (mrksH 1 M.length) → Calls Tryd.prog 18 #[HeaV R F u, .int .i64 1] W fun e w' => e = .returned (.int .i64 (1 + 3 * (M.length : Int))) ∧ Below W.heap.size W w') := fun u base W h1 => heldHealth_any R F u M.length 1 W h1.row hMl (by omega) (by omega)
    obtain ⟨p, hp⟩ : ∃ p : Int, p = 1 + 3 * (M.length : Int) := ⟨_, rfl⟩
    rw [← hp] at HMK HHD
    obtain ⟨ps, hps⟩ : ∃ ps : Int, ps = 1 + 3 * (L.length : Int) := ⟨_, rfl⟩
    rw [← hps] at HMX
    have hp0 : decide (p < 0) = false := by simp; omega
    have hpp : (p != p) = false := by simp
    have hs0 : decide (ps < 0) = false := by simp; omega
    have eok : (ok != ok) = false := by simp
    have ech : (chg != chg) = false := by simp
    unfold HeaV at HS HI HEQ HEX HMX HMK HHD
    have hzz1 := hb1.size
    clear hp hps hqe HS0 HI0 HSP HIP HTO0 HSZ
    have hargs := HX.out _ hb1
    have hzb : w.heap.size + 1 + 1 ≤ w1.heap.size := by omega
    have BH_w1 : Hid (w1.heap[w.heap.size]? = some (.cells #[.int .i64 ri, .int .i64 fa, .slice va L.length vc] 36)) := hargs.1
    have BP_w1 : Hid (w1.heap[(w.heap.size + 1)]? = some (.cells #[.int .i64 n, .bool fi] 42)) := hargs.2
    clear hargs hb1 HX hzz1 hb0
    go_wp2_with fail
    have HXCA : Hid (∀ V, Below w1.heap.size w1 V → (V.cell? ⟨w.heap.size, 0, none⟩ = some (.int .i64 ri) ∧ V.cell? ⟨w.heap.size, 1, none⟩ = some (.int .i64 fa) ∧ V.cell? ⟨w.heap.size, 2, none⟩ = some (.slice va L.length vc)) ∧ (V.cell? ⟨w.heap.size + 1, 0, none⟩ = some (.int .i64 n) ∧ V.cell? ⟨w.heap.size + 1, 1, none⟩ = some (.bool fi))) := fun V hV => ⟨(hst_cells ((hV.block w.heap.size (by omega)).trans BH_w1.out)).1, prb_cells ((hV.block (w.heap.size + 1) (by omega)).trans BP_w1.out)⟩
    have HBWA : Hid (∀ V, Below w1.heap.size w1 V → Below w.heap.size w V) := fun V hV => hbww1.trans (hV.mono hbww1.size)
    have hSXA : Below w1.heap.size w1 w1.drew := (Below.refl _ _).drew
    have HTSA : Hid (∀ W W', Below w1.heap.size w1 W → Below W.heap.size W W' → Below w1.heap.size w1 W') := fun W W' h1 h2 => h1.trans (h2.mono h1.size)
    refine Code.wp_mono (Q := fun e a W => e = Exit.normal ∧ ∃ (gA : Nat) (aA : Option Addr) (cA gXA : Nat), a = { tmps := #[.agg #[.int .i64 ri, .int .i64 fa, .slice va L.length vc], .agg #[.int .i64 n, .bool fi], .pointer (some ⟨w.heap.size, 0, none⟩), .pointer (some ⟨w.heap.size + 1, 0, none⟩), .bool false, .int .i64 q, .pointer (some ⟨gXA, 0, none⟩), .bool chg, .bool ok, undef, undef, undef, undef, undef, undef, undef, undef, undef, undef, .agg #[.int .i64 ri, .int .i64 fa, .slice va L.length vc], .int .i64 1048576, .int .i64 q, .int .i64 q, .bool (decide (q < 0)), .tuple #[.agg #[.int .i64 R, .int .i64 F, .slice aA M.length cA], .bool chg, .bool ok], .agg #[.int .i64 ri, .int .i64 fa, .slice va L.length vc], .agg #[.int .i64 ri, .int .i64 fa, .slice (some ⟨gA, 0, none⟩) L.length L.length], .agg #[.int .i64 n, .bool fi], .agg #[.int .i64 n, .bool fi], .tuple #[.agg #[.int .i64 R, .int .i64 F, .slice aA M.length cA], .bool chg, .bool ok], .agg #[.int .i64 R, .int .i64 F, .slice aA M.length cA], .bool chg, .bool ok, undef, undef, undef, undef, undef, undef, undef, undef, undef, undef, undef, undef, undef, undef, undef, undef, undef, undef, undef, undef, undef, undef, undef, undef, undef, undef, undef, undef, undef, undef, undef, undef, undef, undef, undef, undef, undef, undef, undef, undef, undef, undef, undef, undef, undef, undef, undef, undef, undef, undef, undef, undef, undef, undef, undef, undef, undef, undef, undef, undef, undef, undef, undef, undef, undef, undef, undef, undef, undef, undef, undef, undef, undef, undef, undef, undef, undef, undef, undef, undef, undef, undef, undef, undef, undef, undef, undef, undef, undef, undef, undef, undef], defers := [] } ∧ cA ≤ maxLen ∧ w1.heap.size ≤ gXA ∧ W.heap[gXA]? = some (.cells #[.int .i64 R, .int .i64 F, .slice aA M.length cA] 26) ∧ OwnH W w1.heap.size (.slice aA M.length cA) M ∧ (Value.slice aA M.length cA).ownBlock ≠ some gXA ∧ Below w1.heap.size w1 W) ?_ ?_
    rotate_left
    · refine wp_region_held_drew (S := fun W : World => Below w1.heap.size w1 W) (by kernel_rfl) hSXA (fun hHeld => ?_)
      generalize w1.drew = wXA at *
      refine wpAnyH_take (i := 0) (v := .agg #[.int .i64 ri, .int .i64 fa, .slice va L.length vc]) rfl (by kernel_rfl) (by kernel_rfl) (by kernel_rfl) (fun _ _ _ h => (by cases h.1)) (Or.inl ⟨by rfl, ?_⟩) (by assumption) ?_
      · intro W hSW
        obtain ⟨⟨b0, b1, b2⟩, ⟨b3, b4⟩⟩ := HXCA.out W hSW
        go_simp
      simp only [Act.put, List.getElem_toArray, List.getElem_cons_zero, List.setIfInBounds_toArray, List.set_cons_succ, List.set_cons_zero]
      refine wpAnyH_take (i := 2) (v := .agg #[.int .i64 n, .bool fi]) rfl (by kernel_rfl) (by kernel_rfl) (by kernel_rfl) (fun _ _ _ h => (by cases h.1)) (Or.inl ⟨by rfl, ?_⟩) (by assumption) ?_
      · intro W hSW
        obtain ⟨⟨b0, b1, b2⟩, ⟨b3, b4⟩⟩ := HXCA.out W hSW
        go_simp
      simp only [Act.put, List.getElem_toArray, List.getElem_cons_succ, List.getElem_cons_zero, List.setIfInBounds_toArray, List.set_cons_succ, List.set_cons_zero]
      have hSwXA := hSXA
      refine wpAnyH_ready (rs := [1, 9]) (by kernel_rfl) (by simp) ?_
      refine AllReadyH.cons rfl (fun K hK => ?_) (AllReadyH.cons rfl (fun K hK => ?_) AllReadyH.nil)
      · rw [if_pos (by rfl)]
        go_simp
        refine (HTO.out _ (HBWA.out _ hSwXA)).mono ?_
        rintro e v21 ⟨⟨gA, rfl, _, hqv21⟩, hbv21⟩
        go_simp
        have hSv21 := HTSA.out _ _ hSwXA hbv21
        have hszbv21 := hbv21.size
        have hszXwXA := hSwXA.size
        refine hK.out _ _ hSv21 (fun hSS => ?_)
        clear hK
        refine wpAnyH_ready (rs := [3, 9]) (by kernel_rfl) (by simp) ?_
        refine AllReadyH.cons rfl (fun K hK => ?_) (AllReadyH.cons rfl (fun K hK => ?_) AllReadyH.nil)
        · rw [if_pos (by rfl)]
          go_simp
          refine (HTP.out _).mono ?_
          rintro e v22 ⟨rfl, hbv22⟩
          go_simp
          have hqv22 := hqv21.kept hbv22
          have hSv22 := HTSA.out _ _ hSv21 hbv22
          have hszbv22 := hbv22.size
          have hszXv21 := hSv21.size
          refine hK.out _ _ hSv22 (fun hSS => ?_)
          clear hK
          refine wpAnyH_ready (rs := [4, 9]) (by kernel_rfl) (by simp) ?_
          refine AllReadyH.cons rfl (fun K hK => ?_) (AllReadyH.cons rfl (fun K hK => ?_) AllReadyH.nil)
          · rw [if_pos (by rfl)]
            go_simp
            refine (HS.out gA _ hqv22).mono ?_
            rintro e v23 ⟨⟨uA, rfl, hov23⟩, hbv23⟩
            obtain ⟨aA, cA, huA, hcmA⟩ := hov23.shape
            subst huA
            go_simp
            have hSv23 := HTSA.out _ _ hSv22 hbv23
            have hszbv23 := hbv23.size
            have hszXv22 := hSv22.size
            have hov23 := OwnH.base hov23 (show w1.heap.size ≤ v22.heap.size by omega)
            refine hK.out _ _ hSv23 (fun hSS => ?_)
            clear hK
            refine wpAnyH_take (i := 5) (v := .tuple #[.agg #[.int .i64 R, .int .i64 F, .slice aA M.length cA], .bool chg, .bool ok]) rfl (by kernel_rfl) (by kernel_rfl) (by kernel_rfl) (fun _ _ _ h => (by cases h.1)) (Or.inl ⟨by rfl, ?_⟩) (by assumption) ?_
            · intro W hSW
              go_simp
            simp only [Act.put, List.getElem_toArray, List.getElem_cons_succ, List.getElem_cons_zero, List.setIfInBounds_toArray, List.set_cons_succ, List.set_cons_zero]
            refine wpAnyH_take (i := 6) (v := .agg #[.int .i64 R, .int .i64 F, .slice aA M.length cA]) rfl (by kernel_rfl) (by kernel_rfl) (by kernel_rfl) (fun _ _ _ h => (by cases h.1)) (Or.inl ⟨by rfl, ?_⟩) (by assumption) ?_
            · intro W hSW
              go_simp
            simp only [Act.put, List.getElem_toArray, List.getElem_cons_succ, List.getElem_cons_zero, List.setIfInBounds_toArray, List.set_cons_succ, List.set_cons_zero]
            refine wpAnyH_take (i := 7) (v := .bool chg) rfl (by kernel_rfl) (by kernel_rfl) (by kernel_rfl) (fun _ _ _ h => (by cases h.1)) (Or.inl ⟨by rfl, ?_⟩) (by assumption) ?_
            · intro W hSW
              go_simp
            simp only [Act.put, List.getElem_toArray, List.getElem_cons_succ, List.getElem_cons_zero, List.setIfInBounds_toArray, List.set_cons_succ, List.set_cons_zero]
            refine wpAnyH_take (i := 8) (v := .bool ok) rfl (by kernel_rfl) (by kernel_rfl) (by kernel_rfl) (fun _ _ _ h => (by cases h.1)) (Or.inl ⟨by rfl, ?_⟩) (by assumption) ?_
            · intro W hSW
              go_simp
            simp only [Act.put, List.getElem_toArray, List.getElem_cons_succ, List.getElem_cons_zero, List.setIfInBounds_toArray, List.set_cons_succ, List.set_cons_zero]
            refine wpAnyH_ready (rs := [9]) (by kernel_rfl) (by simp) ?_
            refine AllReadyH.cons rfl (fun K hK => ?_) AllReadyH.nil
            rw [if_pos (by rfl)]
            go_simp
            have hSA : Below w1.heap.size w1 (v23.alloc (.cells #[.int .i64 0, .int .i64 0, .slice none 0 0] 26)) := hSv23.alloc hSv23.size _
            refine hK.out _ _ hSA (fun hSS => ?_)
            clear hK
            refine wpAnyH_ready (rs := [10]) (by kernel_rfl) (by simp) ?_
            refine AllReadyH.cons rfl (fun K hK => ?_) AllReadyH.nil
            rw [if_pos (by rfl)]
            have hSF : Below w1.heap.size w1 (v23.alloc (.cells #[.int .i64 R, .int .i64 F, .slice aA M.length cA] 26)) := hSv23.alloc hSv23.size _
            have hbF : Below v23.heap.size v23 (v23.alloc (.cells #[.int .i64 R, .int .i64 F, .slice aA M.length cA] 26)) := (Below.refl _ _).alloc (Nat.le_refl _) _
            have hF : (v23.alloc (.cells #[.int .i64 R, .int .i64 F, .slice aA M.length cA] 26)).heap[v23.heap.size]? = some (.cells #[.int .i64 R, .int .i64 F, .slice aA M.length cA] 26) := hst_new _ _
            have hOF := hov23.kept hbF
            have hneF : (Value.slice aA M.length cA).ownBlock ≠ some v23.heap.size := fun h => by have := (hov23.lt _ h).2; omega
            have hszF := hSv23.size
            go_simp
            refine hK.out _ _ hSF (fun hSS => ?_)
            clear hK
            refine wpAnyH_take (i := 11) (v := .bool chg) rfl (by kernel_rfl) (by kernel_rfl) (by kernel_rfl) (fun _ _ _ h => (by cases h.1)) (Or.inl ⟨by rfl, ?_⟩) (by assumption) ?_
            · intro W hSW
              go_simp
            simp only [Act.put, List.getElem_toArray, List.getElem_cons_succ, List.getElem_cons_zero, List.setIfInBounds_toArray, List.set_cons_succ, List.set_cons_zero]
            refine wpAnyH_take (i := 12) (v := .bool ok) rfl (by kernel_rfl) (by kernel_rfl) (by kernel_rfl) (fun _ _ _ h => (by cases h.1)) (Or.inl ⟨by rfl, ?_⟩) (by assumption) ?_
            · intro W hSW
              go_simp
            simp only [Act.put, List.getElem_toArray, List.getElem_cons_succ, List.getElem_cons_zero, List.setIfInBounds_toArray, List.set_cons_succ, List.set_cons_zero]
            refine wpAnyH_done (by kernel_rfl) ?_ _
            exact ⟨rfl, gA, aA, cA, v23.heap.size, rfl, hcmA, by omega, hF, hOF, hneF, hSF⟩
          · rw [if_pos (by rfl)]
            go_simp
            have hSv24 : Below w1.heap.size w1 (v22.alloc (.cells #[.int .i64 0, .int .i64 0, .slice none 0 0] 26)) := hSv22.alloc hSv22.size _
            refine hK.out _ _ hSv24 (fun hSS => ?_)
            clear hK
            obtain ⟨gXA, hgXe⟩ : ∃ g, g = v22.heap.size := ⟨_, rfl⟩
            have hqAv24 : (v22.alloc (.cells #[.int .i64 0, .int .i64 0, .slice none 0 0] 26)).heap[gXA]? = some (.cells #[.int .i64 0, .int .i64 0, .slice none 0 0] 26) := by rw [hgXe]; exact hst_new _ _
            have hbv24 : Below v22.heap.size v22 (v22.alloc (.cells #[.int .i64 0, .int .i64 0, .slice none 0 0] 26)) := (Below.refl _ _).alloc (Nat.le_refl _) _
            have hlAv24 : gXA < (v22.alloc (.cells #[.int .i64 0, .int .i64 0, .slice none 0 0] 26)).heap.size := by rw [hgXe]; simp
            have hszSv22 := hSv22.size
            have hqv24 := hqv22.kept hbv24
            rw [← hgXe]
            have hgX1 : v22.heap.size ≤ gXA := by omega
            clear hgXe
            generalize v22.alloc (.cells #[.int .i64 0, .int .i64 0, .slice none 0 0] 26) = v24 at *
            refine wpAnyH_ready (rs := [4]) (by kernel_rfl) (by simp) ?_
            refine AllReadyH.cons rfl (fun K hK => ?_) AllReadyH.nil
            · rw [if_pos (by rfl)]
              go_simp
              refine (HS.out gA _ hqv24).mono ?_
              rintro e v25 ⟨⟨uA, rfl, hov25⟩, hbv25⟩
              obtain ⟨aA, cA, huA, hcmA⟩ := hov25.shape
              subst huA
              go_simp
              have hSv25 := HTSA.out _ _ hSv24 hbv25
              have hszbv25 := hbv25.size
              have hszXv24 := hSv24.size
              have hqAv25 : v25.heap[gXA]? = some (.cells #[.int .i64 0, .int .i64 0, .slice none 0 0] 26) := (hbv25.block gXA hlAv24).trans hqAv24
              have hlAv25 : gXA < v25.heap.size := Nat.lt_of_lt_of_le hlAv24 hbv25.size
              have hneA : (Value.slice aA M.length cA).ownBlock ≠ some gXA := fun h => by have := (hov25.lt _ h).1; omega
              have hov25 := OwnH.base hov25 (show w1.heap.size ≤ v24.heap.size by omega)
              refine hK.out _ _ hSv25 (fun hSS => ?_)
              clear hK
              refine wpAnyH_take (i := 5) (v := .tuple #[.agg #[.int .i64 R, .int .i64 F, .slice aA M.length cA], .bool chg, .bool ok]) rfl (by kernel_rfl) (by kernel_rfl) (by kernel_rfl) (fun _ _ _ h => (by cases h.1)) (Or.inl ⟨by rfl, ?_⟩) (by assumption) ?_
              · intro W hSW
                go_simp
              simp only [Act.put, List.getElem_toArray, List.getElem_cons_succ, List.getElem_cons_zero, List.setIfInBounds_toArray, List.set_cons_succ, List.set_cons_zero]
              refine wpAnyH_take (i := 6) (v := .agg #[.int .i64 R, .int .i64 F, .slice aA M.length cA]) rfl (by kernel_rfl) (by kernel_rfl) (by kernel_rfl) (fun _ _ _ h => (by cases h.1)) (Or.inl ⟨by rfl, ?_⟩) (by assumption) ?_
              · intro W hSW
                go_simp
              simp only [Act.put, List.getElem_toArray, List.getElem_cons_succ, List.getElem_cons_zero, List.setIfInBounds_toArray, List.set_cons_succ, List.set_cons_zero]
              refine wpAnyH_take (i := 7) (v := .bool chg) rfl (by kernel_rfl) (by kernel_rfl) (by kernel_rfl) (fun _ _ _ h => (by cases h.1)) (Or.inl ⟨by rfl, ?_⟩) (by assumption) ?_
              · intro W hSW
                go_simp
              simp only [Act.put, List.getElem_toArray, List.getElem_cons_succ, List.getElem_cons_zero, List.setIfInBounds_toArray, List.set_cons_succ, List.set_cons_zero]
              refine wpAnyH_take (i := 8) (v := .bool ok) rfl (by kernel_rfl) (by kernel_rfl) (by kernel_rfl) (fun _ _ _ h => (by cases h.1)) (Or.inl ⟨by rfl, ?_⟩) (by assumption) ?_
              · intro W hSW
                go_simp
              simp only [Act.put, List.getElem_toArray, List.getElem_cons_succ, List.getElem_cons_zero, List.setIfInBounds_toArray, List.set_cons_succ, List.set_cons_zero]
              refine wpAnyH_ready (rs := [10]) (by kernel_rfl) (by simp) ?_
              refine AllReadyH.cons rfl (fun K hK => ?_) AllReadyH.nil
              rw [if_pos (by rfl)]
              obtain ⟨⟨r0, r1, r2⟩, ⟨f0, f1, f2⟩⟩ := hst_cells hqAv25
              have hSF := put3h_below hSv25 (g := gXA) (by omega) (.int .i64 R) (.int .i64 F) (.slice aA M.length cA)
              have hF := put3h_heap (v0 := .int .i64 R) (v1 := .int .i64 F) (v2 := .slice aA M.length cA) hqAv25
              have hOF := OwnH.kpt hov25 (kpt_put3h v25 gXA (.int .i64 R) (.int .i64 F) (.slice aA M.length cA)) (fun g hg e => hneA (by rw [← e]; exact hg))
              go_simp
              unfold put3h at hSF hF hOF
              refine hK.out _ _ hSF (fun hSS => ?_)
              clear hK r0 r1 r2 f0 f1 f2
              refine wpAnyH_take (i := 11) (v := .bool chg) rfl (by kernel_rfl) (by kernel_rfl) (by kernel_rfl) (fun _ _ _ h => (by cases h.1)) (Or.inl ⟨by rfl, ?_⟩) (by assumption) ?_
              · intro W hSW
                go_simp
              simp only [Act.put, List.getElem_toArray, List.getElem_cons_succ, List.getElem_cons_zero, List.setIfInBounds_toArray, List.set_cons_succ, List.set_cons_zero]
              refine wpAnyH_take (i := 12) (v := .bool ok) rfl (by kernel_rfl) (by kernel_rfl) (by kernel_rfl) (fun _ _ _ h => (by cases h.1)) (Or.inl ⟨by rfl, ?_⟩) (by assumption) ?_
              · intro W hSW
                go_simp
              simp only [Act.put, List.getElem_toArray, List.getElem_cons_succ, List.getElem_cons_zero, List.setIfInBounds_toArray, List.set_cons_succ, List.set_cons_zero]
              refine wpAnyH_done (by kernel_rfl) ?_ _
              exact ⟨rfl, gA, aA, cA, gXA, rfl, hcmA, by omega, hF, hOF, hneA, hSF⟩
        · rw [if_pos (by rfl)]
          go_simp
          have hSv26 : Below w1.heap.size w1 (v21.alloc (.cells #[.int .i64 0, .int .i64 0, .slice none 0 0] 26)) := hSv21.alloc hSv21.size _
          refine hK.out _ _ hSv26 (fun hSS => ?_)
          clear hK
          obtain ⟨gXA, hgXe⟩ : ∃ g, g = v21.heap.size := ⟨_, rfl⟩
          have hqAv26 : (v21.alloc (.cells #[.int .i64 0, .int .i64 0, .slice none 0 0] 26)).heap[gXA]? = some (.cells #[.int .i64 0, .int .i64 0, .slice none 0 0] 26) := by rw [hgXe]; exact hst_new _ _
          have hbv26 : Below v21.heap.size v21 (v21.alloc (.cells #[.int .i64 0, .int .i64 0, .slice none 0 0] 26)) := (Below.refl _ _).alloc (Nat.le_refl _) _
          have hlAv26 : gXA < (v21.alloc (.cells #[.int .i64 0, .int .i64 0, .slice none 0 0] 26)).heap.size := by rw [hgXe]; simp
          have hszSv21 := hSv21.size
          have hqv26 := hqv21.kept hbv26
          rw [← hgXe]
          have hgX1 : v21.heap.size ≤ gXA := by omega
          clear hgXe
          generalize v21.alloc (.cells #[.int .i64 0, .int .i64 0, .slice none 0 0] 26) = v26 at *
          refine wpAnyH_ready (rs := [3]) (by kernel_rfl) (by simp) ?_
          refine AllReadyH.cons rfl (fun K hK => ?_) AllReadyH.nil
          · rw [if_pos (by rfl)]
            go_simp
            refine (HTP.out _).mono ?_
            rintro e v27 ⟨rfl, hbv27⟩
            go_simp
            have hqv27 := hqv26.kept hbv27
            have hSv27 := HTSA.out _ _ hSv26 hbv27
            have hszbv27 := hbv27.size
            have hszXv26 := hSv26.size
            have hqAv27 : v27.heap[gXA]? = some (.cells #[.int .i64 0, .int .i64 0, .slice none 0 0] 26) := (hbv27.block gXA hlAv26).trans hqAv26
            have hlAv27 : gXA < v27.heap.size := Nat.lt_of_lt_of_le hlAv26 hbv27.size
            refine hK.out _ _ hSv27 (fun hSS => ?_)
            clear hK
            refine wpAnyH_ready (rs := [4]) (by kernel_rfl) (by simp) ?_
            refine AllReadyH.cons rfl (fun K hK => ?_) AllReadyH.nil
            · rw [if_pos (by rfl)]
              go_simp
              refine (HS.out gA _ hqv27).mono ?_
              rintro e v28 ⟨⟨uA, rfl, hov28⟩, hbv28⟩
              obtain ⟨aA, cA, huA, hcmA⟩ := hov28.shape
              subst huA
              go_simp
              have hSv28 := HTSA.out _ _ hSv27 hbv28
              have hszbv28 := hbv28.size
              have hszXv27 := hSv27.size
              have hqAv28 : v28.heap[gXA]? = some (.cells #[.int .i64 0, .int .i64 0, .slice none 0 0] 26) := (hbv28.block gXA hlAv27).trans hqAv27
              have hlAv28 : gXA < v28.heap.size := Nat.lt_of_lt_of_le hlAv27 hbv28.size
              have hneA : (Value.slice aA M.length cA).ownBlock ≠ some gXA := fun h => by have := (hov28.lt _ h).1; omega
              have hov28 := OwnH.base hov28 (show w1.heap.size ≤ v27.heap.size by omega)
              refine hK.out _ _ hSv28 (fun hSS => ?_)
              clear hK
              refine wpAnyH_take (i := 5) (v := .tuple #[.agg #[.int .i64 R, .int .i64 F, .slice aA M.length cA], .bool chg, .bool ok]) rfl (by kernel_rfl) (by kernel_rfl) (by kernel_rfl) (fun _ _ _ h => (by cases h.1)) (Or.inl ⟨by rfl, ?_⟩) (by assumption) ?_
              · intro W hSW
                go_simp
              simp only [Act.put, List.getElem_toArray, List.getElem_cons_succ, List.getElem_cons_zero, List.setIfInBounds_toArray, List.set_cons_succ, List.set_cons_zero]
              refine wpAnyH_take (i := 6) (v := .agg #[.int .i64 R, .int .i64 F, .slice aA M.length cA]) rfl (by kernel_rfl) (by kernel_rfl) (by kernel_rfl) (fun _ _ _ h => (by cases h.1)) (Or.inl ⟨by rfl, ?_⟩) (by assumption) ?_
              · intro W hSW
                go_simp
              simp only [Act.put, List.getElem_toArray, List.getElem_cons_succ, List.getElem_cons_zero, List.setIfInBounds_toArray, List.set_cons_succ, List.set_cons_zero]
              refine wpAnyH_take (i := 7) (v := .bool chg) rfl (by kernel_rfl) (by kernel_rfl) (by kernel_rfl) (fun _ _ _ h => (by cases h.1)) (Or.inl ⟨by rfl, ?_⟩) (by assumption) ?_
              · intro W hSW
                go_simp
              simp only [Act.put, List.getElem_toArray, List.getElem_cons_succ, List.getElem_cons_zero, List.setIfInBounds_toArray, List.set_cons_succ, List.set_cons_zero]
              refine wpAnyH_take (i := 8) (v := .bool ok) rfl (by kernel_rfl) (by kernel_rfl) (by kernel_rfl) (fun _ _ _ h => (by cases h.1)) (Or.inl ⟨by rfl, ?_⟩) (by assumption) ?_
              · intro W hSW
                go_simp
              simp only [Act.put, List.getElem_toArray, List.getElem_cons_succ, List.getElem_cons_zero, List.setIfInBounds_toArray, List.set_cons_succ, List.set_cons_zero]
              refine wpAnyH_ready (rs := [10]) (by kernel_rfl) (by simp) ?_
              refine AllReadyH.cons rfl (fun K hK => ?_) AllReadyH.nil
              rw [if_pos (by rfl)]
              obtain ⟨⟨r0, r1, r2⟩, ⟨f0, f1, f2⟩⟩ := hst_cells hqAv28
              have hSF := put3h_below hSv28 (g := gXA) (by omega) (.int .i64 R) (.int .i64 F) (.slice aA M.length cA)
              have hF := put3h_heap (v0 := .int .i64 R) (v1 := .int .i64 F) (v2 := .slice aA M.length cA) hqAv28
              have hOF := OwnH.kpt hov28 (kpt_put3h v28 gXA (.int .i64 R) (.int .i64 F) (.slice aA M.length cA)) (fun g hg e => hneA (by rw [← e]; exact hg))
              go_simp
              unfold put3h at hSF hF hOF
              refine hK.out _ _ hSF (fun hSS => ?_)
              clear hK r0 r1 r2 f0 f1 f2
              refine wpAnyH_take (i := 11) (v := .bool chg) rfl (by kernel_rfl) (by kernel_rfl) (by kernel_rfl) (fun _ _ _ h => (by cases h.1)) (Or.inl ⟨by rfl, ?_⟩) (by assumption) ?_
              · intro W hSW
                go_simp
              simp only [Act.put, List.getElem_toArray, List.getElem_cons_succ, List.getElem_cons_zero, List.setIfInBounds_toArray, List.set_cons_succ, List.set_cons_zero]
              refine wpAnyH_take (i := 12) (v := .bool ok) rfl (by kernel_rfl) (by kernel_rfl) (by kernel_rfl) (fun _ _ _ h => (by cases h.1)) (Or.inl ⟨by rfl, ?_⟩) (by assumption) ?_
              · intro W hSW
                go_simp
              simp only [Act.put, List.getElem_toArray, List.getElem_cons_succ, List.getElem_cons_zero, List.setIfInBounds_toArray, List.set_cons_succ, List.set_cons_zero]
              refine wpAnyH_done (by kernel_rfl) ?_ _
              exact ⟨rfl, gA, aA, cA, gXA, rfl, hcmA, by omega, hF, hOF, hneA, hSF⟩
      · rw [if_pos (by rfl)]
        go_simp
        have hSv29 : Below w1.heap.size w1 (wXA.alloc (.cells #[.int .i64 0, .int .i64 0, .slice none 0 0] 26)) := hSwXA.alloc hSwXA.size _
        refine hK.out _ _ hSv29 (fun hSS => ?_)
        clear hK
        obtain ⟨gXA, hgXe⟩ : ∃ g, g = wXA.heap.size := ⟨_, rfl⟩
        have hqAv29 : (wXA.alloc (.cells #[.int .i64 0, .int .i64 0, .slice none 0 0] 26)).heap[gXA]? = some (.cells #[.int .i64 0, .int .i64 0, .slice none 0 0] 26) := by rw [hgXe]; exact hst_new _ _
        have hbv29 : Below wXA.heap.size wXA (wXA.alloc (.cells #[.int .i64 0, .int .i64 0, .slice none 0 0] 26)) := (Below.refl _ _).alloc (Nat.le_refl _) _
        have hlAv29 : gXA < (wXA.alloc (.cells #[.int .i64 0, .int .i64 0, .slice none 0 0] 26)).heap.size := by rw [hgXe]; simp
        have hszSwXA := hSwXA.size
        rw [← hgXe]
        have hgX1 : wXA.heap.size ≤ gXA := by omega
        clear hgXe
        generalize wXA.alloc (.cells #[.int .i64 0, .int .i64 0, .slice none 0 0] 26) = v29 at *
        refine wpAnyH_ready (rs := [1]) (by kernel_rfl) (by simp) ?_
        refine AllReadyH.cons rfl (fun K hK => ?_) AllReadyH.nil
        · rw [if_pos (by rfl)]
          go_simp
          refine (HTO.out _ (HBWA.out _ hSv29)).mono ?_
          rintro e v30 ⟨⟨gA, rfl, _, hqv30⟩, hbv30⟩
          go_simp
          have hSv30 := HTSA.out _ _ hSv29 hbv30
          have hszbv30 := hbv30.size
          have hszXv29 := hSv29.size
          have hqAv30 : v30.heap[gXA]? = some (.cells #[.int .i64 0, .int .i64 0, .slice none 0 0] 26) := (hbv30.block gXA hlAv29).trans hqAv29
          have hlAv30 : gXA < v30.heap.size := Nat.lt_of_lt_of_le hlAv29 hbv30.size
          refine hK.out _ _ hSv30 (fun hSS => ?_)
          clear hK
          refine wpAnyH_ready (rs := [3]) (by kernel_rfl) (by simp) ?_
          refine AllReadyH.cons rfl (fun K hK => ?_) AllReadyH.nil
          · rw [if_pos (by rfl)]
            go_simp
            refine (HTP.out _).mono ?_
            rintro e v31 ⟨rfl, hbv31⟩
            go_simp
            have hqv31 := hqv30.kept hbv31
            have hSv31 := HTSA.out _ _ hSv30 hbv31
            have hszbv31 := hbv31.size
            have hszXv30 := hSv30.size
            have hqAv31 : v31.heap[gXA]? = some (.cells #[.int .i64 0, .int .i64 0, .slice none 0 0] 26) := (hbv31.block gXA hlAv30).trans hqAv30
            have hlAv31 : gXA < v31.heap.size := Nat.lt_of_lt_of_le hlAv30 hbv31.size
            refine hK.out _ _ hSv31 (fun hSS => ?_)
            clear hK
            refine wpAnyH_ready (rs := [4]) (by kernel_rfl) (by simp) ?_
            refine AllReadyH.cons rfl (fun K hK => ?_) AllReadyH.nil
            · rw [if_pos (by rfl)]
              go_simp
              refine (HS.out gA _ hqv31).mono ?_
              rintro e v32 ⟨⟨uA, rfl, hov32⟩, hbv32⟩
              obtain ⟨aA, cA, huA, hcmA⟩ := hov32.shape
              subst huA
              go_simp
              have hSv32 := HTSA.out _ _ hSv31 hbv32
              have hszbv32 := hbv32.size
              have hszXv31 := hSv31.size
              have hqAv32 : v32.heap[gXA]? = some (.cells #[.int .i64 0, .int .i64 0, .slice none 0 0] 26) := (hbv32.block gXA hlAv31).trans hqAv31
              have hlAv32 : gXA < v32.heap.size := Nat.lt_of_lt_of_le hlAv31 hbv32.size
              have hneA : (Value.slice aA M.length cA).ownBlock ≠ some gXA := fun h => by have := (hov32.lt _ h).1; omega
              have hov32 := OwnH.base hov32 (show w1.heap.size ≤ v31.heap.size by omega)
              refine hK.out _ _ hSv32 (fun hSS => ?_)
              clear hK
              refine wpAnyH_take (i := 5) (v := .tuple #[.agg #[.int .i64 R, .int .i64 F, .slice aA M.length cA], .bool chg, .bool ok]) rfl (by kernel_rfl) (by kernel_rfl) (by kernel_rfl) (fun _ _ _ h => (by cases h.1)) (Or.inl ⟨by rfl, ?_⟩) (by assumption) ?_
              · intro W hSW
                go_simp
              simp only [Act.put, List.getElem_toArray, List.getElem_cons_succ, List.getElem_cons_zero, List.setIfInBounds_toArray, List.set_cons_succ, List.set_cons_zero]
              refine wpAnyH_take (i := 6) (v := .agg #[.int .i64 R, .int .i64 F, .slice aA M.length cA]) rfl (by kernel_rfl) (by kernel_rfl) (by kernel_rfl) (fun _ _ _ h => (by cases h.1)) (Or.inl ⟨by rfl, ?_⟩) (by assumption) ?_
              · intro W hSW
                go_simp
              simp only [Act.put, List.getElem_toArray, List.getElem_cons_succ, List.getElem_cons_zero, List.setIfInBounds_toArray, List.set_cons_succ, List.set_cons_zero]
              refine wpAnyH_take (i := 7) (v := .bool chg) rfl (by kernel_rfl) (by kernel_rfl) (by kernel_rfl) (fun _ _ _ h => (by cases h.1)) (Or.inl ⟨by rfl, ?_⟩) (by assumption) ?_
              · intro W hSW
                go_simp
              simp only [Act.put, List.getElem_toArray, List.getElem_cons_succ, List.getElem_cons_zero, List.setIfInBounds_toArray, List.set_cons_succ, List.set_cons_zero]
              refine wpAnyH_take (i := 8) (v := .bool ok) rfl (by kernel_rfl) (by kernel_rfl) (by kernel_rfl) (fun _ _ _ h => (by cases h.1)) (Or.inl ⟨by rfl, ?_⟩) (by assumption) ?_
              · intro W hSW
                go_simp
              simp only [Act.put, List.getElem_toArray, List.getElem_cons_succ, List.getElem_cons_zero, List.setIfInBounds_toArray, List.set_cons_succ, List.set_cons_zero]
              refine wpAnyH_ready (rs := [10]) (by kernel_rfl) (by simp) ?_
              refine AllReadyH.cons rfl (fun K hK => ?_) AllReadyH.nil
              rw [if_pos (by rfl)]
              obtain ⟨⟨r0, r1, r2⟩, ⟨f0, f1, f2⟩⟩ := hst_cells hqAv32
              have hSF := put3h_below hSv32 (g := gXA) (by omega) (.int .i64 R) (.int .i64 F) (.slice aA M.length cA)
              have hF := put3h_heap (v0 := .int .i64 R) (v1 := .int .i64 F) (v2 := .slice aA M.length cA) hqAv32
              have hOF := OwnH.kpt hov32 (kpt_put3h v32 gXA (.int .i64 R) (.int .i64 F) (.slice aA M.length cA)) (fun g hg e => hneA (by rw [← e]; exact hg))
              go_simp
              unfold put3h at hSF hF hOF
              refine hK.out _ _ hSF (fun hSS => ?_)
              clear hK r0 r1 r2 f0 f1 f2
              refine wpAnyH_take (i := 11) (v := .bool chg) rfl (by kernel_rfl) (by kernel_rfl) (by kernel_rfl) (fun _ _ _ h => (by cases h.1)) (Or.inl ⟨by rfl, ?_⟩) (by assumption) ?_
              · intro W hSW
                go_simp
              simp only [Act.put, List.getElem_toArray, List.getElem_cons_succ, List.getElem_cons_zero, List.setIfInBounds_toArray, List.set_cons_succ, List.set_cons_zero]
              refine wpAnyH_take (i := 12) (v := .bool ok) rfl (by kernel_rfl) (by kernel_rfl) (by kernel_rfl) (fun _ _ _ h => (by cases h.1)) (Or.inl ⟨by rfl, ?_⟩) (by assumption) ?_
              · intro W hSW
                go_simp
              simp only [Act.put, List.getElem_toArray, List.getElem_cons_succ, List.getElem_cons_zero, List.setIfInBounds_toArray, List.set_cons_succ, List.set_cons_zero]
              refine wpAnyH_done (by kernel_rfl) ?_ _
              exact ⟨rfl, gA, aA, cA, gXA, rfl, hcmA, by omega, hF, hOF, hneA, hSF⟩
    · rintro e a wA ⟨rfl, gA, aA, cA, gXA, rfl, hcmA, hgXA, hbxA, hoA, hneA, hSA⟩
      have hlXA : gXA < wA.heap.size := (Array.getElem?_eq_some_iff.1 hbxA).1
      have HL1 : Hid (∀ k, (Value.slice aA M.length cA).ownBlock = some k → w1.heap.size ≤ k ∧ k < wA.heap.size) := fun k h => hoA.lt k h
      have hbwwA : Below w.heap.size w wA := hbww1.trans (hSA.mono hbww1.size)
      have hzwA : w1.heap.size ≤ wA.heap.size := hSA.size
      have BH_wA : Hid (wA.heap[w.heap.size]? = some (.cells #[.int .i64 ri, .int .i64 fa, .slice va L.length vc] 36)) := (hSA.block w.heap.size (by omega)).trans BH_w1.out
      have BP_wA : Hid (wA.heap[(w.heap.size + 1)]? = some (.cells #[.int .i64 n, .bool fi] 42)) := (hSA.block (w.heap.size + 1) (by omega)).trans BP_w1.out
      clear BH_w1 BP_w1 hSA 
      have B6_wA : Hid (wA.heap[gXA]? = some (.cells #[.int .i64 R, .int .i64 F, .slice aA M.length cA] 26)) := hbxA
      have OA_wA : Hid (OwnH wA w1.heap.size (.slice aA M.length cA) M) := hoA
      clear hbxA hoA hneA HXCA HBWA HTSA hSXA
      obtain ⟨⟨b0, b1, b2⟩, _⟩ := hst_cells BH_wA.out
      go_wp2_with fail
      refine (HTO.out _ hbwwA).mono ?_
      rintro e w3 ⟨⟨g3, rfl, hg3, hq3⟩, hb3⟩
      clear b0 b1 b2
      have hg3l : g3 < w3.heap.size := hq3.1
      have HQ3 : Hid (HoRow w3 g3 L) := hq3
      clear hq3
      have hbww3 : Below w.heap.size w w3 := hbwwA.trans (hb3.mono hbwwA.size)
      have hzw3 : wA.heap.size ≤ w3.heap.size := hb3.size
      have BH_w3 : Hid (w3.heap[w.heap.size]? = some (.cells #[.int .i64 ri, .int .i64 fa, .slice va L.length vc] 36)) := (hb3.block w.heap.size (by omega)).trans BH_wA.out
      have BP_w3 : Hid (w3.heap[(w.heap.size + 1)]? = some (.cells #[.int .i64 n, .bool fi] 42)) := (hb3.block (w.heap.size + 1) (by omega)).trans BP_wA.out
      have B6_w3 : Hid (w3.heap[gXA]? = some (.cells #[.int .i64 R, .int .i64 F, .slice aA M.length cA] 26)) := (hb3.block gXA (by omega)).trans B6_wA.out
      have OA_w3 : Hid (OwnH w3 w1.heap.size (.slice aA M.length cA) M) := OA_wA.out.kept hb3
      clear BH_wA BP_wA B6_wA OA_wA hb3 
      obtain ⟨w4, hw4⟩ : ∃ w4, w4 = w3.alloc (.cells #[.int .i64 ri, .int .i64 fa, .slice (some ⟨g3, 0, none⟩) L.length L.length] 26) := ⟨_, rfl⟩
      have hb34 : Below w3.heap.size w3 w4 := by rw [hw4]; exact (Below.refl _ _).alloc (Nat.le_refl _) _
      have hx4 : w4.heap[w3.heap.size]? = some (.cells #[.int .i64 ri, .int .i64 fa, .slice (some ⟨g3, 0, none⟩) L.length L.length] 26) := by rw [hw4]; exact hst_new _ _
      have hs4 : w4.heap.size = w3.heap.size + 1 := by rw [hw4]; simp
      have HQ4 := HQ3.out.kept hb34
      have HW4 : Hid (w3.alloc (.cells #[.int .i64 ri, .int .i64 fa, .slice (some ⟨g3, 0, none⟩) L.length L.length] 26) = w4) := hw4.symm
      clear hw4 HQ3
      have hbww4 : Below w.heap.size w w4 := hbww3.trans (hb34.mono hbww3.size)
      have hzw4 : w3.heap.size ≤ w4.heap.size := hb34.size
      have BH_w4 : Hid (w4.heap[w.heap.size]? = some (.cells #[.int .i64 ri, .int .i64 fa, .slice va L.length vc] 36)) := (hb34.block w.heap.size (by omega)).trans BH_w3.out
      have BP_w4 : Hid (w4.heap[(w.heap.size + 1)]? = some (.cells #[.int .i64 n, .bool fi] 42)) := (hb34.block (w.heap.size + 1) (by omega)).trans BP_w3.out
      have B6_w4 : Hid (w4.heap[gXA]? = some (.cells #[.int .i64 R, .int .i64 F, .slice aA M.length cA] 26)) := (hb34.block gXA (by omega)).trans B6_w3.out
      have OA_w4 : Hid (OwnH w4 w1.heap.size (.slice aA M.length cA) M) := OA_w3.out.kept hb34
      clear BH_w3 BP_w3 B6_w3 OA_w3 hb34 
      have B9_w4 : Hid (w4.heap[w3.heap.size]? = some (.cells #[.int .i64 ri, .int .i64 fa, .slice (some ⟨g3, 0, none⟩) L.length L.length] 26)) := hx4
      have QX_w4 : Hid (HoRow w4 g3 L) := HQ4
      clear hx4 HQ4
      go_wp2_with (rw [HW4.out])
      (try rw [HW4.out])
      have HXCB : Hid (∀ V, Below w4.heap.size w4 V → (V.cell? ⟨w.heap.size, 0, none⟩ = some (.int .i64 ri) ∧ V.cell? ⟨w.heap.size, 1, none⟩ = some (.int .i64 fa) ∧ V.cell? ⟨w.heap.size, 2, none⟩ = some (.slice va L.length vc)) ∧ (V.cell? ⟨w.heap.size + 1, 0, none⟩ = some (.int .i64 n) ∧ V.cell? ⟨w.heap.size + 1, 1, none⟩ = some (.bool fi))) := fun V hV => ⟨(hst_cells ((hV.block w.heap.size (by omega)).trans BH_w4.out)).1, prb_cells ((hV.block (w.heap.size + 1) (by omega)).trans BP_w4.out)⟩
      have HBWB : Hid (∀ V, Below w4.heap.size w4 V → Below w.heap.size w V) := fun V hV => hbww4.trans (hV.mono hbww4.size)
      have HXXB : Hid (∀ V, Below w4.heap.size w4 V → V.cell? ⟨w3.heap.size, 0, none⟩ = some (.int .i64 ri) ∧ V.cell? ⟨w3.heap.size, 1, none⟩ = some (.int .i64 fa) ∧ V.cell? ⟨w3.heap.size, 2, none⟩ = some (.slice (some ⟨g3, 0, none⟩) L.length L.length)) := fun V hV => (hst_cells ((hV.block w3.heap.size (by omega)).trans B9_w4.out)).1
      have HQXB : Hid (∀ V, Below w4.heap.size w4 V → HoRow V g3 L) := fun V hV => QX_w4.out.kept hV
      have hSXB : Below w4.heap.size w4 w4.drew := (Below.refl _ _).drew
      have HTSB : Hid (∀ W W', Below w4.heap.size w4 W → Below W.heap.size W W' → Below w4.heap.size w4 W') := fun W W' h1 h2 => h1.trans (h2.mono h1.size)
      refine Code.wp_mono (Q := fun e a W => e = Exit.normal ∧ ∃ (aB : Option Addr) (cB gXB : Nat), a = { tmps := #[.agg #[.int .i64 ri, .int .i64 fa, .slice va L.length vc], .agg #[.int .i64 n, .bool fi], .pointer (some ⟨w.heap.size, 0, none⟩), .pointer (some ⟨w.heap.size + 1, 0, none⟩), .bool false, .int .i64 q, .pointer (some ⟨gXA, 0, none⟩), .bool chg, .bool ok, .pointer (some ⟨w3.heap.size, 0, none⟩), .pointer (some ⟨gXB, 0, none⟩), .bool chg, .bool ok, undef, undef, undef, undef, undef, undef, .agg #[.int .i64 ri, .int .i64 fa, .slice va L.length vc], .int .i64 1048576, .int .i64 q, .int .i64 q, .bool (decide (q < 0)), .tuple #[.agg #[.int .i64 R, .int .i64 F, .slice aA M.length cA], .bool chg, .bool ok], .agg #[.int .i64 ri, .int .i64 fa, .slice va L.length vc], .agg #[.int .i64 ri, .int .i64 fa, .slice (some ⟨gA, 0, none⟩) L.length L.length], .agg #[.int .i64 n, .bool fi], .agg #[.int .i64 n, .bool fi], .tuple #[.agg #[.int .i64 R, .int .i64 F, .slice aA M.length cA], .bool chg, .bool ok], .agg #[.int .i64 R, .int .i64 F, .slice aA M.length cA], .bool chg, .bool ok, .agg #[.int .i64 ri, .int .i64 fa, .slice va L.length vc], .agg #[.int .i64 ri, .int .i64 fa, .slice (some ⟨g3, 0, none⟩) L.length L.length], .tuple #[.agg #[.int .i64 R, .int .i64 F, .slice aB M.length cB], .bool chg, .bool ok], .agg #[.int .i64 ri, .int .i64 fa, .slice (some ⟨g3, 0, none⟩) L.length L.length], .agg #[.int .i64 n, .bool fi], .agg #[.int .i64 n, .bool fi], .tuple #[.agg #[.int .i64 R, .int .i64 F, .slice aB M.length cB], .bool chg, .bool ok], .agg #[.int .i64 R, .int .i64 F, .slice aB M.length cB], .bool chg, .bool ok, undef, undef, undef, undef, undef, undef, undef, undef, undef, undef, undef, undef, undef, undef, undef, undef, undef, undef, undef, undef, undef, undef, undef, undef, undef, undef, undef, undef, undef, undef, undef, undef, undef, undef, undef, undef, undef, undef, undef, undef, undef, undef, undef, undef, undef, undef, undef, undef, undef, undef, undef, undef, undef, undef, undef, undef, undef, undef, undef, undef, undef, undef, undef, undef, undef, undef, undef, undef, undef, undef, undef, undef, undef, undef, undef, undef, undef, undef, undef, undef, undef, undef], defers := [] } ∧ cB ≤ maxLen ∧ w4.heap.size ≤ gXB ∧ W.heap[gXB]? = some (.cells #[.int .i64 R, .int .i64 F, .slice aB M.length cB] 26) ∧ OwnH W w4.heap.size (.slice aB M.length cB) M ∧ (Value.slice aB M.length cB).ownBlock ≠ some gXB ∧ Below w4.heap.size w4 W) ?_ ?_
      rotate_left
      · refine wp_region_held_drew (S := fun W : World => Below w4.heap.size w4 W) (by kernel_rfl) hSXB (fun hHeld => ?_)
        generalize w4.drew = wXB at *
        refine wpAnyH_take (i := 0) (v := .agg #[.int .i64 ri, .int .i64 fa, .slice (some ⟨g3, 0, none⟩) L.length L.length]) rfl (by kernel_rfl) (by kernel_rfl) (by kernel_rfl) (fun _ _ _ h => (by cases h.1)) (Or.inl ⟨by rfl, ?_⟩) (by assumption) ?_
        · intro W hSW
          obtain ⟨b0, b1, b2⟩ := HXXB.out W hSW
          go_simp
        simp only [Act.put, List.getElem_toArray, List.getElem_cons_zero, List.setIfInBounds_toArray, List.set_cons_succ, List.set_cons_zero]
        refine wpAnyH_take (i := 1) (v := .agg #[.int .i64 n, .bool fi]) rfl (by kernel_rfl) (by kernel_rfl) (by kernel_rfl) (fun _ _ _ h => (by cases h.1)) (Or.inl ⟨by rfl, ?_⟩) (by assumption) ?_
        · intro W hSW
          obtain ⟨⟨b0, b1, b2⟩, ⟨b3, b4⟩⟩ := HXCB.out W hSW
          go_simp
        simp only [Act.put, List.getElem_toArray, List.getElem_cons_succ, List.getElem_cons_zero, List.setIfInBounds_toArray, List.set_cons_succ, List.set_cons_zero]
        have hSwXB := hSXB
        have hqwXB := HQXB.out _ hSXB
        refine wpAnyH_ready (rs := [2, 8]) (by kernel_rfl) (by simp) ?_
        refine AllReadyH.cons rfl (fun K hK => ?_) (AllReadyH.cons rfl (fun K hK => ?_) AllReadyH.nil)
        · rw [if_pos (by rfl)]
          go_simp
          refine (HTP.out _).mono ?_
          rintro e v33 ⟨rfl, hbv33⟩
          go_simp
          have hqv33 := hqwXB.kept hbv33
          have hSv33 := HTSB.out _ _ hSwXB hbv33
          have hszbv33 := hbv33.size
          have hszXwXB := hSwXB.size
          refine hK.out _ _ hSv33 (fun hSS => ?_)
          clear hK
          refine wpAnyH_ready (rs := [3, 8]) (by kernel_rfl) (by simp) ?_
          refine AllReadyH.cons rfl (fun K hK => ?_) (AllReadyH.cons rfl (fun K hK => ?_) AllReadyH.nil)
          · rw [if_pos (by rfl)]
            go_simp
            refine (HI.out g3 _ (hE.below (HBWB.out _ hSv33)) hqv33).mono ?_
            rintro e v34 ⟨⟨uB, rfl, hov34⟩, hbv34⟩
            obtain ⟨aB, cB, huB, hcmB⟩ := hov34.shape
            subst huB
            go_simp
            have hSv34 := HTSB.out _ _ hSv33 hbv34
            have hszbv34 := hbv34.size
            have hszXv33 := hSv33.size
            have hov34 := OwnH.base hov34 (show w4.heap.size ≤ v33.heap.size by omega)
            refine hK.out _ _ hSv34 (fun hSS => ?_)
            clear hK
            refine wpAnyH_take (i := 4) (v := .tuple #[.agg #[.int .i64 R, .int .i64 F, .slice aB M.length cB], .bool chg, .bool ok]) rfl (by kernel_rfl) (by kernel_rfl) (by kernel_rfl) (fun _ _ _ h => (by cases h.1)) (Or.inl ⟨by rfl, ?_⟩) (by assumption) ?_
            · intro W hSW
              go_simp
            simp only [Act.put, List.getElem_toArray, List.getElem_cons_succ, List.getElem_cons_zero, List.setIfInBounds_toArray, List.set_cons_succ, List.set_cons_zero]
            refine wpAnyH_take (i := 5) (v := .agg #[.int .i64 R, .int .i64 F, .slice aB M.length cB]) rfl (by kernel_rfl) (by kernel_rfl) (by kernel_rfl) (fun _ _ _ h => (by cases h.1)) (Or.inl ⟨by rfl, ?_⟩) (by assumption) ?_
            · intro W hSW
              go_simp
            simp only [Act.put, List.getElem_toArray, List.getElem_cons_succ, List.getElem_cons_zero, List.setIfInBounds_toArray, List.set_cons_succ, List.set_cons_zero]
            refine wpAnyH_take (i := 6) (v := .bool chg) rfl (by kernel_rfl) (by kernel_rfl) (by kernel_rfl) (fun _ _ _ h => (by cases h.1)) (Or.inl ⟨by rfl, ?_⟩) (by assumption) ?_
            · intro W hSW
              go_simp
            simp only [Act.put, List.getElem_toArray, List.getElem_cons_succ, List.getElem_cons_zero, List.setIfInBounds_toArray, List.set_cons_succ, List.set_cons_zero]
            refine wpAnyH_take (i := 7) (v := .bool ok) rfl (by kernel_rfl) (by kernel_rfl) (by kernel_rfl) (fun _ _ _ h => (by cases h.1)) (Or.inl ⟨by rfl, ?_⟩) (by assumption) ?_
            · intro W hSW
              go_simp
            simp only [Act.put, List.getElem_toArray, List.getElem_cons_succ, List.getElem_cons_zero, List.setIfInBounds_toArray, List.set_cons_succ, List.set_cons_zero]
            refine wpAnyH_ready (rs := [8]) (by kernel_rfl) (by simp) ?_
            refine AllReadyH.cons rfl (fun K hK => ?_) AllReadyH.nil
            rw [if_pos (by rfl)]
            go_simp
            have hSA : Below w4.heap.size w4 (v34.alloc (.cells #[.int .i64 0, .int .i64 0, .slice none 0 0] 26)) := hSv34.alloc hSv34.size _
            refine hK.out _ _ hSA (fun hSS => ?_)
            clear hK
            refine wpAnyH_ready (rs := [9]) (by kernel_rfl) (by simp) ?_
            refine AllReadyH.cons rfl (fun K hK => ?_) AllReadyH.nil
            rw [if_pos (by rfl)]
            have hSF : Below w4.heap.size w4 (v34.alloc (.cells #[.int .i64 R, .int .i64 F, .slice aB M.length cB] 26)) := hSv34.alloc hSv34.size _
            have hbF : Below v34.heap.size v34 (v34.alloc (.cells #[.int .i64 R, .int .i64 F, .slice aB M.length cB] 26)) := (Below.refl _ _).alloc (Nat.le_refl _) _
            have hF : (v34.alloc (.cells #[.int .i64 R, .int .i64 F, .slice aB M.length cB] 26)).heap[v34.heap.size]? = some (.cells #[.int .i64 R, .int .i64 F, .slice aB M.length cB] 26) := hst_new _ _
            have hOF := hov34.kept hbF
            have hneF : (Value.slice aB M.length cB).ownBlock ≠ some v34.heap.size := fun h => by have := (hov34.lt _ h).2; omega
            have hszF := hSv34.size
            go_simp
            refine hK.out _ _ hSF (fun hSS => ?_)
            clear hK
            refine wpAnyH_take (i := 10) (v := .bool chg) rfl (by kernel_rfl) (by kernel_rfl) (by kernel_rfl) (fun _ _ _ h => (by cases h.1)) (Or.inl ⟨by rfl, ?_⟩) (by assumption) ?_
            · intro W hSW
              go_simp
            simp only [Act.put, List.getElem_toArray, List.getElem_cons_succ, List.getElem_cons_zero, List.setIfInBounds_toArray, List.set_cons_succ, List.set_cons_zero]
            refine wpAnyH_take (i := 11) (v := .bool ok) rfl (by kernel_rfl) (by kernel_rfl) (by kernel_rfl) (fun _ _ _ h => (by cases h.1)) (Or.inl ⟨by rfl, ?_⟩) (by assumption) ?_
            · intro W hSW
              go_simp
            simp only [Act.put, List.getElem_toArray, List.getElem_cons_succ, List.getElem_cons_zero, List.setIfInBounds_toArray, List.set_cons_succ, List.set_cons_zero]
            refine wpAnyH_done (by kernel_rfl) ?_ _
            exact ⟨rfl, aB, cB, v34.heap.size, rfl, hcmB, by omega, hF, hOF, hneF, hSF⟩
          · rw [if_pos (by rfl)]
            go_simp
            have hSv35 : Below w4.heap.size w4 (v33.alloc (.cells #[.int .i64 0, .int .i64 0, .slice none 0 0] 26)) := hSv33.alloc hSv33.size _
            refine hK.out _ _ hSv35 (fun hSS => ?_)
            clear hK
            obtain ⟨gXB, hgXe⟩ : ∃ g, g = v33.heap.size := ⟨_, rfl⟩
            have hqAv35 : (v33.alloc (.cells #[.int .i64 0, .int .i64 0, .slice none 0 0] 26)).heap[gXB]? = some (.cells #[.int .i64 0, .int .i64 0, .slice none 0 0] 26) := by rw [hgXe]; exact hst_new _ _
            have hbv35 : Below v33.heap.size v33 (v33.alloc (.cells #[.int .i64 0, .int .i64 0, .slice none 0 0] 26)) := (Below.refl _ _).alloc (Nat.le_refl _) _
            have hlAv35 : gXB < (v33.alloc (.cells #[.int .i64 0, .int .i64 0, .slice none 0 0] 26)).heap.size := by rw [hgXe]; simp
            have hszSv33 := hSv33.size
            have hqv35 := hqv33.kept hbv35
            rw [← hgXe]
            have hgX1 : v33.heap.size ≤ gXB := by omega
            clear hgXe
            generalize v33.alloc (.cells #[.int .i64 0, .int .i64 0, .slice none 0 0] 26) = v35 at *
            refine wpAnyH_ready (rs := [3]) (by kernel_rfl) (by simp) ?_
            refine AllReadyH.cons rfl (fun K hK => ?_) AllReadyH.nil
            · rw [if_pos (by rfl)]
              go_simp
              refine (HI.out g3 _ (hE.below (HBWB.out _ hSv35)) hqv35).mono ?_
              rintro e v36 ⟨⟨uB, rfl, hov36⟩, hbv36⟩
              obtain ⟨aB, cB, huB, hcmB⟩ := hov36.shape
              subst huB
              go_simp
              have hSv36 := HTSB.out _ _ hSv35 hbv36
              have hszbv36 := hbv36.size
              have hszXv35 := hSv35.size
              have hqAv36 : v36.heap[gXB]? = some (.cells #[.int .i64 0, .int .i64 0, .slice none 0 0] 26) := (hbv36.block gXB hlAv35).trans hqAv35
              have hlAv36 : gXB < v36.heap.size := Nat.lt_of_lt_of_le hlAv35 hbv36.size
              have hneB : (Value.slice aB M.length cB).ownBlock ≠ some gXB := fun h => by have := (hov36.lt _ h).1; omega
              have hov36 := OwnH.base hov36 (show w4.heap.size ≤ v35.heap.size by omega)
              refine hK.out _ _ hSv36 (fun hSS => ?_)
              clear hK
              refine wpAnyH_take (i := 4) (v := .tuple #[.agg #[.int .i64 R, .int .i64 F, .slice aB M.length cB], .bool chg, .bool ok]) rfl (by kernel_rfl) (by kernel_rfl) (by kernel_rfl) (fun _ _ _ h => (by cases h.1)) (Or.inl ⟨by rfl, ?_⟩) (by assumption) ?_
              · intro W hSW
                go_simp
              simp only [Act.put, List.getElem_toArray, List.getElem_cons_succ, List.getElem_cons_zero, List.setIfInBounds_toArray, List.set_cons_succ, List.set_cons_zero]
              refine wpAnyH_take (i := 5) (v := .agg #[.int .i64 R, .int .i64 F, .slice aB M.length cB]) rfl (by kernel_rfl) (by kernel_rfl) (by kernel_rfl) (fun _ _ _ h => (by cases h.1)) (Or.inl ⟨by rfl, ?_⟩) (by assumption) ?_
              · intro W hSW
                go_simp
              simp only [Act.put, List.getElem_toArray, List.getElem_cons_succ, List.getElem_cons_zero, List.setIfInBounds_toArray, List.set_cons_succ, List.set_cons_zero]
              refine wpAnyH_take (i := 6) (v := .bool chg) rfl (by kernel_rfl) (by kernel_rfl) (by kernel_rfl) (fun _ _ _ h => (by cases h.1)) (Or.inl ⟨by rfl, ?_⟩) (by assumption) ?_
              · intro W hSW
                go_simp
              simp only [Act.put, List.getElem_toArray, List.getElem_cons_succ, List.getElem_cons_zero, List.setIfInBounds_toArray, List.set_cons_succ, List.set_cons_zero]
              refine wpAnyH_take (i := 7) (v := .bool ok) rfl (by kernel_rfl) (by kernel_rfl) (by kernel_rfl) (fun _ _ _ h => (by cases h.1)) (Or.inl ⟨by rfl, ?_⟩) (by assumption) ?_
              · intro W hSW
                go_simp
              simp only [Act.put, List.getElem_toArray, List.getElem_cons_succ, List.getElem_cons_zero, List.setIfInBounds_toArray, List.set_cons_succ, List.set_cons_zero]
              refine wpAnyH_ready (rs := [9]) (by kernel_rfl) (by simp) ?_
              refine AllReadyH.cons rfl (fun K hK => ?_) AllReadyH.nil
              rw [if_pos (by rfl)]
              obtain ⟨⟨r0, r1, r2⟩, ⟨f0, f1, f2⟩⟩ := hst_cells hqAv36
              have hSF := put3h_below hSv36 (g := gXB) (by omega) (.int .i64 R) (.int .i64 F) (.slice aB M.length cB)
              have hF := put3h_heap (v0 := .int .i64 R) (v1 := .int .i64 F) (v2 := .slice aB M.length cB) hqAv36
              have hOF := OwnH.kpt hov36 (kpt_put3h v36 gXB (.int .i64 R) (.int .i64 F) (.slice aB M.length cB)) (fun g hg e => hneB (by rw [← e]; exact hg))
              go_simp
              unfold put3h at hSF hF hOF
              refine hK.out _ _ hSF (fun hSS => ?_)
              clear hK r0 r1 r2 f0 f1 f2
              refine wpAnyH_take (i := 10) (v := .bool chg) rfl (by kernel_rfl) (by kernel_rfl) (by kernel_rfl) (fun _ _ _ h => (by cases h.1)) (Or.inl ⟨by rfl, ?_⟩) (by assumption) ?_
              · intro W hSW
                go_simp
              simp only [Act.put, List.getElem_toArray, List.getElem_cons_succ, List.getElem_cons_zero, List.setIfInBounds_toArray, List.set_cons_succ, List.set_cons_zero]
              refine wpAnyH_take (i := 11) (v := .bool ok) rfl (by kernel_rfl) (by kernel_rfl) (by kernel_rfl) (fun _ _ _ h => (by cases h.1)) (Or.inl ⟨by rfl, ?_⟩) (by assumption) ?_
              · intro W hSW
                go_simp
              simp only [Act.put, List.getElem_toArray, List.getElem_cons_succ, List.getElem_cons_zero, List.setIfInBounds_toArray, List.set_cons_succ, List.set_cons_zero]
              refine wpAnyH_done (by kernel_rfl) ?_ _
              exact ⟨rfl, aB, cB, gXB, rfl, hcmB, by omega, hF, hOF, hneB, hSF⟩
        · rw [if_pos (by rfl)]
          go_simp
          have hSv37 : Below w4.heap.size w4 (wXB.alloc (.cells #[.int .i64 0, .int .i64 0, .slice none 0 0] 26)) := hSwXB.alloc hSwXB.size _
          refine hK.out _ _ hSv37 (fun hSS => ?_)
          clear hK
          obtain ⟨gXB, hgXe⟩ : ∃ g, g = wXB.heap.size := ⟨_, rfl⟩
          have hqAv37 : (wXB.alloc (.cells #[.int .i64 0, .int .i64 0, .slice none 0 0] 26)).heap[gXB]? = some (.cells #[.int .i64 0, .int .i64 0, .slice none 0 0] 26) := by rw [hgXe]; exact hst_new _ _
          have hbv37 : Below wXB.heap.size wXB (wXB.alloc (.cells #[.int .i64 0, .int .i64 0, .slice none 0 0] 26)) := (Below.refl _ _).alloc (Nat.le_refl _) _
          have hlAv37 : gXB < (wXB.alloc (.cells #[.int .i64 0, .int .i64 0, .slice none 0 0] 26)).heap.size := by rw [hgXe]; simp
          have hszSwXB := hSwXB.size
          have hqv37 := hqwXB.kept hbv37
          rw [← hgXe]
          have hgX1 : wXB.heap.size ≤ gXB := by omega
          clear hgXe
          generalize wXB.alloc (.cells #[.int .i64 0, .int .i64 0, .slice none 0 0] 26) = v37 at *
          refine wpAnyH_ready (rs := [2]) (by kernel_rfl) (by simp) ?_
          refine AllReadyH.cons rfl (fun K hK => ?_) AllReadyH.nil
          · rw [if_pos (by rfl)]
            go_simp
            refine (HTP.out _).mono ?_
            rintro e v38 ⟨rfl, hbv38⟩
            go_simp
            have hqv38 := hqv37.kept hbv38
            have hSv38 := HTSB.out _ _ hSv37 hbv38
            have hszbv38 := hbv38.size
            have hszXv37 := hSv37.size
            have hqAv38 : v38.heap[gXB]? = some (.cells #[.int .i64 0, .int .i64 0, .slice none 0 0] 26) := (hbv38.block gXB hlAv37).trans hqAv37
            have hlAv38 : gXB < v38.heap.size := Nat.lt_of_lt_of_le hlAv37 hbv38.size
            refine hK.out _ _ hSv38 (fun hSS => ?_)
            clear hK
            refine wpAnyH_ready (rs := [3]) (by kernel_rfl) (by simp) ?_
            refine AllReadyH.cons rfl (fun K hK => ?_) AllReadyH.nil
            · rw [if_pos (by rfl)]
              go_simp
              refine (HI.out g3 _ (hE.below (HBWB.out _ hSv38)) hqv38).mono ?_
              rintro e v39 ⟨⟨uB, rfl, hov39⟩, hbv39⟩
              obtain ⟨aB, cB, huB, hcmB⟩ := hov39.shape
              subst huB
              go_simp
              have hSv39 := HTSB.out _ _ hSv38 hbv39
              have hszbv39 := hbv39.size
              have hszXv38 := hSv38.size
              have hqAv39 : v39.heap[gXB]? = some (.cells #[.int .i64 0, .int .i64 0, .slice none 0 0] 26) := (hbv39.block gXB hlAv38).trans hqAv38
              have hlAv39 : gXB < v39.heap.size := Nat.lt_of_lt_of_le hlAv38 hbv39.size
              have hneB : (Value.slice aB M.length cB).ownBlock ≠ some gXB := fun h => by have := (hov39.lt _ h).1; omega
              have hov39 := OwnH.base hov39 (show w4.heap.size ≤ v38.heap.size by omega)
              refine hK.out _ _ hSv39 (fun hSS => ?_)
              clear hK
              refine wpAnyH_take (i := 4) (v := .tuple #[.agg #[.int .i64 R, .int .i64 F, .slice aB M.length cB], .bool chg, .bool ok]) rfl (by kernel_rfl) (by kernel_rfl) (by kernel_rfl) (fun _ _ _ h => (by cases h.1)) (Or.inl ⟨by rfl, ?_⟩) (by assumption) ?_
              · intro W hSW
                go_simp
              simp only [Act.put, List.getElem_toArray, List.getElem_cons_succ, List.getElem_cons_zero, List.setIfInBounds_toArray, List.set_cons_succ, List.set_cons_zero]
              refine wpAnyH_take (i := 5) (v := .agg #[.int .i64 R, .int .i64 F, .slice aB M.length cB]) rfl (by kernel_rfl) (by kernel_rfl) (by kernel_rfl) (fun _ _ _ h => (by cases h.1)) (Or.inl ⟨by rfl, ?_⟩) (by assumption) ?_
              · intro W hSW
                go_simp
              simp only [Act.put, List.getElem_toArray, List.getElem_cons_succ, List.getElem_cons_zero, List.setIfInBounds_toArray, List.set_cons_succ, List.set_cons_zero]
              refine wpAnyH_take (i := 6) (v := .bool chg) rfl (by kernel_rfl) (by kernel_rfl) (by kernel_rfl) (fun _ _ _ h => (by cases h.1)) (Or.inl ⟨by rfl, ?_⟩) (by assumption) ?_
              · intro W hSW
                go_simp
              simp only [Act.put, List.getElem_toArray, List.getElem_cons_succ, List.getElem_cons_zero, List.setIfInBounds_toArray, List.set_cons_succ, List.set_cons_zero]
              refine wpAnyH_take (i := 7) (v := .bool ok) rfl (by kernel_rfl) (by kernel_rfl) (by kernel_rfl) (fun _ _ _ h => (by cases h.1)) (Or.inl ⟨by rfl, ?_⟩) (by assumption) ?_
              · intro W hSW
                go_simp
              simp only [Act.put, List.getElem_toArray, List.getElem_cons_succ, List.getElem_cons_zero, List.setIfInBounds_toArray, List.set_cons_succ, List.set_cons_zero]
              refine wpAnyH_ready (rs := [9]) (by kernel_rfl) (by simp) ?_
              refine AllReadyH.cons rfl (fun K hK => ?_) AllReadyH.nil
              rw [if_pos (by rfl)]
              obtain ⟨⟨r0, r1, r2⟩, ⟨f0, f1, f2⟩⟩ := hst_cells hqAv39
              have hSF := put3h_below hSv39 (g := gXB) (by omega) (.int .i64 R) (.int .i64 F) (.slice aB M.length cB)
              have hF := put3h_heap (v0 := .int .i64 R) (v1 := .int .i64 F) (v2 := .slice aB M.length cB) hqAv39
              have hOF := OwnH.kpt hov39 (kpt_put3h v39 gXB (.int .i64 R) (.int .i64 F) (.slice aB M.length cB)) (fun g hg e => hneB (by rw [← e]; exact hg))
              go_simp
              unfold put3h at hSF hF hOF
              refine hK.out _ _ hSF (fun hSS => ?_)
              clear hK r0 r1 r2 f0 f1 f2
              refine wpAnyH_take (i := 10) (v := .bool chg) rfl (by kernel_rfl) (by kernel_rfl) (by kernel_rfl) (fun _ _ _ h => (by cases h.1)) (Or.inl ⟨by rfl, ?_⟩) (by assumption) ?_
              · intro W hSW
                go_simp
              simp only [Act.put, List.getElem_toArray, List.getElem_cons_succ, List.getElem_cons_zero, List.setIfInBounds_toArray, List.set_cons_succ, List.set_cons_zero]
              refine wpAnyH_take (i := 11) (v := .bool ok) rfl (by kernel_rfl) (by kernel_rfl) (by kernel_rfl) (fun _ _ _ h => (by cases h.1)) (Or.inl ⟨by rfl, ?_⟩) (by assumption) ?_
              · intro W hSW
                go_simp
              simp only [Act.put, List.getElem_toArray, List.getElem_cons_succ, List.getElem_cons_zero, List.setIfInBounds_toArray, List.set_cons_succ, List.set_cons_zero]
              refine wpAnyH_done (by kernel_rfl) ?_ _
              exact ⟨rfl, aB, cB, gXB, rfl, hcmB, by omega, hF, hOF, hneB, hSF⟩
      · rintro e a wB ⟨rfl, aB, cB, gXB, rfl, hcmB, hgXB, hbxB, hoB, hneB, hSB⟩
        have hlXB : gXB < wB.heap.size := (Array.getElem?_eq_some_iff.1 hbxB).1
        have HL2 : Hid (∀ k, (Value.slice aB M.length cB).ownBlock = some k → w4.heap.size ≤ k ∧ k < wB.heap.size) := fun k h => hoB.lt k h
        have HNE : Hid ((Value.slice aB M.length cB).ownBlock ≠ some gXB) := hneB
        have hbwwB : Below w.heap.size w wB := hbww4.trans (hSB.mono hbww4.size)
        have hzwB : w4.heap.size ≤ wB.heap.size := hSB.size
        have BH_wB : Hid (wB.heap[w.heap.size]? = some (.cells #[.int .i64 ri, .int .i64 fa, .slice va L.length vc] 36)) := (hSB.block w.heap.size (by omega)).trans BH_w4.out
        have BP_wB : Hid (wB.heap[(w.heap.size + 1)]? = some (.cells #[.int .i64 n, .bool fi] 42)) := (hSB.block (w.heap.size + 1) (by omega)).trans BP_w4.out
        have B6_wB : Hid (wB.heap[gXA]? = some (.cells #[.int .i64 R, .int .i64 F, .slice aA M.length cA] 26)) := (hSB.block gXA (by omega)).trans B6_w4.out
        have OA_wB : Hid (OwnH wB w1.heap.size (.slice aA M.length cA) M) := OA_w4.out.kept hSB
        have B9_wB : Hid (wB.heap[w3.heap.size]? = some (.cells #[.int .i64 ri, .int .i64 fa, .slice (some ⟨g3, 0, none⟩) L.length L.length] 26)) := (hSB.block w3.heap.size (by omega)).trans B9_w4.out
        have QX_wB : Hid (HoRow wB g3 L) := QX_w4.out.kept hSB
        clear BH_w4 BP_w4 B6_w4 OA_w4 B9_w4 QX_w4 hSB 
        have B1_wB : Hid (wB.heap[gXB]? = some (.cells #[.int .i64 R, .int .i64 F, .slice aB M.length cB] 26)) := hbxB
        have HO_wB : Hid (OwnH wB w4.heap.size (.slice aB M.length cB) M) := hoB
        clear hbxB hoB hneB HXCB HBWB HTSB hSXB HXXB HQXB HW4
        obtain ⟨⟨d0, d1, d2⟩, _⟩ := hst_cells B6_wB.out
        obtain ⟨⟨f0, f1, f2⟩, _⟩ := hst_cells B1_wB.out
        go_wp2_with fail
        refine (HEQ.out _ _ _ HO_wB.out.row OA_wB.out.row).mono ?_
        rintro e w6 ⟨rfl, hb6⟩
        clear d0 d1 d2 f0 f1 f2
        have hbww6 : Below w.heap.size w w6 := hbwwB.trans (hb6.mono hbwwB.size)
        have hzw6 : wB.heap.size ≤ w6.heap.size := hb6.size
        have BH_w6 : Hid (w6.heap[w.heap.size]? = some (.cells #[.int .i64 ri, .int .i64 fa, .slice va L.length vc] 36)) := (hb6.block w.heap.size (by omega)).trans BH_wB.out
        have BP_w6 : Hid (w6.heap[(w.heap.size + 1)]? = some (.cells #[.int .i64 n, .bool fi] 42)) := (hb6.block (w.heap.size + 1) (by omega)).trans BP_wB.out
        have B6_w6 : Hid (w6.heap[gXA]? = some (.cells #[.int .i64 R, .int .i64 F, .slice aA M.length cA] 26)) := (hb6.block gXA (by omega)).trans B6_wB.out
        have OA_w6 : Hid (OwnH w6 w1.heap.size (.slice aA M.length cA) M) := OA_wB.out.kept hb6
        have B9_w6 : Hid (w6.heap[w3.heap.size]? = some (.cells #[.int .i64 ri, .int .i64 fa, .slice (some ⟨g3, 0, none⟩) L.length L.length] 26)) := (hb6.block w3.heap.size (by omega)).trans B9_wB.out
        have QX_w6 : Hid (HoRow w6 g3 L) := QX_wB.out.kept hb6
        have B1_w6 : Hid (w6.heap[gXB]? = some (.cells #[.int .i64 R, .int .i64 F, .slice aB M.length cB] 26)) := (hb6.block gXB (by omega)).trans B1_wB.out
        have HO_w6 : Hid (OwnH w6 w4.heap.size (.slice aB M.length cB) M) := HO_wB.out.kept hb6
        clear BH_wB BP_wB B6_wB OA_wB B9_wB QX_wB B1_wB HO_wB hb6 
        have HC : Hid (∀ W, Below w6.heap.size w6 W → (W.cell? ⟨w.heap.size, 0, none⟩ = some (.int .i64 ri) ∧ W.cell? ⟨w.heap.size, 1, none⟩ = some (.int .i64 fa) ∧ W.cell? ⟨w.heap.size, 2, none⟩ = some (.slice va L.length vc)) ∧ (W.cell? ⟨w3.heap.size, 0, none⟩ = some (.int .i64 ri) ∧ W.cell? ⟨w3.heap.size, 1, none⟩ = some (.int .i64 fa) ∧ W.cell? ⟨w3.heap.size, 2, none⟩ = some (.slice (some ⟨g3, 0, none⟩) L.length L.length)) ∧ Below w6.heap.size w6 W) := fun W hW => ⟨(hst_cells ((hW.block w.heap.size (by omega)).trans BH_w6.out)).1, (hst_cells ((hW.block w3.heap.size (by omega)).trans B9_w6.out)).1, hW⟩
        have HT6 : Hid (∀ W, Below w6.heap.size w6 W → Calls Tryd.prog 21 #[.agg #[.int .i64 ri, .int .i64 fa, .slice va L.length vc]] W fun e w' => (∃ g, e = .returned (.agg #[.int .i64 ri, .int .i64 fa, .slice (some ⟨g, 0, none⟩) L.length L.length]) ∧ W.heap.size ≤ g ∧ HoRow w' g L) ∧ Below W.heap.size W w') := fun W hW => HTO.out W (hbww6.trans (hW.mono hbww6.size))
        have HE6 : Hid (∀ g W, Below w6.heap.size w6 W → HoRow W g L → Calls Tryd.prog 14 #[.agg #[.int .i64 ri, .int .i64 fa, .slice (some ⟨g3, 0, none⟩) L.length L.length], .agg #[.int .i64 ri, .int .i64 fa, .slice (some ⟨g, 0, none⟩) L.length L.length]] W fun e w' => e = .returned (.bool true) ∧ Below W.heap.size W w') := fun g W hW h1 => HEX.out g3 g W (QX_w6.out.kept hW) h1
        have HTRN : Hid (∀ W W', Below w6.heap.size w6 W → Below W.heap.size W W' → Below w6.heap.size w6 W') := fun W W' h1 h2 => h1.trans (h2.mono h1.size)
        have hbz : Below w6.heap.size w6 w6 := Below.refl _ _
        have hbd : Below w6.heap.size w6 w6.drew := (Below.refl _ _).drew
        go_wp2_with fail
        go_region_held3 (fun W => (W.cell? ⟨w.heap.size, 0, none⟩ = some (.int .i64 ri) ∧ W.cell? ⟨w.heap.size, 1, none⟩ = some (.int .i64 fa) ∧ W.cell? ⟨w.heap.size, 2, none⟩ = some (.slice va L.length vc)) ∧ (W.cell? ⟨w3.heap.size, 0, none⟩ = some (.int .i64 ri) ∧ W.cell? ⟨w3.heap.size, 1, none⟩ = some (.int .i64 fa) ∧ W.cell? ⟨w3.heap.size, 2, none⟩ = some (.slice (some ⟨g3, 0, none⟩) L.length L.length)) ∧ Below w6.heap.size w6 W) (first | exact HC.out _ (by assumption) | exact HC.out _ (Below.drew (by assumption)))
          (first
          | (go_at_call 21; refine (HT6.out _ (by assumption)).mono ?_; rintro e w7 ⟨⟨g5, rfl, _, hqa6⟩, hb7⟩; have hb67 := HTRN.out _ _ (by assumption) hb7)
          | (go_at_call 14; refine (HE6.out _ _ (by assumption) (by assumption)).mono ?_; rintro e w8 ⟨rfl, hb8⟩; have hb68 := HTRN.out _ _ (by assumption) hb8))
        clear hb8 HC HT6 HE6 HTRN hbz hbd
        (try clear hb7 hb67 hqa6)
        have hbww8 : Below w.heap.size w w8 := hbww6.trans (hb68.mono hbww6.size)
        have hzw8 : w6.heap.size ≤ w8.heap.size := hb68.size
        have BH_w8 : Hid (w8.heap[w.heap.size]? = some (.cells #[.int .i64 ri, .int .i64 fa, .slice va L.length vc] 36)) := (hb68.block w.heap.size (by omega)).trans BH_w6.out
        have BP_w8 : Hid (w8.heap[(w.heap.size + 1)]? = some (.cells #[.int .i64 n, .bool fi] 42)) := (hb68.block (w.heap.size + 1) (by omega)).trans BP_w6.out
        have B6_w8 : Hid (w8.heap[gXA]? = some (.cells #[.int .i64 R, .int .i64 F, .slice aA M.length cA] 26)) := (hb68.block gXA (by omega)).trans B6_w6.out
        have OA_w8 : Hid (OwnH w8 w1.heap.size (.slice aA M.length cA) M) := OA_w6.out.kept hb68
        have B9_w8 : Hid (w8.heap[w3.heap.size]? = some (.cells #[.int .i64 ri, .int .i64 fa, .slice (some ⟨g3, 0, none⟩) L.length L.length] 26)) := (hb68.block w3.heap.size (by omega)).trans B9_w6.out
        have QX_w8 : Hid (HoRow w8 g3 L) := QX_w6.out.kept hb68
        have B1_w8 : Hid (w8.heap[gXB]? = some (.cells #[.int .i64 R, .int .i64 F, .slice aB M.length cB] 26)) := (hb68.block gXB (by omega)).trans B1_w6.out
        have HO_w8 : Hid (OwnH w8 w4.heap.size (.slice aB M.length cB) M) := HO_w6.out.kept hb68
        clear BH_w6 BP_w6 B6_w6 OA_w6 B9_w6 QX_w6 B1_w6 HO_w6 hb68 
        obtain ⟨⟨f0, f1, f2⟩, _⟩ := hst_cells B9_w8.out
        go_wp2_with fail
        refine (HMX.out g3 _ QX_w8.out).mono ?_
        rintro e w9 ⟨rfl, hk9⟩
        clear f0 f1 f2
        have hbww9 : Below w.heap.size w w9 := hbww8.trans (hk9.below hbww8.size (fun k hk0 h => by omega))
        have hzw9 : w8.heap.size ≤ w9.heap.size := hk9.size
        have BH_w9 : Hid (w9.heap[w.heap.size]? = some (.cells #[.int .i64 ri, .int .i64 fa, .slice va L.length vc] 36)) := (hk9.block w.heap.size (by omega) (fun h => by omega)).trans BH_w8.out
        have BP_w9 : Hid (w9.heap[(w.heap.size + 1)]? = some (.cells #[.int .i64 n, .bool fi] 42)) := (hk9.block (w.heap.size + 1) (by omega) (fun h => by omega)).trans BP_w8.out
        have B6_w9 : Hid (w9.heap[gXA]? = some (.cells #[.int .i64 R, .int .i64 F, .slice aA M.length cA] 26)) := (hk9.block gXA (by omega) (fun h => by omega)).trans B6_w8.out
        have OA_w9 : Hid (OwnH w9 w1.heap.size (.slice aA M.length cA) M) := OA_w8.out.kpt hk9 (fun g hg h => by have q := HL1.out g hg; omega)
        have B9_w9 : Hid (w9.heap[w3.heap.size]? = some (.cells #[.int .i64 ri, .int .i64 fa, .slice (some ⟨g3, 0, none⟩) L.length L.length] 26)) := (hk9.block w3.heap.size (by omega) (fun h => by omega)).trans B9_w8.out
        have B1_w9 : Hid (w9.heap[gXB]? = some (.cells #[.int .i64 R, .int .i64 F, .slice aB M.length cB] 26)) := (hk9.block gXB (by omega) (fun h => by omega)).trans B1_w8.out
        have HO_w9 : Hid (OwnH w9 w4.heap.size (.slice aB M.length cB) M) := HO_w8.out.kpt hk9 (fun g hg h => by have q := HL2.out g hg; omega)
        clear BH_w8 BP_w8 B6_w8 OA_w8 B9_w8 QX_w8 B1_w8 HO_w8 hk9
        obtain ⟨⟨d0, d1, d2⟩, _⟩ := hst_cells B6_w9.out
        obtain ⟨⟨f0, f1, f2⟩, _⟩ := hst_cells B1_w9.out
        go_wp2_with fail
        refine (HEQ.out _ _ _ HO_w9.out.row OA_w9.out.row).mono ?_
        rintro e w10 ⟨rfl, hb10⟩
        clear d0 d1 d2 f0 f1 f2
        have hbww10 : Below w.heap.size w w10 := hbww9.trans (hb10.mono hbww9.size)
        have hzw10 : w9.heap.size ≤ w10.heap.size := hb10.size
        have BH_w10 : Hid (w10.heap[w.heap.size]? = some (.cells #[.int .i64 ri, .int .i64 fa, .slice va L.length vc] 36)) := (hb10.block w.heap.size (by omega)).trans BH_w9.out
        have BP_w10 : Hid (w10.heap[(w.heap.size + 1)]? = some (.cells #[.int .i64 n, .bool fi] 42)) := (hb10.block (w.heap.size + 1) (by omega)).trans BP_w9.out
        have B6_w10 : Hid (w10.heap[gXA]? = some (.cells #[.int .i64 R, .int .i64 F, .slice aA M.length cA] 26)) := (hb10.block gXA (by omega)).trans B6_w9.out
        have OA_w10 : Hid (OwnH w10 w1.heap.size (.slice aA M.length cA) M) := OA_w9.out.kept hb10
        have B9_w10 : Hid (w10.heap[w3.heap.size]? = some (.cells #[.int .i64 ri, .int .i64 fa, .slice (some ⟨g3, 0, none⟩) L.length L.length] 26)) := (hb10.block w3.heap.size (by omega)).trans B9_w9.out
        have B1_w10 : Hid (w10.heap[gXB]? = some (.cells #[.int .i64 R, .int .i64 F, .slice aB M.length cB] 26)) := (hb10.block gXB (by omega)).trans B1_w9.out
        have HO_w10 : Hid (OwnH w10 w4.heap.size (.slice aB M.length cB) M) := HO_w9.out.kept hb10
        clear BH_w9 BP_w9 B6_w9 OA_w9 B9_w9 B1_w9 HO_w9 hb10 
        obtain ⟨⟨f0, f1, f2⟩, _⟩ := hst_cells B1_w10.out
        go_wp2_with fail
        refine (HMK.out _ _ _ HO_w10.out).mono ?_
        rintro e w11 ⟨rfl, ho11, hk11⟩
        clear f0 f1 f2
        have HM_w11 : Hid (OwnH w11 w4.heap.size (.slice aB M.length cB) (mrksH 1 M.length)) := ho11
        clear ho11
        have hbww11 : Below w.heap.size w w11 := hbww10.trans (hk11.below hbww10.size (fun k hk0 h => by have q2 := HL2.out _ h; omega))
        have hzw11 : w10.heap.size ≤ w11.heap.size := hk11.size
        have BH_w11 : Hid (w11.heap[w.heap.size]? = some (.cells #[.int .i64 ri, .int .i64 fa, .slice va L.length vc] 36)) := (hk11.block w.heap.size (by omega) (fun h => by have q2 := HL2.out _ h; omega)).trans BH_w10.out
        have BP_w11 : Hid (w11.heap[(w.heap.size + 1)]? = some (.cells #[.int .i64 n, .bool fi] 42)) := (hk11.block (w.heap.size + 1) (by omega) (fun h => by have q2 := HL2.out _ h; omega)).trans BP_w10.out
        have B6_w11 : Hid (w11.heap[gXA]? = some (.cells #[.int .i64 R, .int .i64 F, .slice aA M.length cA] 26)) := (hk11.block gXA (by omega) (fun h => by have q2 := HL2.out _ h; omega)).trans B6_w10.out
        have OA_w11 : Hid (OwnH w11 w1.heap.size (.slice aA M.length cA) M) := OA_w10.out.kpt hk11 (fun g hg h => by have q := HL1.out g hg; have q2 := HL2.out _ h; omega)
        have B9_w11 : Hid (w11.heap[w3.heap.size]? = some (.cells #[.int .i64 ri, .int .i64 fa, .slice (some ⟨g3, 0, none⟩) L.length L.length] 26)) := (hk11.block w3.heap.size (by omega) (fun h => by have q2 := HL2.out _ h; omega)).trans B9_w10.out
        have B1_w11 : Hid (w11.heap[gXB]? = some (.cells #[.int .i64 R, .int .i64 F, .slice aB M.length cB] 26)) := (hk11.block gXB (by omega) (fun h => HNE.out h)).trans B1_w10.out
        clear BH_w10 BP_w10 B6_w10 OA_w10 B9_w10 B1_w10 HO_w10 hk11
        obtain ⟨⟨f0, f1, f2⟩, _⟩ := hst_cells B1_w11.out
        go_wp2_with fail
        refine (HHD.out _ _ _ HM_w11.out).mono ?_
        rintro e w12 ⟨rfl, hb12⟩
        clear f0 f1 f2
        have hbww12 : Below w.heap.size w w12 := hbww11.trans (hb12.mono hbww11.size)
        have hzw12 : w11.heap.size ≤ w12.heap.size := hb12.size
        have BH_w12 : Hid (w12.heap[w.heap.size]? = some (.cells #[.int .i64 ri, .int .i64 fa, .slice va L.length vc] 36)) := (hb12.block w.heap.size (by omega)).trans BH_w11.out
        have BP_w12 : Hid (w12.heap[(w.heap.size + 1)]? = some (.cells #[.int .i64 n, .bool fi] 42)) := (hb12.block (w.heap.size + 1) (by omega)).trans BP_w11.out
        have B6_w12 : Hid (w12.heap[gXA]? = some (.cells #[.int .i64 R, .int .i64 F, .slice aA M.length cA] 26)) := (hb12.block gXA (by omega)).trans B6_w11.out
        have OA_w12 : Hid (OwnH w12 w1.heap.size (.slice aA M.length cA) M) := OA_w11.out.kept hb12
        have B9_w12 : Hid (w12.heap[w3.heap.size]? = some (.cells #[.int .i64 ri, .int .i64 fa, .slice (some ⟨g3, 0, none⟩) L.length L.length] 26)) := (hb12.block w3.heap.size (by omega)).trans B9_w11.out
        have B1_w12 : Hid (w12.heap[gXB]? = some (.cells #[.int .i64 R, .int .i64 F, .slice aB M.length cB] 26)) := (hb12.block gXB (by omega)).trans B1_w11.out
        have HM_w12 : Hid (OwnH w12 w4.heap.size (.slice aB M.length cB) (mrksH 1 M.length)) := HM_w11.out.kept hb12
        clear BH_w11 BP_w11 B6_w11 OA_w11 B9_w11 B1_w11 HM_w11 hb12 
        go_wp2_with fail
        have HXCC : Hid (∀ V, Below w12.heap.size w12 V → (V.cell? ⟨w.heap.size, 0, none⟩ = some (.int .i64 ri) ∧ V.cell? ⟨w.heap.size, 1, none⟩ = some (.int .i64 fa) ∧ V.cell? ⟨w.heap.size, 2, none⟩ = some (.slice va L.length vc)) ∧ (V.cell? ⟨w.heap.size + 1, 0, none⟩ = some (.int .i64 n) ∧ V.cell? ⟨w.heap.size + 1, 1, none⟩ = some (.bool fi))) := fun V hV => ⟨(hst_cells ((hV.block w.heap.size (by omega)).trans BH_w12.out)).1, prb_cells ((hV.block (w.heap.size + 1) (by omega)).trans BP_w12.out)⟩
        have HBWC : Hid (∀ V, Below w12.heap.size w12 V → Below w.heap.size w V) := fun V hV => hbww12.trans (hV.mono hbww12.size)
        have hSXC : Below w12.heap.size w12 w12.drew := (Below.refl _ _).drew
        have HTSC : Hid (∀ W W', Below w12.heap.size w12 W → Below W.heap.size W W' → Below w12.heap.size w12 W') := fun W W' h1 h2 => h1.trans (h2.mono h1.size)
        refine Code.wp_mono (Q := fun e a W => e = Exit.normal ∧ ∃ (gC : Nat) (aC : Option Addr) (cC gXC : Nat), a = { tmps := #[.agg #[.int .i64 ri, .int .i64 fa, .slice va L.length vc], .agg #[.int .i64 n, .bool fi], .pointer (some ⟨w.heap.size, 0, none⟩), .pointer (some ⟨w.heap.size + 1, 0, none⟩), .bool false, .int .i64 q, .pointer (some ⟨gXA, 0, none⟩), .bool chg, .bool ok, .pointer (some ⟨w3.heap.size, 0, none⟩), .pointer (some ⟨gXB, 0, none⟩), .bool chg, .bool ok, .int .i64 ps, .int .i64 p, .int .i64 p, .pointer (some ⟨gXC, 0, none⟩), .bool chg, .bool ok, .agg #[.int .i64 ri, .int .i64 fa, .slice va L.length vc], .int .i64 1048576, .int .i64 q, .int .i64 q, .bool (decide (q < 0)), .tuple #[.agg #[.int .i64 R, .int .i64 F, .slice aA M.length cA], .bool chg, .bool ok], .agg #[.int .i64 ri, .int .i64 fa, .slice va L.length vc], .agg #[.int .i64 ri, .int .i64 fa, .slice (some ⟨gA, 0, none⟩) L.length L.length], .agg #[.int .i64 n, .bool fi], .agg #[.int .i64 n, .bool fi], .tuple #[.agg #[.int .i64 R, .int .i64 F, .slice aA M.length cA], .bool chg, .bool ok], .agg #[.int .i64 R, .int .i64 F, .slice aA M.length cA], .bool chg, .bool ok, .agg #[.int .i64 ri, .int .i64 fa, .slice va L.length vc], .agg #[.int .i64 ri, .int .i64 fa, .slice (some ⟨g3, 0, none⟩) L.length L.length], .tuple #[.agg #[.int .i64 R, .int .i64 F, .slice aB M.length cB], .bool chg, .bool ok], .agg #[.int .i64 ri, .int .i64 fa, .slice (some ⟨g3, 0, none⟩) L.length L.length], .agg #[.int .i64 n, .bool fi], .agg #[.int .i64 n, .bool fi], .tuple #[.agg #[.int .i64 R, .int .i64 F, .slice aB M.length cB], .bool chg, .bool ok], .agg #[.int .i64 R, .int .i64 F, .slice aB M.length cB], .bool chg, .bool ok, .agg #[.int .i64 R, .int .i64 F, .slice aB M.length cB], .agg #[.int .i64 R, .int .i64 F, .slice aA M.length cA], .bool true, .bool false, .bool false, .bool chg, .bool chg, .bool false, .bool false, .bool false, .bool ok, .bool ok, .bool false, .bool false, .agg #[.int .i64 ri, .int .i64 fa, .slice (some ⟨g3, 0, none⟩) L.length L.length], .agg #[.int .i64 ri, .int .i64 fa, .slice va L.length vc], .agg #[.int .i64 ri, .int .i64 fa, .slice (some ⟨g5, 0, none⟩) L.length L.length], .bool true, .bool false, .agg #[.int .i64 ri, .int .i64 fa, .slice (some ⟨g3, 0, none⟩) L.length L.length], .int .i64 1, .int .i64 ps, .int .i64 ps, .bool false, .bool false, .agg #[.int .i64 R, .int .i64 F, .slice aB M.length cB], .agg #[.int .i64 R, .int .i64 F, .slice aA M.length cA], .bool true, .bool false, .bool false, .bool false, .bool chg, .bool chg, .bool false, .bool false, .bool false, .bool ok, .bool ok, .bool false, .bool false, .agg #[.int .i64 R, .int .i64 F, .slice aB M.length cB], .int .i64 1, .int .i64 p, .agg #[.int .i64 R, .int .i64 F, .slice aB M.length cB], .int .i64 1, .int .i64 p, .int .i64 p, .bool false, .int .i64 p, .int .i64 p, .bool false, .tuple #[.agg #[.int .i64 R, .int .i64 F, .slice aC M.length cC], .bool chg, .bool ok], .agg #[.int .i64 ri, .int .i64 fa, .slice va L.length vc], .agg #[.int .i64 ri, .int .i64 fa, .slice (some ⟨gC, 0, none⟩) L.length L.length], .agg #[.int .i64 n, .bool fi], .agg #[.int .i64 n, .bool fi], .tuple #[.agg #[.int .i64 R, .int .i64 F, .slice aC M.length cC], .bool chg, .bool ok], .agg #[.int .i64 R, .int .i64 F, .slice aC M.length cC], .bool chg, .bool ok, undef, undef, undef, undef, undef, undef, undef, undef, undef, undef, undef, undef, undef, undef, undef, undef, undef, undef, undef, undef, undef, undef], defers := [] } ∧ cC ≤ maxLen ∧ w12.heap.size ≤ gXC ∧ W.heap[gXC]? = some (.cells #[.int .i64 R, .int .i64 F, .slice aC M.length cC] 26) ∧ OwnH W w12.heap.size (.slice aC M.length cC) M ∧ (Value.slice aC M.length cC).ownBlock ≠ some gXC ∧ Below w12.heap.size w12 W) ?_ ?_
        rotate_left
        · refine wp_region_held_drew (S := fun W : World => Below w12.heap.size w12 W) (by kernel_rfl) hSXC (fun hHeld => ?_)
          generalize w12.drew = wXC at *
          refine wpAnyH_take (i := 0) (v := .agg #[.int .i64 ri, .int .i64 fa, .slice va L.length vc]) rfl (by kernel_rfl) (by kernel_rfl) (by kernel_rfl) (fun _ _ _ h => (by cases h.1)) (Or.inl ⟨by rfl, ?_⟩) (by assumption) ?_
          · intro W hSW
            obtain ⟨⟨b0, b1, b2⟩, ⟨b3, b4⟩⟩ := HXCC.out W hSW
            go_simp
          simp only [Act.put, List.getElem_toArray, List.getElem_cons_zero, List.setIfInBounds_toArray, List.set_cons_succ, List.set_cons_zero]
          refine wpAnyH_take (i := 2) (v := .agg #[.int .i64 n, .bool fi]) rfl (by kernel_rfl) (by kernel_rfl) (by kernel_rfl) (fun _ _ _ h => (by cases h.1)) (Or.inl ⟨by rfl, ?_⟩) (by assumption) ?_
          · intro W hSW
            obtain ⟨⟨b0, b1, b2⟩, ⟨b3, b4⟩⟩ := HXCC.out W hSW
            go_simp
          simp only [Act.put, List.getElem_toArray, List.getElem_cons_succ, List.getElem_cons_zero, List.setIfInBounds_toArray, List.set_cons_succ, List.set_cons_zero]
          have hSwXC := hSXC
          refine wpAnyH_ready (rs := [1, 9]) (by kernel_rfl) (by simp) ?_
          refine AllReadyH.cons rfl (fun K hK => ?_) (AllReadyH.cons rfl (fun K hK => ?_) AllReadyH.nil)
          · rw [if_pos (by rfl)]
            go_simp
            refine (HTO.out _ (HBWC.out _ hSwXC)).mono ?_
            rintro e v40 ⟨⟨gC, rfl, _, hqv40⟩, hbv40⟩
            go_simp
            have hSv40 := HTSC.out _ _ hSwXC hbv40
            have hszbv40 := hbv40.size
            have hszXwXC := hSwXC.size
            refine hK.out _ _ hSv40 (fun hSS => ?_)
            clear hK
            refine wpAnyH_ready (rs := [3, 9]) (by kernel_rfl) (by simp) ?_
            refine AllReadyH.cons rfl (fun K hK => ?_) (AllReadyH.cons rfl (fun K hK => ?_) AllReadyH.nil)
            · rw [if_pos (by rfl)]
              go_simp
              refine (HTP.out _).mono ?_
              rintro e v41 ⟨rfl, hbv41⟩
              go_simp
              have hqv41 := hqv40.kept hbv41
              have hSv41 := HTSC.out _ _ hSv40 hbv41
              have hszbv41 := hbv41.size
              have hszXv40 := hSv40.size
              refine hK.out _ _ hSv41 (fun hSS => ?_)
              clear hK
              refine wpAnyH_ready (rs := [4, 9]) (by kernel_rfl) (by simp) ?_
              refine AllReadyH.cons rfl (fun K hK => ?_) (AllReadyH.cons rfl (fun K hK => ?_) AllReadyH.nil)
              · rw [if_pos (by rfl)]
                go_simp
                refine (HI.out gC _ (hE.below (HBWC.out _ hSv41)) hqv41).mono ?_
                rintro e v42 ⟨⟨uC, rfl, hov42⟩, hbv42⟩
                obtain ⟨aC, cC, huC, hcmC⟩ := hov42.shape
                subst huC
                go_simp
                have hSv42 := HTSC.out _ _ hSv41 hbv42
                have hszbv42 := hbv42.size
                have hszXv41 := hSv41.size
                have hov42 := OwnH.base hov42 (show w12.heap.size ≤ v41.heap.size by omega)
                refine hK.out _ _ hSv42 (fun hSS => ?_)
                clear hK
                refine wpAnyH_take (i := 5) (v := .tuple #[.agg #[.int .i64 R, .int .i64 F, .slice aC M.length cC], .bool chg, .bool ok]) rfl (by kernel_rfl) (by kernel_rfl) (by kernel_rfl) (fun _ _ _ h => (by cases h.1)) (Or.inl ⟨by rfl, ?_⟩) (by assumption) ?_
                · intro W hSW
                  go_simp
                simp only [Act.put, List.getElem_toArray, List.getElem_cons_succ, List.getElem_cons_zero, List.setIfInBounds_toArray, List.set_cons_succ, List.set_cons_zero]
                refine wpAnyH_take (i := 6) (v := .agg #[.int .i64 R, .int .i64 F, .slice aC M.length cC]) rfl (by kernel_rfl) (by kernel_rfl) (by kernel_rfl) (fun _ _ _ h => (by cases h.1)) (Or.inl ⟨by rfl, ?_⟩) (by assumption) ?_
                · intro W hSW
                  go_simp
                simp only [Act.put, List.getElem_toArray, List.getElem_cons_succ, List.getElem_cons_zero, List.setIfInBounds_toArray, List.set_cons_succ, List.set_cons_zero]
                refine wpAnyH_take (i := 7) (v := .bool chg) rfl (by kernel_rfl) (by kernel_rfl) (by kernel_rfl) (fun _ _ _ h => (by cases h.1)) (Or.inl ⟨by rfl, ?_⟩) (by assumption) ?_
                · intro W hSW
                  go_simp
                simp only [Act.put, List.getElem_toArray, List.getElem_cons_succ, List.getElem_cons_zero, List.setIfInBounds_toArray, List.set_cons_succ, List.set_cons_zero]
                refine wpAnyH_take (i := 8) (v := .bool ok) rfl (by kernel_rfl) (by kernel_rfl) (by kernel_rfl) (fun _ _ _ h => (by cases h.1)) (Or.inl ⟨by rfl, ?_⟩) (by assumption) ?_
                · intro W hSW
                  go_simp
                simp only [Act.put, List.getElem_toArray, List.getElem_cons_succ, List.getElem_cons_zero, List.setIfInBounds_toArray, List.set_cons_succ, List.set_cons_zero]
                refine wpAnyH_ready (rs := [9]) (by kernel_rfl) (by simp) ?_
                refine AllReadyH.cons rfl (fun K hK => ?_) AllReadyH.nil
                rw [if_pos (by rfl)]
                go_simp
                have hSA : Below w12.heap.size w12 (v42.alloc (.cells #[.int .i64 0, .int .i64 0, .slice none 0 0] 26)) := hSv42.alloc hSv42.size _
                refine hK.out _ _ hSA (fun hSS => ?_)
                clear hK
                refine wpAnyH_ready (rs := [10]) (by kernel_rfl) (by simp) ?_
                refine AllReadyH.cons rfl (fun K hK => ?_) AllReadyH.nil
                rw [if_pos (by rfl)]
                have hSF : Below w12.heap.size w12 (v42.alloc (.cells #[.int .i64 R, .int .i64 F, .slice aC M.length cC] 26)) := hSv42.alloc hSv42.size _
                have hbF : Below v42.heap.size v42 (v42.alloc (.cells #[.int .i64 R, .int .i64 F, .slice aC M.length cC] 26)) := (Below.refl _ _).alloc (Nat.le_refl _) _
                have hF : (v42.alloc (.cells #[.int .i64 R, .int .i64 F, .slice aC M.length cC] 26)).heap[v42.heap.size]? = some (.cells #[.int .i64 R, .int .i64 F, .slice aC M.length cC] 26) := hst_new _ _
                have hOF := hov42.kept hbF
                have hneF : (Value.slice aC M.length cC).ownBlock ≠ some v42.heap.size := fun h => by have := (hov42.lt _ h).2; omega
                have hszF := hSv42.size
                go_simp
                refine hK.out _ _ hSF (fun hSS => ?_)
                clear hK
                refine wpAnyH_take (i := 11) (v := .bool chg) rfl (by kernel_rfl) (by kernel_rfl) (by kernel_rfl) (fun _ _ _ h => (by cases h.1)) (Or.inl ⟨by rfl, ?_⟩) (by assumption) ?_
                · intro W hSW
                  go_simp
                simp only [Act.put, List.getElem_toArray, List.getElem_cons_succ, List.getElem_cons_zero, List.setIfInBounds_toArray, List.set_cons_succ, List.set_cons_zero]
                refine wpAnyH_take (i := 12) (v := .bool ok) rfl (by kernel_rfl) (by kernel_rfl) (by kernel_rfl) (fun _ _ _ h => (by cases h.1)) (Or.inl ⟨by rfl, ?_⟩) (by assumption) ?_
                · intro W hSW
                  go_simp
                simp only [Act.put, List.getElem_toArray, List.getElem_cons_succ, List.getElem_cons_zero, List.setIfInBounds_toArray, List.set_cons_succ, List.set_cons_zero]
                refine wpAnyH_done (by kernel_rfl) ?_ _
                exact ⟨rfl, gC, aC, cC, v42.heap.size, rfl, hcmC, by omega, hF, hOF, hneF, hSF⟩
              · rw [if_pos (by rfl)]
                go_simp
                have hSv43 : Below w12.heap.size w12 (v41.alloc (.cells #[.int .i64 0, .int .i64 0, .slice none 0 0] 26)) := hSv41.alloc hSv41.size _
                refine hK.out _ _ hSv43 (fun hSS => ?_)
                clear hK
                obtain ⟨gXC, hgXe⟩ : ∃ g, g = v41.heap.size := ⟨_, rfl⟩
                have hqAv43 : (v41.alloc (.cells #[.int .i64 0, .int .i64 0, .slice none 0 0] 26)).heap[gXC]? = some (.cells #[.int .i64 0, .int .i64 0, .slice none 0 0] 26) := by rw [hgXe]; exact hst_new _ _
                have hbv43 : Below v41.heap.size v41 (v41.alloc (.cells #[.int .i64 0, .int .i64 0, .slice none 0 0] 26)) := (Below.refl _ _).alloc (Nat.le_refl _) _
                have hlAv43 : gXC < (v41.alloc (.cells #[.int .i64 0, .int .i64 0, .slice none 0 0] 26)).heap.size := by rw [hgXe]; simp
                have hszSv41 := hSv41.size
                have hqv43 := hqv41.kept hbv43
                rw [← hgXe]
                have hgX1 : v41.heap.size ≤ gXC := by omega
                clear hgXe
                generalize v41.alloc (.cells #[.int .i64 0, .int .i64 0, .slice none 0 0] 26) = v43 at *
                refine wpAnyH_ready (rs := [4]) (by kernel_rfl) (by simp) ?_
                refine AllReadyH.cons rfl (fun K hK => ?_) AllReadyH.nil
                · rw [if_pos (by rfl)]
                  go_simp
                  refine (HI.out gC _ (hE.below (HBWC.out _ hSv43)) hqv43).mono ?_
                  rintro e v44 ⟨⟨uC, rfl, hov44⟩, hbv44⟩
                  obtain ⟨aC, cC, huC, hcmC⟩ := hov44.shape
                  subst huC
                  go_simp
                  have hSv44 := HTSC.out _ _ hSv43 hbv44
                  have hszbv44 := hbv44.size
                  have hszXv43 := hSv43.size
                  have hqAv44 : v44.heap[gXC]? = some (.cells #[.int .i64 0, .int .i64 0, .slice none 0 0] 26) := (hbv44.block gXC hlAv43).trans hqAv43
                  have hlAv44 : gXC < v44.heap.size := Nat.lt_of_lt_of_le hlAv43 hbv44.size
                  have hneC : (Value.slice aC M.length cC).ownBlock ≠ some gXC := fun h => by have := (hov44.lt _ h).1; omega
                  have hov44 := OwnH.base hov44 (show w12.heap.size ≤ v43.heap.size by omega)
                  refine hK.out _ _ hSv44 (fun hSS => ?_)
                  clear hK
                  refine wpAnyH_take (i := 5) (v := .tuple #[.agg #[.int .i64 R, .int .i64 F, .slice aC M.length cC], .bool chg, .bool ok]) rfl (by kernel_rfl) (by kernel_rfl) (by kernel_rfl) (fun _ _ _ h => (by cases h.1)) (Or.inl ⟨by rfl, ?_⟩) (by assumption) ?_
                  · intro W hSW
                    go_simp
                  simp only [Act.put, List.getElem_toArray, List.getElem_cons_succ, List.getElem_cons_zero, List.setIfInBounds_toArray, List.set_cons_succ, List.set_cons_zero]
                  refine wpAnyH_take (i := 6) (v := .agg #[.int .i64 R, .int .i64 F, .slice aC M.length cC]) rfl (by kernel_rfl) (by kernel_rfl) (by kernel_rfl) (fun _ _ _ h => (by cases h.1)) (Or.inl ⟨by rfl, ?_⟩) (by assumption) ?_
                  · intro W hSW
                    go_simp
                  simp only [Act.put, List.getElem_toArray, List.getElem_cons_succ, List.getElem_cons_zero, List.setIfInBounds_toArray, List.set_cons_succ, List.set_cons_zero]
                  refine wpAnyH_take (i := 7) (v := .bool chg) rfl (by kernel_rfl) (by kernel_rfl) (by kernel_rfl) (fun _ _ _ h => (by cases h.1)) (Or.inl ⟨by rfl, ?_⟩) (by assumption) ?_
                  · intro W hSW
                    go_simp
                  simp only [Act.put, List.getElem_toArray, List.getElem_cons_succ, List.getElem_cons_zero, List.setIfInBounds_toArray, List.set_cons_succ, List.set_cons_zero]
                  refine wpAnyH_take (i := 8) (v := .bool ok) rfl (by kernel_rfl) (by kernel_rfl) (by kernel_rfl) (fun _ _ _ h => (by cases h.1)) (Or.inl ⟨by rfl, ?_⟩) (by assumption) ?_
                  · intro W hSW
                    go_simp
                  simp only [Act.put, List.getElem_toArray, List.getElem_cons_succ, List.getElem_cons_zero, List.setIfInBounds_toArray, List.set_cons_succ, List.set_cons_zero]
                  refine wpAnyH_ready (rs := [10]) (by kernel_rfl) (by simp) ?_
                  refine AllReadyH.cons rfl (fun K hK => ?_) AllReadyH.nil
                  rw [if_pos (by rfl)]
                  obtain ⟨⟨r0, r1, r2⟩, ⟨f0, f1, f2⟩⟩ := hst_cells hqAv44
                  have hSF := put3h_below hSv44 (g := gXC) (by omega) (.int .i64 R) (.int .i64 F) (.slice aC M.length cC)
                  have hF := put3h_heap (v0 := .int .i64 R) (v1 := .int .i64 F) (v2 := .slice aC M.length cC) hqAv44
                  have hOF := OwnH.kpt hov44 (kpt_put3h v44 gXC (.int .i64 R) (.int .i64 F) (.slice aC M.length cC)) (fun g hg e => hneC (by rw [← e]; exact hg))
                  go_simp
                  unfold put3h at hSF hF hOF
                  refine hK.out _ _ hSF (fun hSS => ?_)
                  clear hK r0 r1 r2 f0 f1 f2
                  refine wpAnyH_take (i := 11) (v := .bool chg) rfl (by kernel_rfl) (by kernel_rfl) (by kernel_rfl) (fun _ _ _ h => (by cases h.1)) (Or.inl ⟨by rfl, ?_⟩) (by assumption) ?_
                  · intro W hSW
                    go_simp
                  simp only [Act.put, List.getElem_toArray, List.getElem_cons_succ, List.getElem_cons_zero, List.setIfInBounds_toArray, List.set_cons_succ, List.set_cons_zero]
                  refine wpAnyH_take (i := 12) (v := .bool ok) rfl (by kernel_rfl) (by kernel_rfl) (by kernel_rfl) (fun _ _ _ h => (by cases h.1)) (Or.inl ⟨by rfl, ?_⟩) (by assumption) ?_
                  · intro W hSW
                    go_simp
                  simp only [Act.put, List.getElem_toArray, List.getElem_cons_succ, List.getElem_cons_zero, List.setIfInBounds_toArray, List.set_cons_succ, List.set_cons_zero]
                  refine wpAnyH_done (by kernel_rfl) ?_ _
                  exact ⟨rfl, gC, aC, cC, gXC, rfl, hcmC, by omega, hF, hOF, hneC, hSF⟩
            · rw [if_pos (by rfl)]
              go_simp
              have hSv45 : Below w12.heap.size w12 (v40.alloc (.cells #[.int .i64 0, .int .i64 0, .slice none 0 0] 26)) := hSv40.alloc hSv40.size _
              refine hK.out _ _ hSv45 (fun hSS => ?_)
              clear hK
              obtain ⟨gXC, hgXe⟩ : ∃ g, g = v40.heap.size := ⟨_, rfl⟩
              have hqAv45 : (v40.alloc (.cells #[.int .i64 0, .int .i64 0, .slice none 0 0] 26)).heap[gXC]? = some (.cells #[.int .i64 0, .int .i64 0, .slice none 0 0] 26) := by rw [hgXe]; exact hst_new _ _
              have hbv45 : Below v40.heap.size v40 (v40.alloc (.cells #[.int .i64 0, .int .i64 0, .slice none 0 0] 26)) := (Below.refl _ _).alloc (Nat.le_refl _) _
              have hlAv45 : gXC < (v40.alloc (.cells #[.int .i64 0, .int .i64 0, .slice none 0 0] 26)).heap.size := by rw [hgXe]; simp
              have hszSv40 := hSv40.size
              have hqv45 := hqv40.kept hbv45
              rw [← hgXe]
              have hgX1 : v40.heap.size ≤ gXC := by omega
              clear hgXe
              generalize v40.alloc (.cells #[.int .i64 0, .int .i64 0, .slice none 0 0] 26) = v45 at *
              refine wpAnyH_ready (rs := [3]) (by kernel_rfl) (by simp) ?_
              refine AllReadyH.cons rfl (fun K hK => ?_) AllReadyH.nil
              · rw [if_pos (by rfl)]
                go_simp
                refine (HTP.out _).mono ?_
                rintro e v46 ⟨rfl, hbv46⟩
                go_simp
                have hqv46 := hqv45.kept hbv46
                have hSv46 := HTSC.out _ _ hSv45 hbv46
                have hszbv46 := hbv46.size
                have hszXv45 := hSv45.size
                have hqAv46 : v46.heap[gXC]? = some (.cells #[.int .i64 0, .int .i64 0, .slice none 0 0] 26) := (hbv46.block gXC hlAv45).trans hqAv45
                have hlAv46 : gXC < v46.heap.size := Nat.lt_of_lt_of_le hlAv45 hbv46.size
                refine hK.out _ _ hSv46 (fun hSS => ?_)
                clear hK
                refine wpAnyH_ready (rs := [4]) (by kernel_rfl) (by simp) ?_
                refine AllReadyH.cons rfl (fun K hK => ?_) AllReadyH.nil
                · rw [if_pos (by rfl)]
                  go_simp
                  refine (HI.out gC _ (hE.below (HBWC.out _ hSv46)) hqv46).mono ?_
                  rintro e v47 ⟨⟨uC, rfl, hov47⟩, hbv47⟩
                  obtain ⟨aC, cC, huC, hcmC⟩ := hov47.shape
                  subst huC
                  go_simp
                  have hSv47 := HTSC.out _ _ hSv46 hbv47
                  have hszbv47 := hbv47.size
                  have hszXv46 := hSv46.size
                  have hqAv47 : v47.heap[gXC]? = some (.cells #[.int .i64 0, .int .i64 0, .slice none 0 0] 26) := (hbv47.block gXC hlAv46).trans hqAv46
                  have hlAv47 : gXC < v47.heap.size := Nat.lt_of_lt_of_le hlAv46 hbv47.size
                  have hneC : (Value.slice aC M.length cC).ownBlock ≠ some gXC := fun h => by have := (hov47.lt _ h).1; omega
                  have hov47 := OwnH.base hov47 (show w12.heap.size ≤ v46.heap.size by omega)
                  refine hK.out _ _ hSv47 (fun hSS => ?_)
                  clear hK
                  refine wpAnyH_take (i := 5) (v := .tuple #[.agg #[.int .i64 R, .int .i64 F, .slice aC M.length cC], .bool chg, .bool ok]) rfl (by kernel_rfl) (by kernel_rfl) (by kernel_rfl) (fun _ _ _ h => (by cases h.1)) (Or.inl ⟨by rfl, ?_⟩) (by assumption) ?_
                  · intro W hSW
                    go_simp
                  simp only [Act.put, List.getElem_toArray, List.getElem_cons_succ, List.getElem_cons_zero, List.setIfInBounds_toArray, List.set_cons_succ, List.set_cons_zero]
                  refine wpAnyH_take (i := 6) (v := .agg #[.int .i64 R, .int .i64 F, .slice aC M.length cC]) rfl (by kernel_rfl) (by kernel_rfl) (by kernel_rfl) (fun _ _ _ h => (by cases h.1)) (Or.inl ⟨by rfl, ?_⟩) (by assumption) ?_
                  · intro W hSW
                    go_simp
                  simp only [Act.put, List.getElem_toArray, List.getElem_cons_succ, List.getElem_cons_zero, List.setIfInBounds_toArray, List.set_cons_succ, List.set_cons_zero]
                  refine wpAnyH_take (i := 7) (v := .bool chg) rfl (by kernel_rfl) (by kernel_rfl) (by kernel_rfl) (fun _ _ _ h => (by cases h.1)) (Or.inl ⟨by rfl, ?_⟩) (by assumption) ?_
                  · intro W hSW
                    go_simp
                  simp only [Act.put, List.getElem_toArray, List.getElem_cons_succ, List.getElem_cons_zero, List.setIfInBounds_toArray, List.set_cons_succ, List.set_cons_zero]
                  refine wpAnyH_take (i := 8) (v := .bool ok) rfl (by kernel_rfl) (by kernel_rfl) (by kernel_rfl) (fun _ _ _ h => (by cases h.1)) (Or.inl ⟨by rfl, ?_⟩) (by assumption) ?_
                  · intro W hSW
                    go_simp
                  simp only [Act.put, List.getElem_toArray, List.getElem_cons_succ, List.getElem_cons_zero, List.setIfInBounds_toArray, List.set_cons_succ, List.set_cons_zero]
                  refine wpAnyH_ready (rs := [10]) (by kernel_rfl) (by simp) ?_
                  refine AllReadyH.cons rfl (fun K hK => ?_) AllReadyH.nil
                  rw [if_pos (by rfl)]
                  obtain ⟨⟨r0, r1, r2⟩, ⟨f0, f1, f2⟩⟩ := hst_cells hqAv47
                  have hSF := put3h_below hSv47 (g := gXC) (by omega) (.int .i64 R) (.int .i64 F) (.slice aC M.length cC)
                  have hF := put3h_heap (v0 := .int .i64 R) (v1 := .int .i64 F) (v2 := .slice aC M.length cC) hqAv47
                  have hOF := OwnH.kpt hov47 (kpt_put3h v47 gXC (.int .i64 R) (.int .i64 F) (.slice aC M.length cC)) (fun g hg e => hneC (by rw [← e]; exact hg))
                  go_simp
                  unfold put3h at hSF hF hOF
                  refine hK.out _ _ hSF (fun hSS => ?_)
                  clear hK r0 r1 r2 f0 f1 f2
                  refine wpAnyH_take (i := 11) (v := .bool chg) rfl (by kernel_rfl) (by kernel_rfl) (by kernel_rfl) (fun _ _ _ h => (by cases h.1)) (Or.inl ⟨by rfl, ?_⟩) (by assumption) ?_
                  · intro W hSW
                    go_simp
                  simp only [Act.put, List.getElem_toArray, List.getElem_cons_succ, List.getElem_cons_zero, List.setIfInBounds_toArray, List.set_cons_succ, List.set_cons_zero]
                  refine wpAnyH_take (i := 12) (v := .bool ok) rfl (by kernel_rfl) (by kernel_rfl) (by kernel_rfl) (fun _ _ _ h => (by cases h.1)) (Or.inl ⟨by rfl, ?_⟩) (by assumption) ?_
                  · intro W hSW
                    go_simp
                  simp only [Act.put, List.getElem_toArray, List.getElem_cons_succ, List.getElem_cons_zero, List.setIfInBounds_toArray, List.set_cons_succ, List.set_cons_zero]
                  refine wpAnyH_done (by kernel_rfl) ?_ _
                  exact ⟨rfl, gC, aC, cC, gXC, rfl, hcmC, by omega, hF, hOF, hneC, hSF⟩
          · rw [if_pos (by rfl)]
            go_simp
            have hSv48 : Below w12.heap.size w12 (wXC.alloc (.cells #[.int .i64 0, .int .i64 0, .slice none 0 0] 26)) := hSwXC.alloc hSwXC.size _
            refine hK.out _ _ hSv48 (fun hSS => ?_)
            clear hK
            obtain ⟨gXC, hgXe⟩ : ∃ g, g = wXC.heap.size := ⟨_, rfl⟩
            have hqAv48 : (wXC.alloc (.cells #[.int .i64 0, .int .i64 0, .slice none 0 0] 26)).heap[gXC]? = some (.cells #[.int .i64 0, .int .i64 0, .slice none 0 0] 26) := by rw [hgXe]; exact hst_new _ _
            have hbv48 : Below wXC.heap.size wXC (wXC.alloc (.cells #[.int .i64 0, .int .i64 0, .slice none 0 0] 26)) := (Below.refl _ _).alloc (Nat.le_refl _) _
            have hlAv48 : gXC < (wXC.alloc (.cells #[.int .i64 0, .int .i64 0, .slice none 0 0] 26)).heap.size := by rw [hgXe]; simp
            have hszSwXC := hSwXC.size
            rw [← hgXe]
            have hgX1 : wXC.heap.size ≤ gXC := by omega
            clear hgXe
            generalize wXC.alloc (.cells #[.int .i64 0, .int .i64 0, .slice none 0 0] 26) = v48 at *
            refine wpAnyH_ready (rs := [1]) (by kernel_rfl) (by simp) ?_
            refine AllReadyH.cons rfl (fun K hK => ?_) AllReadyH.nil
            · rw [if_pos (by rfl)]
              go_simp
              refine (HTO.out _ (HBWC.out _ hSv48)).mono ?_
              rintro e v49 ⟨⟨gC, rfl, _, hqv49⟩, hbv49⟩
              go_simp
              have hSv49 := HTSC.out _ _ hSv48 hbv49
              have hszbv49 := hbv49.size
              have hszXv48 := hSv48.size
              have hqAv49 : v49.heap[gXC]? = some (.cells #[.int .i64 0, .int .i64 0, .slice none 0 0] 26) := (hbv49.block gXC hlAv48).trans hqAv48
              have hlAv49 : gXC < v49.heap.size := Nat.lt_of_lt_of_le hlAv48 hbv49.size
              refine hK.out _ _ hSv49 (fun hSS => ?_)
              clear hK
              refine wpAnyH_ready (rs := [3]) (by kernel_rfl) (by simp) ?_
              refine AllReadyH.cons rfl (fun K hK => ?_) AllReadyH.nil
              · rw [if_pos (by rfl)]
                go_simp
                refine (HTP.out _).mono ?_
                rintro e v50 ⟨rfl, hbv50⟩
                go_simp
                have hqv50 := hqv49.kept hbv50
                have hSv50 := HTSC.out _ _ hSv49 hbv50
                have hszbv50 := hbv50.size
                have hszXv49 := hSv49.size
                have hqAv50 : v50.heap[gXC]? = some (.cells #[.int .i64 0, .int .i64 0, .slice none 0 0] 26) := (hbv50.block gXC hlAv49).trans hqAv49
                have hlAv50 : gXC < v50.heap.size := Nat.lt_of_lt_of_le hlAv49 hbv50.size
                refine hK.out _ _ hSv50 (fun hSS => ?_)
                clear hK
                refine wpAnyH_ready (rs := [4]) (by kernel_rfl) (by simp) ?_
                refine AllReadyH.cons rfl (fun K hK => ?_) AllReadyH.nil
                · rw [if_pos (by rfl)]
                  go_simp
                  refine (HI.out gC _ (hE.below (HBWC.out _ hSv50)) hqv50).mono ?_
                  rintro e v51 ⟨⟨uC, rfl, hov51⟩, hbv51⟩
                  obtain ⟨aC, cC, huC, hcmC⟩ := hov51.shape
                  subst huC
                  go_simp
                  have hSv51 := HTSC.out _ _ hSv50 hbv51
                  have hszbv51 := hbv51.size
                  have hszXv50 := hSv50.size
                  have hqAv51 : v51.heap[gXC]? = some (.cells #[.int .i64 0, .int .i64 0, .slice none 0 0] 26) := (hbv51.block gXC hlAv50).trans hqAv50
                  have hlAv51 : gXC < v51.heap.size := Nat.lt_of_lt_of_le hlAv50 hbv51.size
                  have hneC : (Value.slice aC M.length cC).ownBlock ≠ some gXC := fun h => by have := (hov51.lt _ h).1; omega
                  have hov51 := OwnH.base hov51 (show w12.heap.size ≤ v50.heap.size by omega)
                  refine hK.out _ _ hSv51 (fun hSS => ?_)
                  clear hK
                  refine wpAnyH_take (i := 5) (v := .tuple #[.agg #[.int .i64 R, .int .i64 F, .slice aC M.length cC], .bool chg, .bool ok]) rfl (by kernel_rfl) (by kernel_rfl) (by kernel_rfl) (fun _ _ _ h => (by cases h.1)) (Or.inl ⟨by rfl, ?_⟩) (by assumption) ?_
                  · intro W hSW
                    go_simp
                  simp only [Act.put, List.getElem_toArray, List.getElem_cons_succ, List.getElem_cons_zero, List.setIfInBounds_toArray, List.set_cons_succ, List.set_cons_zero]
                  refine wpAnyH_take (i := 6) (v := .agg #[.int .i64 R, .int .i64 F, .slice aC M.length cC]) rfl (by kernel_rfl) (by kernel_rfl) (by kernel_rfl) (fun _ _ _ h => (by cases h.1)) (Or.inl ⟨by rfl, ?_⟩) (by assumption) ?_
                  · intro W hSW
                    go_simp
                  simp only [Act.put, List.getElem_toArray, List.getElem_cons_succ, List.getElem_cons_zero, List.setIfInBounds_toArray, List.set_cons_succ, List.set_cons_zero]
                  refine wpAnyH_take (i := 7) (v := .bool chg) rfl (by kernel_rfl) (by kernel_rfl) (by kernel_rfl) (fun _ _ _ h => (by cases h.1)) (Or.inl ⟨by rfl, ?_⟩) (by assumption) ?_
                  · intro W hSW
                    go_simp
                  simp only [Act.put, List.getElem_toArray, List.getElem_cons_succ, List.getElem_cons_zero, List.setIfInBounds_toArray, List.set_cons_succ, List.set_cons_zero]
                  refine wpAnyH_take (i := 8) (v := .bool ok) rfl (by kernel_rfl) (by kernel_rfl) (by kernel_rfl) (fun _ _ _ h => (by cases h.1)) (Or.inl ⟨by rfl, ?_⟩) (by assumption) ?_
                  · intro W hSW
                    go_simp
                  simp only [Act.put, List.getElem_toArray, List.getElem_cons_succ, List.getElem_cons_zero, List.setIfInBounds_toArray, List.set_cons_succ, List.set_cons_zero]
                  refine wpAnyH_ready (rs := [10]) (by kernel_rfl) (by simp) ?_
                  refine AllReadyH.cons rfl (fun K hK => ?_) AllReadyH.nil
                  rw [if_pos (by rfl)]
                  obtain ⟨⟨r0, r1, r2⟩, ⟨f0, f1, f2⟩⟩ := hst_cells hqAv51
                  have hSF := put3h_below hSv51 (g := gXC) (by omega) (.int .i64 R) (.int .i64 F) (.slice aC M.length cC)
                  have hF := put3h_heap (v0 := .int .i64 R) (v1 := .int .i64 F) (v2 := .slice aC M.length cC) hqAv51
                  have hOF := OwnH.kpt hov51 (kpt_put3h v51 gXC (.int .i64 R) (.int .i64 F) (.slice aC M.length cC)) (fun g hg e => hneC (by rw [← e]; exact hg))
                  go_simp
                  unfold put3h at hSF hF hOF
                  refine hK.out _ _ hSF (fun hSS => ?_)
                  clear hK r0 r1 r2 f0 f1 f2
                  refine wpAnyH_take (i := 11) (v := .bool chg) rfl (by kernel_rfl) (by kernel_rfl) (by kernel_rfl) (fun _ _ _ h => (by cases h.1)) (Or.inl ⟨by rfl, ?_⟩) (by assumption) ?_
                  · intro W hSW
                    go_simp
                  simp only [Act.put, List.getElem_toArray, List.getElem_cons_succ, List.getElem_cons_zero, List.setIfInBounds_toArray, List.set_cons_succ, List.set_cons_zero]
                  refine wpAnyH_take (i := 12) (v := .bool ok) rfl (by kernel_rfl) (by kernel_rfl) (by kernel_rfl) (fun _ _ _ h => (by cases h.1)) (Or.inl ⟨by rfl, ?_⟩) (by assumption) ?_
                  · intro W hSW
                    go_simp
                  simp only [Act.put, List.getElem_toArray, List.getElem_cons_succ, List.getElem_cons_zero, List.setIfInBounds_toArray, List.set_cons_succ, List.set_cons_zero]
                  refine wpAnyH_done (by kernel_rfl) ?_ _
                  exact ⟨rfl, gC, aC, cC, gXC, rfl, hcmC, by omega, hF, hOF, hneC, hSF⟩
        · rintro e a wC ⟨rfl, gC, aC, cC, gXC, rfl, hcmC, hgXC, hbxC, hoC, hneC, hSC⟩
          have hlXC : gXC < wC.heap.size := (Array.getElem?_eq_some_iff.1 hbxC).1
          have hbwwC : Below w.heap.size w wC := hbww12.trans (hSC.mono hbww12.size)
          have hzwC : w12.heap.size ≤ wC.heap.size := hSC.size
          have BH_wC : Hid (wC.heap[w.heap.size]? = some (.cells #[.int .i64 ri, .int .i64 fa, .slice va L.length vc] 36)) := (hSC.block w.heap.size (by omega)).trans BH_w12.out
          have BP_wC : Hid (wC.heap[(w.heap.size + 1)]? = some (.cells #[.int .i64 n, .bool fi] 42)) := (hSC.block (w.heap.size + 1) (by omega)).trans BP_w12.out
          have B6_wC : Hid (wC.heap[gXA]? = some (.cells #[.int .i64 R, .int .i64 F, .slice aA M.length cA] 26)) := (hSC.block gXA (by omega)).trans B6_w12.out
          have OA_wC : Hid (OwnH wC w1.heap.size (.slice aA M.length cA) M) := OA_w12.out.kept hSC
          have B9_wC : Hid (wC.heap[w3.heap.size]? = some (.cells #[.int .i64 ri, .int .i64 fa, .slice (some ⟨g3, 0, none⟩) L.length L.length] 26)) := (hSC.block w3.heap.size (by omega)).trans B9_w12.out
          have B1_wC : Hid (wC.heap[gXB]? = some (.cells #[.int .i64 R, .int .i64 F, .slice aB M.length cB] 26)) := (hSC.block gXB (by omega)).trans B1_w12.out
          have HM_wC : Hid (OwnH wC w4.heap.size (.slice aB M.length cB) (mrksH 1 M.length)) := HM_w12.out.kept hSC
          clear BH_w12 BP_w12 B6_w12 OA_w12 B9_w12 B1_w12 HM_w12 hSC 
          have B5_wC : Hid (wC.heap[gXC]? = some (.cells #[.int .i64 R, .int .i64 F, .slice aC M.length cC] 26)) := hbxC
          obtain ⟨⟨d0, d1, d2⟩, _⟩ := hst_cells B5_wC.out
          obtain ⟨⟨f0, f1, f2⟩, _⟩ := hst_cells B6_wC.out
          have HRC := hoC.row
          clear hbxC hoC hneC
          go_wp2_with fail
          refine (HEQ.out _ _ _ HRC OA_wC.out.row).mono ?_
          rintro e w14 ⟨rfl, hb14⟩
          clear d0 d1 d2 f0 f1 f2 HRC
          have hbww14 : Below w.heap.size w w14 := hbwwC.trans (hb14.mono hbwwC.size)
          have hzw14 : wC.heap.size ≤ w14.heap.size := hb14.size
          have BH_w14 : Hid (w14.heap[w.heap.size]? = some (.cells #[.int .i64 ri, .int .i64 fa, .slice va L.length vc] 36)) := (hb14.block w.heap.size (by omega)).trans BH_wC.out
          have BP_w14 : Hid (w14.heap[(w.heap.size + 1)]? = some (.cells #[.int .i64 n, .bool fi] 42)) := (hb14.block (w.heap.size + 1) (by omega)).trans BP_wC.out
          have B6_w14 : Hid (w14.heap[gXA]? = some (.cells #[.int .i64 R, .int .i64 F, .slice aA M.length cA] 26)) := (hb14.block gXA (by omega)).trans B6_wC.out
          have OA_w14 : Hid (OwnH w14 w1.heap.size (.slice aA M.length cA) M) := OA_wC.out.kept hb14
          have B9_w14 : Hid (w14.heap[w3.heap.size]? = some (.cells #[.int .i64 ri, .int .i64 fa, .slice (some ⟨g3, 0, none⟩) L.length L.length] 26)) := (hb14.block w3.heap.size (by omega)).trans B9_wC.out
          have B1_w14 : Hid (w14.heap[gXB]? = some (.cells #[.int .i64 R, .int .i64 F, .slice aB M.length cB] 26)) := (hb14.block gXB (by omega)).trans B1_wC.out
          have HM_w14 : Hid (OwnH w14 w4.heap.size (.slice aB M.length cB) (mrksH 1 M.length)) := HM_wC.out.kept hb14
          have B5_w14 : Hid (w14.heap[gXC]? = some (.cells #[.int .i64 R, .int .i64 F, .slice aC M.length cC] 26)) := (hb14.block gXC (by omega)).trans B5_wC.out
          clear BH_wC BP_wC B6_wC OA_wC B9_wC B1_wC HM_wC B5_wC hb14 
          obtain ⟨⟨f0, f1, f2⟩, _⟩ := hst_cells B1_w14.out
          go_wp2_with fail
          refine (HHD.out _ _ _ HM_w14.out).mono ?_
          rintro e w15 ⟨rfl, hb15⟩
          clear f0 f1 f2
          have hbww15 : Below w.heap.size w w15 := hbww14.trans (hb15.mono hbww14.size)
          have hzw15 : w14.heap.size ≤ w15.heap.size := hb15.size
          have BH_w15 : Hid (w15.heap[w.heap.size]? = some (.cells #[.int .i64 ri, .int .i64 fa, .slice va L.length vc] 36)) := (hb15.block w.heap.size (by omega)).trans BH_w14.out
          have BP_w15 : Hid (w15.heap[(w.heap.size + 1)]? = some (.cells #[.int .i64 n, .bool fi] 42)) := (hb15.block (w.heap.size + 1) (by omega)).trans BP_w14.out
          have B6_w15 : Hid (w15.heap[gXA]? = some (.cells #[.int .i64 R, .int .i64 F, .slice aA M.length cA] 26)) := (hb15.block gXA (by omega)).trans B6_w14.out
          have OA_w15 : Hid (OwnH w15 w1.heap.size (.slice aA M.length cA) M) := OA_w14.out.kept hb15
          have B9_w15 : Hid (w15.heap[w3.heap.size]? = some (.cells #[.int .i64 ri, .int .i64 fa, .slice (some ⟨g3, 0, none⟩) L.length L.length] 26)) := (hb15.block w3.heap.size (by omega)).trans B9_w14.out
          have B1_w15 : Hid (w15.heap[gXB]? = some (.cells #[.int .i64 R, .int .i64 F, .slice aB M.length cB] 26)) := (hb15.block gXB (by omega)).trans B1_w14.out
          have HM_w15 : Hid (OwnH w15 w4.heap.size (.slice aB M.length cB) (mrksH 1 M.length)) := HM_w14.out.kept hb15
          have B5_w15 : Hid (w15.heap[gXC]? = some (.cells #[.int .i64 R, .int .i64 F, .slice aC M.length cC] 26)) := (hb15.block gXC (by omega)).trans B5_w14.out
          clear BH_w14 BP_w14 B6_w14 OA_w14 B9_w14 B1_w14 HM_w14 B5_w14 hb15 
          go_wp2_with fail
          go_ret
          exact ⟨rfl, hbww15⟩

theorem walk (ri fa : Int) (v : Value) (L : List HosT) (n : Int) (fi : Bool) (w : World) (hr : HstRow w v L) (hxa : Hid (∀ x ∈ L, x.1.length ≤ maxLen)) (hE : Env w) :
    Calls Tryd.prog 5 #[HeaV ri fa v, .agg #[.int .i64 n, .bool fi]] w fun e w' => e = .returned (.bool true) ∧ Below w.heap.size w w' :=
  core ri fa v L n fi _ _ _ _ _ w hr hxa hE (fun h => by split <;> simp [tkL_length]; omega) (fun hl hx _ W hs => sTakeProbe_any ri fa _ L n fi W (hs.row1 hl) hl hx) (fun hl hx _ W hW hs => iTakeProbe_any ri fa _ L n fi W (hs.row1 hl) hl hx hW)
end Go.Proofs.YtoopfmebpjojiaaDoor.takeProbe
