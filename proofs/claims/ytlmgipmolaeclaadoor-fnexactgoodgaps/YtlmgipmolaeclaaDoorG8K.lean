import Derived.Test.YtlmgipmolaeclaaDoorG8J
import Derived.BigQuiet
import Derived.Deep.QuietTactic
namespace Go.Proofs.YtlmgipmolaeclaaDoor
open Go.RowKit

set_option maxRecDepth 20000 in
set_option maxHeartbeats 4000000 in
theorem iGoodGaps_any (ap : List UInt8) (v : Value) (L : List (List UInt8 × List UInt8 × List Int)) (w : World) (hr : GRow w v L) (hx : Hid (∀ x ∈ L, x.1.length ≤ 1048576 ∧ x.2.1.length ≤ 1048576)) (hap : ap.length ≤ 1048576) (hE : Env w) :
    Calls Tryd.prog 9 #[.string ⟨ap.toArray⟩, v] w fun e w' => e = .returned (.bool (goodG ap L)) ∧ Below w.heap.size w w' := by
  rw [← good_same]
  obtain ⟨a, cap, rfl, hcap, hmax, HROW⟩ := grow_value hr
  clear hr
  obtain ⟨r, hrr⟩ : ∃ r, r = goodI ap L := ⟨_, rfl⟩
  have HRR : Hid (r = goodI ap L) := hrr
  rw [← hrr]
  clear hrr
  have HPRE : Hid (goodI ap L = (decide (1 ≤ L.length) && decide (L.length ≤ 40) && (gO L 0 == ap) && (gX L (L.length - 1) == ap) && (List.range L.length).all (giB ap L))) := rfl
  by_cases n1 : L.length < 1
  · have HF : Hid (r = false) := HRR.out.trans (HPRE.out.trans (by rw [decide_eq_false (show ¬ 1 ≤ L.length by omega)]; rfl))
    clear HPRE
    go_enter Tryd.func9, Tryd.ntmps9
    go_wp2_with fail
    go_ret
    exact ⟨ret_bool HF.out.symm, Below.refl _ _⟩
  by_cases n2 : 40 < L.length
  · have HF : Hid (r = false) := HRR.out.trans (HPRE.out.trans (by rw [decide_eq_false (show ¬ L.length ≤ 40 by omega)]; simp))
    clear HPRE
    go_enter Tryd.func9, Tryd.ntmps9
    go_wp2_with fail
    go_ret
    exact ⟨ret_bool HF.out.symm, Below.refl _ _⟩
  obtain ⟨b, o, ha, hbl, hcel⟩ := HROW.out (by omega)
  subst ha
  have HCEL : Hid (∀ j, (hj : j < L.length) → ∃ va, GapAt w b (o + j * 3) L[j] va) := hcel
  obtain ⟨v0, q0⟩ := hcel 0 (by omega)
  obtain ⟨v9, q9⟩ := hcel (L.length - 1) (by omega)
  rw [Nat.zero_mul, Nat.add_zero] at q0
  unfold GapAt at q0 q9
  have c0 := q0.1
  have d1 := q9.2.1
  clear q0 q9
  have HX0 : Hid (gO L 0 = (L[0]'(by omega)).1) := gO_at (by omega)
  have HX9 : Hid (gX L (L.length - 1) = (L[L.length - 1]'(by omega)).2.1) := gX_at (by omega)
  obtain ⟨s0, hs0⟩ : ∃ s, s = (L[0]'(by omega)).1 := ⟨_, rfl⟩
  obtain ⟨s9, hs9⟩ : ∃ s, s = (L[L.length - 1]'(by omega)).2.1 := ⟨_, rfl⟩
  rw [← hs0] at HX0 c0
  rw [← hs9] at HX9 d1
  clear hs0 hs9 hcel HROW
  obtain ⟨m, hm⟩ : ∃ m : Nat, m = L.length - 1 := ⟨_, rfl⟩
  rw [← hm] at d1 HX9 HPRE
  have hmi : IntKind.i64.wrap ((L.length : Int) - 1) = (m : Int) := by rw [wrap_small _ (by omega) (by omega)]; omega
  have hmi2 : (L.length : Int) - 1 = (m : Int) := by omega
  have hmb : (m : Int) < (L.length : Int) := by omega
  have HM : Hid (m = L.length - 1) := hm
  have hln : 1 ≤ L.length := by omega
  have hl40 : L.length ≤ 40 := by omega
  clear hm n1 n2
  by_cases e0 : s0 = ap
  case neg =>
    have HF : Hid (r = false) := HRR.out.trans (HPRE.out.trans (by rw [HX0.out, show (s0 == ap) = false by simpa using e0]; simp))
    have e0' : (s0 == ap) = false := by simpa using e0
    have e0'' : (s0 != ap) = true := by simpa using e0
    clear HPRE
    go_enter Tryd.func9, Tryd.ntmps9
    go_wp2_with fail
    go_ret
    exact ⟨ret_bool HF.out.symm, Below.refl _ _⟩
  by_cases e9 : s9 = ap
  case neg =>
    have HF : Hid (r = false) := HRR.out.trans (HPRE.out.trans (by rw [HX9.out, show (s9 == ap) = false by simpa using e9]; simp))
    have e0' : (s0 == ap) = true := by simpa using e0
    have e0'' : (s0 != ap) = false := by simpa using e0
    have e9' : (s9 == ap) = false := by simpa using e9
    have e9'' : (s9 != ap) = true := by simpa using e9
    clear HPRE e0
    go_enter Tryd.func9, Tryd.ntmps9
    go_wp2_with fail
    go_ret
    exact ⟨ret_bool HF.out.symm, Below.refl _ _⟩
  have e0' : (s0 == ap) = true := by simpa using e0
  have e0'' : (s0 != ap) = false := by simpa using e0
  have e9' : (s9 == ap) = true := by simpa using e9
  have e9'' : (s9 != ap) = false := by simpa using e9
  have HALL : Hid ((∀ j, j < L.length → giB ap L j = true) → r = true) := fun h => HRR.out.trans (goodI_all hln hl40 (HX0.out.trans e0) (by rw [← HM.out]; exact HX9.out.trans e9) h)
  have HBADA : Hid (∀ k, k < L.length → giB ap L k = false → r = false) := fun k hk h => HRR.out.trans (goodI_bad k hk h)
  clear HPRE e0 e9 HX0 HX9 HRR HM
  go_enter Tryd.func9, Tryd.ntmps9
  go_wp2_with fail
  clear c0 d1 hmi hmi2 hmb e0' e0'' e9' e9''
  go_loopw [36] (fun i wr => ∃ k : Nat, k ≤ L.length ∧ i = .int .i64 (k : Int) ∧ Hid (∀ j, j < k → giB ap L j = true) ∧ Below w.heap.size w wr) (fun i _ => L.length - (intOf i).toNat)
  case atStart => exact ⟨0, Nat.zero_le _, rfl, fun j h => absurd h (Nat.not_lt_zero _), Below.refl _ _⟩
  case round =>
    obtain ⟨k, hk, rfl, HA, hb⟩ := hrel
    by_cases hlt : k < L.length
    · obtain ⟨va, hcx0⟩ := HCEL.out k hlt
      have hcx := hcx0.kept hb
      have hxl := hx.out _ (List.getElem_mem hlt)
      have HBAD : Hid (giB ap L k = false → r = false) := HBADA.out k hlt
      have HGZ : Hid (k = 0 → giB ap L k = (nameB (L[k]'hlt).1 && nameB (L[k]'hlt).2.1 && belowB (L[k]'hlt).1 ap && (!((L[k]'hlt).2.2 == []) && typesB (L[k]'hlt).2.2))) := fun h => by subst h; exact gi_zero hlt
      have HGS : Hid (∀ j (hj : k = j + 1), giB ap L k = (nameB (L[k]'hlt).1 && nameB (L[k]'hlt).2.1 && belowB (L[k]'hlt).1 ap && (!((L[k]'hlt).2.2 == []) && typesB (L[k]'hlt).2.2) && ((L[j]'(by omega)).2.1 == (L[k]'hlt).1 && decide (cmpN (L[j]'(by omega)).1 (L[k]'hlt).1 < 0)))) := fun j hj => by subst hj; exact gi_succ j hlt
      have HG3 : Hid ((nameB (L[k]'hlt).1 && nameB (L[k]'hlt).2.1 && belowB (L[k]'hlt).1 ap && (!((L[k]'hlt).2.2 == []) && typesB (L[k]'hlt).2.2)) = false → giB ap L k = false) := fun h => by
        by_cases hz : k = 0
        · exact (HGZ.out hz).trans h
        · exact (HGS.out (k - 1) (by omega)).trans (by rw [h]; rfl)
      obtain ⟨x, hxe⟩ : ∃ x, x = L[k]'hlt := ⟨_, rfl⟩
      rw [← hxe] at hcx hxl HGZ HG3
      have HGS2 : Hid (∀ j (hj : k = j + 1), giB ap L k = (nameB x.1 && nameB x.2.1 && belowB x.1 ap && (!(x.2.2 == []) && typesB x.2.2) && ((L[j]'(by omega)).2.1 == x.1 && decide (cmpN (L[j]'(by omega)).1 x.1 < 0)))) := fun j hj => by rw [hxe]; exact HGS.out j hj
      have hz : ZRow .i64 wr va x.2.2 := hcx.2.2.2
      obtain ⟨W0, hW0⟩ : ∃ W0, W0 = wr.alloc (.cells #[.string ⟨x.1.toArray⟩, .string ⟨x.2.1.toArray⟩, va] 35) := ⟨_, rfl⟩
      have HW0 : Hid (wr.alloc (.cells #[.string ⟨x.1.toArray⟩, .string ⟨x.2.1.toArray⟩, va] 35) = W0) := hW0.symm
      have HTR : Hid (∀ W W', Below W0.heap.size W0 W → Below W.heap.size W W' → Below W0.heap.size W0 W') := fun W W' h1 h2 => h1.trans (h2.mono h1.size)
      have HX : Hid (∀ W, Below W0.heap.size W0 W → W.cell? ⟨wr.heap.size, 0, none⟩ = some (.string ⟨x.1.toArray⟩) ∧ W.cell? ⟨wr.heap.size, 1, none⟩ = some (.string ⟨x.2.1.toArray⟩) ∧ W.cell? ⟨wr.heap.size, 2, none⟩ = some va ∧ Below wr.heap.size wr W) := fun W hW => by rw [hW0] at hW; exact gap_facts hW
      have HBW : Hid (∀ W, Below W0.heap.size W0 W → Below w.heap.size w W) := fun W hW => hb.trans ((HX.out W hW).2.2.2.mono hb.size)
      have HN : Hid (∀ W, Below w.heap.size w W → Calls Tryd.prog 23 #[.agg #[.string ⟨x.1.toArray⟩, .string ⟨x.2.1.toArray⟩, va]] W fun e w' => e = .returned (.bool (nameB x.1 && nameB x.2.1)) ∧ Below W.heap.size W w') := fun W hW => hasNames_any ⟨x.1.toArray⟩ ⟨x.2.1.toArray⟩ va W (hE.below hW)
      have HLB : Hid (∀ W, Calls Tryd.prog 24 #[.string ⟨x.1.toArray⟩, .string ⟨ap.toArray⟩] W fun e w' => e = .returned (.bool (belowB x.1 ap)) ∧ w' = W) := fun W => liesBelow_any ⟨x.1.toArray⟩ ⟨ap.toArray⟩ W (by rw [size_list]; omega) (by rw [size_list]; omega)
      have HTY : Hid (∀ W, Below W0.heap.size W0 W → Calls Tryd.prog 25 #[va] W fun e w' => e = .returned (.bool (!(x.2.2 == []) && typesB x.2.2)) ∧ w' = W) := fun W hW => areTypes_any va x.2.2 W (hz.kept (HX.out W hW).2.2.2)
      have HROWS : Hid (∀ j, (hj : k = j + 1) → ∃ y vb, y = L[j]'(by omega) ∧ ∀ W, Below w.heap.size w W → GapAt W b (o + j * 3) y vb) := fun j hj => by
        obtain ⟨vb, h⟩ := HCEL.out j (by omega)
        exact ⟨_, vb, rfl, fun W hW => h.kept hW⟩
      have HPN : Hid (∀ j, (hj : k = j + 1) → nameB (L[j]'(by omega)).1 = true) := fun j hj => by
        have h := HA.out j (by omega)
        unfold giB at h
        rw [gO_at (show j < L.length by omega)] at h
        simp only [Bool.and_eq_true] at h
        exact h.1.1.1.1
      unfold GapAt at hcx
      have c0 := hcx.1
      have c1 := hcx.2.1
      have c2 := hcx.2.2.1
      clear hcx
      obtain ⟨aa, ca, rfl, _, hca, _⟩ := hz
      clear hcx0 hxe hW0 HGS HBADA HCEL
      have hlk : (k : Int) < (L.length : Int) := by omega
      cases h1 : (nameB x.1 && nameB x.2.1) with
      | false =>
        have HF : Hid (r = false) := HBAD.out (HG3.out (by rw [h1]; rfl))
        rw [h1] at HN
        clear HBAD HG3 h1 HGZ HGS2
        go_wp2_with fail
        rw [HW0.out]
        refine (HN.out _ (HBW.out _ (Below.refl _ _))).mono ?_
        rintro e w2 ⟨rfl, hb2⟩
        have hbw2 := HBW.out _ hb2
        go_wp2_with fail
        go_ret
        exact ⟨ret_bool HF.out.symm, hbw2⟩
      | true =>
        rw [h1] at HN
        cases h2 : belowB x.1 ap with
        | false =>
          have HF : Hid (r = false) := HBAD.out (HG3.out (by rw [h2]; simp))
          rw [h2] at HLB
          clear HBAD HG3 h1 h2 HGZ HGS2
          go_wp2_with fail
          rw [HW0.out]
          refine (HN.out _ (HBW.out _ (Below.refl _ _))).mono ?_
          rintro e w2 ⟨rfl, hb2⟩
          have hbw2 := HBW.out _ hb2
          obtain ⟨m0, m1, m2, _⟩ := HX.out _ hb2
          go_wp2_with fail
          refine (HLB.out _).mono ?_
          rintro e w3 ⟨rfl, rfl⟩
          go_wp2_with fail
          go_ret
          exact ⟨ret_bool HF.out.symm, hbw2⟩
        | true =>
          rw [h2] at HLB
          cases h3 : (!(x.2.2 == []) && typesB x.2.2) with
          | false =>
            have HF : Hid (r = false) := HBAD.out (HG3.out (by rw [h3]; simp))
            rw [h3] at HTY
            clear HBAD HG3 h1 h2 h3 HGZ HGS2
            go_wp2_with fail
            rw [HW0.out]
            refine (HN.out _ (HBW.out _ (Below.refl _ _))).mono ?_
            rintro e w2 ⟨rfl, hb2⟩
            have hbw2 := HBW.out _ hb2
            obtain ⟨m0, m1, m2, _⟩ := HX.out _ hb2
            go_wp2_with fail
            refine (HLB.out _).mono ?_
            rintro e w3 ⟨rfl, rfl⟩
            go_wp2_with fail
            refine (HTY.out _ hb2).mono ?_
            rintro e w4 ⟨rfl, rfl⟩
            go_wp2_with fail
            go_ret
            exact ⟨ret_bool HF.out.symm, hbw2⟩
          | true =>
            rw [h3] at HTY
            rcases Nat.eq_zero_or_pos k with hk0 | hk0
            · have HU : Hid (∀ j, j < k + 1 → giB ap L j = true) := all_up HA.out ((HGZ.out hk0).trans (by rw [h1, h2, h3]; rfl))
              have hk0i : ¬ (0 : Int) < (k : Int) := by omega
              have hk0d : decide ((0 : Int) < (k : Int)) = false := by simp; omega
              clear HBAD HG3 h1 h2 h3 HGZ HGS2 hk0
              obtain ⟨u59, hu59⟩ : ∃ u : Bool, u = false := ⟨_, rfl⟩
              have HU59 : Hid (u59 = false) := hu59
              clear hu59
              go_wp2_with fail
              rw [HW0.out]
              refine (HN.out _ (HBW.out _ (Below.refl _ _))).mono ?_
              rintro e w2 ⟨rfl, hb2⟩
              obtain ⟨m0, m1, m2, _⟩ := HX.out _ hb2
              go_wp2_with fail
              refine (HLB.out _).mono ?_
              rintro e w3 ⟨rfl, rfl⟩
              go_wp2_with fail
              refine (HTY.out _ hb2).mono ?_
              rintro e w4 ⟨rfl, rfl⟩
              have hbd := hb2.drew
              clear m0 m1 m2
              go_wp2_with fail
              refine wp_region_quiet (C := fun W => Below W0.heap.size W0 W) (by kernel_rfl) (by kernel_rfl) hbd ?_
              refine wpQuiet_step (fun K hK => ?_)
              rw [if_pos (by rfl)]
              refine ⟨.int .i64 (k : Int), fun W hW => quiet_ok ?_, hK _ ?_⟩
              · have q := HX.out W hW
                obtain ⟨m0, m1, m2, _⟩ := q
                go_simp
                all_goals (try omega)
              clear hK K
              simp only [Act.put, List.setIfInBounds_toArray, List.set_cons_succ, List.set_cons_zero]
              refine wpQuiet_step (fun K hK => ?_)
              rw [if_pos (by rfl)]
              refine ⟨.bool false, fun W hW => quiet_ok ?_, hK _ ?_⟩
              · have q := HX.out W hW
                obtain ⟨m0, m1, m2, _⟩ := q
                go_simp
                all_goals (try omega)
              clear hK K
              simp only [Act.put, List.setIfInBounds_toArray, List.set_cons_succ, List.set_cons_zero]
              refine wpQuiet_step (fun K hK => ?_)
              rw [if_pos (by rfl)]
              refine ⟨.bool u59, fun W hW => quiet_ok ?_, hK _ ?_⟩
              · have q := HX.out W hW
                obtain ⟨m0, m1, m2, _⟩ := q
                have v59 := HU59.out
                go_simp
                all_goals (try omega)
              clear hK K
              simp only [Act.put, List.setIfInBounds_toArray, List.set_cons_succ, List.set_cons_zero]
              refine BigFrame.wpQuiet_skip (by show (some u59 == some true) = false; rw [HU59.out]; rfl) ?_
              simp only [Act.put, List.setIfInBounds_toArray, List.set_cons_succ, List.set_cons_zero]
              refine BigFrame.wpQuiet_skip (by show (some u59 == some true) = false; rw [HU59.out]; rfl) ?_
              simp only [Act.put, List.setIfInBounds_toArray, List.set_cons_succ, List.set_cons_zero]
              refine BigFrame.wpQuiet_skip (by show (some u59 == some true) = false; rw [HU59.out]; rfl) ?_
              simp only [Act.put, List.setIfInBounds_toArray, List.set_cons_succ, List.set_cons_zero]
              refine BigFrame.wpQuiet_skip (by show (some u59 == some true) = false; rw [HU59.out]; rfl) ?_
              simp only [Act.put, List.setIfInBounds_toArray, List.set_cons_succ, List.set_cons_zero]
              refine BigFrame.wpQuiet_skip (by show (some u59 == some true) = false; rw [HU59.out]; rfl) ?_
              simp only [Act.put, List.setIfInBounds_toArray, List.set_cons_succ, List.set_cons_zero]
              refine BigFrame.wpQuiet_skip (by show (some u59 == some true) = false; rw [HU59.out]; rfl) ?_
              simp only [Act.put, List.setIfInBounds_toArray, List.set_cons_succ, List.set_cons_zero]
              refine BigFrame.wpQuiet_skip (by show (some u59 == some true) = false; rw [HU59.out]; rfl) ?_
              simp only [Act.put, List.setIfInBounds_toArray, List.set_cons_succ, List.set_cons_zero]
              refine BigFrame.wpQuiet_skip (by show (some u59 == some true) = false; rw [HU59.out]; rfl) ?_
              simp only [Act.put, List.setIfInBounds_toArray, List.set_cons_succ, List.set_cons_zero]
              refine wpQuiet_step (fun K hK => ?_)
              rw [if_pos (by rfl)]
              refine ⟨.bool false, fun W hW => quiet_ok ?_, hK _ ?_⟩
              · have q := HX.out W hW
                obtain ⟨m0, m1, m2, _⟩ := q
                have v59 := HU59.out
                go_simp
                all_goals (try omega)
              clear hK K
              simp only [Act.put, List.setIfInBounds_toArray, List.set_cons_succ, List.set_cons_zero]
              refine wpQuiet_nil ?_
              intro W hW
              have hbW := HBW.out W hW
              go_wp2_with fail
              go_roundw
              case rel => exact ⟨k + 1, by omega, by go_num, HU, hbW⟩
              case measure => simp [intOf]; omega
            · obtain ⟨j, hj⟩ : ∃ j, k = j + 1 := ⟨k - 1, by omega⟩
              obtain ⟨y, vb, hye, hyc⟩ := HROWS.out j hj
              have HGK := HGS2.out j hj
              have hny := HPN.out j hj
              rw [← hye] at HGK hny
              have hkj : (k : Int) = (j : Int) + 1 := by omega
              have HY : Hid (∀ W, Below W0.heap.size W0 W → W.cell? ⟨b, o + j * 3, none⟩ = some (.string ⟨y.1.toArray⟩) ∧ W.cell? ⟨b, o + j * 3 + 1, none⟩ = some (.string ⟨y.2.1.toArray⟩) ∧ W.cell? ⟨b, o + j * 3 + 2, none⟩ = some vb ∧ ZRow .i64 W vb y.2.2) := fun W hW => hyc W (HBW.out W hW)
              have HLO : Hid (∀ W, Below w.heap.size w W → Calls Tryd.prog 26 #[.agg #[.string ⟨y.1.toArray⟩, .string ⟨y.2.1.toArray⟩, vb], .agg #[.string ⟨x.1.toArray⟩, .string ⟨x.2.1.toArray⟩, .slice aa x.2.2.length ca]] W fun e w' => e = .returned (.bool (y.2.1 == x.1 && decide (cmpN y.1 x.1 < 0))) ∧ Below W.heap.size W w') := fun W hW => leadsOn_any y x vb _ W (hE.below hW) ⟨hny, by have h := h1; simp only [Bool.and_eq_true] at h; exact h.1⟩
              have hk1 : (0 : Int) < (k : Int) := by omega
              have hk1d : decide ((0 : Int) < (k : Int)) = true := by simp; omega
              have wk : IntKind.i64.wrap ((k : Int) - 1) = (j : Int) := by rw [wrap_small _ (by omega) (by omega)]; omega
              have hjl : (j : Int) < (L.length : Int) := by omega
              cases hl : (y.2.1 == x.1 && decide (cmpN y.1 x.1 < 0)) with
              | false =>
                have HF : Hid (r = false) := HBAD.out (HGK.trans (by rw [hl]; simp))
                rw [hl] at HLO
                clear HBAD HG3 h1 h2 h3 HGZ HGS2 hl HGK hny hye hyc hkj hj hk0
                go_wp2_with fail
                rw [HW0.out]
                refine (HN.out _ (HBW.out _ (Below.refl _ _))).mono ?_
                rintro e w2 ⟨rfl, hb2⟩
                obtain ⟨m0, m1, m2, _⟩ := HX.out _ hb2
                go_wp2_with fail
                refine (HLB.out _).mono ?_
                rintro e w3 ⟨rfl, rfl⟩
                go_wp2_with fail
                refine (HTY.out _ hb2).mono ?_
                rintro e w4 ⟨rfl, rfl⟩
                have hbd := hb2.drew
                clear m0 m1 m2
                go_wp2_with fail
                refine wp_region_quiet (C := fun W => Below W0.heap.size W0 W) (by kernel_rfl) (by kernel_rfl) hbd ?_
                refine wpQuiet_step (fun K hK => ?_)
                rw [if_pos (by rfl)]
                refine ⟨.int .i64 (k : Int), fun W hW => quiet_ok ?_, hK _ ?_⟩
                · have q := HX.out W hW
                  obtain ⟨m0, m1, m2, _⟩ := q
                  have q2 := HY.out W hW
                  obtain ⟨z0, z1, z2, _⟩ := q2
                  go_simp
                  all_goals (try omega)
                clear hK K
                simp only [Act.put, List.setIfInBounds_toArray, List.set_cons_succ, List.set_cons_zero]
                refine wpQuiet_step (fun K hK => ?_)
                rw [if_pos (by rfl)]
                refine ⟨.bool true, fun W hW => quiet_ok ?_, hK _ ?_⟩
                · have q := HX.out W hW
                  obtain ⟨m0, m1, m2, _⟩ := q
                  have q2 := HY.out W hW
                  obtain ⟨z0, z1, z2, _⟩ := q2
                  go_simp
                  all_goals (try omega)
                clear hK K
                simp only [Act.put, List.setIfInBounds_toArray, List.set_cons_succ, List.set_cons_zero]
                refine wpQuiet_step (fun K hK => ?_)
                rw [if_pos (by rfl)]
                refine ⟨.bool true, fun W hW => quiet_ok ?_, hK _ ?_⟩
                · have q := HX.out W hW
                  obtain ⟨m0, m1, m2, _⟩ := q
                  have q2 := HY.out W hW
                  obtain ⟨z0, z1, z2, _⟩ := q2
                  go_simp
                  all_goals (try omega)
                clear hK K
                simp only [Act.put, List.setIfInBounds_toArray, List.set_cons_succ, List.set_cons_zero]
                refine wpQuiet_step (fun K hK => ?_)
                rw [if_pos (by rfl)]
                refine ⟨.slice (some ⟨b, o, none⟩) L.length cap, fun W hW => quiet_ok ?_, hK _ ?_⟩
                · have q := HX.out W hW
                  obtain ⟨m0, m1, m2, _⟩ := q
                  have q2 := HY.out W hW
                  obtain ⟨z0, z1, z2, _⟩ := q2
                  go_simp
                  all_goals (try omega)
                clear hK K
                simp only [Act.put, List.setIfInBounds_toArray, List.set_cons_succ, List.set_cons_zero]
                refine wpQuiet_step (fun K hK => ?_)
                rw [if_pos (by rfl)]
                refine ⟨.int .i64 (k : Int), fun W hW => quiet_ok ?_, hK _ ?_⟩
                · have q := HX.out W hW
                  obtain ⟨m0, m1, m2, _⟩ := q
                  have q2 := HY.out W hW
                  obtain ⟨z0, z1, z2, _⟩ := q2
                  go_simp
                  all_goals (try omega)
                clear hK K
                simp only [Act.put, List.setIfInBounds_toArray, List.set_cons_succ, List.set_cons_zero]
                refine wpQuiet_step (fun K hK => ?_)
                rw [if_pos (by rfl)]
                refine ⟨.int .i64 (j : Int), fun W hW => quiet_ok ?_, hK _ ?_⟩
                · have q := HX.out W hW
                  obtain ⟨m0, m1, m2, _⟩ := q
                  have q2 := HY.out W hW
                  obtain ⟨z0, z1, z2, _⟩ := q2
                  go_simp
                  all_goals (try omega)
                clear hK K
                simp only [Act.put, List.setIfInBounds_toArray, List.set_cons_succ, List.set_cons_zero]
                refine wpQuiet_step (fun K hK => ?_)
                rw [if_pos (by rfl)]
                refine ⟨.pointer (some ⟨b, o + j * 3, none⟩), fun W hW => quiet_ok ?_, hK _ ?_⟩
                · have q := HX.out W hW
                  obtain ⟨m0, m1, m2, _⟩ := q
                  have q2 := HY.out W hW
                  obtain ⟨z0, z1, z2, _⟩ := q2
                  go_simp
                  all_goals (try omega)
                clear hK K
                simp only [Act.put, List.setIfInBounds_toArray, List.set_cons_succ, List.set_cons_zero]
                refine wpQuiet_step (fun K hK => ?_)
                rw [if_pos (by rfl)]
                refine ⟨.agg #[.string ⟨y.1.toArray⟩, .string ⟨y.2.1.toArray⟩, vb], fun W hW => quiet_ok ?_, hK _ ?_⟩
                · have q := HX.out W hW
                  obtain ⟨m0, m1, m2, _⟩ := q
                  have q2 := HY.out W hW
                  obtain ⟨z0, z1, z2, _⟩ := q2
                  go_simp
                  all_goals (try omega)
                clear hK K
                simp only [Act.put, List.setIfInBounds_toArray, List.set_cons_succ, List.set_cons_zero]
                refine wpQuiet_step (fun K hK => ?_)
                rw [if_pos (by rfl)]
                refine ⟨.agg #[.string ⟨x.1.toArray⟩, .string ⟨x.2.1.toArray⟩, .slice aa x.2.2.length ca], fun W hW => quiet_ok ?_, hK _ ?_⟩
                · have q := HX.out W hW
                  obtain ⟨m0, m1, m2, _⟩ := q
                  have q2 := HY.out W hW
                  obtain ⟨z0, z1, z2, _⟩ := q2
                  go_simp
                  all_goals (try omega)
                clear hK K
                simp only [Act.put, List.setIfInBounds_toArray, List.set_cons_succ, List.set_cons_zero]
                refine wpQuiet_step (fun K hK => ?_)
                rw [if_pos (by rfl)]
                refine ⟨.bool false, fun W hW => quiet_call (f := 26) (args := #[.agg #[.string ⟨y.1.toArray⟩, .string ⟨y.2.1.toArray⟩, vb], .agg #[.string ⟨x.1.toArray⟩, .string ⟨x.2.1.toArray⟩, .slice aa x.2.2.length ca]]) ?_ ?_, hK _ ?_⟩
                · go_simp
                · exact (HLO.out W (HBW.out W hW)).mono fun e w'' h => ⟨h.1, HTR.out _ _ hW h.2⟩
                clear hK K
                simp only [Act.put, List.setIfInBounds_toArray, List.set_cons_succ, List.set_cons_zero]
                refine wpQuiet_step (fun K hK => ?_)
                rw [if_pos (by rfl)]
                refine ⟨.bool true, fun W hW => quiet_ok ?_, hK _ ?_⟩
                · have q := HX.out W hW
                  obtain ⟨m0, m1, m2, _⟩ := q
                  have q2 := HY.out W hW
                  obtain ⟨z0, z1, z2, _⟩ := q2
                  go_simp
                  all_goals (try omega)
                clear hK K
                simp only [Act.put, List.setIfInBounds_toArray, List.set_cons_succ, List.set_cons_zero]
                refine wpQuiet_step (fun K hK => ?_)
                rw [if_pos (by rfl)]
                refine ⟨.bool true, fun W hW => quiet_ok ?_, hK _ ?_⟩
                · have q := HX.out W hW
                  obtain ⟨m0, m1, m2, _⟩ := q
                  have q2 := HY.out W hW
                  obtain ⟨z0, z1, z2, _⟩ := q2
                  go_simp
                  all_goals (try omega)
                clear hK K
                simp only [Act.put, List.setIfInBounds_toArray, List.set_cons_succ, List.set_cons_zero]
                refine wpQuiet_nil ?_
                intro W hW
                have hbW := HBW.out W hW
                go_wp2_with fail
                go_ret
                exact ⟨ret_bool HF.out.symm, hbW⟩
              | true =>
                have HU : Hid (∀ j, j < k + 1 → giB ap L j = true) := all_up HA.out (HGK.trans (by rw [h1, h2, h3, hl]; rfl))
                rw [hl] at HLO
                clear HBAD HG3 h1 h2 h3 HGZ HGS2 hl HGK hny hye hyc hkj hj hk0
                go_wp2_with fail
                rw [HW0.out]
                refine (HN.out _ (HBW.out _ (Below.refl _ _))).mono ?_
                rintro e w2 ⟨rfl, hb2⟩
                obtain ⟨m0, m1, m2, _⟩ := HX.out _ hb2
                go_wp2_with fail
                refine (HLB.out _).mono ?_
                rintro e w3 ⟨rfl, rfl⟩
                go_wp2_with fail
                refine (HTY.out _ hb2).mono ?_
                rintro e w4 ⟨rfl, rfl⟩
                have hbd := hb2.drew
                clear m0 m1 m2
                go_wp2_with fail
                refine wp_region_quiet (C := fun W => Below W0.heap.size W0 W) (by kernel_rfl) (by kernel_rfl) hbd ?_
                refine wpQuiet_step (fun K hK => ?_)
                rw [if_pos (by rfl)]
                refine ⟨.int .i64 (k : Int), fun W hW => quiet_ok ?_, hK _ ?_⟩
                · have q := HX.out W hW
                  obtain ⟨m0, m1, m2, _⟩ := q
                  have q2 := HY.out W hW
                  obtain ⟨z0, z1, z2, _⟩ := q2
                  go_simp
                  all_goals (try omega)
                clear hK K
                simp only [Act.put, List.setIfInBounds_toArray, List.set_cons_succ, List.set_cons_zero]
                refine wpQuiet_step (fun K hK => ?_)
                rw [if_pos (by rfl)]
                refine ⟨.bool true, fun W hW => quiet_ok ?_, hK _ ?_⟩
                · have q := HX.out W hW
                  obtain ⟨m0, m1, m2, _⟩ := q
                  have q2 := HY.out W hW
                  obtain ⟨z0, z1, z2, _⟩ := q2
                  go_simp
                  all_goals (try omega)
                clear hK K
                simp only [Act.put, List.setIfInBounds_toArray, List.set_cons_succ, List.set_cons_zero]
                refine wpQuiet_step (fun K hK => ?_)
                rw [if_pos (by rfl)]
                refine ⟨.bool true, fun W hW => quiet_ok ?_, hK _ ?_⟩
                · have q := HX.out W hW
                  obtain ⟨m0, m1, m2, _⟩ := q
                  have q2 := HY.out W hW
                  obtain ⟨z0, z1, z2, _⟩ := q2
                  go_simp
                  all_goals (try omega)
                clear hK K
                simp only [Act.put, List.setIfInBounds_toArray, List.set_cons_succ, List.set_cons_zero]
                refine wpQuiet_step (fun K hK => ?_)
                rw [if_pos (by rfl)]
                refine ⟨.slice (some ⟨b, o, none⟩) L.length cap, fun W hW => quiet_ok ?_, hK _ ?_⟩
                · have q := HX.out W hW
                  obtain ⟨m0, m1, m2, _⟩ := q
                  have q2 := HY.out W hW
                  obtain ⟨z0, z1, z2, _⟩ := q2
                  go_simp
                  all_goals (try omega)
                clear hK K
                simp only [Act.put, List.setIfInBounds_toArray, List.set_cons_succ, List.set_cons_zero]
                refine wpQuiet_step (fun K hK => ?_)
                rw [if_pos (by rfl)]
                refine ⟨.int .i64 (k : Int), fun W hW => quiet_ok ?_, hK _ ?_⟩
                · have q := HX.out W hW
                  obtain ⟨m0, m1, m2, _⟩ := q
                  have q2 := HY.out W hW
                  obtain ⟨z0, z1, z2, _⟩ := q2
                  go_simp
                  all_goals (try omega)
                clear hK K
                simp only [Act.put, List.setIfInBounds_toArray, List.set_cons_succ, List.set_cons_zero]
                refine wpQuiet_step (fun K hK => ?_)
                rw [if_pos (by rfl)]
                refine ⟨.int .i64 (j : Int), fun W hW => quiet_ok ?_, hK _ ?_⟩
                · have q := HX.out W hW
                  obtain ⟨m0, m1, m2, _⟩ := q
                  have q2 := HY.out W hW
                  obtain ⟨z0, z1, z2, _⟩ := q2
                  go_simp
                  all_goals (try omega)
                clear hK K
                simp only [Act.put, List.setIfInBounds_toArray, List.set_cons_succ, List.set_cons_zero]
                refine wpQuiet_step (fun K hK => ?_)
                rw [if_pos (by rfl)]
                refine ⟨.pointer (some ⟨b, o + j * 3, none⟩), fun W hW => quiet_ok ?_, hK _ ?_⟩
                · have q := HX.out W hW
                  obtain ⟨m0, m1, m2, _⟩ := q
                  have q2 := HY.out W hW
                  obtain ⟨z0, z1, z2, _⟩ := q2
                  go_simp
                  all_goals (try omega)
                clear hK K
                simp only [Act.put, List.setIfInBounds_toArray, List.set_cons_succ, List.set_cons_zero]
                refine wpQuiet_step (fun K hK => ?_)
                rw [if_pos (by rfl)]
                refine ⟨.agg #[.string ⟨y.1.toArray⟩, .string ⟨y.2.1.toArray⟩, vb], fun W hW => quiet_ok ?_, hK _ ?_⟩
                · have q := HX.out W hW
                  obtain ⟨m0, m1, m2, _⟩ := q
                  have q2 := HY.out W hW
                  obtain ⟨z0, z1, z2, _⟩ := q2
                  go_simp
                  all_goals (try omega)
                clear hK K
                simp only [Act.put, List.setIfInBounds_toArray, List.set_cons_succ, List.set_cons_zero]
                refine wpQuiet_step (fun K hK => ?_)
                rw [if_pos (by rfl)]
                refine ⟨.agg #[.string ⟨x.1.toArray⟩, .string ⟨x.2.1.toArray⟩, .slice aa x.2.2.length ca], fun W hW => quiet_ok ?_, hK _ ?_⟩
                · have q := HX.out W hW
                  obtain ⟨m0, m1, m2, _⟩ := q
                  have q2 := HY.out W hW
                  obtain ⟨z0, z1, z2, _⟩ := q2
                  go_simp
                  all_goals (try omega)
                clear hK K
                simp only [Act.put, List.setIfInBounds_toArray, List.set_cons_succ, List.set_cons_zero]
                refine wpQuiet_step (fun K hK => ?_)
                rw [if_pos (by rfl)]
                refine ⟨.bool true, fun W hW => quiet_call (f := 26) (args := #[.agg #[.string ⟨y.1.toArray⟩, .string ⟨y.2.1.toArray⟩, vb], .agg #[.string ⟨x.1.toArray⟩, .string ⟨x.2.1.toArray⟩, .slice aa x.2.2.length ca]]) ?_ ?_, hK _ ?_⟩
                · go_simp
                · exact (HLO.out W (HBW.out W hW)).mono fun e w'' h => ⟨h.1, HTR.out _ _ hW h.2⟩
                clear hK K
                simp only [Act.put, List.setIfInBounds_toArray, List.set_cons_succ, List.set_cons_zero]
                refine wpQuiet_step (fun K hK => ?_)
                rw [if_pos (by rfl)]
                refine ⟨.bool false, fun W hW => quiet_ok ?_, hK _ ?_⟩
                · have q := HX.out W hW
                  obtain ⟨m0, m1, m2, _⟩ := q
                  have q2 := HY.out W hW
                  obtain ⟨z0, z1, z2, _⟩ := q2
                  go_simp
                  all_goals (try omega)
                clear hK K
                simp only [Act.put, List.setIfInBounds_toArray, List.set_cons_succ, List.set_cons_zero]
                refine wpQuiet_step (fun K hK => ?_)
                rw [if_pos (by rfl)]
                refine ⟨.bool false, fun W hW => quiet_ok ?_, hK _ ?_⟩
                · have q := HX.out W hW
                  obtain ⟨m0, m1, m2, _⟩ := q
                  have q2 := HY.out W hW
                  obtain ⟨z0, z1, z2, _⟩ := q2
                  go_simp
                  all_goals (try omega)
                clear hK K
                simp only [Act.put, List.setIfInBounds_toArray, List.set_cons_succ, List.set_cons_zero]
                refine wpQuiet_nil ?_
                intro W hW
                have hbW := HBW.out W hW
                go_wp2_with fail
                go_roundw
                case rel => exact ⟨k + 1, by omega, by go_num, HU, hbW⟩
                case measure => simp [intOf]; omega
    · have HF : Hid (r = true) := HALL.out (fun j hj => HA.out j (by omega))
      go_wp2_with fail
      go_ret
      exact ⟨ret_bool HF.out.symm, hb⟩
end Go.Proofs.YtlmgipmolaeclaaDoor
