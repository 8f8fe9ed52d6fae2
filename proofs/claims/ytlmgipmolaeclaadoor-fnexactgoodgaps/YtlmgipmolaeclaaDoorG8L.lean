import Derived.Test.YtlmgipmolaeclaaDoorG8P
import Derived.BigQuiet
import Derived.Deep.QuietTactic
namespace Go.Proofs.YtlmgipmolaeclaaDoor
open Go.RowKit

set_option maxRecDepth 20000 in
set_option maxHeartbeats 8000000 in
theorem sGoodGaps_any (ap : List UInt8) (v : Value) (L : List (List UInt8 × List UInt8 × List Int)) (w : World) (hr : GRow w v L) (hx : Hid (∀ x ∈ L, x.1.length ≤ 1048576 ∧ x.2.1.length ≤ 1048576)) (hap : ap.length ≤ 1048576) :
    Calls Tryd.prog 7 #[.string ⟨ap.toArray⟩, v] w fun e w' => e = .returned (.bool (goodG ap L)) ∧ Below w.heap.size w w' := by
  obtain ⟨a, cap, rfl, hcap, hmax, HROW⟩ := grow_value hr
  clear hr
  obtain ⟨r, hrr⟩ : ∃ r, r = goodG ap L := ⟨_, rfl⟩
  have HRR : Hid (r = goodG ap L) := hrr
  rw [← hrr]
  clear hrr
  have HPRE : Hid (goodG ap L = (nameB ap && decide (1 ≤ L.length) && decide (L.length ≤ 40) && (gO L 0 == ap) && (List.range L.length).all (gsB ap L))) := rfl
  have HNA : Hid (∀ W, Calls Tryd.prog 18 #[.string ⟨ap.toArray⟩] W fun e w' => e = .returned (.bool (nameB ap)) ∧ Below W.heap.size W w') := fun W => sGoodName_any ⟨ap.toArray⟩ W (by rw [size_list]; omega)
  have HIN : Hid (∀ W, Calls Tryd.prog 19 #[.int .i64 (L.length : Int), .int .i64 1, .int .i64 40] W fun e w' => e = .returned (.bool (decide ((1 : Int) ≤ (L.length : Int)) && decide ((L.length : Int) ≤ 40))) ∧ w' = W) := fun W => l1In_any (L.length : Int) 1 40 W
  cases na : nameB ap with
  | false =>
    have HF : Hid (r = false) := HRR.out.trans (HPRE.out.trans (by rw [na]; rfl))
    rw [na] at HNA
    clear HPRE na
    go_enter Tryd.func7, Tryd.ntmps7
    go_wp2_with fail
    refine (HNA.out _).mono ?_
    rintro e w1 ⟨rfl, hb1⟩
    go_wp2_with fail
    go_ret
    exact ⟨ret_bool HF.out.symm, hb1⟩
  | true =>
  rw [na] at HNA
  by_cases nl : 1 ≤ L.length ∧ L.length ≤ 40
  case neg =>
    have HF : Hid (r = false) := HRR.out.trans (HPRE.out.trans (by
      by_cases g : 1 ≤ L.length
      · rw [decide_eq_false (show ¬ L.length ≤ 40 from fun h => nl ⟨g, h⟩)]; simp
      · rw [decide_eq_false g]; simp))
    have e0 : (decide ((1 : Int) ≤ (L.length : Int)) && decide ((L.length : Int) ≤ 40)) = false := by
      by_cases g : 1 ≤ L.length
      · rw [decide_eq_false (show ¬ (L.length : Int) ≤ 40 from fun h => nl ⟨g, by omega⟩)]; simp
      · rw [decide_eq_false (show ¬ (1 : Int) ≤ (L.length : Int) by omega)]; simp
    rw [e0] at HIN
    clear HPRE na nl e0
    go_enter Tryd.func7, Tryd.ntmps7
    go_wp2_with fail
    refine (HNA.out _).mono ?_
    rintro e w1 ⟨rfl, hb1⟩
    go_wp2_with fail
    refine (HIN.out _).mono ?_
    rintro e w2 ⟨rfl, rfl⟩
    go_wp2_with fail
    go_ret
    exact ⟨ret_bool HF.out.symm, hb1⟩
  have hln : 1 ≤ L.length := nl.1
  have hl40 : L.length ≤ 40 := nl.2
  rw [decide_eq_true (show (1 : Int) ≤ (L.length : Int) by omega), decide_eq_true (show (L.length : Int) ≤ 40 by omega), show (true && true) = true from rfl] at HIN
  obtain ⟨b, o, ha, hbl, hcel⟩ := HROW.out (by omega)
  subst ha
  have HCEL : Hid (∀ j, (hj : j < L.length) → ∃ va, GapAt w b (o + j * 3) L[j] va) := hcel
  obtain ⟨v0, q0⟩ := hcel 0 (by omega)
  rw [Nat.zero_mul, Nat.add_zero] at q0
  unfold GapAt at q0
  have HC0 : Hid (∀ W, Below w.heap.size w W → W.cell? ⟨b, o, none⟩ = some (.string ⟨(L[0]'(by omega)).1.toArray⟩)) := fun W hW => by rw [hW.cell (p := ⟨b, o, none⟩) hbl]; exact q0.1
  clear q0
  have HX0 : Hid (gO L 0 = (L[0]'(by omega)).1) := gO_at (by omega)
  obtain ⟨s0, hs0⟩ : ∃ s, s = (L[0]'(by omega)).1 := ⟨_, rfl⟩
  rw [← hs0] at HX0 HC0
  clear hs0 hcel HROW nl
  have hl0 : (0 : Int) < (L.length : Int) := by omega
  by_cases e0 : s0 = ap
  case neg =>
    have HF : Hid (r = false) := HRR.out.trans (HPRE.out.trans (by rw [HX0.out, show (s0 == ap) = false by simpa using e0]; simp))
    have e0' : (s0 == ap) = false := by simpa using e0
    have e0'' : (s0 != ap) = true := by simpa using e0
    clear HPRE na
    go_enter Tryd.func7, Tryd.ntmps7
    go_wp2_with fail
    refine (HNA.out _).mono ?_
    rintro e w1 ⟨rfl, hb1⟩
    have c0 := HC0.out _ hb1
    go_wp2_with fail
    refine (HIN.out _).mono ?_
    rintro e w2 ⟨rfl, rfl⟩
    go_wp2_with fail
    go_ret
    exact ⟨ret_bool HF.out.symm, hb1⟩
  have e0' : (s0 == ap) = true := by simpa using e0
  have e0'' : (s0 != ap) = false := by simpa using e0
  have HALL : Hid ((∀ j, j < L.length → gsB ap L j = true) → r = true) := fun h => HRR.out.trans (goodG_all na hln hl40 (HX0.out.trans e0) h)
  have HBADA : Hid (∀ k, k < L.length → gsB ap L k = false → r = false) := fun k hk h => HRR.out.trans (goodG_bad k hk h)
  clear HPRE e0 HX0 HRR na
  go_enter Tryd.func7, Tryd.ntmps7
  go_wp2_with fail
  refine (HNA.out _).mono ?_
  rintro e w1 ⟨rfl, hb1⟩
  have c0 := HC0.out _ hb1
  go_wp2_with fail
  refine (HIN.out _).mono ?_
  rintro e w2 ⟨rfl, rfl⟩
  go_wp2_with fail
  clear c0 e0' e0'' HNA HIN HC0
  go_loopw [28] (fun i wr => ∃ k : Nat, k ≤ L.length ∧ i = .int .i64 (k : Int) ∧ Hid (∀ j, j < k → gsB ap L j = true) ∧ Below w.heap.size w wr) (fun i _ => L.length - (intOf i).toNat)
  case atStart => exact ⟨0, Nat.zero_le _, rfl, fun j h => absurd h (Nat.not_lt_zero _), hb1⟩
  case round =>
    obtain ⟨k, hk, rfl, HA, hb⟩ := hrel
    clear hb1
    by_cases hlt : k < L.length
    · obtain ⟨va, hcx0⟩ := HCEL.out k hlt
      have hcx := hcx0.kept hb
      have hxl := hx.out _ (List.getElem_mem hlt)
      have hmlt : (k + 1) % L.length < L.length := Nat.mod_lt _ (by omega)
      obtain ⟨m, hm⟩ : ∃ m, m = (k + 1) % L.length := ⟨_, rfl⟩
      rw [← hm] at hmlt
      have hmr : ((k : Int) + 1).tmod (L.length : Int) = (m : Int) := by rw [hm, Int.tmod_eq_emod_of_nonneg (by omega), Int.natCast_emod]; simp
      have hzl := hx.out _ (List.getElem_mem hmlt)
      have HG : Hid (gsB ap L k = (nameB (L[k]'hlt).1 && belowB (L[k]'hlt).1 ap && (k == 0 || decide (cmpN (gO L (k - 1)) (L[k]'hlt).1 < 0)) && ((L[k]'hlt).2.1 == (L[m]'hmlt).1) && !((L[k]'hlt).2.2 == []) && typesB (L[k]'hlt).2.2)) := gs_at k m hlt hm hmlt
      have HBAD : Hid (gsB ap L k = false → r = false) := HBADA.out k hlt
      have HUPA : Hid (gsB ap L k = true → ∀ j, j < k + 1 → gsB ap L j = true) := fun h => all_up HA.out h
      obtain ⟨vz, hcz0⟩ := HCEL.out m hmlt
      obtain ⟨z, hze⟩ : ∃ z, z = L[m]'hmlt := ⟨_, rfl⟩
      obtain ⟨x, hxe⟩ : ∃ x, x = L[k]'hlt := ⟨_, rfl⟩
      rw [← hxe, ← hze] at HG
      rw [← hxe] at hcx hxl
      rw [← hze] at hcz0
      have hz : ZRow .i64 wr va x.2.2 := hcx.2.2.2
      unfold GapAt at hcx
      have c0 := hcx.1
      have c1 := hcx.2.1
      have c2 := hcx.2.2.1
      clear hcx
      obtain ⟨aa, ca, rfl, hca1, hca, HROW2⟩ := zrow_value hz
      obtain ⟨W0, hW0⟩ : ∃ W0, W0 = wr.alloc (.cells #[.string ⟨x.1.toArray⟩, .string ⟨x.2.1.toArray⟩, .slice aa x.2.2.length ca] 35) := ⟨_, rfl⟩
      have HW0 : Hid (wr.alloc (.cells #[.string ⟨x.1.toArray⟩, .string ⟨x.2.1.toArray⟩, .slice aa x.2.2.length ca] 35) = W0) := hW0.symm
      obtain ⟨gx, hgx⟩ : ∃ gx, gx = wr.heap.size := ⟨_, rfl⟩
      have HGX : Hid (wr.heap.size = gx) := hgx.symm
      have HTR : Hid (∀ W W', Below W0.heap.size W0 W → Below W.heap.size W W' → Below W0.heap.size W0 W') := fun W W' h1 h2 => h1.trans (h2.mono h1.size)
      have HX : Hid (∀ W, Below W0.heap.size W0 W → W.cell? ⟨gx, 0, none⟩ = some (.string ⟨x.1.toArray⟩) ∧ W.cell? ⟨gx, 1, none⟩ = some (.string ⟨x.2.1.toArray⟩) ∧ W.cell? ⟨gx, 2, none⟩ = some (.slice aa x.2.2.length ca) ∧ Below wr.heap.size wr W) := fun W hW => by rw [hW0] at hW; rw [hgx]; exact gap_facts hW
      have HBW : Hid (∀ W, Below W0.heap.size W0 W → Below w.heap.size w W) := fun W hW => hb.trans ((HX.out W hW).2.2.2.mono hb.size)
      have HZ : Hid (∀ W, Below W0.heap.size W0 W → W.cell? ⟨b, o + m * 3, none⟩ = some (.string ⟨z.1.toArray⟩) ∧ W.cell? ⟨b, o + m * 3 + 1, none⟩ = some (.string ⟨z.2.1.toArray⟩) ∧ W.cell? ⟨b, o + m * 3 + 2, none⟩ = some vz ∧ ZRow .i64 W vz z.2.2) := fun W hW => hcz0.kept (HBW.out W hW)
      have HN : Hid (∀ W, Calls Tryd.prog 18 #[.string ⟨x.1.toArray⟩] W fun e w' => e = .returned (.bool (nameB x.1)) ∧ Below W.heap.size W w') := fun W => sGoodName_any ⟨x.1.toArray⟩ W (by rw [size_list]; omega)
      have HLB : Hid (∀ W, Calls Tryd.prog 20 #[.string ⟨x.1.toArray⟩, .string ⟨ap.toArray⟩] W fun e w' => e = .returned (.bool (belowB x.1 ap)) ∧ Below W.heap.size W w') := fun W => (l1Below_any ⟨x.1.toArray⟩ ⟨ap.toArray⟩ W (by rw [size_list]; omega) (by rw [size_list]; omega)).mono fun e w' h => ⟨h.1, by rw [h.2]; exact Below.refl _ _⟩
      have hbd : Below W0.heap.size W0 W0.drew := (Below.refl _ _).drew
      have HGB : Hid (∀ j, (hj : k = j + 1) → nameB (L[j]'(by omega)).1 = true) := fun j hj => by
        have h := HA.out j (by omega)
        unfold gsB at h
        rw [gO_at (show j < L.length by omega)] at h
        simp only [Bool.and_eq_true] at h
        exact h.1.1.1.1.1
      have HROWS : Hid (∀ j, (hj : k = j + 1) → ∃ y vb, y = L[j]'(by omega) ∧ y.1 = gO L (k - 1) ∧ nameB y.1 = true ∧ y.1.length ≤ 1048576 ∧ ∀ W, Below w.heap.size w W → GapAt W b (o + j * 3) y vb) := fun j hj => by
        obtain ⟨vb, h⟩ := HCEL.out j (by omega)
        exact ⟨_, vb, rfl, by rw [show k - 1 = j by omega, gO_at (show j < L.length by omega)], HGB.out j hj, (hx.out _ (List.getElem_mem (by omega))).1, fun W hW => h.kept hW⟩
      have hlk : (k : Int) < (L.length : Int) := by omega
      have hml : (m : Int) < (L.length : Int) := by omega
      have wk1 : IntKind.i64.wrap ((k : Int) + 1) = (k : Int) + 1 := wrap_small _ (by omega) (by omega)
      have wm : IntKind.i64.wrap (m : Int) = (m : Int) := wrap_small _ (by omega) (by omega)
      have hL0 : ¬ (L.length : Int) = 0 := by omega
      have hLn : ¬ L = [] := fun h => by rw [h] at hln; simp at hln
      have hL0b : ((L.length : Int) == 0) = false := beq_eq_false_iff_ne.2 (by omega)
      clear hcx0 hcz0 hxe hze hW0 hgx hm HBADA HCEL hz hzl
      cases h1 : nameB x.1 with
      | false =>
        have HF : Hid (r = false) := HBAD.out (HG.out.trans (by rw [h1]; rfl))
        rw [h1] at HN
        clear HBAD HG h1 HUPA HGB HROWS
        obtain ⟨u37, hu37⟩ : ∃ u : Bool, u = true := ⟨_, rfl⟩
        have HU37 : Hid (u37 = true) := hu37
        clear hu37
        obtain ⟨u44, hu44⟩ : ∃ u : Bool, u = true := ⟨_, rfl⟩
        have HU44 : Hid (u44 = true) := hu44
        clear hu44
        obtain ⟨u60, hu60⟩ : ∃ u : Bool, u = true := ⟨_, rfl⟩
        have HU60 : Hid (u60 = true) := hu60
        clear hu60
        obtain ⟨u74, hu74⟩ : ∃ u : Bool, u = true := ⟨_, rfl⟩
        have HU74 : Hid (u74 = true) := hu74
        clear hu74
        go_wp2_with fail
        rw [HW0.out, HGX.out]
        refine wp_region_quiet (C := fun W => Below W0.heap.size W0 W) (by kernel_rfl) (by kernel_rfl) hbd ?_
        refine wpQuiet_step (fun K hK => ?_)
        rw [if_pos (by rfl)]
        refine ⟨.pointer (some ⟨gx, 0, none⟩), fun W hW => quiet_ok ?_, hK _ ?_⟩
        · have q := HX.out W hW
          obtain ⟨m0, m1, m2, _⟩ := q
          go_simp
          all_goals (try omega)
        clear hK K
        simp only [Act.put, List.setIfInBounds_toArray, List.set_cons_succ, List.set_cons_zero]
        refine wpQuiet_step (fun K hK => ?_)
        rw [if_pos (by rfl)]
        refine ⟨.string ⟨x.1.toArray⟩, fun W hW => quiet_ok ?_, hK _ ?_⟩
        · have q := HX.out W hW
          obtain ⟨m0, m1, m2, _⟩ := q
          go_simp
          all_goals (try omega)
        clear hK K
        simp only [Act.put, List.setIfInBounds_toArray, List.set_cons_succ, List.set_cons_zero]
        refine wpQuiet_step (fun K hK => ?_)
        rw [if_pos (by rfl)]
        refine ⟨.bool false, fun W hW => quiet_call (f := 18) (args := #[.string ⟨x.1.toArray⟩]) ?_ ?_, hK _ ?_⟩
        · go_simp
        · exact (HN.out W).mono fun e w'' h => ⟨h.1, HTR.out _ _ hW h.2⟩
        clear hK K
        simp only [Act.put, List.setIfInBounds_toArray, List.set_cons_succ, List.set_cons_zero]
        refine wpQuiet_step (fun K hK => ?_)
        rw [if_pos (by rfl)]
        refine ⟨.bool true, fun W hW => quiet_ok ?_, hK _ ?_⟩
        · have q := HX.out W hW
          obtain ⟨m0, m1, m2, _⟩ := q
          go_simp
          all_goals (try omega)
        clear hK K
        simp only [Act.put, List.setIfInBounds_toArray, List.set_cons_succ, List.set_cons_zero]
        refine wpQuiet_step (fun K hK => ?_)
        rw [if_pos (by rfl)]
        refine ⟨.bool u37, fun W hW => quiet_ok ?_, hK _ ?_⟩
        · have q := HX.out W hW
          obtain ⟨m0, m1, m2, _⟩ := q
          have v37 := HU37.out
          go_simp
          all_goals (try omega)
        clear hK K
        simp only [Act.put, List.setIfInBounds_toArray, List.set_cons_succ, List.set_cons_zero]
        refine BigFrame.wpQuiet_skip (by show (some u37 == some false) = false; rw [HU37.out]; rfl) ?_
        simp only [Act.put, List.setIfInBounds_toArray, List.set_cons_succ, List.set_cons_zero]
        refine BigFrame.wpQuiet_skip (by show (some u37 == some false) = false; rw [HU37.out]; rfl) ?_
        simp only [Act.put, List.setIfInBounds_toArray, List.set_cons_succ, List.set_cons_zero]
        refine BigFrame.wpQuiet_skip (by show (some u37 == some false) = false; rw [HU37.out]; rfl) ?_
        simp only [Act.put, List.setIfInBounds_toArray, List.set_cons_succ, List.set_cons_zero]
        refine BigFrame.wpQuiet_skip (by show (some u37 == some false) = false; rw [HU37.out]; rfl) ?_
        simp only [Act.put, List.setIfInBounds_toArray, List.set_cons_succ, List.set_cons_zero]
        refine BigFrame.wpQuiet_skip (by show (some u37 == some false) = false; rw [HU37.out]; rfl) ?_
        simp only [Act.put, List.setIfInBounds_toArray, List.set_cons_succ, List.set_cons_zero]
        refine wpQuiet_step (fun K hK => ?_)
        rw [if_pos (by rfl)]
        refine ⟨.bool true, fun W hW => quiet_ok ?_, hK _ ?_⟩
        · have q := HX.out W hW
          obtain ⟨m0, m1, m2, _⟩ := q
          have v37 := HU37.out
          go_simp
          all_goals (try omega)
        clear hK K
        simp only [Act.put, List.setIfInBounds_toArray, List.set_cons_succ, List.set_cons_zero]
        refine wpQuiet_step (fun K hK => ?_)
        rw [if_pos (by rfl)]
        refine ⟨.bool u44, fun W hW => quiet_ok ?_, hK _ ?_⟩
        · have q := HX.out W hW
          obtain ⟨m0, m1, m2, _⟩ := q
          have v37 := HU37.out
          have v44 := HU44.out
          go_simp
          all_goals (try omega)
        clear hK K
        simp only [Act.put, List.setIfInBounds_toArray, List.set_cons_succ, List.set_cons_zero]
        refine BigFrame.wpQuiet_skip (by show (some u44 == some false) = false; rw [HU44.out]; rfl) ?_
        simp only [Act.put, List.setIfInBounds_toArray, List.set_cons_succ, List.set_cons_zero]
        refine BigFrame.wpQuiet_skip (by show (some u44 == some false) = false; rw [HU44.out]; rfl) ?_
        simp only [Act.put, List.setIfInBounds_toArray, List.set_cons_succ, List.set_cons_zero]
        refine BigFrame.wpQuiet_skip (by show (some u44 == some false) = false; rw [HU44.out]; rfl) ?_
        simp only [Act.put, List.setIfInBounds_toArray, List.set_cons_succ, List.set_cons_zero]
        generalize hund : (undef : Value) = un
        refine BigFrame.wpQuiet_skip (by rw [← hund]; rfl) ?_
        simp only [Act.put, List.setIfInBounds_toArray, List.set_cons_succ, List.set_cons_zero]
        refine BigFrame.wpQuiet_skip (by rw [← hund]; rfl) ?_
        simp only [Act.put, List.setIfInBounds_toArray, List.set_cons_succ, List.set_cons_zero]
        refine BigFrame.wpQuiet_skip (by rw [← hund]; rfl) ?_
        simp only [Act.put, List.setIfInBounds_toArray, List.set_cons_succ, List.set_cons_zero]
        refine BigFrame.wpQuiet_skip (by rw [← hund]; rfl) ?_
        simp only [Act.put, List.setIfInBounds_toArray, List.set_cons_succ, List.set_cons_zero]
        refine BigFrame.wpQuiet_skip (by rw [← hund]; rfl) ?_
        simp only [Act.put, List.setIfInBounds_toArray, List.set_cons_succ, List.set_cons_zero]
        refine BigFrame.wpQuiet_skip (by rw [← hund]; rfl) ?_
        simp only [Act.put, List.setIfInBounds_toArray, List.set_cons_succ, List.set_cons_zero]
        refine BigFrame.wpQuiet_skip (by rw [← hund]; rfl) ?_
        simp only [Act.put, List.setIfInBounds_toArray, List.set_cons_succ, List.set_cons_zero]
        refine BigFrame.wpQuiet_skip (by rw [← hund]; rfl) ?_
        simp only [Act.put, List.setIfInBounds_toArray, List.set_cons_succ, List.set_cons_zero]
        refine BigFrame.wpQuiet_skip (by rw [← hund]; rfl) ?_
        simp only [Act.put, List.setIfInBounds_toArray, List.set_cons_succ, List.set_cons_zero]
        refine BigFrame.wpQuiet_skip (by rw [← hund]; rfl) ?_
        simp only [Act.put, List.setIfInBounds_toArray, List.set_cons_succ, List.set_cons_zero]
        refine BigFrame.wpQuiet_skip (by show (some u44 == some false) = false; rw [HU44.out]; rfl) ?_
        simp only [Act.put, List.setIfInBounds_toArray, List.set_cons_succ, List.set_cons_zero]
        refine wpQuiet_step (fun K hK => ?_)
        rw [if_pos (by rfl)]
        refine ⟨.bool true, fun W hW => quiet_ok ?_, hK _ ?_⟩
        · have q := HX.out W hW
          obtain ⟨m0, m1, m2, _⟩ := q
          have v37 := HU37.out
          have v44 := HU44.out
          go_simp
          all_goals (try omega)
        clear hK K
        simp only [Act.put, List.setIfInBounds_toArray, List.set_cons_succ, List.set_cons_zero]
        refine wpQuiet_step (fun K hK => ?_)
        rw [if_pos (by rfl)]
        refine ⟨.bool u60, fun W hW => quiet_ok ?_, hK _ ?_⟩
        · have q := HX.out W hW
          obtain ⟨m0, m1, m2, _⟩ := q
          have v37 := HU37.out
          have v44 := HU44.out
          have v60 := HU60.out
          go_simp
          all_goals (try omega)
        clear hK K
        simp only [Act.put, List.setIfInBounds_toArray, List.set_cons_succ, List.set_cons_zero]
        refine BigFrame.wpQuiet_skip (by show (some u60 == some false) = false; rw [HU60.out]; rfl) ?_
        simp only [Act.put, List.setIfInBounds_toArray, List.set_cons_succ, List.set_cons_zero]
        refine BigFrame.wpQuiet_skip (by show (some u60 == some false) = false; rw [HU60.out]; rfl) ?_
        simp only [Act.put, List.setIfInBounds_toArray, List.set_cons_succ, List.set_cons_zero]
        refine BigFrame.wpQuiet_skip (by show (some u60 == some false) = false; rw [HU60.out]; rfl) ?_
        simp only [Act.put, List.setIfInBounds_toArray, List.set_cons_succ, List.set_cons_zero]
        refine BigFrame.wpQuiet_skip (by show (some u60 == some false) = false; rw [HU60.out]; rfl) ?_
        simp only [Act.put, List.setIfInBounds_toArray, List.set_cons_succ, List.set_cons_zero]
        refine BigFrame.wpQuiet_skip (by show (some u60 == some false) = false; rw [HU60.out]; rfl) ?_
        simp only [Act.put, List.setIfInBounds_toArray, List.set_cons_succ, List.set_cons_zero]
        refine BigFrame.wpQuiet_skip (by show (some u60 == some false) = false; rw [HU60.out]; rfl) ?_
        simp only [Act.put, List.setIfInBounds_toArray, List.set_cons_succ, List.set_cons_zero]
        refine BigFrame.wpQuiet_skip (by show (some u60 == some false) = false; rw [HU60.out]; rfl) ?_
        simp only [Act.put, List.setIfInBounds_toArray, List.set_cons_succ, List.set_cons_zero]
        refine BigFrame.wpQuiet_skip (by show (some u60 == some false) = false; rw [HU60.out]; rfl) ?_
        simp only [Act.put, List.setIfInBounds_toArray, List.set_cons_succ, List.set_cons_zero]
        refine BigFrame.wpQuiet_skip (by show (some u60 == some false) = false; rw [HU60.out]; rfl) ?_
        simp only [Act.put, List.setIfInBounds_toArray, List.set_cons_succ, List.set_cons_zero]
        refine BigFrame.wpQuiet_skip (by show (some u60 == some false) = false; rw [HU60.out]; rfl) ?_
        simp only [Act.put, List.setIfInBounds_toArray, List.set_cons_succ, List.set_cons_zero]
        refine BigFrame.wpQuiet_skip (by show (some u60 == some false) = false; rw [HU60.out]; rfl) ?_
        simp only [Act.put, List.setIfInBounds_toArray, List.set_cons_succ, List.set_cons_zero]
        refine BigFrame.wpQuiet_skip (by show (some u60 == some false) = false; rw [HU60.out]; rfl) ?_
        simp only [Act.put, List.setIfInBounds_toArray, List.set_cons_succ, List.set_cons_zero]
        refine wpQuiet_step (fun K hK => ?_)
        rw [if_pos (by rfl)]
        refine ⟨.bool true, fun W hW => quiet_ok ?_, hK _ ?_⟩
        · have q := HX.out W hW
          obtain ⟨m0, m1, m2, _⟩ := q
          have v37 := HU37.out
          have v44 := HU44.out
          have v60 := HU60.out
          go_simp
          all_goals (try omega)
        clear hK K
        simp only [Act.put, List.setIfInBounds_toArray, List.set_cons_succ, List.set_cons_zero]
        refine wpQuiet_step (fun K hK => ?_)
        rw [if_pos (by rfl)]
        refine ⟨.bool u74, fun W hW => quiet_ok ?_, hK _ ?_⟩
        · have q := HX.out W hW
          obtain ⟨m0, m1, m2, _⟩ := q
          have v37 := HU37.out
          have v44 := HU44.out
          have v60 := HU60.out
          have v74 := HU74.out
          go_simp
          all_goals (try omega)
        clear hK K
        simp only [Act.put, List.setIfInBounds_toArray, List.set_cons_succ, List.set_cons_zero]
        refine BigFrame.wpQuiet_skip (by show (some u74 == some false) = false; rw [HU74.out]; rfl) ?_
        simp only [Act.put, List.setIfInBounds_toArray, List.set_cons_succ, List.set_cons_zero]
        refine BigFrame.wpQuiet_skip (by show (some u74 == some false) = false; rw [HU74.out]; rfl) ?_
        simp only [Act.put, List.setIfInBounds_toArray, List.set_cons_succ, List.set_cons_zero]
        refine BigFrame.wpQuiet_skip (by show (some u74 == some false) = false; rw [HU74.out]; rfl) ?_
        simp only [Act.put, List.setIfInBounds_toArray, List.set_cons_succ, List.set_cons_zero]
        refine BigFrame.wpQuiet_skip (by show (some u74 == some false) = false; rw [HU74.out]; rfl) ?_
        simp only [Act.put, List.setIfInBounds_toArray, List.set_cons_succ, List.set_cons_zero]
        refine wpQuiet_step (fun K hK => ?_)
        rw [if_pos (by rfl)]
        refine ⟨.bool true, fun W hW => quiet_ok ?_, hK _ ?_⟩
        · have q := HX.out W hW
          obtain ⟨m0, m1, m2, _⟩ := q
          have v37 := HU37.out
          have v44 := HU44.out
          have v60 := HU60.out
          have v74 := HU74.out
          go_simp
          all_goals (try omega)
        clear hK K
        simp only [Act.put, List.setIfInBounds_toArray, List.set_cons_succ, List.set_cons_zero]
        subst hund
        refine wpQuiet_nil ?_
        intro W hW
        have hbW := HBW.out W hW
        go_wp2_with fail
        go_ret
        exact ⟨ret_bool HF.out.symm, hbW⟩
      | true =>
      rw [h1] at HN
      cases h2 : belowB x.1 ap with
      | false =>
        have HF : Hid (r = false) := HBAD.out (HG.out.trans (by rw [h2]; simp))
        rw [h2] at HLB
        clear HBAD HG h1 h2 HUPA HGB HROWS
        obtain ⟨u44, hu44⟩ : ∃ u : Bool, u = true := ⟨_, rfl⟩
        have HU44 : Hid (u44 = true) := hu44
        clear hu44
        obtain ⟨u60, hu60⟩ : ∃ u : Bool, u = true := ⟨_, rfl⟩
        have HU60 : Hid (u60 = true) := hu60
        clear hu60
        obtain ⟨u74, hu74⟩ : ∃ u : Bool, u = true := ⟨_, rfl⟩
        have HU74 : Hid (u74 = true) := hu74
        clear hu74
        go_wp2_with fail
        rw [HW0.out, HGX.out]
        refine wp_region_quiet (C := fun W => Below W0.heap.size W0 W) (by kernel_rfl) (by kernel_rfl) hbd ?_
        refine wpQuiet_step (fun K hK => ?_)
        rw [if_pos (by rfl)]
        refine ⟨.pointer (some ⟨gx, 0, none⟩), fun W hW => quiet_ok ?_, hK _ ?_⟩
        · have q := HX.out W hW
          obtain ⟨m0, m1, m2, _⟩ := q
          go_simp
          all_goals (try omega)
        clear hK K
        simp only [Act.put, List.setIfInBounds_toArray, List.set_cons_succ, List.set_cons_zero]
        refine wpQuiet_step (fun K hK => ?_)
        rw [if_pos (by rfl)]
        refine ⟨.string ⟨x.1.toArray⟩, fun W hW => quiet_ok ?_, hK _ ?_⟩
        · have q := HX.out W hW
          obtain ⟨m0, m1, m2, _⟩ := q
          go_simp
          all_goals (try omega)
        clear hK K
        simp only [Act.put, List.setIfInBounds_toArray, List.set_cons_succ, List.set_cons_zero]
        refine wpQuiet_step (fun K hK => ?_)
        rw [if_pos (by rfl)]
        refine ⟨.bool true, fun W hW => quiet_call (f := 18) (args := #[.string ⟨x.1.toArray⟩]) ?_ ?_, hK _ ?_⟩
        · go_simp
        · exact (HN.out W).mono fun e w'' h => ⟨h.1, HTR.out _ _ hW h.2⟩
        clear hK K
        simp only [Act.put, List.setIfInBounds_toArray, List.set_cons_succ, List.set_cons_zero]
        refine wpQuiet_step (fun K hK => ?_)
        rw [if_pos (by rfl)]
        refine ⟨.bool false, fun W hW => quiet_ok ?_, hK _ ?_⟩
        · have q := HX.out W hW
          obtain ⟨m0, m1, m2, _⟩ := q
          go_simp
          all_goals (try omega)
        clear hK K
        simp only [Act.put, List.setIfInBounds_toArray, List.set_cons_succ, List.set_cons_zero]
        refine wpQuiet_step (fun K hK => ?_)
        rw [if_pos (by rfl)]
        refine ⟨.bool false, fun W hW => quiet_ok ?_, hK _ ?_⟩
        · have q := HX.out W hW
          obtain ⟨m0, m1, m2, _⟩ := q
          go_simp
          all_goals (try omega)
        clear hK K
        simp only [Act.put, List.setIfInBounds_toArray, List.set_cons_succ, List.set_cons_zero]
        refine wpQuiet_step (fun K hK => ?_)
        rw [if_pos (by rfl)]
        refine ⟨.pointer (some ⟨gx, 0, none⟩), fun W hW => quiet_ok ?_, hK _ ?_⟩
        · have q := HX.out W hW
          obtain ⟨m0, m1, m2, _⟩ := q
          go_simp
          all_goals (try omega)
        clear hK K
        simp only [Act.put, List.setIfInBounds_toArray, List.set_cons_succ, List.set_cons_zero]
        refine wpQuiet_step (fun K hK => ?_)
        rw [if_pos (by rfl)]
        refine ⟨.string ⟨x.1.toArray⟩, fun W hW => quiet_ok ?_, hK _ ?_⟩
        · have q := HX.out W hW
          obtain ⟨m0, m1, m2, _⟩ := q
          go_simp
          all_goals (try omega)
        clear hK K
        simp only [Act.put, List.setIfInBounds_toArray, List.set_cons_succ, List.set_cons_zero]
        refine wpQuiet_step (fun K hK => ?_)
        rw [if_pos (by rfl)]
        refine ⟨.string ⟨ap.toArray⟩, fun W hW => quiet_ok ?_, hK _ ?_⟩
        · have q := HX.out W hW
          obtain ⟨m0, m1, m2, _⟩ := q
          go_simp
          all_goals (try omega)
        clear hK K
        simp only [Act.put, List.setIfInBounds_toArray, List.set_cons_succ, List.set_cons_zero]
        refine wpQuiet_step (fun K hK => ?_)
        rw [if_pos (by rfl)]
        refine ⟨.bool false, fun W hW => quiet_call (f := 20) (args := #[.string ⟨x.1.toArray⟩, .string ⟨ap.toArray⟩]) ?_ ?_, hK _ ?_⟩
        · go_simp
        · exact (HLB.out W).mono fun e w'' h => ⟨h.1, HTR.out _ _ hW h.2⟩
        clear hK K
        simp only [Act.put, List.setIfInBounds_toArray, List.set_cons_succ, List.set_cons_zero]
        refine wpQuiet_step (fun K hK => ?_)
        rw [if_pos (by rfl)]
        refine ⟨.bool true, fun W hW => quiet_ok ?_, hK _ ?_⟩
        · have q := HX.out W hW
          obtain ⟨m0, m1, m2, _⟩ := q
          go_simp
          all_goals (try omega)
        clear hK K
        simp only [Act.put, List.setIfInBounds_toArray, List.set_cons_succ, List.set_cons_zero]
        refine wpQuiet_step (fun K hK => ?_)
        rw [if_pos (by rfl)]
        refine ⟨.bool true, fun W hW => quiet_ok ?_, hK _ ?_⟩
        · have q := HX.out W hW
          obtain ⟨m0, m1, m2, _⟩ := q
          go_simp
          all_goals (try omega)
        clear hK K
        simp only [Act.put, List.setIfInBounds_toArray, List.set_cons_succ, List.set_cons_zero]
        refine wpQuiet_step (fun K hK => ?_)
        rw [if_pos (by rfl)]
        refine ⟨.bool u44, fun W hW => quiet_ok ?_, hK _ ?_⟩
        · have q := HX.out W hW
          obtain ⟨m0, m1, m2, _⟩ := q
          have v44 := HU44.out
          go_simp
          all_goals (try omega)
        clear hK K
        simp only [Act.put, List.setIfInBounds_toArray, List.set_cons_succ, List.set_cons_zero]
        refine BigFrame.wpQuiet_skip (by show (some u44 == some false) = false; rw [HU44.out]; rfl) ?_
        simp only [Act.put, List.setIfInBounds_toArray, List.set_cons_succ, List.set_cons_zero]
        refine BigFrame.wpQuiet_skip (by show (some u44 == some false) = false; rw [HU44.out]; rfl) ?_
        simp only [Act.put, List.setIfInBounds_toArray, List.set_cons_succ, List.set_cons_zero]
        refine BigFrame.wpQuiet_skip (by show (some u44 == some false) = false; rw [HU44.out]; rfl) ?_
        simp only [Act.put, List.setIfInBounds_toArray, List.set_cons_succ, List.set_cons_zero]
        generalize hund : (undef : Value) = un
        refine BigFrame.wpQuiet_skip (by rw [← hund]; rfl) ?_
        simp only [Act.put, List.setIfInBounds_toArray, List.set_cons_succ, List.set_cons_zero]
        refine BigFrame.wpQuiet_skip (by rw [← hund]; rfl) ?_
        simp only [Act.put, List.setIfInBounds_toArray, List.set_cons_succ, List.set_cons_zero]
        refine BigFrame.wpQuiet_skip (by rw [← hund]; rfl) ?_
        simp only [Act.put, List.setIfInBounds_toArray, List.set_cons_succ, List.set_cons_zero]
        refine BigFrame.wpQuiet_skip (by rw [← hund]; rfl) ?_
        simp only [Act.put, List.setIfInBounds_toArray, List.set_cons_succ, List.set_cons_zero]
        refine BigFrame.wpQuiet_skip (by rw [← hund]; rfl) ?_
        simp only [Act.put, List.setIfInBounds_toArray, List.set_cons_succ, List.set_cons_zero]
        refine BigFrame.wpQuiet_skip (by rw [← hund]; rfl) ?_
        simp only [Act.put, List.setIfInBounds_toArray, List.set_cons_succ, List.set_cons_zero]
        refine BigFrame.wpQuiet_skip (by rw [← hund]; rfl) ?_
        simp only [Act.put, List.setIfInBounds_toArray, List.set_cons_succ, List.set_cons_zero]
        refine BigFrame.wpQuiet_skip (by rw [← hund]; rfl) ?_
        simp only [Act.put, List.setIfInBounds_toArray, List.set_cons_succ, List.set_cons_zero]
        refine BigFrame.wpQuiet_skip (by rw [← hund]; rfl) ?_
        simp only [Act.put, List.setIfInBounds_toArray, List.set_cons_succ, List.set_cons_zero]
        refine BigFrame.wpQuiet_skip (by rw [← hund]; rfl) ?_
        simp only [Act.put, List.setIfInBounds_toArray, List.set_cons_succ, List.set_cons_zero]
        refine BigFrame.wpQuiet_skip (by show (some u44 == some false) = false; rw [HU44.out]; rfl) ?_
        simp only [Act.put, List.setIfInBounds_toArray, List.set_cons_succ, List.set_cons_zero]
        refine wpQuiet_step (fun K hK => ?_)
        rw [if_pos (by rfl)]
        refine ⟨.bool true, fun W hW => quiet_ok ?_, hK _ ?_⟩
        · have q := HX.out W hW
          obtain ⟨m0, m1, m2, _⟩ := q
          have v44 := HU44.out
          go_simp
          all_goals (try omega)
        clear hK K
        simp only [Act.put, List.setIfInBounds_toArray, List.set_cons_succ, List.set_cons_zero]
        refine wpQuiet_step (fun K hK => ?_)
        rw [if_pos (by rfl)]
        refine ⟨.bool u60, fun W hW => quiet_ok ?_, hK _ ?_⟩
        · have q := HX.out W hW
          obtain ⟨m0, m1, m2, _⟩ := q
          have v44 := HU44.out
          have v60 := HU60.out
          go_simp
          all_goals (try omega)
        clear hK K
        simp only [Act.put, List.setIfInBounds_toArray, List.set_cons_succ, List.set_cons_zero]
        refine BigFrame.wpQuiet_skip (by show (some u60 == some false) = false; rw [HU60.out]; rfl) ?_
        simp only [Act.put, List.setIfInBounds_toArray, List.set_cons_succ, List.set_cons_zero]
        refine BigFrame.wpQuiet_skip (by show (some u60 == some false) = false; rw [HU60.out]; rfl) ?_
        simp only [Act.put, List.setIfInBounds_toArray, List.set_cons_succ, List.set_cons_zero]
        refine BigFrame.wpQuiet_skip (by show (some u60 == some false) = false; rw [HU60.out]; rfl) ?_
        simp only [Act.put, List.setIfInBounds_toArray, List.set_cons_succ, List.set_cons_zero]
        refine BigFrame.wpQuiet_skip (by show (some u60 == some false) = false; rw [HU60.out]; rfl) ?_
        simp only [Act.put, List.setIfInBounds_toArray, List.set_cons_succ, List.set_cons_zero]
        refine BigFrame.wpQuiet_skip (by show (some u60 == some false) = false; rw [HU60.out]; rfl) ?_
        simp only [Act.put, List.setIfInBounds_toArray, List.set_cons_succ, List.set_cons_zero]
        refine BigFrame.wpQuiet_skip (by show (some u60 == some false) = false; rw [HU60.out]; rfl) ?_
        simp only [Act.put, List.setIfInBounds_toArray, List.set_cons_succ, List.set_cons_zero]
        refine BigFrame.wpQuiet_skip (by show (some u60 == some false) = false; rw [HU60.out]; rfl) ?_
        simp only [Act.put, List.setIfInBounds_toArray, List.set_cons_succ, List.set_cons_zero]
        refine BigFrame.wpQuiet_skip (by show (some u60 == some false) = false; rw [HU60.out]; rfl) ?_
        simp only [Act.put, List.setIfInBounds_toArray, List.set_cons_succ, List.set_cons_zero]
        refine BigFrame.wpQuiet_skip (by show (some u60 == some false) = false; rw [HU60.out]; rfl) ?_
        simp only [Act.put, List.setIfInBounds_toArray, List.set_cons_succ, List.set_cons_zero]
        refine BigFrame.wpQuiet_skip (by show (some u60 == some false) = false; rw [HU60.out]; rfl) ?_
        simp only [Act.put, List.setIfInBounds_toArray, List.set_cons_succ, List.set_cons_zero]
        refine BigFrame.wpQuiet_skip (by show (some u60 == some false) = false; rw [HU60.out]; rfl) ?_
        simp only [Act.put, List.setIfInBounds_toArray, List.set_cons_succ, List.set_cons_zero]
        refine BigFrame.wpQuiet_skip (by show (some u60 == some false) = false; rw [HU60.out]; rfl) ?_
        simp only [Act.put, List.setIfInBounds_toArray, List.set_cons_succ, List.set_cons_zero]
        refine wpQuiet_step (fun K hK => ?_)
        rw [if_pos (by rfl)]
        refine ⟨.bool true, fun W hW => quiet_ok ?_, hK _ ?_⟩
        · have q := HX.out W hW
          obtain ⟨m0, m1, m2, _⟩ := q
          have v44 := HU44.out
          have v60 := HU60.out
          go_simp
          all_goals (try omega)
        clear hK K
        simp only [Act.put, List.setIfInBounds_toArray, List.set_cons_succ, List.set_cons_zero]
        refine wpQuiet_step (fun K hK => ?_)
        rw [if_pos (by rfl)]
        refine ⟨.bool u74, fun W hW => quiet_ok ?_, hK _ ?_⟩
        · have q := HX.out W hW
          obtain ⟨m0, m1, m2, _⟩ := q
          have v44 := HU44.out
          have v60 := HU60.out
          have v74 := HU74.out
          go_simp
          all_goals (try omega)
        clear hK K
        simp only [Act.put, List.setIfInBounds_toArray, List.set_cons_succ, List.set_cons_zero]
        refine BigFrame.wpQuiet_skip (by show (some u74 == some false) = false; rw [HU74.out]; rfl) ?_
        simp only [Act.put, List.setIfInBounds_toArray, List.set_cons_succ, List.set_cons_zero]
        refine BigFrame.wpQuiet_skip (by show (some u74 == some false) = false; rw [HU74.out]; rfl) ?_
        simp only [Act.put, List.setIfInBounds_toArray, List.set_cons_succ, List.set_cons_zero]
        refine BigFrame.wpQuiet_skip (by show (some u74 == some false) = false; rw [HU74.out]; rfl) ?_
        simp only [Act.put, List.setIfInBounds_toArray, List.set_cons_succ, List.set_cons_zero]
        refine BigFrame.wpQuiet_skip (by show (some u74 == some false) = false; rw [HU74.out]; rfl) ?_
        simp only [Act.put, List.setIfInBounds_toArray, List.set_cons_succ, List.set_cons_zero]
        refine wpQuiet_step (fun K hK => ?_)
        rw [if_pos (by rfl)]
        refine ⟨.bool true, fun W hW => quiet_ok ?_, hK _ ?_⟩
        · have q := HX.out W hW
          obtain ⟨m0, m1, m2, _⟩ := q
          have v44 := HU44.out
          have v60 := HU60.out
          have v74 := HU74.out
          go_simp
          all_goals (try omega)
        clear hK K
        simp only [Act.put, List.setIfInBounds_toArray, List.set_cons_succ, List.set_cons_zero]
        subst hund
        refine wpQuiet_nil ?_
        intro W hW
        have hbW := HBW.out W hW
        go_wp2_with fail
        go_ret
        exact ⟨ret_bool HF.out.symm, hbW⟩
      | true =>
      rw [h2] at HLB
      rcases Nat.eq_zero_or_pos k with hk0 | hk0
      · have HK : Hid ((k == 0 || decide (cmpN (gO L (k - 1)) x.1 < 0)) = true) := by show _ = true; rw [hk0]; rfl
        have hk0i : ¬ (0 : Int) < (k : Int) := by omega
        clear HROWS hk0
        by_cases h4 : x.2.1 = z.1
        case neg =>
          have HF : Hid (r = false) := HBAD.out (HG.out.trans (by rw [show (x.2.1 == z.1) = false by simpa using h4]; simp))
          have e4 : (x.2.1 == z.1) = false := by simpa using h4
          have e4' : (x.2.1 != z.1) = true := by simpa using h4
          clear HBAD HG h1 h2 HUPA HGB
          obtain ⟨u47, hu47⟩ : ∃ u : Bool, u = false := ⟨_, rfl⟩
          have HU47 : Hid (u47 = false) := hu47
          clear hu47
          obtain ⟨u74, hu74⟩ : ∃ u : Bool, u = true := ⟨_, rfl⟩
          have HU74 : Hid (u74 = true) := hu74
          clear hu74
          go_wp2_with fail
          rw [HW0.out, HGX.out]
          refine wp_region_quiet (C := fun W => Below W0.heap.size W0 W) (by kernel_rfl) (by kernel_rfl) hbd ?_
          refine wpQuiet_step (fun K hK => ?_)
          rw [if_pos (by rfl)]
          refine ⟨.pointer (some ⟨gx, 0, none⟩), fun W hW => quiet_ok ?_, hK _ ?_⟩
          · have q := HX.out W hW
            obtain ⟨m0, m1, m2, _⟩ := q
            have q3 := HZ.out W hW
            obtain ⟨y0, y1, y2, _⟩ := q3
            go_simp
            all_goals (try omega)
          clear hK K
          simp only [Act.put, List.setIfInBounds_toArray, List.set_cons_succ, List.set_cons_zero]
          refine wpQuiet_step (fun K hK => ?_)
          rw [if_pos (by rfl)]
          refine ⟨.string ⟨x.1.toArray⟩, fun W hW => quiet_ok ?_, hK _ ?_⟩
          · have q := HX.out W hW
            obtain ⟨m0, m1, m2, _⟩ := q
            have q3 := HZ.out W hW
            obtain ⟨y0, y1, y2, _⟩ := q3
            go_simp
            all_goals (try omega)
          clear hK K
          simp only [Act.put, List.setIfInBounds_toArray, List.set_cons_succ, List.set_cons_zero]
          refine wpQuiet_step (fun K hK => ?_)
          rw [if_pos (by rfl)]
          refine ⟨.bool true, fun W hW => quiet_call (f := 18) (args := #[.string ⟨x.1.toArray⟩]) ?_ ?_, hK _ ?_⟩
          · go_simp
          · exact (HN.out W).mono fun e w'' h => ⟨h.1, HTR.out _ _ hW h.2⟩
          clear hK K
          simp only [Act.put, List.setIfInBounds_toArray, List.set_cons_succ, List.set_cons_zero]
          refine wpQuiet_step (fun K hK => ?_)
          rw [if_pos (by rfl)]
          refine ⟨.bool false, fun W hW => quiet_ok ?_, hK _ ?_⟩
          · have q := HX.out W hW
            obtain ⟨m0, m1, m2, _⟩ := q
            have q3 := HZ.out W hW
            obtain ⟨y0, y1, y2, _⟩ := q3
            go_simp
            all_goals (try omega)
          clear hK K
          simp only [Act.put, List.setIfInBounds_toArray, List.set_cons_succ, List.set_cons_zero]
          refine wpQuiet_step (fun K hK => ?_)
          rw [if_pos (by rfl)]
          refine ⟨.bool false, fun W hW => quiet_ok ?_, hK _ ?_⟩
          · have q := HX.out W hW
            obtain ⟨m0, m1, m2, _⟩ := q
            have q3 := HZ.out W hW
            obtain ⟨y0, y1, y2, _⟩ := q3
            go_simp
            all_goals (try omega)
          clear hK K
          simp only [Act.put, List.setIfInBounds_toArray, List.set_cons_succ, List.set_cons_zero]
          refine wpQuiet_step (fun K hK => ?_)
          rw [if_pos (by rfl)]
          refine ⟨.pointer (some ⟨gx, 0, none⟩), fun W hW => quiet_ok ?_, hK _ ?_⟩
          · have q := HX.out W hW
            obtain ⟨m0, m1, m2, _⟩ := q
            have q3 := HZ.out W hW
            obtain ⟨y0, y1, y2, _⟩ := q3
            go_simp
            all_goals (try omega)
          clear hK K
          simp only [Act.put, List.setIfInBounds_toArray, List.set_cons_succ, List.set_cons_zero]
          refine wpQuiet_step (fun K hK => ?_)
          rw [if_pos (by rfl)]
          refine ⟨.string ⟨x.1.toArray⟩, fun W hW => quiet_ok ?_, hK _ ?_⟩
          · have q := HX.out W hW
            obtain ⟨m0, m1, m2, _⟩ := q
            have q3 := HZ.out W hW
            obtain ⟨y0, y1, y2, _⟩ := q3
            go_simp
            all_goals (try omega)
          clear hK K
          simp only [Act.put, List.setIfInBounds_toArray, List.set_cons_succ, List.set_cons_zero]
          refine wpQuiet_step (fun K hK => ?_)
          rw [if_pos (by rfl)]
          refine ⟨.string ⟨ap.toArray⟩, fun W hW => quiet_ok ?_, hK _ ?_⟩
          · have q := HX.out W hW
            obtain ⟨m0, m1, m2, _⟩ := q
            have q3 := HZ.out W hW
            obtain ⟨y0, y1, y2, _⟩ := q3
            go_simp
            all_goals (try omega)
          clear hK K
          simp only [Act.put, List.setIfInBounds_toArray, List.set_cons_succ, List.set_cons_zero]
          refine wpQuiet_step (fun K hK => ?_)
          rw [if_pos (by rfl)]
          refine ⟨.bool true, fun W hW => quiet_call (f := 20) (args := #[.string ⟨x.1.toArray⟩, .string ⟨ap.toArray⟩]) ?_ ?_, hK _ ?_⟩
          · go_simp
          · exact (HLB.out W).mono fun e w'' h => ⟨h.1, HTR.out _ _ hW h.2⟩
          clear hK K
          simp only [Act.put, List.setIfInBounds_toArray, List.set_cons_succ, List.set_cons_zero]
          refine wpQuiet_step (fun K hK => ?_)
          rw [if_pos (by rfl)]
          refine ⟨.bool false, fun W hW => quiet_ok ?_, hK _ ?_⟩
          · have q := HX.out W hW
            obtain ⟨m0, m1, m2, _⟩ := q
            have q3 := HZ.out W hW
            obtain ⟨y0, y1, y2, _⟩ := q3
            go_simp
            all_goals (try omega)
          clear hK K
          simp only [Act.put, List.setIfInBounds_toArray, List.set_cons_succ, List.set_cons_zero]
          refine wpQuiet_step (fun K hK => ?_)
          rw [if_pos (by rfl)]
          refine ⟨.bool false, fun W hW => quiet_ok ?_, hK _ ?_⟩
          · have q := HX.out W hW
            obtain ⟨m0, m1, m2, _⟩ := q
            have q3 := HZ.out W hW
            obtain ⟨y0, y1, y2, _⟩ := q3
            go_simp
            all_goals (try omega)
          clear hK K
          simp only [Act.put, List.setIfInBounds_toArray, List.set_cons_succ, List.set_cons_zero]
          refine wpQuiet_step (fun K hK => ?_)
          rw [if_pos (by rfl)]
          refine ⟨.bool false, fun W hW => quiet_ok ?_, hK _ ?_⟩
          · have q := HX.out W hW
            obtain ⟨m0, m1, m2, _⟩ := q
            have q3 := HZ.out W hW
            obtain ⟨y0, y1, y2, _⟩ := q3
            go_simp
            all_goals (try omega)
          clear hK K
          simp only [Act.put, List.setIfInBounds_toArray, List.set_cons_succ, List.set_cons_zero]
          refine wpQuiet_step (fun K hK => ?_)
          rw [if_pos (by rfl)]
          refine ⟨.int .i64 (k : Int), fun W hW => quiet_ok ?_, hK _ ?_⟩
          · have q := HX.out W hW
            obtain ⟨m0, m1, m2, _⟩ := q
            have q3 := HZ.out W hW
            obtain ⟨y0, y1, y2, _⟩ := q3
            go_simp
            all_goals (try omega)
          clear hK K
          simp only [Act.put, List.setIfInBounds_toArray, List.set_cons_succ, List.set_cons_zero]
          refine wpQuiet_step (fun K hK => ?_)
          rw [if_pos (by rfl)]
          refine ⟨.bool false, fun W hW => quiet_ok ?_, hK _ ?_⟩
          · have q := HX.out W hW
            obtain ⟨m0, m1, m2, _⟩ := q
            have q3 := HZ.out W hW
            obtain ⟨y0, y1, y2, _⟩ := q3
            go_simp
            all_goals (try omega)
          clear hK K
          simp only [Act.put, List.setIfInBounds_toArray, List.set_cons_succ, List.set_cons_zero]
          refine wpQuiet_step (fun K hK => ?_)
          rw [if_pos (by rfl)]
          refine ⟨.bool u47, fun W hW => quiet_ok ?_, hK _ ?_⟩
          · have q := HX.out W hW
            obtain ⟨m0, m1, m2, _⟩ := q
            have q3 := HZ.out W hW
            obtain ⟨y0, y1, y2, _⟩ := q3
            have v47 := HU47.out
            go_simp
            all_goals (try omega)
          clear hK K
          simp only [Act.put, List.setIfInBounds_toArray, List.set_cons_succ, List.set_cons_zero]
          refine BigFrame.wpQuiet_skip (by show (some u47 == some true) = false; rw [HU47.out]; rfl) ?_
          simp only [Act.put, List.setIfInBounds_toArray, List.set_cons_succ, List.set_cons_zero]
          refine BigFrame.wpQuiet_skip (by show (some u47 == some true) = false; rw [HU47.out]; rfl) ?_
          simp only [Act.put, List.setIfInBounds_toArray, List.set_cons_succ, List.set_cons_zero]
          refine BigFrame.wpQuiet_skip (by show (some u47 == some true) = false; rw [HU47.out]; rfl) ?_
          simp only [Act.put, List.setIfInBounds_toArray, List.set_cons_succ, List.set_cons_zero]
          refine BigFrame.wpQuiet_skip (by show (some u47 == some true) = false; rw [HU47.out]; rfl) ?_
          simp only [Act.put, List.setIfInBounds_toArray, List.set_cons_succ, List.set_cons_zero]
          refine BigFrame.wpQuiet_skip (by show (some u47 == some true) = false; rw [HU47.out]; rfl) ?_
          simp only [Act.put, List.setIfInBounds_toArray, List.set_cons_succ, List.set_cons_zero]
          refine BigFrame.wpQuiet_skip (by show (some u47 == some true) = false; rw [HU47.out]; rfl) ?_
          simp only [Act.put, List.setIfInBounds_toArray, List.set_cons_succ, List.set_cons_zero]
          refine BigFrame.wpQuiet_skip (by show (some u47 == some true) = false; rw [HU47.out]; rfl) ?_
          simp only [Act.put, List.setIfInBounds_toArray, List.set_cons_succ, List.set_cons_zero]
          refine BigFrame.wpQuiet_skip (by show (some u47 == some true) = false; rw [HU47.out]; rfl) ?_
          simp only [Act.put, List.setIfInBounds_toArray, List.set_cons_succ, List.set_cons_zero]
          refine BigFrame.wpQuiet_skip (by show (some u47 == some true) = false; rw [HU47.out]; rfl) ?_
          simp only [Act.put, List.setIfInBounds_toArray, List.set_cons_succ, List.set_cons_zero]
          refine BigFrame.wpQuiet_skip (by show (some u47 == some true) = false; rw [HU47.out]; rfl) ?_
          simp only [Act.put, List.setIfInBounds_toArray, List.set_cons_succ, List.set_cons_zero]
          refine wpQuiet_step (fun K hK => ?_)
          rw [if_pos (by rfl)]
          refine ⟨.bool false, fun W hW => quiet_ok ?_, hK _ ?_⟩
          · have q := HX.out W hW
            obtain ⟨m0, m1, m2, _⟩ := q
            have q3 := HZ.out W hW
            obtain ⟨y0, y1, y2, _⟩ := q3
            have v47 := HU47.out
            go_simp
            all_goals (try omega)
          clear hK K
          simp only [Act.put, List.setIfInBounds_toArray, List.set_cons_succ, List.set_cons_zero]
          refine wpQuiet_step (fun K hK => ?_)
          rw [if_pos (by rfl)]
          refine ⟨.bool false, fun W hW => quiet_ok ?_, hK _ ?_⟩
          · have q := HX.out W hW
            obtain ⟨m0, m1, m2, _⟩ := q
            have q3 := HZ.out W hW
            obtain ⟨y0, y1, y2, _⟩ := q3
            have v47 := HU47.out
            go_simp
            all_goals (try omega)
          clear hK K
          simp only [Act.put, List.setIfInBounds_toArray, List.set_cons_succ, List.set_cons_zero]
          refine wpQuiet_step (fun K hK => ?_)
          rw [if_pos (by rfl)]
          refine ⟨.bool false, fun W hW => quiet_ok ?_, hK _ ?_⟩
          · have q := HX.out W hW
            obtain ⟨m0, m1, m2, _⟩ := q
            have q3 := HZ.out W hW
            obtain ⟨y0, y1, y2, _⟩ := q3
            have v47 := HU47.out
            go_simp
            all_goals (try omega)
          clear hK K
          simp only [Act.put, List.setIfInBounds_toArray, List.set_cons_succ, List.set_cons_zero]
          refine wpQuiet_step (fun K hK => ?_)
          rw [if_pos (by rfl)]
          refine ⟨.pointer (some ⟨gx, 1, none⟩), fun W hW => quiet_ok ?_, hK _ ?_⟩
          · have q := HX.out W hW
            obtain ⟨m0, m1, m2, _⟩ := q
            have q3 := HZ.out W hW
            obtain ⟨y0, y1, y2, _⟩ := q3
            have v47 := HU47.out
            go_simp
            all_goals (try omega)
          clear hK K
          simp only [Act.put, List.setIfInBounds_toArray, List.set_cons_succ, List.set_cons_zero]
          refine wpQuiet_step (fun K hK => ?_)
          rw [if_pos (by rfl)]
          refine ⟨.string ⟨x.2.1.toArray⟩, fun W hW => quiet_ok ?_, hK _ ?_⟩
          · have q := HX.out W hW
            obtain ⟨m0, m1, m2, _⟩ := q
            have q3 := HZ.out W hW
            obtain ⟨y0, y1, y2, _⟩ := q3
            have v47 := HU47.out
            go_simp
            all_goals (try omega)
          clear hK K
          simp only [Act.put, List.setIfInBounds_toArray, List.set_cons_succ, List.set_cons_zero]
          refine wpQuiet_step (fun K hK => ?_)
          rw [if_pos (by rfl)]
          refine ⟨.slice (some ⟨b, o, none⟩) L.length cap, fun W hW => quiet_ok ?_, hK _ ?_⟩
          · have q := HX.out W hW
            obtain ⟨m0, m1, m2, _⟩ := q
            have q3 := HZ.out W hW
            obtain ⟨y0, y1, y2, _⟩ := q3
            have v47 := HU47.out
            go_simp
            all_goals (try omega)
          clear hK K
          simp only [Act.put, List.setIfInBounds_toArray, List.set_cons_succ, List.set_cons_zero]
          refine wpQuiet_step (fun K hK => ?_)
          rw [if_pos (by rfl)]
          refine ⟨.int .i64 (k : Int), fun W hW => quiet_ok ?_, hK _ ?_⟩
          · have q := HX.out W hW
            obtain ⟨m0, m1, m2, _⟩ := q
            have q3 := HZ.out W hW
            obtain ⟨y0, y1, y2, _⟩ := q3
            have v47 := HU47.out
            go_simp
            all_goals (try omega)
          clear hK K
          simp only [Act.put, List.setIfInBounds_toArray, List.set_cons_succ, List.set_cons_zero]
          refine wpQuiet_step (fun K hK => ?_)
          rw [if_pos (by rfl)]
          refine ⟨.int .i64 ((k : Int) + 1), fun W hW => quiet_ok ?_, hK _ ?_⟩
          · have q := HX.out W hW
            obtain ⟨m0, m1, m2, _⟩ := q
            have q3 := HZ.out W hW
            obtain ⟨y0, y1, y2, _⟩ := q3
            have v47 := HU47.out
            go_simp
            all_goals (try omega)
          clear hK K
          simp only [Act.put, List.setIfInBounds_toArray, List.set_cons_succ, List.set_cons_zero]
          refine wpQuiet_step (fun K hK => ?_)
          rw [if_pos (by rfl)]
          refine ⟨.slice (some ⟨b, o, none⟩) L.length cap, fun W hW => quiet_ok ?_, hK _ ?_⟩
          · have q := HX.out W hW
            obtain ⟨m0, m1, m2, _⟩ := q
            have q3 := HZ.out W hW
            obtain ⟨y0, y1, y2, _⟩ := q3
            have v47 := HU47.out
            go_simp
            all_goals (try omega)
          clear hK K
          simp only [Act.put, List.setIfInBounds_toArray, List.set_cons_succ, List.set_cons_zero]
          refine wpQuiet_step (fun K hK => ?_)
          rw [if_pos (by rfl)]
          refine ⟨.int .i64 (L.length : Int), fun W hW => quiet_ok ?_, hK _ ?_⟩
          · have q := HX.out W hW
            obtain ⟨m0, m1, m2, _⟩ := q
            have q3 := HZ.out W hW
            obtain ⟨y0, y1, y2, _⟩ := q3
            have v47 := HU47.out
            go_simp
            all_goals (try omega)
          clear hK K
          simp only [Act.put, List.setIfInBounds_toArray, List.set_cons_succ, List.set_cons_zero]
          refine wpQuiet_step (fun K hK => ?_)
          rw [if_pos (by rfl)]
          refine ⟨.int .i64 (m : Int), fun W hW => quiet_ok ?_, hK _ ?_⟩
          · have q := HX.out W hW
            obtain ⟨m0, m1, m2, _⟩ := q
            have q3 := HZ.out W hW
            obtain ⟨y0, y1, y2, _⟩ := q3
            have v47 := HU47.out
            go_simp
            all_goals (try omega)
          clear hK K
          simp only [Act.put, List.setIfInBounds_toArray, List.set_cons_succ, List.set_cons_zero]
          refine wpQuiet_step (fun K hK => ?_)
          rw [if_pos (by rfl)]
          refine ⟨.pointer (some ⟨b, o + m * 3, none⟩), fun W hW => quiet_ok ?_, hK _ ?_⟩
          · have q := HX.out W hW
            obtain ⟨m0, m1, m2, _⟩ := q
            have q3 := HZ.out W hW
            obtain ⟨y0, y1, y2, _⟩ := q3
            have v47 := HU47.out
            go_simp
            all_goals (try omega)
          clear hK K
          simp only [Act.put, List.setIfInBounds_toArray, List.set_cons_succ, List.set_cons_zero]
          refine wpQuiet_step (fun K hK => ?_)
          rw [if_pos (by rfl)]
          refine ⟨.pointer (some ⟨b, o + m * 3, none⟩), fun W hW => quiet_ok ?_, hK _ ?_⟩
          · have q := HX.out W hW
            obtain ⟨m0, m1, m2, _⟩ := q
            have q3 := HZ.out W hW
            obtain ⟨y0, y1, y2, _⟩ := q3
            have v47 := HU47.out
            go_simp
            all_goals (try omega)
          clear hK K
          simp only [Act.put, List.setIfInBounds_toArray, List.set_cons_succ, List.set_cons_zero]
          refine wpQuiet_step (fun K hK => ?_)
          rw [if_pos (by rfl)]
          refine ⟨.string ⟨z.1.toArray⟩, fun W hW => quiet_ok ?_, hK _ ?_⟩
          · have q := HX.out W hW
            obtain ⟨m0, m1, m2, _⟩ := q
            have q3 := HZ.out W hW
            obtain ⟨y0, y1, y2, _⟩ := q3
            have v47 := HU47.out
            go_simp
            all_goals (try omega)
          clear hK K
          simp only [Act.put, List.setIfInBounds_toArray, List.set_cons_succ, List.set_cons_zero]
          refine wpQuiet_step (fun K hK => ?_)
          rw [if_pos (by rfl)]
          refine ⟨.bool true, fun W hW => quiet_ok ?_, hK _ ?_⟩
          · have q := HX.out W hW
            obtain ⟨m0, m1, m2, _⟩ := q
            have q3 := HZ.out W hW
            obtain ⟨y0, y1, y2, _⟩ := q3
            have v47 := HU47.out
            go_simp
            all_goals (try omega)
          clear hK K
          simp only [Act.put, List.setIfInBounds_toArray, List.set_cons_succ, List.set_cons_zero]
          refine wpQuiet_step (fun K hK => ?_)
          rw [if_pos (by rfl)]
          refine ⟨.bool true, fun W hW => quiet_ok ?_, hK _ ?_⟩
          · have q := HX.out W hW
            obtain ⟨m0, m1, m2, _⟩ := q
            have q3 := HZ.out W hW
            obtain ⟨y0, y1, y2, _⟩ := q3
            have v47 := HU47.out
            go_simp
            all_goals (try omega)
          clear hK K
          simp only [Act.put, List.setIfInBounds_toArray, List.set_cons_succ, List.set_cons_zero]
          refine wpQuiet_step (fun K hK => ?_)
          rw [if_pos (by rfl)]
          refine ⟨.bool u74, fun W hW => quiet_ok ?_, hK _ ?_⟩
          · have q := HX.out W hW
            obtain ⟨m0, m1, m2, _⟩ := q
            have q3 := HZ.out W hW
            obtain ⟨y0, y1, y2, _⟩ := q3
            have v47 := HU47.out
            have v74 := HU74.out
            go_simp
            all_goals (try omega)
          clear hK K
          simp only [Act.put, List.setIfInBounds_toArray, List.set_cons_succ, List.set_cons_zero]
          refine BigFrame.wpQuiet_skip (by show (some u74 == some false) = false; rw [HU74.out]; rfl) ?_
          simp only [Act.put, List.setIfInBounds_toArray, List.set_cons_succ, List.set_cons_zero]
          refine BigFrame.wpQuiet_skip (by show (some u74 == some false) = false; rw [HU74.out]; rfl) ?_
          simp only [Act.put, List.setIfInBounds_toArray, List.set_cons_succ, List.set_cons_zero]
          refine BigFrame.wpQuiet_skip (by show (some u74 == some false) = false; rw [HU74.out]; rfl) ?_
          simp only [Act.put, List.setIfInBounds_toArray, List.set_cons_succ, List.set_cons_zero]
          refine BigFrame.wpQuiet_skip (by show (some u74 == some false) = false; rw [HU74.out]; rfl) ?_
          simp only [Act.put, List.setIfInBounds_toArray, List.set_cons_succ, List.set_cons_zero]
          refine wpQuiet_step (fun K hK => ?_)
          rw [if_pos (by rfl)]
          refine ⟨.bool true, fun W hW => quiet_ok ?_, hK _ ?_⟩
          · have q := HX.out W hW
            obtain ⟨m0, m1, m2, _⟩ := q
            have q3 := HZ.out W hW
            obtain ⟨y0, y1, y2, _⟩ := q3
            have v47 := HU47.out
            have v74 := HU74.out
            go_simp
            all_goals (try omega)
          clear hK K
          simp only [Act.put, List.setIfInBounds_toArray, List.set_cons_succ, List.set_cons_zero]
          refine wpQuiet_nil ?_
          intro W hW
          have hbW := HBW.out W hW
          go_wp2_with fail
          go_ret
          exact ⟨ret_bool HF.out.symm, hbW⟩
        have e4 : (x.2.1 == z.1) = true := by simpa using h4
        have e4' : (x.2.1 != z.1) = false := by simpa using h4
        by_cases h5 : x.2.2 = []
        · have HF : Hid (r = false) := HBAD.out (HG.out.trans (by rw [h5]; simp))
          have HE5 : Hid (x.2.2.length = 0) := by show _ = 0; rw [h5]; rfl
          clear HBAD HG h1 h2 h4 h5 HUPA HGB
          obtain ⟨u47, hu47⟩ : ∃ u : Bool, u = false := ⟨_, rfl⟩
          have HU47 : Hid (u47 = false) := hu47
          clear hu47
          go_wp2_with fail
          rw [HW0.out, HGX.out]
          refine wp_region_quiet (C := fun W => Below W0.heap.size W0 W) (by kernel_rfl) (by kernel_rfl) hbd ?_
          refine wpQuiet_step (fun K hK => ?_)
          rw [if_pos (by rfl)]
          refine ⟨.pointer (some ⟨gx, 0, none⟩), fun W hW => quiet_ok ?_, hK _ ?_⟩
          · have q := HX.out W hW
            obtain ⟨m0, m1, m2, _⟩ := q
            have q3 := HZ.out W hW
            obtain ⟨y0, y1, y2, _⟩ := q3
            have e5 := HE5.out
            go_simp
            all_goals (try omega)
          clear hK K
          simp only [Act.put, List.setIfInBounds_toArray, List.set_cons_succ, List.set_cons_zero]
          refine wpQuiet_step (fun K hK => ?_)
          rw [if_pos (by rfl)]
          refine ⟨.string ⟨x.1.toArray⟩, fun W hW => quiet_ok ?_, hK _ ?_⟩
          · have q := HX.out W hW
            obtain ⟨m0, m1, m2, _⟩ := q
            have q3 := HZ.out W hW
            obtain ⟨y0, y1, y2, _⟩ := q3
            have e5 := HE5.out
            go_simp
            all_goals (try omega)
          clear hK K
          simp only [Act.put, List.setIfInBounds_toArray, List.set_cons_succ, List.set_cons_zero]
          refine wpQuiet_step (fun K hK => ?_)
          rw [if_pos (by rfl)]
          refine ⟨.bool true, fun W hW => quiet_call (f := 18) (args := #[.string ⟨x.1.toArray⟩]) ?_ ?_, hK _ ?_⟩
          · go_simp
          · exact (HN.out W).mono fun e w'' h => ⟨h.1, HTR.out _ _ hW h.2⟩
          clear hK K
          simp only [Act.put, List.setIfInBounds_toArray, List.set_cons_succ, List.set_cons_zero]
          refine wpQuiet_step (fun K hK => ?_)
          rw [if_pos (by rfl)]
          refine ⟨.bool false, fun W hW => quiet_ok ?_, hK _ ?_⟩
          · have q := HX.out W hW
            obtain ⟨m0, m1, m2, _⟩ := q
            have q3 := HZ.out W hW
            obtain ⟨y0, y1, y2, _⟩ := q3
            have e5 := HE5.out
            go_simp
            all_goals (try omega)
          clear hK K
          simp only [Act.put, List.setIfInBounds_toArray, List.set_cons_succ, List.set_cons_zero]
          refine wpQuiet_step (fun K hK => ?_)
          rw [if_pos (by rfl)]
          refine ⟨.bool false, fun W hW => quiet_ok ?_, hK _ ?_⟩
          · have q := HX.out W hW
            obtain ⟨m0, m1, m2, _⟩ := q
            have q3 := HZ.out W hW
            obtain ⟨y0, y1, y2, _⟩ := q3
            have e5 := HE5.out
            go_simp
            all_goals (try omega)
          clear hK K
          simp only [Act.put, List.setIfInBounds_toArray, List.set_cons_succ, List.set_cons_zero]
          refine wpQuiet_step (fun K hK => ?_)
          rw [if_pos (by rfl)]
          refine ⟨.pointer (some ⟨gx, 0, none⟩), fun W hW => quiet_ok ?_, hK _ ?_⟩
          · have q := HX.out W hW
            obtain ⟨m0, m1, m2, _⟩ := q
            have q3 := HZ.out W hW
            obtain ⟨y0, y1, y2, _⟩ := q3
            have e5 := HE5.out
            go_simp
            all_goals (try omega)
          clear hK K
          simp only [Act.put, List.setIfInBounds_toArray, List.set_cons_succ, List.set_cons_zero]
          refine wpQuiet_step (fun K hK => ?_)
          rw [if_pos (by rfl)]
          refine ⟨.string ⟨x.1.toArray⟩, fun W hW => quiet_ok ?_, hK _ ?_⟩
          · have q := HX.out W hW
            obtain ⟨m0, m1, m2, _⟩ := q
            have q3 := HZ.out W hW
            obtain ⟨y0, y1, y2, _⟩ := q3
            have e5 := HE5.out
            go_simp
            all_goals (try omega)
          clear hK K
          simp only [Act.put, List.setIfInBounds_toArray, List.set_cons_succ, List.set_cons_zero]
          refine wpQuiet_step (fun K hK => ?_)
          rw [if_pos (by rfl)]
          refine ⟨.string ⟨ap.toArray⟩, fun W hW => quiet_ok ?_, hK _ ?_⟩
          · have q := HX.out W hW
            obtain ⟨m0, m1, m2, _⟩ := q
            have q3 := HZ.out W hW
            obtain ⟨y0, y1, y2, _⟩ := q3
            have e5 := HE5.out
            go_simp
            all_goals (try omega)
          clear hK K
          simp only [Act.put, List.setIfInBounds_toArray, List.set_cons_succ, List.set_cons_zero]
          refine wpQuiet_step (fun K hK => ?_)
          rw [if_pos (by rfl)]
          refine ⟨.bool true, fun W hW => quiet_call (f := 20) (args := #[.string ⟨x.1.toArray⟩, .string ⟨ap.toArray⟩]) ?_ ?_, hK _ ?_⟩
          · go_simp
          · exact (HLB.out W).mono fun e w'' h => ⟨h.1, HTR.out _ _ hW h.2⟩
          clear hK K
          simp only [Act.put, List.setIfInBounds_toArray, List.set_cons_succ, List.set_cons_zero]
          refine wpQuiet_step (fun K hK => ?_)
          rw [if_pos (by rfl)]
          refine ⟨.bool false, fun W hW => quiet_ok ?_, hK _ ?_⟩
          · have q := HX.out W hW
            obtain ⟨m0, m1, m2, _⟩ := q
            have q3 := HZ.out W hW
            obtain ⟨y0, y1, y2, _⟩ := q3
            have e5 := HE5.out
            go_simp
            all_goals (try omega)
          clear hK K
          simp only [Act.put, List.setIfInBounds_toArray, List.set_cons_succ, List.set_cons_zero]
          refine wpQuiet_step (fun K hK => ?_)
          rw [if_pos (by rfl)]
          refine ⟨.bool false, fun W hW => quiet_ok ?_, hK _ ?_⟩
          · have q := HX.out W hW
            obtain ⟨m0, m1, m2, _⟩ := q
            have q3 := HZ.out W hW
            obtain ⟨y0, y1, y2, _⟩ := q3
            have e5 := HE5.out
            go_simp
            all_goals (try omega)
          clear hK K
          simp only [Act.put, List.setIfInBounds_toArray, List.set_cons_succ, List.set_cons_zero]
          refine wpQuiet_step (fun K hK => ?_)
          rw [if_pos (by rfl)]
          refine ⟨.bool false, fun W hW => quiet_ok ?_, hK _ ?_⟩
          · have q := HX.out W hW
            obtain ⟨m0, m1, m2, _⟩ := q
            have q3 := HZ.out W hW
            obtain ⟨y0, y1, y2, _⟩ := q3
            have e5 := HE5.out
            go_simp
            all_goals (try omega)
          clear hK K
          simp only [Act.put, List.setIfInBounds_toArray, List.set_cons_succ, List.set_cons_zero]
          refine wpQuiet_step (fun K hK => ?_)
          rw [if_pos (by rfl)]
          refine ⟨.int .i64 (k : Int), fun W hW => quiet_ok ?_, hK _ ?_⟩
          · have q := HX.out W hW
            obtain ⟨m0, m1, m2, _⟩ := q
            have q3 := HZ.out W hW
            obtain ⟨y0, y1, y2, _⟩ := q3
            have e5 := HE5.out
            go_simp
            all_goals (try omega)
          clear hK K
          simp only [Act.put, List.setIfInBounds_toArray, List.set_cons_succ, List.set_cons_zero]
          refine wpQuiet_step (fun K hK => ?_)
          rw [if_pos (by rfl)]
          refine ⟨.bool false, fun W hW => quiet_ok ?_, hK _ ?_⟩
          · have q := HX.out W hW
            obtain ⟨m0, m1, m2, _⟩ := q
            have q3 := HZ.out W hW
            obtain ⟨y0, y1, y2, _⟩ := q3
            have e5 := HE5.out
            go_simp
            all_goals (try omega)
          clear hK K
          simp only [Act.put, List.setIfInBounds_toArray, List.set_cons_succ, List.set_cons_zero]
          refine wpQuiet_step (fun K hK => ?_)
          rw [if_pos (by rfl)]
          refine ⟨.bool u47, fun W hW => quiet_ok ?_, hK _ ?_⟩
          · have q := HX.out W hW
            obtain ⟨m0, m1, m2, _⟩ := q
            have q3 := HZ.out W hW
            obtain ⟨y0, y1, y2, _⟩ := q3
            have e5 := HE5.out
            have v47 := HU47.out
            go_simp
            all_goals (try omega)
          clear hK K
          simp only [Act.put, List.setIfInBounds_toArray, List.set_cons_succ, List.set_cons_zero]
          refine BigFrame.wpQuiet_skip (by show (some u47 == some true) = false; rw [HU47.out]; rfl) ?_
          simp only [Act.put, List.setIfInBounds_toArray, List.set_cons_succ, List.set_cons_zero]
          refine BigFrame.wpQuiet_skip (by show (some u47 == some true) = false; rw [HU47.out]; rfl) ?_
          simp only [Act.put, List.setIfInBounds_toArray, List.set_cons_succ, List.set_cons_zero]
          refine BigFrame.wpQuiet_skip (by show (some u47 == some true) = false; rw [HU47.out]; rfl) ?_
          simp only [Act.put, List.setIfInBounds_toArray, List.set_cons_succ, List.set_cons_zero]
          refine BigFrame.wpQuiet_skip (by show (some u47 == some true) = false; rw [HU47.out]; rfl) ?_
          simp only [Act.put, List.setIfInBounds_toArray, List.set_cons_succ, List.set_cons_zero]
          refine BigFrame.wpQuiet_skip (by show (some u47 == some true) = false; rw [HU47.out]; rfl) ?_
          simp only [Act.put, List.setIfInBounds_toArray, List.set_cons_succ, List.set_cons_zero]
          refine BigFrame.wpQuiet_skip (by show (some u47 == some true) = false; rw [HU47.out]; rfl) ?_
          simp only [Act.put, List.setIfInBounds_toArray, List.set_cons_succ, List.set_cons_zero]
          refine BigFrame.wpQuiet_skip (by show (some u47 == some true) = false; rw [HU47.out]; rfl) ?_
          simp only [Act.put, List.setIfInBounds_toArray, List.set_cons_succ, List.set_cons_zero]
          refine BigFrame.wpQuiet_skip (by show (some u47 == some true) = false; rw [HU47.out]; rfl) ?_
          simp only [Act.put, List.setIfInBounds_toArray, List.set_cons_succ, List.set_cons_zero]
          refine BigFrame.wpQuiet_skip (by show (some u47 == some true) = false; rw [HU47.out]; rfl) ?_
          simp only [Act.put, List.setIfInBounds_toArray, List.set_cons_succ, List.set_cons_zero]
          refine BigFrame.wpQuiet_skip (by show (some u47 == some true) = false; rw [HU47.out]; rfl) ?_
          simp only [Act.put, List.setIfInBounds_toArray, List.set_cons_succ, List.set_cons_zero]
          refine wpQuiet_step (fun K hK => ?_)
          rw [if_pos (by rfl)]
          refine ⟨.bool false, fun W hW => quiet_ok ?_, hK _ ?_⟩
          · have q := HX.out W hW
            obtain ⟨m0, m1, m2, _⟩ := q
            have q3 := HZ.out W hW
            obtain ⟨y0, y1, y2, _⟩ := q3
            have e5 := HE5.out
            have v47 := HU47.out
            go_simp
            all_goals (try omega)
          clear hK K
          simp only [Act.put, List.setIfInBounds_toArray, List.set_cons_succ, List.set_cons_zero]
          refine wpQuiet_step (fun K hK => ?_)
          rw [if_pos (by rfl)]
          refine ⟨.bool false, fun W hW => quiet_ok ?_, hK _ ?_⟩
          · have q := HX.out W hW
            obtain ⟨m0, m1, m2, _⟩ := q
            have q3 := HZ.out W hW
            obtain ⟨y0, y1, y2, _⟩ := q3
            have e5 := HE5.out
            have v47 := HU47.out
            go_simp
            all_goals (try omega)
          clear hK K
          simp only [Act.put, List.setIfInBounds_toArray, List.set_cons_succ, List.set_cons_zero]
          refine wpQuiet_step (fun K hK => ?_)
          rw [if_pos (by rfl)]
          refine ⟨.bool false, fun W hW => quiet_ok ?_, hK _ ?_⟩
          · have q := HX.out W hW
            obtain ⟨m0, m1, m2, _⟩ := q
            have q3 := HZ.out W hW
            obtain ⟨y0, y1, y2, _⟩ := q3
            have e5 := HE5.out
            have v47 := HU47.out
            go_simp
            all_goals (try omega)
          clear hK K
          simp only [Act.put, List.setIfInBounds_toArray, List.set_cons_succ, List.set_cons_zero]
          refine wpQuiet_step (fun K hK => ?_)
          rw [if_pos (by rfl)]
          refine ⟨.pointer (some ⟨gx, 1, none⟩), fun W hW => quiet_ok ?_, hK _ ?_⟩
          · have q := HX.out W hW
            obtain ⟨m0, m1, m2, _⟩ := q
            have q3 := HZ.out W hW
            obtain ⟨y0, y1, y2, _⟩ := q3
            have e5 := HE5.out
            have v47 := HU47.out
            go_simp
            all_goals (try omega)
          clear hK K
          simp only [Act.put, List.setIfInBounds_toArray, List.set_cons_succ, List.set_cons_zero]
          refine wpQuiet_step (fun K hK => ?_)
          rw [if_pos (by rfl)]
          refine ⟨.string ⟨x.2.1.toArray⟩, fun W hW => quiet_ok ?_, hK _ ?_⟩
          · have q := HX.out W hW
            obtain ⟨m0, m1, m2, _⟩ := q
            have q3 := HZ.out W hW
            obtain ⟨y0, y1, y2, _⟩ := q3
            have e5 := HE5.out
            have v47 := HU47.out
            go_simp
            all_goals (try omega)
          clear hK K
          simp only [Act.put, List.setIfInBounds_toArray, List.set_cons_succ, List.set_cons_zero]
          refine wpQuiet_step (fun K hK => ?_)
          rw [if_pos (by rfl)]
          refine ⟨.slice (some ⟨b, o, none⟩) L.length cap, fun W hW => quiet_ok ?_, hK _ ?_⟩
          · have q := HX.out W hW
            obtain ⟨m0, m1, m2, _⟩ := q
            have q3 := HZ.out W hW
            obtain ⟨y0, y1, y2, _⟩ := q3
            have e5 := HE5.out
            have v47 := HU47.out
            go_simp
            all_goals (try omega)
          clear hK K
          simp only [Act.put, List.setIfInBounds_toArray, List.set_cons_succ, List.set_cons_zero]
          refine wpQuiet_step (fun K hK => ?_)
          rw [if_pos (by rfl)]
          refine ⟨.int .i64 (k : Int), fun W hW => quiet_ok ?_, hK _ ?_⟩
          · have q := HX.out W hW
            obtain ⟨m0, m1, m2, _⟩ := q
            have q3 := HZ.out W hW
            obtain ⟨y0, y1, y2, _⟩ := q3
            have e5 := HE5.out
            have v47 := HU47.out
            go_simp
            all_goals (try omega)
          clear hK K
          simp only [Act.put, List.setIfInBounds_toArray, List.set_cons_succ, List.set_cons_zero]
          refine wpQuiet_step (fun K hK => ?_)
          rw [if_pos (by rfl)]
          refine ⟨.int .i64 ((k : Int) + 1), fun W hW => quiet_ok ?_, hK _ ?_⟩
          · have q := HX.out W hW
            obtain ⟨m0, m1, m2, _⟩ := q
            have q3 := HZ.out W hW
            obtain ⟨y0, y1, y2, _⟩ := q3
            have e5 := HE5.out
            have v47 := HU47.out
            go_simp
            all_goals (try omega)
          clear hK K
          simp only [Act.put, List.setIfInBounds_toArray, List.set_cons_succ, List.set_cons_zero]
          refine wpQuiet_step (fun K hK => ?_)
          rw [if_pos (by rfl)]
          refine ⟨.slice (some ⟨b, o, none⟩) L.length cap, fun W hW => quiet_ok ?_, hK _ ?_⟩
          · have q := HX.out W hW
            obtain ⟨m0, m1, m2, _⟩ := q
            have q3 := HZ.out W hW
            obtain ⟨y0, y1, y2, _⟩ := q3
            have e5 := HE5.out
            have v47 := HU47.out
            go_simp
            all_goals (try omega)
          clear hK K
          simp only [Act.put, List.setIfInBounds_toArray, List.set_cons_succ, List.set_cons_zero]
          refine wpQuiet_step (fun K hK => ?_)
          rw [if_pos (by rfl)]
          refine ⟨.int .i64 (L.length : Int), fun W hW => quiet_ok ?_, hK _ ?_⟩
          · have q := HX.out W hW
            obtain ⟨m0, m1, m2, _⟩ := q
            have q3 := HZ.out W hW
            obtain ⟨y0, y1, y2, _⟩ := q3
            have e5 := HE5.out
            have v47 := HU47.out
            go_simp
            all_goals (try omega)
          clear hK K
          simp only [Act.put, List.setIfInBounds_toArray, List.set_cons_succ, List.set_cons_zero]
          refine wpQuiet_step (fun K hK => ?_)
          rw [if_pos (by rfl)]
          refine ⟨.int .i64 (m : Int), fun W hW => quiet_ok ?_, hK _ ?_⟩
          · have q := HX.out W hW
            obtain ⟨m0, m1, m2, _⟩ := q
            have q3 := HZ.out W hW
            obtain ⟨y0, y1, y2, _⟩ := q3
            have e5 := HE5.out
            have v47 := HU47.out
            go_simp
            all_goals (try omega)
          clear hK K
          simp only [Act.put, List.setIfInBounds_toArray, List.set_cons_succ, List.set_cons_zero]
          refine wpQuiet_step (fun K hK => ?_)
          rw [if_pos (by rfl)]
          refine ⟨.pointer (some ⟨b, o + m * 3, none⟩), fun W hW => quiet_ok ?_, hK _ ?_⟩
          · have q := HX.out W hW
            obtain ⟨m0, m1, m2, _⟩ := q
            have q3 := HZ.out W hW
            obtain ⟨y0, y1, y2, _⟩ := q3
            have e5 := HE5.out
            have v47 := HU47.out
            go_simp
            all_goals (try omega)
          clear hK K
          simp only [Act.put, List.setIfInBounds_toArray, List.set_cons_succ, List.set_cons_zero]
          refine wpQuiet_step (fun K hK => ?_)
          rw [if_pos (by rfl)]
          refine ⟨.pointer (some ⟨b, o + m * 3, none⟩), fun W hW => quiet_ok ?_, hK _ ?_⟩
          · have q := HX.out W hW
            obtain ⟨m0, m1, m2, _⟩ := q
            have q3 := HZ.out W hW
            obtain ⟨y0, y1, y2, _⟩ := q3
            have e5 := HE5.out
            have v47 := HU47.out
            go_simp
            all_goals (try omega)
          clear hK K
          simp only [Act.put, List.setIfInBounds_toArray, List.set_cons_succ, List.set_cons_zero]
          refine wpQuiet_step (fun K hK => ?_)
          rw [if_pos (by rfl)]
          refine ⟨.string ⟨z.1.toArray⟩, fun W hW => quiet_ok ?_, hK _ ?_⟩
          · have q := HX.out W hW
            obtain ⟨m0, m1, m2, _⟩ := q
            have q3 := HZ.out W hW
            obtain ⟨y0, y1, y2, _⟩ := q3
            have e5 := HE5.out
            have v47 := HU47.out
            go_simp
            all_goals (try omega)
          clear hK K
          simp only [Act.put, List.setIfInBounds_toArray, List.set_cons_succ, List.set_cons_zero]
          refine wpQuiet_step (fun K hK => ?_)
          rw [if_pos (by rfl)]
          refine ⟨.bool false, fun W hW => quiet_ok ?_, hK _ ?_⟩
          · have q := HX.out W hW
            obtain ⟨m0, m1, m2, _⟩ := q
            have q3 := HZ.out W hW
            obtain ⟨y0, y1, y2, _⟩ := q3
            have e5 := HE5.out
            have v47 := HU47.out
            go_simp
            all_goals (try omega)
          clear hK K
          simp only [Act.put, List.setIfInBounds_toArray, List.set_cons_succ, List.set_cons_zero]
          refine wpQuiet_step (fun K hK => ?_)
          rw [if_pos (by rfl)]
          refine ⟨.bool false, fun W hW => quiet_ok ?_, hK _ ?_⟩
          · have q := HX.out W hW
            obtain ⟨m0, m1, m2, _⟩ := q
            have q3 := HZ.out W hW
            obtain ⟨y0, y1, y2, _⟩ := q3
            have e5 := HE5.out
            have v47 := HU47.out
            go_simp
            all_goals (try omega)
          clear hK K
          simp only [Act.put, List.setIfInBounds_toArray, List.set_cons_succ, List.set_cons_zero]
          refine wpQuiet_step (fun K hK => ?_)
          rw [if_pos (by rfl)]
          refine ⟨.bool false, fun W hW => quiet_ok ?_, hK _ ?_⟩
          · have q := HX.out W hW
            obtain ⟨m0, m1, m2, _⟩ := q
            have q3 := HZ.out W hW
            obtain ⟨y0, y1, y2, _⟩ := q3
            have e5 := HE5.out
            have v47 := HU47.out
            go_simp
            all_goals (try omega)
          clear hK K
          simp only [Act.put, List.setIfInBounds_toArray, List.set_cons_succ, List.set_cons_zero]
          refine wpQuiet_step (fun K hK => ?_)
          rw [if_pos (by rfl)]
          refine ⟨.pointer (some ⟨gx, 2, none⟩), fun W hW => quiet_ok ?_, hK _ ?_⟩
          · have q := HX.out W hW
            obtain ⟨m0, m1, m2, _⟩ := q
            have q3 := HZ.out W hW
            obtain ⟨y0, y1, y2, _⟩ := q3
            have e5 := HE5.out
            have v47 := HU47.out
            go_simp
            all_goals (try omega)
          clear hK K
          simp only [Act.put, List.setIfInBounds_toArray, List.set_cons_succ, List.set_cons_zero]
          refine wpQuiet_step (fun K hK => ?_)
          rw [if_pos (by rfl)]
          refine ⟨.slice aa x.2.2.length ca, fun W hW => quiet_ok ?_, hK _ ?_⟩
          · have q := HX.out W hW
            obtain ⟨m0, m1, m2, _⟩ := q
            have q3 := HZ.out W hW
            obtain ⟨y0, y1, y2, _⟩ := q3
            have e5 := HE5.out
            have v47 := HU47.out
            go_simp
            all_goals (try omega)
          clear hK K
          simp only [Act.put, List.setIfInBounds_toArray, List.set_cons_succ, List.set_cons_zero]
          refine wpQuiet_step (fun K hK => ?_)
          rw [if_pos (by rfl)]
          refine ⟨.int .i64 (x.2.2.length : Int), fun W hW => quiet_ok ?_, hK _ ?_⟩
          · have q := HX.out W hW
            obtain ⟨m0, m1, m2, _⟩ := q
            have q3 := HZ.out W hW
            obtain ⟨y0, y1, y2, _⟩ := q3
            have e5 := HE5.out
            have v47 := HU47.out
            go_simp
            all_goals (try omega)
          clear hK K
          simp only [Act.put, List.setIfInBounds_toArray, List.set_cons_succ, List.set_cons_zero]
          refine wpQuiet_step (fun K hK => ?_)
          rw [if_pos (by rfl)]
          refine ⟨.bool true, fun W hW => quiet_ok ?_, hK _ ?_⟩
          · have q := HX.out W hW
            obtain ⟨m0, m1, m2, _⟩ := q
            have q3 := HZ.out W hW
            obtain ⟨y0, y1, y2, _⟩ := q3
            have e5 := HE5.out
            have v47 := HU47.out
            go_simp
            all_goals (try omega)
          clear hK K
          simp only [Act.put, List.setIfInBounds_toArray, List.set_cons_succ, List.set_cons_zero]
          refine wpQuiet_step (fun K hK => ?_)
          rw [if_pos (by rfl)]
          refine ⟨.bool true, fun W hW => quiet_ok ?_, hK _ ?_⟩
          · have q := HX.out W hW
            obtain ⟨m0, m1, m2, _⟩ := q
            have q3 := HZ.out W hW
            obtain ⟨y0, y1, y2, _⟩ := q3
            have e5 := HE5.out
            have v47 := HU47.out
            go_simp
            all_goals (try omega)
          clear hK K
          simp only [Act.put, List.setIfInBounds_toArray, List.set_cons_succ, List.set_cons_zero]
          refine wpQuiet_nil ?_
          intro W hW
          have hbW := HBW.out W hW
          go_wp2_with fail
          go_ret
          exact ⟨ret_bool HF.out.symm, hbW⟩
        · have e5 : 0 < x.2.2.length := List.length_pos_iff.2 h5
          have HBT : Hid (typesB x.2.2 = false → r = false) := fun h => HBAD.out (HG.out.trans (by rw [h]; simp))
          have HUP : Hid (typesB x.2.2 = true → ∀ j, j < k + 1 → gsB ap L j = true) := fun h => HUPA.out (HG.out.trans (by rw [h1, h2, h4, h, show (x.2.2 == []) = false by simpa using h5]; simp [HK.out]))
          have e5i : ¬ (x.2.2.length : Int) = 0 := by omega
          have e5b : ((x.2.2.length : Int) == 0) = false := beq_eq_false_iff_ne.2 (by omega)
          clear HBAD HG h1 h2 h4 h5 HUPA HGB
          obtain ⟨u47, hu47⟩ : ∃ u : Bool, u = false := ⟨_, rfl⟩
          have HU47 : Hid (u47 = false) := hu47
          clear hu47
          go_wp2_with fail
          rw [HW0.out, HGX.out]
          refine wp_region_quiet (C := fun W => Below W0.heap.size W0 W) (by kernel_rfl) (by kernel_rfl) hbd ?_
          refine wpQuiet_step (fun K hK => ?_)
          rw [if_pos (by rfl)]
          refine ⟨.pointer (some ⟨gx, 0, none⟩), fun W hW => quiet_ok ?_, hK _ ?_⟩
          · have q := HX.out W hW
            obtain ⟨m0, m1, m2, _⟩ := q
            have q3 := HZ.out W hW
            obtain ⟨y0, y1, y2, _⟩ := q3
            go_simp
            all_goals (try omega)
          clear hK K
          simp only [Act.put, List.setIfInBounds_toArray, List.set_cons_succ, List.set_cons_zero]
          refine wpQuiet_step (fun K hK => ?_)
          rw [if_pos (by rfl)]
          refine ⟨.string ⟨x.1.toArray⟩, fun W hW => quiet_ok ?_, hK _ ?_⟩
          · have q := HX.out W hW
            obtain ⟨m0, m1, m2, _⟩ := q
            have q3 := HZ.out W hW
            obtain ⟨y0, y1, y2, _⟩ := q3
            go_simp
            all_goals (try omega)
          clear hK K
          simp only [Act.put, List.setIfInBounds_toArray, List.set_cons_succ, List.set_cons_zero]
          refine wpQuiet_step (fun K hK => ?_)
          rw [if_pos (by rfl)]
          refine ⟨.bool true, fun W hW => quiet_call (f := 18) (args := #[.string ⟨x.1.toArray⟩]) ?_ ?_, hK _ ?_⟩
          · go_simp
          · exact (HN.out W).mono fun e w'' h => ⟨h.1, HTR.out _ _ hW h.2⟩
          clear hK K
          simp only [Act.put, List.setIfInBounds_toArray, List.set_cons_succ, List.set_cons_zero]
          refine wpQuiet_step (fun K hK => ?_)
          rw [if_pos (by rfl)]
          refine ⟨.bool false, fun W hW => quiet_ok ?_, hK _ ?_⟩
          · have q := HX.out W hW
            obtain ⟨m0, m1, m2, _⟩ := q
            have q3 := HZ.out W hW
            obtain ⟨y0, y1, y2, _⟩ := q3
            go_simp
            all_goals (try omega)
          clear hK K
          simp only [Act.put, List.setIfInBounds_toArray, List.set_cons_succ, List.set_cons_zero]
          refine wpQuiet_step (fun K hK => ?_)
          rw [if_pos (by rfl)]
          refine ⟨.bool false, fun W hW => quiet_ok ?_, hK _ ?_⟩
          · have q := HX.out W hW
            obtain ⟨m0, m1, m2, _⟩ := q
            have q3 := HZ.out W hW
            obtain ⟨y0, y1, y2, _⟩ := q3
            go_simp
            all_goals (try omega)
          clear hK K
          simp only [Act.put, List.setIfInBounds_toArray, List.set_cons_succ, List.set_cons_zero]
          refine wpQuiet_step (fun K hK => ?_)
          rw [if_pos (by rfl)]
          refine ⟨.pointer (some ⟨gx, 0, none⟩), fun W hW => quiet_ok ?_, hK _ ?_⟩
          · have q := HX.out W hW
            obtain ⟨m0, m1, m2, _⟩ := q
            have q3 := HZ.out W hW
            obtain ⟨y0, y1, y2, _⟩ := q3
            go_simp
            all_goals (try omega)
          clear hK K
          simp only [Act.put, List.setIfInBounds_toArray, List.set_cons_succ, List.set_cons_zero]
          refine wpQuiet_step (fun K hK => ?_)
          rw [if_pos (by rfl)]
          refine ⟨.string ⟨x.1.toArray⟩, fun W hW => quiet_ok ?_, hK _ ?_⟩
          · have q := HX.out W hW
            obtain ⟨m0, m1, m2, _⟩ := q
            have q3 := HZ.out W hW
            obtain ⟨y0, y1, y2, _⟩ := q3
            go_simp
            all_goals (try omega)
          clear hK K
          simp only [Act.put, List.setIfInBounds_toArray, List.set_cons_succ, List.set_cons_zero]
          refine wpQuiet_step (fun K hK => ?_)
          rw [if_pos (by rfl)]
          refine ⟨.string ⟨ap.toArray⟩, fun W hW => quiet_ok ?_, hK _ ?_⟩
          · have q := HX.out W hW
            obtain ⟨m0, m1, m2, _⟩ := q
            have q3 := HZ.out W hW
            obtain ⟨y0, y1, y2, _⟩ := q3
            go_simp
            all_goals (try omega)
          clear hK K
          simp only [Act.put, List.setIfInBounds_toArray, List.set_cons_succ, List.set_cons_zero]
          refine wpQuiet_step (fun K hK => ?_)
          rw [if_pos (by rfl)]
          refine ⟨.bool true, fun W hW => quiet_call (f := 20) (args := #[.string ⟨x.1.toArray⟩, .string ⟨ap.toArray⟩]) ?_ ?_, hK _ ?_⟩
          · go_simp
          · exact (HLB.out W).mono fun e w'' h => ⟨h.1, HTR.out _ _ hW h.2⟩
          clear hK K
          simp only [Act.put, List.setIfInBounds_toArray, List.set_cons_succ, List.set_cons_zero]
          refine wpQuiet_step (fun K hK => ?_)
          rw [if_pos (by rfl)]
          refine ⟨.bool false, fun W hW => quiet_ok ?_, hK _ ?_⟩
          · have q := HX.out W hW
            obtain ⟨m0, m1, m2, _⟩ := q
            have q3 := HZ.out W hW
            obtain ⟨y0, y1, y2, _⟩ := q3
            go_simp
            all_goals (try omega)
          clear hK K
          simp only [Act.put, List.setIfInBounds_toArray, List.set_cons_succ, List.set_cons_zero]
          refine wpQuiet_step (fun K hK => ?_)
          rw [if_pos (by rfl)]
          refine ⟨.bool false, fun W hW => quiet_ok ?_, hK _ ?_⟩
          · have q := HX.out W hW
            obtain ⟨m0, m1, m2, _⟩ := q
            have q3 := HZ.out W hW
            obtain ⟨y0, y1, y2, _⟩ := q3
            go_simp
            all_goals (try omega)
          clear hK K
          simp only [Act.put, List.setIfInBounds_toArray, List.set_cons_succ, List.set_cons_zero]
          refine wpQuiet_step (fun K hK => ?_)
          rw [if_pos (by rfl)]
          refine ⟨.bool false, fun W hW => quiet_ok ?_, hK _ ?_⟩
          · have q := HX.out W hW
            obtain ⟨m0, m1, m2, _⟩ := q
            have q3 := HZ.out W hW
            obtain ⟨y0, y1, y2, _⟩ := q3
            go_simp
            all_goals (try omega)
          clear hK K
          simp only [Act.put, List.setIfInBounds_toArray, List.set_cons_succ, List.set_cons_zero]
          refine wpQuiet_step (fun K hK => ?_)
          rw [if_pos (by rfl)]
          refine ⟨.int .i64 (k : Int), fun W hW => quiet_ok ?_, hK _ ?_⟩
          · have q := HX.out W hW
            obtain ⟨m0, m1, m2, _⟩ := q
            have q3 := HZ.out W hW
            obtain ⟨y0, y1, y2, _⟩ := q3
            go_simp
            all_goals (try omega)
          clear hK K
          simp only [Act.put, List.setIfInBounds_toArray, List.set_cons_succ, List.set_cons_zero]
          refine wpQuiet_step (fun K hK => ?_)
          rw [if_pos (by rfl)]
          refine ⟨.bool false, fun W hW => quiet_ok ?_, hK _ ?_⟩
          · have q := HX.out W hW
            obtain ⟨m0, m1, m2, _⟩ := q
            have q3 := HZ.out W hW
            obtain ⟨y0, y1, y2, _⟩ := q3
            go_simp
            all_goals (try omega)
          clear hK K
          simp only [Act.put, List.setIfInBounds_toArray, List.set_cons_succ, List.set_cons_zero]
          refine wpQuiet_step (fun K hK => ?_)
          rw [if_pos (by rfl)]
          refine ⟨.bool u47, fun W hW => quiet_ok ?_, hK _ ?_⟩
          · have q := HX.out W hW
            obtain ⟨m0, m1, m2, _⟩ := q
            have q3 := HZ.out W hW
            obtain ⟨y0, y1, y2, _⟩ := q3
            have v47 := HU47.out
            go_simp
            all_goals (try omega)
          clear hK K
          simp only [Act.put, List.setIfInBounds_toArray, List.set_cons_succ, List.set_cons_zero]
          refine BigFrame.wpQuiet_skip (by show (some u47 == some true) = false; rw [HU47.out]; rfl) ?_
          simp only [Act.put, List.setIfInBounds_toArray, List.set_cons_succ, List.set_cons_zero]
          refine BigFrame.wpQuiet_skip (by show (some u47 == some true) = false; rw [HU47.out]; rfl) ?_
          simp only [Act.put, List.setIfInBounds_toArray, List.set_cons_succ, List.set_cons_zero]
          refine BigFrame.wpQuiet_skip (by show (some u47 == some true) = false; rw [HU47.out]; rfl) ?_
          simp only [Act.put, List.setIfInBounds_toArray, List.set_cons_succ, List.set_cons_zero]
          refine BigFrame.wpQuiet_skip (by show (some u47 == some true) = false; rw [HU47.out]; rfl) ?_
          simp only [Act.put, List.setIfInBounds_toArray, List.set_cons_succ, List.set_cons_zero]
          refine BigFrame.wpQuiet_skip (by show (some u47 == some true) = false; rw [HU47.out]; rfl) ?_
          simp only [Act.put, List.setIfInBounds_toArray, List.set_cons_succ, List.set_cons_zero]
          refine BigFrame.wpQuiet_skip (by show (some u47 == some true) = false; rw [HU47.out]; rfl) ?_
          simp only [Act.put, List.setIfInBounds_toArray, List.set_cons_succ, List.set_cons_zero]
          refine BigFrame.wpQuiet_skip (by show (some u47 == some true) = false; rw [HU47.out]; rfl) ?_
          simp only [Act.put, List.setIfInBounds_toArray, List.set_cons_succ, List.set_cons_zero]
          refine BigFrame.wpQuiet_skip (by show (some u47 == some true) = false; rw [HU47.out]; rfl) ?_
          simp only [Act.put, List.setIfInBounds_toArray, List.set_cons_succ, List.set_cons_zero]
          refine BigFrame.wpQuiet_skip (by show (some u47 == some true) = false; rw [HU47.out]; rfl) ?_
          simp only [Act.put, List.setIfInBounds_toArray, List.set_cons_succ, List.set_cons_zero]
          refine BigFrame.wpQuiet_skip (by show (some u47 == some true) = false; rw [HU47.out]; rfl) ?_
          simp only [Act.put, List.setIfInBounds_toArray, List.set_cons_succ, List.set_cons_zero]
          refine wpQuiet_step (fun K hK => ?_)
          rw [if_pos (by rfl)]
          refine ⟨.bool false, fun W hW => quiet_ok ?_, hK _ ?_⟩
          · have q := HX.out W hW
            obtain ⟨m0, m1, m2, _⟩ := q
            have q3 := HZ.out W hW
            obtain ⟨y0, y1, y2, _⟩ := q3
            have v47 := HU47.out
            go_simp
            all_goals (try omega)
          clear hK K
          simp only [Act.put, List.setIfInBounds_toArray, List.set_cons_succ, List.set_cons_zero]
          refine wpQuiet_step (fun K hK => ?_)
          rw [if_pos (by rfl)]
          refine ⟨.bool false, fun W hW => quiet_ok ?_, hK _ ?_⟩
          · have q := HX.out W hW
            obtain ⟨m0, m1, m2, _⟩ := q
            have q3 := HZ.out W hW
            obtain ⟨y0, y1, y2, _⟩ := q3
            have v47 := HU47.out
            go_simp
            all_goals (try omega)
          clear hK K
          simp only [Act.put, List.setIfInBounds_toArray, List.set_cons_succ, List.set_cons_zero]
          refine wpQuiet_step (fun K hK => ?_)
          rw [if_pos (by rfl)]
          refine ⟨.bool false, fun W hW => quiet_ok ?_, hK _ ?_⟩
          · have q := HX.out W hW
            obtain ⟨m0, m1, m2, _⟩ := q
            have q3 := HZ.out W hW
            obtain ⟨y0, y1, y2, _⟩ := q3
            have v47 := HU47.out
            go_simp
            all_goals (try omega)
          clear hK K
          simp only [Act.put, List.setIfInBounds_toArray, List.set_cons_succ, List.set_cons_zero]
          refine wpQuiet_step (fun K hK => ?_)
          rw [if_pos (by rfl)]
          refine ⟨.pointer (some ⟨gx, 1, none⟩), fun W hW => quiet_ok ?_, hK _ ?_⟩
          · have q := HX.out W hW
            obtain ⟨m0, m1, m2, _⟩ := q
            have q3 := HZ.out W hW
            obtain ⟨y0, y1, y2, _⟩ := q3
            have v47 := HU47.out
            go_simp
            all_goals (try omega)
          clear hK K
          simp only [Act.put, List.setIfInBounds_toArray, List.set_cons_succ, List.set_cons_zero]
          refine wpQuiet_step (fun K hK => ?_)
          rw [if_pos (by rfl)]
          refine ⟨.string ⟨x.2.1.toArray⟩, fun W hW => quiet_ok ?_, hK _ ?_⟩
          · have q := HX.out W hW
            obtain ⟨m0, m1, m2, _⟩ := q
            have q3 := HZ.out W hW
            obtain ⟨y0, y1, y2, _⟩ := q3
            have v47 := HU47.out
            go_simp
            all_goals (try omega)
          clear hK K
          simp only [Act.put, List.setIfInBounds_toArray, List.set_cons_succ, List.set_cons_zero]
          refine wpQuiet_step (fun K hK => ?_)
          rw [if_pos (by rfl)]
          refine ⟨.slice (some ⟨b, o, none⟩) L.length cap, fun W hW => quiet_ok ?_, hK _ ?_⟩
          · have q := HX.out W hW
            obtain ⟨m0, m1, m2, _⟩ := q
            have q3 := HZ.out W hW
            obtain ⟨y0, y1, y2, _⟩ := q3
            have v47 := HU47.out
            go_simp
            all_goals (try omega)
          clear hK K
          simp only [Act.put, List.setIfInBounds_toArray, List.set_cons_succ, List.set_cons_zero]
          refine wpQuiet_step (fun K hK => ?_)
          rw [if_pos (by rfl)]
          refine ⟨.int .i64 (k : Int), fun W hW => quiet_ok ?_, hK _ ?_⟩
          · have q := HX.out W hW
            obtain ⟨m0, m1, m2, _⟩ := q
            have q3 := HZ.out W hW
            obtain ⟨y0, y1, y2, _⟩ := q3
            have v47 := HU47.out
            go_simp
            all_goals (try omega)
          clear hK K
          simp only [Act.put, List.setIfInBounds_toArray, List.set_cons_succ, List.set_cons_zero]
          refine wpQuiet_step (fun K hK => ?_)
          rw [if_pos (by rfl)]
          refine ⟨.int .i64 ((k : Int) + 1), fun W hW => quiet_ok ?_, hK _ ?_⟩
          · have q := HX.out W hW
            obtain ⟨m0, m1, m2, _⟩ := q
            have q3 := HZ.out W hW
            obtain ⟨y0, y1, y2, _⟩ := q3
            have v47 := HU47.out
            go_simp
            all_goals (try omega)
          clear hK K
          simp only [Act.put, List.setIfInBounds_toArray, List.set_cons_succ, List.set_cons_zero]
          refine wpQuiet_step (fun K hK => ?_)
          rw [if_pos (by rfl)]
          refine ⟨.slice (some ⟨b, o, none⟩) L.length cap, fun W hW => quiet_ok ?_, hK _ ?_⟩
          · have q := HX.out W hW
            obtain ⟨m0, m1, m2, _⟩ := q
            have q3 := HZ.out W hW
            obtain ⟨y0, y1, y2, _⟩ := q3
            have v47 := HU47.out
            go_simp
            all_goals (try omega)
          clear hK K
          simp only [Act.put, List.setIfInBounds_toArray, List.set_cons_succ, List.set_cons_zero]
          refine wpQuiet_step (fun K hK => ?_)
          rw [if_pos (by rfl)]
          refine ⟨.int .i64 (L.length : Int), fun W hW => quiet_ok ?_, hK _ ?_⟩
          · have q := HX.out W hW
            obtain ⟨m0, m1, m2, _⟩ := q
            have q3 := HZ.out W hW
            obtain ⟨y0, y1, y2, _⟩ := q3
            have v47 := HU47.out
            go_simp
            all_goals (try omega)
          clear hK K
          simp only [Act.put, List.setIfInBounds_toArray, List.set_cons_succ, List.set_cons_zero]
          refine wpQuiet_step (fun K hK => ?_)
          rw [if_pos (by rfl)]
          refine ⟨.int .i64 (m : Int), fun W hW => quiet_ok ?_, hK _ ?_⟩
          · have q := HX.out W hW
            obtain ⟨m0, m1, m2, _⟩ := q
            have q3 := HZ.out W hW
            obtain ⟨y0, y1, y2, _⟩ := q3
            have v47 := HU47.out
            go_simp
            all_goals (try omega)
          clear hK K
          simp only [Act.put, List.setIfInBounds_toArray, List.set_cons_succ, List.set_cons_zero]
          refine wpQuiet_step (fun K hK => ?_)
          rw [if_pos (by rfl)]
          refine ⟨.pointer (some ⟨b, o + m * 3, none⟩), fun W hW => quiet_ok ?_, hK _ ?_⟩
          · have q := HX.out W hW
            obtain ⟨m0, m1, m2, _⟩ := q
            have q3 := HZ.out W hW
            obtain ⟨y0, y1, y2, _⟩ := q3
            have v47 := HU47.out
            go_simp
            all_goals (try omega)
          clear hK K
          simp only [Act.put, List.setIfInBounds_toArray, List.set_cons_succ, List.set_cons_zero]
          refine wpQuiet_step (fun K hK => ?_)
          rw [if_pos (by rfl)]
          refine ⟨.pointer (some ⟨b, o + m * 3, none⟩), fun W hW => quiet_ok ?_, hK _ ?_⟩
          · have q := HX.out W hW
            obtain ⟨m0, m1, m2, _⟩ := q
            have q3 := HZ.out W hW
            obtain ⟨y0, y1, y2, _⟩ := q3
            have v47 := HU47.out
            go_simp
            all_goals (try omega)
          clear hK K
          simp only [Act.put, List.setIfInBounds_toArray, List.set_cons_succ, List.set_cons_zero]
          refine wpQuiet_step (fun K hK => ?_)
          rw [if_pos (by rfl)]
          refine ⟨.string ⟨z.1.toArray⟩, fun W hW => quiet_ok ?_, hK _ ?_⟩
          · have q := HX.out W hW
            obtain ⟨m0, m1, m2, _⟩ := q
            have q3 := HZ.out W hW
            obtain ⟨y0, y1, y2, _⟩ := q3
            have v47 := HU47.out
            go_simp
            all_goals (try omega)
          clear hK K
          simp only [Act.put, List.setIfInBounds_toArray, List.set_cons_succ, List.set_cons_zero]
          refine wpQuiet_step (fun K hK => ?_)
          rw [if_pos (by rfl)]
          refine ⟨.bool false, fun W hW => quiet_ok ?_, hK _ ?_⟩
          · have q := HX.out W hW
            obtain ⟨m0, m1, m2, _⟩ := q
            have q3 := HZ.out W hW
            obtain ⟨y0, y1, y2, _⟩ := q3
            have v47 := HU47.out
            go_simp
            all_goals (try omega)
          clear hK K
          simp only [Act.put, List.setIfInBounds_toArray, List.set_cons_succ, List.set_cons_zero]
          refine wpQuiet_step (fun K hK => ?_)
          rw [if_pos (by rfl)]
          refine ⟨.bool false, fun W hW => quiet_ok ?_, hK _ ?_⟩
          · have q := HX.out W hW
            obtain ⟨m0, m1, m2, _⟩ := q
            have q3 := HZ.out W hW
            obtain ⟨y0, y1, y2, _⟩ := q3
            have v47 := HU47.out
            go_simp
            all_goals (try omega)
          clear hK K
          simp only [Act.put, List.setIfInBounds_toArray, List.set_cons_succ, List.set_cons_zero]
          refine wpQuiet_step (fun K hK => ?_)
          rw [if_pos (by rfl)]
          refine ⟨.bool false, fun W hW => quiet_ok ?_, hK _ ?_⟩
          · have q := HX.out W hW
            obtain ⟨m0, m1, m2, _⟩ := q
            have q3 := HZ.out W hW
            obtain ⟨y0, y1, y2, _⟩ := q3
            have v47 := HU47.out
            go_simp
            all_goals (try omega)
          clear hK K
          simp only [Act.put, List.setIfInBounds_toArray, List.set_cons_succ, List.set_cons_zero]
          refine wpQuiet_step (fun K hK => ?_)
          rw [if_pos (by rfl)]
          refine ⟨.pointer (some ⟨gx, 2, none⟩), fun W hW => quiet_ok ?_, hK _ ?_⟩
          · have q := HX.out W hW
            obtain ⟨m0, m1, m2, _⟩ := q
            have q3 := HZ.out W hW
            obtain ⟨y0, y1, y2, _⟩ := q3
            have v47 := HU47.out
            go_simp
            all_goals (try omega)
          clear hK K
          simp only [Act.put, List.setIfInBounds_toArray, List.set_cons_succ, List.set_cons_zero]
          refine wpQuiet_step (fun K hK => ?_)
          rw [if_pos (by rfl)]
          refine ⟨.slice aa x.2.2.length ca, fun W hW => quiet_ok ?_, hK _ ?_⟩
          · have q := HX.out W hW
            obtain ⟨m0, m1, m2, _⟩ := q
            have q3 := HZ.out W hW
            obtain ⟨y0, y1, y2, _⟩ := q3
            have v47 := HU47.out
            go_simp
            all_goals (try omega)
          clear hK K
          simp only [Act.put, List.setIfInBounds_toArray, List.set_cons_succ, List.set_cons_zero]
          refine wpQuiet_step (fun K hK => ?_)
          rw [if_pos (by rfl)]
          refine ⟨.int .i64 (x.2.2.length : Int), fun W hW => quiet_ok ?_, hK _ ?_⟩
          · have q := HX.out W hW
            obtain ⟨m0, m1, m2, _⟩ := q
            have q3 := HZ.out W hW
            obtain ⟨y0, y1, y2, _⟩ := q3
            have v47 := HU47.out
            go_simp
            all_goals (try omega)
          clear hK K
          simp only [Act.put, List.setIfInBounds_toArray, List.set_cons_succ, List.set_cons_zero]
          refine wpQuiet_step (fun K hK => ?_)
          rw [if_pos (by rfl)]
          refine ⟨.bool false, fun W hW => quiet_ok ?_, hK _ ?_⟩
          · have q := HX.out W hW
            obtain ⟨m0, m1, m2, _⟩ := q
            have q3 := HZ.out W hW
            obtain ⟨y0, y1, y2, _⟩ := q3
            have v47 := HU47.out
            go_simp
            all_goals (try omega)
          clear hK K
          simp only [Act.put, List.setIfInBounds_toArray, List.set_cons_succ, List.set_cons_zero]
          refine wpQuiet_step (fun K hK => ?_)
          rw [if_pos (by rfl)]
          refine ⟨.bool false, fun W hW => quiet_ok ?_, hK _ ?_⟩
          · have q := HX.out W hW
            obtain ⟨m0, m1, m2, _⟩ := q
            have q3 := HZ.out W hW
            obtain ⟨y0, y1, y2, _⟩ := q3
            have v47 := HU47.out
            go_simp
            all_goals (try omega)
          clear hK K
          simp only [Act.put, List.setIfInBounds_toArray, List.set_cons_succ, List.set_cons_zero]
          refine wpQuiet_nil ?_
          intro W hW
          have hbW := HBW.out W hW
          -- the round's inner loop over the types
          clear HN HLB hbd
          obtain ⟨b2, o2, ha2, hbl2, hc2⟩ := HROW2.out (by omega)
          subst ha2
          have HCT : Hid (∀ W, Below W0.heap.size W0 W → ∀ i, (hi : i < x.2.2.length) → W.cell? ⟨b2, o2 + i, none⟩ = some (.int .i64 x.2.2[i])) := fun W hW i hi => by
            rw [(HX.out W hW).2.2.2.cell (p := ⟨b2, o2 + i, none⟩) hbl2]; exact hc2 i hi
          have HGW : Hid (Below W0.heap.size W0 W) := hW
          obtain ⟨q0, q1, q2, _⟩ := HX.out W hW
          clear hc2 hbl2 hW HROW2 hbW
          go_wp2_with fail
          clear q0 q1 q2
          go_loopw [83] (fun i w3 => ∃ n : Nat, n ≤ x.2.2.length ∧ i = .int .i64 (n : Int) ∧ Hid (∀ i, i < n → tyB x.2.2 i = true) ∧ Below W0.heap.size W0 w3) (fun i _ => x.2.2.length - (intOf i).toNat)
          case atStart => exact ⟨0, Nat.zero_le _, rfl, fun j h => absurd h (Nat.not_lt_zero _), HGW.out⟩
          case round =>
            obtain ⟨n, hn, rfl, HTA, hb3⟩ := hrel
            have hbW3 := HBW.out _ hb3
            obtain ⟨q0, q1, q2, _⟩ := HX.out _ hb3
            by_cases hlt3 : n < x.2.2.length
            · have hcx := HCT.out _ hb3 n hlt3
              have HBAD3 : Hid (tyB x.2.2 n = false → r = false) := fun h => HBT.out (types_bad n hlt3 h)
              have hni : (n : Int) < (x.2.2.length : Int) := by omega
              rcases Nat.eq_zero_or_pos n with hn0 | hn0
              · have HT0 : Hid (tyB x.2.2 n = typB (x.2.2[n]'hlt3)) := by subst hn0; exact ty_zero hlt3
                obtain ⟨t, ht⟩ : ∃ t, t = x.2.2[n]'hlt3 := ⟨_, rfl⟩
                rw [← ht] at HT0 hcx
                have HI : Hid (∀ W, Calls Tryd.prog 22 #[.int .i64 t] W fun e w' => e = .returned (.bool (typB t)) ∧ Below W.heap.size W w') := fun W => l3Type_any t W
                have hn0i : ¬ (0 : Int) < (n : Int) := by omega
                clear ht hn0
                cases htt : typB t with
                | false =>
                  have HF : Hid (r = false) := HBAD3.out (HT0.out.trans htt)
                  rw [htt] at HI
                  clear HBAD3 HT0 htt
                  go_wp2_with fail
                  refine (HI.out _).mono ?_
                  rintro e w4 ⟨rfl, hb4⟩
                  have hbW4 := HBW.out _ (hb3.trans (hb4.mono hb3.size))
                  go_wp2_with fail
                  go_ret
                  exact ⟨ret_bool HF.out.symm, hbW4⟩
                | true =>
                  have HU3 : Hid (∀ j, j < n + 1 → tyB x.2.2 j = true) := all_up HTA.out (HT0.out.trans htt)
                  rw [htt] at HI
                  clear HBAD3 HT0 htt
                  go_wp2_with fail
                  refine (HI.out _).mono ?_
                  rintro e w4 ⟨rfl, hb4⟩
                  have hb34 := hb3.trans (hb4.mono hb3.size)
                  go_wp2_with fail
                  go_roundw
                  case rel => exact ⟨n + 1, by omega, by go_num, HU3, hb34⟩
                  case measure => simp [intOf]; omega
              · obtain ⟨i, hi⟩ : ∃ i, n = i + 1 := ⟨n - 1, by omega⟩
                have HT0 : Hid (tyB x.2.2 n = (typB (x.2.2[n]'hlt3) && decide ((x.2.2[i]'(by omega)) < x.2.2[n]'hlt3))) := by subst hi; exact ty_succ i hlt3
                obtain ⟨t, ht⟩ : ∃ t, t = x.2.2[n]'hlt3 := ⟨_, rfl⟩
                obtain ⟨s, hs⟩ : ∃ s, s = x.2.2[i]'(by omega) := ⟨_, rfl⟩
                have HCI : Hid (∀ W, Below W0.heap.size W0 W → W.cell? ⟨b2, o2 + i, none⟩ = some (.int .i64 s)) := fun W hW => by rw [hs]; exact HCT.out W hW i (by omega)
                rw [← ht, ← hs] at HT0
                rw [← ht] at hcx
                have HI : Hid (∀ W, Calls Tryd.prog 22 #[.int .i64 t] W fun e w' => e = .returned (.bool (typB t)) ∧ Below W.heap.size W w') := fun W => l3Type_any t W
                have hn0i : (0 : Int) < (n : Int) := by omega
                have wn : IntKind.i64.wrap ((n : Int) - 1) = (i : Int) := by rw [wrap_small _ (by omega) (by omega)]; omega
                have wn2 : (n : Int) - 1 = (i : Int) := by omega
                have hii : (i : Int) < (x.2.2.length : Int) := by omega
                clear ht hs hn0 hi
                cases htt : typB t with
                | false =>
                  have HF : Hid (r = false) := HBAD3.out (HT0.out.trans (by rw [htt]; rfl))
                  rw [htt] at HI
                  clear HBAD3 HT0 htt
                  go_wp2_with fail
                  refine (HI.out _).mono ?_
                  rintro e w4 ⟨rfl, hb4⟩
                  have hbW4 := HBW.out _ (hb3.trans (hb4.mono hb3.size))
                  go_wp2_with fail
                  go_ret
                  exact ⟨ret_bool HF.out.symm, hbW4⟩
                | true =>
                  rw [htt] at HI
                  by_cases hst : s < t
                  · have HU3 : Hid (∀ j, j < n + 1 → tyB x.2.2 j = true) := all_up HTA.out (HT0.out.trans (by rw [htt, decide_eq_true hst]; rfl))
                    clear HBAD3 HT0 htt
                    go_wp2_with fail
                    refine (HI.out _).mono ?_
                    rintro e w4 ⟨rfl, hb4⟩
                    have hb34 := hb3.trans (hb4.mono hb3.size)
                    have hcs := HCI.out _ hb34
                    clear q0 q1 q2
                    obtain ⟨q0, q1, q2, _⟩ := HX.out _ hb34
                    go_wp2_with fail
                    go_roundw
                    case rel => exact ⟨n + 1, by omega, by go_num, HU3, hb34⟩
                    case measure => simp [intOf]; omega
                  · have HF : Hid (r = false) := HBAD3.out (HT0.out.trans (by rw [htt, decide_eq_false hst]; rfl))
                    clear HBAD3 HT0 htt
                    go_wp2_with fail
                    refine (HI.out _).mono ?_
                    rintro e w4 ⟨rfl, hb4⟩
                    have hb34 := hb3.trans (hb4.mono hb3.size)
                    have hbW4 := HBW.out _ hb34
                    have hcs := HCI.out _ hb34
                    clear q0 q1 q2
                    obtain ⟨q0, q1, q2, _⟩ := HX.out _ hb34
                    go_wp2_with fail
                    go_ret
                    exact ⟨ret_bool HF.out.symm, hbW4⟩
            · have HU : Hid (∀ j, j < k + 1 → gsB ap L j = true) := HUP.out (types_all (fun j hj => HTA.out j (by omega)))
              go_wp2_with fail
              go_roundw
              case rel => exact ⟨k + 1, by omega, by go_num, HU, hbW3⟩
              case measure => simp [intOf]; omega
      · obtain ⟨j, hj⟩ : ∃ j, k = j + 1 := ⟨k - 1, by omega⟩
        obtain ⟨y, vb, hye, hyo, hny, hyl, hyc⟩ := HROWS.out j hj
        rw [← hyo] at HG
        have HCM : Hid (∀ W, Calls Tryd.prog 21 #[.string ⟨y.1.toArray⟩, .string ⟨x.1.toArray⟩] W fun e w' => e = .returned (.int .i64 (cmpN y.1 x.1)) ∧ Below W.heap.size W w') := fun W => l1Compare_any ⟨y.1.toArray⟩ ⟨x.1.toArray⟩ W (by rw [size_list]; omega) (by rw [size_list]; omega) ⟨hny, h1⟩
        have HY : Hid (∀ W, Below W0.heap.size W0 W → W.cell? ⟨b, o + j * 3, none⟩ = some (.string ⟨y.1.toArray⟩) ∧ W.cell? ⟨b, o + j * 3 + 1, none⟩ = some (.string ⟨y.2.1.toArray⟩) ∧ W.cell? ⟨b, o + j * 3 + 2, none⟩ = some vb ∧ ZRow .i64 W vb y.2.2) := fun W hW => hyc W (HBW.out W hW)
        obtain ⟨c, hc⟩ : ∃ c, c = cmpN y.1 x.1 := ⟨_, rfl⟩
        rw [← hc] at HCM HG
        have hk0i : (0 : Int) < (k : Int) := by omega
        have wk : IntKind.i64.wrap ((k : Int) - 1) = (j : Int) := by rw [wrap_small _ (by omega) (by omega)]; omega
        have wk2 : (k : Int) - 1 = (j : Int) := by omega
        have wj : IntKind.i64.wrap (j : Int) = (j : Int) := wrap_small _ (by omega) (by omega)
        have hjl : (j : Int) < (L.length : Int) := by omega
        have hkb : (k == 0) = false := by simp; omega
        have HKB : Hid ((k == 0) = false) := hkb
        clear HROWS hk0 hye hyo hny hyl hyc hj hc hkb
        by_cases h3 : 0 ≤ c
        · have HF : Hid (r = false) := HBAD.out (HG.out.trans (by rw [HKB.out, decide_eq_false (show ¬ c < 0 by omega)]; simp))
          clear HBAD HG h1 h2 HUPA HGB
          obtain ⟨u60, hu60⟩ : ∃ u : Bool, u = true := ⟨_, rfl⟩
          have HU60 : Hid (u60 = true) := hu60
          clear hu60
          obtain ⟨u74, hu74⟩ : ∃ u : Bool, u = true := ⟨_, rfl⟩
          have HU74 : Hid (u74 = true) := hu74
          clear hu74
          go_wp2_with fail
          rw [HW0.out, HGX.out]
          refine wp_region_quiet (C := fun W => Below W0.heap.size W0 W) (by kernel_rfl) (by kernel_rfl) hbd ?_
          refine wpQuiet_step (fun K hK => ?_)
          rw [if_pos (by rfl)]
          refine ⟨.pointer (some ⟨gx, 0, none⟩), fun W hW => quiet_ok ?_, hK _ ?_⟩
          · have q := HX.out W hW
            obtain ⟨m0, m1, m2, _⟩ := q
            have q2 := HY.out W hW
            obtain ⟨z0, z1, z2, _⟩ := q2
            go_simp
            all_goals (try omega)
          clear hK K
          simp only [Act.put, List.setIfInBounds_toArray, List.set_cons_succ, List.set_cons_zero]
          refine wpQuiet_step (fun K hK => ?_)
          rw [if_pos (by rfl)]
          refine ⟨.string ⟨x.1.toArray⟩, fun W hW => quiet_ok ?_, hK _ ?_⟩
          · have q := HX.out W hW
            obtain ⟨m0, m1, m2, _⟩ := q
            have q2 := HY.out W hW
            obtain ⟨z0, z1, z2, _⟩ := q2
            go_simp
            all_goals (try omega)
          clear hK K
          simp only [Act.put, List.setIfInBounds_toArray, List.set_cons_succ, List.set_cons_zero]
          refine wpQuiet_step (fun K hK => ?_)
          rw [if_pos (by rfl)]
          refine ⟨.bool true, fun W hW => quiet_call (f := 18) (args := #[.string ⟨x.1.toArray⟩]) ?_ ?_, hK _ ?_⟩
          · go_simp
          · exact (HN.out W).mono fun e w'' h => ⟨h.1, HTR.out _ _ hW h.2⟩
          clear hK K
          simp only [Act.put, List.setIfInBounds_toArray, List.set_cons_succ, List.set_cons_zero]
          refine wpQuiet_step (fun K hK => ?_)
          rw [if_pos (by rfl)]
          refine ⟨.bool false, fun W hW => quiet_ok ?_, hK _ ?_⟩
          · have q := HX.out W hW
            obtain ⟨m0, m1, m2, _⟩ := q
            have q2 := HY.out W hW
            obtain ⟨z0, z1, z2, _⟩ := q2
            go_simp
            all_goals (try omega)
          clear hK K
          simp only [Act.put, List.setIfInBounds_toArray, List.set_cons_succ, List.set_cons_zero]
          refine wpQuiet_step (fun K hK => ?_)
          rw [if_pos (by rfl)]
          refine ⟨.bool false, fun W hW => quiet_ok ?_, hK _ ?_⟩
          · have q := HX.out W hW
            obtain ⟨m0, m1, m2, _⟩ := q
            have q2 := HY.out W hW
            obtain ⟨z0, z1, z2, _⟩ := q2
            go_simp
            all_goals (try omega)
          clear hK K
          simp only [Act.put, List.setIfInBounds_toArray, List.set_cons_succ, List.set_cons_zero]
          refine wpQuiet_step (fun K hK => ?_)
          rw [if_pos (by rfl)]
          refine ⟨.pointer (some ⟨gx, 0, none⟩), fun W hW => quiet_ok ?_, hK _ ?_⟩
          · have q := HX.out W hW
            obtain ⟨m0, m1, m2, _⟩ := q
            have q2 := HY.out W hW
            obtain ⟨z0, z1, z2, _⟩ := q2
            go_simp
            all_goals (try omega)
          clear hK K
          simp only [Act.put, List.setIfInBounds_toArray, List.set_cons_succ, List.set_cons_zero]
          refine wpQuiet_step (fun K hK => ?_)
          rw [if_pos (by rfl)]
          refine ⟨.string ⟨x.1.toArray⟩, fun W hW => quiet_ok ?_, hK _ ?_⟩
          · have q := HX.out W hW
            obtain ⟨m0, m1, m2, _⟩ := q
            have q2 := HY.out W hW
            obtain ⟨z0, z1, z2, _⟩ := q2
            go_simp
            all_goals (try omega)
          clear hK K
          simp only [Act.put, List.setIfInBounds_toArray, List.set_cons_succ, List.set_cons_zero]
          refine wpQuiet_step (fun K hK => ?_)
          rw [if_pos (by rfl)]
          refine ⟨.string ⟨ap.toArray⟩, fun W hW => quiet_ok ?_, hK _ ?_⟩
          · have q := HX.out W hW
            obtain ⟨m0, m1, m2, _⟩ := q
            have q2 := HY.out W hW
            obtain ⟨z0, z1, z2, _⟩ := q2
            go_simp
            all_goals (try omega)
          clear hK K
          simp only [Act.put, List.setIfInBounds_toArray, List.set_cons_succ, List.set_cons_zero]
          refine wpQuiet_step (fun K hK => ?_)
          rw [if_pos (by rfl)]
          refine ⟨.bool true, fun W hW => quiet_call (f := 20) (args := #[.string ⟨x.1.toArray⟩, .string ⟨ap.toArray⟩]) ?_ ?_, hK _ ?_⟩
          · go_simp
          · exact (HLB.out W).mono fun e w'' h => ⟨h.1, HTR.out _ _ hW h.2⟩
          clear hK K
          simp only [Act.put, List.setIfInBounds_toArray, List.set_cons_succ, List.set_cons_zero]
          refine wpQuiet_step (fun K hK => ?_)
          rw [if_pos (by rfl)]
          refine ⟨.bool false, fun W hW => quiet_ok ?_, hK _ ?_⟩
          · have q := HX.out W hW
            obtain ⟨m0, m1, m2, _⟩ := q
            have q2 := HY.out W hW
            obtain ⟨z0, z1, z2, _⟩ := q2
            go_simp
            all_goals (try omega)
          clear hK K
          simp only [Act.put, List.setIfInBounds_toArray, List.set_cons_succ, List.set_cons_zero]
          refine wpQuiet_step (fun K hK => ?_)
          rw [if_pos (by rfl)]
          refine ⟨.bool false, fun W hW => quiet_ok ?_, hK _ ?_⟩
          · have q := HX.out W hW
            obtain ⟨m0, m1, m2, _⟩ := q
            have q2 := HY.out W hW
            obtain ⟨z0, z1, z2, _⟩ := q2
            go_simp
            all_goals (try omega)
          clear hK K
          simp only [Act.put, List.setIfInBounds_toArray, List.set_cons_succ, List.set_cons_zero]
          refine wpQuiet_step (fun K hK => ?_)
          rw [if_pos (by rfl)]
          refine ⟨.bool false, fun W hW => quiet_ok ?_, hK _ ?_⟩
          · have q := HX.out W hW
            obtain ⟨m0, m1, m2, _⟩ := q
            have q2 := HY.out W hW
            obtain ⟨z0, z1, z2, _⟩ := q2
            go_simp
            all_goals (try omega)
          clear hK K
          simp only [Act.put, List.setIfInBounds_toArray, List.set_cons_succ, List.set_cons_zero]
          refine wpQuiet_step (fun K hK => ?_)
          rw [if_pos (by rfl)]
          refine ⟨.int .i64 (k : Int), fun W hW => quiet_ok ?_, hK _ ?_⟩
          · have q := HX.out W hW
            obtain ⟨m0, m1, m2, _⟩ := q
            have q2 := HY.out W hW
            obtain ⟨z0, z1, z2, _⟩ := q2
            go_simp
            all_goals (try omega)
          clear hK K
          simp only [Act.put, List.setIfInBounds_toArray, List.set_cons_succ, List.set_cons_zero]
          refine wpQuiet_step (fun K hK => ?_)
          rw [if_pos (by rfl)]
          refine ⟨.bool true, fun W hW => quiet_ok ?_, hK _ ?_⟩
          · have q := HX.out W hW
            obtain ⟨m0, m1, m2, _⟩ := q
            have q2 := HY.out W hW
            obtain ⟨z0, z1, z2, _⟩ := q2
            go_simp
            all_goals (try omega)
          clear hK K
          simp only [Act.put, List.setIfInBounds_toArray, List.set_cons_succ, List.set_cons_zero]
          refine wpQuiet_step (fun K hK => ?_)
          rw [if_pos (by rfl)]
          refine ⟨.bool true, fun W hW => quiet_ok ?_, hK _ ?_⟩
          · have q := HX.out W hW
            obtain ⟨m0, m1, m2, _⟩ := q
            have q2 := HY.out W hW
            obtain ⟨z0, z1, z2, _⟩ := q2
            go_simp
            all_goals (try omega)
          clear hK K
          simp only [Act.put, List.setIfInBounds_toArray, List.set_cons_succ, List.set_cons_zero]
          refine wpQuiet_step (fun K hK => ?_)
          rw [if_pos (by rfl)]
          refine ⟨.slice (some ⟨b, o, none⟩) L.length cap, fun W hW => quiet_ok ?_, hK _ ?_⟩
          · have q := HX.out W hW
            obtain ⟨m0, m1, m2, _⟩ := q
            have q2 := HY.out W hW
            obtain ⟨z0, z1, z2, _⟩ := q2
            go_simp
            all_goals (try omega)
          clear hK K
          simp only [Act.put, List.setIfInBounds_toArray, List.set_cons_succ, List.set_cons_zero]
          refine wpQuiet_step (fun K hK => ?_)
          rw [if_pos (by rfl)]
          refine ⟨.int .i64 (k : Int), fun W hW => quiet_ok ?_, hK _ ?_⟩
          · have q := HX.out W hW
            obtain ⟨m0, m1, m2, _⟩ := q
            have q2 := HY.out W hW
            obtain ⟨z0, z1, z2, _⟩ := q2
            go_simp
            all_goals (try omega)
          clear hK K
          simp only [Act.put, List.setIfInBounds_toArray, List.set_cons_succ, List.set_cons_zero]
          refine wpQuiet_step (fun K hK => ?_)
          rw [if_pos (by rfl)]
          refine ⟨.int .i64 (j : Int), fun W hW => quiet_ok ?_, hK _ ?_⟩
          · have q := HX.out W hW
            obtain ⟨m0, m1, m2, _⟩ := q
            have q2 := HY.out W hW
            obtain ⟨z0, z1, z2, _⟩ := q2
            go_simp
            all_goals (try omega)
          clear hK K
          simp only [Act.put, List.setIfInBounds_toArray, List.set_cons_succ, List.set_cons_zero]
          refine wpQuiet_step (fun K hK => ?_)
          rw [if_pos (by rfl)]
          refine ⟨.pointer (some ⟨b, o + j * 3, none⟩), fun W hW => quiet_ok ?_, hK _ ?_⟩
          · have q := HX.out W hW
            obtain ⟨m0, m1, m2, _⟩ := q
            have q2 := HY.out W hW
            obtain ⟨z0, z1, z2, _⟩ := q2
            go_simp
            all_goals (try omega)
          clear hK K
          simp only [Act.put, List.setIfInBounds_toArray, List.set_cons_succ, List.set_cons_zero]
          refine wpQuiet_step (fun K hK => ?_)
          rw [if_pos (by rfl)]
          refine ⟨.pointer (some ⟨b, o + j * 3, none⟩), fun W hW => quiet_ok ?_, hK _ ?_⟩
          · have q := HX.out W hW
            obtain ⟨m0, m1, m2, _⟩ := q
            have q2 := HY.out W hW
            obtain ⟨z0, z1, z2, _⟩ := q2
            go_simp
            all_goals (try omega)
          clear hK K
          simp only [Act.put, List.setIfInBounds_toArray, List.set_cons_succ, List.set_cons_zero]
          refine wpQuiet_step (fun K hK => ?_)
          rw [if_pos (by rfl)]
          refine ⟨.string ⟨y.1.toArray⟩, fun W hW => quiet_ok ?_, hK _ ?_⟩
          · have q := HX.out W hW
            obtain ⟨m0, m1, m2, _⟩ := q
            have q2 := HY.out W hW
            obtain ⟨z0, z1, z2, _⟩ := q2
            go_simp
            all_goals (try omega)
          clear hK K
          simp only [Act.put, List.setIfInBounds_toArray, List.set_cons_succ, List.set_cons_zero]
          refine wpQuiet_step (fun K hK => ?_)
          rw [if_pos (by rfl)]
          refine ⟨.pointer (some ⟨gx, 0, none⟩), fun W hW => quiet_ok ?_, hK _ ?_⟩
          · have q := HX.out W hW
            obtain ⟨m0, m1, m2, _⟩ := q
            have q2 := HY.out W hW
            obtain ⟨z0, z1, z2, _⟩ := q2
            go_simp
            all_goals (try omega)
          clear hK K
          simp only [Act.put, List.setIfInBounds_toArray, List.set_cons_succ, List.set_cons_zero]
          refine wpQuiet_step (fun K hK => ?_)
          rw [if_pos (by rfl)]
          refine ⟨.string ⟨x.1.toArray⟩, fun W hW => quiet_ok ?_, hK _ ?_⟩
          · have q := HX.out W hW
            obtain ⟨m0, m1, m2, _⟩ := q
            have q2 := HY.out W hW
            obtain ⟨z0, z1, z2, _⟩ := q2
            go_simp
            all_goals (try omega)
          clear hK K
          simp only [Act.put, List.setIfInBounds_toArray, List.set_cons_succ, List.set_cons_zero]
          refine wpQuiet_step (fun K hK => ?_)
          rw [if_pos (by rfl)]
          refine ⟨.int .i64 c, fun W hW => quiet_call (f := 21) (args := #[.string ⟨y.1.toArray⟩, .string ⟨x.1.toArray⟩]) ?_ ?_, hK _ ?_⟩
          · go_simp
          · exact (HCM.out W).mono fun e w'' h => ⟨h.1, HTR.out _ _ hW h.2⟩
          clear hK K
          simp only [Act.put, List.setIfInBounds_toArray, List.set_cons_succ, List.set_cons_zero]
          refine wpQuiet_step (fun K hK => ?_)
          rw [if_pos (by rfl)]
          refine ⟨.bool true, fun W hW => quiet_ok ?_, hK _ ?_⟩
          · have q := HX.out W hW
            obtain ⟨m0, m1, m2, _⟩ := q
            have q2 := HY.out W hW
            obtain ⟨z0, z1, z2, _⟩ := q2
            go_simp
            all_goals (try omega)
          clear hK K
          simp only [Act.put, List.setIfInBounds_toArray, List.set_cons_succ, List.set_cons_zero]
          refine wpQuiet_step (fun K hK => ?_)
          rw [if_pos (by rfl)]
          refine ⟨.bool true, fun W hW => quiet_ok ?_, hK _ ?_⟩
          · have q := HX.out W hW
            obtain ⟨m0, m1, m2, _⟩ := q
            have q2 := HY.out W hW
            obtain ⟨z0, z1, z2, _⟩ := q2
            go_simp
            all_goals (try omega)
          clear hK K
          simp only [Act.put, List.setIfInBounds_toArray, List.set_cons_succ, List.set_cons_zero]
          refine wpQuiet_step (fun K hK => ?_)
          rw [if_pos (by rfl)]
          refine ⟨.bool true, fun W hW => quiet_ok ?_, hK _ ?_⟩
          · have q := HX.out W hW
            obtain ⟨m0, m1, m2, _⟩ := q
            have q2 := HY.out W hW
            obtain ⟨z0, z1, z2, _⟩ := q2
            go_simp
            all_goals (try omega)
          clear hK K
          simp only [Act.put, List.setIfInBounds_toArray, List.set_cons_succ, List.set_cons_zero]
          refine wpQuiet_step (fun K hK => ?_)
          rw [if_pos (by rfl)]
          refine ⟨.bool u60, fun W hW => quiet_ok ?_, hK _ ?_⟩
          · have q := HX.out W hW
            obtain ⟨m0, m1, m2, _⟩ := q
            have q2 := HY.out W hW
            obtain ⟨z0, z1, z2, _⟩ := q2
            have v60 := HU60.out
            go_simp
            all_goals (try omega)
          clear hK K
          simp only [Act.put, List.setIfInBounds_toArray, List.set_cons_succ, List.set_cons_zero]
          refine BigFrame.wpQuiet_skip (by show (some u60 == some false) = false; rw [HU60.out]; rfl) ?_
          simp only [Act.put, List.setIfInBounds_toArray, List.set_cons_succ, List.set_cons_zero]
          refine BigFrame.wpQuiet_skip (by show (some u60 == some false) = false; rw [HU60.out]; rfl) ?_
          simp only [Act.put, List.setIfInBounds_toArray, List.set_cons_succ, List.set_cons_zero]
          refine BigFrame.wpQuiet_skip (by show (some u60 == some false) = false; rw [HU60.out]; rfl) ?_
          simp only [Act.put, List.setIfInBounds_toArray, List.set_cons_succ, List.set_cons_zero]
          refine BigFrame.wpQuiet_skip (by show (some u60 == some false) = false; rw [HU60.out]; rfl) ?_
          simp only [Act.put, List.setIfInBounds_toArray, List.set_cons_succ, List.set_cons_zero]
          refine BigFrame.wpQuiet_skip (by show (some u60 == some false) = false; rw [HU60.out]; rfl) ?_
          simp only [Act.put, List.setIfInBounds_toArray, List.set_cons_succ, List.set_cons_zero]
          refine BigFrame.wpQuiet_skip (by show (some u60 == some false) = false; rw [HU60.out]; rfl) ?_
          simp only [Act.put, List.setIfInBounds_toArray, List.set_cons_succ, List.set_cons_zero]
          refine BigFrame.wpQuiet_skip (by show (some u60 == some false) = false; rw [HU60.out]; rfl) ?_
          simp only [Act.put, List.setIfInBounds_toArray, List.set_cons_succ, List.set_cons_zero]
          refine BigFrame.wpQuiet_skip (by show (some u60 == some false) = false; rw [HU60.out]; rfl) ?_
          simp only [Act.put, List.setIfInBounds_toArray, List.set_cons_succ, List.set_cons_zero]
          refine BigFrame.wpQuiet_skip (by show (some u60 == some false) = false; rw [HU60.out]; rfl) ?_
          simp only [Act.put, List.setIfInBounds_toArray, List.set_cons_succ, List.set_cons_zero]
          refine BigFrame.wpQuiet_skip (by show (some u60 == some false) = false; rw [HU60.out]; rfl) ?_
          simp only [Act.put, List.setIfInBounds_toArray, List.set_cons_succ, List.set_cons_zero]
          refine BigFrame.wpQuiet_skip (by show (some u60 == some false) = false; rw [HU60.out]; rfl) ?_
          simp only [Act.put, List.setIfInBounds_toArray, List.set_cons_succ, List.set_cons_zero]
          refine BigFrame.wpQuiet_skip (by show (some u60 == some false) = false; rw [HU60.out]; rfl) ?_
          simp only [Act.put, List.setIfInBounds_toArray, List.set_cons_succ, List.set_cons_zero]
          refine wpQuiet_step (fun K hK => ?_)
          rw [if_pos (by rfl)]
          refine ⟨.bool true, fun W hW => quiet_ok ?_, hK _ ?_⟩
          · have q := HX.out W hW
            obtain ⟨m0, m1, m2, _⟩ := q
            have q2 := HY.out W hW
            obtain ⟨z0, z1, z2, _⟩ := q2
            have v60 := HU60.out
            go_simp
            all_goals (try omega)
          clear hK K
          simp only [Act.put, List.setIfInBounds_toArray, List.set_cons_succ, List.set_cons_zero]
          refine wpQuiet_step (fun K hK => ?_)
          rw [if_pos (by rfl)]
          refine ⟨.bool u74, fun W hW => quiet_ok ?_, hK _ ?_⟩
          · have q := HX.out W hW
            obtain ⟨m0, m1, m2, _⟩ := q
            have q2 := HY.out W hW
            obtain ⟨z0, z1, z2, _⟩ := q2
            have v60 := HU60.out
            have v74 := HU74.out
            go_simp
            all_goals (try omega)
          clear hK K
          simp only [Act.put, List.setIfInBounds_toArray, List.set_cons_succ, List.set_cons_zero]
          refine BigFrame.wpQuiet_skip (by show (some u74 == some false) = false; rw [HU74.out]; rfl) ?_
          simp only [Act.put, List.setIfInBounds_toArray, List.set_cons_succ, List.set_cons_zero]
          refine BigFrame.wpQuiet_skip (by show (some u74 == some false) = false; rw [HU74.out]; rfl) ?_
          simp only [Act.put, List.setIfInBounds_toArray, List.set_cons_succ, List.set_cons_zero]
          refine BigFrame.wpQuiet_skip (by show (some u74 == some false) = false; rw [HU74.out]; rfl) ?_
          simp only [Act.put, List.setIfInBounds_toArray, List.set_cons_succ, List.set_cons_zero]
          refine BigFrame.wpQuiet_skip (by show (some u74 == some false) = false; rw [HU74.out]; rfl) ?_
          simp only [Act.put, List.setIfInBounds_toArray, List.set_cons_succ, List.set_cons_zero]
          refine wpQuiet_step (fun K hK => ?_)
          rw [if_pos (by rfl)]
          refine ⟨.bool true, fun W hW => quiet_ok ?_, hK _ ?_⟩
          · have q := HX.out W hW
            obtain ⟨m0, m1, m2, _⟩ := q
            have q2 := HY.out W hW
            obtain ⟨z0, z1, z2, _⟩ := q2
            have v60 := HU60.out
            have v74 := HU74.out
            go_simp
            all_goals (try omega)
          clear hK K
          simp only [Act.put, List.setIfInBounds_toArray, List.set_cons_succ, List.set_cons_zero]
          refine wpQuiet_nil ?_
          intro W hW
          have hbW := HBW.out W hW
          go_wp2_with fail
          go_ret
          exact ⟨ret_bool HF.out.symm, hbW⟩
        · have HK : Hid ((k == 0 || decide (c < 0)) = true) := by show _ = true; rw [decide_eq_true (show c < 0 by omega)]; simp
          clear HKB
          by_cases h4 : x.2.1 = z.1
          case neg =>
            have HF : Hid (r = false) := HBAD.out (HG.out.trans (by rw [show (x.2.1 == z.1) = false by simpa using h4]; simp))
            have e4 : (x.2.1 == z.1) = false := by simpa using h4
            have e4' : (x.2.1 != z.1) = true := by simpa using h4
            clear HBAD HG h1 h2 HUPA HGB
            obtain ⟨u74, hu74⟩ : ∃ u : Bool, u = true := ⟨_, rfl⟩
            have HU74 : Hid (u74 = true) := hu74
            clear hu74
            go_wp2_with fail
            rw [HW0.out, HGX.out]
            refine wp_region_quiet (C := fun W => Below W0.heap.size W0 W) (by kernel_rfl) (by kernel_rfl) hbd ?_
            refine wpQuiet_step (fun K hK => ?_)
            rw [if_pos (by rfl)]
            refine ⟨.pointer (some ⟨gx, 0, none⟩), fun W hW => quiet_ok ?_, hK _ ?_⟩
            · have q := HX.out W hW
              obtain ⟨m0, m1, m2, _⟩ := q
              have q2 := HY.out W hW
              obtain ⟨z0, z1, z2, _⟩ := q2
              have q3 := HZ.out W hW
              obtain ⟨y0, y1, y2, _⟩ := q3
              go_simp
              all_goals (try omega)
            clear hK K
            simp only [Act.put, List.setIfInBounds_toArray, List.set_cons_succ, List.set_cons_zero]
            refine wpQuiet_step (fun K hK => ?_)
            rw [if_pos (by rfl)]
            refine ⟨.string ⟨x.1.toArray⟩, fun W hW => quiet_ok ?_, hK _ ?_⟩
            · have q := HX.out W hW
              obtain ⟨m0, m1, m2, _⟩ := q
              have q2 := HY.out W hW
              obtain ⟨z0, z1, z2, _⟩ := q2
              have q3 := HZ.out W hW
              obtain ⟨y0, y1, y2, _⟩ := q3
              go_simp
              all_goals (try omega)
            clear hK K
            simp only [Act.put, List.setIfInBounds_toArray, List.set_cons_succ, List.set_cons_zero]
            refine wpQuiet_step (fun K hK => ?_)
            rw [if_pos (by rfl)]
            refine ⟨.bool true, fun W hW => quiet_call (f := 18) (args := #[.string ⟨x.1.toArray⟩]) ?_ ?_, hK _ ?_⟩
            · go_simp
            · exact (HN.out W).mono fun e w'' h => ⟨h.1, HTR.out _ _ hW h.2⟩
            clear hK K
            simp only [Act.put, List.setIfInBounds_toArray, List.set_cons_succ, List.set_cons_zero]
            refine wpQuiet_step (fun K hK => ?_)
            rw [if_pos (by rfl)]
            refine ⟨.bool false, fun W hW => quiet_ok ?_, hK _ ?_⟩
            · have q := HX.out W hW
              obtain ⟨m0, m1, m2, _⟩ := q
              have q2 := HY.out W hW
              obtain ⟨z0, z1, z2, _⟩ := q2
              have q3 := HZ.out W hW
              obtain ⟨y0, y1, y2, _⟩ := q3
              go_simp
              all_goals (try omega)
            clear hK K
            simp only [Act.put, List.setIfInBounds_toArray, List.set_cons_succ, List.set_cons_zero]
            refine wpQuiet_step (fun K hK => ?_)
            rw [if_pos (by rfl)]
            refine ⟨.bool false, fun W hW => quiet_ok ?_, hK _ ?_⟩
            · have q := HX.out W hW
              obtain ⟨m0, m1, m2, _⟩ := q
              have q2 := HY.out W hW
              obtain ⟨z0, z1, z2, _⟩ := q2
              have q3 := HZ.out W hW
              obtain ⟨y0, y1, y2, _⟩ := q3
              go_simp
              all_goals (try omega)
            clear hK K
            simp only [Act.put, List.setIfInBounds_toArray, List.set_cons_succ, List.set_cons_zero]
            refine wpQuiet_step (fun K hK => ?_)
            rw [if_pos (by rfl)]
            refine ⟨.pointer (some ⟨gx, 0, none⟩), fun W hW => quiet_ok ?_, hK _ ?_⟩
            · have q := HX.out W hW
              obtain ⟨m0, m1, m2, _⟩ := q
              have q2 := HY.out W hW
              obtain ⟨z0, z1, z2, _⟩ := q2
              have q3 := HZ.out W hW
              obtain ⟨y0, y1, y2, _⟩ := q3
              go_simp
              all_goals (try omega)
            clear hK K
            simp only [Act.put, List.setIfInBounds_toArray, List.set_cons_succ, List.set_cons_zero]
            refine wpQuiet_step (fun K hK => ?_)
            rw [if_pos (by rfl)]
            refine ⟨.string ⟨x.1.toArray⟩, fun W hW => quiet_ok ?_, hK _ ?_⟩
            · have q := HX.out W hW
              obtain ⟨m0, m1, m2, _⟩ := q
              have q2 := HY.out W hW
              obtain ⟨z0, z1, z2, _⟩ := q2
              have q3 := HZ.out W hW
              obtain ⟨y0, y1, y2, _⟩ := q3
              go_simp
              all_goals (try omega)
            clear hK K
            simp only [Act.put, List.setIfInBounds_toArray, List.set_cons_succ, List.set_cons_zero]
            refine wpQuiet_step (fun K hK => ?_)
            rw [if_pos (by rfl)]
            refine ⟨.string ⟨ap.toArray⟩, fun W hW => quiet_ok ?_, hK _ ?_⟩
            · have q := HX.out W hW
              obtain ⟨m0, m1, m2, _⟩ := q
              have q2 := HY.out W hW
              obtain ⟨z0, z1, z2, _⟩ := q2
              have q3 := HZ.out W hW
              obtain ⟨y0, y1, y2, _⟩ := q3
              go_simp
              all_goals (try omega)
            clear hK K
            simp only [Act.put, List.setIfInBounds_toArray, List.set_cons_succ, List.set_cons_zero]
            refine wpQuiet_step (fun K hK => ?_)
            rw [if_pos (by rfl)]
            refine ⟨.bool true, fun W hW => quiet_call (f := 20) (args := #[.string ⟨x.1.toArray⟩, .string ⟨ap.toArray⟩]) ?_ ?_, hK _ ?_⟩
            · go_simp
            · exact (HLB.out W).mono fun e w'' h => ⟨h.1, HTR.out _ _ hW h.2⟩
            clear hK K
            simp only [Act.put, List.setIfInBounds_toArray, List.set_cons_succ, List.set_cons_zero]
            refine wpQuiet_step (fun K hK => ?_)
            rw [if_pos (by rfl)]
            refine ⟨.bool false, fun W hW => quiet_ok ?_, hK _ ?_⟩
            · have q := HX.out W hW
              obtain ⟨m0, m1, m2, _⟩ := q
              have q2 := HY.out W hW
              obtain ⟨z0, z1, z2, _⟩ := q2
              have q3 := HZ.out W hW
              obtain ⟨y0, y1, y2, _⟩ := q3
              go_simp
              all_goals (try omega)
            clear hK K
            simp only [Act.put, List.setIfInBounds_toArray, List.set_cons_succ, List.set_cons_zero]
            refine wpQuiet_step (fun K hK => ?_)
            rw [if_pos (by rfl)]
            refine ⟨.bool false, fun W hW => quiet_ok ?_, hK _ ?_⟩
            · have q := HX.out W hW
              obtain ⟨m0, m1, m2, _⟩ := q
              have q2 := HY.out W hW
              obtain ⟨z0, z1, z2, _⟩ := q2
              have q3 := HZ.out W hW
              obtain ⟨y0, y1, y2, _⟩ := q3
              go_simp
              all_goals (try omega)
            clear hK K
            simp only [Act.put, List.setIfInBounds_toArray, List.set_cons_succ, List.set_cons_zero]
            refine wpQuiet_step (fun K hK => ?_)
            rw [if_pos (by rfl)]
            refine ⟨.bool false, fun W hW => quiet_ok ?_, hK _ ?_⟩
            · have q := HX.out W hW
              obtain ⟨m0, m1, m2, _⟩ := q
              have q2 := HY.out W hW
              obtain ⟨z0, z1, z2, _⟩ := q2
              have q3 := HZ.out W hW
              obtain ⟨y0, y1, y2, _⟩ := q3
              go_simp
              all_goals (try omega)
            clear hK K
            simp only [Act.put, List.setIfInBounds_toArray, List.set_cons_succ, List.set_cons_zero]
            refine wpQuiet_step (fun K hK => ?_)
            rw [if_pos (by rfl)]
            refine ⟨.int .i64 (k : Int), fun W hW => quiet_ok ?_, hK _ ?_⟩
            · have q := HX.out W hW
              obtain ⟨m0, m1, m2, _⟩ := q
              have q2 := HY.out W hW
              obtain ⟨z0, z1, z2, _⟩ := q2
              have q3 := HZ.out W hW
              obtain ⟨y0, y1, y2, _⟩ := q3
              go_simp
              all_goals (try omega)
            clear hK K
            simp only [Act.put, List.setIfInBounds_toArray, List.set_cons_succ, List.set_cons_zero]
            refine wpQuiet_step (fun K hK => ?_)
            rw [if_pos (by rfl)]
            refine ⟨.bool true, fun W hW => quiet_ok ?_, hK _ ?_⟩
            · have q := HX.out W hW
              obtain ⟨m0, m1, m2, _⟩ := q
              have q2 := HY.out W hW
              obtain ⟨z0, z1, z2, _⟩ := q2
              have q3 := HZ.out W hW
              obtain ⟨y0, y1, y2, _⟩ := q3
              go_simp
              all_goals (try omega)
            clear hK K
            simp only [Act.put, List.setIfInBounds_toArray, List.set_cons_succ, List.set_cons_zero]
            refine wpQuiet_step (fun K hK => ?_)
            rw [if_pos (by rfl)]
            refine ⟨.bool true, fun W hW => quiet_ok ?_, hK _ ?_⟩
            · have q := HX.out W hW
              obtain ⟨m0, m1, m2, _⟩ := q
              have q2 := HY.out W hW
              obtain ⟨z0, z1, z2, _⟩ := q2
              have q3 := HZ.out W hW
              obtain ⟨y0, y1, y2, _⟩ := q3
              go_simp
              all_goals (try omega)
            clear hK K
            simp only [Act.put, List.setIfInBounds_toArray, List.set_cons_succ, List.set_cons_zero]
            refine wpQuiet_step (fun K hK => ?_)
            rw [if_pos (by rfl)]
            refine ⟨.slice (some ⟨b, o, none⟩) L.length cap, fun W hW => quiet_ok ?_, hK _ ?_⟩
            · have q := HX.out W hW
              obtain ⟨m0, m1, m2, _⟩ := q
              have q2 := HY.out W hW
              obtain ⟨z0, z1, z2, _⟩ := q2
              have q3 := HZ.out W hW
              obtain ⟨y0, y1, y2, _⟩ := q3
              go_simp
              all_goals (try omega)
            clear hK K
            simp only [Act.put, List.setIfInBounds_toArray, List.set_cons_succ, List.set_cons_zero]
            refine wpQuiet_step (fun K hK => ?_)
            rw [if_pos (by rfl)]
            refine ⟨.int .i64 (k : Int), fun W hW => quiet_ok ?_, hK _ ?_⟩
            · have q := HX.out W hW
              obtain ⟨m0, m1, m2, _⟩ := q
              have q2 := HY.out W hW
              obtain ⟨z0, z1, z2, _⟩ := q2
              have q3 := HZ.out W hW
              obtain ⟨y0, y1, y2, _⟩ := q3
              go_simp
              all_goals (try omega)
            clear hK K
            simp only [Act.put, List.setIfInBounds_toArray, List.set_cons_succ, List.set_cons_zero]
            refine wpQuiet_step (fun K hK => ?_)
            rw [if_pos (by rfl)]
            refine ⟨.int .i64 (j : Int), fun W hW => quiet_ok ?_, hK _ ?_⟩
            · have q := HX.out W hW
              obtain ⟨m0, m1, m2, _⟩ := q
              have q2 := HY.out W hW
              obtain ⟨z0, z1, z2, _⟩ := q2
              have q3 := HZ.out W hW
              obtain ⟨y0, y1, y2, _⟩ := q3
              go_simp
              all_goals (try omega)
            clear hK K
            simp only [Act.put, List.setIfInBounds_toArray, List.set_cons_succ, List.set_cons_zero]
            refine wpQuiet_step (fun K hK => ?_)
            rw [if_pos (by rfl)]
            refine ⟨.pointer (some ⟨b, o + j * 3, none⟩), fun W hW => quiet_ok ?_, hK _ ?_⟩
            · have q := HX.out W hW
              obtain ⟨m0, m1, m2, _⟩ := q
              have q2 := HY.out W hW
              obtain ⟨z0, z1, z2, _⟩ := q2
              have q3 := HZ.out W hW
              obtain ⟨y0, y1, y2, _⟩ := q3
              go_simp
              all_goals (try omega)
            clear hK K
            simp only [Act.put, List.setIfInBounds_toArray, List.set_cons_succ, List.set_cons_zero]
            refine wpQuiet_step (fun K hK => ?_)
            rw [if_pos (by rfl)]
            refine ⟨.pointer (some ⟨b, o + j * 3, none⟩), fun W hW => quiet_ok ?_, hK _ ?_⟩
            · have q := HX.out W hW
              obtain ⟨m0, m1, m2, _⟩ := q
              have q2 := HY.out W hW
              obtain ⟨z0, z1, z2, _⟩ := q2
              have q3 := HZ.out W hW
              obtain ⟨y0, y1, y2, _⟩ := q3
              go_simp
              all_goals (try omega)
            clear hK K
            simp only [Act.put, List.setIfInBounds_toArray, List.set_cons_succ, List.set_cons_zero]
            refine wpQuiet_step (fun K hK => ?_)
            rw [if_pos (by rfl)]
            refine ⟨.string ⟨y.1.toArray⟩, fun W hW => quiet_ok ?_, hK _ ?_⟩
            · have q := HX.out W hW
              obtain ⟨m0, m1, m2, _⟩ := q
              have q2 := HY.out W hW
              obtain ⟨z0, z1, z2, _⟩ := q2
              have q3 := HZ.out W hW
              obtain ⟨y0, y1, y2, _⟩ := q3
              go_simp
              all_goals (try omega)
            clear hK K
            simp only [Act.put, List.setIfInBounds_toArray, List.set_cons_succ, List.set_cons_zero]
            refine wpQuiet_step (fun K hK => ?_)
            rw [if_pos (by rfl)]
            refine ⟨.pointer (some ⟨gx, 0, none⟩), fun W hW => quiet_ok ?_, hK _ ?_⟩
            · have q := HX.out W hW
              obtain ⟨m0, m1, m2, _⟩ := q
              have q2 := HY.out W hW
              obtain ⟨z0, z1, z2, _⟩ := q2
              have q3 := HZ.out W hW
              obtain ⟨y0, y1, y2, _⟩ := q3
              go_simp
              all_goals (try omega)
            clear hK K
            simp only [Act.put, List.setIfInBounds_toArray, List.set_cons_succ, List.set_cons_zero]
            refine wpQuiet_step (fun K hK => ?_)
            rw [if_pos (by rfl)]
            refine ⟨.string ⟨x.1.toArray⟩, fun W hW => quiet_ok ?_, hK _ ?_⟩
            · have q := HX.out W hW
              obtain ⟨m0, m1, m2, _⟩ := q
              have q2 := HY.out W hW
              obtain ⟨z0, z1, z2, _⟩ := q2
              have q3 := HZ.out W hW
              obtain ⟨y0, y1, y2, _⟩ := q3
              go_simp
              all_goals (try omega)
            clear hK K
            simp only [Act.put, List.setIfInBounds_toArray, List.set_cons_succ, List.set_cons_zero]
            refine wpQuiet_step (fun K hK => ?_)
            rw [if_pos (by rfl)]
            refine ⟨.int .i64 c, fun W hW => quiet_call (f := 21) (args := #[.string ⟨y.1.toArray⟩, .string ⟨x.1.toArray⟩]) ?_ ?_, hK _ ?_⟩
            · go_simp
            · exact (HCM.out W).mono fun e w'' h => ⟨h.1, HTR.out _ _ hW h.2⟩
            clear hK K
            simp only [Act.put, List.setIfInBounds_toArray, List.set_cons_succ, List.set_cons_zero]
            refine wpQuiet_step (fun K hK => ?_)
            rw [if_pos (by rfl)]
            refine ⟨.bool false, fun W hW => quiet_ok ?_, hK _ ?_⟩
            · have q := HX.out W hW
              obtain ⟨m0, m1, m2, _⟩ := q
              have q2 := HY.out W hW
              obtain ⟨z0, z1, z2, _⟩ := q2
              have q3 := HZ.out W hW
              obtain ⟨y0, y1, y2, _⟩ := q3
              go_simp
              all_goals (try omega)
            clear hK K
            simp only [Act.put, List.setIfInBounds_toArray, List.set_cons_succ, List.set_cons_zero]
            refine wpQuiet_step (fun K hK => ?_)
            rw [if_pos (by rfl)]
            refine ⟨.bool false, fun W hW => quiet_ok ?_, hK _ ?_⟩
            · have q := HX.out W hW
              obtain ⟨m0, m1, m2, _⟩ := q
              have q2 := HY.out W hW
              obtain ⟨z0, z1, z2, _⟩ := q2
              have q3 := HZ.out W hW
              obtain ⟨y0, y1, y2, _⟩ := q3
              go_simp
              all_goals (try omega)
            clear hK K
            simp only [Act.put, List.setIfInBounds_toArray, List.set_cons_succ, List.set_cons_zero]
            refine wpQuiet_step (fun K hK => ?_)
            rw [if_pos (by rfl)]
            refine ⟨.bool false, fun W hW => quiet_ok ?_, hK _ ?_⟩
            · have q := HX.out W hW
              obtain ⟨m0, m1, m2, _⟩ := q
              have q2 := HY.out W hW
              obtain ⟨z0, z1, z2, _⟩ := q2
              have q3 := HZ.out W hW
              obtain ⟨y0, y1, y2, _⟩ := q3
              go_simp
              all_goals (try omega)
            clear hK K
            simp only [Act.put, List.setIfInBounds_toArray, List.set_cons_succ, List.set_cons_zero]
            refine wpQuiet_step (fun K hK => ?_)
            rw [if_pos (by rfl)]
            refine ⟨.bool false, fun W hW => quiet_ok ?_, hK _ ?_⟩
            · have q := HX.out W hW
              obtain ⟨m0, m1, m2, _⟩ := q
              have q2 := HY.out W hW
              obtain ⟨z0, z1, z2, _⟩ := q2
              have q3 := HZ.out W hW
              obtain ⟨y0, y1, y2, _⟩ := q3
              go_simp
              all_goals (try omega)
            clear hK K
            simp only [Act.put, List.setIfInBounds_toArray, List.set_cons_succ, List.set_cons_zero]
            refine wpQuiet_step (fun K hK => ?_)
            rw [if_pos (by rfl)]
            refine ⟨.pointer (some ⟨gx, 1, none⟩), fun W hW => quiet_ok ?_, hK _ ?_⟩
            · have q := HX.out W hW
              obtain ⟨m0, m1, m2, _⟩ := q
              have q2 := HY.out W hW
              obtain ⟨z0, z1, z2, _⟩ := q2
              have q3 := HZ.out W hW
              obtain ⟨y0, y1, y2, _⟩ := q3
              go_simp
              all_goals (try omega)
            clear hK K
            simp only [Act.put, List.setIfInBounds_toArray, List.set_cons_succ, List.set_cons_zero]
            refine wpQuiet_step (fun K hK => ?_)
            rw [if_pos (by rfl)]
            refine ⟨.string ⟨x.2.1.toArray⟩, fun W hW => quiet_ok ?_, hK _ ?_⟩
            · have q := HX.out W hW
              obtain ⟨m0, m1, m2, _⟩ := q
              have q2 := HY.out W hW
              obtain ⟨z0, z1, z2, _⟩ := q2
              have q3 := HZ.out W hW
              obtain ⟨y0, y1, y2, _⟩ := q3
              go_simp
              all_goals (try omega)
            clear hK K
            simp only [Act.put, List.setIfInBounds_toArray, List.set_cons_succ, List.set_cons_zero]
            refine wpQuiet_step (fun K hK => ?_)
            rw [if_pos (by rfl)]
            refine ⟨.slice (some ⟨b, o, none⟩) L.length cap, fun W hW => quiet_ok ?_, hK _ ?_⟩
            · have q := HX.out W hW
              obtain ⟨m0, m1, m2, _⟩ := q
              have q2 := HY.out W hW
              obtain ⟨z0, z1, z2, _⟩ := q2
              have q3 := HZ.out W hW
              obtain ⟨y0, y1, y2, _⟩ := q3
              go_simp
              all_goals (try omega)
            clear hK K
            simp only [Act.put, List.setIfInBounds_toArray, List.set_cons_succ, List.set_cons_zero]
            refine wpQuiet_step (fun K hK => ?_)
            rw [if_pos (by rfl)]
            refine ⟨.int .i64 (k : Int), fun W hW => quiet_ok ?_, hK _ ?_⟩
            · have q := HX.out W hW
              obtain ⟨m0, m1, m2, _⟩ := q
              have q2 := HY.out W hW
              obtain ⟨z0, z1, z2, _⟩ := q2
              have q3 := HZ.out W hW
              obtain ⟨y0, y1, y2, _⟩ := q3
              go_simp
              all_goals (try omega)
            clear hK K
            simp only [Act.put, List.setIfInBounds_toArray, List.set_cons_succ, List.set_cons_zero]
            refine wpQuiet_step (fun K hK => ?_)
            rw [if_pos (by rfl)]
            refine ⟨.int .i64 ((k : Int) + 1), fun W hW => quiet_ok ?_, hK _ ?_⟩
            · have q := HX.out W hW
              obtain ⟨m0, m1, m2, _⟩ := q
              have q2 := HY.out W hW
              obtain ⟨z0, z1, z2, _⟩ := q2
              have q3 := HZ.out W hW
              obtain ⟨y0, y1, y2, _⟩ := q3
              go_simp
              all_goals (try omega)
            clear hK K
            simp only [Act.put, List.setIfInBounds_toArray, List.set_cons_succ, List.set_cons_zero]
            refine wpQuiet_step (fun K hK => ?_)
            rw [if_pos (by rfl)]
            refine ⟨.slice (some ⟨b, o, none⟩) L.length cap, fun W hW => quiet_ok ?_, hK _ ?_⟩
            · have q := HX.out W hW
              obtain ⟨m0, m1, m2, _⟩ := q
              have q2 := HY.out W hW
              obtain ⟨z0, z1, z2, _⟩ := q2
              have q3 := HZ.out W hW
              obtain ⟨y0, y1, y2, _⟩ := q3
              go_simp
              all_goals (try omega)
            clear hK K
            simp only [Act.put, List.setIfInBounds_toArray, List.set_cons_succ, List.set_cons_zero]
            refine wpQuiet_step (fun K hK => ?_)
            rw [if_pos (by rfl)]
            refine ⟨.int .i64 (L.length : Int), fun W hW => quiet_ok ?_, hK _ ?_⟩
            · have q := HX.out W hW
              obtain ⟨m0, m1, m2, _⟩ := q
              have q2 := HY.out W hW
              obtain ⟨z0, z1, z2, _⟩ := q2
              have q3 := HZ.out W hW
              obtain ⟨y0, y1, y2, _⟩ := q3
              go_simp
              all_goals (try omega)
            clear hK K
            simp only [Act.put, List.setIfInBounds_toArray, List.set_cons_succ, List.set_cons_zero]
            refine wpQuiet_step (fun K hK => ?_)
            rw [if_pos (by rfl)]
            refine ⟨.int .i64 (m : Int), fun W hW => quiet_ok ?_, hK _ ?_⟩
            · have q := HX.out W hW
              obtain ⟨m0, m1, m2, _⟩ := q
              have q2 := HY.out W hW
              obtain ⟨z0, z1, z2, _⟩ := q2
              have q3 := HZ.out W hW
              obtain ⟨y0, y1, y2, _⟩ := q3
              go_simp
              all_goals (try omega)
            clear hK K
            simp only [Act.put, List.setIfInBounds_toArray, List.set_cons_succ, List.set_cons_zero]
            refine wpQuiet_step (fun K hK => ?_)
            rw [if_pos (by rfl)]
            refine ⟨.pointer (some ⟨b, o + m * 3, none⟩), fun W hW => quiet_ok ?_, hK _ ?_⟩
            · have q := HX.out W hW
              obtain ⟨m0, m1, m2, _⟩ := q
              have q2 := HY.out W hW
              obtain ⟨z0, z1, z2, _⟩ := q2
              have q3 := HZ.out W hW
              obtain ⟨y0, y1, y2, _⟩ := q3
              go_simp
              all_goals (try omega)
            clear hK K
            simp only [Act.put, List.setIfInBounds_toArray, List.set_cons_succ, List.set_cons_zero]
            refine wpQuiet_step (fun K hK => ?_)
            rw [if_pos (by rfl)]
            refine ⟨.pointer (some ⟨b, o + m * 3, none⟩), fun W hW => quiet_ok ?_, hK _ ?_⟩
            · have q := HX.out W hW
              obtain ⟨m0, m1, m2, _⟩ := q
              have q2 := HY.out W hW
              obtain ⟨z0, z1, z2, _⟩ := q2
              have q3 := HZ.out W hW
              obtain ⟨y0, y1, y2, _⟩ := q3
              go_simp
              all_goals (try omega)
            clear hK K
            simp only [Act.put, List.setIfInBounds_toArray, List.set_cons_succ, List.set_cons_zero]
            refine wpQuiet_step (fun K hK => ?_)
            rw [if_pos (by rfl)]
            refine ⟨.string ⟨z.1.toArray⟩, fun W hW => quiet_ok ?_, hK _ ?_⟩
            · have q := HX.out W hW
              obtain ⟨m0, m1, m2, _⟩ := q
              have q2 := HY.out W hW
              obtain ⟨z0, z1, z2, _⟩ := q2
              have q3 := HZ.out W hW
              obtain ⟨y0, y1, y2, _⟩ := q3
              go_simp
              all_goals (try omega)
            clear hK K
            simp only [Act.put, List.setIfInBounds_toArray, List.set_cons_succ, List.set_cons_zero]
            refine wpQuiet_step (fun K hK => ?_)
            rw [if_pos (by rfl)]
            refine ⟨.bool true, fun W hW => quiet_ok ?_, hK _ ?_⟩
            · have q := HX.out W hW
              obtain ⟨m0, m1, m2, _⟩ := q
              have q2 := HY.out W hW
              obtain ⟨z0, z1, z2, _⟩ := q2
              have q3 := HZ.out W hW
              obtain ⟨y0, y1, y2, _⟩ := q3
              go_simp
              all_goals (try omega)
            clear hK K
            simp only [Act.put, List.setIfInBounds_toArray, List.set_cons_succ, List.set_cons_zero]
            refine wpQuiet_step (fun K hK => ?_)
            rw [if_pos (by rfl)]
            refine ⟨.bool true, fun W hW => quiet_ok ?_, hK _ ?_⟩
            · have q := HX.out W hW
              obtain ⟨m0, m1, m2, _⟩ := q
              have q2 := HY.out W hW
              obtain ⟨z0, z1, z2, _⟩ := q2
              have q3 := HZ.out W hW
              obtain ⟨y0, y1, y2, _⟩ := q3
              go_simp
              all_goals (try omega)
            clear hK K
            simp only [Act.put, List.setIfInBounds_toArray, List.set_cons_succ, List.set_cons_zero]
            refine wpQuiet_step (fun K hK => ?_)
            rw [if_pos (by rfl)]
            refine ⟨.bool u74, fun W hW => quiet_ok ?_, hK _ ?_⟩
            · have q := HX.out W hW
              obtain ⟨m0, m1, m2, _⟩ := q
              have q2 := HY.out W hW
              obtain ⟨z0, z1, z2, _⟩ := q2
              have q3 := HZ.out W hW
              obtain ⟨y0, y1, y2, _⟩ := q3
              have v74 := HU74.out
              go_simp
              all_goals (try omega)
            clear hK K
            simp only [Act.put, List.setIfInBounds_toArray, List.set_cons_succ, List.set_cons_zero]
            refine BigFrame.wpQuiet_skip (by show (some u74 == some false) = false; rw [HU74.out]; rfl) ?_
            simp only [Act.put, List.setIfInBounds_toArray, List.set_cons_succ, List.set_cons_zero]
            refine BigFrame.wpQuiet_skip (by show (some u74 == some false) = false; rw [HU74.out]; rfl) ?_
            simp only [Act.put, List.setIfInBounds_toArray, List.set_cons_succ, List.set_cons_zero]
            refine BigFrame.wpQuiet_skip (by show (some u74 == some false) = false; rw [HU74.out]; rfl) ?_
            simp only [Act.put, List.setIfInBounds_toArray, List.set_cons_succ, List.set_cons_zero]
            refine BigFrame.wpQuiet_skip (by show (some u74 == some false) = false; rw [HU74.out]; rfl) ?_
            simp only [Act.put, List.setIfInBounds_toArray, List.set_cons_succ, List.set_cons_zero]
            refine wpQuiet_step (fun K hK => ?_)
            rw [if_pos (by rfl)]
            refine ⟨.bool true, fun W hW => quiet_ok ?_, hK _ ?_⟩
            · have q := HX.out W hW
              obtain ⟨m0, m1, m2, _⟩ := q
              have q2 := HY.out W hW
              obtain ⟨z0, z1, z2, _⟩ := q2
              have q3 := HZ.out W hW
              obtain ⟨y0, y1, y2, _⟩ := q3
              have v74 := HU74.out
              go_simp
              all_goals (try omega)
            clear hK K
            simp only [Act.put, List.setIfInBounds_toArray, List.set_cons_succ, List.set_cons_zero]
            refine wpQuiet_nil ?_
            intro W hW
            have hbW := HBW.out W hW
            go_wp2_with fail
            go_ret
            exact ⟨ret_bool HF.out.symm, hbW⟩
          have e4 : (x.2.1 == z.1) = true := by simpa using h4
          have e4' : (x.2.1 != z.1) = false := by simpa using h4
          by_cases h5 : x.2.2 = []
          · have HF : Hid (r = false) := HBAD.out (HG.out.trans (by rw [h5]; simp))
            have HE5 : Hid (x.2.2.length = 0) := by show _ = 0; rw [h5]; rfl
            clear HBAD HG h1 h2 h4 h5 HUPA HGB
            go_wp2_with fail
            rw [HW0.out, HGX.out]
            refine wp_region_quiet (C := fun W => Below W0.heap.size W0 W) (by kernel_rfl) (by kernel_rfl) hbd ?_
            refine wpQuiet_step (fun K hK => ?_)
            rw [if_pos (by rfl)]
            refine ⟨.pointer (some ⟨gx, 0, none⟩), fun W hW => quiet_ok ?_, hK _ ?_⟩
            · have q := HX.out W hW
              obtain ⟨m0, m1, m2, _⟩ := q
              have q2 := HY.out W hW
              obtain ⟨z0, z1, z2, _⟩ := q2
              have q3 := HZ.out W hW
              obtain ⟨y0, y1, y2, _⟩ := q3
              have e5 := HE5.out
              go_simp
              all_goals (try omega)
            clear hK K
            simp only [Act.put, List.setIfInBounds_toArray, List.set_cons_succ, List.set_cons_zero]
            refine wpQuiet_step (fun K hK => ?_)
            rw [if_pos (by rfl)]
            refine ⟨.string ⟨x.1.toArray⟩, fun W hW => quiet_ok ?_, hK _ ?_⟩
            · have q := HX.out W hW
              obtain ⟨m0, m1, m2, _⟩ := q
              have q2 := HY.out W hW
              obtain ⟨z0, z1, z2, _⟩ := q2
              have q3 := HZ.out W hW
              obtain ⟨y0, y1, y2, _⟩ := q3
              have e5 := HE5.out
              go_simp
              all_goals (try omega)
            clear hK K
            simp only [Act.put, List.setIfInBounds_toArray, List.set_cons_succ, List.set_cons_zero]
            refine wpQuiet_step (fun K hK => ?_)
            rw [if_pos (by rfl)]
            refine ⟨.bool true, fun W hW => quiet_call (f := 18) (args := #[.string ⟨x.1.toArray⟩]) ?_ ?_, hK _ ?_⟩
            · go_simp
            · exact (HN.out W).mono fun e w'' h => ⟨h.1, HTR.out _ _ hW h.2⟩
            clear hK K
            simp only [Act.put, List.setIfInBounds_toArray, List.set_cons_succ, List.set_cons_zero]
            refine wpQuiet_step (fun K hK => ?_)
            rw [if_pos (by rfl)]
            refine ⟨.bool false, fun W hW => quiet_ok ?_, hK _ ?_⟩
            · have q := HX.out W hW
              obtain ⟨m0, m1, m2, _⟩ := q
              have q2 := HY.out W hW
              obtain ⟨z0, z1, z2, _⟩ := q2
              have q3 := HZ.out W hW
              obtain ⟨y0, y1, y2, _⟩ := q3
              have e5 := HE5.out
              go_simp
              all_goals (try omega)
            clear hK K
            simp only [Act.put, List.setIfInBounds_toArray, List.set_cons_succ, List.set_cons_zero]
            refine wpQuiet_step (fun K hK => ?_)
            rw [if_pos (by rfl)]
            refine ⟨.bool false, fun W hW => quiet_ok ?_, hK _ ?_⟩
            · have q := HX.out W hW
              obtain ⟨m0, m1, m2, _⟩ := q
              have q2 := HY.out W hW
              obtain ⟨z0, z1, z2, _⟩ := q2
              have q3 := HZ.out W hW
              obtain ⟨y0, y1, y2, _⟩ := q3
              have e5 := HE5.out
              go_simp
              all_goals (try omega)
            clear hK K
            simp only [Act.put, List.setIfInBounds_toArray, List.set_cons_succ, List.set_cons_zero]
            refine wpQuiet_step (fun K hK => ?_)
            rw [if_pos (by rfl)]
            refine ⟨.pointer (some ⟨gx, 0, none⟩), fun W hW => quiet_ok ?_, hK _ ?_⟩
            · have q := HX.out W hW
              obtain ⟨m0, m1, m2, _⟩ := q
              have q2 := HY.out W hW
              obtain ⟨z0, z1, z2, _⟩ := q2
              have q3 := HZ.out W hW
              obtain ⟨y0, y1, y2, _⟩ := q3
              have e5 := HE5.out
              go_simp
              all_goals (try omega)
            clear hK K
            simp only [Act.put, List.setIfInBounds_toArray, List.set_cons_succ, List.set_cons_zero]
            refine wpQuiet_step (fun K hK => ?_)
            rw [if_pos (by rfl)]
            refine ⟨.string ⟨x.1.toArray⟩, fun W hW => quiet_ok ?_, hK _ ?_⟩
            · have q := HX.out W hW
              obtain ⟨m0, m1, m2, _⟩ := q
              have q2 := HY.out W hW
              obtain ⟨z0, z1, z2, _⟩ := q2
              have q3 := HZ.out W hW
              obtain ⟨y0, y1, y2, _⟩ := q3
              have e5 := HE5.out
              go_simp
              all_goals (try omega)
            clear hK K
            simp only [Act.put, List.setIfInBounds_toArray, List.set_cons_succ, List.set_cons_zero]
            refine wpQuiet_step (fun K hK => ?_)
            rw [if_pos (by rfl)]
            refine ⟨.string ⟨ap.toArray⟩, fun W hW => quiet_ok ?_, hK _ ?_⟩
            · have q := HX.out W hW
              obtain ⟨m0, m1, m2, _⟩ := q
              have q2 := HY.out W hW
              obtain ⟨z0, z1, z2, _⟩ := q2
              have q3 := HZ.out W hW
              obtain ⟨y0, y1, y2, _⟩ := q3
              have e5 := HE5.out
              go_simp
              all_goals (try omega)
            clear hK K
            simp only [Act.put, List.setIfInBounds_toArray, List.set_cons_succ, List.set_cons_zero]
            refine wpQuiet_step (fun K hK => ?_)
            rw [if_pos (by rfl)]
            refine ⟨.bool true, fun W hW => quiet_call (f := 20) (args := #[.string ⟨x.1.toArray⟩, .string ⟨ap.toArray⟩]) ?_ ?_, hK _ ?_⟩
            · go_simp
            · exact (HLB.out W).mono fun e w'' h => ⟨h.1, HTR.out _ _ hW h.2⟩
            clear hK K
            simp only [Act.put, List.setIfInBounds_toArray, List.set_cons_succ, List.set_cons_zero]
            refine wpQuiet_step (fun K hK => ?_)
            rw [if_pos (by rfl)]
            refine ⟨.bool false, fun W hW => quiet_ok ?_, hK _ ?_⟩
            · have q := HX.out W hW
              obtain ⟨m0, m1, m2, _⟩ := q
              have q2 := HY.out W hW
              obtain ⟨z0, z1, z2, _⟩ := q2
              have q3 := HZ.out W hW
              obtain ⟨y0, y1, y2, _⟩ := q3
              have e5 := HE5.out
              go_simp
              all_goals (try omega)
            clear hK K
            simp only [Act.put, List.setIfInBounds_toArray, List.set_cons_succ, List.set_cons_zero]
            refine wpQuiet_step (fun K hK => ?_)
            rw [if_pos (by rfl)]
            refine ⟨.bool false, fun W hW => quiet_ok ?_, hK _ ?_⟩
            · have q := HX.out W hW
              obtain ⟨m0, m1, m2, _⟩ := q
              have q2 := HY.out W hW
              obtain ⟨z0, z1, z2, _⟩ := q2
              have q3 := HZ.out W hW
              obtain ⟨y0, y1, y2, _⟩ := q3
              have e5 := HE5.out
              go_simp
              all_goals (try omega)
            clear hK K
            simp only [Act.put, List.setIfInBounds_toArray, List.set_cons_succ, List.set_cons_zero]
            refine wpQuiet_step (fun K hK => ?_)
            rw [if_pos (by rfl)]
            refine ⟨.bool false, fun W hW => quiet_ok ?_, hK _ ?_⟩
            · have q := HX.out W hW
              obtain ⟨m0, m1, m2, _⟩ := q
              have q2 := HY.out W hW
              obtain ⟨z0, z1, z2, _⟩ := q2
              have q3 := HZ.out W hW
              obtain ⟨y0, y1, y2, _⟩ := q3
              have e5 := HE5.out
              go_simp
              all_goals (try omega)
            clear hK K
            simp only [Act.put, List.setIfInBounds_toArray, List.set_cons_succ, List.set_cons_zero]
            refine wpQuiet_step (fun K hK => ?_)
            rw [if_pos (by rfl)]
            refine ⟨.int .i64 (k : Int), fun W hW => quiet_ok ?_, hK _ ?_⟩
            · have q := HX.out W hW
              obtain ⟨m0, m1, m2, _⟩ := q
              have q2 := HY.out W hW
              obtain ⟨z0, z1, z2, _⟩ := q2
              have q3 := HZ.out W hW
              obtain ⟨y0, y1, y2, _⟩ := q3
              have e5 := HE5.out
              go_simp
              all_goals (try omega)
            clear hK K
            simp only [Act.put, List.setIfInBounds_toArray, List.set_cons_succ, List.set_cons_zero]
            refine wpQuiet_step (fun K hK => ?_)
            rw [if_pos (by rfl)]
            refine ⟨.bool true, fun W hW => quiet_ok ?_, hK _ ?_⟩
            · have q := HX.out W hW
              obtain ⟨m0, m1, m2, _⟩ := q
              have q2 := HY.out W hW
              obtain ⟨z0, z1, z2, _⟩ := q2
              have q3 := HZ.out W hW
              obtain ⟨y0, y1, y2, _⟩ := q3
              have e5 := HE5.out
              go_simp
              all_goals (try omega)
            clear hK K
            simp only [Act.put, List.setIfInBounds_toArray, List.set_cons_succ, List.set_cons_zero]
            refine wpQuiet_step (fun K hK => ?_)
            rw [if_pos (by rfl)]
            refine ⟨.bool true, fun W hW => quiet_ok ?_, hK _ ?_⟩
            · have q := HX.out W hW
              obtain ⟨m0, m1, m2, _⟩ := q
              have q2 := HY.out W hW
              obtain ⟨z0, z1, z2, _⟩ := q2
              have q3 := HZ.out W hW
              obtain ⟨y0, y1, y2, _⟩ := q3
              have e5 := HE5.out
              go_simp
              all_goals (try omega)
            clear hK K
            simp only [Act.put, List.setIfInBounds_toArray, List.set_cons_succ, List.set_cons_zero]
            refine wpQuiet_step (fun K hK => ?_)
            rw [if_pos (by rfl)]
            refine ⟨.slice (some ⟨b, o, none⟩) L.length cap, fun W hW => quiet_ok ?_, hK _ ?_⟩
            · have q := HX.out W hW
              obtain ⟨m0, m1, m2, _⟩ := q
              have q2 := HY.out W hW
              obtain ⟨z0, z1, z2, _⟩ := q2
              have q3 := HZ.out W hW
              obtain ⟨y0, y1, y2, _⟩ := q3
              have e5 := HE5.out
              go_simp
              all_goals (try omega)
            clear hK K
            simp only [Act.put, List.setIfInBounds_toArray, List.set_cons_succ, List.set_cons_zero]
            refine wpQuiet_step (fun K hK => ?_)
            rw [if_pos (by rfl)]
            refine ⟨.int .i64 (k : Int), fun W hW => quiet_ok ?_, hK _ ?_⟩
            · have q := HX.out W hW
              obtain ⟨m0, m1, m2, _⟩ := q
              have q2 := HY.out W hW
              obtain ⟨z0, z1, z2, _⟩ := q2
              have q3 := HZ.out W hW
              obtain ⟨y0, y1, y2, _⟩ := q3
              have e5 := HE5.out
              go_simp
              all_goals (try omega)
            clear hK K
            simp only [Act.put, List.setIfInBounds_toArray, List.set_cons_succ, List.set_cons_zero]
            refine wpQuiet_step (fun K hK => ?_)
            rw [if_pos (by rfl)]
            refine ⟨.int .i64 (j : Int), fun W hW => quiet_ok ?_, hK _ ?_⟩
            · have q := HX.out W hW
              obtain ⟨m0, m1, m2, _⟩ := q
              have q2 := HY.out W hW
              obtain ⟨z0, z1, z2, _⟩ := q2
              have q3 := HZ.out W hW
              obtain ⟨y0, y1, y2, _⟩ := q3
              have e5 := HE5.out
              go_simp
              all_goals (try omega)
            clear hK K
            simp only [Act.put, List.setIfInBounds_toArray, List.set_cons_succ, List.set_cons_zero]
            refine wpQuiet_step (fun K hK => ?_)
            rw [if_pos (by rfl)]
            refine ⟨.pointer (some ⟨b, o + j * 3, none⟩), fun W hW => quiet_ok ?_, hK _ ?_⟩
            · have q := HX.out W hW
              obtain ⟨m0, m1, m2, _⟩ := q
              have q2 := HY.out W hW
              obtain ⟨z0, z1, z2, _⟩ := q2
              have q3 := HZ.out W hW
              obtain ⟨y0, y1, y2, _⟩ := q3
              have e5 := HE5.out
              go_simp
              all_goals (try omega)
            clear hK K
            simp only [Act.put, List.setIfInBounds_toArray, List.set_cons_succ, List.set_cons_zero]
            refine wpQuiet_step (fun K hK => ?_)
            rw [if_pos (by rfl)]
            refine ⟨.pointer (some ⟨b, o + j * 3, none⟩), fun W hW => quiet_ok ?_, hK _ ?_⟩
            · have q := HX.out W hW
              obtain ⟨m0, m1, m2, _⟩ := q
              have q2 := HY.out W hW
              obtain ⟨z0, z1, z2, _⟩ := q2
              have q3 := HZ.out W hW
              obtain ⟨y0, y1, y2, _⟩ := q3
              have e5 := HE5.out
              go_simp
              all_goals (try omega)
            clear hK K
            simp only [Act.put, List.setIfInBounds_toArray, List.set_cons_succ, List.set_cons_zero]
            refine wpQuiet_step (fun K hK => ?_)
            rw [if_pos (by rfl)]
            refine ⟨.string ⟨y.1.toArray⟩, fun W hW => quiet_ok ?_, hK _ ?_⟩
            · have q := HX.out W hW
              obtain ⟨m0, m1, m2, _⟩ := q
              have q2 := HY.out W hW
              obtain ⟨z0, z1, z2, _⟩ := q2
              have q3 := HZ.out W hW
              obtain ⟨y0, y1, y2, _⟩ := q3
              have e5 := HE5.out
              go_simp
              all_goals (try omega)
            clear hK K
            simp only [Act.put, List.setIfInBounds_toArray, List.set_cons_succ, List.set_cons_zero]
            refine wpQuiet_step (fun K hK => ?_)
            rw [if_pos (by rfl)]
            refine ⟨.pointer (some ⟨gx, 0, none⟩), fun W hW => quiet_ok ?_, hK _ ?_⟩
            · have q := HX.out W hW
              obtain ⟨m0, m1, m2, _⟩ := q
              have q2 := HY.out W hW
              obtain ⟨z0, z1, z2, _⟩ := q2
              have q3 := HZ.out W hW
              obtain ⟨y0, y1, y2, _⟩ := q3
              have e5 := HE5.out
              go_simp
              all_goals (try omega)
            clear hK K
            simp only [Act.put, List.setIfInBounds_toArray, List.set_cons_succ, List.set_cons_zero]
            refine wpQuiet_step (fun K hK => ?_)
            rw [if_pos (by rfl)]
            refine ⟨.string ⟨x.1.toArray⟩, fun W hW => quiet_ok ?_, hK _ ?_⟩
            · have q := HX.out W hW
              obtain ⟨m0, m1, m2, _⟩ := q
              have q2 := HY.out W hW
              obtain ⟨z0, z1, z2, _⟩ := q2
              have q3 := HZ.out W hW
              obtain ⟨y0, y1, y2, _⟩ := q3
              have e5 := HE5.out
              go_simp
              all_goals (try omega)
            clear hK K
            simp only [Act.put, List.setIfInBounds_toArray, List.set_cons_succ, List.set_cons_zero]
            refine wpQuiet_step (fun K hK => ?_)
            rw [if_pos (by rfl)]
            refine ⟨.int .i64 c, fun W hW => quiet_call (f := 21) (args := #[.string ⟨y.1.toArray⟩, .string ⟨x.1.toArray⟩]) ?_ ?_, hK _ ?_⟩
            · go_simp
            · exact (HCM.out W).mono fun e w'' h => ⟨h.1, HTR.out _ _ hW h.2⟩
            clear hK K
            simp only [Act.put, List.setIfInBounds_toArray, List.set_cons_succ, List.set_cons_zero]
            refine wpQuiet_step (fun K hK => ?_)
            rw [if_pos (by rfl)]
            refine ⟨.bool false, fun W hW => quiet_ok ?_, hK _ ?_⟩
            · have q := HX.out W hW
              obtain ⟨m0, m1, m2, _⟩ := q
              have q2 := HY.out W hW
              obtain ⟨z0, z1, z2, _⟩ := q2
              have q3 := HZ.out W hW
              obtain ⟨y0, y1, y2, _⟩ := q3
              have e5 := HE5.out
              go_simp
              all_goals (try omega)
            clear hK K
            simp only [Act.put, List.setIfInBounds_toArray, List.set_cons_succ, List.set_cons_zero]
            refine wpQuiet_step (fun K hK => ?_)
            rw [if_pos (by rfl)]
            refine ⟨.bool false, fun W hW => quiet_ok ?_, hK _ ?_⟩
            · have q := HX.out W hW
              obtain ⟨m0, m1, m2, _⟩ := q
              have q2 := HY.out W hW
              obtain ⟨z0, z1, z2, _⟩ := q2
              have q3 := HZ.out W hW
              obtain ⟨y0, y1, y2, _⟩ := q3
              have e5 := HE5.out
              go_simp
              all_goals (try omega)
            clear hK K
            simp only [Act.put, List.setIfInBounds_toArray, List.set_cons_succ, List.set_cons_zero]
            refine wpQuiet_step (fun K hK => ?_)
            rw [if_pos (by rfl)]
            refine ⟨.bool false, fun W hW => quiet_ok ?_, hK _ ?_⟩
            · have q := HX.out W hW
              obtain ⟨m0, m1, m2, _⟩ := q
              have q2 := HY.out W hW
              obtain ⟨z0, z1, z2, _⟩ := q2
              have q3 := HZ.out W hW
              obtain ⟨y0, y1, y2, _⟩ := q3
              have e5 := HE5.out
              go_simp
              all_goals (try omega)
            clear hK K
            simp only [Act.put, List.setIfInBounds_toArray, List.set_cons_succ, List.set_cons_zero]
            refine wpQuiet_step (fun K hK => ?_)
            rw [if_pos (by rfl)]
            refine ⟨.bool false, fun W hW => quiet_ok ?_, hK _ ?_⟩
            · have q := HX.out W hW
              obtain ⟨m0, m1, m2, _⟩ := q
              have q2 := HY.out W hW
              obtain ⟨z0, z1, z2, _⟩ := q2
              have q3 := HZ.out W hW
              obtain ⟨y0, y1, y2, _⟩ := q3
              have e5 := HE5.out
              go_simp
              all_goals (try omega)
            clear hK K
            simp only [Act.put, List.setIfInBounds_toArray, List.set_cons_succ, List.set_cons_zero]
            refine wpQuiet_step (fun K hK => ?_)
            rw [if_pos (by rfl)]
            refine ⟨.pointer (some ⟨gx, 1, none⟩), fun W hW => quiet_ok ?_, hK _ ?_⟩
            · have q := HX.out W hW
              obtain ⟨m0, m1, m2, _⟩ := q
              have q2 := HY.out W hW
              obtain ⟨z0, z1, z2, _⟩ := q2
              have q3 := HZ.out W hW
              obtain ⟨y0, y1, y2, _⟩ := q3
              have e5 := HE5.out
              go_simp
              all_goals (try omega)
            clear hK K
            simp only [Act.put, List.setIfInBounds_toArray, List.set_cons_succ, List.set_cons_zero]
            refine wpQuiet_step (fun K hK => ?_)
            rw [if_pos (by rfl)]
            refine ⟨.string ⟨x.2.1.toArray⟩, fun W hW => quiet_ok ?_, hK _ ?_⟩
            · have q := HX.out W hW
              obtain ⟨m0, m1, m2, _⟩ := q
              have q2 := HY.out W hW
              obtain ⟨z0, z1, z2, _⟩ := q2
              have q3 := HZ.out W hW
              obtain ⟨y0, y1, y2, _⟩ := q3
              have e5 := HE5.out
              go_simp
              all_goals (try omega)
            clear hK K
            simp only [Act.put, List.setIfInBounds_toArray, List.set_cons_succ, List.set_cons_zero]
            refine wpQuiet_step (fun K hK => ?_)
            rw [if_pos (by rfl)]
            refine ⟨.slice (some ⟨b, o, none⟩) L.length cap, fun W hW => quiet_ok ?_, hK _ ?_⟩
            · have q := HX.out W hW
              obtain ⟨m0, m1, m2, _⟩ := q
              have q2 := HY.out W hW
              obtain ⟨z0, z1, z2, _⟩ := q2
              have q3 := HZ.out W hW
              obtain ⟨y0, y1, y2, _⟩ := q3
              have e5 := HE5.out
              go_simp
              all_goals (try omega)
            clear hK K
            simp only [Act.put, List.setIfInBounds_toArray, List.set_cons_succ, List.set_cons_zero]
            refine wpQuiet_step (fun K hK => ?_)
            rw [if_pos (by rfl)]
            refine ⟨.int .i64 (k : Int), fun W hW => quiet_ok ?_, hK _ ?_⟩
            · have q := HX.out W hW
              obtain ⟨m0, m1, m2, _⟩ := q
              have q2 := HY.out W hW
              obtain ⟨z0, z1, z2, _⟩ := q2
              have q3 := HZ.out W hW
              obtain ⟨y0, y1, y2, _⟩ := q3
              have e5 := HE5.out
              go_simp
              all_goals (try omega)
            clear hK K
            simp only [Act.put, List.setIfInBounds_toArray, List.set_cons_succ, List.set_cons_zero]
            refine wpQuiet_step (fun K hK => ?_)
            rw [if_pos (by rfl)]
            refine ⟨.int .i64 ((k : Int) + 1), fun W hW => quiet_ok ?_, hK _ ?_⟩
            · have q := HX.out W hW
              obtain ⟨m0, m1, m2, _⟩ := q
              have q2 := HY.out W hW
              obtain ⟨z0, z1, z2, _⟩ := q2
              have q3 := HZ.out W hW
              obtain ⟨y0, y1, y2, _⟩ := q3
              have e5 := HE5.out
              go_simp
              all_goals (try omega)
            clear hK K
            simp only [Act.put, List.setIfInBounds_toArray, List.set_cons_succ, List.set_cons_zero]
            refine wpQuiet_step (fun K hK => ?_)
            rw [if_pos (by rfl)]
            refine ⟨.slice (some ⟨b, o, none⟩) L.length cap, fun W hW => quiet_ok ?_, hK _ ?_⟩
            · have q := HX.out W hW
              obtain ⟨m0, m1, m2, _⟩ := q
              have q2 := HY.out W hW
              obtain ⟨z0, z1, z2, _⟩ := q2
              have q3 := HZ.out W hW
              obtain ⟨y0, y1, y2, _⟩ := q3
              have e5 := HE5.out
              go_simp
              all_goals (try omega)
            clear hK K
            simp only [Act.put, List.setIfInBounds_toArray, List.set_cons_succ, List.set_cons_zero]
            refine wpQuiet_step (fun K hK => ?_)
            rw [if_pos (by rfl)]
            refine ⟨.int .i64 (L.length : Int), fun W hW => quiet_ok ?_, hK _ ?_⟩
            · have q := HX.out W hW
              obtain ⟨m0, m1, m2, _⟩ := q
              have q2 := HY.out W hW
              obtain ⟨z0, z1, z2, _⟩ := q2
              have q3 := HZ.out W hW
              obtain ⟨y0, y1, y2, _⟩ := q3
              have e5 := HE5.out
              go_simp
              all_goals (try omega)
            clear hK K
            simp only [Act.put, List.setIfInBounds_toArray, List.set_cons_succ, List.set_cons_zero]
            refine wpQuiet_step (fun K hK => ?_)
            rw [if_pos (by rfl)]
            refine ⟨.int .i64 (m : Int), fun W hW => quiet_ok ?_, hK _ ?_⟩
            · have q := HX.out W hW
              obtain ⟨m0, m1, m2, _⟩ := q
              have q2 := HY.out W hW
              obtain ⟨z0, z1, z2, _⟩ := q2
              have q3 := HZ.out W hW
              obtain ⟨y0, y1, y2, _⟩ := q3
              have e5 := HE5.out
              go_simp
              all_goals (try omega)
            clear hK K
            simp only [Act.put, List.setIfInBounds_toArray, List.set_cons_succ, List.set_cons_zero]
            refine wpQuiet_step (fun K hK => ?_)
            rw [if_pos (by rfl)]
            refine ⟨.pointer (some ⟨b, o + m * 3, none⟩), fun W hW => quiet_ok ?_, hK _ ?_⟩
            · have q := HX.out W hW
              obtain ⟨m0, m1, m2, _⟩ := q
              have q2 := HY.out W hW
              obtain ⟨z0, z1, z2, _⟩ := q2
              have q3 := HZ.out W hW
              obtain ⟨y0, y1, y2, _⟩ := q3
              have e5 := HE5.out
              go_simp
              all_goals (try omega)
            clear hK K
            simp only [Act.put, List.setIfInBounds_toArray, List.set_cons_succ, List.set_cons_zero]
            refine wpQuiet_step (fun K hK => ?_)
            rw [if_pos (by rfl)]
            refine ⟨.pointer (some ⟨b, o + m * 3, none⟩), fun W hW => quiet_ok ?_, hK _ ?_⟩
            · have q := HX.out W hW
              obtain ⟨m0, m1, m2, _⟩ := q
              have q2 := HY.out W hW
              obtain ⟨z0, z1, z2, _⟩ := q2
              have q3 := HZ.out W hW
              obtain ⟨y0, y1, y2, _⟩ := q3
              have e5 := HE5.out
              go_simp
              all_goals (try omega)
            clear hK K
            simp only [Act.put, List.setIfInBounds_toArray, List.set_cons_succ, List.set_cons_zero]
            refine wpQuiet_step (fun K hK => ?_)
            rw [if_pos (by rfl)]
            refine ⟨.string ⟨z.1.toArray⟩, fun W hW => quiet_ok ?_, hK _ ?_⟩
            · have q := HX.out W hW
              obtain ⟨m0, m1, m2, _⟩ := q
              have q2 := HY.out W hW
              obtain ⟨z0, z1, z2, _⟩ := q2
              have q3 := HZ.out W hW
              obtain ⟨y0, y1, y2, _⟩ := q3
              have e5 := HE5.out
              go_simp
              all_goals (try omega)
            clear hK K
            simp only [Act.put, List.setIfInBounds_toArray, List.set_cons_succ, List.set_cons_zero]
            refine wpQuiet_step (fun K hK => ?_)
            rw [if_pos (by rfl)]
            refine ⟨.bool false, fun W hW => quiet_ok ?_, hK _ ?_⟩
            · have q := HX.out W hW
              obtain ⟨m0, m1, m2, _⟩ := q
              have q2 := HY.out W hW
              obtain ⟨z0, z1, z2, _⟩ := q2
              have q3 := HZ.out W hW
              obtain ⟨y0, y1, y2, _⟩ := q3
              have e5 := HE5.out
              go_simp
              all_goals (try omega)
            clear hK K
            simp only [Act.put, List.setIfInBounds_toArray, List.set_cons_succ, List.set_cons_zero]
            refine wpQuiet_step (fun K hK => ?_)
            rw [if_pos (by rfl)]
            refine ⟨.bool false, fun W hW => quiet_ok ?_, hK _ ?_⟩
            · have q := HX.out W hW
              obtain ⟨m0, m1, m2, _⟩ := q
              have q2 := HY.out W hW
              obtain ⟨z0, z1, z2, _⟩ := q2
              have q3 := HZ.out W hW
              obtain ⟨y0, y1, y2, _⟩ := q3
              have e5 := HE5.out
              go_simp
              all_goals (try omega)
            clear hK K
            simp only [Act.put, List.setIfInBounds_toArray, List.set_cons_succ, List.set_cons_zero]
            refine wpQuiet_step (fun K hK => ?_)
            rw [if_pos (by rfl)]
            refine ⟨.bool false, fun W hW => quiet_ok ?_, hK _ ?_⟩
            · have q := HX.out W hW
              obtain ⟨m0, m1, m2, _⟩ := q
              have q2 := HY.out W hW
              obtain ⟨z0, z1, z2, _⟩ := q2
              have q3 := HZ.out W hW
              obtain ⟨y0, y1, y2, _⟩ := q3
              have e5 := HE5.out
              go_simp
              all_goals (try omega)
            clear hK K
            simp only [Act.put, List.setIfInBounds_toArray, List.set_cons_succ, List.set_cons_zero]
            refine wpQuiet_step (fun K hK => ?_)
            rw [if_pos (by rfl)]
            refine ⟨.pointer (some ⟨gx, 2, none⟩), fun W hW => quiet_ok ?_, hK _ ?_⟩
            · have q := HX.out W hW
              obtain ⟨m0, m1, m2, _⟩ := q
              have q2 := HY.out W hW
              obtain ⟨z0, z1, z2, _⟩ := q2
              have q3 := HZ.out W hW
              obtain ⟨y0, y1, y2, _⟩ := q3
              have e5 := HE5.out
              go_simp
              all_goals (try omega)
            clear hK K
            simp only [Act.put, List.setIfInBounds_toArray, List.set_cons_succ, List.set_cons_zero]
            refine wpQuiet_step (fun K hK => ?_)
            rw [if_pos (by rfl)]
            refine ⟨.slice aa x.2.2.length ca, fun W hW => quiet_ok ?_, hK _ ?_⟩
            · have q := HX.out W hW
              obtain ⟨m0, m1, m2, _⟩ := q
              have q2 := HY.out W hW
              obtain ⟨z0, z1, z2, _⟩ := q2
              have q3 := HZ.out W hW
              obtain ⟨y0, y1, y2, _⟩ := q3
              have e5 := HE5.out
              go_simp
              all_goals (try omega)
            clear hK K
            simp only [Act.put, List.setIfInBounds_toArray, List.set_cons_succ, List.set_cons_zero]
            refine wpQuiet_step (fun K hK => ?_)
            rw [if_pos (by rfl)]
            refine ⟨.int .i64 (x.2.2.length : Int), fun W hW => quiet_ok ?_, hK _ ?_⟩
            · have q := HX.out W hW
              obtain ⟨m0, m1, m2, _⟩ := q
              have q2 := HY.out W hW
              obtain ⟨z0, z1, z2, _⟩ := q2
              have q3 := HZ.out W hW
              obtain ⟨y0, y1, y2, _⟩ := q3
              have e5 := HE5.out
              go_simp
              all_goals (try omega)
            clear hK K
            simp only [Act.put, List.setIfInBounds_toArray, List.set_cons_succ, List.set_cons_zero]
            refine wpQuiet_step (fun K hK => ?_)
            rw [if_pos (by rfl)]
            refine ⟨.bool true, fun W hW => quiet_ok ?_, hK _ ?_⟩
            · have q := HX.out W hW
              obtain ⟨m0, m1, m2, _⟩ := q
              have q2 := HY.out W hW
              obtain ⟨z0, z1, z2, _⟩ := q2
              have q3 := HZ.out W hW
              obtain ⟨y0, y1, y2, _⟩ := q3
              have e5 := HE5.out
              go_simp
              all_goals (try omega)
            clear hK K
            simp only [Act.put, List.setIfInBounds_toArray, List.set_cons_succ, List.set_cons_zero]
            refine wpQuiet_step (fun K hK => ?_)
            rw [if_pos (by rfl)]
            refine ⟨.bool true, fun W hW => quiet_ok ?_, hK _ ?_⟩
            · have q := HX.out W hW
              obtain ⟨m0, m1, m2, _⟩ := q
              have q2 := HY.out W hW
              obtain ⟨z0, z1, z2, _⟩ := q2
              have q3 := HZ.out W hW
              obtain ⟨y0, y1, y2, _⟩ := q3
              have e5 := HE5.out
              go_simp
              all_goals (try omega)
            clear hK K
            simp only [Act.put, List.setIfInBounds_toArray, List.set_cons_succ, List.set_cons_zero]
            refine wpQuiet_nil ?_
            intro W hW
            have hbW := HBW.out W hW
            go_wp2_with fail
            go_ret
            exact ⟨ret_bool HF.out.symm, hbW⟩
          · have e5 : 0 < x.2.2.length := List.length_pos_iff.2 h5
            have HBT : Hid (typesB x.2.2 = false → r = false) := fun h => HBAD.out (HG.out.trans (by rw [h]; simp))
            have HUP : Hid (typesB x.2.2 = true → ∀ j, j < k + 1 → gsB ap L j = true) := fun h => HUPA.out (HG.out.trans (by rw [h1, h2, h4, h, show (x.2.2 == []) = false by simpa using h5]; simp [HK.out]))
            have e5i : ¬ (x.2.2.length : Int) = 0 := by omega
            have e5b : ((x.2.2.length : Int) == 0) = false := beq_eq_false_iff_ne.2 (by omega)
            clear HBAD HG h1 h2 h4 h5 HUPA HGB
            go_wp2_with fail
            rw [HW0.out, HGX.out]
            refine wp_region_quiet (C := fun W => Below W0.heap.size W0 W) (by kernel_rfl) (by kernel_rfl) hbd ?_
            refine wpQuiet_step (fun K hK => ?_)
            rw [if_pos (by rfl)]
            refine ⟨.pointer (some ⟨gx, 0, none⟩), fun W hW => quiet_ok ?_, hK _ ?_⟩
            · have q := HX.out W hW
              obtain ⟨m0, m1, m2, _⟩ := q
              have q2 := HY.out W hW
              obtain ⟨z0, z1, z2, _⟩ := q2
              have q3 := HZ.out W hW
              obtain ⟨y0, y1, y2, _⟩ := q3
              go_simp
              all_goals (try omega)
            clear hK K
            simp only [Act.put, List.setIfInBounds_toArray, List.set_cons_succ, List.set_cons_zero]
            refine wpQuiet_step (fun K hK => ?_)
            rw [if_pos (by rfl)]
            refine ⟨.string ⟨x.1.toArray⟩, fun W hW => quiet_ok ?_, hK _ ?_⟩
            · have q := HX.out W hW
              obtain ⟨m0, m1, m2, _⟩ := q
              have q2 := HY.out W hW
              obtain ⟨z0, z1, z2, _⟩ := q2
              have q3 := HZ.out W hW
              obtain ⟨y0, y1, y2, _⟩ := q3
              go_simp
              all_goals (try omega)
            clear hK K
            simp only [Act.put, List.setIfInBounds_toArray, List.set_cons_succ, List.set_cons_zero]
            refine wpQuiet_step (fun K hK => ?_)
            rw [if_pos (by rfl)]
            refine ⟨.bool true, fun W hW => quiet_call (f := 18) (args := #[.string ⟨x.1.toArray⟩]) ?_ ?_, hK _ ?_⟩
            · go_simp
            · exact (HN.out W).mono fun e w'' h => ⟨h.1, HTR.out _ _ hW h.2⟩
            clear hK K
            simp only [Act.put, List.setIfInBounds_toArray, List.set_cons_succ, List.set_cons_zero]
            refine wpQuiet_step (fun K hK => ?_)
            rw [if_pos (by rfl)]
            refine ⟨.bool false, fun W hW => quiet_ok ?_, hK _ ?_⟩
            · have q := HX.out W hW
              obtain ⟨m0, m1, m2, _⟩ := q
              have q2 := HY.out W hW
              obtain ⟨z0, z1, z2, _⟩ := q2
              have q3 := HZ.out W hW
              obtain ⟨y0, y1, y2, _⟩ := q3
              go_simp
              all_goals (try omega)
            clear hK K
            simp only [Act.put, List.setIfInBounds_toArray, List.set_cons_succ, List.set_cons_zero]
            refine wpQuiet_step (fun K hK => ?_)
            rw [if_pos (by rfl)]
            refine ⟨.bool false, fun W hW => quiet_ok ?_, hK _ ?_⟩
            · have q := HX.out W hW
              obtain ⟨m0, m1, m2, _⟩ := q
              have q2 := HY.out W hW
              obtain ⟨z0, z1, z2, _⟩ := q2
              have q3 := HZ.out W hW
              obtain ⟨y0, y1, y2, _⟩ := q3
              go_simp
              all_goals (try omega)
            clear hK K
            simp only [Act.put, List.setIfInBounds_toArray, List.set_cons_succ, List.set_cons_zero]
            refine wpQuiet_step (fun K hK => ?_)
            rw [if_pos (by rfl)]
            refine ⟨.pointer (some ⟨gx, 0, none⟩), fun W hW => quiet_ok ?_, hK _ ?_⟩
            · have q := HX.out W hW
              obtain ⟨m0, m1, m2, _⟩ := q
              have q2 := HY.out W hW
              obtain ⟨z0, z1, z2, _⟩ := q2
              have q3 := HZ.out W hW
              obtain ⟨y0, y1, y2, _⟩ := q3
              go_simp
              all_goals (try omega)
            clear hK K
            simp only [Act.put, List.setIfInBounds_toArray, List.set_cons_succ, List.set_cons_zero]
            refine wpQuiet_step (fun K hK => ?_)
            rw [if_pos (by rfl)]
            refine ⟨.string ⟨x.1.toArray⟩, fun W hW => quiet_ok ?_, hK _ ?_⟩
            · have q := HX.out W hW
              obtain ⟨m0, m1, m2, _⟩ := q
              have q2 := HY.out W hW
              obtain ⟨z0, z1, z2, _⟩ := q2
              have q3 := HZ.out W hW
              obtain ⟨y0, y1, y2, _⟩ := q3
              go_simp
              all_goals (try omega)
            clear hK K
            simp only [Act.put, List.setIfInBounds_toArray, List.set_cons_succ, List.set_cons_zero]
            refine wpQuiet_step (fun K hK => ?_)
            rw [if_pos (by rfl)]
            refine ⟨.string ⟨ap.toArray⟩, fun W hW => quiet_ok ?_, hK _ ?_⟩
            · have q := HX.out W hW
              obtain ⟨m0, m1, m2, _⟩ := q
              have q2 := HY.out W hW
              obtain ⟨z0, z1, z2, _⟩ := q2
              have q3 := HZ.out W hW
              obtain ⟨y0, y1, y2, _⟩ := q3
              go_simp
              all_goals (try omega)
            clear hK K
            simp only [Act.put, List.setIfInBounds_toArray, List.set_cons_succ, List.set_cons_zero]
            refine wpQuiet_step (fun K hK => ?_)
            rw [if_pos (by rfl)]
            refine ⟨.bool true, fun W hW => quiet_call (f := 20) (args := #[.string ⟨x.1.toArray⟩, .string ⟨ap.toArray⟩]) ?_ ?_, hK _ ?_⟩
            · go_simp
            · exact (HLB.out W).mono fun e w'' h => ⟨h.1, HTR.out _ _ hW h.2⟩
            clear hK K
            simp only [Act.put, List.setIfInBounds_toArray, List.set_cons_succ, List.set_cons_zero]
            refine wpQuiet_step (fun K hK => ?_)
            rw [if_pos (by rfl)]
            refine ⟨.bool false, fun W hW => quiet_ok ?_, hK _ ?_⟩
            · have q := HX.out W hW
              obtain ⟨m0, m1, m2, _⟩ := q
              have q2 := HY.out W hW
              obtain ⟨z0, z1, z2, _⟩ := q2
              have q3 := HZ.out W hW
              obtain ⟨y0, y1, y2, _⟩ := q3
              go_simp
              all_goals (try omega)
            clear hK K
            simp only [Act.put, List.setIfInBounds_toArray, List.set_cons_succ, List.set_cons_zero]
            refine wpQuiet_step (fun K hK => ?_)
            rw [if_pos (by rfl)]
            refine ⟨.bool false, fun W hW => quiet_ok ?_, hK _ ?_⟩
            · have q := HX.out W hW
              obtain ⟨m0, m1, m2, _⟩ := q
              have q2 := HY.out W hW
              obtain ⟨z0, z1, z2, _⟩ := q2
              have q3 := HZ.out W hW
              obtain ⟨y0, y1, y2, _⟩ := q3
              go_simp
              all_goals (try omega)
            clear hK K
            simp only [Act.put, List.setIfInBounds_toArray, List.set_cons_succ, List.set_cons_zero]
            refine wpQuiet_step (fun K hK => ?_)
            rw [if_pos (by rfl)]
            refine ⟨.bool false, fun W hW => quiet_ok ?_, hK _ ?_⟩
            · have q := HX.out W hW
              obtain ⟨m0, m1, m2, _⟩ := q
              have q2 := HY.out W hW
              obtain ⟨z0, z1, z2, _⟩ := q2
              have q3 := HZ.out W hW
              obtain ⟨y0, y1, y2, _⟩ := q3
              go_simp
              all_goals (try omega)
            clear hK K
            simp only [Act.put, List.setIfInBounds_toArray, List.set_cons_succ, List.set_cons_zero]
            refine wpQuiet_step (fun K hK => ?_)
            rw [if_pos (by rfl)]
            refine ⟨.int .i64 (k : Int), fun W hW => quiet_ok ?_, hK _ ?_⟩
            · have q := HX.out W hW
              obtain ⟨m0, m1, m2, _⟩ := q
              have q2 := HY.out W hW
              obtain ⟨z0, z1, z2, _⟩ := q2
              have q3 := HZ.out W hW
              obtain ⟨y0, y1, y2, _⟩ := q3
              go_simp
              all_goals (try omega)
            clear hK K
            simp only [Act.put, List.setIfInBounds_toArray, List.set_cons_succ, List.set_cons_zero]
            refine wpQuiet_step (fun K hK => ?_)
            rw [if_pos (by rfl)]
            refine ⟨.bool true, fun W hW => quiet_ok ?_, hK _ ?_⟩
            · have q := HX.out W hW
              obtain ⟨m0, m1, m2, _⟩ := q
              have q2 := HY.out W hW
              obtain ⟨z0, z1, z2, _⟩ := q2
              have q3 := HZ.out W hW
              obtain ⟨y0, y1, y2, _⟩ := q3
              go_simp
              all_goals (try omega)
            clear hK K
            simp only [Act.put, List.setIfInBounds_toArray, List.set_cons_succ, List.set_cons_zero]
            refine wpQuiet_step (fun K hK => ?_)
            rw [if_pos (by rfl)]
            refine ⟨.bool true, fun W hW => quiet_ok ?_, hK _ ?_⟩
            · have q := HX.out W hW
              obtain ⟨m0, m1, m2, _⟩ := q
              have q2 := HY.out W hW
              obtain ⟨z0, z1, z2, _⟩ := q2
              have q3 := HZ.out W hW
              obtain ⟨y0, y1, y2, _⟩ := q3
              go_simp
              all_goals (try omega)
            clear hK K
            simp only [Act.put, List.setIfInBounds_toArray, List.set_cons_succ, List.set_cons_zero]
            refine wpQuiet_step (fun K hK => ?_)
            rw [if_pos (by rfl)]
            refine ⟨.slice (some ⟨b, o, none⟩) L.length cap, fun W hW => quiet_ok ?_, hK _ ?_⟩
            · have q := HX.out W hW
              obtain ⟨m0, m1, m2, _⟩ := q
              have q2 := HY.out W hW
              obtain ⟨z0, z1, z2, _⟩ := q2
              have q3 := HZ.out W hW
              obtain ⟨y0, y1, y2, _⟩ := q3
              go_simp
              all_goals (try omega)
            clear hK K
            simp only [Act.put, List.setIfInBounds_toArray, List.set_cons_succ, List.set_cons_zero]
            refine wpQuiet_step (fun K hK => ?_)
            rw [if_pos (by rfl)]
            refine ⟨.int .i64 (k : Int), fun W hW => quiet_ok ?_, hK _ ?_⟩
            · have q := HX.out W hW
              obtain ⟨m0, m1, m2, _⟩ := q
              have q2 := HY.out W hW
              obtain ⟨z0, z1, z2, _⟩ := q2
              have q3 := HZ.out W hW
              obtain ⟨y0, y1, y2, _⟩ := q3
              go_simp
              all_goals (try omega)
            clear hK K
            simp only [Act.put, List.setIfInBounds_toArray, List.set_cons_succ, List.set_cons_zero]
            refine wpQuiet_step (fun K hK => ?_)
            rw [if_pos (by rfl)]
            refine ⟨.int .i64 (j : Int), fun W hW => quiet_ok ?_, hK _ ?_⟩
            · have q := HX.out W hW
              obtain ⟨m0, m1, m2, _⟩ := q
              have q2 := HY.out W hW
              obtain ⟨z0, z1, z2, _⟩ := q2
              have q3 := HZ.out W hW
              obtain ⟨y0, y1, y2, _⟩ := q3
              go_simp
              all_goals (try omega)
            clear hK K
            simp only [Act.put, List.setIfInBounds_toArray, List.set_cons_succ, List.set_cons_zero]
            refine wpQuiet_step (fun K hK => ?_)
            rw [if_pos (by rfl)]
            refine ⟨.pointer (some ⟨b, o + j * 3, none⟩), fun W hW => quiet_ok ?_, hK _ ?_⟩
            · have q := HX.out W hW
              obtain ⟨m0, m1, m2, _⟩ := q
              have q2 := HY.out W hW
              obtain ⟨z0, z1, z2, _⟩ := q2
              have q3 := HZ.out W hW
              obtain ⟨y0, y1, y2, _⟩ := q3
              go_simp
              all_goals (try omega)
            clear hK K
            simp only [Act.put, List.setIfInBounds_toArray, List.set_cons_succ, List.set_cons_zero]
            refine wpQuiet_step (fun K hK => ?_)
            rw [if_pos (by rfl)]
            refine ⟨.pointer (some ⟨b, o + j * 3, none⟩), fun W hW => quiet_ok ?_, hK _ ?_⟩
            · have q := HX.out W hW
              obtain ⟨m0, m1, m2, _⟩ := q
              have q2 := HY.out W hW
              obtain ⟨z0, z1, z2, _⟩ := q2
              have q3 := HZ.out W hW
              obtain ⟨y0, y1, y2, _⟩ := q3
              go_simp
              all_goals (try omega)
            clear hK K
            simp only [Act.put, List.setIfInBounds_toArray, List.set_cons_succ, List.set_cons_zero]
            refine wpQuiet_step (fun K hK => ?_)
            rw [if_pos (by rfl)]
            refine ⟨.string ⟨y.1.toArray⟩, fun W hW => quiet_ok ?_, hK _ ?_⟩
            · have q := HX.out W hW
              obtain ⟨m0, m1, m2, _⟩ := q
              have q2 := HY.out W hW
              obtain ⟨z0, z1, z2, _⟩ := q2
              have q3 := HZ.out W hW
              obtain ⟨y0, y1, y2, _⟩ := q3
              go_simp
              all_goals (try omega)
            clear hK K
            simp only [Act.put, List.setIfInBounds_toArray, List.set_cons_succ, List.set_cons_zero]
            refine wpQuiet_step (fun K hK => ?_)
            rw [if_pos (by rfl)]
            refine ⟨.pointer (some ⟨gx, 0, none⟩), fun W hW => quiet_ok ?_, hK _ ?_⟩
            · have q := HX.out W hW
              obtain ⟨m0, m1, m2, _⟩ := q
              have q2 := HY.out W hW
              obtain ⟨z0, z1, z2, _⟩ := q2
              have q3 := HZ.out W hW
              obtain ⟨y0, y1, y2, _⟩ := q3
              go_simp
              all_goals (try omega)
            clear hK K
            simp only [Act.put, List.setIfInBounds_toArray, List.set_cons_succ, List.set_cons_zero]
            refine wpQuiet_step (fun K hK => ?_)
            rw [if_pos (by rfl)]
            refine ⟨.string ⟨x.1.toArray⟩, fun W hW => quiet_ok ?_, hK _ ?_⟩
            · have q := HX.out W hW
              obtain ⟨m0, m1, m2, _⟩ := q
              have q2 := HY.out W hW
              obtain ⟨z0, z1, z2, _⟩ := q2
              have q3 := HZ.out W hW
              obtain ⟨y0, y1, y2, _⟩ := q3
              go_simp
              all_goals (try omega)
            clear hK K
            simp only [Act.put, List.setIfInBounds_toArray, List.set_cons_succ, List.set_cons_zero]
            refine wpQuiet_step (fun K hK => ?_)
            rw [if_pos (by rfl)]
            refine ⟨.int .i64 c, fun W hW => quiet_call (f := 21) (args := #[.string ⟨y.1.toArray⟩, .string ⟨x.1.toArray⟩]) ?_ ?_, hK _ ?_⟩
            · go_simp
            · exact (HCM.out W).mono fun e w'' h => ⟨h.1, HTR.out _ _ hW h.2⟩
            clear hK K
            simp only [Act.put, List.setIfInBounds_toArray, List.set_cons_succ, List.set_cons_zero]
            refine wpQuiet_step (fun K hK => ?_)
            rw [if_pos (by rfl)]
            refine ⟨.bool false, fun W hW => quiet_ok ?_, hK _ ?_⟩
            · have q := HX.out W hW
              obtain ⟨m0, m1, m2, _⟩ := q
              have q2 := HY.out W hW
              obtain ⟨z0, z1, z2, _⟩ := q2
              have q3 := HZ.out W hW
              obtain ⟨y0, y1, y2, _⟩ := q3
              go_simp
              all_goals (try omega)
            clear hK K
            simp only [Act.put, List.setIfInBounds_toArray, List.set_cons_succ, List.set_cons_zero]
            refine wpQuiet_step (fun K hK => ?_)
            rw [if_pos (by rfl)]
            refine ⟨.bool false, fun W hW => quiet_ok ?_, hK _ ?_⟩
            · have q := HX.out W hW
              obtain ⟨m0, m1, m2, _⟩ := q
              have q2 := HY.out W hW
              obtain ⟨z0, z1, z2, _⟩ := q2
              have q3 := HZ.out W hW
              obtain ⟨y0, y1, y2, _⟩ := q3
              go_simp
              all_goals (try omega)
            clear hK K
            simp only [Act.put, List.setIfInBounds_toArray, List.set_cons_succ, List.set_cons_zero]
            refine wpQuiet_step (fun K hK => ?_)
            rw [if_pos (by rfl)]
            refine ⟨.bool false, fun W hW => quiet_ok ?_, hK _ ?_⟩
            · have q := HX.out W hW
              obtain ⟨m0, m1, m2, _⟩ := q
              have q2 := HY.out W hW
              obtain ⟨z0, z1, z2, _⟩ := q2
              have q3 := HZ.out W hW
              obtain ⟨y0, y1, y2, _⟩ := q3
              go_simp
              all_goals (try omega)
            clear hK K
            simp only [Act.put, List.setIfInBounds_toArray, List.set_cons_succ, List.set_cons_zero]
            refine wpQuiet_step (fun K hK => ?_)
            rw [if_pos (by rfl)]
            refine ⟨.bool false, fun W hW => quiet_ok ?_, hK _ ?_⟩
            · have q := HX.out W hW
              obtain ⟨m0, m1, m2, _⟩ := q
              have q2 := HY.out W hW
              obtain ⟨z0, z1, z2, _⟩ := q2
              have q3 := HZ.out W hW
              obtain ⟨y0, y1, y2, _⟩ := q3
              go_simp
              all_goals (try omega)
            clear hK K
            simp only [Act.put, List.setIfInBounds_toArray, List.set_cons_succ, List.set_cons_zero]
            refine wpQuiet_step (fun K hK => ?_)
            rw [if_pos (by rfl)]
            refine ⟨.pointer (some ⟨gx, 1, none⟩), fun W hW => quiet_ok ?_, hK _ ?_⟩
            · have q := HX.out W hW
              obtain ⟨m0, m1, m2, _⟩ := q
              have q2 := HY.out W hW
              obtain ⟨z0, z1, z2, _⟩ := q2
              have q3 := HZ.out W hW
              obtain ⟨y0, y1, y2, _⟩ := q3
              go_simp
              all_goals (try omega)
            clear hK K
            simp only [Act.put, List.setIfInBounds_toArray, List.set_cons_succ, List.set_cons_zero]
            refine wpQuiet_step (fun K hK => ?_)
            rw [if_pos (by rfl)]
            refine ⟨.string ⟨x.2.1.toArray⟩, fun W hW => quiet_ok ?_, hK _ ?_⟩
            · have q := HX.out W hW
              obtain ⟨m0, m1, m2, _⟩ := q
              have q2 := HY.out W hW
              obtain ⟨z0, z1, z2, _⟩ := q2
              have q3 := HZ.out W hW
              obtain ⟨y0, y1, y2, _⟩ := q3
              go_simp
              all_goals (try omega)
            clear hK K
            simp only [Act.put, List.setIfInBounds_toArray, List.set_cons_succ, List.set_cons_zero]
            refine wpQuiet_step (fun K hK => ?_)
            rw [if_pos (by rfl)]
            refine ⟨.slice (some ⟨b, o, none⟩) L.length cap, fun W hW => quiet_ok ?_, hK _ ?_⟩
            · have q := HX.out W hW
              obtain ⟨m0, m1, m2, _⟩ := q
              have q2 := HY.out W hW
              obtain ⟨z0, z1, z2, _⟩ := q2
              have q3 := HZ.out W hW
              obtain ⟨y0, y1, y2, _⟩ := q3
              go_simp
              all_goals (try omega)
            clear hK K
            simp only [Act.put, List.setIfInBounds_toArray, List.set_cons_succ, List.set_cons_zero]
            refine wpQuiet_step (fun K hK => ?_)
            rw [if_pos (by rfl)]
            refine ⟨.int .i64 (k : Int), fun W hW => quiet_ok ?_, hK _ ?_⟩
            · have q := HX.out W hW
              obtain ⟨m0, m1, m2, _⟩ := q
              have q2 := HY.out W hW
              obtain ⟨z0, z1, z2, _⟩ := q2
              have q3 := HZ.out W hW
              obtain ⟨y0, y1, y2, _⟩ := q3
              go_simp
              all_goals (try omega)
            clear hK K
            simp only [Act.put, List.setIfInBounds_toArray, List.set_cons_succ, List.set_cons_zero]
            refine wpQuiet_step (fun K hK => ?_)
            rw [if_pos (by rfl)]
            refine ⟨.int .i64 ((k : Int) + 1), fun W hW => quiet_ok ?_, hK _ ?_⟩
            · have q := HX.out W hW
              obtain ⟨m0, m1, m2, _⟩ := q
              have q2 := HY.out W hW
              obtain ⟨z0, z1, z2, _⟩ := q2
              have q3 := HZ.out W hW
              obtain ⟨y0, y1, y2, _⟩ := q3
              go_simp
              all_goals (try omega)
            clear hK K
            simp only [Act.put, List.setIfInBounds_toArray, List.set_cons_succ, List.set_cons_zero]
            refine wpQuiet_step (fun K hK => ?_)
            rw [if_pos (by rfl)]
            refine ⟨.slice (some ⟨b, o, none⟩) L.length cap, fun W hW => quiet_ok ?_, hK _ ?_⟩
            · have q := HX.out W hW
              obtain ⟨m0, m1, m2, _⟩ := q
              have q2 := HY.out W hW
              obtain ⟨z0, z1, z2, _⟩ := q2
              have q3 := HZ.out W hW
              obtain ⟨y0, y1, y2, _⟩ := q3
              go_simp
              all_goals (try omega)
            clear hK K
            simp only [Act.put, List.setIfInBounds_toArray, List.set_cons_succ, List.set_cons_zero]
            refine wpQuiet_step (fun K hK => ?_)
            rw [if_pos (by rfl)]
            refine ⟨.int .i64 (L.length : Int), fun W hW => quiet_ok ?_, hK _ ?_⟩
            · have q := HX.out W hW
              obtain ⟨m0, m1, m2, _⟩ := q
              have q2 := HY.out W hW
              obtain ⟨z0, z1, z2, _⟩ := q2
              have q3 := HZ.out W hW
              obtain ⟨y0, y1, y2, _⟩ := q3
              go_simp
              all_goals (try omega)
            clear hK K
            simp only [Act.put, List.setIfInBounds_toArray, List.set_cons_succ, List.set_cons_zero]
            refine wpQuiet_step (fun K hK => ?_)
            rw [if_pos (by rfl)]
            refine ⟨.int .i64 (m : Int), fun W hW => quiet_ok ?_, hK _ ?_⟩
            · have q := HX.out W hW
              obtain ⟨m0, m1, m2, _⟩ := q
              have q2 := HY.out W hW
              obtain ⟨z0, z1, z2, _⟩ := q2
              have q3 := HZ.out W hW
              obtain ⟨y0, y1, y2, _⟩ := q3
              go_simp
              all_goals (try omega)
            clear hK K
            simp only [Act.put, List.setIfInBounds_toArray, List.set_cons_succ, List.set_cons_zero]
            refine wpQuiet_step (fun K hK => ?_)
            rw [if_pos (by rfl)]
            refine ⟨.pointer (some ⟨b, o + m * 3, none⟩), fun W hW => quiet_ok ?_, hK _ ?_⟩
            · have q := HX.out W hW
              obtain ⟨m0, m1, m2, _⟩ := q
              have q2 := HY.out W hW
              obtain ⟨z0, z1, z2, _⟩ := q2
              have q3 := HZ.out W hW
              obtain ⟨y0, y1, y2, _⟩ := q3
              go_simp
              all_goals (try omega)
            clear hK K
            simp only [Act.put, List.setIfInBounds_toArray, List.set_cons_succ, List.set_cons_zero]
            refine wpQuiet_step (fun K hK => ?_)
            rw [if_pos (by rfl)]
            refine ⟨.pointer (some ⟨b, o + m * 3, none⟩), fun W hW => quiet_ok ?_, hK _ ?_⟩
            · have q := HX.out W hW
              obtain ⟨m0, m1, m2, _⟩ := q
              have q2 := HY.out W hW
              obtain ⟨z0, z1, z2, _⟩ := q2
              have q3 := HZ.out W hW
              obtain ⟨y0, y1, y2, _⟩ := q3
              go_simp
              all_goals (try omega)
            clear hK K
            simp only [Act.put, List.setIfInBounds_toArray, List.set_cons_succ, List.set_cons_zero]
            refine wpQuiet_step (fun K hK => ?_)
            rw [if_pos (by rfl)]
            refine ⟨.string ⟨z.1.toArray⟩, fun W hW => quiet_ok ?_, hK _ ?_⟩
            · have q := HX.out W hW
              obtain ⟨m0, m1, m2, _⟩ := q
              have q2 := HY.out W hW
              obtain ⟨z0, z1, z2, _⟩ := q2
              have q3 := HZ.out W hW
              obtain ⟨y0, y1, y2, _⟩ := q3
              go_simp
              all_goals (try omega)
            clear hK K
            simp only [Act.put, List.setIfInBounds_toArray, List.set_cons_succ, List.set_cons_zero]
            refine wpQuiet_step (fun K hK => ?_)
            rw [if_pos (by rfl)]
            refine ⟨.bool false, fun W hW => quiet_ok ?_, hK _ ?_⟩
            · have q := HX.out W hW
              obtain ⟨m0, m1, m2, _⟩ := q
              have q2 := HY.out W hW
              obtain ⟨z0, z1, z2, _⟩ := q2
              have q3 := HZ.out W hW
              obtain ⟨y0, y1, y2, _⟩ := q3
              go_simp
              all_goals (try omega)
            clear hK K
            simp only [Act.put, List.setIfInBounds_toArray, List.set_cons_succ, List.set_cons_zero]
            refine wpQuiet_step (fun K hK => ?_)
            rw [if_pos (by rfl)]
            refine ⟨.bool false, fun W hW => quiet_ok ?_, hK _ ?_⟩
            · have q := HX.out W hW
              obtain ⟨m0, m1, m2, _⟩ := q
              have q2 := HY.out W hW
              obtain ⟨z0, z1, z2, _⟩ := q2
              have q3 := HZ.out W hW
              obtain ⟨y0, y1, y2, _⟩ := q3
              go_simp
              all_goals (try omega)
            clear hK K
            simp only [Act.put, List.setIfInBounds_toArray, List.set_cons_succ, List.set_cons_zero]
            refine wpQuiet_step (fun K hK => ?_)
            rw [if_pos (by rfl)]
            refine ⟨.bool false, fun W hW => quiet_ok ?_, hK _ ?_⟩
            · have q := HX.out W hW
              obtain ⟨m0, m1, m2, _⟩ := q
              have q2 := HY.out W hW
              obtain ⟨z0, z1, z2, _⟩ := q2
              have q3 := HZ.out W hW
              obtain ⟨y0, y1, y2, _⟩ := q3
              go_simp
              all_goals (try omega)
            clear hK K
            simp only [Act.put, List.setIfInBounds_toArray, List.set_cons_succ, List.set_cons_zero]
            refine wpQuiet_step (fun K hK => ?_)
            rw [if_pos (by rfl)]
            refine ⟨.pointer (some ⟨gx, 2, none⟩), fun W hW => quiet_ok ?_, hK _ ?_⟩
            · have q := HX.out W hW
              obtain ⟨m0, m1, m2, _⟩ := q
              have q2 := HY.out W hW
              obtain ⟨z0, z1, z2, _⟩ := q2
              have q3 := HZ.out W hW
              obtain ⟨y0, y1, y2, _⟩ := q3
              go_simp
              all_goals (try omega)
            clear hK K
            simp only [Act.put, List.setIfInBounds_toArray, List.set_cons_succ, List.set_cons_zero]
            refine wpQuiet_step (fun K hK => ?_)
            rw [if_pos (by rfl)]
            refine ⟨.slice aa x.2.2.length ca, fun W hW => quiet_ok ?_, hK _ ?_⟩
            · have q := HX.out W hW
              obtain ⟨m0, m1, m2, _⟩ := q
              have q2 := HY.out W hW
              obtain ⟨z0, z1, z2, _⟩ := q2
              have q3 := HZ.out W hW
              obtain ⟨y0, y1, y2, _⟩ := q3
              go_simp
              all_goals (try omega)
            clear hK K
            simp only [Act.put, List.setIfInBounds_toArray, List.set_cons_succ, List.set_cons_zero]
            refine wpQuiet_step (fun K hK => ?_)
            rw [if_pos (by rfl)]
            refine ⟨.int .i64 (x.2.2.length : Int), fun W hW => quiet_ok ?_, hK _ ?_⟩
            · have q := HX.out W hW
              obtain ⟨m0, m1, m2, _⟩ := q
              have q2 := HY.out W hW
              obtain ⟨z0, z1, z2, _⟩ := q2
              have q3 := HZ.out W hW
              obtain ⟨y0, y1, y2, _⟩ := q3
              go_simp
              all_goals (try omega)
            clear hK K
            simp only [Act.put, List.setIfInBounds_toArray, List.set_cons_succ, List.set_cons_zero]
            refine wpQuiet_step (fun K hK => ?_)
            rw [if_pos (by rfl)]
            refine ⟨.bool false, fun W hW => quiet_ok ?_, hK _ ?_⟩
            · have q := HX.out W hW
              obtain ⟨m0, m1, m2, _⟩ := q
              have q2 := HY.out W hW
              obtain ⟨z0, z1, z2, _⟩ := q2
              have q3 := HZ.out W hW
              obtain ⟨y0, y1, y2, _⟩ := q3
              go_simp
              all_goals (try omega)
            clear hK K
            simp only [Act.put, List.setIfInBounds_toArray, List.set_cons_succ, List.set_cons_zero]
            refine wpQuiet_step (fun K hK => ?_)
            rw [if_pos (by rfl)]
            refine ⟨.bool false, fun W hW => quiet_ok ?_, hK _ ?_⟩
            · have q := HX.out W hW
              obtain ⟨m0, m1, m2, _⟩ := q
              have q2 := HY.out W hW
              obtain ⟨z0, z1, z2, _⟩ := q2
              have q3 := HZ.out W hW
              obtain ⟨y0, y1, y2, _⟩ := q3
              go_simp
              all_goals (try omega)
            clear hK K
            simp only [Act.put, List.setIfInBounds_toArray, List.set_cons_succ, List.set_cons_zero]
            refine wpQuiet_nil ?_
            intro W hW
            have hbW := HBW.out W hW
            -- the round's inner loop over the types
            clear HN HLB hbd
            obtain ⟨b2, o2, ha2, hbl2, hc2⟩ := HROW2.out (by omega)
            subst ha2
            have HCT : Hid (∀ W, Below W0.heap.size W0 W → ∀ i, (hi : i < x.2.2.length) → W.cell? ⟨b2, o2 + i, none⟩ = some (.int .i64 x.2.2[i])) := fun W hW i hi => by
              rw [(HX.out W hW).2.2.2.cell (p := ⟨b2, o2 + i, none⟩) hbl2]; exact hc2 i hi
            have HGW : Hid (Below W0.heap.size W0 W) := hW
            obtain ⟨q0, q1, q2, _⟩ := HX.out W hW
            clear hc2 hbl2 hW HROW2 hbW
            go_wp2_with fail
            clear q0 q1 q2
            go_loopw [83] (fun i w3 => ∃ n : Nat, n ≤ x.2.2.length ∧ i = .int .i64 (n : Int) ∧ Hid (∀ i, i < n → tyB x.2.2 i = true) ∧ Below W0.heap.size W0 w3) (fun i _ => x.2.2.length - (intOf i).toNat)
            case atStart => exact ⟨0, Nat.zero_le _, rfl, fun j h => absurd h (Nat.not_lt_zero _), HGW.out⟩
            case round =>
              obtain ⟨n, hn, rfl, HTA, hb3⟩ := hrel
              have hbW3 := HBW.out _ hb3
              obtain ⟨q0, q1, q2, _⟩ := HX.out _ hb3
              by_cases hlt3 : n < x.2.2.length
              · have hcx := HCT.out _ hb3 n hlt3
                have HBAD3 : Hid (tyB x.2.2 n = false → r = false) := fun h => HBT.out (types_bad n hlt3 h)
                have hni : (n : Int) < (x.2.2.length : Int) := by omega
                rcases Nat.eq_zero_or_pos n with hn0 | hn0
                · have HT0 : Hid (tyB x.2.2 n = typB (x.2.2[n]'hlt3)) := by subst hn0; exact ty_zero hlt3
                  obtain ⟨t, ht⟩ : ∃ t, t = x.2.2[n]'hlt3 := ⟨_, rfl⟩
                  rw [← ht] at HT0 hcx
                  have HI : Hid (∀ W, Calls Tryd.prog 22 #[.int .i64 t] W fun e w' => e = .returned (.bool (typB t)) ∧ Below W.heap.size W w') := fun W => l3Type_any t W
                  have hn0i : ¬ (0 : Int) < (n : Int) := by omega
                  clear ht hn0
                  cases htt : typB t with
                  | false =>
                    have HF : Hid (r = false) := HBAD3.out (HT0.out.trans htt)
                    rw [htt] at HI
                    clear HBAD3 HT0 htt
                    go_wp2_with fail
                    refine (HI.out _).mono ?_
                    rintro e w4 ⟨rfl, hb4⟩
                    have hbW4 := HBW.out _ (hb3.trans (hb4.mono hb3.size))
                    go_wp2_with fail
                    go_ret
                    exact ⟨ret_bool HF.out.symm, hbW4⟩
                  | true =>
                    have HU3 : Hid (∀ j, j < n + 1 → tyB x.2.2 j = true) := all_up HTA.out (HT0.out.trans htt)
                    rw [htt] at HI
                    clear HBAD3 HT0 htt
                    go_wp2_with fail
                    refine (HI.out _).mono ?_
                    rintro e w4 ⟨rfl, hb4⟩
                    have hb34 := hb3.trans (hb4.mono hb3.size)
                    go_wp2_with fail
                    go_roundw
                    case rel => exact ⟨n + 1, by omega, by go_num, HU3, hb34⟩
                    case measure => simp [intOf]; omega
                · obtain ⟨i, hi⟩ : ∃ i, n = i + 1 := ⟨n - 1, by omega⟩
                  have HT0 : Hid (tyB x.2.2 n = (typB (x.2.2[n]'hlt3) && decide ((x.2.2[i]'(by omega)) < x.2.2[n]'hlt3))) := by subst hi; exact ty_succ i hlt3
                  obtain ⟨t, ht⟩ : ∃ t, t = x.2.2[n]'hlt3 := ⟨_, rfl⟩
                  obtain ⟨s, hs⟩ : ∃ s, s = x.2.2[i]'(by omega) := ⟨_, rfl⟩
                  have HCI : Hid (∀ W, Below W0.heap.size W0 W → W.cell? ⟨b2, o2 + i, none⟩ = some (.int .i64 s)) := fun W hW => by rw [hs]; exact HCT.out W hW i (by omega)
                  rw [← ht, ← hs] at HT0
                  rw [← ht] at hcx
                  have HI : Hid (∀ W, Calls Tryd.prog 22 #[.int .i64 t] W fun e w' => e = .returned (.bool (typB t)) ∧ Below W.heap.size W w') := fun W => l3Type_any t W
                  have hn0i : (0 : Int) < (n : Int) := by omega
                  have wn : IntKind.i64.wrap ((n : Int) - 1) = (i : Int) := by rw [wrap_small _ (by omega) (by omega)]; omega
                  have wn2 : (n : Int) - 1 = (i : Int) := by omega
                  have hii : (i : Int) < (x.2.2.length : Int) := by omega
                  clear ht hs hn0 hi
                  cases htt : typB t with
                  | false =>
                    have HF : Hid (r = false) := HBAD3.out (HT0.out.trans (by rw [htt]; rfl))
                    rw [htt] at HI
                    clear HBAD3 HT0 htt
                    go_wp2_with fail
                    refine (HI.out _).mono ?_
                    rintro e w4 ⟨rfl, hb4⟩
                    have hbW4 := HBW.out _ (hb3.trans (hb4.mono hb3.size))
                    go_wp2_with fail
                    go_ret
                    exact ⟨ret_bool HF.out.symm, hbW4⟩
                  | true =>
                    rw [htt] at HI
                    by_cases hst : s < t
                    · have HU3 : Hid (∀ j, j < n + 1 → tyB x.2.2 j = true) := all_up HTA.out (HT0.out.trans (by rw [htt, decide_eq_true hst]; rfl))
                      clear HBAD3 HT0 htt
                      go_wp2_with fail
                      refine (HI.out _).mono ?_
                      rintro e w4 ⟨rfl, hb4⟩
                      have hb34 := hb3.trans (hb4.mono hb3.size)
                      have hcs := HCI.out _ hb34
                      clear q0 q1 q2
                      obtain ⟨q0, q1, q2, _⟩ := HX.out _ hb34
                      go_wp2_with fail
                      go_roundw
                      case rel => exact ⟨n + 1, by omega, by go_num, HU3, hb34⟩
                      case measure => simp [intOf]; omega
                    · have HF : Hid (r = false) := HBAD3.out (HT0.out.trans (by rw [htt, decide_eq_false hst]; rfl))
                      clear HBAD3 HT0 htt
                      go_wp2_with fail
                      refine (HI.out _).mono ?_
                      rintro e w4 ⟨rfl, hb4⟩
                      have hb34 := hb3.trans (hb4.mono hb3.size)
                      have hbW4 := HBW.out _ hb34
                      have hcs := HCI.out _ hb34
                      clear q0 q1 q2
                      obtain ⟨q0, q1, q2, _⟩ := HX.out _ hb34
                      go_wp2_with fail
                      go_ret
                      exact ⟨ret_bool HF.out.symm, hbW4⟩
              · have HU : Hid (∀ j, j < k + 1 → gsB ap L j = true) := HUP.out (types_all (fun j hj => HTA.out j (by omega)))
                go_wp2_with fail
                go_roundw
                case rel => exact ⟨k + 1, by omega, by go_num, HU, hbW3⟩
                case measure => simp [intOf]; omega
    · have HF : Hid (r = true) := HALL.out (fun j hj => HA.out j (by omega))
      go_wp2_with fail
      go_ret
      exact ⟨ret_bool HF.out.symm, hb⟩
end Go.Proofs.YtlmgipmolaeclaaDoor
