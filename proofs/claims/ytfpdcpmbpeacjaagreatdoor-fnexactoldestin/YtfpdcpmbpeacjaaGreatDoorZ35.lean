import Derived.Test.YtfpdcpmbpeacjaaGreatDoorZ34
import Derived.Test.YtfpdcpmbpeacjaaGreatDoorZ30
import Derived.Test.YtfpdcpmbpeacjaaGreatDoorZ19
namespace Go.Proofs.YtfpdcpmbpeacjaaGreatDoor
open Go.RowKit

theorem ent_split (now : Int) (nm : List UInt8) (ty : Int) (no : Bool) (R : List (List UInt8 × Int × Int × List UInt8)) (un us : Int) :
    entB now (nm, ty, no, R, un, us) = (((decide (now + 1 ≤ un) && decide (un ≤ now + 100000)) && (decide (1 ≤ us) && decide (us ≤ now))) && ((nameB nm && typB ty) && tellB (nm, ty, no, R, un, us))) := rfl

set_option maxRecDepth 20000 in
set_option maxHeartbeats 4000000 in
theorem isEntry_any (now : Int) (nm : List UInt8) (ty : Int) (no : Bool) (v : Value) (R : List (List UInt8 × Int × Int × List UInt8)) (un us : Int) (w : World) (hn : 1 ≤ now ∧ now ≤ 1000000000) (hr : RRow w v R) (hx : Hid (∀ x ∈ R, x.1.length ≤ 1048576 ∧ x.2.2.2.length ≤ 1048576)) (hE : EnvR w) :
    Calls Tryz.prog 19 #[.int .i64 now, .agg #[.string ⟨nm.toArray⟩, .int .i64 ty, .bool no, v, .int .i64 un, .int .i64 us]] w fun e w' => e = .returned (.bool (entB now (nm, ty, no, R, un, us))) ∧ Below w.heap.size w w' := by
  have HTE : Hid (∀ W, Below w.heap.size w W → Calls Tryz.prog 33 #[.agg #[.string ⟨nm.toArray⟩, .int .i64 ty, .bool no, v, .int .i64 un, .int .i64 us]] W fun e w' => e = .returned (.bool (tellB (nm, ty, no, R, un, us))) ∧ Below W.heap.size W w') := fun W hW => tellsOne_any nm ty no v R un us W (hr.kept hW) hx (hE.below hW)
  obtain ⟨aa, ca, rfl, _⟩ := hr
  have HOE : Hid (∀ W, Calls Tryz.prog 31 #[.agg #[.string ⟨nm.toArray⟩, .int .i64 ty, .bool no, .slice aa R.length ca, .int .i64 un, .int .i64 us]] W fun e w' => e = .returned (.agg #[.string ⟨nm.toArray⟩, .int .i64 ty]) ∧ Below W.heap.size W w') := fun W => ownerOfEntry_any ⟨nm.toArray⟩ ty no aa R.length ca un us W
  have HOG : Hid (∀ W, Below w.heap.size w W → Calls Tryz.prog 32 #[.agg #[.string ⟨nm.toArray⟩, .int .i64 ty]] W fun e w' => e = .returned (.bool (nameB nm && typB ty)) ∧ Below W.heap.size W w') := fun W hW => ownerGood_any ⟨nm.toArray⟩ ty W (hE.below hW)
  have HR : Hid (entB now (nm, ty, no, R, un, us) = (((decide (now + 1 ≤ un) && decide (un ≤ now + 100000)) && (decide (1 ≤ us) && decide (us ≤ now))) && ((nameB nm && typB ty) && tellB (nm, ty, no, R, un, us)))) := ent_split now nm ty no R un us
  have wn2 : IntKind.i64.wrap (now + 100000) = now + 100000 := wrap_small _ (by omega) (by omega)
  obtain ⟨r, hr⟩ : ∃ r, r = entB now (nm, ty, no, R, un, us) := ⟨_, rfl⟩
  rw [← hr] at HR ⊢
  obtain ⟨W0, hW0⟩ : ∃ W0, W0 = w.alloc (.cells #[.string ⟨nm.toArray⟩, .int .i64 ty, .bool no, .slice aa R.length ca, .int .i64 un, .int .i64 us] 39) := ⟨_, rfl⟩
  have HW0 : Hid (w.alloc (.cells #[.string ⟨nm.toArray⟩, .int .i64 ty, .bool no, .slice aa R.length ca, .int .i64 un, .int .i64 us] 39) = W0) := hW0.symm
  obtain ⟨gx, hgx⟩ : ∃ gx, gx = w.heap.size := ⟨_, rfl⟩
  have HGX : Hid (w.heap.size = gx) := hgx.symm
  have HX : Hid (∀ W, Below W0.heap.size W0 W → (W.cell? ⟨gx, 0, none⟩ = some (.string ⟨nm.toArray⟩) ∧ W.cell? ⟨gx, 1, none⟩ = some (.int .i64 ty) ∧ W.cell? ⟨gx, 2, none⟩ = some (.bool no) ∧ W.cell? ⟨gx, 3, none⟩ = some (.slice aa R.length ca) ∧ W.cell? ⟨gx, 4, none⟩ = some (.int .i64 un) ∧ W.cell? ⟨gx, 5, none⟩ = some (.int .i64 us)) ∧ Below w.heap.size w W) := fun W hW => by rw [hW0] at hW; rw [hgx]; exact box6c hW
  have hbz : Below W0.heap.size W0 W0 := Below.refl _ _
  clear hr hE hW0 hgx
  by_cases g1 : un ≤ now
  · have HF : Hid (r = false) := HR.out.trans (by rw [decide_eq_false (show ¬ now + 1 ≤ un by omega)]; rfl)
    clear HR
    go_enter Tryz.func19, Tryz.ntmps19
    go_wp2_with fail
    rw [HW0.out]
    go_ret
    exact ⟨ret_bool HF.out.symm, (HX.out _ hbz).2⟩
  by_cases g2 : now + 100000 < un
  · have HF : Hid (r = false) := HR.out.trans (by rw [decide_eq_false (show ¬ un ≤ now + 100000 by omega)]; simp)
    clear HR
    go_enter Tryz.func19, Tryz.ntmps19
    go_wp2_with fail
    rw [HW0.out]
    go_ret
    exact ⟨ret_bool HF.out.symm, (HX.out _ hbz).2⟩
  by_cases g3 : us < 1
  · have HF : Hid (r = false) := HR.out.trans (by rw [decide_eq_false (show ¬ 1 ≤ us by omega)]; simp)
    clear HR
    go_enter Tryz.func19, Tryz.ntmps19
    go_wp2_with fail
    rw [HW0.out]
    go_ret
    exact ⟨ret_bool HF.out.symm, (HX.out _ hbz).2⟩
  by_cases g4 : now < us
  · have HF : Hid (r = false) := HR.out.trans (by rw [decide_eq_false (show ¬ us ≤ now by omega)]; simp)
    clear HR
    go_enter Tryz.func19, Tryz.ntmps19
    go_wp2_with fail
    rw [HW0.out]
    go_ret
    exact ⟨ret_bool HF.out.symm, (HX.out _ hbz).2⟩
  have HR2 : Hid (r = ((nameB nm && typB ty) && tellB (nm, ty, no, R, un, us))) := HR.out.trans (by rw [decide_eq_true (show now + 1 ≤ un by omega), decide_eq_true (show un ≤ now + 100000 by omega), decide_eq_true (show 1 ≤ us by omega), decide_eq_true (show us ≤ now by omega)]; rfl)
  clear HR
  obtain ⟨q1, hq1⟩ : ∃ q, q = (nameB nm && typB ty) := ⟨_, rfl⟩
  obtain ⟨q2, hq2⟩ : ∃ q, q = tellB (nm, ty, no, R, un, us) := ⟨_, rfl⟩
  rw [← hq1] at HOG HR2
  rw [← hq2] at HTE HR2
  clear hq1 hq2
  go_enter Tryz.func19, Tryz.ntmps19
  go_wp2_with fail
  rw [HW0.out, HGX.out]
  refine (HOE.out _).mono ?_
  rintro e w1 ⟨rfl, hb1⟩
  have hbw1 := (HX.out _ hb1).2
  go_wp2_with fail
  refine (HOG.out _ hbw1).mono ?_
  rintro e w2 ⟨rfl, hb2⟩
  have hb02 : Below W0.heap.size W0 w2 := hb1.trans (hb2.mono hb1.size)
  obtain ⟨⟨m0, m1, m2, m3, m4, m5⟩, hbw2⟩ := HX.out _ hb02
  clear hb1 hb2 hbw1
  cases q1 with
  | false =>
    have HF : Hid (r = false) := HR2.out
    clear HR2
    go_wp2_with fail
    go_ret
    exact ⟨ret_bool HF.out.symm, hbw2⟩
  | true =>
    have HF : Hid (r = q2) := HR2.out.trans (by simp)
    clear HR2
    go_wp2_with fail
    refine (HTE.out _ hbw2).mono ?_
    rintro e w3 ⟨rfl, hb3⟩
    have hbw3 := hbw2.trans (hb3.mono hbw2.size)
    clear m0 m1 m2 m3 m4 m5
    go_wp2_with fail
    go_ret
    exact ⟨ret_bool HF.out.symm, hbw3⟩

theorem step_here {now : Int} {L : List EntT} {k : Nat} (hk : k < L.length) : stepE now L k = (entB now L[k] && (k == 0 || lessE (eO L (k - 1)) L[k])) := by unfold stepE; rw [eO_at hk]
theorem all_next {n : Nat} {p : Nat → Bool} (h : ∀ j, j < n → p j = true) (hn : p n = true) : ∀ j, j < n + 1 → p j = true := fun j hj => by
  rcases Nat.lt_or_ge j n with h' | h'
  · exact h j h'
  · obtain rfl : j = n := by omega
    exact hn

set_option maxRecDepth 20000 in
set_option maxHeartbeats 16000000 in
theorem iGoodCache_any (now : Int) (v : Value) (L : List EntT) (w : World) (hr : ERow w v L) (hx : Hid (∀ x ∈ L, EBig x)) (hE : EnvR w) :
    Calls Tryz.prog 8 #[CchV now v] w fun e w' => e = .returned (.bool (goodC now L)) ∧ Below w.heap.size w w' := by
  unfold CchV
  obtain ⟨a, cap, rfl, hcap, hmax, HROW⟩ := erow_value hr
  clear hr
  obtain ⟨r, hrr⟩ : ∃ r, r = goodC now L := ⟨_, rfl⟩
  have HRR : Hid (r = goodC now L) := hrr
  rw [← hrr]
  clear hrr
  obtain ⟨WB, hWB⟩ : ∃ W, W = w.alloc (.cells #[.int .i64 now, .slice a L.length cap] 29) := ⟨_, rfl⟩
  have HWB : Hid (w.alloc (.cells #[.int .i64 now, .slice a L.length cap] 29) = WB) := hWB.symm
  have HCB : Hid (∀ W, Below WB.heap.size WB W → (W.cell? ⟨w.heap.size, 0, none⟩ = some (.int .i64 now) ∧ W.cell? ⟨w.heap.size, 1, none⟩ = some (.slice a L.length cap)) ∧ Below w.heap.size w W) := fun W hW => by rw [hWB] at hW; exact box2c hW
  have hbz : Below WB.heap.size WB WB := Below.refl _ _
  clear hWB
  by_cases g1 : now < 1
  · have HF : Hid (r = false) := HRR.out.trans (goodC_now (by omega))
    go_enter Tryz.func8, Tryz.ntmps8
    go_wp2_with fail
    rw [HWB.out]
    go_ret
    exact ⟨ret_bool HF.out.symm, (HCB.out _ hbz).2⟩
  by_cases g2 : 1000000000 < now
  · have HF : Hid (r = false) := HRR.out.trans (goodC_now (by omega))
    go_enter Tryz.func8, Tryz.ntmps8
    go_wp2_with fail
    rw [HWB.out]
    go_ret
    exact ⟨ret_bool HF.out.symm, (HCB.out _ hbz).2⟩
  by_cases gl : L.length ≤ 20
  case neg =>
    have HF : Hid (r = false) := HRR.out.trans (goodC_many gl)
    have gli : (20 : Int) < (L.length : Int) := by omega
    clear gl
    go_enter Tryz.func8, Tryz.ntmps8
    go_wp2_with fail
    rw [HWB.out]
    go_ret
    exact ⟨ret_bool HF.out.symm, (HCB.out _ hbz).2⟩
  have gli : ¬ (20 : Int) < (L.length : Int) := by omega
  have hnow : 1 ≤ now ∧ now ≤ 1000000000 := by omega
  have HALL : Hid ((∀ j, j < L.length → stepE now L j = true) → r = true) := fun h => HRR.out.trans (goodC_all hnow gl h)
  have HBADA : Hid (∀ k, k < L.length → stepE now L k = false → r = false) := fun k hk h => HRR.out.trans (goodC_bad k hk h)
  have HNOW : Hid (1 ≤ now ∧ now ≤ 1000000000) := hnow
  clear HRR hnow
  go_enter Tryz.func8, Tryz.ntmps8
  go_wp2_with fail
  rw [HWB.out]
  go_loopw [22] (fun i wr => ∃ k : Nat, k ≤ L.length ∧ i = .int .i64 (k : Int) ∧ Hid (∀ j, j < k → stepE now L j = true) ∧ Below WB.heap.size WB wr) (fun i _ => L.length - (intOf i).toNat)
  case atStart => exact ⟨0, Nat.zero_le _, rfl, fun j h => absurd h (Nat.not_lt_zero _), Below.refl _ _⟩
  case round =>
    obtain ⟨k, hk, rfl, HA, hbB⟩ := hrel
    have hb : Below w.heap.size w wr := (HCB.out wr hbB).2
    by_cases hlt : k < L.length
    · obtain ⟨b, o, ha, hbl, hcel⟩ := HROW.out (by omega)
      subst ha
      obtain ⟨va, hcx0⟩ := hcel k hlt
      have hcx := hcx0.kept hb
      have hxl := hx.out _ (List.getElem_mem hlt)
      have HG : Hid (stepE now L k = (entB now (L[k]'hlt) && (k == 0 || lessE (eO L (k - 1)) (L[k]'hlt)))) := step_here hlt
      have HBAD : Hid (stepE now L k = false → r = false) := HBADA.out k hlt
      have HUPA : Hid (stepE now L k = true → ∀ j, j < k + 1 → stepE now L j = true) := fun h => all_next HA.out h
      have HPREV : Hid (∀ j, (hj : k = j + 1) → ∃ y vb, eO L (k - 1) = y ∧ nameB y.1 = true ∧ (∃ a n c, vb = .slice a n c) ∧ ∀ W, Below w.heap.size w W → EntAt W b (o + j * 6) y vb) := fun j hj => by
        obtain ⟨vb, h⟩ := hcel j (by omega)
        have h1 := HA.out j (by omega)
        rw [step_here (show j < L.length by omega)] at h1
        simp only [Bool.and_eq_true] at h1
        obtain ⟨a1, c1, e1, _⟩ := id h.2
        exact ⟨_, vb, by rw [show k - 1 = j by omega, eO_at (show j < L.length by omega)], ent_name h1.1, ⟨a1, _, c1, e1⟩, fun W hW => h.kept hW⟩
      obtain ⟨x, hxe⟩ : ∃ x, x = L[k]'hlt := ⟨_, rfl⟩
      rw [← hxe] at HG hcx hxl
      clear hxe hcx0 hcel HBADA
      obtain ⟨nm, ty, no, R, un, us⟩ := x
      have hz : RRow wr va R := hcx.2
      unfold EntAt at hcx
      obtain ⟨⟨c0, c1, c2, c3, c4, c5⟩, _⟩ := hcx
      obtain ⟨aa, ca, rfl, hca1, hca, _⟩ := id hz
      obtain ⟨W0, hW0⟩ : ∃ W0, W0 = wr.alloc (.cells #[.string ⟨nm.toArray⟩, .int .i64 ty, .bool no, .slice aa R.length ca, .int .i64 un, .int .i64 us] 39) := ⟨_, rfl⟩
      have HW0 : Hid (wr.alloc (.cells #[.string ⟨nm.toArray⟩, .int .i64 ty, .bool no, .slice aa R.length ca, .int .i64 un, .int .i64 us] 39) = W0) := hW0.symm
      obtain ⟨gx, hgx⟩ : ∃ gx, gx = wr.heap.size := ⟨_, rfl⟩
      have HGX : Hid (wr.heap.size = gx) := hgx.symm
      have HTR : Hid (∀ W W', Below W0.heap.size W0 W → Below W.heap.size W W' → Below W0.heap.size W0 W') := fun W W' h1 h2 => h1.trans (h2.mono h1.size)
      have HX : Hid (∀ W, Below W0.heap.size W0 W → (W.cell? ⟨gx, 0, none⟩ = some (.string ⟨nm.toArray⟩) ∧ W.cell? ⟨gx, 1, none⟩ = some (.int .i64 ty) ∧ W.cell? ⟨gx, 2, none⟩ = some (.bool no) ∧ W.cell? ⟨gx, 3, none⟩ = some (.slice aa R.length ca) ∧ W.cell? ⟨gx, 4, none⟩ = some (.int .i64 un) ∧ W.cell? ⟨gx, 5, none⟩ = some (.int .i64 us)) ∧ Below wr.heap.size wr W) := fun W hW => by rw [hW0] at hW; rw [hgx]; exact box6c hW
      have HIB : Hid (∀ W, Below W0.heap.size W0 W → Below WB.heap.size WB W) := fun W hW => hbB.trans ((HX.out W hW).2.mono hbB.size)
      have HBW : Hid (∀ W, Below W0.heap.size W0 W → Below w.heap.size w W) := fun W hW => (HCB.out W (HIB.out W hW)).2
      have HCX : Hid (∀ W, Below W0.heap.size W0 W → W.cell? ⟨w.heap.size, 0, none⟩ = some (.int .i64 now) ∧ W.cell? ⟨w.heap.size, 1, none⟩ = some (.slice (some ⟨b, o, none⟩) L.length cap)) := fun W hW => (HCB.out W (HIB.out W hW)).1
      have HEN : Hid (∀ W, Below W0.heap.size W0 W → Calls Tryz.prog 19 #[.int .i64 now, .agg #[.string ⟨nm.toArray⟩, .int .i64 ty, .bool no, .slice aa R.length ca, .int .i64 un, .int .i64 us]] W fun e w' => e = .returned (.bool (entB now (nm, ty, no, R, un, us))) ∧ Below W.heap.size W w') := fun W hW => isEntry_any now nm ty no _ R un us W HNOW.out (hz.kept (HX.out W hW).2) hxl.2.2 (hE.below (HBW.out W hW))
      have hbd : Below W0.heap.size W0 W0.drew := (Below.refl _ _).drew
      have hlk : (k : Int) < (L.length : Int) := by omega
      have HNX : Hid (entB now (nm, ty, no, R, un, us) = true → nameB nm = true) := fun h => ent_name h
      clear hW0 hgx hz hxl
      cases h1 : entB now (nm, ty, no, R, un, us) with
      | false =>
        have HF : Hid (r = false) := HBAD.out (HG.out.trans (by rw [h1]; rfl))
        rw [h1] at HEN
        clear HBAD HG h1 HUPA HPREV HNX
        obtain ⟨u32, hu32⟩ : ∃ u : Bool, u = true := ⟨_, rfl⟩
        have HU32 : Hid (u32 = true) := hu32
        clear hu32
        go_wp2_with fail
        rw [HW0.out, HGX.out]
        refine wp_region_quiet (C := fun W => Below W0.heap.size W0 W) (by kernel_rfl) (by kernel_rfl) hbd ?_
        refine wpQuiet_step (fun K hK => ?_)
        rw [if_pos (by rfl)]
        refine ⟨.pointer (some ⟨w.heap.size, 0, none⟩), fun W hW => quiet_ok ?_, hK _ ?_⟩
        · have q := HX.out W hW
          obtain ⟨⟨m0, m1, m2, m3, m4, m5⟩, _⟩ := q
          have q2 := HCX.out W hW
          obtain ⟨k0, k1⟩ := q2
          go_simp
          all_goals (try omega)
        clear hK K
        simp only [Act.put, List.setIfInBounds_toArray, List.set_cons_succ, List.set_cons_zero]
        refine wpQuiet_step (fun K hK => ?_)
        rw [if_pos (by rfl)]
        refine ⟨.int .i64 now, fun W hW => quiet_ok ?_, hK _ ?_⟩
        · have q := HX.out W hW
          obtain ⟨⟨m0, m1, m2, m3, m4, m5⟩, _⟩ := q
          have q2 := HCX.out W hW
          obtain ⟨k0, k1⟩ := q2
          go_simp
          all_goals (try omega)
        clear hK K
        simp only [Act.put, List.setIfInBounds_toArray, List.set_cons_succ, List.set_cons_zero]
        refine wpQuiet_step (fun K hK => ?_)
        rw [if_pos (by rfl)]
        refine ⟨.agg #[.string ⟨nm.toArray⟩, .int .i64 ty, .bool no, .slice aa R.length ca, .int .i64 un, .int .i64 us], fun W hW => quiet_ok ?_, hK _ ?_⟩
        · have q := HX.out W hW
          obtain ⟨⟨m0, m1, m2, m3, m4, m5⟩, _⟩ := q
          have q2 := HCX.out W hW
          obtain ⟨k0, k1⟩ := q2
          go_simp
          all_goals (try omega)
        clear hK K
        simp only [Act.put, List.setIfInBounds_toArray, List.set_cons_succ, List.set_cons_zero]
        refine wpQuiet_step (fun K hK => ?_)
        rw [if_pos (by rfl)]
        refine ⟨.bool false, fun W hW => quiet_call (f := 19) (args := #[.int .i64 now, .agg #[.string ⟨nm.toArray⟩, .int .i64 ty, .bool no, .slice aa R.length ca, .int .i64 un, .int .i64 us]]) ?_ ?_, hK _ ?_⟩
        · go_simp
        · exact (HEN.out W hW).mono fun e w'' h => ⟨h.1, HTR.out _ _ hW h.2⟩
        clear hK K
        simp only [Act.put, List.setIfInBounds_toArray, List.set_cons_succ, List.set_cons_zero]
        refine wpQuiet_step (fun K hK => ?_)
        rw [if_pos (by rfl)]
        refine ⟨.bool true, fun W hW => quiet_ok ?_, hK _ ?_⟩
        · have q := HX.out W hW
          obtain ⟨⟨m0, m1, m2, m3, m4, m5⟩, _⟩ := q
          have q2 := HCX.out W hW
          obtain ⟨k0, k1⟩ := q2
          go_simp
          all_goals (try omega)
        clear hK K
        simp only [Act.put, List.setIfInBounds_toArray, List.set_cons_succ, List.set_cons_zero]
        refine wpQuiet_step (fun K hK => ?_)
        rw [if_pos (by rfl)]
        refine ⟨.bool u32, fun W hW => quiet_ok ?_, hK _ ?_⟩
        · have q := HX.out W hW
          obtain ⟨⟨m0, m1, m2, m3, m4, m5⟩, _⟩ := q
          have q2 := HCX.out W hW
          obtain ⟨k0, k1⟩ := q2
          have v32 := HU32.out
          go_simp
          all_goals (try omega)
        clear hK K
        simp only [Act.put, List.setIfInBounds_toArray, List.set_cons_succ, List.set_cons_zero]
        refine BigFrame.wpQuiet_skip (by show (some u32 == some false) = false; rw [HU32.out]; rfl) ?_
        simp only [Act.put, List.setIfInBounds_toArray, List.set_cons_succ, List.set_cons_zero]
        refine BigFrame.wpQuiet_skip (by show (some u32 == some false) = false; rw [HU32.out]; rfl) ?_
        simp only [Act.put, List.setIfInBounds_toArray, List.set_cons_succ, List.set_cons_zero]
        refine BigFrame.wpQuiet_skip (by show (some u32 == some false) = false; rw [HU32.out]; rfl) ?_
        simp only [Act.put, List.setIfInBounds_toArray, List.set_cons_succ, List.set_cons_zero]
        generalize hund : (undef : Value) = un
        refine BigFrame.wpQuiet_skip (by rw [← hund]; rfl) ?_
        simp only [Act.put, List.setIfInBounds_toArray, List.set_cons_succ, List.set_cons_zero]
        refine BigFrame.wpQuiet_skip (by rw [← hund]; rfl) ?_
        simp only [Act.put, List.setIfInBounds_toArray, List.set_cons_succ, List.set_cons_zero]
        refine BigFrame.wpQuiet_skip (by rw [← hund]; rfl) ?_
        simp only [Act.put, List.setIfInBounds_toArray, List.set_cons_succ, List.set_cons_zero]
        refine BigFrame.wpQuiet_skip (by rw [← hund]; rfl) ?_
        simp only [Act.put, List.setIfInBounds_toArray, List.set_cons_succ, List.set_cons_zero]
        refine BigFrame.wpQuiet_skip (by rw [← hund]; rfl) ?_
        simp only [Act.put, List.setIfInBounds_toArray, List.set_cons_succ, List.set_cons_zero]
        refine BigFrame.wpQuiet_skip (by rw [← hund]; rfl) ?_
        simp only [Act.put, List.setIfInBounds_toArray, List.set_cons_succ, List.set_cons_zero]
        refine BigFrame.wpQuiet_skip (by rw [← hund]; rfl) ?_
        simp only [Act.put, List.setIfInBounds_toArray, List.set_cons_succ, List.set_cons_zero]
        refine BigFrame.wpQuiet_skip (by rw [← hund]; rfl) ?_
        simp only [Act.put, List.setIfInBounds_toArray, List.set_cons_succ, List.set_cons_zero]
        refine BigFrame.wpQuiet_skip (by rw [← hund]; rfl) ?_
        simp only [Act.put, List.setIfInBounds_toArray, List.set_cons_succ, List.set_cons_zero]
        refine BigFrame.wpQuiet_skip (by show (some u32 == some false) = false; rw [HU32.out]; rfl) ?_
        simp only [Act.put, List.setIfInBounds_toArray, List.set_cons_succ, List.set_cons_zero]
        refine wpQuiet_step (fun K hK => ?_)
        rw [if_pos (by rfl)]
        refine ⟨.bool true, fun W hW => quiet_ok ?_, hK _ ?_⟩
        · have q := HX.out W hW
          obtain ⟨⟨m0, m1, m2, m3, m4, m5⟩, _⟩ := q
          have q2 := HCX.out W hW
          obtain ⟨k0, k1⟩ := q2
          have v32 := HU32.out
          go_simp
          all_goals (try omega)
        clear hK K
        simp only [Act.put, List.setIfInBounds_toArray, List.set_cons_succ, List.set_cons_zero]
        subst hund
        refine wpQuiet_nil ?_
        intro W hW
        have hbW := HBW.out W hW
        go_wp2_with fail
        go_ret
        exact ⟨ret_bool HF.out.symm, hbW⟩
      | true =>
      rw [h1] at HEN
      have hnx := HNX.out h1
      rcases Nat.eq_zero_or_pos k with hk0 | hk0
      · have HU : Hid (∀ j, j < k + 1 → stepE now L j = true) := HUPA.out (HG.out.trans (by rw [h1, hk0]; rfl))
        have hk0i : ¬ (0 : Int) < (k : Int) := by omega
        clear HUPA HBAD HG HPREV hk0 h1 HNX hnx
        obtain ⟨u35, hu35⟩ : ∃ u : Bool, u = false := ⟨_, rfl⟩
        have HU35 : Hid (u35 = false) := hu35
        clear hu35
        go_wp2_with fail
        rw [HW0.out, HGX.out]
        refine wp_region_quiet (C := fun W => Below W0.heap.size W0 W) (by kernel_rfl) (by kernel_rfl) hbd ?_
        refine wpQuiet_step (fun K hK => ?_)
        rw [if_pos (by rfl)]
        refine ⟨.pointer (some ⟨w.heap.size, 0, none⟩), fun W hW => quiet_ok ?_, hK _ ?_⟩
        · have q := HX.out W hW
          obtain ⟨⟨m0, m1, m2, m3, m4, m5⟩, _⟩ := q
          have q2 := HCX.out W hW
          obtain ⟨k0, k1⟩ := q2
          go_simp
          all_goals (try omega)
        clear hK K
        simp only [Act.put, List.setIfInBounds_toArray, List.set_cons_succ, List.set_cons_zero]
        refine wpQuiet_step (fun K hK => ?_)
        rw [if_pos (by rfl)]
        refine ⟨.int .i64 now, fun W hW => quiet_ok ?_, hK _ ?_⟩
        · have q := HX.out W hW
          obtain ⟨⟨m0, m1, m2, m3, m4, m5⟩, _⟩ := q
          have q2 := HCX.out W hW
          obtain ⟨k0, k1⟩ := q2
          go_simp
          all_goals (try omega)
        clear hK K
        simp only [Act.put, List.setIfInBounds_toArray, List.set_cons_succ, List.set_cons_zero]
        refine wpQuiet_step (fun K hK => ?_)
        rw [if_pos (by rfl)]
        refine ⟨.agg #[.string ⟨nm.toArray⟩, .int .i64 ty, .bool no, .slice aa R.length ca, .int .i64 un, .int .i64 us], fun W hW => quiet_ok ?_, hK _ ?_⟩
        · have q := HX.out W hW
          obtain ⟨⟨m0, m1, m2, m3, m4, m5⟩, _⟩ := q
          have q2 := HCX.out W hW
          obtain ⟨k0, k1⟩ := q2
          go_simp
          all_goals (try omega)
        clear hK K
        simp only [Act.put, List.setIfInBounds_toArray, List.set_cons_succ, List.set_cons_zero]
        refine wpQuiet_step (fun K hK => ?_)
        rw [if_pos (by rfl)]
        refine ⟨.bool true, fun W hW => quiet_call (f := 19) (args := #[.int .i64 now, .agg #[.string ⟨nm.toArray⟩, .int .i64 ty, .bool no, .slice aa R.length ca, .int .i64 un, .int .i64 us]]) ?_ ?_, hK _ ?_⟩
        · go_simp
        · exact (HEN.out W hW).mono fun e w'' h => ⟨h.1, HTR.out _ _ hW h.2⟩
        clear hK K
        simp only [Act.put, List.setIfInBounds_toArray, List.set_cons_succ, List.set_cons_zero]
        refine wpQuiet_step (fun K hK => ?_)
        rw [if_pos (by rfl)]
        refine ⟨.bool false, fun W hW => quiet_ok ?_, hK _ ?_⟩
        · have q := HX.out W hW
          obtain ⟨⟨m0, m1, m2, m3, m4, m5⟩, _⟩ := q
          have q2 := HCX.out W hW
          obtain ⟨k0, k1⟩ := q2
          go_simp
          all_goals (try omega)
        clear hK K
        simp only [Act.put, List.setIfInBounds_toArray, List.set_cons_succ, List.set_cons_zero]
        refine wpQuiet_step (fun K hK => ?_)
        rw [if_pos (by rfl)]
        refine ⟨.bool false, fun W hW => quiet_ok ?_, hK _ ?_⟩
        · have q := HX.out W hW
          obtain ⟨⟨m0, m1, m2, m3, m4, m5⟩, _⟩ := q
          have q2 := HCX.out W hW
          obtain ⟨k0, k1⟩ := q2
          go_simp
          all_goals (try omega)
        clear hK K
        simp only [Act.put, List.setIfInBounds_toArray, List.set_cons_succ, List.set_cons_zero]
        refine wpQuiet_step (fun K hK => ?_)
        rw [if_pos (by rfl)]
        refine ⟨.int .i64 (k : Int), fun W hW => quiet_ok ?_, hK _ ?_⟩
        · have q := HX.out W hW
          obtain ⟨⟨m0, m1, m2, m3, m4, m5⟩, _⟩ := q
          have q2 := HCX.out W hW
          obtain ⟨k0, k1⟩ := q2
          go_simp
          all_goals (try omega)
        clear hK K
        simp only [Act.put, List.setIfInBounds_toArray, List.set_cons_succ, List.set_cons_zero]
        refine wpQuiet_step (fun K hK => ?_)
        rw [if_pos (by rfl)]
        refine ⟨.bool false, fun W hW => quiet_ok ?_, hK _ ?_⟩
        · have q := HX.out W hW
          obtain ⟨⟨m0, m1, m2, m3, m4, m5⟩, _⟩ := q
          have q2 := HCX.out W hW
          obtain ⟨k0, k1⟩ := q2
          go_simp
          all_goals (try omega)
        clear hK K
        simp only [Act.put, List.setIfInBounds_toArray, List.set_cons_succ, List.set_cons_zero]
        refine wpQuiet_step (fun K hK => ?_)
        rw [if_pos (by rfl)]
        refine ⟨.bool u35, fun W hW => quiet_ok ?_, hK _ ?_⟩
        · have q := HX.out W hW
          obtain ⟨⟨m0, m1, m2, m3, m4, m5⟩, _⟩ := q
          have q2 := HCX.out W hW
          obtain ⟨k0, k1⟩ := q2
          have v35 := HU35.out
          go_simp
          all_goals (try omega)
        clear hK K
        simp only [Act.put, List.setIfInBounds_toArray, List.set_cons_succ, List.set_cons_zero]
        refine BigFrame.wpQuiet_skip (by show (some u35 == some true) = false; rw [HU35.out]; rfl) ?_
        simp only [Act.put, List.setIfInBounds_toArray, List.set_cons_succ, List.set_cons_zero]
        refine BigFrame.wpQuiet_skip (by show (some u35 == some true) = false; rw [HU35.out]; rfl) ?_
        simp only [Act.put, List.setIfInBounds_toArray, List.set_cons_succ, List.set_cons_zero]
        refine BigFrame.wpQuiet_skip (by show (some u35 == some true) = false; rw [HU35.out]; rfl) ?_
        simp only [Act.put, List.setIfInBounds_toArray, List.set_cons_succ, List.set_cons_zero]
        refine BigFrame.wpQuiet_skip (by show (some u35 == some true) = false; rw [HU35.out]; rfl) ?_
        simp only [Act.put, List.setIfInBounds_toArray, List.set_cons_succ, List.set_cons_zero]
        refine BigFrame.wpQuiet_skip (by show (some u35 == some true) = false; rw [HU35.out]; rfl) ?_
        simp only [Act.put, List.setIfInBounds_toArray, List.set_cons_succ, List.set_cons_zero]
        refine BigFrame.wpQuiet_skip (by show (some u35 == some true) = false; rw [HU35.out]; rfl) ?_
        simp only [Act.put, List.setIfInBounds_toArray, List.set_cons_succ, List.set_cons_zero]
        refine BigFrame.wpQuiet_skip (by show (some u35 == some true) = false; rw [HU35.out]; rfl) ?_
        simp only [Act.put, List.setIfInBounds_toArray, List.set_cons_succ, List.set_cons_zero]
        refine BigFrame.wpQuiet_skip (by show (some u35 == some true) = false; rw [HU35.out]; rfl) ?_
        simp only [Act.put, List.setIfInBounds_toArray, List.set_cons_succ, List.set_cons_zero]
        refine BigFrame.wpQuiet_skip (by show (some u35 == some true) = false; rw [HU35.out]; rfl) ?_
        simp only [Act.put, List.setIfInBounds_toArray, List.set_cons_succ, List.set_cons_zero]
        refine wpQuiet_step (fun K hK => ?_)
        rw [if_pos (by rfl)]
        refine ⟨.bool false, fun W hW => quiet_ok ?_, hK _ ?_⟩
        · have q := HX.out W hW
          obtain ⟨⟨m0, m1, m2, m3, m4, m5⟩, _⟩ := q
          have q2 := HCX.out W hW
          obtain ⟨k0, k1⟩ := q2
          have v35 := HU35.out
          go_simp
          all_goals (try omega)
        clear hK K
        simp only [Act.put, List.setIfInBounds_toArray, List.set_cons_succ, List.set_cons_zero]
        refine wpQuiet_step (fun K hK => ?_)
        rw [if_pos (by rfl)]
        refine ⟨.bool false, fun W hW => quiet_ok ?_, hK _ ?_⟩
        · have q := HX.out W hW
          obtain ⟨⟨m0, m1, m2, m3, m4, m5⟩, _⟩ := q
          have q2 := HCX.out W hW
          obtain ⟨k0, k1⟩ := q2
          have v35 := HU35.out
          go_simp
          all_goals (try omega)
        clear hK K
        simp only [Act.put, List.setIfInBounds_toArray, List.set_cons_succ, List.set_cons_zero]
        refine wpQuiet_nil ?_
        intro W hW
        have hbW := HBW.out W hW
        have HIW : Hid (Below WB.heap.size WB W) := HIB.out W hW
        go_wp2_with fail
        go_roundw
        case rel => exact ⟨k + 1, by omega, by go_num, HU, HIW.out⟩
        case measure => simp [intOf]; omega
      · obtain ⟨j, hj⟩ : ∃ j, k = j + 1 := ⟨k - 1, by omega⟩
        obtain ⟨y, vb, hye, hny, hys, hyc⟩ := HPREV.out j hj
        rw [hye] at HG
        have HOR0 : Hid (∀ W, Below W0.heap.size W0 W → Calls Tryz.prog 20 #[.agg #[.string ⟨y.1.toArray⟩, .int .i64 y.2.1, .bool y.2.2.1, vb, .int .i64 y.2.2.2.2.1, .int .i64 y.2.2.2.2.2], .agg #[.string ⟨nm.toArray⟩, .int .i64 ty, .bool no, .slice aa R.length ca, .int .i64 un, .int .i64 us]] W fun e w' => e = .returned (.int .i64 (orI (cmpN y.1 nm) (Lib.compareInt y.2.1 ty))) ∧ Below W.heap.size W w') := fun W hW => orderE_any y (nm, ty, no, R, un, us) vb _ W ⟨hny, hnx⟩ hys ⟨_, _, _, rfl⟩ (hE.below (HBW.out W hW)).1
        have HLO : Hid (lessE y (nm, ty, no, R, un, us) = decide (orI (cmpN y.1 nm) (Lib.compareInt y.2.1 ty) < 0)) := less_ord
        obtain ⟨c, hc⟩ : ∃ c, c = orI (cmpN y.1 nm) (Lib.compareInt y.2.1 ty) := ⟨_, rfl⟩
        rw [← hc] at HOR0 HLO
        have HOR : Hid (∀ W, Below W0.heap.size W0 W → Calls Tryz.prog 20 #[.agg #[.string ⟨y.1.toArray⟩, .int .i64 y.2.1, .bool y.2.2.1, vb, .int .i64 y.2.2.2.2.1, .int .i64 y.2.2.2.2.2], .agg #[.string ⟨nm.toArray⟩, .int .i64 ty, .bool no, .slice aa R.length ca, .int .i64 un, .int .i64 us]] W fun e w' => e = .returned (.int .i64 c) ∧ Below W.heap.size W w') := HOR0
        have HY : Hid (∀ W, Below W0.heap.size W0 W → W.cell? ⟨b, o + j * 6, none⟩ = some (.string ⟨y.1.toArray⟩) ∧ W.cell? ⟨b, o + j * 6 + 1, none⟩ = some (.int .i64 y.2.1) ∧ W.cell? ⟨b, o + j * 6 + 2, none⟩ = some (.bool y.2.2.1) ∧ W.cell? ⟨b, o + j * 6 + 3, none⟩ = some (vb) ∧ W.cell? ⟨b, o + j * 6 + 4, none⟩ = some (.int .i64 y.2.2.2.2.1) ∧ W.cell? ⟨b, o + j * 6 + 5, none⟩ = some (.int .i64 y.2.2.2.2.2)) := fun W hW => (hyc W (HBW.out W hW)).1
        have hk0i : (0 : Int) < (k : Int) := by omega
        have wk : IntKind.i64.wrap ((k : Int) - 1) = (j : Int) := by rw [wrap_small _ (by omega) (by omega)]; omega
        have wk2 : (k : Int) - 1 = (j : Int) := by omega
        have wj : IntKind.i64.wrap (j : Int) = (j : Int) := wrap_small _ (by omega) (by omega)
        have hjl : (j : Int) < (L.length : Int) := by omega
        have HKB : Hid ((k == 0) = false) := by show _ = false; simp; omega
        clear HPREV hk0 hye hny hyc hj hc HOR0 hys hnx HNX
        by_cases h5 : 0 ≤ c
        · have HF : Hid (r = false) := HBAD.out (HG.out.trans (by rw [HKB.out, HLO.out, decide_eq_false (show ¬ c < 0 by omega)]; simp))
          clear HBAD HG h1 HUPA HKB HLO
          go_wp2_with fail
          rw [HW0.out, HGX.out]
          refine wp_region_quiet (C := fun W => Below W0.heap.size W0 W) (by kernel_rfl) (by kernel_rfl) hbd ?_
          refine wpQuiet_step (fun K hK => ?_)
          rw [if_pos (by rfl)]
          refine ⟨.pointer (some ⟨w.heap.size, 0, none⟩), fun W hW => quiet_ok ?_, hK _ ?_⟩
          · have q := HX.out W hW
            obtain ⟨⟨m0, m1, m2, m3, m4, m5⟩, _⟩ := q
            have q2 := HCX.out W hW
            obtain ⟨k0, k1⟩ := q2
            have q3 := HY.out W hW
            obtain ⟨y0, y1, y2, y3, y4, y5⟩ := q3
            go_simp
            all_goals (try omega)
          clear hK K
          simp only [Act.put, List.setIfInBounds_toArray, List.set_cons_succ, List.set_cons_zero]
          refine wpQuiet_step (fun K hK => ?_)
          rw [if_pos (by rfl)]
          refine ⟨.int .i64 now, fun W hW => quiet_ok ?_, hK _ ?_⟩
          · have q := HX.out W hW
            obtain ⟨⟨m0, m1, m2, m3, m4, m5⟩, _⟩ := q
            have q2 := HCX.out W hW
            obtain ⟨k0, k1⟩ := q2
            have q3 := HY.out W hW
            obtain ⟨y0, y1, y2, y3, y4, y5⟩ := q3
            go_simp
            all_goals (try omega)
          clear hK K
          simp only [Act.put, List.setIfInBounds_toArray, List.set_cons_succ, List.set_cons_zero]
          refine wpQuiet_step (fun K hK => ?_)
          rw [if_pos (by rfl)]
          refine ⟨.agg #[.string ⟨nm.toArray⟩, .int .i64 ty, .bool no, .slice aa R.length ca, .int .i64 un, .int .i64 us], fun W hW => quiet_ok ?_, hK _ ?_⟩
          · have q := HX.out W hW
            obtain ⟨⟨m0, m1, m2, m3, m4, m5⟩, _⟩ := q
            have q2 := HCX.out W hW
            obtain ⟨k0, k1⟩ := q2
            have q3 := HY.out W hW
            obtain ⟨y0, y1, y2, y3, y4, y5⟩ := q3
            go_simp
            all_goals (try omega)
          clear hK K
          simp only [Act.put, List.setIfInBounds_toArray, List.set_cons_succ, List.set_cons_zero]
          refine wpQuiet_step (fun K hK => ?_)
          rw [if_pos (by rfl)]
          refine ⟨.bool true, fun W hW => quiet_call (f := 19) (args := #[.int .i64 now, .agg #[.string ⟨nm.toArray⟩, .int .i64 ty, .bool no, .slice aa R.length ca, .int .i64 un, .int .i64 us]]) ?_ ?_, hK _ ?_⟩
          · go_simp
          · exact (HEN.out W hW).mono fun e w'' h => ⟨h.1, HTR.out _ _ hW h.2⟩
          clear hK K
          simp only [Act.put, List.setIfInBounds_toArray, List.set_cons_succ, List.set_cons_zero]
          refine wpQuiet_step (fun K hK => ?_)
          rw [if_pos (by rfl)]
          refine ⟨.bool false, fun W hW => quiet_ok ?_, hK _ ?_⟩
          · have q := HX.out W hW
            obtain ⟨⟨m0, m1, m2, m3, m4, m5⟩, _⟩ := q
            have q2 := HCX.out W hW
            obtain ⟨k0, k1⟩ := q2
            have q3 := HY.out W hW
            obtain ⟨y0, y1, y2, y3, y4, y5⟩ := q3
            go_simp
            all_goals (try omega)
          clear hK K
          simp only [Act.put, List.setIfInBounds_toArray, List.set_cons_succ, List.set_cons_zero]
          refine wpQuiet_step (fun K hK => ?_)
          rw [if_pos (by rfl)]
          refine ⟨.bool false, fun W hW => quiet_ok ?_, hK _ ?_⟩
          · have q := HX.out W hW
            obtain ⟨⟨m0, m1, m2, m3, m4, m5⟩, _⟩ := q
            have q2 := HCX.out W hW
            obtain ⟨k0, k1⟩ := q2
            have q3 := HY.out W hW
            obtain ⟨y0, y1, y2, y3, y4, y5⟩ := q3
            go_simp
            all_goals (try omega)
          clear hK K
          simp only [Act.put, List.setIfInBounds_toArray, List.set_cons_succ, List.set_cons_zero]
          refine wpQuiet_step (fun K hK => ?_)
          rw [if_pos (by rfl)]
          refine ⟨.int .i64 (k : Int), fun W hW => quiet_ok ?_, hK _ ?_⟩
          · have q := HX.out W hW
            obtain ⟨⟨m0, m1, m2, m3, m4, m5⟩, _⟩ := q
            have q2 := HCX.out W hW
            obtain ⟨k0, k1⟩ := q2
            have q3 := HY.out W hW
            obtain ⟨y0, y1, y2, y3, y4, y5⟩ := q3
            go_simp
            all_goals (try omega)
          clear hK K
          simp only [Act.put, List.setIfInBounds_toArray, List.set_cons_succ, List.set_cons_zero]
          refine wpQuiet_step (fun K hK => ?_)
          rw [if_pos (by rfl)]
          refine ⟨.bool true, fun W hW => quiet_ok ?_, hK _ ?_⟩
          · have q := HX.out W hW
            obtain ⟨⟨m0, m1, m2, m3, m4, m5⟩, _⟩ := q
            have q2 := HCX.out W hW
            obtain ⟨k0, k1⟩ := q2
            have q3 := HY.out W hW
            obtain ⟨y0, y1, y2, y3, y4, y5⟩ := q3
            go_simp
            all_goals (try omega)
          clear hK K
          simp only [Act.put, List.setIfInBounds_toArray, List.set_cons_succ, List.set_cons_zero]
          refine wpQuiet_step (fun K hK => ?_)
          rw [if_pos (by rfl)]
          refine ⟨.bool true, fun W hW => quiet_ok ?_, hK _ ?_⟩
          · have q := HX.out W hW
            obtain ⟨⟨m0, m1, m2, m3, m4, m5⟩, _⟩ := q
            have q2 := HCX.out W hW
            obtain ⟨k0, k1⟩ := q2
            have q3 := HY.out W hW
            obtain ⟨y0, y1, y2, y3, y4, y5⟩ := q3
            go_simp
            all_goals (try omega)
          clear hK K
          simp only [Act.put, List.setIfInBounds_toArray, List.set_cons_succ, List.set_cons_zero]
          refine wpQuiet_step (fun K hK => ?_)
          rw [if_pos (by rfl)]
          refine ⟨.pointer (some ⟨w.heap.size, 1, none⟩), fun W hW => quiet_ok ?_, hK _ ?_⟩
          · have q := HX.out W hW
            obtain ⟨⟨m0, m1, m2, m3, m4, m5⟩, _⟩ := q
            have q2 := HCX.out W hW
            obtain ⟨k0, k1⟩ := q2
            have q3 := HY.out W hW
            obtain ⟨y0, y1, y2, y3, y4, y5⟩ := q3
            go_simp
            all_goals (try omega)
          clear hK K
          simp only [Act.put, List.setIfInBounds_toArray, List.set_cons_succ, List.set_cons_zero]
          refine wpQuiet_step (fun K hK => ?_)
          rw [if_pos (by rfl)]
          refine ⟨.slice (some ⟨b, o, none⟩) L.length cap, fun W hW => quiet_ok ?_, hK _ ?_⟩
          · have q := HX.out W hW
            obtain ⟨⟨m0, m1, m2, m3, m4, m5⟩, _⟩ := q
            have q2 := HCX.out W hW
            obtain ⟨k0, k1⟩ := q2
            have q3 := HY.out W hW
            obtain ⟨y0, y1, y2, y3, y4, y5⟩ := q3
            go_simp
            all_goals (try omega)
          clear hK K
          simp only [Act.put, List.setIfInBounds_toArray, List.set_cons_succ, List.set_cons_zero]
          refine wpQuiet_step (fun K hK => ?_)
          rw [if_pos (by rfl)]
          refine ⟨.int .i64 (k : Int), fun W hW => quiet_ok ?_, hK _ ?_⟩
          · have q := HX.out W hW
            obtain ⟨⟨m0, m1, m2, m3, m4, m5⟩, _⟩ := q
            have q2 := HCX.out W hW
            obtain ⟨k0, k1⟩ := q2
            have q3 := HY.out W hW
            obtain ⟨y0, y1, y2, y3, y4, y5⟩ := q3
            go_simp
            all_goals (try omega)
          clear hK K
          simp only [Act.put, List.setIfInBounds_toArray, List.set_cons_succ, List.set_cons_zero]
          refine wpQuiet_step (fun K hK => ?_)
          rw [if_pos (by rfl)]
          refine ⟨.int .i64 (j : Int), fun W hW => quiet_ok ?_, hK _ ?_⟩
          · have q := HX.out W hW
            obtain ⟨⟨m0, m1, m2, m3, m4, m5⟩, _⟩ := q
            have q2 := HCX.out W hW
            obtain ⟨k0, k1⟩ := q2
            have q3 := HY.out W hW
            obtain ⟨y0, y1, y2, y3, y4, y5⟩ := q3
            go_simp
            all_goals (try omega)
          clear hK K
          simp only [Act.put, List.setIfInBounds_toArray, List.set_cons_succ, List.set_cons_zero]
          refine wpQuiet_step (fun K hK => ?_)
          rw [if_pos (by rfl)]
          refine ⟨.pointer (some ⟨b, o + j * 6, none⟩), fun W hW => quiet_ok ?_, hK _ ?_⟩
          · have q := HX.out W hW
            obtain ⟨⟨m0, m1, m2, m3, m4, m5⟩, _⟩ := q
            have q2 := HCX.out W hW
            obtain ⟨k0, k1⟩ := q2
            have q3 := HY.out W hW
            obtain ⟨y0, y1, y2, y3, y4, y5⟩ := q3
            go_simp
            all_goals (try omega)
          clear hK K
          simp only [Act.put, List.setIfInBounds_toArray, List.set_cons_succ, List.set_cons_zero]
          refine wpQuiet_step (fun K hK => ?_)
          rw [if_pos (by rfl)]
          refine ⟨.agg #[.string ⟨y.1.toArray⟩, .int .i64 y.2.1, .bool y.2.2.1, vb, .int .i64 y.2.2.2.2.1, .int .i64 y.2.2.2.2.2], fun W hW => quiet_ok ?_, hK _ ?_⟩
          · have q := HX.out W hW
            obtain ⟨⟨m0, m1, m2, m3, m4, m5⟩, _⟩ := q
            have q2 := HCX.out W hW
            obtain ⟨k0, k1⟩ := q2
            have q3 := HY.out W hW
            obtain ⟨y0, y1, y2, y3, y4, y5⟩ := q3
            go_simp
            all_goals (try omega)
          clear hK K
          simp only [Act.put, List.setIfInBounds_toArray, List.set_cons_succ, List.set_cons_zero]
          refine wpQuiet_step (fun K hK => ?_)
          rw [if_pos (by rfl)]
          refine ⟨.agg #[.string ⟨nm.toArray⟩, .int .i64 ty, .bool no, .slice aa R.length ca, .int .i64 un, .int .i64 us], fun W hW => quiet_ok ?_, hK _ ?_⟩
          · have q := HX.out W hW
            obtain ⟨⟨m0, m1, m2, m3, m4, m5⟩, _⟩ := q
            have q2 := HCX.out W hW
            obtain ⟨k0, k1⟩ := q2
            have q3 := HY.out W hW
            obtain ⟨y0, y1, y2, y3, y4, y5⟩ := q3
            go_simp
            all_goals (try omega)
          clear hK K
          simp only [Act.put, List.setIfInBounds_toArray, List.set_cons_succ, List.set_cons_zero]
          refine wpQuiet_step (fun K hK => ?_)
          rw [if_pos (by rfl)]
          refine ⟨.int .i64 c, fun W hW => quiet_call (f := 20) (args := #[.agg #[.string ⟨y.1.toArray⟩, .int .i64 y.2.1, .bool y.2.2.1, vb, .int .i64 y.2.2.2.2.1, .int .i64 y.2.2.2.2.2], .agg #[.string ⟨nm.toArray⟩, .int .i64 ty, .bool no, .slice aa R.length ca, .int .i64 un, .int .i64 us]]) ?_ ?_, hK _ ?_⟩
          · go_simp
          · exact (HOR.out W hW).mono fun e w'' h => ⟨h.1, HTR.out _ _ hW h.2⟩
          clear hK K
          simp only [Act.put, List.setIfInBounds_toArray, List.set_cons_succ, List.set_cons_zero]
          refine wpQuiet_step (fun K hK => ?_)
          rw [if_pos (by rfl)]
          refine ⟨.bool true, fun W hW => quiet_ok ?_, hK _ ?_⟩
          · have q := HX.out W hW
            obtain ⟨⟨m0, m1, m2, m3, m4, m5⟩, _⟩ := q
            have q2 := HCX.out W hW
            obtain ⟨k0, k1⟩ := q2
            have q3 := HY.out W hW
            obtain ⟨y0, y1, y2, y3, y4, y5⟩ := q3
            go_simp
            all_goals (try omega)
          clear hK K
          simp only [Act.put, List.setIfInBounds_toArray, List.set_cons_succ, List.set_cons_zero]
          refine wpQuiet_step (fun K hK => ?_)
          rw [if_pos (by rfl)]
          refine ⟨.bool true, fun W hW => quiet_ok ?_, hK _ ?_⟩
          · have q := HX.out W hW
            obtain ⟨⟨m0, m1, m2, m3, m4, m5⟩, _⟩ := q
            have q2 := HCX.out W hW
            obtain ⟨k0, k1⟩ := q2
            have q3 := HY.out W hW
            obtain ⟨y0, y1, y2, y3, y4, y5⟩ := q3
            go_simp
            all_goals (try omega)
          clear hK K
          simp only [Act.put, List.setIfInBounds_toArray, List.set_cons_succ, List.set_cons_zero]
          refine wpQuiet_step (fun K hK => ?_)
          rw [if_pos (by rfl)]
          refine ⟨.bool true, fun W hW => quiet_ok ?_, hK _ ?_⟩
          · have q := HX.out W hW
            obtain ⟨⟨m0, m1, m2, m3, m4, m5⟩, _⟩ := q
            have q2 := HCX.out W hW
            obtain ⟨k0, k1⟩ := q2
            have q3 := HY.out W hW
            obtain ⟨y0, y1, y2, y3, y4, y5⟩ := q3
            go_simp
            all_goals (try omega)
          clear hK K
          simp only [Act.put, List.setIfInBounds_toArray, List.set_cons_succ, List.set_cons_zero]
          refine wpQuiet_nil ?_
          intro W hW
          have hbW := HBW.out W hW
          go_wp2_with fail
          go_ret
          exact ⟨ret_bool HF.out.symm, hbW⟩
        · have HU : Hid (∀ j, j < k + 1 → stepE now L j = true) := HUPA.out (HG.out.trans (by rw [h1, HLO.out, decide_eq_true (show c < 0 by omega)]; simp))
          clear HUPA HBAD HG h1 HKB HLO
          go_wp2_with fail
          rw [HW0.out, HGX.out]
          refine wp_region_quiet (C := fun W => Below W0.heap.size W0 W) (by kernel_rfl) (by kernel_rfl) hbd ?_
          refine wpQuiet_step (fun K hK => ?_)
          rw [if_pos (by rfl)]
          refine ⟨.pointer (some ⟨w.heap.size, 0, none⟩), fun W hW => quiet_ok ?_, hK _ ?_⟩
          · have q := HX.out W hW
            obtain ⟨⟨m0, m1, m2, m3, m4, m5⟩, _⟩ := q
            have q2 := HCX.out W hW
            obtain ⟨k0, k1⟩ := q2
            have q3 := HY.out W hW
            obtain ⟨y0, y1, y2, y3, y4, y5⟩ := q3
            go_simp
            all_goals (try omega)
          clear hK K
          simp only [Act.put, List.setIfInBounds_toArray, List.set_cons_succ, List.set_cons_zero]
          refine wpQuiet_step (fun K hK => ?_)
          rw [if_pos (by rfl)]
          refine ⟨.int .i64 now, fun W hW => quiet_ok ?_, hK _ ?_⟩
          · have q := HX.out W hW
            obtain ⟨⟨m0, m1, m2, m3, m4, m5⟩, _⟩ := q
            have q2 := HCX.out W hW
            obtain ⟨k0, k1⟩ := q2
            have q3 := HY.out W hW
            obtain ⟨y0, y1, y2, y3, y4, y5⟩ := q3
            go_simp
            all_goals (try omega)
          clear hK K
          simp only [Act.put, List.setIfInBounds_toArray, List.set_cons_succ, List.set_cons_zero]
          refine wpQuiet_step (fun K hK => ?_)
          rw [if_pos (by rfl)]
          refine ⟨.agg #[.string ⟨nm.toArray⟩, .int .i64 ty, .bool no, .slice aa R.length ca, .int .i64 un, .int .i64 us], fun W hW => quiet_ok ?_, hK _ ?_⟩
          · have q := HX.out W hW
            obtain ⟨⟨m0, m1, m2, m3, m4, m5⟩, _⟩ := q
            have q2 := HCX.out W hW
            obtain ⟨k0, k1⟩ := q2
            have q3 := HY.out W hW
            obtain ⟨y0, y1, y2, y3, y4, y5⟩ := q3
            go_simp
            all_goals (try omega)
          clear hK K
          simp only [Act.put, List.setIfInBounds_toArray, List.set_cons_succ, List.set_cons_zero]
          refine wpQuiet_step (fun K hK => ?_)
          rw [if_pos (by rfl)]
          refine ⟨.bool true, fun W hW => quiet_call (f := 19) (args := #[.int .i64 now, .agg #[.string ⟨nm.toArray⟩, .int .i64 ty, .bool no, .slice aa R.length ca, .int .i64 un, .int .i64 us]]) ?_ ?_, hK _ ?_⟩
          · go_simp
          · exact (HEN.out W hW).mono fun e w'' h => ⟨h.1, HTR.out _ _ hW h.2⟩
          clear hK K
          simp only [Act.put, List.setIfInBounds_toArray, List.set_cons_succ, List.set_cons_zero]
          refine wpQuiet_step (fun K hK => ?_)
          rw [if_pos (by rfl)]
          refine ⟨.bool false, fun W hW => quiet_ok ?_, hK _ ?_⟩
          · have q := HX.out W hW
            obtain ⟨⟨m0, m1, m2, m3, m4, m5⟩, _⟩ := q
            have q2 := HCX.out W hW
            obtain ⟨k0, k1⟩ := q2
            have q3 := HY.out W hW
            obtain ⟨y0, y1, y2, y3, y4, y5⟩ := q3
            go_simp
            all_goals (try omega)
          clear hK K
          simp only [Act.put, List.setIfInBounds_toArray, List.set_cons_succ, List.set_cons_zero]
          refine wpQuiet_step (fun K hK => ?_)
          rw [if_pos (by rfl)]
          refine ⟨.bool false, fun W hW => quiet_ok ?_, hK _ ?_⟩
          · have q := HX.out W hW
            obtain ⟨⟨m0, m1, m2, m3, m4, m5⟩, _⟩ := q
            have q2 := HCX.out W hW
            obtain ⟨k0, k1⟩ := q2
            have q3 := HY.out W hW
            obtain ⟨y0, y1, y2, y3, y4, y5⟩ := q3
            go_simp
            all_goals (try omega)
          clear hK K
          simp only [Act.put, List.setIfInBounds_toArray, List.set_cons_succ, List.set_cons_zero]
          refine wpQuiet_step (fun K hK => ?_)
          rw [if_pos (by rfl)]
          refine ⟨.int .i64 (k : Int), fun W hW => quiet_ok ?_, hK _ ?_⟩
          · have q := HX.out W hW
            obtain ⟨⟨m0, m1, m2, m3, m4, m5⟩, _⟩ := q
            have q2 := HCX.out W hW
            obtain ⟨k0, k1⟩ := q2
            have q3 := HY.out W hW
            obtain ⟨y0, y1, y2, y3, y4, y5⟩ := q3
            go_simp
            all_goals (try omega)
          clear hK K
          simp only [Act.put, List.setIfInBounds_toArray, List.set_cons_succ, List.set_cons_zero]
          refine wpQuiet_step (fun K hK => ?_)
          rw [if_pos (by rfl)]
          refine ⟨.bool true, fun W hW => quiet_ok ?_, hK _ ?_⟩
          · have q := HX.out W hW
            obtain ⟨⟨m0, m1, m2, m3, m4, m5⟩, _⟩ := q
            have q2 := HCX.out W hW
            obtain ⟨k0, k1⟩ := q2
            have q3 := HY.out W hW
            obtain ⟨y0, y1, y2, y3, y4, y5⟩ := q3
            go_simp
            all_goals (try omega)
          clear hK K
          simp only [Act.put, List.setIfInBounds_toArray, List.set_cons_succ, List.set_cons_zero]
          refine wpQuiet_step (fun K hK => ?_)
          rw [if_pos (by rfl)]
          refine ⟨.bool true, fun W hW => quiet_ok ?_, hK _ ?_⟩
          · have q := HX.out W hW
            obtain ⟨⟨m0, m1, m2, m3, m4, m5⟩, _⟩ := q
            have q2 := HCX.out W hW
            obtain ⟨k0, k1⟩ := q2
            have q3 := HY.out W hW
            obtain ⟨y0, y1, y2, y3, y4, y5⟩ := q3
            go_simp
            all_goals (try omega)
          clear hK K
          simp only [Act.put, List.setIfInBounds_toArray, List.set_cons_succ, List.set_cons_zero]
          refine wpQuiet_step (fun K hK => ?_)
          rw [if_pos (by rfl)]
          refine ⟨.pointer (some ⟨w.heap.size, 1, none⟩), fun W hW => quiet_ok ?_, hK _ ?_⟩
          · have q := HX.out W hW
            obtain ⟨⟨m0, m1, m2, m3, m4, m5⟩, _⟩ := q
            have q2 := HCX.out W hW
            obtain ⟨k0, k1⟩ := q2
            have q3 := HY.out W hW
            obtain ⟨y0, y1, y2, y3, y4, y5⟩ := q3
            go_simp
            all_goals (try omega)
          clear hK K
          simp only [Act.put, List.setIfInBounds_toArray, List.set_cons_succ, List.set_cons_zero]
          refine wpQuiet_step (fun K hK => ?_)
          rw [if_pos (by rfl)]
          refine ⟨.slice (some ⟨b, o, none⟩) L.length cap, fun W hW => quiet_ok ?_, hK _ ?_⟩
          · have q := HX.out W hW
            obtain ⟨⟨m0, m1, m2, m3, m4, m5⟩, _⟩ := q
            have q2 := HCX.out W hW
            obtain ⟨k0, k1⟩ := q2
            have q3 := HY.out W hW
            obtain ⟨y0, y1, y2, y3, y4, y5⟩ := q3
            go_simp
            all_goals (try omega)
          clear hK K
          simp only [Act.put, List.setIfInBounds_toArray, List.set_cons_succ, List.set_cons_zero]
          refine wpQuiet_step (fun K hK => ?_)
          rw [if_pos (by rfl)]
          refine ⟨.int .i64 (k : Int), fun W hW => quiet_ok ?_, hK _ ?_⟩
          · have q := HX.out W hW
            obtain ⟨⟨m0, m1, m2, m3, m4, m5⟩, _⟩ := q
            have q2 := HCX.out W hW
            obtain ⟨k0, k1⟩ := q2
            have q3 := HY.out W hW
            obtain ⟨y0, y1, y2, y3, y4, y5⟩ := q3
            go_simp
            all_goals (try omega)
          clear hK K
          simp only [Act.put, List.setIfInBounds_toArray, List.set_cons_succ, List.set_cons_zero]
          refine wpQuiet_step (fun K hK => ?_)
          rw [if_pos (by rfl)]
          refine ⟨.int .i64 (j : Int), fun W hW => quiet_ok ?_, hK _ ?_⟩
          · have q := HX.out W hW
            obtain ⟨⟨m0, m1, m2, m3, m4, m5⟩, _⟩ := q
            have q2 := HCX.out W hW
            obtain ⟨k0, k1⟩ := q2
            have q3 := HY.out W hW
            obtain ⟨y0, y1, y2, y3, y4, y5⟩ := q3
            go_simp
            all_goals (try omega)
          clear hK K
          simp only [Act.put, List.setIfInBounds_toArray, List.set_cons_succ, List.set_cons_zero]
          refine wpQuiet_step (fun K hK => ?_)
          rw [if_pos (by rfl)]
          refine ⟨.pointer (some ⟨b, o + j * 6, none⟩), fun W hW => quiet_ok ?_, hK _ ?_⟩
          · have q := HX.out W hW
            obtain ⟨⟨m0, m1, m2, m3, m4, m5⟩, _⟩ := q
            have q2 := HCX.out W hW
            obtain ⟨k0, k1⟩ := q2
            have q3 := HY.out W hW
            obtain ⟨y0, y1, y2, y3, y4, y5⟩ := q3
            go_simp
            all_goals (try omega)
          clear hK K
          simp only [Act.put, List.setIfInBounds_toArray, List.set_cons_succ, List.set_cons_zero]
          refine wpQuiet_step (fun K hK => ?_)
          rw [if_pos (by rfl)]
          refine ⟨.agg #[.string ⟨y.1.toArray⟩, .int .i64 y.2.1, .bool y.2.2.1, vb, .int .i64 y.2.2.2.2.1, .int .i64 y.2.2.2.2.2], fun W hW => quiet_ok ?_, hK _ ?_⟩
          · have q := HX.out W hW
            obtain ⟨⟨m0, m1, m2, m3, m4, m5⟩, _⟩ := q
            have q2 := HCX.out W hW
            obtain ⟨k0, k1⟩ := q2
            have q3 := HY.out W hW
            obtain ⟨y0, y1, y2, y3, y4, y5⟩ := q3
            go_simp
            all_goals (try omega)
          clear hK K
          simp only [Act.put, List.setIfInBounds_toArray, List.set_cons_succ, List.set_cons_zero]
          refine wpQuiet_step (fun K hK => ?_)
          rw [if_pos (by rfl)]
          refine ⟨.agg #[.string ⟨nm.toArray⟩, .int .i64 ty, .bool no, .slice aa R.length ca, .int .i64 un, .int .i64 us], fun W hW => quiet_ok ?_, hK _ ?_⟩
          · have q := HX.out W hW
            obtain ⟨⟨m0, m1, m2, m3, m4, m5⟩, _⟩ := q
            have q2 := HCX.out W hW
            obtain ⟨k0, k1⟩ := q2
            have q3 := HY.out W hW
            obtain ⟨y0, y1, y2, y3, y4, y5⟩ := q3
            go_simp
            all_goals (try omega)
          clear hK K
          simp only [Act.put, List.setIfInBounds_toArray, List.set_cons_succ, List.set_cons_zero]
          refine wpQuiet_step (fun K hK => ?_)
          rw [if_pos (by rfl)]
          refine ⟨.int .i64 c, fun W hW => quiet_call (f := 20) (args := #[.agg #[.string ⟨y.1.toArray⟩, .int .i64 y.2.1, .bool y.2.2.1, vb, .int .i64 y.2.2.2.2.1, .int .i64 y.2.2.2.2.2], .agg #[.string ⟨nm.toArray⟩, .int .i64 ty, .bool no, .slice aa R.length ca, .int .i64 un, .int .i64 us]]) ?_ ?_, hK _ ?_⟩
          · go_simp
          · exact (HOR.out W hW).mono fun e w'' h => ⟨h.1, HTR.out _ _ hW h.2⟩
          clear hK K
          simp only [Act.put, List.setIfInBounds_toArray, List.set_cons_succ, List.set_cons_zero]
          refine wpQuiet_step (fun K hK => ?_)
          rw [if_pos (by rfl)]
          refine ⟨.bool false, fun W hW => quiet_ok ?_, hK _ ?_⟩
          · have q := HX.out W hW
            obtain ⟨⟨m0, m1, m2, m3, m4, m5⟩, _⟩ := q
            have q2 := HCX.out W hW
            obtain ⟨k0, k1⟩ := q2
            have q3 := HY.out W hW
            obtain ⟨y0, y1, y2, y3, y4, y5⟩ := q3
            go_simp
            all_goals (try omega)
          clear hK K
          simp only [Act.put, List.setIfInBounds_toArray, List.set_cons_succ, List.set_cons_zero]
          refine wpQuiet_step (fun K hK => ?_)
          rw [if_pos (by rfl)]
          refine ⟨.bool false, fun W hW => quiet_ok ?_, hK _ ?_⟩
          · have q := HX.out W hW
            obtain ⟨⟨m0, m1, m2, m3, m4, m5⟩, _⟩ := q
            have q2 := HCX.out W hW
            obtain ⟨k0, k1⟩ := q2
            have q3 := HY.out W hW
            obtain ⟨y0, y1, y2, y3, y4, y5⟩ := q3
            go_simp
            all_goals (try omega)
          clear hK K
          simp only [Act.put, List.setIfInBounds_toArray, List.set_cons_succ, List.set_cons_zero]
          refine wpQuiet_step (fun K hK => ?_)
          rw [if_pos (by rfl)]
          refine ⟨.bool false, fun W hW => quiet_ok ?_, hK _ ?_⟩
          · have q := HX.out W hW
            obtain ⟨⟨m0, m1, m2, m3, m4, m5⟩, _⟩ := q
            have q2 := HCX.out W hW
            obtain ⟨k0, k1⟩ := q2
            have q3 := HY.out W hW
            obtain ⟨y0, y1, y2, y3, y4, y5⟩ := q3
            go_simp
            all_goals (try omega)
          clear hK K
          simp only [Act.put, List.setIfInBounds_toArray, List.set_cons_succ, List.set_cons_zero]
          refine wpQuiet_nil ?_
          intro W hW
          have hbW := HBW.out W hW
          have HIW : Hid (Below WB.heap.size WB W) := HIB.out W hW
          go_wp2_with fail
          go_roundw
          case rel => exact ⟨k + 1, by omega, by go_num, HU, HIW.out⟩
          case measure => simp [intOf]; omega
    · have HF : Hid (r = true) := HALL.out (fun j hj => HA.out j (by omega))
      go_wp2_with fail
      go_ret
      exact ⟨ret_bool HF.out.symm, hb⟩
end Go.Proofs.YtfpdcpmbpeacjaaGreatDoor

namespace Go.Proofs.YtfpdcpmbpeacjaaGreatDoor
open Go.RowKit

/-- What OldestIn tells. -/
def oldB (now : Int) (L : List EntT) : Bool := goodC now L && decide (0 < L.length)
def oldN (now : Int) (L : List EntT) : Int := if oldB now L = true then minU now L else 0
theorem old_no {now : Int} {L : List EntT} (h : goodC now L = false ∨ L.length = 0) : oldB now L = false ∧ oldN now L = 0 := by
  have : oldB now L = false := by
    unfold oldB
    rcases h with h | h
    · rw [h]; rfl
    · rw [decide_eq_false (show ¬ 0 < L.length by omega)]; simp
  exact ⟨this, if_neg (by rw [this]; simp)⟩
theorem old_yes {now : Int} {L : List EntT} (h : goodC now L = true) (hl : 0 < L.length) : oldB now L = true ∧ oldN now L = minU now L := by
  have : oldB now L = true := by unfold oldB; rw [h, decide_eq_true hl]; rfl
  exact ⟨this, if_pos this⟩

set_option maxRecDepth 20000 in
set_option maxHeartbeats 1000000 in
theorem orderOfUse_any (x y : EntT) (va vb : Value) (w : World) (sa : ∃ a n c, va = .slice a n c) (sb : ∃ a n c, vb = .slice a n c) :
    Calls Tryz.prog 23 #[.agg #[.string ⟨x.1.toArray⟩, .int .i64 x.2.1, .bool x.2.2.1, va, .int .i64 x.2.2.2.2.1, .int .i64 x.2.2.2.2.2], .agg #[.string ⟨y.1.toArray⟩, .int .i64 y.2.1, .bool y.2.2.1, vb, .int .i64 y.2.2.2.2.1, .int .i64 y.2.2.2.2.2]] w fun e w' => e = .returned (.int .i64 (Lib.compareInt x.2.2.2.2.2 y.2.2.2.2.2)) ∧ Below w.heap.size w w' := by
  obtain ⟨a1, n1, k1, rfl⟩ := sa
  obtain ⟨a2, n2, k2, rfl⟩ := sb
  have HCT : Hid (∀ W, Calls Tryz.prog 36 #[.int .i64 x.2.2.2.2.2, .int .i64 y.2.2.2.2.2] W fun e w' => e = .returned (.int .i64 (Lib.compareInt x.2.2.2.2.2 y.2.2.2.2.2)) ∧ w' = W) := fun W => Tryz.cmp_Compare_int x.2.2.2.2.2 y.2.2.2.2.2 W
  obtain ⟨c, hc⟩ : ∃ c, c = Lib.compareInt x.2.2.2.2.2 y.2.2.2.2.2 := ⟨_, rfl⟩
  rw [← hc] at HCT ⊢
  clear hc
  go_enter Tryz.func23, Tryz.ntmps23
  go_wp2_with fail
  refine (HCT.out _).mono ?_
  rintro e w1 ⟨rfl, rfl⟩
  go_wp2_with fail
  go_ret
  exact ⟨rfl, ((Below.refl w.heap.size w).alloc (Nat.le_refl _) _).alloc (by simp) _⟩
theorem ent_cells6 {W : World} {b : Nat} {v0 v1 v2 v3 v4 v5 : Value} {t : TypeId} (h : W.heap[b]? = some (.cells #[v0, v1, v2, v3, v4, v5] t)) :
    (W.cell? ⟨b, 0, none⟩ = some v0 ∧ W.cell? ⟨b, 1, none⟩ = some v1 ∧ W.cell? ⟨b, 2, none⟩ = some v2 ∧ W.cell? ⟨b, 3, none⟩ = some v3 ∧ W.cell? ⟨b, 4, none⟩ = some v4 ∧ W.cell? ⟨b, 5, none⟩ = some v5) ∧ ∀ j, W.frozen? ⟨b, j, none⟩ = false := by
  refine ⟨⟨?_, ?_, ?_, ?_, ?_, ?_⟩, fun j => ?_⟩
  all_goals first
    | (unfold World.cell?; rw [h]; rfl)
    | (unfold World.frozen?; rw [h]; simp)
theorem put6_off {W : World} {g : Nat} {o : Obj} {v0 v1 v2 v3 v4 v5 : Value} (h : W.heap[g]? = some o) : (put6 W (g + 1) v0 v1 v2 v3 v4 v5).heap[g]? = some o := by
  unfold put6
  rw [heap_setCell_other _ _ _ _ (show g ≠ g + 1 by omega), heap_setCell_other _ _ _ _ (show g ≠ g + 1 by omega), heap_setCell_other _ _ _ _ (show g ≠ g + 1 by omega), heap_setCell_other _ _ _ _ (show g ≠ g + 1 by omega), heap_setCell_other _ _ _ _ (show g ≠ g + 1 by omega), heap_setCell_other _ _ _ _ (show g ≠ g + 1 by omega)]
  exact h
theorem cmp_use (x y : Int) : decide (Lib.compareInt x y < 0) = decide (x < y) := by
  unfold Lib.compareInt
  by_cases h1 : x < y
  · simp [h1]
  · by_cases h2 : y < x <;> simp [h1, h2]

set_option maxRecDepth 20000 in
set_option maxHeartbeats 8000000 in
theorem minFunc_any (v : Value) (L : List EntT) (w : World) (hr : ERow w v L) (hl : 0 < L.length) :
    Calls Tryz.prog 22 #[v, .func (.func 23) #[] #[]] w fun e w' => (∃ (m : EntT) (vm : Value), e = .returned (.agg #[.string ⟨m.1.toArray⟩, .int .i64 m.2.1, .bool m.2.2.1, vm, .int .i64 m.2.2.2.2.1, .int .i64 m.2.2.2.2.2]) ∧ m.2.2.2.2.2 = minU (L[0]).2.2.2.2.2 L) ∧ Below w.heap.size w w' := by
  have eg : ∀ args w, (callFunc 23 args).run Tryz.prog w = .ok (.enter 23 args) w := enters_of Tryz.func23 (by kernel_rfl) rfl
  obtain ⟨a, cap, rfl, hcap, hmax, HROW⟩ := erow_value hr
  clear hr
  obtain ⟨b, o, ha, hbl, hcel⟩ := HROW.out hl
  subst ha
  obtain ⟨v0, hc00⟩ := hcel 0 hl
  rw [Nat.zero_mul, Nat.add_zero] at hc00
  have HS0 : Hid (∃ a n c, v0 = .slice a n c) := by obtain ⟨a, c, e, _⟩ := hc00.2; exact ⟨a, _, c, e⟩
  have HSTART : Hid (minU (L[0]).2.2.2.2.2 (L.take 1) = (L[0]).2.2.2.2.2) := by
    show minU _ (L.take (0 + 1)) = _
    rw [minU_take hl]; simp [minU]
  obtain ⟨x0, hx0⟩ : ∃ x, x = L[0]'hl := ⟨_, rfl⟩
  rw [← hx0] at hc00 HSTART ⊢
  have hc0 := hc00
  unfold EntAt at hc0
  obtain ⟨⟨c0, c1, c2, c3, c4, c5⟩, _⟩ := hc0
  have HCEL : Hid (∀ j, (hj : j < L.length) → ∃ va, EntAt w b (o + j * 6) L[j] va) := hcel
  obtain ⟨u, hu⟩ : ∃ u, u = x0.2.2.2.2.2 := ⟨_, rfl⟩
  rw [← hu] at HSTART ⊢
  have HU : Hid (x0.2.2.2.2.2 = u) := hu.symm
  have hLn : ¬ L = [] := fun e => by rw [e] at hl; simp at hl
  have hl1 : ¬ (L.length : Int) < 1 := by omega
  have hl0 : (0 : Int) < (L.length : Int) := by omega
  obtain ⟨a0, n0, q0, hv0⟩ := HS0.out
  clear hcel HROW hc00 hx0 hu HS0
  subst hv0
  have HSB : Hid (∃ vm, vm = Value.slice a0 n0 q0) := ⟨_, rfl⟩
  obtain ⟨WA, hWA⟩ : ∃ W, W = (w.alloc (.cells #[.string ⟨#[]⟩, .int .i64 0, .bool false, .slice none 0 0, .int .i64 0, .int .i64 0] 39)).alloc (.cells #[.string ⟨x0.1.toArray⟩, .int .i64 x0.2.1, .bool x0.2.2.1, .slice a0 n0 q0, .int .i64 x0.2.2.2.2.1, .int .i64 x0.2.2.2.2.2] 39) := ⟨_, rfl⟩
  have HWA : Hid ((w.alloc (.cells #[.string ⟨#[]⟩, .int .i64 0, .bool false, .slice none 0 0, .int .i64 0, .int .i64 0] 39)).alloc (.cells #[.string ⟨x0.1.toArray⟩, .int .i64 x0.2.1, .bool x0.2.2.1, .slice a0 n0 q0, .int .i64 x0.2.2.2.2.1, .int .i64 x0.2.2.2.2.2] 39) = WA) := hWA.symm
  have HHA : Hid (WA.heap[w.heap.size]? = some (.cells #[.string ⟨#[]⟩, .int .i64 0, .bool false, .slice none 0 0, .int .i64 0, .int .i64 0] 39) ∧ WA.heap[w.heap.size + 1]? = some (.cells #[.string ⟨x0.1.toArray⟩, .int .i64 x0.2.1, .bool x0.2.2.1, .slice a0 n0 q0, .int .i64 x0.2.2.2.2.1, .int .i64 x0.2.2.2.2.2] 39) ∧ Below w.heap.size w WA) := by
    have h := heaps2 (w := w) (W := WA) (by rw [hWA]; exact Below.refl _ _)
    exact h
  clear hWA
  go_enter Tryz.func22, Tryz.ntmps22
  go_wp2_with fail
  rw [HWA.out]
  clear c0 c1 c2 c3 c4 c5
  go_loopw [6] (fun i wr => ∃ (k : Nat) (m : EntT) (vm : Value), (1 ≤ k ∧ k ≤ L.length) ∧ i = .int .i64 (k : Int) ∧ Hid (wr.heap[w.heap.size]? = some (.cells #[.string ⟨#[]⟩, .int .i64 0, .bool false, .slice none 0 0, .int .i64 0, .int .i64 0] 39)) ∧ Hid (wr.heap[w.heap.size + 1]? = some (.cells #[.string ⟨m.1.toArray⟩, .int .i64 m.2.1, .bool m.2.2.1, vm, .int .i64 m.2.2.2.2.1, .int .i64 m.2.2.2.2.2] 39)) ∧ Hid (m.2.2.2.2.2 = minU u (L.take k)) ∧ Hid (∃ a n c, vm = .slice a n c) ∧ Below w.heap.size w wr) (fun i _ => L.length - (intOf i).toNat)
  case atStart => exact ⟨1, x0, _, ⟨Nat.le_refl _, hl⟩, rfl, HHA.out.1, HHA.out.2.1, HU.out.trans HSTART.out.symm, ⟨_, _, _, rfl⟩, HHA.out.2.2⟩
  case round =>
    obtain ⟨k, m, vm, ⟨hk1, hk⟩, rfl, HZ, HM, HMIN, HVM, hb⟩ := hrel
    clear HHA HSTART
    by_cases hlt : k < L.length
    · obtain ⟨va, hcx0⟩ := HCEL.out k hlt
      have HST : Hid (minU u (L.take (k + 1)) = if (L[k]'hlt).2.2.2.2.2 < minU u (L.take k) then (L[k]'hlt).2.2.2.2.2 else minU u (L.take k)) := minU_take hlt u
      obtain ⟨x, hxe⟩ : ∃ x, x = L[k]'hlt := ⟨_, rfl⟩
      rw [← hxe] at hcx0 HST
      have HX : Hid (∀ W, Below wr.heap.size wr W → W.cell? ⟨b, o + k * 6, none⟩ = some (.string ⟨x.1.toArray⟩) ∧ W.cell? ⟨b, o + k * 6 + 1, none⟩ = some (.int .i64 x.2.1) ∧ W.cell? ⟨b, o + k * 6 + 2, none⟩ = some (.bool x.2.2.1) ∧ W.cell? ⟨b, o + k * 6 + 3, none⟩ = some (va) ∧ W.cell? ⟨b, o + k * 6 + 4, none⟩ = some (.int .i64 x.2.2.2.2.1) ∧ W.cell? ⟨b, o + k * 6 + 5, none⟩ = some (.int .i64 x.2.2.2.2.2)) := fun W hW => (hcx0.kept (hb.trans (hW.mono hb.size))).1
      have HSX : Hid (∃ a n c, va = .slice a n c) := by obtain ⟨a, c, e, _⟩ := hcx0.2; exact ⟨a, _, c, e⟩
      have hgm : w.heap.size + 1 < wr.heap.size := by have h := HM.out; rw [Array.getElem?_eq_some_iff] at h; exact h.1
      have HMX : Hid (∀ W, Below wr.heap.size wr W → W.heap[w.heap.size]? = some (.cells #[.string ⟨#[]⟩, .int .i64 0, .bool false, .slice none 0 0, .int .i64 0, .int .i64 0] 39) ∧ W.heap[w.heap.size + 1]? = some (.cells #[.string ⟨m.1.toArray⟩, .int .i64 m.2.1, .bool m.2.2.1, vm, .int .i64 m.2.2.2.2.1, .int .i64 m.2.2.2.2.2] 39)) := fun W hW => ⟨(hW.block _ (by omega)).trans HZ.out, (hW.block _ hgm).trans HM.out⟩
      have HMC : Hid (∀ W, Below wr.heap.size wr W → (W.cell? ⟨w.heap.size + 1, 0, none⟩ = some (.string ⟨m.1.toArray⟩) ∧ W.cell? ⟨w.heap.size + 1, 1, none⟩ = some (.int .i64 m.2.1) ∧ W.cell? ⟨w.heap.size + 1, 2, none⟩ = some (.bool m.2.2.1) ∧ W.cell? ⟨w.heap.size + 1, 3, none⟩ = some vm ∧ W.cell? ⟨w.heap.size + 1, 4, none⟩ = some (.int .i64 m.2.2.2.2.1) ∧ W.cell? ⟨w.heap.size + 1, 5, none⟩ = some (.int .i64 m.2.2.2.2.2)) ∧ ∀ j, W.frozen? ⟨w.heap.size + 1, j, none⟩ = false) := fun W hW => ent_cells6 (HMX.out W hW).2
      have HCL : Hid (∀ W, Calls Tryz.prog 23 #[.agg #[.string ⟨x.1.toArray⟩, .int .i64 x.2.1, .bool x.2.2.1, va, .int .i64 x.2.2.2.2.1, .int .i64 x.2.2.2.2.2], .agg #[.string ⟨m.1.toArray⟩, .int .i64 m.2.1, .bool m.2.2.1, vm, .int .i64 m.2.2.2.2.1, .int .i64 m.2.2.2.2.2]] W fun e w' => e = .returned (.int .i64 (Lib.compareInt x.2.2.2.2.2 m.2.2.2.2.2)) ∧ Below W.heap.size W w') := fun W => orderOfUse_any x m va vm W HSX.out HVM.out
      have HLT : Hid (decide (Lib.compareInt x.2.2.2.2.2 m.2.2.2.2.2 < 0) = decide (x.2.2.2.2.2 < m.2.2.2.2.2)) := cmp_use _ _
      obtain ⟨c, hc⟩ : ∃ c, c = Lib.compareInt x.2.2.2.2.2 m.2.2.2.2.2 := ⟨_, rfl⟩
      rw [← hc] at HCL HLT
      have HTR : Hid (∀ W W', Below wr.heap.size wr W → Below W.heap.size W W' → Below wr.heap.size wr W') := fun W W' h1 h2 => h1.trans (h2.mono h1.size)
      have hbd : Below wr.heap.size wr wr.drew := (Below.refl _ _).drew
      have hlk : (k : Int) < (L.length : Int) := by omega
      have HXV : Hid (∃ vx, vx = va) := ⟨_, rfl⟩
      clear hcx0 hxe hc HM HZ HXV
      go_wp2_with fail
      refine wp_region_quiet (C := fun W => Below wr.heap.size wr W) (by kernel_rfl) (by kernel_rfl) hbd ?_
      refine wpQuiet_step (fun K hK => ?_)
      rw [if_pos (by rfl)]
      refine ⟨.func (.func 23) #[] #[], fun W hW => quiet_ok ?_, hK _ ?_⟩
      · have q := HX.out W hW
        obtain ⟨x0, x1, x2, x3, x4, x5⟩ := q
        have q2 := (HMC.out W hW).1
        obtain ⟨m0, m1, m2, m3, m4, m5⟩ := q2
        go_simp
        all_goals (try omega)
      clear hK K
      simp only [Act.put, List.setIfInBounds_toArray, List.set_cons_succ, List.set_cons_zero]
      refine wpQuiet_step (fun K hK => ?_)
      rw [if_pos (by rfl)]
      refine ⟨.slice (some ⟨b, o, none⟩) L.length cap, fun W hW => quiet_ok ?_, hK _ ?_⟩
      · have q := HX.out W hW
        obtain ⟨x0, x1, x2, x3, x4, x5⟩ := q
        have q2 := (HMC.out W hW).1
        obtain ⟨m0, m1, m2, m3, m4, m5⟩ := q2
        go_simp
        all_goals (try omega)
      clear hK K
      simp only [Act.put, List.setIfInBounds_toArray, List.set_cons_succ, List.set_cons_zero]
      refine wpQuiet_step (fun K hK => ?_)
      rw [if_pos (by rfl)]
      refine ⟨.int .i64 (k : Int), fun W hW => quiet_ok ?_, hK _ ?_⟩
      · have q := HX.out W hW
        obtain ⟨x0, x1, x2, x3, x4, x5⟩ := q
        have q2 := (HMC.out W hW).1
        obtain ⟨m0, m1, m2, m3, m4, m5⟩ := q2
        go_simp
        all_goals (try omega)
      clear hK K
      simp only [Act.put, List.setIfInBounds_toArray, List.set_cons_succ, List.set_cons_zero]
      refine wpQuiet_step (fun K hK => ?_)
      rw [if_pos (by rfl)]
      refine ⟨.pointer (some ⟨b, o + k * 6, none⟩), fun W hW => quiet_ok ?_, hK _ ?_⟩
      · have q := HX.out W hW
        obtain ⟨x0, x1, x2, x3, x4, x5⟩ := q
        have q2 := (HMC.out W hW).1
        obtain ⟨m0, m1, m2, m3, m4, m5⟩ := q2
        go_simp
        all_goals (try omega)
      clear hK K
      simp only [Act.put, List.setIfInBounds_toArray, List.set_cons_succ, List.set_cons_zero]
      refine wpQuiet_step (fun K hK => ?_)
      rw [if_pos (by rfl)]
      refine ⟨.agg #[.string ⟨x.1.toArray⟩, .int .i64 x.2.1, .bool x.2.2.1, va, .int .i64 x.2.2.2.2.1, .int .i64 x.2.2.2.2.2], fun W hW => quiet_ok ?_, hK _ ?_⟩
      · have q := HX.out W hW
        obtain ⟨x0, x1, x2, x3, x4, x5⟩ := q
        have q2 := (HMC.out W hW).1
        obtain ⟨m0, m1, m2, m3, m4, m5⟩ := q2
        go_simp
        all_goals (try omega)
      clear hK K
      simp only [Act.put, List.setIfInBounds_toArray, List.set_cons_succ, List.set_cons_zero]
      refine wpQuiet_step (fun K hK => ?_)
      rw [if_pos (by rfl)]
      refine ⟨.agg #[.string ⟨m.1.toArray⟩, .int .i64 m.2.1, .bool m.2.2.1, vm, .int .i64 m.2.2.2.2.1, .int .i64 m.2.2.2.2.2], fun W hW => quiet_ok ?_, hK _ ?_⟩
      · have q := HX.out W hW
        obtain ⟨x0, x1, x2, x3, x4, x5⟩ := q
        have q2 := (HMC.out W hW).1
        obtain ⟨m0, m1, m2, m3, m4, m5⟩ := q2
        go_simp
        all_goals (try omega)
      clear hK K
      simp only [Act.put, List.setIfInBounds_toArray, List.set_cons_succ, List.set_cons_zero]
      refine wpQuiet_step (fun K hK => ?_)
      rw [if_pos (by rfl)]
      refine ⟨.int .i64 c, fun W hW => quiet_call (f := 23) (args := #[.agg #[.string ⟨x.1.toArray⟩, .int .i64 x.2.1, .bool x.2.2.1, va, .int .i64 x.2.2.2.2.1, .int .i64 x.2.2.2.2.2], .agg #[.string ⟨m.1.toArray⟩, .int .i64 m.2.1, .bool m.2.2.1, vm, .int .i64 m.2.2.2.2.1, .int .i64 m.2.2.2.2.2]]) ?_ ?_, hK _ ?_⟩
      · go_simp
      · exact (HCL.out W).mono fun e w'' h => ⟨h.1, HTR.out _ _ hW h.2⟩
      clear hK K
      simp only [Act.put, List.setIfInBounds_toArray, List.set_cons_succ, List.set_cons_zero]
      refine wpQuiet_step (fun K hK => ?_)
      rw [if_pos (by rfl)]
      refine ⟨.bool (decide (c < 0)), fun W hW => quiet_ok ?_, hK _ ?_⟩
      · have q := HX.out W hW
        obtain ⟨x0, x1, x2, x3, x4, x5⟩ := q
        have q2 := (HMC.out W hW).1
        obtain ⟨m0, m1, m2, m3, m4, m5⟩ := q2
        go_simp
        all_goals (try omega)
      clear hK K
      simp only [Act.put, List.setIfInBounds_toArray, List.set_cons_succ, List.set_cons_zero]
      refine wpQuiet_nil ?_
      intro W hW
      have hbW := hb.trans (hW.mono hb.size)
      by_cases g : x.2.2.2.2.2 < m.2.2.2.2.2
      · have e1 : decide (c < 0) = true := HLT.out.trans (decide_eq_true g)
        have e1' : c < 0 := of_decide_eq_true e1
        have HQ : Hid (x.2.2.2.2.2 = minU u (L.take (k + 1))) := by rw [HST.out, ← HMIN.out, if_pos g]; exact rfl
        obtain ⟨x0, x1, x2, x3, x4, x5⟩ := HX.out W hW
        obtain ⟨⟨m0, m1, m2, m3, m4, m5⟩, hfz⟩ := HMC.out W hW
        have f0 := hfz 0
        have f1 := hfz 1
        have f2 := hfz 2
        have f3 := hfz 3
        have f4 := hfz 4
        have f5 := hfz 5
        have HW1 : Hid (W.heap[w.heap.size]? = some (.cells #[.string ⟨#[]⟩, .int .i64 0, .bool false, .slice none 0 0, .int .i64 0, .int .i64 0] 39)) := (HMX.out W hW).1
        have HW2 : Hid (W.heap[w.heap.size + 1]? = some (.cells #[.string ⟨m.1.toArray⟩, .int .i64 m.2.1, .bool m.2.2.1, vm, .int .i64 m.2.2.2.2.1, .int .i64 m.2.2.2.2.2] 39)) := (HMX.out W hW).2
        have HBX : Hid (Below w.heap.size w W) := hbW
        obtain ⟨a8, n8, c8, hva⟩ := HSX.out
        subst hva
        clear hfz HST HLT g hbd HCL HX HMX HMC HTR hbW hW hb eg HCEL HU HSX HMIN HVM hLn hl1 hgm
        go_wp2_with fail
        go_roundw
        case rel => exact ⟨k + 1, x, _, ⟨by omega, by omega⟩, by go_num, put6_off HW1.out, put6_heap HW2.out, HQ, ⟨_, _, _, rfl⟩, put6_below HBX.out (by omega) _ _ _ _ _ _⟩
        case measure => simp [intOf]; omega
      · have e1 : decide (c < 0) = false := HLT.out.trans (decide_eq_false g)
        have e1' : ¬ c < 0 := of_decide_eq_false e1
        have HQ : Hid (m.2.2.2.2.2 = minU u (L.take (k + 1))) := by rw [HST.out, ← HMIN.out, if_neg g]; exact rfl
        have HN1 : Hid (W.heap[w.heap.size]? = some (.cells #[.string ⟨#[]⟩, .int .i64 0, .bool false, .slice none 0 0, .int .i64 0, .int .i64 0] 39)) := (HMX.out W hW).1
        have HN2 : Hid (W.heap[w.heap.size + 1]? = some (.cells #[.string ⟨m.1.toArray⟩, .int .i64 m.2.1, .bool m.2.2.1, vm, .int .i64 m.2.2.2.2.1, .int .i64 m.2.2.2.2.2] 39)) := (HMX.out W hW).2
        clear HST HLT g hbd HCL
        go_wp2_with fail
        go_roundw
        case rel => exact ⟨k + 1, m, vm, ⟨by omega, by omega⟩, by go_num, HN1, HN2, HQ, HVM, hbW⟩
        case measure => simp [intOf]; omega
    · have HQ : Hid (m.2.2.2.2.2 = minU u L) := by rw [HMIN.out, List.take_of_length_le (by omega)]; exact rfl
      obtain ⟨⟨m0, m1, m2, m3, m4, m5⟩, _⟩ := ent_cells6 HM.out
      obtain ⟨⟨z0, z1, z2, z3, z4, z5⟩, hfz⟩ := ent_cells6 HZ.out
      have f0 := hfz 0
      have f1 := hfz 1
      have f2 := hfz 2
      have f3 := hfz 3
      have f4 := hfz 4
      have f5 := hfz 5
      obtain ⟨a7, n7, c7, hvm⟩ := HVM.out
      subst hvm
      clear hfz
      go_wp2_with fail
      (try simp only [Exit.inBlock, Exit.then])
      refine bodyPost_ret (results_cell_row rfl _ _ w.heap.size 39 #[.string ⟨m.1.toArray⟩, .int .i64 m.2.1, .bool m.2.2.1, .slice a7 n7 c7, .int .i64 m.2.2.2.2.1, .int .i64 m.2.2.2.2.2] (0, 0) _ rfl ?_ Tryz.underlying39 rfl (by kernel_rfl)) rfl ⟨⟨m, _, rfl, HQ.out⟩, ?_⟩
      · exact put6_heap HZ.out
      · exact put6_below hb (Nat.le_refl _) _ _ _ _ _ _

set_option maxRecDepth 20000 in
set_option maxHeartbeats 4000000 in
theorem iOldest_any (now : Int) (v : Value) (L : List EntT) (w : World) (hr : ERow w v L) (hx : Hid (∀ x ∈ L, EBig x)) (hE : EnvR w) :
    Calls Tryz.prog 11 #[CchV now v] w fun e w' => e = .returned (.tuple #[.int .i64 (oldN now L), .bool (oldB now L)]) ∧ Below w.heap.size w w' := by
  have HG : Hid (∀ W, Below w.heap.size w W → Calls Tryz.prog 8 #[CchV now v] W fun e w' => e = .returned (.bool (goodC now L)) ∧ Below W.heap.size W w') := fun W hW => iGoodCache_any now v L W (hr.kept hW) hx (hE.below hW)
  have HMF : Hid ((hl : 0 < L.length) → ∀ W, Below w.heap.size w W → Calls Tryz.prog 22 #[v, .func (.func 23) #[] #[]] W fun e w' => (∃ (m : EntT) (vm : Value), e = .returned (.agg #[.string ⟨m.1.toArray⟩, .int .i64 m.2.1, .bool m.2.2.1, vm, .int .i64 m.2.2.2.2.1, .int .i64 m.2.2.2.2.2]) ∧ m.2.2.2.2.2 = minU (L[0]).2.2.2.2.2 L) ∧ Below W.heap.size W w') := fun hl W hW => minFunc_any v L W (hr.kept hW) hl
  unfold CchV at HG ⊢
  obtain ⟨a, cap, rfl, hcap, hmax, _⟩ := erow_value hr
  clear hr
  have HN0 : Hid ((goodC now L = false ∨ L.length = 0) → oldB now L = false ∧ oldN now L = 0) := old_no
  have HN1 : Hid (goodC now L = true → 0 < L.length → oldB now L = true ∧ oldN now L = minU now L) := old_yes
  obtain ⟨r, hr⟩ : ∃ r, r = oldB now L := ⟨_, rfl⟩
  obtain ⟨n, hn⟩ : ∃ n, n = oldN now L := ⟨_, rfl⟩
  rw [← hr, ← hn] at HN0 HN1 ⊢
  obtain ⟨WB, hWB⟩ : ∃ W, W = w.alloc (.cells #[.int .i64 now, .slice a L.length cap] 29) := ⟨_, rfl⟩
  have HWB : Hid (w.alloc (.cells #[.int .i64 now, .slice a L.length cap] 29) = WB) := hWB.symm
  have HCB : Hid (∀ W, Below WB.heap.size WB W → (W.cell? ⟨w.heap.size, 0, none⟩ = some (.int .i64 now) ∧ W.cell? ⟨w.heap.size, 1, none⟩ = some (.slice a L.length cap)) ∧ Below w.heap.size w W) := fun W hW => by rw [hWB] at hW; exact box2c hW
  have hbz : Below WB.heap.size WB WB := Below.refl _ _
  clear hr hn hWB
  by_cases hl : L.length = 0
  · obtain ⟨h1, h2⟩ := HN0.out (.inr hl)
    subst h1 h2
    have e0 : ((L.length : Int) == 0) = true := beq_iff_eq.2 (by omega)
    have e0' : (L.length : Int) = 0 := by omega
    clear HN0 HN1 HMF
    go_enter Tryz.func11, Tryz.ntmps11
    go_wp2_with fail
    go_ret2
    exact ⟨rfl, (Below.refl w.heap.size w).alloc (Nat.le_refl _) _⟩
  have e0 : ((L.length : Int) == 0) = false := beq_eq_false_iff_ne.2 (by omega)
  have e0' : ¬ (L.length : Int) = 0 := by omega
  have hLn : ¬ L = [] := fun e => hl (by rw [e]; rfl)
  cases hg : goodC now L with
  | false =>
    obtain ⟨h1, h2⟩ := HN0.out (.inl hg)
    subst h1 h2
    rw [hg] at HG
    clear HN0 HN1 hg HMF
    go_enter Tryz.func11, Tryz.ntmps11
    go_wp2_with fail
    rw [HWB.out]
    refine (HG.out _ (HCB.out _ hbz).2).mono ?_
    rintro e w1 ⟨rfl, hb1⟩
    have hbw := (HCB.out _ hb1).2
    go_wp2_with fail
    go_ret2
    exact ⟨rfl, hbw⟩
  | true =>
    rw [hg] at HG
    have hpos : 0 < L.length := by omega
    obtain ⟨h1, h2⟩ := HN1.out hg hpos
    have hu : (L[0]'hpos).2.2.2.2.2 ≤ now := (ent_used ((goodC_facts hg).2.2 0 hpos)).2
    have HN : Hid (minU (L[0]'hpos).2.2.2.2.2 L = n) := (minU_head hpos hu).trans h2.symm
    have HM2 : Hid (∀ W, Below w.heap.size w W → Calls Tryz.prog 22 #[.slice a L.length cap, .func (.func 23) #[] #[]] W fun e w' => (∃ (m : EntT) (vm : Value), e = .returned (.agg #[.string ⟨m.1.toArray⟩, .int .i64 m.2.1, .bool m.2.2.1, vm, .int .i64 m.2.2.2.2.1, .int .i64 m.2.2.2.2.2]) ∧ m.2.2.2.2.2 = n) ∧ Below W.heap.size W w') := fun W hW => (HMF.out hpos W hW).mono fun e w' ⟨⟨m, vm, e1, e2⟩, e3⟩ => ⟨⟨m, vm, e1, e2.trans HN.out⟩, e3⟩
    subst h1
    clear HN0 HN1 hg HMF h2 hu HN
    go_enter Tryz.func11, Tryz.ntmps11
    go_wp2_with fail
    rw [HWB.out]
    refine (HG.out _ (HCB.out _ hbz).2).mono ?_
    rintro e w1 ⟨rfl, hb1⟩
    obtain ⟨⟨k0, k1⟩, hbw⟩ := HCB.out _ hb1
    go_wp2_with fail
    refine (HM2.out _ hbw).mono ?_
    rintro e w2 ⟨⟨m, vm, rfl, hm⟩, hb2⟩
    have hbw2 := hbw.trans (hb2.mono hbw.size)
    have HMN : Hid (m.2.2.2.2.2 = n) := hm
    clear hm k0 k1
    have hfl : ∀ W, (Instr.field 39 (.agg #[.string ⟨m.1.toArray⟩, .int .i64 m.2.1, .bool m.2.2.1, vm, .int .i64 m.2.2.2.2.1, .int .i64 m.2.2.2.2.2]) 5).run Tryz.prog W = .ok (.int .i64 m.2.2.2.2.2) W := fun W => by rfl
    go_wp2_with fail
    go_ret2
    exact ⟨by rw [HMN.out]; rfl, hbw2⟩
end Go.Proofs.YtfpdcpmbpeacjaaGreatDoor
