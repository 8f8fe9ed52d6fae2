import Derived.Test.YtgfiahfoghnpkaaGreatDoorZ33
import Derived.Test.YtgfiahfoghnpkaaGreatDoorZ30
namespace Go.Proofs.YtgfiahfoghnpkaaGreatDoor
open Go.RowKit

theorem ent_split (now : Int) (nm : List UInt8) (ty : Int) (no : Bool) (R : List (List UInt8 × Int × Int × List UInt8)) (un us : Int) :
    entB now (nm, ty, no, R, un, us) = (((decide (now + 1 ≤ un) && decide (un ≤ now + 100000)) && (decide (1 ≤ us) && decide (us ≤ now))) && ((nameB nm && typB ty) && tellB (nm, ty, no, R, un, us))) := rfl

set_option maxRecDepth 20000 in
set_option maxHeartbeats 4000000 in
theorem isEntry_any (now : Int) (nm : List UInt8) (ty : Int) (no : Bool) (v : Value) (R : List (List UInt8 × Int × Int × List UInt8)) (un us : Int) (w : World) (hn : 1 ≤ now ∧ now ≤ 1000000000) (hr : RRow w v R) (hx : Hid (∀ x ∈ R, x.1.length ≤ 1048576 ∧ x.2.2.2.length ≤ 1048576)) (hE : EnvR w) :
    Calls Tryz.prog 67 #[.int .i64 now, .agg #[.string ⟨nm.toArray⟩, .int .i64 ty, .bool no, v, .int .i64 un, .int .i64 us]] w fun e w' => e = .returned (.bool (entB now (nm, ty, no, R, un, us))) ∧ Below w.heap.size w w' := by
  have HTE : Hid (∀ W, Below w.heap.size w W → Calls Tryz.prog 86 #[.agg #[.string ⟨nm.toArray⟩, .int .i64 ty, .bool no, v, .int .i64 un, .int .i64 us]] W fun e w' => e = .returned (.bool (tellB (nm, ty, no, R, un, us))) ∧ Below W.heap.size W w') := fun W hW => tellsOne_any nm ty no v R un us W (hr.kept hW) hx (hE.below hW)
  obtain ⟨aa, ca, rfl, _⟩ := hr
  have HOE : Hid (∀ W, Calls Tryz.prog 72 #[.agg #[.string ⟨nm.toArray⟩, .int .i64 ty, .bool no, .slice aa R.length ca, .int .i64 un, .int .i64 us]] W fun e w' => e = .returned (.agg #[.string ⟨nm.toArray⟩, .int .i64 ty]) ∧ Below W.heap.size W w') := fun W => ownerOfEntry_any ⟨nm.toArray⟩ ty no aa R.length ca un us W
  have HOG : Hid (∀ W, Below w.heap.size w W → Calls Tryz.prog 50 #[.agg #[.string ⟨nm.toArray⟩, .int .i64 ty]] W fun e w' => e = .returned (.bool (nameB nm && typB ty)) ∧ Below W.heap.size W w') := fun W hW => ownerGood_any ⟨nm.toArray⟩ ty W (hE.below hW)
  have HR : Hid (entB now (nm, ty, no, R, un, us) = (((decide (now + 1 ≤ un) && decide (un ≤ now + 100000)) && (decide (1 ≤ us) && decide (us ≤ now))) && ((nameB nm && typB ty) && tellB (nm, ty, no, R, un, us)))) := ent_split now nm ty no R un us
  have wn2 : IntKind.i64.wrap (now + 100000) = now + 100000 := wrap_small _ (by omega) (by omega)
  obtain ⟨r, hr⟩ : ∃ r, r = entB now (nm, ty, no, R, un, us) := ⟨_, rfl⟩
  rw [← hr] at HR ⊢
  obtain ⟨W0, hW0⟩ : ∃ W0, W0 = w.alloc (.cells #[.string ⟨nm.toArray⟩, .int .i64 ty, .bool no, .slice aa R.length ca, .int .i64 un, .int .i64 us] 44) := ⟨_, rfl⟩
  have HW0 : Hid (w.alloc (.cells #[.string ⟨nm.toArray⟩, .int .i64 ty, .bool no, .slice aa R.length ca, .int .i64 un, .int .i64 us] 44) = W0) := hW0.symm
  obtain ⟨gx, hgx⟩ : ∃ gx, gx = w.heap.size := ⟨_, rfl⟩
  have HGX : Hid (w.heap.size = gx) := hgx.symm
  have HX : Hid (∀ W, Below W0.heap.size W0 W → (W.cell? ⟨gx, 0, none⟩ = some (.string ⟨nm.toArray⟩) ∧ W.cell? ⟨gx, 1, none⟩ = some (.int .i64 ty) ∧ W.cell? ⟨gx, 2, none⟩ = some (.bool no) ∧ W.cell? ⟨gx, 3, none⟩ = some (.slice aa R.length ca) ∧ W.cell? ⟨gx, 4, none⟩ = some (.int .i64 un) ∧ W.cell? ⟨gx, 5, none⟩ = some (.int .i64 us)) ∧ Below w.heap.size w W) := fun W hW => by rw [hW0] at hW; rw [hgx]; exact box6c hW
  have hbz : Below W0.heap.size W0 W0 := Below.refl _ _
  clear hr hE hW0 hgx
  by_cases g1 : un ≤ now
  · have HF : Hid (r = false) := HR.out.trans (by rw [decide_eq_false (show ¬ now + 1 ≤ un by omega)]; rfl)
    clear HR
    go_enter Tryz.func67, Tryz.ntmps67
    go_wp2_with fail
    rw [HW0.out]
    go_ret
    exact ⟨ret_bool HF.out.symm, (HX.out _ hbz).2⟩
  by_cases g2 : now + 100000 < un
  · have HF : Hid (r = false) := HR.out.trans (by rw [decide_eq_false (show ¬ un ≤ now + 100000 by omega)]; simp)
    clear HR
    go_enter Tryz.func67, Tryz.ntmps67
    go_wp2_with fail
    rw [HW0.out]
    go_ret
    exact ⟨ret_bool HF.out.symm, (HX.out _ hbz).2⟩
  by_cases g3 : us < 1
  · have HF : Hid (r = false) := HR.out.trans (by rw [decide_eq_false (show ¬ 1 ≤ us by omega)]; simp)
    clear HR
    go_enter Tryz.func67, Tryz.ntmps67
    go_wp2_with fail
    rw [HW0.out]
    go_ret
    exact ⟨ret_bool HF.out.symm, (HX.out _ hbz).2⟩
  by_cases g4 : now < us
  · have HF : Hid (r = false) := HR.out.trans (by rw [decide_eq_false (show ¬ us ≤ now by omega)]; simp)
    clear HR
    go_enter Tryz.func67, Tryz.ntmps67
    go_wp2_with fail
    rw [HW0.out]
    go_ret
    exact ⟨ret_bool HF.out.symm, (HX.out _ hbz).2⟩
  have HR2 : Hid (r = ((nameB nm && typB ty) && tellB (nm, ty, no, R, un, us))) := HR.out.trans (by rw [decide_eq_true (show now + 1 ≤ un by omega), decide_eq_true (show un ≤ now + 100000 by omega), decide_eq_true (show 1 ≤ us by omega), decide_eq_true (show us ≤ now by omega)]; rfl)
  clear HR
  obtain ⟨q1, hq1⟩ : ∃ q, q = (nameB nm && typB ty) := ⟨_, rfl⟩
  obtain ⟨q2, hq2⟩ : ∃ q, q = tellB (nm, ty, no, R, un, us) := ⟨_, rfl⟩
  rw [← hq1] at HOG HR2
  rw [← hq2] at HTE HR2
  clear hq1 hq2
  go_enter Tryz.func67, Tryz.ntmps67
  go_wp2_with fail
  rw [HW0.out, HGX.out]
  refine (HOE.out _).mono ?_
  rintro e w1 ⟨rfl, hb1⟩
  have hbw1 := (HX.out _ hb1).2
  go_wp2_with fail
  refine (HOG.out _ hbw1).mono ?_
  rintro e w2 ⟨rfl, hb2⟩
  have hb02 : Below W0.heap.size W0 w2 := hb1.trans (hb2.mono hb1.size)
  obtain ⟨⟨m0, m1, m2, m3, m4, m5⟩, hbw2⟩ := HX.out _ hb02
  clear hb1 hb2 hbw1
  cases q1 with
  | false =>
    have HF : Hid (r = false) := HR2.out
    clear HR2
    go_wp2_with fail
    go_ret
    exact ⟨ret_bool HF.out.symm, hbw2⟩
  | true =>
    have HF : Hid (r = q2) := HR2.out.trans (by simp)
    clear HR2
    go_wp2_with fail
    refine (HTE.out _ hbw2).mono ?_
    rintro e w3 ⟨rfl, hb3⟩
    have hbw3 := hbw2.trans (hb3.mono hbw2.size)
    clear m0 m1 m2 m3 m4 m5
    go_wp2_with fail
    go_ret
    exact ⟨ret_bool HF.out.symm, hbw3⟩

theorem step_here {now : Int} {L : List EntT} {k : Nat} (hk : k < L.length) : stepE now L k = (entB now L[k] && (k == 0 || lessE (eO L (k - 1)) L[k])) := by unfold stepE; rw [eO_at hk]
theorem all_next {n : Nat} {p : Nat → Bool} (h : ∀ j, j < n → p j = true) (hn : p n = true) : ∀ j, j < n + 1 → p j = true := fun j hj => by
  rcases Nat.lt_or_ge j n with h' | h'
  · exact h j h'
  · obtain rfl : j = n := by omega
    exact hn

set_option maxRecDepth 20000 in
set_option maxHeartbeats 16000000 in
theorem iGoodCache_any (now : Int) (v : Value) (L : List EntT) (w : World) (hr : ERow w v L) (hx : Hid (∀ x ∈ L, EBig x)) (hE : EnvR w) :
    Calls Tryz.prog 38 #[CchV now v] w fun e w' => e = .returned (.bool (goodC now L)) ∧ Below w.heap.size w w' := by
  unfold CchV
  obtain ⟨a, cap, rfl, hcap, hmax, HROW⟩ := erow_value hr
  clear hr
  obtain ⟨r, hrr⟩ : ∃ r, r = goodC now L := ⟨_, rfl⟩
  have HRR : Hid (r = goodC now L) := hrr
  rw [← hrr]
  clear hrr
  obtain ⟨WB, hWB⟩ : ∃ W, W = w.alloc (.cells #[.int .i64 now, .slice a L.length cap] 30) := ⟨_, rfl⟩
  have HWB : Hid (w.alloc (.cells #[.int .i64 now, .slice a L.length cap] 30) = WB) := hWB.symm
  have HCB : Hid (∀ W, Below WB.heap.size WB W → (W.cell? ⟨w.heap.size, 0, none⟩ = some (.int .i64 now) ∧ W.cell? ⟨w.heap.size, 1, none⟩ = some (.slice a L.length cap)) ∧ Below w.heap.size w W) := fun W hW => by rw [hWB] at hW; exact box2c hW
  have hbz : Below WB.heap.size WB WB := Below.refl _ _
  clear hWB
  by_cases g1 : now < 1
  · have HF : Hid (r = false) := HRR.out.trans (goodC_now (by omega))
    go_enter Tryz.func38, Tryz.ntmps38
    go_wp2_with fail
    rw [HWB.out]
    go_ret
    exact ⟨ret_bool HF.out.symm, (HCB.out _ hbz).2⟩
  by_cases g2 : 1000000000 < now
  · have HF : Hid (r = false) := HRR.out.trans (goodC_now (by omega))
    go_enter Tryz.func38, Tryz.ntmps38
    go_wp2_with fail
    rw [HWB.out]
    go_ret
    exact ⟨ret_bool HF.out.symm, (HCB.out _ hbz).2⟩
  by_cases gl : L.length ≤ 20
  case neg =>
    have HF : Hid (r = false) := HRR.out.trans (goodC_many gl)
    have gli : (20 : Int) < (L.length : Int) := by omega
    clear gl
    go_enter Tryz.func38, Tryz.ntmps38
    go_wp2_with fail
    rw [HWB.out]
    go_ret
    exact ⟨ret_bool HF.out.symm, (HCB.out _ hbz).2⟩
  have gli : ¬ (20 : Int) < (L.length : Int) := by omega
  have hnow : 1 ≤ now ∧ now ≤ 1000000000 := by omega
  have HALL : Hid ((∀ j, j < L.length → stepE now L j = true) → r = true) := fun h => HRR.out.trans (goodC_all hnow gl h)
  have HBADA : Hid (∀ k, k < L.length → stepE now L k = false → r = false) := fun k hk h => HRR.out.trans (goodC_bad k hk h)
  have HNOW : Hid (1 ≤ now ∧ now ≤ 1000000000) := hnow
  clear HRR hnow
  go_enter Tryz.func38, Tryz.ntmps38
  go_wp2_with fail
  rw [HWB.out]
  go_loopw [22] (fun i wr => ∃ k : Nat, k ≤ L.length ∧ i = .int .i64 (k : Int) ∧ Hid (∀ j, j < k → stepE now L j = true) ∧ Below WB.heap.size WB wr) (fun i _ => L.length - (intOf i).toNat)
  case atStart => exact ⟨0, Nat.zero_le _, rfl, fun j h => absurd h (Nat.not_lt_zero _), Below.refl _ _⟩
  case round =>
    obtain ⟨k, hk, rfl, HA, hbB⟩ := hrel
    have hb : Below w.heap.size w wr := (HCB.out wr hbB).2
    by_cases hlt : k < L.length
    · obtain ⟨b, o, ha, hbl, hcel⟩ := HROW.out (by omega)
      subst ha
      obtain ⟨va, hcx0⟩ := hcel k hlt
      have hcx := hcx0.kept hb
      have hxl := hx.out _ (List.getElem_mem hlt)
      have HG : Hid (stepE now L k = (entB now (L[k]'hlt) && (k == 0 || lessE (eO L (k - 1)) (L[k]'hlt)))) := step_here hlt
      have HBAD : Hid (stepE now L k = false → r = false) := HBADA.out k hlt
      have HUPA : Hid (stepE now L k = true → ∀ j, j < k + 1 → stepE now L j = true) := fun h => all_next HA.out h
      have HPREV : Hid (∀ j, (hj : k = j + 1) → ∃ y vb, eO L (k - 1) = y ∧ nameB y.1 = true ∧ (∃ a n c, vb = .slice a n c) ∧ ∀ W, Below w.heap.size w W → EntAt W b (o + j * 6) y vb) := fun j hj => by
        obtain ⟨vb, h⟩ := hcel j (by omega)
        have h1 := HA.out j (by omega)
        rw [step_here (show j < L.length by omega)] at h1
        simp only [Bool.and_eq_true] at h1
        obtain ⟨a1, c1, e1, _⟩ := id h.2
        exact ⟨_, vb, by rw [show k - 1 = j by omega, eO_at (show j < L.length by omega)], ent_name h1.1, ⟨a1, _, c1, e1⟩, fun W hW => h.kept hW⟩
      obtain ⟨x, hxe⟩ : ∃ x, x = L[k]'hlt := ⟨_, rfl⟩
      rw [← hxe] at HG hcx hxl
      clear hxe hcx0 hcel HBADA
      obtain ⟨nm, ty, no, R, un, us⟩ := x
      have hz : RRow wr va R := hcx.2
      unfold EntAt at hcx
      obtain ⟨⟨c0, c1, c2, c3, c4, c5⟩, _⟩ := hcx
      obtain ⟨aa, ca, rfl, hca1, hca, _⟩ := id hz
      obtain ⟨W0, hW0⟩ : ∃ W0, W0 = wr.alloc (.cells #[.string ⟨nm.toArray⟩, .int .i64 ty, .bool no, .slice aa R.length ca, .int .i64 un, .int .i64 us] 44) := ⟨_, rfl⟩
      have HW0 : Hid (wr.alloc (.cells #[.string ⟨nm.toArray⟩, .int .i64 ty, .bool no, .slice aa R.length ca, .int .i64 un, .int .i64 us] 44) = W0) := hW0.symm
      obtain ⟨gx, hgx⟩ : ∃ gx, gx = wr.heap.size := ⟨_, rfl⟩
      have HGX : Hid (wr.heap.size = gx) := hgx.symm
      have HTR : Hid (∀ W W', Below W0.heap.size W0 W → Below W.heap.size W W' → Below W0.heap.size W0 W') := fun W W' h1 h2 => h1.trans (h2.mono h1.size)
      have HX : Hid (∀ W, Below W0.heap.size W0 W → (W.cell? ⟨gx, 0, none⟩ = some (.string ⟨nm.toArray⟩) ∧ W.cell? ⟨gx, 1, none⟩ = some (.int .i64 ty) ∧ W.cell? ⟨gx, 2, none⟩ = some (.bool no) ∧ W.cell? ⟨gx, 3, none⟩ = some (.slice aa R.length ca) ∧ W.cell? ⟨gx, 4, none⟩ = some (.int .i64 un) ∧ W.cell? ⟨gx, 5, none⟩ = some (.int .i64 us)) ∧ Below wr.heap.size wr W) := fun W hW => by rw [hW0] at hW; rw [hgx]; exact box6c hW
      have HIB : Hid (∀ W, Below W0.heap.size W0 W → Below WB.heap.size WB W) := fun W hW => hbB.trans ((HX.out W hW).2.mono hbB.size)
      have HBW : Hid (∀ W, Below W0.heap.size W0 W → Below w.heap.size w W) := fun W hW => (HCB.out W (HIB.out W hW)).2
      have HCX : Hid (∀ W, Below W0.heap.size W0 W → W.cell? ⟨w.heap.size, 0, none⟩ = some (.int .i64 now) ∧ W.cell? ⟨w.heap.size, 1, none⟩ = some (.slice (some ⟨b, o, none⟩) L.length cap)) := fun W hW => (HCB.out W (HIB.out W hW)).1
      have HEN : Hid (∀ W, Below W0.heap.size W0 W → Calls Tryz.prog 67 #[.int .i64 now, .agg #[.string ⟨nm.toArray⟩, .int .i64 ty, .bool no, .slice aa R.length ca, .int .i64 un, .int .i64 us]] W fun e w' => e = .returned (.bool (entB now (nm, ty, no, R, un, us))) ∧ Below W.heap.size W w') := fun W hW => isEntry_any now nm ty no _ R un us W HNOW.out (hz.kept (HX.out W hW).2) hxl.2.2 (hE.below (HBW.out W hW))
      have hbd : Below W0.heap.size W0 W0.drew := (Below.refl _ _).drew
      have hlk : (k : Int) < (L.length : Int) := by omega
      have HNX : Hid (entB now (nm, ty, no, R, un, us) = true → nameB nm = true) := fun h => ent_name h
      clear hW0 hgx hz hxl
      cases h1 : entB now (nm, ty, no, R, un, us) with
      | false =>
        have HF : Hid (r = false) := HBAD.out (HG.out.trans (by rw [h1]; rfl))
        rw [h1] at HEN
        clear HBAD HG h1 HUPA HPREV HNX
        obtain ⟨u32, hu32⟩ : ∃ u : Bool, u = true := ⟨_, rfl⟩
        have HU32 : Hid (u32 = true) := hu32
        clear hu32
        go_wp2_with fail
        rw [HW0.out, HGX.out]
        refine wp_region_quiet (C := fun W => Below W0.heap.size W0 W) (by kernel_rfl) (by kernel_rfl) hbd ?_
        refine wpQuiet_step (fun K hK => ?_)
        rw [if_pos (by rfl)]
        refine ⟨.pointer (some ⟨w.heap.size, 0, none⟩), fun W hW => quiet_ok ?_, hK _ ?_⟩
        · have q := HX.out W hW
          obtain ⟨⟨m0, m1, m2, m3, m4, m5⟩, _⟩ := q
          have q2 := HCX.out W hW
          obtain ⟨k0, k1⟩ := q2
          go_simp
          all_goals (try omega)
        clear hK K
        simp only [Act.put, List.setIfInBounds_toArray, List.set_cons_succ, List.set_cons_zero]
        refine wpQuiet_step (fun K hK => ?_)
        rw [if_pos (by rfl)]
        refine ⟨.int .i64 now, fun W hW => quiet_ok ?_, hK _ ?_⟩
        · have q := HX.out W hW
          obtain ⟨⟨m0, m1, m2, m3, m4, m5⟩, _⟩ := q
          have q2 := HCX.out W hW
          obtain ⟨k0, k1⟩ := q2
          go_simp
          all_goals (try omega)
        clear hK K
        simp only [Act.put, List.setIfInBounds_toArray, List.set_cons_succ, List.set_cons_zero]
        refine wpQuiet_step (fun K hK => ?_)
        rw [if_pos (by rfl)]
        refine ⟨.agg #[.string ⟨nm.toArray⟩, .int .i64 ty, .bool no, .slice aa R.length ca, .int .i64 un, .int .i64 us], fun W hW => quiet_ok ?_, hK _ ?_⟩
        · have q := HX.out W hW
          obtain ⟨⟨m0, m1, m2, m3, m4, m5⟩, _⟩ := q
          have q2 := HCX.out W hW
          obtain ⟨k0, k1⟩ := q2
          go_simp
          all_goals (try omega)
        clear hK K
        simp only [Act.put, List.setIfInBounds_toArray, List.set_cons_succ, List.set_cons_zero]
        refine wpQuiet_step (fun K hK => ?_)
        rw [if_pos (by rfl)]
        refine ⟨.bool false, fun W hW => quiet_call (f := 67) (args := #[.int .i64 now, .agg #[.string ⟨nm.toArray⟩, .int .i64 ty, .bool no, .slice aa R.length ca, .int .i64 un, .int .i64 us]]) ?_ ?_, hK _ ?_⟩
        · go_simp
        · exact (HEN.out W hW).mono fun e w'' h => ⟨h.1, HTR.out _ _ hW h.2⟩
        clear hK K
        simp only [Act.put, List.setIfInBounds_toArray, List.set_cons_succ, List.set_cons_zero]
        refine wpQuiet_step (fun K hK => ?_)
        rw [if_pos (by rfl)]
        refine ⟨.bool true, fun W hW => quiet_ok ?_, hK _ ?_⟩
        · have q := HX.out W hW
          obtain ⟨⟨m0, m1, m2, m3, m4, m5⟩, _⟩ := q
          have q2 := HCX.out W hW
          obtain ⟨k0, k1⟩ := q2
          go_simp
          all_goals (try omega)
        clear hK K
        simp only [Act.put, List.setIfInBounds_toArray, List.set_cons_succ, List.set_cons_zero]
        refine wpQuiet_step (fun K hK => ?_)
        rw [if_pos (by rfl)]
        refine ⟨.bool u32, fun W hW => quiet_ok ?_, hK _ ?_⟩
        · have q := HX.out W hW
          obtain ⟨⟨m0, m1, m2, m3, m4, m5⟩, _⟩ := q
          have q2 := HCX.out W hW
          obtain ⟨k0, k1⟩ := q2
          have v32 := HU32.out
          go_simp
          all_goals (try omega)
        clear hK K
        simp only [Act.put, List.setIfInBounds_toArray, List.set_cons_succ, List.set_cons_zero]
        refine BigFrame.wpQuiet_skip (by show (some u32 == some false) = false; rw [HU32.out]; rfl) ?_
        simp only [Act.put, List.setIfInBounds_toArray, List.set_cons_succ, List.set_cons_zero]
        refine BigFrame.wpQuiet_skip (by show (some u32 == some false) = false; rw [HU32.out]; rfl) ?_
        simp only [Act.put, List.setIfInBounds_toArray, List.set_cons_succ, List.set_cons_zero]
        refine BigFrame.wpQuiet_skip (by show (some u32 == some false) = false; rw [HU32.out]; rfl) ?_
        simp only [Act.put, List.setIfInBounds_toArray, List.set_cons_succ, List.set_cons_zero]
        generalize hund : (undef : Value) = un
        refine BigFrame.wpQuiet_skip (by rw [← hund]; rfl) ?_
        simp only [Act.put, List.setIfInBounds_toArray, List.set_cons_succ, List.set_cons_zero]
        refine BigFrame.wpQuiet_skip (by rw [← hund]; rfl) ?_
        simp only [Act.put, List.setIfInBounds_toArray, List.set_cons_succ, List.set_cons_zero]
        refine BigFrame.wpQuiet_skip (by rw [← hund]; rfl) ?_
        simp only [Act.put, List.setIfInBounds_toArray, List.set_cons_succ, List.set_cons_zero]
        refine BigFrame.wpQuiet_skip (by rw [← hund]; rfl) ?_
        simp only [Act.put, List.setIfInBounds_toArray, List.set_cons_succ, List.set_cons_zero]
        refine BigFrame.wpQuiet_skip (by rw [← hund]; rfl) ?_
        simp only [Act.put, List.setIfInBounds_toArray, List.set_cons_succ, List.set_cons_zero]
        refine BigFrame.wpQuiet_skip (by rw [← hund]; rfl) ?_
        simp only [Act.put, List.setIfInBounds_toArray, List.set_cons_succ, List.set_cons_zero]
        refine BigFrame.wpQuiet_skip (by rw [← hund]; rfl) ?_
        simp only [Act.put, List.setIfInBounds_toArray, List.set_cons_succ, List.set_cons_zero]
        refine BigFrame.wpQuiet_skip (by rw [← hund]; rfl) ?_
        simp only [Act.put, List.setIfInBounds_toArray, List.set_cons_succ, List.set_cons_zero]
        refine BigFrame.wpQuiet_skip (by rw [← hund]; rfl) ?_
        simp only [Act.put, List.setIfInBounds_toArray, List.set_cons_succ, List.set_cons_zero]
        refine BigFrame.wpQuiet_skip (by show (some u32 == some false) = false; rw [HU32.out]; rfl) ?_
        simp only [Act.put, List.setIfInBounds_toArray, List.set_cons_succ, List.set_cons_zero]
        refine wpQuiet_step (fun K hK => ?_)
        rw [if_pos (by rfl)]
        refine ⟨.bool true, fun W hW => quiet_ok ?_, hK _ ?_⟩
        · have q := HX.out W hW
          obtain ⟨⟨m0, m1, m2, m3, m4, m5⟩, _⟩ := q
          have q2 := HCX.out W hW
          obtain ⟨k0, k1⟩ := q2
          have v32 := HU32.out
          go_simp
          all_goals (try omega)
        clear hK K
        simp only [Act.put, List.setIfInBounds_toArray, List.set_cons_succ, List.set_cons_zero]
        subst hund
        refine wpQuiet_nil ?_
        intro W hW
        have hbW := HBW.out W hW
        go_wp2_with fail
        go_ret
        exact ⟨ret_bool HF.out.symm, hbW⟩
      | true =>
      rw [h1] at HEN
      have hnx := HNX.out h1
      rcases Nat.eq_zero_or_pos k with hk0 | hk0
      · have HU : Hid (∀ j, j < k + 1 → stepE now L j = true) := HUPA.out (HG.out.trans (by rw [h1, hk0]; rfl))
        have hk0i : ¬ (0 : Int) < (k : Int) := by omega
        clear HUPA HBAD HG HPREV hk0 h1 HNX hnx
        obtain ⟨u35, hu35⟩ : ∃ u : Bool, u = false := ⟨_, rfl⟩
        have HU35 : Hid (u35 = false) := hu35
        clear hu35
        go_wp2_with fail
        rw [HW0.out, HGX.out]
        refine wp_region_quiet (C := fun W => Below W0.heap.size W0 W) (by kernel_rfl) (by kernel_rfl) hbd ?_
        refine wpQuiet_step (fun K hK => ?_)
        rw [if_pos (by rfl)]
        refine ⟨.pointer (some ⟨w.heap.size, 0, none⟩), fun W hW => quiet_ok ?_, hK _ ?_⟩
        · have q := HX.out W hW
          obtain ⟨⟨m0, m1, m2, m3, m4, m5⟩, _⟩ := q
          have q2 := HCX.out W hW
          obtain ⟨k0, k1⟩ := q2
          go_simp
          all_goals (try omega)
        clear hK K
        simp only [Act.put, List.setIfInBounds_toArray, List.set_cons_succ, List.set_cons_zero]
        refine wpQuiet_step (fun K hK => ?_)
        rw [if_pos (by rfl)]
        refine ⟨.int .i64 now, fun W hW => quiet_ok ?_, hK _ ?_⟩
        · have q := HX.out W hW
          obtain ⟨⟨m0, m1, m2, m3, m4, m5⟩, _⟩ := q
          have q2 := HCX.out W hW
          obtain ⟨k0, k1⟩ := q2
          go_simp
          all_goals (try omega)
        clear hK K
        simp only [Act.put, List.setIfInBounds_toArray, List.set_cons_succ, List.set_cons_zero]
        refine wpQuiet_step (fun K hK => ?_)
        rw [if_pos (by rfl)]
        refine ⟨.agg #[.string ⟨nm.toArray⟩, .int .i64 ty, .bool no, .slice aa R.length ca, .int .i64 un, .int .i64 us], fun W hW => quiet_ok ?_, hK _ ?_⟩
        · have q := HX.out W hW
          obtain ⟨⟨m0, m1, m2, m3, m4, m5⟩, _⟩ := q
          have q2 := HCX.out W hW
          obtain ⟨k0, k1⟩ := q2
          go_simp
          all_goals (try omega)
        clear hK K
        simp only [Act.put, List.setIfInBounds_toArray, List.set_cons_succ, List.set_cons_zero]
        refine wpQuiet_step (fun K hK => ?_)
        rw [if_pos (by rfl)]
        refine ⟨.bool true, fun W hW => quiet_call (f := 67) (args := #[.int .i64 now, .agg #[.string ⟨nm.toArray⟩, .int .i64 ty, .bool no, .slice aa R.length ca, .int .i64 un, .int .i64 us]]) ?_ ?_, hK _ ?_⟩
        · go_simp
        · exact (HEN.out W hW).mono fun e w'' h => ⟨h.1, HTR.out _ _ hW h.2⟩
        clear hK K
        simp only [Act.put, List.setIfInBounds_toArray, List.set_cons_succ, List.set_cons_zero]
        refine wpQuiet_step (fun K hK => ?_)
        rw [if_pos (by rfl)]
        refine ⟨.bool false, fun W hW => quiet_ok ?_, hK _ ?_⟩
        · have q := HX.out W hW
          obtain ⟨⟨m0, m1, m2, m3, m4, m5⟩, _⟩ := q
          have q2 := HCX.out W hW
          obtain ⟨k0, k1⟩ := q2
          go_simp
          all_goals (try omega)
        clear hK K
        simp only [Act.put, List.setIfInBounds_toArray, List.set_cons_succ, List.set_cons_zero]
        refine wpQuiet_step (fun K hK => ?_)
        rw [if_pos (by rfl)]
        refine ⟨.bool false, fun W hW => quiet_ok ?_, hK _ ?_⟩
        · have q := HX.out W hW
          obtain ⟨⟨m0, m1, m2, m3, m4, m5⟩, _⟩ := q
          have q2 := HCX.out W hW
          obtain ⟨k0, k1⟩ := q2
          go_simp
          all_goals (try omega)
        clear hK K
        simp only [Act.put, List.setIfInBounds_toArray, List.set_cons_succ, List.set_cons_zero]
        refine wpQuiet_step (fun K hK => ?_)
        rw [if_pos (by rfl)]
        refine ⟨.int .i64 (k : Int), fun W hW => quiet_ok ?_, hK _ ?_⟩
        · have q := HX.out W hW
          obtain ⟨⟨m0, m1, m2, m3, m4, m5⟩, _⟩ := q
          have q2 := HCX.out W hW
          obtain ⟨k0, k1⟩ := q2
          go_simp
          all_goals (try omega)
        clear hK K
        simp only [Act.put, List.setIfInBounds_toArray, List.set_cons_succ, List.set_cons_zero]
        refine wpQuiet_step (fun K hK => ?_)
        rw [if_pos (by rfl)]
        refine ⟨.bool false, fun W hW => quiet_ok ?_, hK _ ?_⟩
        · have q := HX.out W hW
          obtain ⟨⟨m0, m1, m2, m3, m4, m5⟩, _⟩ := q
          have q2 := HCX.out W hW
          obtain ⟨k0, k1⟩ := q2
          go_simp
          all_goals (try omega)
        clear hK K
        simp only [Act.put, List.setIfInBounds_toArray, List.set_cons_succ, List.set_cons_zero]
        refine wpQuiet_step (fun K hK => ?_)
        rw [if_pos (by rfl)]
        refine ⟨.bool u35, fun W hW => quiet_ok ?_, hK _ ?_⟩
        · have q := HX.out W hW
          obtain ⟨⟨m0, m1, m2, m3, m4, m5⟩, _⟩ := q
          have q2 := HCX.out W hW
          obtain ⟨k0, k1⟩ := q2
          have v35 := HU35.out
          go_simp
          all_goals (try omega)
        clear hK K
        simp only [Act.put, List.setIfInBounds_toArray, List.set_cons_succ, List.set_cons_zero]
        refine BigFrame.wpQuiet_skip (by show (some u35 == some true) = false; rw [HU35.out]; rfl) ?_
        simp only [Act.put, List.setIfInBounds_toArray, List.set_cons_succ, List.set_cons_zero]
        refine BigFrame.wpQuiet_skip (by show (some u35 == some true) = false; rw [HU35.out]; rfl) ?_
        simp only [Act.put, List.setIfInBounds_toArray, List.set_cons_succ, List.set_cons_zero]
        refine BigFrame.wpQuiet_skip (by show (some u35 == some true) = false; rw [HU35.out]; rfl) ?_
        simp only [Act.put, List.setIfInBounds_toArray, List.set_cons_succ, List.set_cons_zero]
        refine BigFrame.wpQuiet_skip (by show (some u35 == some true) = false; rw [HU35.out]; rfl) ?_
        simp only [Act.put, List.setIfInBounds_toArray, List.set_cons_succ, List.set_cons_zero]
        refine BigFrame.wpQuiet_skip (by show (some u35 == some true) = false; rw [HU35.out]; rfl) ?_
        simp only [Act.put, List.setIfInBounds_toArray, List.set_cons_succ, List.set_cons_zero]
        refine BigFrame.wpQuiet_skip (by show (some u35 == some true) = false; rw [HU35.out]; rfl) ?_
        simp only [Act.put, List.setIfInBounds_toArray, List.set_cons_succ, List.set_cons_zero]
        refine BigFrame.wpQuiet_skip (by show (some u35 == some true) = false; rw [HU35.out]; rfl) ?_
        simp only [Act.put, List.setIfInBounds_toArray, List.set_cons_succ, List.set_cons_zero]
        refine BigFrame.wpQuiet_skip (by show (some u35 == some true) = false; rw [HU35.out]; rfl) ?_
        simp only [Act.put, List.setIfInBounds_toArray, List.set_cons_succ, List.set_cons_zero]
        refine BigFrame.wpQuiet_skip (by show (some u35 == some true) = false; rw [HU35.out]; rfl) ?_
        simp only [Act.put, List.setIfInBounds_toArray, List.set_cons_succ, List.set_cons_zero]
        refine wpQuiet_step (fun K hK => ?_)
        rw [if_pos (by rfl)]
        refine ⟨.bool false, fun W hW => quiet_ok ?_, hK _ ?_⟩
        · have q := HX.out W hW
          obtain ⟨⟨m0, m1, m2, m3, m4, m5⟩, _⟩ := q
          have q2 := HCX.out W hW
          obtain ⟨k0, k1⟩ := q2
          have v35 := HU35.out
          go_simp
          all_goals (try omega)
        clear hK K
        simp only [Act.put, List.setIfInBounds_toArray, List.set_cons_succ, List.set_cons_zero]
        refine wpQuiet_step (fun K hK => ?_)
        rw [if_pos (by rfl)]
        refine ⟨.bool false, fun W hW => quiet_ok ?_, hK _ ?_⟩
        · have q := HX.out W hW
          obtain ⟨⟨m0, m1, m2, m3, m4, m5⟩, _⟩ := q
          have q2 := HCX.out W hW
          obtain ⟨k0, k1⟩ := q2
          have v35 := HU35.out
          go_simp
          all_goals (try omega)
        clear hK K
        simp only [Act.put, List.setIfInBounds_toArray, List.set_cons_succ, List.set_cons_zero]
        refine wpQuiet_nil ?_
        intro W hW
        have hbW := HBW.out W hW
        have HIW : Hid (Below WB.heap.size WB W) := HIB.out W hW
        go_wp2_with fail
        go_roundw
        case rel => exact ⟨k + 1, by omega, by go_num, HU, HIW.out⟩
        case measure => simp [intOf]; omega
      · obtain ⟨j, hj⟩ : ∃ j, k = j + 1 := ⟨k - 1, by omega⟩
        obtain ⟨y, vb, hye, hny, hys, hyc⟩ := HPREV.out j hj
        rw [hye] at HG
        have HOR0 : Hid (∀ W, Below W0.heap.size W0 W → Calls Tryz.prog 68 #[.agg #[.string ⟨y.1.toArray⟩, .int .i64 y.2.1, .bool y.2.2.1, vb, .int .i64 y.2.2.2.2.1, .int .i64 y.2.2.2.2.2], .agg #[.string ⟨nm.toArray⟩, .int .i64 ty, .bool no, .slice aa R.length ca, .int .i64 un, .int .i64 us]] W fun e w' => e = .returned (.int .i64 (orI (cmpN y.1 nm) (Lib.compareInt y.2.1 ty))) ∧ Below W.heap.size W w') := fun W hW => orderE_any y (nm, ty, no, R, un, us) vb _ W ⟨hny, hnx⟩ hys ⟨_, _, _, rfl⟩ (hE.below (HBW.out W hW)).1
        have HLO : Hid (lessE y (nm, ty, no, R, un, us) = decide (orI (cmpN y.1 nm) (Lib.compareInt y.2.1 ty) < 0)) := less_ord
        obtain ⟨c, hc⟩ : ∃ c, c = orI (cmpN y.1 nm) (Lib.compareInt y.2.1 ty) := ⟨_, rfl⟩
        rw [← hc] at HOR0 HLO
        have HOR : Hid (∀ W, Below W0.heap.size W0 W → Calls Tryz.prog 68 #[.agg #[.string ⟨y.1.toArray⟩, .int .i64 y.2.1, .bool y.2.2.1, vb, .int .i64 y.2.2.2.2.1, .int .i64 y.2.2.2.2.2], .agg #[.string ⟨nm.toArray⟩, .int .i64 ty, .bool no, .slice aa R.length ca, .int .i64 un, .int .i64 us]] W fun e w' => e = .returned (.int .i64 c) ∧ Below W.heap.size W w') := HOR0
        have HY : Hid (∀ W, Below W0.heap.size W0 W → W.cell? ⟨b, o + j * 6, none⟩ = some (.string ⟨y.1.toArray⟩) ∧ W.cell? ⟨b, o + j * 6 + 1, none⟩ = some (.int .i64 y.2.1) ∧ W.cell? ⟨b, o + j * 6 + 2, none⟩ = some (.bool y.2.2.1) ∧ W.cell? ⟨b, o + j * 6 + 3, none⟩ = some (vb) ∧ W.cell? ⟨b, o + j * 6 + 4, none⟩ = some (.int .i64 y.2.2.2.2.1) ∧ W.cell? ⟨b, o + j * 6 + 5, none⟩ = some (.int .i64 y.2.2.2.2.2)) := fun W hW => (hyc W (HBW.out W hW)).1
        have hk0i : (0 : Int) < (k : Int) := by omega
        have wk : IntKind.i64.wrap ((k : Int) - 1) = (j : Int) := by rw [wrap_small _ (by omega) (by omega)]; omega
        have wk2 : (k : Int) - 1 = (j : Int) := by omega
        have wj : IntKind.i64.wrap (j : Int) = (j : Int) := wrap_small _ (by omega) (by omega)
        have hjl : (j : Int) < (L.length : Int) := by omega
        have HKB : Hid ((k == 0) = false) := by show _ = false; simp; omega
        clear HPREV hk0 hye hny hyc hj hc HOR0 hys hnx HNX
        by_cases h5 : 0 ≤ c
        · have HF : Hid (r = false) := HBAD.out (HG.out.trans (by rw [HKB.out, HLO.out, decide_eq_false (show ¬ c < 0 by omega)]; simp))
          clear HBAD HG h1 HUPA HKB HLO
          go_wp2_with fail
          rw [HW0.out, HGX.out]
          refine wp_region_quiet (C := fun W => Below W0.heap.size W0 W) (by kernel_rfl) (by kernel_rfl) hbd ?_
          refine wpQuiet_step (fun K hK => ?_)
          rw [if_pos (by rfl)]
          refine ⟨.pointer (some ⟨w.heap.size, 0, none⟩), fun W hW => quiet_ok ?_, hK _ ?_⟩
          · have q := HX.out W hW
            obtain ⟨⟨m0, m1, m2, m3, m4, m5⟩, _⟩ := q
            have q2 := HCX.out W hW
            obtain ⟨k0, k1⟩ := q2
            have q3 := HY.out W hW
            obtain ⟨y0, y1, y2, y3, y4, y5⟩ := q3
            go_simp
            all_goals (try omega)
          clear hK K
          simp only [Act.put, List.setIfInBounds_toArray, List.set_cons_succ, List.set_cons_zero]
          refine wpQuiet_step (fun K hK => ?_)
          rw [if_pos (by rfl)]
          refine ⟨.int .i64 now, fun W hW => quiet_ok ?_, hK _ ?_⟩
          · have q := HX.out W hW
            obtain ⟨⟨m0, m1, m2, m3, m4, m5⟩, _⟩ := q
            have q2 := HCX.out W hW
            obtain ⟨k0, k1⟩ := q2
            have q3 := HY.out W hW
            obtain ⟨y0, y1, y2, y3, y4, y5⟩ := q3
            go_simp
            all_goals (try omega)
          clear hK K
          simp only [Act.put, List.setIfInBounds_toArray, List.set_cons_succ, List.set_cons_zero]
          refine wpQuiet_step (fun K hK => ?_)
          rw [if_pos (by rfl)]
          refine ⟨.agg #[.string ⟨nm.toArray⟩, .int .i64 ty, .bool no, .slice aa R.length ca, .int .i64 un, .int .i64 us], fun W hW => quiet_ok ?_, hK _ ?_⟩
          · have q := HX.out W hW
            obtain ⟨⟨m0, m1, m2, m3, m4, m5⟩, _⟩ := q
            have q2 := HCX.out W hW
            obtain ⟨k0, k1⟩ := q2
            have q3 := HY.out W hW
            obtain ⟨y0, y1, y2, y3, y4, y5⟩ := q3
            go_simp
            all_goals (try omega)
          clear hK K
          simp only [Act.put, List.setIfInBounds_toArray, List.set_cons_succ, List.set_cons_zero]
          refine wpQuiet_step (fun K hK => ?_)
          rw [if_pos (by rfl)]
          refine ⟨.bool true, fun W hW => quiet_call (f := 67) (args := #[.int .i64 now, .agg #[.string ⟨nm.toArray⟩, .int .i64 ty, .bool no, .slice aa R.length ca, .int .i64 un, .int .i64 us]]) ?_ ?_, hK _ ?_⟩
          · go_simp
          · exact (HEN.out W hW).mono fun e w'' h => ⟨h.1, HTR.out _ _ hW h.2⟩
          clear hK K
          simp only [Act.put, List.setIfInBounds_toArray, List.set_cons_succ, List.set_cons_zero]
          refine wpQuiet_step (fun K hK => ?_)
          rw [if_pos (by rfl)]
          refine ⟨.bool false, fun W hW => quiet_ok ?_, hK _ ?_⟩
          · have q := HX.out W hW
            obtain ⟨⟨m0, m1, m2, m3, m4, m5⟩, _⟩ := q
            have q2 := HCX.out W hW
            obtain ⟨k0, k1⟩ := q2
            have q3 := HY.out W hW
            obtain ⟨y0, y1, y2, y3, y4, y5⟩ := q3
            go_simp
            all_goals (try omega)
          clear hK K
          simp only [Act.put, List.setIfInBounds_toArray, List.set_cons_succ, List.set_cons_zero]
          refine wpQuiet_step (fun K hK => ?_)
          rw [if_pos (by rfl)]
          refine ⟨.bool false, fun W hW => quiet_ok ?_, hK _ ?_⟩
          · have q := HX.out W hW
            obtain ⟨⟨m0, m1, m2, m3, m4, m5⟩, _⟩ := q
            have q2 := HCX.out W hW
            obtain ⟨k0, k1⟩ := q2
            have q3 := HY.out W hW
            obtain ⟨y0, y1, y2, y3, y4, y5⟩ := q3
            go_simp
            all_goals (try omega)
          clear hK K
          simp only [Act.put, List.setIfInBounds_toArray, List.set_cons_succ, List.set_cons_zero]
          refine wpQuiet_step (fun K hK => ?_)
          rw [if_pos (by rfl)]
          refine ⟨.int .i64 (k : Int), fun W hW => quiet_ok ?_, hK _ ?_⟩
          · have q := HX.out W hW
            obtain ⟨⟨m0, m1, m2, m3, m4, m5⟩, _⟩ := q
            have q2 := HCX.out W hW
            obtain ⟨k0, k1⟩ := q2
            have q3 := HY.out W hW
            obtain ⟨y0, y1, y2, y3, y4, y5⟩ := q3
            go_simp
            all_goals (try omega)
          clear hK K
          simp only [Act.put, List.setIfInBounds_toArray, List.set_cons_succ, List.set_cons_zero]
          refine wpQuiet_step (fun K hK => ?_)
          rw [if_pos (by rfl)]
          refine ⟨.bool true, fun W hW => quiet_ok ?_, hK _ ?_⟩
          · have q := HX.out W hW
            obtain ⟨⟨m0, m1, m2, m3, m4, m5⟩, _⟩ := q
            have q2 := HCX.out W hW
            obtain ⟨k0, k1⟩ := q2
            have q3 := HY.out W hW
            obtain ⟨y0, y1, y2, y3, y4, y5⟩ := q3
            go_simp
            all_goals (try omega)
          clear hK K
          simp only [Act.put, List.setIfInBounds_toArray, List.set_cons_succ, List.set_cons_zero]
          refine wpQuiet_step (fun K hK => ?_)
          rw [if_pos (by rfl)]
          refine ⟨.bool true, fun W hW => quiet_ok ?_, hK _ ?_⟩
          · have q := HX.out W hW
            obtain ⟨⟨m0, m1, m2, m3, m4, m5⟩, _⟩ := q
            have q2 := HCX.out W hW
            obtain ⟨k0, k1⟩ := q2
            have q3 := HY.out W hW
            obtain ⟨y0, y1, y2, y3, y4, y5⟩ := q3
            go_simp
            all_goals (try omega)
          clear hK K
          simp only [Act.put, List.setIfInBounds_toArray, List.set_cons_succ, List.set_cons_zero]
          refine wpQuiet_step (fun K hK => ?_)
          rw [if_pos (by rfl)]
          refine ⟨.pointer (some ⟨w.heap.size, 1, none⟩), fun W hW => quiet_ok ?_, hK _ ?_⟩
          · have q := HX.out W hW
            obtain ⟨⟨m0, m1, m2, m3, m4, m5⟩, _⟩ := q
            have q2 := HCX.out W hW
            obtain ⟨k0, k1⟩ := q2
            have q3 := HY.out W hW
            obtain ⟨y0, y1, y2, y3, y4, y5⟩ := q3
            go_simp
            all_goals (try omega)
          clear hK K
          simp only [Act.put, List.setIfInBounds_toArray, List.set_cons_succ, List.set_cons_zero]
          refine wpQuiet_step (fun K hK => ?_)
          rw [if_pos (by rfl)]
          refine ⟨.slice (some ⟨b, o, none⟩) L.length cap, fun W hW => quiet_ok ?_, hK _ ?_⟩
          · have q := HX.out W hW
            obtain ⟨⟨m0, m1, m2, m3, m4, m5⟩, _⟩ := q
            have q2 := HCX.out W hW
            obtain ⟨k0, k1⟩ := q2
            have q3 := HY.out W hW
            obtain ⟨y0, y1, y2, y3, y4, y5⟩ := q3
            go_simp
            all_goals (try omega)
          clear hK K
          simp only [Act.put, List.setIfInBounds_toArray, List.set_cons_succ, List.set_cons_zero]
          refine wpQuiet_step (fun K hK => ?_)
          rw [if_pos (by rfl)]
          refine ⟨.int .i64 (k : Int), fun W hW => quiet_ok ?_, hK _ ?_⟩
          · have q := HX.out W hW
            obtain ⟨⟨m0, m1, m2, m3, m4, m5⟩, _⟩ := q
            have q2 := HCX.out W hW
            obtain ⟨k0, k1⟩ := q2
            have q3 := HY.out W hW
            obtain ⟨y0, y1, y2, y3, y4, y5⟩ := q3
            go_simp
            all_goals (try omega)
          clear hK K
          simp only [Act.put, List.setIfInBounds_toArray, List.set_cons_succ, List.set_cons_zero]
          refine wpQuiet_step (fun K hK => ?_)
          rw [if_pos (by rfl)]
          refine ⟨.int .i64 (j : Int), fun W hW => quiet_ok ?_, hK _ ?_⟩
          · have q := HX.out W hW
            obtain ⟨⟨m0, m1, m2, m3, m4, m5⟩, _⟩ := q
            have q2 := HCX.out W hW
            obtain ⟨k0, k1⟩ := q2
            have q3 := HY.out W hW
            obtain ⟨y0, y1, y2, y3, y4, y5⟩ := q3
            go_simp
            all_goals (try omega)
          clear hK K
          simp only [Act.put, List.setIfInBounds_toArray, List.set_cons_succ, List.set_cons_zero]
          refine wpQuiet_step (fun K hK => ?_)
          rw [if_pos (by rfl)]
          refine ⟨.pointer (some ⟨b, o + j * 6, none⟩), fun W hW => quiet_ok ?_, hK _ ?_⟩
          · have q := HX.out W hW
            obtain ⟨⟨m0, m1, m2, m3, m4, m5⟩, _⟩ := q
            have q2 := HCX.out W hW
            obtain ⟨k0, k1⟩ := q2
            have q3 := HY.out W hW
            obtain ⟨y0, y1, y2, y3, y4, y5⟩ := q3
            go_simp
            all_goals (try omega)
          clear hK K
          simp only [Act.put, List.setIfInBounds_toArray, List.set_cons_succ, List.set_cons_zero]
          refine wpQuiet_step (fun K hK => ?_)
          rw [if_pos (by rfl)]
          refine ⟨.agg #[.string ⟨y.1.toArray⟩, .int .i64 y.2.1, .bool y.2.2.1, vb, .int .i64 y.2.2.2.2.1, .int .i64 y.2.2.2.2.2], fun W hW => quiet_ok ?_, hK _ ?_⟩
          · have q := HX.out W hW
            obtain ⟨⟨m0, m1, m2, m3, m4, m5⟩, _⟩ := q
            have q2 := HCX.out W hW
            obtain ⟨k0, k1⟩ := q2
            have q3 := HY.out W hW
            obtain ⟨y0, y1, y2, y3, y4, y5⟩ := q3
            go_simp
            all_goals (try omega)
          clear hK K
          simp only [Act.put, List.setIfInBounds_toArray, List.set_cons_succ, List.set_cons_zero]
          refine wpQuiet_step (fun K hK => ?_)
          rw [if_pos (by rfl)]
          refine ⟨.agg #[.string ⟨nm.toArray⟩, .int .i64 ty, .bool no, .slice aa R.length ca, .int .i64 un, .int .i64 us], fun W hW => quiet_ok ?_, hK _ ?_⟩
          · have q := HX.out W hW
            obtain ⟨⟨m0, m1, m2, m3, m4, m5⟩, _⟩ := q
            have q2 := HCX.out W hW
            obtain ⟨k0, k1⟩ := q2
            have q3 := HY.out W hW
            obtain ⟨y0, y1, y2, y3, y4, y5⟩ := q3
            go_simp
            all_goals (try omega)
          clear hK K
          simp only [Act.put, List.setIfInBounds_toArray, List.set_cons_succ, List.set_cons_zero]
          refine wpQuiet_step (fun K hK => ?_)
          rw [if_pos (by rfl)]
          refine ⟨.int .i64 c, fun W hW => quiet_call (f := 68) (args := #[.agg #[.string ⟨y.1.toArray⟩, .int .i64 y.2.1, .bool y.2.2.1, vb, .int .i64 y.2.2.2.2.1, .int .i64 y.2.2.2.2.2], .agg #[.string ⟨nm.toArray⟩, .int .i64 ty, .bool no, .slice aa R.length ca, .int .i64 un, .int .i64 us]]) ?_ ?_, hK _ ?_⟩
          · go_simp
          · exact (HOR.out W hW).mono fun e w'' h => ⟨h.1, HTR.out _ _ hW h.2⟩
          clear hK K
          simp only [Act.put, List.setIfInBounds_toArray, List.set_cons_succ, List.set_cons_zero]
          refine wpQuiet_step (fun K hK => ?_)
          rw [if_pos (by rfl)]
          refine ⟨.bool true, fun W hW => quiet_ok ?_, hK _ ?_⟩
          · have q := HX.out W hW
            obtain ⟨⟨m0, m1, m2, m3, m4, m5⟩, _⟩ := q
            have q2 := HCX.out W hW
            obtain ⟨k0, k1⟩ := q2
            have q3 := HY.out W hW
            obtain ⟨y0, y1, y2, y3, y4, y5⟩ := q3
            go_simp
            all_goals (try omega)
          clear hK K
          simp only [Act.put, List.setIfInBounds_toArray, List.set_cons_succ, List.set_cons_zero]
          refine wpQuiet_step (fun K hK => ?_)
          rw [if_pos (by rfl)]
          refine ⟨.bool true, fun W hW => quiet_ok ?_, hK _ ?_⟩
          · have q := HX.out W hW
            obtain ⟨⟨m0, m1, m2, m3, m4, m5⟩, _⟩ := q
            have q2 := HCX.out W hW
            obtain ⟨k0, k1⟩ := q2
            have q3 := HY.out W hW
            obtain ⟨y0, y1, y2, y3, y4, y5⟩ := q3
            go_simp
            all_goals (try omega)
          clear hK K
          simp only [Act.put, List.setIfInBounds_toArray, List.set_cons_succ, List.set_cons_zero]
          refine wpQuiet_step (fun K hK => ?_)
          rw [if_pos (by rfl)]
          refine ⟨.bool true, fun W hW => quiet_ok ?_, hK _ ?_⟩
          · have q := HX.out W hW
            obtain ⟨⟨m0, m1, m2, m3, m4, m5⟩, _⟩ := q
            have q2 := HCX.out W hW
            obtain ⟨k0, k1⟩ := q2
            have q3 := HY.out W hW
            obtain ⟨y0, y1, y2, y3, y4, y5⟩ := q3
            go_simp
            all_goals (try omega)
          clear hK K
          simp only [Act.put, List.setIfInBounds_toArray, List.set_cons_succ, List.set_cons_zero]
          refine wpQuiet_nil ?_
          intro W hW
          have hbW := HBW.out W hW
          go_wp2_with fail
          go_ret
          exact ⟨ret_bool HF.out.symm, hbW⟩
        · have HU : Hid (∀ j, j < k + 1 → stepE now L j = true) := HUPA.out (HG.out.trans (by rw [h1, HLO.out, decide_eq_true (show c < 0 by omega)]; simp))
          clear HUPA HBAD HG h1 HKB HLO
          go_wp2_with fail
          rw [HW0.out, HGX.out]
          refine wp_region_quiet (C := fun W => Below W0.heap.size W0 W) (by kernel_rfl) (by kernel_rfl) hbd ?_
          refine wpQuiet_step (fun K hK => ?_)
          rw [if_pos (by rfl)]
          refine ⟨.pointer (some ⟨w.heap.size, 0, none⟩), fun W hW => quiet_ok ?_, hK _ ?_⟩
          · have q := HX.out W hW
            obtain ⟨⟨m0, m1, m2, m3, m4, m5⟩, _⟩ := q
            have q2 := HCX.out W hW
            obtain ⟨k0, k1⟩ := q2
            have q3 := HY.out W hW
            obtain ⟨y0, y1, y2, y3, y4, y5⟩ := q3
            go_simp
            all_goals (try omega)
          clear hK K
          simp only [Act.put, List.setIfInBounds_toArray, List.set_cons_succ, List.set_cons_zero]
          refine wpQuiet_step (fun K hK => ?_)
          rw [if_pos (by rfl)]
          refine ⟨.int .i64 now, fun W hW => quiet_ok ?_, hK _ ?_⟩
          · have q := HX.out W hW
            obtain ⟨⟨m0, m1, m2, m3, m4, m5⟩, _⟩ := q
            have q2 := HCX.out W hW
            obtain ⟨k0, k1⟩ := q2
            have q3 := HY.out W hW
            obtain ⟨y0, y1, y2, y3, y4, y5⟩ := q3
            go_simp
            all_goals (try omega)
          clear hK K
          simp only [Act.put, List.setIfInBounds_toArray, List.set_cons_succ, List.set_cons_zero]
          refine wpQuiet_step (fun K hK => ?_)
          rw [if_pos (by rfl)]
          refine ⟨.agg #[.string ⟨nm.toArray⟩, .int .i64 ty, .bool no, .slice aa R.length ca, .int .i64 un, .int .i64 us], fun W hW => quiet_ok ?_, hK _ ?_⟩
          · have q := HX.out W hW
            obtain ⟨⟨m0, m1, m2, m3, m4, m5⟩, _⟩ := q
            have q2 := HCX.out W hW
            obtain ⟨k0, k1⟩ := q2
            have q3 := HY.out W hW
            obtain ⟨y0, y1, y2, y3, y4, y5⟩ := q3
            go_simp
            all_goals (try omega)
          clear hK K
          simp only [Act.put, List.setIfInBounds_toArray, List.set_cons_succ, List.set_cons_zero]
          refine wpQuiet_step (fun K hK => ?_)
          rw [if_pos (by rfl)]
          refine ⟨.bool true, fun W hW => quiet_call (f := 67) (args := #[.int .i64 now, .agg #[.string ⟨nm.toArray⟩, .int .i64 ty, .bool no, .slice aa R.length ca, .int .i64 un, .int .i64 us]]) ?_ ?_, hK _ ?_⟩
          · go_simp
          · exact (HEN.out W hW).mono fun e w'' h => ⟨h.1, HTR.out _ _ hW h.2⟩
          clear hK K
          simp only [Act.put, List.setIfInBounds_toArray, List.set_cons_succ, List.set_cons_zero]
          refine wpQuiet_step (fun K hK => ?_)
          rw [if_pos (by rfl)]
          refine ⟨.bool false, fun W hW => quiet_ok ?_, hK _ ?_⟩
          · have q := HX.out W hW
            obtain ⟨⟨m0, m1, m2, m3, m4, m5⟩, _⟩ := q
            have q2 := HCX.out W hW
            obtain ⟨k0, k1⟩ := q2
            have q3 := HY.out W hW
            obtain ⟨y0, y1, y2, y3, y4, y5⟩ := q3
            go_simp
            all_goals (try omega)
          clear hK K
          simp only [Act.put, List.setIfInBounds_toArray, List.set_cons_succ, List.set_cons_zero]
          refine wpQuiet_step (fun K hK => ?_)
          rw [if_pos (by rfl)]
          refine ⟨.bool false, fun W hW => quiet_ok ?_, hK _ ?_⟩
          · have q := HX.out W hW
            obtain ⟨⟨m0, m1, m2, m3, m4, m5⟩, _⟩ := q
            have q2 := HCX.out W hW
            obtain ⟨k0, k1⟩ := q2
            have q3 := HY.out W hW
            obtain ⟨y0, y1, y2, y3, y4, y5⟩ := q3
            go_simp
            all_goals (try omega)
          clear hK K
          simp only [Act.put, List.setIfInBounds_toArray, List.set_cons_succ, List.set_cons_zero]
          refine wpQuiet_step (fun K hK => ?_)
          rw [if_pos (by rfl)]
          refine ⟨.int .i64 (k : Int), fun W hW => quiet_ok ?_, hK _ ?_⟩
          · have q := HX.out W hW
            obtain ⟨⟨m0, m1, m2, m3, m4, m5⟩, _⟩ := q
            have q2 := HCX.out W hW
            obtain ⟨k0, k1⟩ := q2
            have q3 := HY.out W hW
            obtain ⟨y0, y1, y2, y3, y4, y5⟩ := q3
            go_simp
            all_goals (try omega)
          clear hK K
          simp only [Act.put, List.setIfInBounds_toArray, List.set_cons_succ, List.set_cons_zero]
          refine wpQuiet_step (fun K hK => ?_)
          rw [if_pos (by rfl)]
          refine ⟨.bool true, fun W hW => quiet_ok ?_, hK _ ?_⟩
          · have q := HX.out W hW
            obtain ⟨⟨m0, m1, m2, m3, m4, m5⟩, _⟩ := q
            have q2 := HCX.out W hW
            obtain ⟨k0, k1⟩ := q2
            have q3 := HY.out W hW
            obtain ⟨y0, y1, y2, y3, y4, y5⟩ := q3
            go_simp
            all_goals (try omega)
          clear hK K
          simp only [Act.put, List.setIfInBounds_toArray, List.set_cons_succ, List.set_cons_zero]
          refine wpQuiet_step (fun K hK => ?_)
          rw [if_pos (by rfl)]
          refine ⟨.bool true, fun W hW => quiet_ok ?_, hK _ ?_⟩
          · have q := HX.out W hW
            obtain ⟨⟨m0, m1, m2, m3, m4, m5⟩, _⟩ := q
            have q2 := HCX.out W hW
            obtain ⟨k0, k1⟩ := q2
            have q3 := HY.out W hW
            obtain ⟨y0, y1, y2, y3, y4, y5⟩ := q3
            go_simp
            all_goals (try omega)
          clear hK K
          simp only [Act.put, List.setIfInBounds_toArray, List.set_cons_succ, List.set_cons_zero]
          refine wpQuiet_step (fun K hK => ?_)
          rw [if_pos (by rfl)]
          refine ⟨.pointer (some ⟨w.heap.size, 1, none⟩), fun W hW => quiet_ok ?_, hK _ ?_⟩
          · have q := HX.out W hW
            obtain ⟨⟨m0, m1, m2, m3, m4, m5⟩, _⟩ := q
            have q2 := HCX.out W hW
            obtain ⟨k0, k1⟩ := q2
            have q3 := HY.out W hW
            obtain ⟨y0, y1, y2, y3, y4, y5⟩ := q3
            go_simp
            all_goals (try omega)
          clear hK K
          simp only [Act.put, List.setIfInBounds_toArray, List.set_cons_succ, List.set_cons_zero]
          refine wpQuiet_step (fun K hK => ?_)
          rw [if_pos (by rfl)]
          refine ⟨.slice (some ⟨b, o, none⟩) L.length cap, fun W hW => quiet_ok ?_, hK _ ?_⟩
          · have q := HX.out W hW
            obtain ⟨⟨m0, m1, m2, m3, m4, m5⟩, _⟩ := q
            have q2 := HCX.out W hW
            obtain ⟨k0, k1⟩ := q2
            have q3 := HY.out W hW
            obtain ⟨y0, y1, y2, y3, y4, y5⟩ := q3
            go_simp
            all_goals (try omega)
          clear hK K
          simp only [Act.put, List.setIfInBounds_toArray, List.set_cons_succ, List.set_cons_zero]
          refine wpQuiet_step (fun K hK => ?_)
          rw [if_pos (by rfl)]
          refine ⟨.int .i64 (k : Int), fun W hW => quiet_ok ?_, hK _ ?_⟩
          · have q := HX.out W hW
            obtain ⟨⟨m0, m1, m2, m3, m4, m5⟩, _⟩ := q
            have q2 := HCX.out W hW
            obtain ⟨k0, k1⟩ := q2
            have q3 := HY.out W hW
            obtain ⟨y0, y1, y2, y3, y4, y5⟩ := q3
            go_simp
            all_goals (try omega)
          clear hK K
          simp only [Act.put, List.setIfInBounds_toArray, List.set_cons_succ, List.set_cons_zero]
          refine wpQuiet_step (fun K hK => ?_)
          rw [if_pos (by rfl)]
          refine ⟨.int .i64 (j : Int), fun W hW => quiet_ok ?_, hK _ ?_⟩
          · have q := HX.out W hW
            obtain ⟨⟨m0, m1, m2, m3, m4, m5⟩, _⟩ := q
            have q2 := HCX.out W hW
            obtain ⟨k0, k1⟩ := q2
            have q3 := HY.out W hW
            obtain ⟨y0, y1, y2, y3, y4, y5⟩ := q3
            go_simp
            all_goals (try omega)
          clear hK K
          simp only [Act.put, List.setIfInBounds_toArray, List.set_cons_succ, List.set_cons_zero]
          refine wpQuiet_step (fun K hK => ?_)
          rw [if_pos (by rfl)]
          refine ⟨.pointer (some ⟨b, o + j * 6, none⟩), fun W hW => quiet_ok ?_, hK _ ?_⟩
          · have q := HX.out W hW
            obtain ⟨⟨m0, m1, m2, m3, m4, m5⟩, _⟩ := q
            have q2 := HCX.out W hW
            obtain ⟨k0, k1⟩ := q2
            have q3 := HY.out W hW
            obtain ⟨y0, y1, y2, y3, y4, y5⟩ := q3
            go_simp
            all_goals (try omega)
          clear hK K
          simp only [Act.put, List.setIfInBounds_toArray, List.set_cons_succ, List.set_cons_zero]
          refine wpQuiet_step (fun K hK => ?_)
          rw [if_pos (by rfl)]
          refine ⟨.agg #[.string ⟨y.1.toArray⟩, .int .i64 y.2.1, .bool y.2.2.1, vb, .int .i64 y.2.2.2.2.1, .int .i64 y.2.2.2.2.2], fun W hW => quiet_ok ?_, hK _ ?_⟩
          · have q := HX.out W hW
            obtain ⟨⟨m0, m1, m2, m3, m4, m5⟩, _⟩ := q
            have q2 := HCX.out W hW
            obtain ⟨k0, k1⟩ := q2
            have q3 := HY.out W hW
            obtain ⟨y0, y1, y2, y3, y4, y5⟩ := q3
            go_simp
            all_goals (try omega)
          clear hK K
          simp only [Act.put, List.setIfInBounds_toArray, List.set_cons_succ, List.set_cons_zero]
          refine wpQuiet_step (fun K hK => ?_)
          rw [if_pos (by rfl)]
          refine ⟨.agg #[.string ⟨nm.toArray⟩, .int .i64 ty, .bool no, .slice aa R.length ca, .int .i64 un, .int .i64 us], fun W hW => quiet_ok ?_, hK _ ?_⟩
          · have q := HX.out W hW
            obtain ⟨⟨m0, m1, m2, m3, m4, m5⟩, _⟩ := q
            have q2 := HCX.out W hW
            obtain ⟨k0, k1⟩ := q2
            have q3 := HY.out W hW
            obtain ⟨y0, y1, y2, y3, y4, y5⟩ := q3
            go_simp
            all_goals (try omega)
          clear hK K
          simp only [Act.put, List.setIfInBounds_toArray, List.set_cons_succ, List.set_cons_zero]
          refine wpQuiet_step (fun K hK => ?_)
          rw [if_pos (by rfl)]
          refine ⟨.int .i64 c, fun W hW => quiet_call (f := 68) (args := #[.agg #[.string ⟨y.1.toArray⟩, .int .i64 y.2.1, .bool y.2.2.1, vb, .int .i64 y.2.2.2.2.1, .int .i64 y.2.2.2.2.2], .agg #[.string ⟨nm.toArray⟩, .int .i64 ty, .bool no, .slice aa R.length ca, .int .i64 un, .int .i64 us]]) ?_ ?_, hK _ ?_⟩
          · go_simp
          · exact (HOR.out W hW).mono fun e w'' h => ⟨h.1, HTR.out _ _ hW h.2⟩
          clear hK K
          simp only [Act.put, List.setIfInBounds_toArray, List.set_cons_succ, List.set_cons_zero]
          refine wpQuiet_step (fun K hK => ?_)
          rw [if_pos (by rfl)]
          refine ⟨.bool false, fun W hW => quiet_ok ?_, hK _ ?_⟩
          · have q := HX.out W hW
            obtain ⟨⟨m0, m1, m2, m3, m4, m5⟩, _⟩ := q
            have q2 := HCX.out W hW
            obtain ⟨k0, k1⟩ := q2
            have q3 := HY.out W hW
            obtain ⟨y0, y1, y2, y3, y4, y5⟩ := q3
            go_simp
            all_goals (try omega)
          clear hK K
          simp only [Act.put, List.setIfInBounds_toArray, List.set_cons_succ, List.set_cons_zero]
          refine wpQuiet_step (fun K hK => ?_)
          rw [if_pos (by rfl)]
          refine ⟨.bool false, fun W hW => quiet_ok ?_, hK _ ?_⟩
          · have q := HX.out W hW
            obtain ⟨⟨m0, m1, m2, m3, m4, m5⟩, _⟩ := q
            have q2 := HCX.out W hW
            obtain ⟨k0, k1⟩ := q2
            have q3 := HY.out W hW
            obtain ⟨y0, y1, y2, y3, y4, y5⟩ := q3
            go_simp
            all_goals (try omega)
          clear hK K
          simp only [Act.put, List.setIfInBounds_toArray, List.set_cons_succ, List.set_cons_zero]
          refine wpQuiet_step (fun K hK => ?_)
          rw [if_pos (by rfl)]
          refine ⟨.bool false, fun W hW => quiet_ok ?_, hK _ ?_⟩
          · have q := HX.out W hW
            obtain ⟨⟨m0, m1, m2, m3, m4, m5⟩, _⟩ := q
            have q2 := HCX.out W hW
            obtain ⟨k0, k1⟩ := q2
            have q3 := HY.out W hW
            obtain ⟨y0, y1, y2, y3, y4, y5⟩ := q3
            go_simp
            all_goals (try omega)
          clear hK K
          simp only [Act.put, List.setIfInBounds_toArray, List.set_cons_succ, List.set_cons_zero]
          refine wpQuiet_nil ?_
          intro W hW
          have hbW := HBW.out W hW
          have HIW : Hid (Below WB.heap.size WB W) := HIB.out W hW
          go_wp2_with fail
          go_roundw
          case rel => exact ⟨k + 1, by omega, by go_num, HU, HIW.out⟩
          case measure => simp [intOf]; omega
    · have HF : Hid (r = true) := HALL.out (fun j hj => HA.out j (by omega))
      go_wp2_with fail
      go_ret
      exact ⟨ret_bool HF.out.symm, hb⟩
end Go.Proofs.YtgfiahfoghnpkaaGreatDoor
