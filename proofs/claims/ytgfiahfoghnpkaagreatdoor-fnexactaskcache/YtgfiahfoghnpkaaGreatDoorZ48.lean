import Derived.Test.YtgfiahfoghnpkaaGreatDoorZ47
import Derived.Test.YtgfiahfoghnpkaaGreatDoorZ05
namespace Go.Proofs.YtgfiahfoghnpkaaGreatDoor
open Go.RowKit
theorem aZ48 {α : Type} {l : List α} {i : Nat} {x : α} : l.toArray.setIfInBounds i x = (l.set i x).toArray := List.setIfInBounds_toArray ..
theorem bZ48 {α : Type} {x : α} {l : List α} {i : Nat} {y : α} : (x :: l).set (i + 1) y = x :: l.set i y := List.set_cons_succ
theorem cZ48 {α : Type} {x : α} {l : List α} {y : α} : (x :: l).set 0 y = y :: l := List.set_cons_zero

set_option maxRecDepth 20000 in
set_option maxHeartbeats 2000000 in
theorem l10Less_any (y x : EntT) (vb va : Value) (w : World) (hy : y.1.length ≤ 1048576) (hx : x.1.length ≤ 1048576) (hN : Hid (nameB y.1 = true ∧ nameB x.1 = true)) (sb : ∃ a n c, vb = .slice a n c) (sa : ∃ a n c, va = .slice a n c) :
    Calls Tryz.prog 63 #[.agg #[.string ⟨y.1.toArray⟩, .int .i64 y.2.1, .bool y.2.2.1, vb, .int .i64 y.2.2.2.2.1, .int .i64 y.2.2.2.2.2], .agg #[.string ⟨x.1.toArray⟩, .int .i64 x.2.1, .bool x.2.2.1, va, .int .i64 x.2.2.2.2.1, .int .i64 x.2.2.2.2.2]] w fun e w' => e = .returned (.bool (lessE y x)) ∧ Below w.heap.size w w' := by
  have HC : Hid (∀ W, Calls Tryz.prog 83 #[.string ⟨y.1.toArray⟩, .string ⟨x.1.toArray⟩] W fun e w' => e = .returned (.int .i64 (cmpN y.1 x.1)) ∧ Below W.heap.size W w') := fun W => l1Compare_any ⟨y.1.toArray⟩ ⟨x.1.toArray⟩ W (by rw [size_list]; omega) (by rw [size_list]; omega) hN
  obtain ⟨a1, n1, k1, rfl⟩ := sb
  obtain ⟨a2, n2, k2, rfl⟩ := sa
  have HR : Hid (lessE y x = (decide (cmpN y.1 x.1 < 0) || (decide (cmpN y.1 x.1 = 0) && decide (y.2.1 < x.2.1)))) := rfl
  obtain ⟨n0, ty, no, R, un, us⟩ := y
  obtain ⟨m0, tx, mo, S, um, ut⟩ := x
  simp only at HC HR hy hx ⊢
  obtain ⟨c, hc⟩ : ∃ c, c = cmpN n0 m0 := ⟨_, rfl⟩
  rw [← hc] at HC HR
  obtain ⟨r, hr⟩ : ∃ r, r = lessE (n0, ty, no, R, un, us) (m0, tx, mo, S, um, ut) := ⟨_, rfl⟩
  rw [← hr] at HR ⊢
  clear hc hr hN hy hx
  by_cases g1 : c < 0
  · have HF : Hid (r = true) := HR.out.trans (by simp [g1])
    clear HR
    go_enter Tryz.func63, Tryz.ntmps63
    go_wp2_with fail
    refine (HC.out _).mono ?_
    rintro e w1 ⟨rfl, hb1⟩
    obtain ⟨d, f, hbw⟩ := box2 hb1
    have d1 := d 1
    have f1 := f 1
    simp at d1 f1
    clear d f
    go_wp2_with fail
    go_ret
    exact ⟨ret_bool HF.out.symm, hbw⟩
  · by_cases g2 : c = 0
    · by_cases g3 : ty < tx
      · have HF : Hid (r = true) := HR.out.trans (by simp [g2, g3])
        clear HR
        have e2 : (c == 0) = true := by simpa using g2
        subst g2
        go_enter Tryz.func63, Tryz.ntmps63
        go_wp2_with fail
        refine (HC.out _).mono ?_
        rintro e w1 ⟨rfl, hb1⟩
        obtain ⟨d, f, hbw⟩ := box2 hb1
        have d1 := d 1
        have f1 := f 1
        simp at d1 f1
        clear d f
        go_wp2_with fail
        go_ret
        exact ⟨ret_bool HF.out.symm, hbw⟩
      · have HF : Hid (r = false) := HR.out.trans (by simp [g2, g3])
        clear HR
        have e2 : (c == 0) = true := by simpa using g2
        subst g2
        go_enter Tryz.func63, Tryz.ntmps63
        go_wp2_with fail
        refine (HC.out _).mono ?_
        rintro e w1 ⟨rfl, hb1⟩
        obtain ⟨d, f, hbw⟩ := box2 hb1
        have d1 := d 1
        have f1 := f 1
        simp at d1 f1
        clear d f
        go_wp2_with fail
        go_ret
        exact ⟨ret_bool ((decide_eq_false (by omega)).trans HF.out.symm), hbw⟩
    · have HF : Hid (r = false) := HR.out.trans (by simp [g1, g2])
      have e2 : (c == 0) = false := by simpa using g2
      clear HR
      go_enter Tryz.func63, Tryz.ntmps63
      go_wp2_with fail
      refine (HC.out _).mono ?_
      rintro e w1 ⟨rfl, hb1⟩
      obtain ⟨d, f, hbw⟩ := box2 hb1
      have d1 := d 1
      have f1 := f 1
      simp at d1 f1
      clear d f
      go_wp2_with fail
      go_ret
      exact ⟨ret_bool ((decide_eq_false (by omega)).trans HF.out.symm), hbw⟩
theorem rrow_val {w : World} {v : Value} {L : List (List UInt8 × Int × Int × List UInt8)} (h : RRow w v L) : ∃ a cap, v = .slice a L.length cap ∧ L.length ≤ cap ∧ cap ≤ 9223372036854775807 ∧ Hid (0 < L.length → ∃ b o, a = some ⟨b, o, none⟩ ∧ b < w.heap.size ∧ ∀ j, (hj : j < L.length) → RecAt w b (o + j * 4) L[j]) := by
  obtain ⟨a, cap, rfl, h1, h2, h3⟩ := h
  unfold maxLen at h2
  refine ⟨a, cap, rfl, h1, by omega, fun hp => ?_⟩
  rcases h3 with rfl | h3
  · simp at hp
  · exact h3
theorem step_at {now : Int} {L : List EntT} {k : Nat} (hk : k < L.length) : stepE now L k = (entB now L[k] && (k == 0 || lessE (eO L (k - 1)) L[k])) := by unfold stepE; rw [eO_at hk]
theorem ent_parts (now : Int) (nm : List UInt8) (ty : Int) (no : Bool) (R : List (List UInt8 × Int × Int × List UInt8)) (un us : Int) :
    entB now (nm, ty, no, R, un, us) = (((decide (now + 1 ≤ un) && decide (un ≤ now + 100000)) && (decide (1 ≤ us) && decide (us ≤ now))) && ((nameB nm && typB ty) && tellB (nm, ty, no, R, un, us))) := rfl
theorem up_all {n : Nat} {p : Nat → Bool} (h : ∀ j, j < n → p j = true) (hn : p n = true) : ∀ j, j < n + 1 → p j = true := fun j hj => by
  rcases Nat.lt_or_ge j n with h' | h'
  · exact h j h'
  · obtain rfl : j = n := by omega
    exact hn

set_option maxRecDepth 20000 in
set_option maxHeartbeats 16000000 in
theorem sGoodCache_any (now : Int) (v : Value) (L : List EntT) (w : World) (hr : ERow w v L) (hx : Hid (∀ x ∈ L, EBig x)) :
    Calls Tryz.prog 32 #[CchV now v] w fun e w' => e = .returned (.bool (goodC now L)) ∧ Below w.heap.size w w' := by
  unfold CchV
  obtain ⟨a, cap, rfl, hcap, hmax, HROW⟩ := erow_value hr
  clear hr
  obtain ⟨r, hrr⟩ : ∃ r, r = goodC now L := ⟨_, rfl⟩
  have HRR : Hid (r = goodC now L) := hrr
  rw [← hrr]
  clear hrr
  obtain ⟨WB, hWB⟩ : ∃ W, W = w.alloc (.cells #[.int .i64 now, .slice a L.length cap] 30) := ⟨_, rfl⟩
  have HWB : Hid (w.alloc (.cells #[.int .i64 now, .slice a L.length cap] 30) = WB) := hWB.symm
  have HCB : Hid (∀ W, Below WB.heap.size WB W → (W.cell? ⟨w.heap.size, 0, none⟩ = some (.int .i64 now) ∧ W.cell? ⟨w.heap.size, 1, none⟩ = some (.slice a L.length cap)) ∧ Below w.heap.size w W) := fun W hW => by rw [hWB] at hW; exact box2c hW
  have HIN : Hid (∀ W, Calls Tryz.prog 49 #[.int .i64 now, .int .i64 1, .int .i64 1000000000] W fun e w' => e = .returned (.bool (decide ((1 : Int) ≤ now) && decide (now ≤ 1000000000))) ∧ w' = W) := fun W => l1In_any now 1 1000000000 W
  clear hWB
  by_cases gn : 1 ≤ now ∧ now ≤ 1000000000
  case neg =>
    have HF : Hid (r = false) := HRR.out.trans (goodC_now gn)
    have e0 : (decide ((1 : Int) ≤ now) && decide (now ≤ 1000000000)) = false := by simp; omega
    rw [e0] at HIN
    clear gn e0
    go_enter Tryz.func32, Tryz.ntmps32
    go_wp2_with fail
    rw [HWB.out]
    refine (HIN.out _).mono ?_
    rintro e w1 ⟨rfl, rfl⟩
    have hbw := (HCB.out _ (Below.refl _ _)).2
    go_wp2_with fail
    go_ret
    exact ⟨ret_bool HF.out.symm, hbw⟩
  have e0 : (decide ((1 : Int) ≤ now) && decide (now ≤ 1000000000)) = true := by simp; omega
  rw [e0] at HIN
  clear e0
  by_cases gl : L.length ≤ 20
  case neg =>
    have HF : Hid (r = false) := HRR.out.trans (goodC_many gl)
    have gli : (20 : Int) < (L.length : Int) := by omega
    clear gn gl
    go_enter Tryz.func32, Tryz.ntmps32
    go_wp2_with fail
    rw [HWB.out]
    refine (HIN.out _).mono ?_
    rintro e w1 ⟨rfl, rfl⟩
    obtain ⟨⟨k0, k1⟩, hbw⟩ := HCB.out _ (Below.refl _ _)
    go_wp2_with fail
    go_ret
    exact ⟨ret_bool HF.out.symm, hbw⟩
  have gli : ¬ (20 : Int) < (L.length : Int) := by omega
  have HALL : Hid ((∀ j, j < L.length → stepE now L j = true) → r = true) := fun h => HRR.out.trans (goodC_all gn gl h)
  have HBADA : Hid (∀ k, k < L.length → stepE now L k = false → r = false) := fun k hk h => HRR.out.trans (goodC_bad k hk h)
  clear HRR
  go_enter Tryz.func32, Tryz.ntmps32
  go_wp2_with fail
  rw [HWB.out]
  refine (HIN.out _).mono ?_
  rintro e w1 ⟨rfl, hw1⟩
  rw [hw1]
  clear hw1
  obtain ⟨⟨k0, k1⟩, hbw⟩ := HCB.out _ (Below.refl _ _)
  go_wp2_with fail
  clear k0 k1 HIN hbw
  go_loopw [18] (fun i wr => ∃ k : Nat, k ≤ L.length ∧ i = .int .i64 (k : Int) ∧ Hid (∀ j, j < k → stepE now L j = true) ∧ Below WB.heap.size WB wr) (fun i _ => L.length - (intOf i).toNat)
  case atStart => exact ⟨0, Nat.zero_le _, rfl, fun j h => absurd h (Nat.not_lt_zero _), Below.refl _ _⟩
  case round =>
    obtain ⟨k, hk, rfl, HA, hbB⟩ := hrel
    have hb : Below w.heap.size w wr := (HCB.out wr hbB).2
    by_cases hlt : k < L.length
    · obtain ⟨b, o, ha, hbl, hcel⟩ := HROW.out (by omega)
      subst ha
      obtain ⟨va, hcx0⟩ := hcel k hlt
      have hcx := hcx0.kept hb
      have hxl := hx.out _ (List.getElem_mem hlt)
      have HG : Hid (stepE now L k = (entB now (L[k]'hlt) && (k == 0 || lessE (eO L (k - 1)) (L[k]'hlt)))) := step_at hlt
      have HBAD : Hid (stepE now L k = false → r = false) := HBADA.out k hlt
      have HUPA : Hid (stepE now L k = true → ∀ j, j < k + 1 → stepE now L j = true) := fun h => up_all HA.out h
      have HPREV : Hid (∀ j, (hj : k = j + 1) → ∃ y vb, eO L (k - 1) = y ∧ nameB y.1 = true ∧ y.1.length ≤ 1048576 ∧ (∃ a n c, vb = .slice a n c) ∧ ∀ W, Below w.heap.size w W → EntAt W b (o + j * 6) y vb) := fun j hj => by
        obtain ⟨vb, h⟩ := hcel j (by omega)
        have h1 := HA.out j (by omega)
        rw [step_at (show j < L.length by omega)] at h1
        simp only [Bool.and_eq_true] at h1
        obtain ⟨a1, c1, e1, _⟩ := id h.2
        exact ⟨_, vb, by rw [show k - 1 = j by omega, eO_at (show j < L.length by omega)], ent_name h1.1, (hx.out _ (List.getElem_mem (by omega))).1, ⟨a1, _, c1, e1⟩, fun W hW => h.kept hW⟩
      obtain ⟨x, hxe⟩ : ∃ x, x = L[k]'hlt := ⟨_, rfl⟩
      rw [← hxe] at HG hcx hxl
      clear hxe hcx0 hcel HBADA
      obtain ⟨nm, ty, no, R, un, us⟩ := x
      have hz : RRow wr va R := hcx.2
      unfold EntAt at hcx
      obtain ⟨⟨c0, c1, c2, c3, c4, c5⟩, _⟩ := hcx
      obtain ⟨aa, ca, rfl, hca1, hca, HROW2⟩ := rrow_val hz
      obtain ⟨W0, hW0⟩ : ∃ W0, W0 = wr.alloc (.cells #[.string ⟨nm.toArray⟩, .int .i64 ty, .bool no, .slice aa R.length ca, .int .i64 un, .int .i64 us] 44) := ⟨_, rfl⟩
      have HW0 : Hid (wr.alloc (.cells #[.string ⟨nm.toArray⟩, .int .i64 ty, .bool no, .slice aa R.length ca, .int .i64 un, .int .i64 us] 44) = W0) := hW0.symm
      obtain ⟨gx, hgx⟩ : ∃ gx, gx = wr.heap.size := ⟨_, rfl⟩
      have HGX : Hid (wr.heap.size = gx) := hgx.symm
      have HTR : Hid (∀ W W', Below W0.heap.size W0 W → Below W.heap.size W W' → Below W0.heap.size W0 W') := fun W W' h1 h2 => h1.trans (h2.mono h1.size)
      have HX : Hid (∀ W, Below W0.heap.size W0 W → (W.cell? ⟨gx, 0, none⟩ = some (.string ⟨nm.toArray⟩) ∧ W.cell? ⟨gx, 1, none⟩ = some (.int .i64 ty) ∧ W.cell? ⟨gx, 2, none⟩ = some (.bool no) ∧ W.cell? ⟨gx, 3, none⟩ = some (.slice aa R.length ca) ∧ W.cell? ⟨gx, 4, none⟩ = some (.int .i64 un) ∧ W.cell? ⟨gx, 5, none⟩ = some (.int .i64 us)) ∧ Below wr.heap.size wr W) := fun W hW => by rw [hW0] at hW; rw [hgx]; exact box6c hW
      have HIB : Hid (∀ W, Below W0.heap.size W0 W → Below WB.heap.size WB W) := fun W hW => hbB.trans ((HX.out W hW).2.mono hbB.size)
      have HBW : Hid (∀ W, Below W0.heap.size W0 W → Below w.heap.size w W) := fun W hW => (HCB.out W (HIB.out W hW)).2
      have HBR0 : Hid (∀ W, Below W0.heap.size W0 W → Below wr.heap.size wr W) := fun W hW => (HX.out W hW).2
      have HCX : Hid (∀ W, Below W0.heap.size W0 W → W.cell? ⟨w.heap.size, 0, none⟩ = some (.int .i64 now) ∧ W.cell? ⟨w.heap.size, 1, none⟩ = some (.slice (some ⟨b, o, none⟩) L.length cap)) := fun W hW => (HCB.out W (HIB.out W hW)).1
      have HN : Hid (∀ W, Calls Tryz.prog 47 #[.string ⟨nm.toArray⟩] W fun e w' => e = .returned (.bool (nameB nm)) ∧ Below W.heap.size W w') := fun W => sGoodName_any ⟨nm.toArray⟩ W (by rw [size_list]; have := hxl.1; simp only at this; omega)
      have HT : Hid (∀ W, Calls Tryz.prog 48 #[.int .i64 ty] W fun e w' => e = .returned (.bool (typB ty)) ∧ Below W.heap.size W w') := fun W => l3Type_any ty W
      have HIU : Hid (∀ W, Calls Tryz.prog 49 #[.int .i64 un, .int .i64 (now + 1), .int .i64 (now + 100000)] W fun e w' => e = .returned (.bool (decide (now + 1 ≤ un) && decide (un ≤ now + 100000))) ∧ Below W.heap.size W w') := fun W => (l1In_any un (now + 1) (now + 100000) W).mono fun e w' h => ⟨h.1, by rw [h.2]; exact Below.refl _ _⟩
      have HIS : Hid (∀ W, Calls Tryz.prog 49 #[.int .i64 us, .int .i64 1, .int .i64 now] W fun e w' => e = .returned (.bool (decide (1 ≤ us) && decide (us ≤ now))) ∧ Below W.heap.size W w') := fun W => (l1In_any us 1 now W).mono fun e w' h => ⟨h.1, by rw [h.2]; exact Below.refl _ _⟩
      have HSM : Hid (∀ W, Below W0.heap.size W0 W → Calls Tryz.prog 33 #[.slice aa R.length ca] W fun e w' => e = .returned (.bool (ansB R)) ∧ Below W.heap.size W w') := fun W hW => l10Same_any _ R W (hz.kept (HBR0.out W hW)) hxl.2.2
      have hbd : Below W0.heap.size W0 W0.drew := (Below.refl _ _).drew
      have wn1 : IntKind.i64.wrap (now + 1) = now + 1 := wrap_small _ (by omega) (by omega)
      have wn2 : IntKind.i64.wrap (now + 100000) = now + 100000 := wrap_small _ (by omega) (by omega)
      have hlk : (k : Int) < (L.length : Int) := by omega
      rw [ent_parts] at HG
      have HXL : Hid (nm.length ≤ 1048576) := hxl.1
      clear hW0 hgx hz hxl
      cases h1 : nameB nm with
      | false =>
        have HF : Hid (r = false) := HBAD.out (HG.out.trans (by rw [h1]; simp))
        rw [h1] at HN
        clear HBAD HG h1 HUPA HPREV HROW2
        obtain ⟨u27, hu27⟩ : ∃ u : Bool, u = true := ⟨_, rfl⟩
        have HU27 : Hid (u27 = true) := hu27
        clear hu27
        obtain ⟨u33, hu33⟩ : ∃ u : Bool, u = true := ⟨_, rfl⟩
        have HU33 : Hid (u33 = true) := hu33
        clear hu33
        obtain ⟨u45, hu45⟩ : ∃ u : Bool, u = true := ⟨_, rfl⟩
        have HU45 : Hid (u45 = true) := hu45
        clear hu45
        obtain ⟨u53, hu53⟩ : ∃ u : Bool, u = true := ⟨_, rfl⟩
        have HU53 : Hid (u53 = true) := hu53
        clear hu53
        go_wp2_with fail
        rw [HW0.out, HGX.out]
        refine wp_region_quiet (C := fun W => Below W0.heap.size W0 W) (by kernel_rfl) (by kernel_rfl) hbd ?_
        refine wpQuiet_step (fun K hK => ?_)
        rw [if_pos (by rfl)]
        refine ⟨.pointer (some ⟨gx, 0, none⟩), fun W hW => quiet_ok ?_, hK _ ?_⟩
        · have q := HX.out W hW
          obtain ⟨⟨m0, m1, m2, m3, m4, m5⟩, _⟩ := q
          have q2 := HCX.out W hW
          obtain ⟨k0, k1⟩ := q2
          go_simp
          all_goals (try omega)
        clear hK K
        simp only [Act.put, aZ48, bZ48, cZ48]
        refine wpQuiet_step (fun K hK => ?_)
        rw [if_pos (by rfl)]
        refine ⟨.string ⟨nm.toArray⟩, fun W hW => quiet_ok ?_, hK _ ?_⟩
        · have q := HX.out W hW
          obtain ⟨⟨m0, m1, m2, m3, m4, m5⟩, _⟩ := q
          have q2 := HCX.out W hW
          obtain ⟨k0, k1⟩ := q2
          go_simp
          all_goals (try omega)
        clear hK K
        simp only [Act.put, aZ48, bZ48, cZ48]
        refine wpQuiet_step (fun K hK => ?_)
        rw [if_pos (by rfl)]
        refine ⟨.bool false, fun W hW => quiet_call (f := 47) (args := #[.string ⟨nm.toArray⟩]) ?_ ?_, hK _ ?_⟩
        · go_simp
        · exact (HN.out W).mono fun e w'' h => ⟨h.1, HTR.out _ _ hW h.2⟩
        clear hK K
        simp only [Act.put, aZ48, bZ48, cZ48]
        refine wpQuiet_step (fun K hK => ?_)
        rw [if_pos (by rfl)]
        refine ⟨.bool true, fun W hW => quiet_ok ?_, hK _ ?_⟩
        · have q := HX.out W hW
          obtain ⟨⟨m0, m1, m2, m3, m4, m5⟩, _⟩ := q
          have q2 := HCX.out W hW
          obtain ⟨k0, k1⟩ := q2
          go_simp
          all_goals (try omega)
        clear hK K
        simp only [Act.put, aZ48, bZ48, cZ48]
        refine wpQuiet_step (fun K hK => ?_)
        rw [if_pos (by rfl)]
        refine ⟨.bool u27, fun W hW => quiet_ok ?_, hK _ ?_⟩
        · have q := HX.out W hW
          obtain ⟨⟨m0, m1, m2, m3, m4, m5⟩, _⟩ := q
          have q2 := HCX.out W hW
          obtain ⟨k0, k1⟩ := q2
          have v27 := HU27.out
          go_simp
          all_goals (try omega)
        clear hK K
        simp only [Act.put, aZ48, bZ48, cZ48]
        refine BigFrame.wpQuiet_skip (by show (some u27 == some false) = false; rw [HU27.out]; rfl) ?_
        simp only [Act.put, aZ48, bZ48, cZ48]
        refine BigFrame.wpQuiet_skip (by show (some u27 == some false) = false; rw [HU27.out]; rfl) ?_
        simp only [Act.put, aZ48, bZ48, cZ48]
        refine BigFrame.wpQuiet_skip (by show (some u27 == some false) = false; rw [HU27.out]; rfl) ?_
        simp only [Act.put, aZ48, bZ48, cZ48]
        refine BigFrame.wpQuiet_skip (by show (some u27 == some false) = false; rw [HU27.out]; rfl) ?_
        simp only [Act.put, aZ48, bZ48, cZ48]
        refine wpQuiet_step (fun K hK => ?_)
        rw [if_pos (by rfl)]
        refine ⟨.bool true, fun W hW => quiet_ok ?_, hK _ ?_⟩
        · have q := HX.out W hW
          obtain ⟨⟨m0, m1, m2, m3, m4, m5⟩, _⟩ := q
          have q2 := HCX.out W hW
          obtain ⟨k0, k1⟩ := q2
          have v27 := HU27.out
          go_simp
          all_goals (try omega)
        clear hK K
        simp only [Act.put, aZ48, bZ48, cZ48]
        refine wpQuiet_step (fun K hK => ?_)
        rw [if_pos (by rfl)]
        refine ⟨.bool u33, fun W hW => quiet_ok ?_, hK _ ?_⟩
        · have q := HX.out W hW
          obtain ⟨⟨m0, m1, m2, m3, m4, m5⟩, _⟩ := q
          have q2 := HCX.out W hW
          obtain ⟨k0, k1⟩ := q2
          have v27 := HU27.out
          have v33 := HU33.out
          go_simp
          all_goals (try omega)
        clear hK K
        simp only [Act.put, aZ48, bZ48, cZ48]
        refine BigFrame.wpQuiet_skip (by show (some u33 == some false) = false; rw [HU33.out]; rfl) ?_
        simp only [Act.put, aZ48, bZ48, cZ48]
        refine BigFrame.wpQuiet_skip (by show (some u33 == some false) = false; rw [HU33.out]; rfl) ?_
        simp only [Act.put, aZ48, bZ48, cZ48]
        refine BigFrame.wpQuiet_skip (by show (some u33 == some false) = false; rw [HU33.out]; rfl) ?_
        simp only [Act.put, aZ48, bZ48, cZ48]
        refine BigFrame.wpQuiet_skip (by show (some u33 == some false) = false; rw [HU33.out]; rfl) ?_
        simp only [Act.put, aZ48, bZ48, cZ48]
        refine BigFrame.wpQuiet_skip (by show (some u33 == some false) = false; rw [HU33.out]; rfl) ?_
        simp only [Act.put, aZ48, bZ48, cZ48]
        refine BigFrame.wpQuiet_skip (by show (some u33 == some false) = false; rw [HU33.out]; rfl) ?_
        simp only [Act.put, aZ48, bZ48, cZ48]
        refine BigFrame.wpQuiet_skip (by show (some u33 == some false) = false; rw [HU33.out]; rfl) ?_
        simp only [Act.put, aZ48, bZ48, cZ48]
        refine BigFrame.wpQuiet_skip (by show (some u33 == some false) = false; rw [HU33.out]; rfl) ?_
        simp only [Act.put, aZ48, bZ48, cZ48]
        refine BigFrame.wpQuiet_skip (by show (some u33 == some false) = false; rw [HU33.out]; rfl) ?_
        simp only [Act.put, aZ48, bZ48, cZ48]
        refine BigFrame.wpQuiet_skip (by show (some u33 == some false) = false; rw [HU33.out]; rfl) ?_
        simp only [Act.put, aZ48, bZ48, cZ48]
        refine wpQuiet_step (fun K hK => ?_)
        rw [if_pos (by rfl)]
        refine ⟨.bool true, fun W hW => quiet_ok ?_, hK _ ?_⟩
        · have q := HX.out W hW
          obtain ⟨⟨m0, m1, m2, m3, m4, m5⟩, _⟩ := q
          have q2 := HCX.out W hW
          obtain ⟨k0, k1⟩ := q2
          have v27 := HU27.out
          have v33 := HU33.out
          go_simp
          all_goals (try omega)
        clear hK K
        simp only [Act.put, aZ48, bZ48, cZ48]
        refine wpQuiet_step (fun K hK => ?_)
        rw [if_pos (by rfl)]
        refine ⟨.bool u45, fun W hW => quiet_ok ?_, hK _ ?_⟩
        · have q := HX.out W hW
          obtain ⟨⟨m0, m1, m2, m3, m4, m5⟩, _⟩ := q
          have q2 := HCX.out W hW
          obtain ⟨k0, k1⟩ := q2
          have v27 := HU27.out
          have v33 := HU33.out
          have v45 := HU45.out
          go_simp
          all_goals (try omega)
        clear hK K
        simp only [Act.put, aZ48, bZ48, cZ48]
        refine BigFrame.wpQuiet_skip (by show (some u45 == some false) = false; rw [HU45.out]; rfl) ?_
        simp only [Act.put, aZ48, bZ48, cZ48]
        refine BigFrame.wpQuiet_skip (by show (some u45 == some false) = false; rw [HU45.out]; rfl) ?_
        simp only [Act.put, aZ48, bZ48, cZ48]
        refine BigFrame.wpQuiet_skip (by show (some u45 == some false) = false; rw [HU45.out]; rfl) ?_
        simp only [Act.put, aZ48, bZ48, cZ48]
        refine BigFrame.wpQuiet_skip (by show (some u45 == some false) = false; rw [HU45.out]; rfl) ?_
        simp only [Act.put, aZ48, bZ48, cZ48]
        refine BigFrame.wpQuiet_skip (by show (some u45 == some false) = false; rw [HU45.out]; rfl) ?_
        simp only [Act.put, aZ48, bZ48, cZ48]
        refine BigFrame.wpQuiet_skip (by show (some u45 == some false) = false; rw [HU45.out]; rfl) ?_
        simp only [Act.put, aZ48, bZ48, cZ48]
        refine wpQuiet_step (fun K hK => ?_)
        rw [if_pos (by rfl)]
        refine ⟨.bool true, fun W hW => quiet_ok ?_, hK _ ?_⟩
        · have q := HX.out W hW
          obtain ⟨⟨m0, m1, m2, m3, m4, m5⟩, _⟩ := q
          have q2 := HCX.out W hW
          obtain ⟨k0, k1⟩ := q2
          have v27 := HU27.out
          have v33 := HU33.out
          have v45 := HU45.out
          go_simp
          all_goals (try omega)
        clear hK K
        simp only [Act.put, aZ48, bZ48, cZ48]
        refine wpQuiet_step (fun K hK => ?_)
        rw [if_pos (by rfl)]
        refine ⟨.bool u53, fun W hW => quiet_ok ?_, hK _ ?_⟩
        · have q := HX.out W hW
          obtain ⟨⟨m0, m1, m2, m3, m4, m5⟩, _⟩ := q
          have q2 := HCX.out W hW
          obtain ⟨k0, k1⟩ := q2
          have v27 := HU27.out
          have v33 := HU33.out
          have v45 := HU45.out
          have v53 := HU53.out
          go_simp
          all_goals (try omega)
        clear hK K
        simp only [Act.put, aZ48, bZ48, cZ48]
        refine BigFrame.wpQuiet_skip (by show (some u53 == some false) = false; rw [HU53.out]; rfl) ?_
        simp only [Act.put, aZ48, bZ48, cZ48]
        refine BigFrame.wpQuiet_skip (by show (some u53 == some false) = false; rw [HU53.out]; rfl) ?_
        simp only [Act.put, aZ48, bZ48, cZ48]
        refine BigFrame.wpQuiet_skip (by show (some u53 == some false) = false; rw [HU53.out]; rfl) ?_
        simp only [Act.put, aZ48, bZ48, cZ48]
        generalize hund : (undef : Value) = un
        refine BigFrame.wpQuiet_skip (by rw [← hund]; rfl) ?_
        simp only [Act.put, aZ48, bZ48, cZ48]
        refine BigFrame.wpQuiet_skip (by rw [← hund]; rfl) ?_
        simp only [Act.put, aZ48, bZ48, cZ48]
        refine BigFrame.wpQuiet_skip (by rw [← hund]; rfl) ?_
        simp only [Act.put, aZ48, bZ48, cZ48]
        refine BigFrame.wpQuiet_skip (by rw [← hund]; rfl) ?_
        simp only [Act.put, aZ48, bZ48, cZ48]
        refine BigFrame.wpQuiet_skip (by rw [← hund]; rfl) ?_
        simp only [Act.put, aZ48, bZ48, cZ48]
        refine BigFrame.wpQuiet_skip (by rw [← hund]; rfl) ?_
        simp only [Act.put, aZ48, bZ48, cZ48]
        refine BigFrame.wpQuiet_skip (by rw [← hund]; rfl) ?_
        simp only [Act.put, aZ48, bZ48, cZ48]
        refine BigFrame.wpQuiet_skip (by rw [← hund]; rfl) ?_
        simp only [Act.put, aZ48, bZ48, cZ48]
        refine BigFrame.wpQuiet_skip (by rw [← hund]; rfl) ?_
        simp only [Act.put, aZ48, bZ48, cZ48]
        refine BigFrame.wpQuiet_skip (by show (some u53 == some false) = false; rw [HU53.out]; rfl) ?_
        simp only [Act.put, aZ48, bZ48, cZ48]
        refine wpQuiet_step (fun K hK => ?_)
        rw [if_pos (by rfl)]
        refine ⟨.bool true, fun W hW => quiet_ok ?_, hK _ ?_⟩
        · have q := HX.out W hW
          obtain ⟨⟨m0, m1, m2, m3, m4, m5⟩, _⟩ := q
          have q2 := HCX.out W hW
          obtain ⟨k0, k1⟩ := q2
          have v27 := HU27.out
          have v33 := HU33.out
          have v45 := HU45.out
          have v53 := HU53.out
          go_simp
          all_goals (try omega)
        clear hK K
        simp only [Act.put, aZ48, bZ48, cZ48]
        subst hund
        refine wpQuiet_nil ?_
        intro W hW
        have hbW := HBW.out W hW
        go_wp2_with fail
        go_ret
        exact ⟨ret_bool HF.out.symm, hbW⟩
      | true =>
      rw [h1] at HN
      cases h2 : typB ty with
      | false =>
        have HF : Hid (r = false) := HBAD.out (HG.out.trans (by rw [h2]; simp))
        rw [h2] at HT
        clear HBAD HG h1 h2 HUPA HPREV HROW2
        obtain ⟨u33, hu33⟩ : ∃ u : Bool, u = true := ⟨_, rfl⟩
        have HU33 : Hid (u33 = true) := hu33
        clear hu33
        obtain ⟨u45, hu45⟩ : ∃ u : Bool, u = true := ⟨_, rfl⟩
        have HU45 : Hid (u45 = true) := hu45
        clear hu45
        obtain ⟨u53, hu53⟩ : ∃ u : Bool, u = true := ⟨_, rfl⟩
        have HU53 : Hid (u53 = true) := hu53
        clear hu53
        go_wp2_with fail
        rw [HW0.out, HGX.out]
        refine wp_region_quiet (C := fun W => Below W0.heap.size W0 W) (by kernel_rfl) (by kernel_rfl) hbd ?_
        refine wpQuiet_step (fun K hK => ?_)
        rw [if_pos (by rfl)]
        refine ⟨.pointer (some ⟨gx, 0, none⟩), fun W hW => quiet_ok ?_, hK _ ?_⟩
        · have q := HX.out W hW
          obtain ⟨⟨m0, m1, m2, m3, m4, m5⟩, _⟩ := q
          have q2 := HCX.out W hW
          obtain ⟨k0, k1⟩ := q2
          go_simp
          all_goals (try omega)
        clear hK K
        simp only [Act.put, aZ48, bZ48, cZ48]
        refine wpQuiet_step (fun K hK => ?_)
        rw [if_pos (by rfl)]
        refine ⟨.string ⟨nm.toArray⟩, fun W hW => quiet_ok ?_, hK _ ?_⟩
        · have q := HX.out W hW
          obtain ⟨⟨m0, m1, m2, m3, m4, m5⟩, _⟩ := q
          have q2 := HCX.out W hW
          obtain ⟨k0, k1⟩ := q2
          go_simp
          all_goals (try omega)
        clear hK K
        simp only [Act.put, aZ48, bZ48, cZ48]
        refine wpQuiet_step (fun K hK => ?_)
        rw [if_pos (by rfl)]
        refine ⟨.bool true, fun W hW => quiet_call (f := 47) (args := #[.string ⟨nm.toArray⟩]) ?_ ?_, hK _ ?_⟩
        · go_simp
        · exact (HN.out W).mono fun e w'' h => ⟨h.1, HTR.out _ _ hW h.2⟩
        clear hK K
        simp only [Act.put, aZ48, bZ48, cZ48]
        refine wpQuiet_step (fun K hK => ?_)
        rw [if_pos (by rfl)]
        refine ⟨.bool false, fun W hW => quiet_ok ?_, hK _ ?_⟩
        · have q := HX.out W hW
          obtain ⟨⟨m0, m1, m2, m3, m4, m5⟩, _⟩ := q
          have q2 := HCX.out W hW
          obtain ⟨k0, k1⟩ := q2
          go_simp
          all_goals (try omega)
        clear hK K
        simp only [Act.put, aZ48, bZ48, cZ48]
        refine wpQuiet_step (fun K hK => ?_)
        rw [if_pos (by rfl)]
        refine ⟨.bool false, fun W hW => quiet_ok ?_, hK _ ?_⟩
        · have q := HX.out W hW
          obtain ⟨⟨m0, m1, m2, m3, m4, m5⟩, _⟩ := q
          have q2 := HCX.out W hW
          obtain ⟨k0, k1⟩ := q2
          go_simp
          all_goals (try omega)
        clear hK K
        simp only [Act.put, aZ48, bZ48, cZ48]
        refine wpQuiet_step (fun K hK => ?_)
        rw [if_pos (by rfl)]
        refine ⟨.pointer (some ⟨gx, 1, none⟩), fun W hW => quiet_ok ?_, hK _ ?_⟩
        · have q := HX.out W hW
          obtain ⟨⟨m0, m1, m2, m3, m4, m5⟩, _⟩ := q
          have q2 := HCX.out W hW
          obtain ⟨k0, k1⟩ := q2
          go_simp
          all_goals (try omega)
        clear hK K
        simp only [Act.put, aZ48, bZ48, cZ48]
        refine wpQuiet_step (fun K hK => ?_)
        rw [if_pos (by rfl)]
        refine ⟨.int .i64 ty, fun W hW => quiet_ok ?_, hK _ ?_⟩
        · have q := HX.out W hW
          obtain ⟨⟨m0, m1, m2, m3, m4, m5⟩, _⟩ := q
          have q2 := HCX.out W hW
          obtain ⟨k0, k1⟩ := q2
          go_simp
          all_goals (try omega)
        clear hK K
        simp only [Act.put, aZ48, bZ48, cZ48]
        refine wpQuiet_step (fun K hK => ?_)
        rw [if_pos (by rfl)]
        refine ⟨.bool false, fun W hW => quiet_call (f := 48) (args := #[.int .i64 ty]) ?_ ?_, hK _ ?_⟩
        · go_simp
        · exact (HT.out W).mono fun e w'' h => ⟨h.1, HTR.out _ _ hW h.2⟩
        clear hK K
        simp only [Act.put, aZ48, bZ48, cZ48]
        refine wpQuiet_step (fun K hK => ?_)
        rw [if_pos (by rfl)]
        refine ⟨.bool true, fun W hW => quiet_ok ?_, hK _ ?_⟩
        · have q := HX.out W hW
          obtain ⟨⟨m0, m1, m2, m3, m4, m5⟩, _⟩ := q
          have q2 := HCX.out W hW
          obtain ⟨k0, k1⟩ := q2
          go_simp
          all_goals (try omega)
        clear hK K
        simp only [Act.put, aZ48, bZ48, cZ48]
        refine wpQuiet_step (fun K hK => ?_)
        rw [if_pos (by rfl)]
        refine ⟨.bool true, fun W hW => quiet_ok ?_, hK _ ?_⟩
        · have q := HX.out W hW
          obtain ⟨⟨m0, m1, m2, m3, m4, m5⟩, _⟩ := q
          have q2 := HCX.out W hW
          obtain ⟨k0, k1⟩ := q2
          go_simp
          all_goals (try omega)
        clear hK K
        simp only [Act.put, aZ48, bZ48, cZ48]
        refine wpQuiet_step (fun K hK => ?_)
        rw [if_pos (by rfl)]
        refine ⟨.bool u33, fun W hW => quiet_ok ?_, hK _ ?_⟩
        · have q := HX.out W hW
          obtain ⟨⟨m0, m1, m2, m3, m4, m5⟩, _⟩ := q
          have q2 := HCX.out W hW
          obtain ⟨k0, k1⟩ := q2
          have v33 := HU33.out
          go_simp
          all_goals (try omega)
        clear hK K
        simp only [Act.put, aZ48, bZ48, cZ48]
        refine BigFrame.wpQuiet_skip (by show (some u33 == some false) = false; rw [HU33.out]; rfl) ?_
        simp only [Act.put, aZ48, bZ48, cZ48]
        refine BigFrame.wpQuiet_skip (by show (some u33 == some false) = false; rw [HU33.out]; rfl) ?_
        simp only [Act.put, aZ48, bZ48, cZ48]
        refine BigFrame.wpQuiet_skip (by show (some u33 == some false) = false; rw [HU33.out]; rfl) ?_
        simp only [Act.put, aZ48, bZ48, cZ48]
        refine BigFrame.wpQuiet_skip (by show (some u33 == some false) = false; rw [HU33.out]; rfl) ?_
        simp only [Act.put, aZ48, bZ48, cZ48]
        refine BigFrame.wpQuiet_skip (by show (some u33 == some false) = false; rw [HU33.out]; rfl) ?_
        simp only [Act.put, aZ48, bZ48, cZ48]
        refine BigFrame.wpQuiet_skip (by show (some u33 == some false) = false; rw [HU33.out]; rfl) ?_
        simp only [Act.put, aZ48, bZ48, cZ48]
        refine BigFrame.wpQuiet_skip (by show (some u33 == some false) = false; rw [HU33.out]; rfl) ?_
        simp only [Act.put, aZ48, bZ48, cZ48]
        refine BigFrame.wpQuiet_skip (by show (some u33 == some false) = false; rw [HU33.out]; rfl) ?_
        simp only [Act.put, aZ48, bZ48, cZ48]
        refine BigFrame.wpQuiet_skip (by show (some u33 == some false) = false; rw [HU33.out]; rfl) ?_
        simp only [Act.put, aZ48, bZ48, cZ48]
        refine BigFrame.wpQuiet_skip (by show (some u33 == some false) = false; rw [HU33.out]; rfl) ?_
        simp only [Act.put, aZ48, bZ48, cZ48]
        refine wpQuiet_step (fun K hK => ?_)
        rw [if_pos (by rfl)]
        refine ⟨.bool true, fun W hW => quiet_ok ?_, hK _ ?_⟩
        · have q := HX.out W hW
          obtain ⟨⟨m0, m1, m2, m3, m4, m5⟩, _⟩ := q
          have q2 := HCX.out W hW
          obtain ⟨k0, k1⟩ := q2
          have v33 := HU33.out
          go_simp
          all_goals (try omega)
        clear hK K
        simp only [Act.put, aZ48, bZ48, cZ48]
        refine wpQuiet_step (fun K hK => ?_)
        rw [if_pos (by rfl)]
        refine ⟨.bool u45, fun W hW => quiet_ok ?_, hK _ ?_⟩
        · have q := HX.out W hW
          obtain ⟨⟨m0, m1, m2, m3, m4, m5⟩, _⟩ := q
          have q2 := HCX.out W hW
          obtain ⟨k0, k1⟩ := q2
          have v33 := HU33.out
          have v45 := HU45.out
          go_simp
          all_goals (try omega)
        clear hK K
        simp only [Act.put, aZ48, bZ48, cZ48]
        refine BigFrame.wpQuiet_skip (by show (some u45 == some false) = false; rw [HU45.out]; rfl) ?_
        simp only [Act.put, aZ48, bZ48, cZ48]
        refine BigFrame.wpQuiet_skip (by show (some u45 == some false) = false; rw [HU45.out]; rfl) ?_
        simp only [Act.put, aZ48, bZ48, cZ48]
        refine BigFrame.wpQuiet_skip (by show (some u45 == some false) = false; rw [HU45.out]; rfl) ?_
        simp only [Act.put, aZ48, bZ48, cZ48]
        refine BigFrame.wpQuiet_skip (by show (some u45 == some false) = false; rw [HU45.out]; rfl) ?_
        simp only [Act.put, aZ48, bZ48, cZ48]
        refine BigFrame.wpQuiet_skip (by show (some u45 == some false) = false; rw [HU45.out]; rfl) ?_
        simp only [Act.put, aZ48, bZ48, cZ48]
        refine BigFrame.wpQuiet_skip (by show (some u45 == some false) = false; rw [HU45.out]; rfl) ?_
        simp only [Act.put, aZ48, bZ48, cZ48]
        refine wpQuiet_step (fun K hK => ?_)
        rw [if_pos (by rfl)]
        refine ⟨.bool true, fun W hW => quiet_ok ?_, hK _ ?_⟩
        · have q := HX.out W hW
          obtain ⟨⟨m0, m1, m2, m3, m4, m5⟩, _⟩ := q
          have q2 := HCX.out W hW
          obtain ⟨k0, k1⟩ := q2
          have v33 := HU33.out
          have v45 := HU45.out
          go_simp
          all_goals (try omega)
        clear hK K
        simp only [Act.put, aZ48, bZ48, cZ48]
        refine wpQuiet_step (fun K hK => ?_)
        rw [if_pos (by rfl)]
        refine ⟨.bool u53, fun W hW => quiet_ok ?_, hK _ ?_⟩
        · have q := HX.out W hW
          obtain ⟨⟨m0, m1, m2, m3, m4, m5⟩, _⟩ := q
          have q2 := HCX.out W hW
          obtain ⟨k0, k1⟩ := q2
          have v33 := HU33.out
          have v45 := HU45.out
          have v53 := HU53.out
          go_simp
          all_goals (try omega)
        clear hK K
        simp only [Act.put, aZ48, bZ48, cZ48]
        refine BigFrame.wpQuiet_skip (by show (some u53 == some false) = false; rw [HU53.out]; rfl) ?_
        simp only [Act.put, aZ48, bZ48, cZ48]
        refine BigFrame.wpQuiet_skip (by show (some u53 == some false) = false; rw [HU53.out]; rfl) ?_
        simp only [Act.put, aZ48, bZ48, cZ48]
        refine BigFrame.wpQuiet_skip (by show (some u53 == some false) = false; rw [HU53.out]; rfl) ?_
        simp only [Act.put, aZ48, bZ48, cZ48]
        generalize hund : (undef : Value) = un
        refine BigFrame.wpQuiet_skip (by rw [← hund]; rfl) ?_
        simp only [Act.put, aZ48, bZ48, cZ48]
        refine BigFrame.wpQuiet_skip (by rw [← hund]; rfl) ?_
        simp only [Act.put, aZ48, bZ48, cZ48]
        refine BigFrame.wpQuiet_skip (by rw [← hund]; rfl) ?_
        simp only [Act.put, aZ48, bZ48, cZ48]
        refine BigFrame.wpQuiet_skip (by rw [← hund]; rfl) ?_
        simp only [Act.put, aZ48, bZ48, cZ48]
        refine BigFrame.wpQuiet_skip (by rw [← hund]; rfl) ?_
        simp only [Act.put, aZ48, bZ48, cZ48]
        refine BigFrame.wpQuiet_skip (by rw [← hund]; rfl) ?_
        simp only [Act.put, aZ48, bZ48, cZ48]
        refine BigFrame.wpQuiet_skip (by rw [← hund]; rfl) ?_
        simp only [Act.put, aZ48, bZ48, cZ48]
        refine BigFrame.wpQuiet_skip (by rw [← hund]; rfl) ?_
        simp only [Act.put, aZ48, bZ48, cZ48]
        refine BigFrame.wpQuiet_skip (by rw [← hund]; rfl) ?_
        simp only [Act.put, aZ48, bZ48, cZ48]
        refine BigFrame.wpQuiet_skip (by show (some u53 == some false) = false; rw [HU53.out]; rfl) ?_
        simp only [Act.put, aZ48, bZ48, cZ48]
        refine wpQuiet_step (fun K hK => ?_)
        rw [if_pos (by rfl)]
        refine ⟨.bool true, fun W hW => quiet_ok ?_, hK _ ?_⟩
        · have q := HX.out W hW
          obtain ⟨⟨m0, m1, m2, m3, m4, m5⟩, _⟩ := q
          have q2 := HCX.out W hW
          obtain ⟨k0, k1⟩ := q2
          have v33 := HU33.out
          have v45 := HU45.out
          have v53 := HU53.out
          go_simp
          all_goals (try omega)
        clear hK K
        simp only [Act.put, aZ48, bZ48, cZ48]
        subst hund
        refine wpQuiet_nil ?_
        intro W hW
        have hbW := HBW.out W hW
        go_wp2_with fail
        go_ret
        exact ⟨ret_bool HF.out.symm, hbW⟩
      | true =>
      rw [h2] at HT
      cases h3 : (decide (now + 1 ≤ un) && decide (un ≤ now + 100000)) with
      | false =>
        have HF : Hid (r = false) := HBAD.out (HG.out.trans (by rw [h3]; simp))
        rw [h3] at HIU
        clear HBAD HG h1 h2 h3 HUPA HPREV HROW2
        obtain ⟨u45, hu45⟩ : ∃ u : Bool, u = true := ⟨_, rfl⟩
        have HU45 : Hid (u45 = true) := hu45
        clear hu45
        obtain ⟨u53, hu53⟩ : ∃ u : Bool, u = true := ⟨_, rfl⟩
        have HU53 : Hid (u53 = true) := hu53
        clear hu53
        go_wp2_with fail
        rw [HW0.out, HGX.out]
        refine wp_region_quiet (C := fun W => Below W0.heap.size W0 W) (by kernel_rfl) (by kernel_rfl) hbd ?_
        refine wpQuiet_step (fun K hK => ?_)
        rw [if_pos (by rfl)]
        refine ⟨.pointer (some ⟨gx, 0, none⟩), fun W hW => quiet_ok ?_, hK _ ?_⟩
        · have q := HX.out W hW
          obtain ⟨⟨m0, m1, m2, m3, m4, m5⟩, _⟩ := q
          have q2 := HCX.out W hW
          obtain ⟨k0, k1⟩ := q2
          go_simp
          all_goals (try omega)
        clear hK K
        simp only [Act.put, aZ48, bZ48, cZ48]
        refine wpQuiet_step (fun K hK => ?_)
        rw [if_pos (by rfl)]
        refine ⟨.string ⟨nm.toArray⟩, fun W hW => quiet_ok ?_, hK _ ?_⟩
        · have q := HX.out W hW
          obtain ⟨⟨m0, m1, m2, m3, m4, m5⟩, _⟩ := q
          have q2 := HCX.out W hW
          obtain ⟨k0, k1⟩ := q2
          go_simp
          all_goals (try omega)
        clear hK K
        simp only [Act.put, aZ48, bZ48, cZ48]
        refine wpQuiet_step (fun K hK => ?_)
        rw [if_pos (by rfl)]
        refine ⟨.bool true, fun W hW => quiet_call (f := 47) (args := #[.string ⟨nm.toArray⟩]) ?_ ?_, hK _ ?_⟩
        · go_simp
        · exact (HN.out W).mono fun e w'' h => ⟨h.1, HTR.out _ _ hW h.2⟩
        clear hK K
        simp only [Act.put, aZ48, bZ48, cZ48]
        refine wpQuiet_step (fun K hK => ?_)
        rw [if_pos (by rfl)]
        refine ⟨.bool false, fun W hW => quiet_ok ?_, hK _ ?_⟩
        · have q := HX.out W hW
          obtain ⟨⟨m0, m1, m2, m3, m4, m5⟩, _⟩ := q
          have q2 := HCX.out W hW
          obtain ⟨k0, k1⟩ := q2
          go_simp
          all_goals (try omega)
        clear hK K
        simp only [Act.put, aZ48, bZ48, cZ48]
        refine wpQuiet_step (fun K hK => ?_)
        rw [if_pos (by rfl)]
        refine ⟨.bool false, fun W hW => quiet_ok ?_, hK _ ?_⟩
        · have q := HX.out W hW
          obtain ⟨⟨m0, m1, m2, m3, m4, m5⟩, _⟩ := q
          have q2 := HCX.out W hW
          obtain ⟨k0, k1⟩ := q2
          go_simp
          all_goals (try omega)
        clear hK K
        simp only [Act.put, aZ48, bZ48, cZ48]
        refine wpQuiet_step (fun K hK => ?_)
        rw [if_pos (by rfl)]
        refine ⟨.pointer (some ⟨gx, 1, none⟩), fun W hW => quiet_ok ?_, hK _ ?_⟩
        · have q := HX.out W hW
          obtain ⟨⟨m0, m1, m2, m3, m4, m5⟩, _⟩ := q
          have q2 := HCX.out W hW
          obtain ⟨k0, k1⟩ := q2
          go_simp
          all_goals (try omega)
        clear hK K
        simp only [Act.put, aZ48, bZ48, cZ48]
        refine wpQuiet_step (fun K hK => ?_)
        rw [if_pos (by rfl)]
        refine ⟨.int .i64 ty, fun W hW => quiet_ok ?_, hK _ ?_⟩
        · have q := HX.out W hW
          obtain ⟨⟨m0, m1, m2, m3, m4, m5⟩, _⟩ := q
          have q2 := HCX.out W hW
          obtain ⟨k0, k1⟩ := q2
          go_simp
          all_goals (try omega)
        clear hK K
        simp only [Act.put, aZ48, bZ48, cZ48]
        refine wpQuiet_step (fun K hK => ?_)
        rw [if_pos (by rfl)]
        refine ⟨.bool true, fun W hW => quiet_call (f := 48) (args := #[.int .i64 ty]) ?_ ?_, hK _ ?_⟩
        · go_simp
        · exact (HT.out W).mono fun e w'' h => ⟨h.1, HTR.out _ _ hW h.2⟩
        clear hK K
        simp only [Act.put, aZ48, bZ48, cZ48]
        refine wpQuiet_step (fun K hK => ?_)
        rw [if_pos (by rfl)]
        refine ⟨.bool false, fun W hW => quiet_ok ?_, hK _ ?_⟩
        · have q := HX.out W hW
          obtain ⟨⟨m0, m1, m2, m3, m4, m5⟩, _⟩ := q
          have q2 := HCX.out W hW
          obtain ⟨k0, k1⟩ := q2
          go_simp
          all_goals (try omega)
        clear hK K
        simp only [Act.put, aZ48, bZ48, cZ48]
        refine wpQuiet_step (fun K hK => ?_)
        rw [if_pos (by rfl)]
        refine ⟨.bool false, fun W hW => quiet_ok ?_, hK _ ?_⟩
        · have q := HX.out W hW
          obtain ⟨⟨m0, m1, m2, m3, m4, m5⟩, _⟩ := q
          have q2 := HCX.out W hW
          obtain ⟨k0, k1⟩ := q2
          go_simp
          all_goals (try omega)
        clear hK K
        simp only [Act.put, aZ48, bZ48, cZ48]
        refine wpQuiet_step (fun K hK => ?_)
        rw [if_pos (by rfl)]
        refine ⟨.bool false, fun W hW => quiet_ok ?_, hK _ ?_⟩
        · have q := HX.out W hW
          obtain ⟨⟨m0, m1, m2, m3, m4, m5⟩, _⟩ := q
          have q2 := HCX.out W hW
          obtain ⟨k0, k1⟩ := q2
          go_simp
          all_goals (try omega)
        clear hK K
        simp only [Act.put, aZ48, bZ48, cZ48]
        refine wpQuiet_step (fun K hK => ?_)
        rw [if_pos (by rfl)]
        refine ⟨.pointer (some ⟨gx, 4, none⟩), fun W hW => quiet_ok ?_, hK _ ?_⟩
        · have q := HX.out W hW
          obtain ⟨⟨m0, m1, m2, m3, m4, m5⟩, _⟩ := q
          have q2 := HCX.out W hW
          obtain ⟨k0, k1⟩ := q2
          go_simp
          all_goals (try omega)
        clear hK K
        simp only [Act.put, aZ48, bZ48, cZ48]
        refine wpQuiet_step (fun K hK => ?_)
        rw [if_pos (by rfl)]
        refine ⟨.int .i64 un, fun W hW => quiet_ok ?_, hK _ ?_⟩
        · have q := HX.out W hW
          obtain ⟨⟨m0, m1, m2, m3, m4, m5⟩, _⟩ := q
          have q2 := HCX.out W hW
          obtain ⟨k0, k1⟩ := q2
          go_simp
          all_goals (try omega)
        clear hK K
        simp only [Act.put, aZ48, bZ48, cZ48]
        refine wpQuiet_step (fun K hK => ?_)
        rw [if_pos (by rfl)]
        refine ⟨.pointer (some ⟨w.heap.size, 0, none⟩), fun W hW => quiet_ok ?_, hK _ ?_⟩
        · have q := HX.out W hW
          obtain ⟨⟨m0, m1, m2, m3, m4, m5⟩, _⟩ := q
          have q2 := HCX.out W hW
          obtain ⟨k0, k1⟩ := q2
          go_simp
          all_goals (try omega)
        clear hK K
        simp only [Act.put, aZ48, bZ48, cZ48]
        refine wpQuiet_step (fun K hK => ?_)
        rw [if_pos (by rfl)]
        refine ⟨.int .i64 now, fun W hW => quiet_ok ?_, hK _ ?_⟩
        · have q := HX.out W hW
          obtain ⟨⟨m0, m1, m2, m3, m4, m5⟩, _⟩ := q
          have q2 := HCX.out W hW
          obtain ⟨k0, k1⟩ := q2
          go_simp
          all_goals (try omega)
        clear hK K
        simp only [Act.put, aZ48, bZ48, cZ48]
        refine wpQuiet_step (fun K hK => ?_)
        rw [if_pos (by rfl)]
        refine ⟨.int .i64 (now + 1), fun W hW => quiet_ok ?_, hK _ ?_⟩
        · have q := HX.out W hW
          obtain ⟨⟨m0, m1, m2, m3, m4, m5⟩, _⟩ := q
          have q2 := HCX.out W hW
          obtain ⟨k0, k1⟩ := q2
          go_simp
          all_goals (try omega)
        clear hK K
        simp only [Act.put, aZ48, bZ48, cZ48]
        refine wpQuiet_step (fun K hK => ?_)
        rw [if_pos (by rfl)]
        refine ⟨.pointer (some ⟨w.heap.size, 0, none⟩), fun W hW => quiet_ok ?_, hK _ ?_⟩
        · have q := HX.out W hW
          obtain ⟨⟨m0, m1, m2, m3, m4, m5⟩, _⟩ := q
          have q2 := HCX.out W hW
          obtain ⟨k0, k1⟩ := q2
          go_simp
          all_goals (try omega)
        clear hK K
        simp only [Act.put, aZ48, bZ48, cZ48]
        refine wpQuiet_step (fun K hK => ?_)
        rw [if_pos (by rfl)]
        refine ⟨.int .i64 now, fun W hW => quiet_ok ?_, hK _ ?_⟩
        · have q := HX.out W hW
          obtain ⟨⟨m0, m1, m2, m3, m4, m5⟩, _⟩ := q
          have q2 := HCX.out W hW
          obtain ⟨k0, k1⟩ := q2
          go_simp
          all_goals (try omega)
        clear hK K
        simp only [Act.put, aZ48, bZ48, cZ48]
        refine wpQuiet_step (fun K hK => ?_)
        rw [if_pos (by rfl)]
        refine ⟨.int .i64 (now + 100000), fun W hW => quiet_ok ?_, hK _ ?_⟩
        · have q := HX.out W hW
          obtain ⟨⟨m0, m1, m2, m3, m4, m5⟩, _⟩ := q
          have q2 := HCX.out W hW
          obtain ⟨k0, k1⟩ := q2
          go_simp
          all_goals (try omega)
        clear hK K
        simp only [Act.put, aZ48, bZ48, cZ48]
        refine wpQuiet_step (fun K hK => ?_)
        rw [if_pos (by rfl)]
        refine ⟨.bool false, fun W hW => quiet_call (f := 49) (args := #[.int .i64 un, .int .i64 (now + 1), .int .i64 (now + 100000)]) ?_ ?_, hK _ ?_⟩
        · go_simp
        · exact (HIU.out W).mono fun e w'' h => ⟨h.1, HTR.out _ _ hW h.2⟩
        clear hK K
        simp only [Act.put, aZ48, bZ48, cZ48]
        refine wpQuiet_step (fun K hK => ?_)
        rw [if_pos (by rfl)]
        refine ⟨.bool true, fun W hW => quiet_ok ?_, hK _ ?_⟩
        · have q := HX.out W hW
          obtain ⟨⟨m0, m1, m2, m3, m4, m5⟩, _⟩ := q
          have q2 := HCX.out W hW
          obtain ⟨k0, k1⟩ := q2
          go_simp
          all_goals (try omega)
        clear hK K
        simp only [Act.put, aZ48, bZ48, cZ48]
        refine wpQuiet_step (fun K hK => ?_)
        rw [if_pos (by rfl)]
        refine ⟨.bool true, fun W hW => quiet_ok ?_, hK _ ?_⟩
        · have q := HX.out W hW
          obtain ⟨⟨m0, m1, m2, m3, m4, m5⟩, _⟩ := q
          have q2 := HCX.out W hW
          obtain ⟨k0, k1⟩ := q2
          go_simp
          all_goals (try omega)
        clear hK K
        simp only [Act.put, aZ48, bZ48, cZ48]
        refine wpQuiet_step (fun K hK => ?_)
        rw [if_pos (by rfl)]
        refine ⟨.bool u45, fun W hW => quiet_ok ?_, hK _ ?_⟩
        · have q := HX.out W hW
          obtain ⟨⟨m0, m1, m2, m3, m4, m5⟩, _⟩ := q
          have q2 := HCX.out W hW
          obtain ⟨k0, k1⟩ := q2
          have v45 := HU45.out
          go_simp
          all_goals (try omega)
        clear hK K
        simp only [Act.put, aZ48, bZ48, cZ48]
        refine BigFrame.wpQuiet_skip (by show (some u45 == some false) = false; rw [HU45.out]; rfl) ?_
        simp only [Act.put, aZ48, bZ48, cZ48]
        refine BigFrame.wpQuiet_skip (by show (some u45 == some false) = false; rw [HU45.out]; rfl) ?_
        simp only [Act.put, aZ48, bZ48, cZ48]
        refine BigFrame.wpQuiet_skip (by show (some u45 == some false) = false; rw [HU45.out]; rfl) ?_
        simp only [Act.put, aZ48, bZ48, cZ48]
        refine BigFrame.wpQuiet_skip (by show (some u45 == some false) = false; rw [HU45.out]; rfl) ?_
        simp only [Act.put, aZ48, bZ48, cZ48]
        refine BigFrame.wpQuiet_skip (by show (some u45 == some false) = false; rw [HU45.out]; rfl) ?_
        simp only [Act.put, aZ48, bZ48, cZ48]
        refine BigFrame.wpQuiet_skip (by show (some u45 == some false) = false; rw [HU45.out]; rfl) ?_
        simp only [Act.put, aZ48, bZ48, cZ48]
        refine wpQuiet_step (fun K hK => ?_)
        rw [if_pos (by rfl)]
        refine ⟨.bool true, fun W hW => quiet_ok ?_, hK _ ?_⟩
        · have q := HX.out W hW
          obtain ⟨⟨m0, m1, m2, m3, m4, m5⟩, _⟩ := q
          have q2 := HCX.out W hW
          obtain ⟨k0, k1⟩ := q2
          have v45 := HU45.out
          go_simp
          all_goals (try omega)
        clear hK K
        simp only [Act.put, aZ48, bZ48, cZ48]
        refine wpQuiet_step (fun K hK => ?_)
        rw [if_pos (by rfl)]
        refine ⟨.bool u53, fun W hW => quiet_ok ?_, hK _ ?_⟩
        · have q := HX.out W hW
          obtain ⟨⟨m0, m1, m2, m3, m4, m5⟩, _⟩ := q
          have q2 := HCX.out W hW
          obtain ⟨k0, k1⟩ := q2
          have v45 := HU45.out
          have v53 := HU53.out
          go_simp
          all_goals (try omega)
        clear hK K
        simp only [Act.put, aZ48, bZ48, cZ48]
        refine BigFrame.wpQuiet_skip (by show (some u53 == some false) = false; rw [HU53.out]; rfl) ?_
        simp only [Act.put, aZ48, bZ48, cZ48]
        refine BigFrame.wpQuiet_skip (by show (some u53 == some false) = false; rw [HU53.out]; rfl) ?_
        simp only [Act.put, aZ48, bZ48, cZ48]
        refine BigFrame.wpQuiet_skip (by show (some u53 == some false) = false; rw [HU53.out]; rfl) ?_
        simp only [Act.put, aZ48, bZ48, cZ48]
        generalize hund : (undef : Value) = un
        refine BigFrame.wpQuiet_skip (by rw [← hund]; rfl) ?_
        simp only [Act.put, aZ48, bZ48, cZ48]
        refine BigFrame.wpQuiet_skip (by rw [← hund]; rfl) ?_
        simp only [Act.put, aZ48, bZ48, cZ48]
        refine BigFrame.wpQuiet_skip (by rw [← hund]; rfl) ?_
        simp only [Act.put, aZ48, bZ48, cZ48]
        refine BigFrame.wpQuiet_skip (by rw [← hund]; rfl) ?_
        simp only [Act.put, aZ48, bZ48, cZ48]
        refine BigFrame.wpQuiet_skip (by rw [← hund]; rfl) ?_
        simp only [Act.put, aZ48, bZ48, cZ48]
        refine BigFrame.wpQuiet_skip (by rw [← hund]; rfl) ?_
        simp only [Act.put, aZ48, bZ48, cZ48]
        refine BigFrame.wpQuiet_skip (by rw [← hund]; rfl) ?_
        simp only [Act.put, aZ48, bZ48, cZ48]
        refine BigFrame.wpQuiet_skip (by rw [← hund]; rfl) ?_
        simp only [Act.put, aZ48, bZ48, cZ48]
        refine BigFrame.wpQuiet_skip (by rw [← hund]; rfl) ?_
        simp only [Act.put, aZ48, bZ48, cZ48]
        refine BigFrame.wpQuiet_skip (by show (some u53 == some false) = false; rw [HU53.out]; rfl) ?_
        simp only [Act.put, aZ48, bZ48, cZ48]
        refine wpQuiet_step (fun K hK => ?_)
        rw [if_pos (by rfl)]
        refine ⟨.bool true, fun W hW => quiet_ok ?_, hK _ ?_⟩
        · have q := HX.out W hW
          obtain ⟨⟨m0, m1, m2, m3, m4, m5⟩, _⟩ := q
          have q2 := HCX.out W hW
          obtain ⟨k0, k1⟩ := q2
          have v45 := HU45.out
          have v53 := HU53.out
          go_simp
          all_goals (try omega)
        clear hK K
        simp only [Act.put, aZ48, bZ48, cZ48]
        subst hund
        refine wpQuiet_nil ?_
        intro W hW
        have hbW := HBW.out W hW
        go_wp2_with fail
        go_ret
        exact ⟨ret_bool HF.out.symm, hbW⟩
      | true =>
      rw [h3] at HIU
      cases h4 : (decide (1 ≤ us) && decide (us ≤ now)) with
      | false =>
        have HF : Hid (r = false) := HBAD.out (HG.out.trans (by rw [h4]; simp))
        rw [h4] at HIS
        clear HBAD HG h1 h2 h3 h4 HUPA HPREV HROW2
        obtain ⟨u53, hu53⟩ : ∃ u : Bool, u = true := ⟨_, rfl⟩
        have HU53 : Hid (u53 = true) := hu53
        clear hu53
        go_wp2_with fail
        rw [HW0.out, HGX.out]
        refine wp_region_quiet (C := fun W => Below W0.heap.size W0 W) (by kernel_rfl) (by kernel_rfl) hbd ?_
        refine wpQuiet_step (fun K hK => ?_)
        rw [if_pos (by rfl)]
        refine ⟨.pointer (some ⟨gx, 0, none⟩), fun W hW => quiet_ok ?_, hK _ ?_⟩
        · have q := HX.out W hW
          obtain ⟨⟨m0, m1, m2, m3, m4, m5⟩, _⟩ := q
          have q2 := HCX.out W hW
          obtain ⟨k0, k1⟩ := q2
          go_simp
          all_goals (try omega)
        clear hK K
        simp only [Act.put, aZ48, bZ48, cZ48]
        refine wpQuiet_step (fun K hK => ?_)
        rw [if_pos (by rfl)]
        refine ⟨.string ⟨nm.toArray⟩, fun W hW => quiet_ok ?_, hK _ ?_⟩
        · have q := HX.out W hW
          obtain ⟨⟨m0, m1, m2, m3, m4, m5⟩, _⟩ := q
          have q2 := HCX.out W hW
          obtain ⟨k0, k1⟩ := q2
          go_simp
          all_goals (try omega)
        clear hK K
        simp only [Act.put, aZ48, bZ48, cZ48]
        refine wpQuiet_step (fun K hK => ?_)
        rw [if_pos (by rfl)]
        refine ⟨.bool true, fun W hW => quiet_call (f := 47) (args := #[.string ⟨nm.toArray⟩]) ?_ ?_, hK _ ?_⟩
        · go_simp
        · exact (HN.out W).mono fun e w'' h => ⟨h.1, HTR.out _ _ hW h.2⟩
        clear hK K
        simp only [Act.put, aZ48, bZ48, cZ48]
        refine wpQuiet_step (fun K hK => ?_)
        rw [if_pos (by rfl)]
        refine ⟨.bool false, fun W hW => quiet_ok ?_, hK _ ?_⟩
        · have q := HX.out W hW
          obtain ⟨⟨m0, m1, m2, m3, m4, m5⟩, _⟩ := q
          have q2 := HCX.out W hW
          obtain ⟨k0, k1⟩ := q2
          go_simp
          all_goals (try omega)
        clear hK K
        simp only [Act.put, aZ48, bZ48, cZ48]
        refine wpQuiet_step (fun K hK => ?_)
        rw [if_pos (by rfl)]
        refine ⟨.bool false, fun W hW => quiet_ok ?_, hK _ ?_⟩
        · have q := HX.out W hW
          obtain ⟨⟨m0, m1, m2, m3, m4, m5⟩, _⟩ := q
          have q2 := HCX.out W hW
          obtain ⟨k0, k1⟩ := q2
          go_simp
          all_goals (try omega)
        clear hK K
        simp only [Act.put, aZ48, bZ48, cZ48]
        refine wpQuiet_step (fun K hK => ?_)
        rw [if_pos (by rfl)]
        refine ⟨.pointer (some ⟨gx, 1, none⟩), fun W hW => quiet_ok ?_, hK _ ?_⟩
        · have q := HX.out W hW
          obtain ⟨⟨m0, m1, m2, m3, m4, m5⟩, _⟩ := q
          have q2 := HCX.out W hW
          obtain ⟨k0, k1⟩ := q2
          go_simp
          all_goals (try omega)
        clear hK K
        simp only [Act.put, aZ48, bZ48, cZ48]
        refine wpQuiet_step (fun K hK => ?_)
        rw [if_pos (by rfl)]
        refine ⟨.int .i64 ty, fun W hW => quiet_ok ?_, hK _ ?_⟩
        · have q := HX.out W hW
          obtain ⟨⟨m0, m1, m2, m3, m4, m5⟩, _⟩ := q
          have q2 := HCX.out W hW
          obtain ⟨k0, k1⟩ := q2
          go_simp
          all_goals (try omega)
        clear hK K
        simp only [Act.put, aZ48, bZ48, cZ48]
        refine wpQuiet_step (fun K hK => ?_)
        rw [if_pos (by rfl)]
        refine ⟨.bool true, fun W hW => quiet_call (f := 48) (args := #[.int .i64 ty]) ?_ ?_, hK _ ?_⟩
        · go_simp
        · exact (HT.out W).mono fun e w'' h => ⟨h.1, HTR.out _ _ hW h.2⟩
        clear hK K
        simp only [Act.put, aZ48, bZ48, cZ48]
        refine wpQuiet_step (fun K hK => ?_)
        rw [if_pos (by rfl)]
        refine ⟨.bool false, fun W hW => quiet_ok ?_, hK _ ?_⟩
        · have q := HX.out W hW
          obtain ⟨⟨m0, m1, m2, m3, m4, m5⟩, _⟩ := q
          have q2 := HCX.out W hW
          obtain ⟨k0, k1⟩ := q2
          go_simp
          all_goals (try omega)
        clear hK K
        simp only [Act.put, aZ48, bZ48, cZ48]
        refine wpQuiet_step (fun K hK => ?_)
        rw [if_pos (by rfl)]
        refine ⟨.bool false, fun W hW => quiet_ok ?_, hK _ ?_⟩
        · have q := HX.out W hW
          obtain ⟨⟨m0, m1, m2, m3, m4, m5⟩, _⟩ := q
          have q2 := HCX.out W hW
          obtain ⟨k0, k1⟩ := q2
          go_simp
          all_goals (try omega)
        clear hK K
        simp only [Act.put, aZ48, bZ48, cZ48]
        refine wpQuiet_step (fun K hK => ?_)
        rw [if_pos (by rfl)]
        refine ⟨.bool false, fun W hW => quiet_ok ?_, hK _ ?_⟩
        · have q := HX.out W hW
          obtain ⟨⟨m0, m1, m2, m3, m4, m5⟩, _⟩ := q
          have q2 := HCX.out W hW
          obtain ⟨k0, k1⟩ := q2
          go_simp
          all_goals (try omega)
        clear hK K
        simp only [Act.put, aZ48, bZ48, cZ48]
        refine wpQuiet_step (fun K hK => ?_)
        rw [if_pos (by rfl)]
        refine ⟨.pointer (some ⟨gx, 4, none⟩), fun W hW => quiet_ok ?_, hK _ ?_⟩
        · have q := HX.out W hW
          obtain ⟨⟨m0, m1, m2, m3, m4, m5⟩, _⟩ := q
          have q2 := HCX.out W hW
          obtain ⟨k0, k1⟩ := q2
          go_simp
          all_goals (try omega)
        clear hK K
        simp only [Act.put, aZ48, bZ48, cZ48]
        refine wpQuiet_step (fun K hK => ?_)
        rw [if_pos (by rfl)]
        refine ⟨.int .i64 un, fun W hW => quiet_ok ?_, hK _ ?_⟩
        · have q := HX.out W hW
          obtain ⟨⟨m0, m1, m2, m3, m4, m5⟩, _⟩ := q
          have q2 := HCX.out W hW
          obtain ⟨k0, k1⟩ := q2
          go_simp
          all_goals (try omega)
        clear hK K
        simp only [Act.put, aZ48, bZ48, cZ48]
        refine wpQuiet_step (fun K hK => ?_)
        rw [if_pos (by rfl)]
        refine ⟨.pointer (some ⟨w.heap.size, 0, none⟩), fun W hW => quiet_ok ?_, hK _ ?_⟩
        · have q := HX.out W hW
          obtain ⟨⟨m0, m1, m2, m3, m4, m5⟩, _⟩ := q
          have q2 := HCX.out W hW
          obtain ⟨k0, k1⟩ := q2
          go_simp
          all_goals (try omega)
        clear hK K
        simp only [Act.put, aZ48, bZ48, cZ48]
        refine wpQuiet_step (fun K hK => ?_)
        rw [if_pos (by rfl)]
        refine ⟨.int .i64 now, fun W hW => quiet_ok ?_, hK _ ?_⟩
        · have q := HX.out W hW
          obtain ⟨⟨m0, m1, m2, m3, m4, m5⟩, _⟩ := q
          have q2 := HCX.out W hW
          obtain ⟨k0, k1⟩ := q2
          go_simp
          all_goals (try omega)
        clear hK K
        simp only [Act.put, aZ48, bZ48, cZ48]
        refine wpQuiet_step (fun K hK => ?_)
        rw [if_pos (by rfl)]
        refine ⟨.int .i64 (now + 1), fun W hW => quiet_ok ?_, hK _ ?_⟩
        · have q := HX.out W hW
          obtain ⟨⟨m0, m1, m2, m3, m4, m5⟩, _⟩ := q
          have q2 := HCX.out W hW
          obtain ⟨k0, k1⟩ := q2
          go_simp
          all_goals (try omega)
        clear hK K
        simp only [Act.put, aZ48, bZ48, cZ48]
        refine wpQuiet_step (fun K hK => ?_)
        rw [if_pos (by rfl)]
        refine ⟨.pointer (some ⟨w.heap.size, 0, none⟩), fun W hW => quiet_ok ?_, hK _ ?_⟩
        · have q := HX.out W hW
          obtain ⟨⟨m0, m1, m2, m3, m4, m5⟩, _⟩ := q
          have q2 := HCX.out W hW
          obtain ⟨k0, k1⟩ := q2
          go_simp
          all_goals (try omega)
        clear hK K
        simp only [Act.put, aZ48, bZ48, cZ48]
        refine wpQuiet_step (fun K hK => ?_)
        rw [if_pos (by rfl)]
        refine ⟨.int .i64 now, fun W hW => quiet_ok ?_, hK _ ?_⟩
        · have q := HX.out W hW
          obtain ⟨⟨m0, m1, m2, m3, m4, m5⟩, _⟩ := q
          have q2 := HCX.out W hW
          obtain ⟨k0, k1⟩ := q2
          go_simp
          all_goals (try omega)
        clear hK K
        simp only [Act.put, aZ48, bZ48, cZ48]
        refine wpQuiet_step (fun K hK => ?_)
        rw [if_pos (by rfl)]
        refine ⟨.int .i64 (now + 100000), fun W hW => quiet_ok ?_, hK _ ?_⟩
        · have q := HX.out W hW
          obtain ⟨⟨m0, m1, m2, m3, m4, m5⟩, _⟩ := q
          have q2 := HCX.out W hW
          obtain ⟨k0, k1⟩ := q2
          go_simp
          all_goals (try omega)
        clear hK K
        simp only [Act.put, aZ48, bZ48, cZ48]
        refine wpQuiet_step (fun K hK => ?_)
        rw [if_pos (by rfl)]
        refine ⟨.bool true, fun W hW => quiet_call (f := 49) (args := #[.int .i64 un, .int .i64 (now + 1), .int .i64 (now + 100000)]) ?_ ?_, hK _ ?_⟩
        · go_simp
        · exact (HIU.out W).mono fun e w'' h => ⟨h.1, HTR.out _ _ hW h.2⟩
        clear hK K
        simp only [Act.put, aZ48, bZ48, cZ48]
        refine wpQuiet_step (fun K hK => ?_)
        rw [if_pos (by rfl)]
        refine ⟨.bool false, fun W hW => quiet_ok ?_, hK _ ?_⟩
        · have q := HX.out W hW
          obtain ⟨⟨m0, m1, m2, m3, m4, m5⟩, _⟩ := q
          have q2 := HCX.out W hW
          obtain ⟨k0, k1⟩ := q2
          go_simp
          all_goals (try omega)
        clear hK K
        simp only [Act.put, aZ48, bZ48, cZ48]
        refine wpQuiet_step (fun K hK => ?_)
        rw [if_pos (by rfl)]
        refine ⟨.bool false, fun W hW => quiet_ok ?_, hK _ ?_⟩
        · have q := HX.out W hW
          obtain ⟨⟨m0, m1, m2, m3, m4, m5⟩, _⟩ := q
          have q2 := HCX.out W hW
          obtain ⟨k0, k1⟩ := q2
          go_simp
          all_goals (try omega)
        clear hK K
        simp only [Act.put, aZ48, bZ48, cZ48]
        refine wpQuiet_step (fun K hK => ?_)
        rw [if_pos (by rfl)]
        refine ⟨.bool false, fun W hW => quiet_ok ?_, hK _ ?_⟩
        · have q := HX.out W hW
          obtain ⟨⟨m0, m1, m2, m3, m4, m5⟩, _⟩ := q
          have q2 := HCX.out W hW
          obtain ⟨k0, k1⟩ := q2
          go_simp
          all_goals (try omega)
        clear hK K
        simp only [Act.put, aZ48, bZ48, cZ48]
        refine wpQuiet_step (fun K hK => ?_)
        rw [if_pos (by rfl)]
        refine ⟨.pointer (some ⟨gx, 5, none⟩), fun W hW => quiet_ok ?_, hK _ ?_⟩
        · have q := HX.out W hW
          obtain ⟨⟨m0, m1, m2, m3, m4, m5⟩, _⟩ := q
          have q2 := HCX.out W hW
          obtain ⟨k0, k1⟩ := q2
          go_simp
          all_goals (try omega)
        clear hK K
        simp only [Act.put, aZ48, bZ48, cZ48]
        refine wpQuiet_step (fun K hK => ?_)
        rw [if_pos (by rfl)]
        refine ⟨.int .i64 us, fun W hW => quiet_ok ?_, hK _ ?_⟩
        · have q := HX.out W hW
          obtain ⟨⟨m0, m1, m2, m3, m4, m5⟩, _⟩ := q
          have q2 := HCX.out W hW
          obtain ⟨k0, k1⟩ := q2
          go_simp
          all_goals (try omega)
        clear hK K
        simp only [Act.put, aZ48, bZ48, cZ48]
        refine wpQuiet_step (fun K hK => ?_)
        rw [if_pos (by rfl)]
        refine ⟨.pointer (some ⟨w.heap.size, 0, none⟩), fun W hW => quiet_ok ?_, hK _ ?_⟩
        · have q := HX.out W hW
          obtain ⟨⟨m0, m1, m2, m3, m4, m5⟩, _⟩ := q
          have q2 := HCX.out W hW
          obtain ⟨k0, k1⟩ := q2
          go_simp
          all_goals (try omega)
        clear hK K
        simp only [Act.put, aZ48, bZ48, cZ48]
        refine wpQuiet_step (fun K hK => ?_)
        rw [if_pos (by rfl)]
        refine ⟨.int .i64 now, fun W hW => quiet_ok ?_, hK _ ?_⟩
        · have q := HX.out W hW
          obtain ⟨⟨m0, m1, m2, m3, m4, m5⟩, _⟩ := q
          have q2 := HCX.out W hW
          obtain ⟨k0, k1⟩ := q2
          go_simp
          all_goals (try omega)
        clear hK K
        simp only [Act.put, aZ48, bZ48, cZ48]
        refine wpQuiet_step (fun K hK => ?_)
        rw [if_pos (by rfl)]
        refine ⟨.bool false, fun W hW => quiet_call (f := 49) (args := #[.int .i64 us, .int .i64 1, .int .i64 now]) ?_ ?_, hK _ ?_⟩
        · go_simp
        · exact (HIS.out W).mono fun e w'' h => ⟨h.1, HTR.out _ _ hW h.2⟩
        clear hK K
        simp only [Act.put, aZ48, bZ48, cZ48]
        refine wpQuiet_step (fun K hK => ?_)
        rw [if_pos (by rfl)]
        refine ⟨.bool true, fun W hW => quiet_ok ?_, hK _ ?_⟩
        · have q := HX.out W hW
          obtain ⟨⟨m0, m1, m2, m3, m4, m5⟩, _⟩ := q
          have q2 := HCX.out W hW
          obtain ⟨k0, k1⟩ := q2
          go_simp
          all_goals (try omega)
        clear hK K
        simp only [Act.put, aZ48, bZ48, cZ48]
        refine wpQuiet_step (fun K hK => ?_)
        rw [if_pos (by rfl)]
        refine ⟨.bool true, fun W hW => quiet_ok ?_, hK _ ?_⟩
        · have q := HX.out W hW
          obtain ⟨⟨m0, m1, m2, m3, m4, m5⟩, _⟩ := q
          have q2 := HCX.out W hW
          obtain ⟨k0, k1⟩ := q2
          go_simp
          all_goals (try omega)
        clear hK K
        simp only [Act.put, aZ48, bZ48, cZ48]
        refine wpQuiet_step (fun K hK => ?_)
        rw [if_pos (by rfl)]
        refine ⟨.bool u53, fun W hW => quiet_ok ?_, hK _ ?_⟩
        · have q := HX.out W hW
          obtain ⟨⟨m0, m1, m2, m3, m4, m5⟩, _⟩ := q
          have q2 := HCX.out W hW
          obtain ⟨k0, k1⟩ := q2
          have v53 := HU53.out
          go_simp
          all_goals (try omega)
        clear hK K
        simp only [Act.put, aZ48, bZ48, cZ48]
        refine BigFrame.wpQuiet_skip (by show (some u53 == some false) = false; rw [HU53.out]; rfl) ?_
        simp only [Act.put, aZ48, bZ48, cZ48]
        refine BigFrame.wpQuiet_skip (by show (some u53 == some false) = false; rw [HU53.out]; rfl) ?_
        simp only [Act.put, aZ48, bZ48, cZ48]
        refine BigFrame.wpQuiet_skip (by show (some u53 == some false) = false; rw [HU53.out]; rfl) ?_
        simp only [Act.put, aZ48, bZ48, cZ48]
        generalize hund : (undef : Value) = un
        refine BigFrame.wpQuiet_skip (by rw [← hund]; rfl) ?_
        simp only [Act.put, aZ48, bZ48, cZ48]
        refine BigFrame.wpQuiet_skip (by rw [← hund]; rfl) ?_
        simp only [Act.put, aZ48, bZ48, cZ48]
        refine BigFrame.wpQuiet_skip (by rw [← hund]; rfl) ?_
        simp only [Act.put, aZ48, bZ48, cZ48]
        refine BigFrame.wpQuiet_skip (by rw [← hund]; rfl) ?_
        simp only [Act.put, aZ48, bZ48, cZ48]
        refine BigFrame.wpQuiet_skip (by rw [← hund]; rfl) ?_
        simp only [Act.put, aZ48, bZ48, cZ48]
        refine BigFrame.wpQuiet_skip (by rw [← hund]; rfl) ?_
        simp only [Act.put, aZ48, bZ48, cZ48]
        refine BigFrame.wpQuiet_skip (by rw [← hund]; rfl) ?_
        simp only [Act.put, aZ48, bZ48, cZ48]
        refine BigFrame.wpQuiet_skip (by rw [← hund]; rfl) ?_
        simp only [Act.put, aZ48, bZ48, cZ48]
        refine BigFrame.wpQuiet_skip (by rw [← hund]; rfl) ?_
        simp only [Act.put, aZ48, bZ48, cZ48]
        refine BigFrame.wpQuiet_skip (by show (some u53 == some false) = false; rw [HU53.out]; rfl) ?_
        simp only [Act.put, aZ48, bZ48, cZ48]
        refine wpQuiet_step (fun K hK => ?_)
        rw [if_pos (by rfl)]
        refine ⟨.bool true, fun W hW => quiet_ok ?_, hK _ ?_⟩
        · have q := HX.out W hW
          obtain ⟨⟨m0, m1, m2, m3, m4, m5⟩, _⟩ := q
          have q2 := HCX.out W hW
          obtain ⟨k0, k1⟩ := q2
          have v53 := HU53.out
          go_simp
          all_goals (try omega)
        clear hK K
        simp only [Act.put, aZ48, bZ48, cZ48]
        subst hund
        refine wpQuiet_nil ?_
        intro W hW
        have hbW := HBW.out W hW
        go_wp2_with fail
        go_ret
        exact ⟨ret_bool HF.out.symm, hbW⟩
      | true =>
      rw [h4] at HIS
      rcases Nat.eq_zero_or_pos k with hk0 | hk0
      · have HUP : Hid (tellB (nm, ty, no, R, un, us) = true → ∀ j, j < k + 1 → stepE now L j = true) := fun h => HUPA.out (HG.out.trans (by rw [h1, h2, h3, h4, h, hk0]; rfl))
        have HBR : Hid (tellB (nm, ty, no, R, un, us) = false → r = false) := fun h => HBAD.out (HG.out.trans (by rw [h]; simp))
        have hk0i : ¬ (0 : Int) < (k : Int) := by omega
        clear HUPA HBAD HG HPREV hk0 h1 h2 h3 h4
        obtain ⟨u56, hu56⟩ : ∃ u : Bool, u = false := ⟨_, rfl⟩
        have HU56 : Hid (u56 = false) := hu56
        clear hu56
        go_wp2_with fail
        rw [HW0.out, HGX.out]
        refine wp_region_quiet (C := fun W => Below W0.heap.size W0 W) (by kernel_rfl) (by kernel_rfl) hbd ?_
        refine wpQuiet_step (fun K hK => ?_)
        rw [if_pos (by rfl)]
        refine ⟨.pointer (some ⟨gx, 0, none⟩), fun W hW => quiet_ok ?_, hK _ ?_⟩
        · have q := HX.out W hW
          obtain ⟨⟨m0, m1, m2, m3, m4, m5⟩, _⟩ := q
          have q2 := HCX.out W hW
          obtain ⟨k0, k1⟩ := q2
          go_simp
          all_goals (try omega)
        clear hK K
        simp only [Act.put, aZ48, bZ48, cZ48]
        refine wpQuiet_step (fun K hK => ?_)
        rw [if_pos (by rfl)]
        refine ⟨.string ⟨nm.toArray⟩, fun W hW => quiet_ok ?_, hK _ ?_⟩
        · have q := HX.out W hW
          obtain ⟨⟨m0, m1, m2, m3, m4, m5⟩, _⟩ := q
          have q2 := HCX.out W hW
          obtain ⟨k0, k1⟩ := q2
          go_simp
          all_goals (try omega)
        clear hK K
        simp only [Act.put, aZ48, bZ48, cZ48]
        refine wpQuiet_step (fun K hK => ?_)
        rw [if_pos (by rfl)]
        refine ⟨.bool true, fun W hW => quiet_call (f := 47) (args := #[.string ⟨nm.toArray⟩]) ?_ ?_, hK _ ?_⟩
        · go_simp
        · exact (HN.out W).mono fun e w'' h => ⟨h.1, HTR.out _ _ hW h.2⟩
        clear hK K
        simp only [Act.put, aZ48, bZ48, cZ48]
        refine wpQuiet_step (fun K hK => ?_)
        rw [if_pos (by rfl)]
        refine ⟨.bool false, fun W hW => quiet_ok ?_, hK _ ?_⟩
        · have q := HX.out W hW
          obtain ⟨⟨m0, m1, m2, m3, m4, m5⟩, _⟩ := q
          have q2 := HCX.out W hW
          obtain ⟨k0, k1⟩ := q2
          go_simp
          all_goals (try omega)
        clear hK K
        simp only [Act.put, aZ48, bZ48, cZ48]
        refine wpQuiet_step (fun K hK => ?_)
        rw [if_pos (by rfl)]
        refine ⟨.bool false, fun W hW => quiet_ok ?_, hK _ ?_⟩
        · have q := HX.out W hW
          obtain ⟨⟨m0, m1, m2, m3, m4, m5⟩, _⟩ := q
          have q2 := HCX.out W hW
          obtain ⟨k0, k1⟩ := q2
          go_simp
          all_goals (try omega)
        clear hK K
        simp only [Act.put, aZ48, bZ48, cZ48]
        refine wpQuiet_step (fun K hK => ?_)
        rw [if_pos (by rfl)]
        refine ⟨.pointer (some ⟨gx, 1, none⟩), fun W hW => quiet_ok ?_, hK _ ?_⟩
        · have q := HX.out W hW
          obtain ⟨⟨m0, m1, m2, m3, m4, m5⟩, _⟩ := q
          have q2 := HCX.out W hW
          obtain ⟨k0, k1⟩ := q2
          go_simp
          all_goals (try omega)
        clear hK K
        simp only [Act.put, aZ48, bZ48, cZ48]
        refine wpQuiet_step (fun K hK => ?_)
        rw [if_pos (by rfl)]
        refine ⟨.int .i64 ty, fun W hW => quiet_ok ?_, hK _ ?_⟩
        · have q := HX.out W hW
          obtain ⟨⟨m0, m1, m2, m3, m4, m5⟩, _⟩ := q
          have q2 := HCX.out W hW
          obtain ⟨k0, k1⟩ := q2
          go_simp
          all_goals (try omega)
        clear hK K
        simp only [Act.put, aZ48, bZ48, cZ48]
        refine wpQuiet_step (fun K hK => ?_)
        rw [if_pos (by rfl)]
        refine ⟨.bool true, fun W hW => quiet_call (f := 48) (args := #[.int .i64 ty]) ?_ ?_, hK _ ?_⟩
        · go_simp
        · exact (HT.out W).mono fun e w'' h => ⟨h.1, HTR.out _ _ hW h.2⟩
        clear hK K
        simp only [Act.put, aZ48, bZ48, cZ48]
        refine wpQuiet_step (fun K hK => ?_)
        rw [if_pos (by rfl)]
        refine ⟨.bool false, fun W hW => quiet_ok ?_, hK _ ?_⟩
        · have q := HX.out W hW
          obtain ⟨⟨m0, m1, m2, m3, m4, m5⟩, _⟩ := q
          have q2 := HCX.out W hW
          obtain ⟨k0, k1⟩ := q2
          go_simp
          all_goals (try omega)
        clear hK K
        simp only [Act.put, aZ48, bZ48, cZ48]
        refine wpQuiet_step (fun K hK => ?_)
        rw [if_pos (by rfl)]
        refine ⟨.bool false, fun W hW => quiet_ok ?_, hK _ ?_⟩
        · have q := HX.out W hW
          obtain ⟨⟨m0, m1, m2, m3, m4, m5⟩, _⟩ := q
          have q2 := HCX.out W hW
          obtain ⟨k0, k1⟩ := q2
          go_simp
          all_goals (try omega)
        clear hK K
        simp only [Act.put, aZ48, bZ48, cZ48]
        refine wpQuiet_step (fun K hK => ?_)
        rw [if_pos (by rfl)]
        refine ⟨.bool false, fun W hW => quiet_ok ?_, hK _ ?_⟩
        · have q := HX.out W hW
          obtain ⟨⟨m0, m1, m2, m3, m4, m5⟩, _⟩ := q
          have q2 := HCX.out W hW
          obtain ⟨k0, k1⟩ := q2
          go_simp
          all_goals (try omega)
        clear hK K
        simp only [Act.put, aZ48, bZ48, cZ48]
        refine wpQuiet_step (fun K hK => ?_)
        rw [if_pos (by rfl)]
        refine ⟨.pointer (some ⟨gx, 4, none⟩), fun W hW => quiet_ok ?_, hK _ ?_⟩
        · have q := HX.out W hW
          obtain ⟨⟨m0, m1, m2, m3, m4, m5⟩, _⟩ := q
          have q2 := HCX.out W hW
          obtain ⟨k0, k1⟩ := q2
          go_simp
          all_goals (try omega)
        clear hK K
        simp only [Act.put, aZ48, bZ48, cZ48]
        refine wpQuiet_step (fun K hK => ?_)
        rw [if_pos (by rfl)]
        refine ⟨.int .i64 un, fun W hW => quiet_ok ?_, hK _ ?_⟩
        · have q := HX.out W hW
          obtain ⟨⟨m0, m1, m2, m3, m4, m5⟩, _⟩ := q
          have q2 := HCX.out W hW
          obtain ⟨k0, k1⟩ := q2
          go_simp
          all_goals (try omega)
        clear hK K
        simp only [Act.put, aZ48, bZ48, cZ48]
        refine wpQuiet_step (fun K hK => ?_)
        rw [if_pos (by rfl)]
        refine ⟨.pointer (some ⟨w.heap.size, 0, none⟩), fun W hW => quiet_ok ?_, hK _ ?_⟩
        · have q := HX.out W hW
          obtain ⟨⟨m0, m1, m2, m3, m4, m5⟩, _⟩ := q
          have q2 := HCX.out W hW
          obtain ⟨k0, k1⟩ := q2
          go_simp
          all_goals (try omega)
        clear hK K
        simp only [Act.put, aZ48, bZ48, cZ48]
        refine wpQuiet_step (fun K hK => ?_)
        rw [if_pos (by rfl)]
        refine ⟨.int .i64 now, fun W hW => quiet_ok ?_, hK _ ?_⟩
        · have q := HX.out W hW
          obtain ⟨⟨m0, m1, m2, m3, m4, m5⟩, _⟩ := q
          have q2 := HCX.out W hW
          obtain ⟨k0, k1⟩ := q2
          go_simp
          all_goals (try omega)
        clear hK K
        simp only [Act.put, aZ48, bZ48, cZ48]
        refine wpQuiet_step (fun K hK => ?_)
        rw [if_pos (by rfl)]
        refine ⟨.int .i64 (now + 1), fun W hW => quiet_ok ?_, hK _ ?_⟩
        · have q := HX.out W hW
          obtain ⟨⟨m0, m1, m2, m3, m4, m5⟩, _⟩ := q
          have q2 := HCX.out W hW
          obtain ⟨k0, k1⟩ := q2
          go_simp
          all_goals (try omega)
        clear hK K
        simp only [Act.put, aZ48, bZ48, cZ48]
        refine wpQuiet_step (fun K hK => ?_)
        rw [if_pos (by rfl)]
        refine ⟨.pointer (some ⟨w.heap.size, 0, none⟩), fun W hW => quiet_ok ?_, hK _ ?_⟩
        · have q := HX.out W hW
          obtain ⟨⟨m0, m1, m2, m3, m4, m5⟩, _⟩ := q
          have q2 := HCX.out W hW
          obtain ⟨k0, k1⟩ := q2
          go_simp
          all_goals (try omega)
        clear hK K
        simp only [Act.put, aZ48, bZ48, cZ48]
        refine wpQuiet_step (fun K hK => ?_)
        rw [if_pos (by rfl)]
        refine ⟨.int .i64 now, fun W hW => quiet_ok ?_, hK _ ?_⟩
        · have q := HX.out W hW
          obtain ⟨⟨m0, m1, m2, m3, m4, m5⟩, _⟩ := q
          have q2 := HCX.out W hW
          obtain ⟨k0, k1⟩ := q2
          go_simp
          all_goals (try omega)
        clear hK K
        simp only [Act.put, aZ48, bZ48, cZ48]
        refine wpQuiet_step (fun K hK => ?_)
        rw [if_pos (by rfl)]
        refine ⟨.int .i64 (now + 100000), fun W hW => quiet_ok ?_, hK _ ?_⟩
        · have q := HX.out W hW
          obtain ⟨⟨m0, m1, m2, m3, m4, m5⟩, _⟩ := q
          have q2 := HCX.out W hW
          obtain ⟨k0, k1⟩ := q2
          go_simp
          all_goals (try omega)
        clear hK K
        simp only [Act.put, aZ48, bZ48, cZ48]
        refine wpQuiet_step (fun K hK => ?_)
        rw [if_pos (by rfl)]
        refine ⟨.bool true, fun W hW => quiet_call (f := 49) (args := #[.int .i64 un, .int .i64 (now + 1), .int .i64 (now + 100000)]) ?_ ?_, hK _ ?_⟩
        · go_simp
        · exact (HIU.out W).mono fun e w'' h => ⟨h.1, HTR.out _ _ hW h.2⟩
        clear hK K
        simp only [Act.put, aZ48, bZ48, cZ48]
        refine wpQuiet_step (fun K hK => ?_)
        rw [if_pos (by rfl)]
        refine ⟨.bool false, fun W hW => quiet_ok ?_, hK _ ?_⟩
        · have q := HX.out W hW
          obtain ⟨⟨m0, m1, m2, m3, m4, m5⟩, _⟩ := q
          have q2 := HCX.out W hW
          obtain ⟨k0, k1⟩ := q2
          go_simp
          all_goals (try omega)
        clear hK K
        simp only [Act.put, aZ48, bZ48, cZ48]
        refine wpQuiet_step (fun K hK => ?_)
        rw [if_pos (by rfl)]
        refine ⟨.bool false, fun W hW => quiet_ok ?_, hK _ ?_⟩
        · have q := HX.out W hW
          obtain ⟨⟨m0, m1, m2, m3, m4, m5⟩, _⟩ := q
          have q2 := HCX.out W hW
          obtain ⟨k0, k1⟩ := q2
          go_simp
          all_goals (try omega)
        clear hK K
        simp only [Act.put, aZ48, bZ48, cZ48]
        refine wpQuiet_step (fun K hK => ?_)
        rw [if_pos (by rfl)]
        refine ⟨.bool false, fun W hW => quiet_ok ?_, hK _ ?_⟩
        · have q := HX.out W hW
          obtain ⟨⟨m0, m1, m2, m3, m4, m5⟩, _⟩ := q
          have q2 := HCX.out W hW
          obtain ⟨k0, k1⟩ := q2
          go_simp
          all_goals (try omega)
        clear hK K
        simp only [Act.put, aZ48, bZ48, cZ48]
        refine wpQuiet_step (fun K hK => ?_)
        rw [if_pos (by rfl)]
        refine ⟨.pointer (some ⟨gx, 5, none⟩), fun W hW => quiet_ok ?_, hK _ ?_⟩
        · have q := HX.out W hW
          obtain ⟨⟨m0, m1, m2, m3, m4, m5⟩, _⟩ := q
          have q2 := HCX.out W hW
          obtain ⟨k0, k1⟩ := q2
          go_simp
          all_goals (try omega)
        clear hK K
        simp only [Act.put, aZ48, bZ48, cZ48]
        refine wpQuiet_step (fun K hK => ?_)
        rw [if_pos (by rfl)]
        refine ⟨.int .i64 us, fun W hW => quiet_ok ?_, hK _ ?_⟩
        · have q := HX.out W hW
          obtain ⟨⟨m0, m1, m2, m3, m4, m5⟩, _⟩ := q
          have q2 := HCX.out W hW
          obtain ⟨k0, k1⟩ := q2
          go_simp
          all_goals (try omega)
        clear hK K
        simp only [Act.put, aZ48, bZ48, cZ48]
        refine wpQuiet_step (fun K hK => ?_)
        rw [if_pos (by rfl)]
        refine ⟨.pointer (some ⟨w.heap.size, 0, none⟩), fun W hW => quiet_ok ?_, hK _ ?_⟩
        · have q := HX.out W hW
          obtain ⟨⟨m0, m1, m2, m3, m4, m5⟩, _⟩ := q
          have q2 := HCX.out W hW
          obtain ⟨k0, k1⟩ := q2
          go_simp
          all_goals (try omega)
        clear hK K
        simp only [Act.put, aZ48, bZ48, cZ48]
        refine wpQuiet_step (fun K hK => ?_)
        rw [if_pos (by rfl)]
        refine ⟨.int .i64 now, fun W hW => quiet_ok ?_, hK _ ?_⟩
        · have q := HX.out W hW
          obtain ⟨⟨m0, m1, m2, m3, m4, m5⟩, _⟩ := q
          have q2 := HCX.out W hW
          obtain ⟨k0, k1⟩ := q2
          go_simp
          all_goals (try omega)
        clear hK K
        simp only [Act.put, aZ48, bZ48, cZ48]
        refine wpQuiet_step (fun K hK => ?_)
        rw [if_pos (by rfl)]
        refine ⟨.bool true, fun W hW => quiet_call (f := 49) (args := #[.int .i64 us, .int .i64 1, .int .i64 now]) ?_ ?_, hK _ ?_⟩
        · go_simp
        · exact (HIS.out W).mono fun e w'' h => ⟨h.1, HTR.out _ _ hW h.2⟩
        clear hK K
        simp only [Act.put, aZ48, bZ48, cZ48]
        refine wpQuiet_step (fun K hK => ?_)
        rw [if_pos (by rfl)]
        refine ⟨.bool false, fun W hW => quiet_ok ?_, hK _ ?_⟩
        · have q := HX.out W hW
          obtain ⟨⟨m0, m1, m2, m3, m4, m5⟩, _⟩ := q
          have q2 := HCX.out W hW
          obtain ⟨k0, k1⟩ := q2
          go_simp
          all_goals (try omega)
        clear hK K
        simp only [Act.put, aZ48, bZ48, cZ48]
        refine wpQuiet_step (fun K hK => ?_)
        rw [if_pos (by rfl)]
        refine ⟨.bool false, fun W hW => quiet_ok ?_, hK _ ?_⟩
        · have q := HX.out W hW
          obtain ⟨⟨m0, m1, m2, m3, m4, m5⟩, _⟩ := q
          have q2 := HCX.out W hW
          obtain ⟨k0, k1⟩ := q2
          go_simp
          all_goals (try omega)
        clear hK K
        simp only [Act.put, aZ48, bZ48, cZ48]
        refine wpQuiet_step (fun K hK => ?_)
        rw [if_pos (by rfl)]
        refine ⟨.bool false, fun W hW => quiet_ok ?_, hK _ ?_⟩
        · have q := HX.out W hW
          obtain ⟨⟨m0, m1, m2, m3, m4, m5⟩, _⟩ := q
          have q2 := HCX.out W hW
          obtain ⟨k0, k1⟩ := q2
          go_simp
          all_goals (try omega)
        clear hK K
        simp only [Act.put, aZ48, bZ48, cZ48]
        refine wpQuiet_step (fun K hK => ?_)
        rw [if_pos (by rfl)]
        refine ⟨.int .i64 (k : Int), fun W hW => quiet_ok ?_, hK _ ?_⟩
        · have q := HX.out W hW
          obtain ⟨⟨m0, m1, m2, m3, m4, m5⟩, _⟩ := q
          have q2 := HCX.out W hW
          obtain ⟨k0, k1⟩ := q2
          go_simp
          all_goals (try omega)
        clear hK K
        simp only [Act.put, aZ48, bZ48, cZ48]
        refine wpQuiet_step (fun K hK => ?_)
        rw [if_pos (by rfl)]
        refine ⟨.bool false, fun W hW => quiet_ok ?_, hK _ ?_⟩
        · have q := HX.out W hW
          obtain ⟨⟨m0, m1, m2, m3, m4, m5⟩, _⟩ := q
          have q2 := HCX.out W hW
          obtain ⟨k0, k1⟩ := q2
          go_simp
          all_goals (try omega)
        clear hK K
        simp only [Act.put, aZ48, bZ48, cZ48]
        refine wpQuiet_step (fun K hK => ?_)
        rw [if_pos (by rfl)]
        refine ⟨.bool u56, fun W hW => quiet_ok ?_, hK _ ?_⟩
        · have q := HX.out W hW
          obtain ⟨⟨m0, m1, m2, m3, m4, m5⟩, _⟩ := q
          have q2 := HCX.out W hW
          obtain ⟨k0, k1⟩ := q2
          have v56 := HU56.out
          go_simp
          all_goals (try omega)
        clear hK K
        simp only [Act.put, aZ48, bZ48, cZ48]
        refine BigFrame.wpQuiet_skip (by show (some u56 == some true) = false; rw [HU56.out]; rfl) ?_
        simp only [Act.put, aZ48, bZ48, cZ48]
        refine BigFrame.wpQuiet_skip (by show (some u56 == some true) = false; rw [HU56.out]; rfl) ?_
        simp only [Act.put, aZ48, bZ48, cZ48]
        refine BigFrame.wpQuiet_skip (by show (some u56 == some true) = false; rw [HU56.out]; rfl) ?_
        simp only [Act.put, aZ48, bZ48, cZ48]
        refine BigFrame.wpQuiet_skip (by show (some u56 == some true) = false; rw [HU56.out]; rfl) ?_
        simp only [Act.put, aZ48, bZ48, cZ48]
        refine BigFrame.wpQuiet_skip (by show (some u56 == some true) = false; rw [HU56.out]; rfl) ?_
        simp only [Act.put, aZ48, bZ48, cZ48]
        refine BigFrame.wpQuiet_skip (by show (some u56 == some true) = false; rw [HU56.out]; rfl) ?_
        simp only [Act.put, aZ48, bZ48, cZ48]
        refine BigFrame.wpQuiet_skip (by show (some u56 == some true) = false; rw [HU56.out]; rfl) ?_
        simp only [Act.put, aZ48, bZ48, cZ48]
        refine BigFrame.wpQuiet_skip (by show (some u56 == some true) = false; rw [HU56.out]; rfl) ?_
        simp only [Act.put, aZ48, bZ48, cZ48]
        refine BigFrame.wpQuiet_skip (by show (some u56 == some true) = false; rw [HU56.out]; rfl) ?_
        simp only [Act.put, aZ48, bZ48, cZ48]
        refine wpQuiet_step (fun K hK => ?_)
        rw [if_pos (by rfl)]
        refine ⟨.bool false, fun W hW => quiet_ok ?_, hK _ ?_⟩
        · have q := HX.out W hW
          obtain ⟨⟨m0, m1, m2, m3, m4, m5⟩, _⟩ := q
          have q2 := HCX.out W hW
          obtain ⟨k0, k1⟩ := q2
          have v56 := HU56.out
          go_simp
          all_goals (try omega)
        clear hK K
        simp only [Act.put, aZ48, bZ48, cZ48]
        refine wpQuiet_step (fun K hK => ?_)
        rw [if_pos (by rfl)]
        refine ⟨.bool false, fun W hW => quiet_ok ?_, hK _ ?_⟩
        · have q := HX.out W hW
          obtain ⟨⟨m0, m1, m2, m3, m4, m5⟩, _⟩ := q
          have q2 := HCX.out W hW
          obtain ⟨k0, k1⟩ := q2
          have v56 := HU56.out
          go_simp
          all_goals (try omega)
        clear hK K
        simp only [Act.put, aZ48, bZ48, cZ48]
        refine wpQuiet_nil ?_
        intro W hW
        have hbW := HBW.out W hW
        have hc2 := HX.out W hW
        obtain ⟨⟨m0, m1, m2, m3, m4, m5⟩, _⟩ := hc2
        cases no with
        | true =>
          by_cases gR : R.length = 0
          · have HU : Hid (∀ j, j < k + 1 → stepE now L j = true) := HUP.out (by unfold tellB; simp [gR])
            have eR : ¬ (0 : Int) < (R.length : Int) := by omega
            have HIW : Hid (Below WB.heap.size WB W) := HIB.out W hW
            clear HUP HBR gR
            go_wp2_with fail
            go_roundw
            case rel => exact ⟨k + 1, by omega, by go_num, HU, HIW.out⟩
            case measure => simp [intOf]; omega
          · have HF : Hid (r = false) := HBR.out (by unfold tellB; simp [gR])
            have eR : (0 : Int) < (R.length : Int) := by omega
            clear HUP HBR gR
            go_wp2_with fail
            go_ret
            exact ⟨ret_bool HF.out.symm, hbW⟩
        | false =>
          have HBR1 : Hid (ansB R = false → r = false) := fun h => HBR.out (by unfold tellB; simp [h])
          have hbd2 : Below W0.heap.size W0 W.drew := hW.drew
          cases hA : ansB R with
          | false =>
            have HF : Hid (r = false) := HBR1.out hA
            rw [hA] at HSM
            clear HUP HBR HBR1 hA hbd
            obtain ⟨u78, hu78⟩ : ∃ u : Bool, u = true := ⟨_, rfl⟩
            have HU78 : Hid (u78 = true) := hu78
            clear hu78
            obtain ⟨u88, hu88⟩ : ∃ u : Bool, u = true := ⟨_, rfl⟩
            have HU88 : Hid (u88 = true) := hu88
            clear hu88
            go_wp2_with fail
            refine wp_region_quiet (C := fun W => Below W0.heap.size W0 W) (by kernel_rfl) (by kernel_rfl) hbd2 ?_
            refine wpQuiet_step (fun K hK => ?_)
            rw [if_pos (by rfl)]
            refine ⟨.pointer (some ⟨gx, 3, none⟩), fun W hW => quiet_ok ?_, hK _ ?_⟩
            · have q := HX.out W hW
              obtain ⟨⟨m0, m1, m2, m3, m4, m5⟩, _⟩ := q
              have q2 := HCX.out W hW
              obtain ⟨k0, k1⟩ := q2
              go_simp
              all_goals (try omega)
            clear hK K
            simp only [Act.put, aZ48, bZ48, cZ48]
            refine wpQuiet_step (fun K hK => ?_)
            rw [if_pos (by rfl)]
            refine ⟨.slice aa R.length ca, fun W hW => quiet_ok ?_, hK _ ?_⟩
            · have q := HX.out W hW
              obtain ⟨⟨m0, m1, m2, m3, m4, m5⟩, _⟩ := q
              have q2 := HCX.out W hW
              obtain ⟨k0, k1⟩ := q2
              go_simp
              all_goals (try omega)
            clear hK K
            simp only [Act.put, aZ48, bZ48, cZ48]
            refine wpQuiet_step (fun K hK => ?_)
            rw [if_pos (by rfl)]
            refine ⟨.bool false, fun W hW => quiet_call (f := 33) (args := #[.slice aa R.length ca]) ?_ ?_, hK _ ?_⟩
            · go_simp
            · exact (HSM.out W hW).mono fun e w'' h => ⟨h.1, HTR.out _ _ hW h.2⟩
            clear hK K
            simp only [Act.put, aZ48, bZ48, cZ48]
            refine wpQuiet_step (fun K hK => ?_)
            rw [if_pos (by rfl)]
            refine ⟨.bool true, fun W hW => quiet_ok ?_, hK _ ?_⟩
            · have q := HX.out W hW
              obtain ⟨⟨m0, m1, m2, m3, m4, m5⟩, _⟩ := q
              have q2 := HCX.out W hW
              obtain ⟨k0, k1⟩ := q2
              go_simp
              all_goals (try omega)
            clear hK K
            simp only [Act.put, aZ48, bZ48, cZ48]
            refine wpQuiet_step (fun K hK => ?_)
            rw [if_pos (by rfl)]
            refine ⟨.bool u78, fun W hW => quiet_ok ?_, hK _ ?_⟩
            · have q := HX.out W hW
              obtain ⟨⟨m0, m1, m2, m3, m4, m5⟩, _⟩ := q
              have q2 := HCX.out W hW
              obtain ⟨k0, k1⟩ := q2
              have v78 := HU78.out
              go_simp
              all_goals (try omega)
            clear hK K
            simp only [Act.put, aZ48, bZ48, cZ48]
            refine BigFrame.wpQuiet_skip (by show (some u78 == some false) = false; rw [HU78.out]; rfl) ?_
            simp only [Act.put, aZ48, bZ48, cZ48]
            refine BigFrame.wpQuiet_skip (by show (some u78 == some false) = false; rw [HU78.out]; rfl) ?_
            simp only [Act.put, aZ48, bZ48, cZ48]
            refine BigFrame.wpQuiet_skip (by show (some u78 == some false) = false; rw [HU78.out]; rfl) ?_
            simp only [Act.put, aZ48, bZ48, cZ48]
            refine BigFrame.wpQuiet_skip (by show (some u78 == some false) = false; rw [HU78.out]; rfl) ?_
            simp only [Act.put, aZ48, bZ48, cZ48]
            refine BigFrame.wpQuiet_skip (by show (some u78 == some false) = false; rw [HU78.out]; rfl) ?_
            simp only [Act.put, aZ48, bZ48, cZ48]
            refine BigFrame.wpQuiet_skip (by show (some u78 == some false) = false; rw [HU78.out]; rfl) ?_
            simp only [Act.put, aZ48, bZ48, cZ48]
            refine BigFrame.wpQuiet_skip (by show (some u78 == some false) = false; rw [HU78.out]; rfl) ?_
            simp only [Act.put, aZ48, bZ48, cZ48]
            refine BigFrame.wpQuiet_skip (by show (some u78 == some false) = false; rw [HU78.out]; rfl) ?_
            simp only [Act.put, aZ48, bZ48, cZ48]
            refine wpQuiet_step (fun K hK => ?_)
            rw [if_pos (by rfl)]
            refine ⟨.bool true, fun W hW => quiet_ok ?_, hK _ ?_⟩
            · have q := HX.out W hW
              obtain ⟨⟨m0, m1, m2, m3, m4, m5⟩, _⟩ := q
              have q2 := HCX.out W hW
              obtain ⟨k0, k1⟩ := q2
              have v78 := HU78.out
              go_simp
              all_goals (try omega)
            clear hK K
            simp only [Act.put, aZ48, bZ48, cZ48]
            refine wpQuiet_step (fun K hK => ?_)
            rw [if_pos (by rfl)]
            refine ⟨.bool u88, fun W hW => quiet_ok ?_, hK _ ?_⟩
            · have q := HX.out W hW
              obtain ⟨⟨m0, m1, m2, m3, m4, m5⟩, _⟩ := q
              have q2 := HCX.out W hW
              obtain ⟨k0, k1⟩ := q2
              have v78 := HU78.out
              have v88 := HU88.out
              go_simp
              all_goals (try omega)
            clear hK K
            simp only [Act.put, aZ48, bZ48, cZ48]
            refine BigFrame.wpQuiet_skip (by show (some u88 == some false) = false; rw [HU88.out]; rfl) ?_
            simp only [Act.put, aZ48, bZ48, cZ48]
            refine BigFrame.wpQuiet_skip (by show (some u88 == some false) = false; rw [HU88.out]; rfl) ?_
            simp only [Act.put, aZ48, bZ48, cZ48]
            refine BigFrame.wpQuiet_skip (by show (some u88 == some false) = false; rw [HU88.out]; rfl) ?_
            simp only [Act.put, aZ48, bZ48, cZ48]
            refine BigFrame.wpQuiet_skip (by show (some u88 == some false) = false; rw [HU88.out]; rfl) ?_
            simp only [Act.put, aZ48, bZ48, cZ48]
            refine BigFrame.wpQuiet_skip (by show (some u88 == some false) = false; rw [HU88.out]; rfl) ?_
            simp only [Act.put, aZ48, bZ48, cZ48]
            refine BigFrame.wpQuiet_skip (by show (some u88 == some false) = false; rw [HU88.out]; rfl) ?_
            simp only [Act.put, aZ48, bZ48, cZ48]
            refine BigFrame.wpQuiet_skip (by show (some u88 == some false) = false; rw [HU88.out]; rfl) ?_
            simp only [Act.put, aZ48, bZ48, cZ48]
            refine BigFrame.wpQuiet_skip (by show (some u88 == some false) = false; rw [HU88.out]; rfl) ?_
            simp only [Act.put, aZ48, bZ48, cZ48]
            refine wpQuiet_step (fun K hK => ?_)
            rw [if_pos (by rfl)]
            refine ⟨.bool true, fun W hW => quiet_ok ?_, hK _ ?_⟩
            · have q := HX.out W hW
              obtain ⟨⟨m0, m1, m2, m3, m4, m5⟩, _⟩ := q
              have q2 := HCX.out W hW
              obtain ⟨k0, k1⟩ := q2
              have v78 := HU78.out
              have v88 := HU88.out
              go_simp
              all_goals (try omega)
            clear hK K
            simp only [Act.put, aZ48, bZ48, cZ48]
            refine wpQuiet_nil ?_
            intro W2 hW2
            have hbW2 := HBW.out W2 hW2
            go_wp2_with fail
            go_ret
            exact ⟨ret_bool HF.out.symm, hbW2⟩
          | true =>
          rw [hA] at HSM
          have hpos := ans_pos hA
          have HHD : Hid (hdR R = R[0]'hpos) := hdR_at hpos
          obtain ⟨b2, o2, ha2, hbl2, hcel2⟩ := HROW2.out hpos
          subst ha2
          have hc0 := hcel2 0 hpos
          rw [Nat.zero_mul, Nat.add_zero] at hc0
          obtain ⟨h, hhe⟩ : ∃ h, h = R[0]'hpos := ⟨_, rfl⟩
          rw [← hhe] at hc0 HHD
          have HH : Hid (∀ W, Below W0.heap.size W0 W → W.cell? ⟨b2, o2, none⟩ = some (.string ⟨h.1.toArray⟩) ∧ W.cell? ⟨b2, o2 + 1, none⟩ = some (.int .i64 h.2.1) ∧ W.cell? ⟨b2, o2 + 2, none⟩ = some (.int .i64 h.2.2.1) ∧ W.cell? ⟨b2, o2 + 3, none⟩ = some (.string ⟨h.2.2.2.toArray⟩)) := fun W hW => hc0.kept (HBR0.out W hW)
          have HBR2 : Hid (¬ (h.1 = nm ∧ h.2.1 = ty) → r = false) := fun hh => HBR.out (by
            unfold tellB
            simp only [HHD.out, hA, Bool.true_and, Bool.false_eq_true]
            cases hc : ((h.1 == nm) && (h.2.1 == ty)) with
            | false => rfl
            | true => simp only [Bool.and_eq_true, beq_iff_eq] at hc; exact absurd hc hh)
          have HUP2 : Hid (h.1 = nm → h.2.1 = ty → ∀ j, j < k + 1 → stepE now L j = true) := fun h1 h2 => HUP.out (by unfold tellB; simp [HHD.out, hA, h1, h2])
          have hl2 : (0 : Int) < (R.length : Int) := by omega
          have hRn : ¬ R = [] := fun e => by rw [e] at hpos; simp at hpos
          clear HUP HBR HBR1 HHD hcel2 hhe hc0 hA HROW2 hbl2 hbd
          by_cases g5 : h.1 = nm
          case neg =>
            have HF : Hid (r = false) := HBR2.out (fun hh => g5 hh.1)
            have e5 : (h.1 == nm) = false := by simpa using g5
            have e5' : (h.1 != nm) = true := by simpa using g5
            clear HUP2 HBR2 g5
            obtain ⟨u88, hu88⟩ : ∃ u : Bool, u = true := ⟨_, rfl⟩
            have HU88 : Hid (u88 = true) := hu88
            clear hu88
            go_wp2_with fail
            refine wp_region_quiet (C := fun W => Below W0.heap.size W0 W) (by kernel_rfl) (by kernel_rfl) hbd2 ?_
            refine wpQuiet_step (fun K hK => ?_)
            rw [if_pos (by rfl)]
            refine ⟨.pointer (some ⟨gx, 3, none⟩), fun W hW => quiet_ok ?_, hK _ ?_⟩
            · have q := HX.out W hW
              obtain ⟨⟨m0, m1, m2, m3, m4, m5⟩, _⟩ := q
              have q2 := HCX.out W hW
              obtain ⟨k0, k1⟩ := q2
              have q4 := HH.out W hW
              obtain ⟨h0, h1, h2, h3⟩ := q4
              go_simp
              all_goals (try omega)
            clear hK K
            simp only [Act.put, aZ48, bZ48, cZ48]
            refine wpQuiet_step (fun K hK => ?_)
            rw [if_pos (by rfl)]
            refine ⟨.slice (some ⟨b2, o2, none⟩) R.length ca, fun W hW => quiet_ok ?_, hK _ ?_⟩
            · have q := HX.out W hW
              obtain ⟨⟨m0, m1, m2, m3, m4, m5⟩, _⟩ := q
              have q2 := HCX.out W hW
              obtain ⟨k0, k1⟩ := q2
              have q4 := HH.out W hW
              obtain ⟨h0, h1, h2, h3⟩ := q4
              go_simp
              all_goals (try omega)
            clear hK K
            simp only [Act.put, aZ48, bZ48, cZ48]
            refine wpQuiet_step (fun K hK => ?_)
            rw [if_pos (by rfl)]
            refine ⟨.bool true, fun W hW => quiet_call (f := 33) (args := #[.slice (some ⟨b2, o2, none⟩) R.length ca]) ?_ ?_, hK _ ?_⟩
            · go_simp
            · exact (HSM.out W hW).mono fun e w'' h => ⟨h.1, HTR.out _ _ hW h.2⟩
            clear hK K
            simp only [Act.put, aZ48, bZ48, cZ48]
            refine wpQuiet_step (fun K hK => ?_)
            rw [if_pos (by rfl)]
            refine ⟨.bool false, fun W hW => quiet_ok ?_, hK _ ?_⟩
            · have q := HX.out W hW
              obtain ⟨⟨m0, m1, m2, m3, m4, m5⟩, _⟩ := q
              have q2 := HCX.out W hW
              obtain ⟨k0, k1⟩ := q2
              have q4 := HH.out W hW
              obtain ⟨h0, h1, h2, h3⟩ := q4
              go_simp
              all_goals (try omega)
            clear hK K
            simp only [Act.put, aZ48, bZ48, cZ48]
            refine wpQuiet_step (fun K hK => ?_)
            rw [if_pos (by rfl)]
            refine ⟨.bool false, fun W hW => quiet_ok ?_, hK _ ?_⟩
            · have q := HX.out W hW
              obtain ⟨⟨m0, m1, m2, m3, m4, m5⟩, _⟩ := q
              have q2 := HCX.out W hW
              obtain ⟨k0, k1⟩ := q2
              have q4 := HH.out W hW
              obtain ⟨h0, h1, h2, h3⟩ := q4
              go_simp
              all_goals (try omega)
            clear hK K
            simp only [Act.put, aZ48, bZ48, cZ48]
            refine wpQuiet_step (fun K hK => ?_)
            rw [if_pos (by rfl)]
            refine ⟨.pointer (some ⟨gx, 3, none⟩), fun W hW => quiet_ok ?_, hK _ ?_⟩
            · have q := HX.out W hW
              obtain ⟨⟨m0, m1, m2, m3, m4, m5⟩, _⟩ := q
              have q2 := HCX.out W hW
              obtain ⟨k0, k1⟩ := q2
              have q4 := HH.out W hW
              obtain ⟨h0, h1, h2, h3⟩ := q4
              go_simp
              all_goals (try omega)
            clear hK K
            simp only [Act.put, aZ48, bZ48, cZ48]
            refine wpQuiet_step (fun K hK => ?_)
            rw [if_pos (by rfl)]
            refine ⟨.slice (some ⟨b2, o2, none⟩) R.length ca, fun W hW => quiet_ok ?_, hK _ ?_⟩
            · have q := HX.out W hW
              obtain ⟨⟨m0, m1, m2, m3, m4, m5⟩, _⟩ := q
              have q2 := HCX.out W hW
              obtain ⟨k0, k1⟩ := q2
              have q4 := HH.out W hW
              obtain ⟨h0, h1, h2, h3⟩ := q4
              go_simp
              all_goals (try omega)
            clear hK K
            simp only [Act.put, aZ48, bZ48, cZ48]
            refine wpQuiet_step (fun K hK => ?_)
            rw [if_pos (by rfl)]
            refine ⟨.pointer (some ⟨b2, o2, none⟩), fun W hW => quiet_ok ?_, hK _ ?_⟩
            · have q := HX.out W hW
              obtain ⟨⟨m0, m1, m2, m3, m4, m5⟩, _⟩ := q
              have q2 := HCX.out W hW
              obtain ⟨k0, k1⟩ := q2
              have q4 := HH.out W hW
              obtain ⟨h0, h1, h2, h3⟩ := q4
              go_simp
              all_goals (try omega)
            clear hK K
            simp only [Act.put, aZ48, bZ48, cZ48]
            refine wpQuiet_step (fun K hK => ?_)
            rw [if_pos (by rfl)]
            refine ⟨.pointer (some ⟨b2, o2, none⟩), fun W hW => quiet_ok ?_, hK _ ?_⟩
            · have q := HX.out W hW
              obtain ⟨⟨m0, m1, m2, m3, m4, m5⟩, _⟩ := q
              have q2 := HCX.out W hW
              obtain ⟨k0, k1⟩ := q2
              have q4 := HH.out W hW
              obtain ⟨h0, h1, h2, h3⟩ := q4
              go_simp
              all_goals (try omega)
            clear hK K
            simp only [Act.put, aZ48, bZ48, cZ48]
            refine wpQuiet_step (fun K hK => ?_)
            rw [if_pos (by rfl)]
            refine ⟨.string ⟨h.1.toArray⟩, fun W hW => quiet_ok ?_, hK _ ?_⟩
            · have q := HX.out W hW
              obtain ⟨⟨m0, m1, m2, m3, m4, m5⟩, _⟩ := q
              have q2 := HCX.out W hW
              obtain ⟨k0, k1⟩ := q2
              have q4 := HH.out W hW
              obtain ⟨h0, h1, h2, h3⟩ := q4
              go_simp
              all_goals (try omega)
            clear hK K
            simp only [Act.put, aZ48, bZ48, cZ48]
            refine wpQuiet_step (fun K hK => ?_)
            rw [if_pos (by rfl)]
            refine ⟨.pointer (some ⟨gx, 0, none⟩), fun W hW => quiet_ok ?_, hK _ ?_⟩
            · have q := HX.out W hW
              obtain ⟨⟨m0, m1, m2, m3, m4, m5⟩, _⟩ := q
              have q2 := HCX.out W hW
              obtain ⟨k0, k1⟩ := q2
              have q4 := HH.out W hW
              obtain ⟨h0, h1, h2, h3⟩ := q4
              go_simp
              all_goals (try omega)
            clear hK K
            simp only [Act.put, aZ48, bZ48, cZ48]
            refine wpQuiet_step (fun K hK => ?_)
            rw [if_pos (by rfl)]
            refine ⟨.string ⟨nm.toArray⟩, fun W hW => quiet_ok ?_, hK _ ?_⟩
            · have q := HX.out W hW
              obtain ⟨⟨m0, m1, m2, m3, m4, m5⟩, _⟩ := q
              have q2 := HCX.out W hW
              obtain ⟨k0, k1⟩ := q2
              have q4 := HH.out W hW
              obtain ⟨h0, h1, h2, h3⟩ := q4
              go_simp
              all_goals (try omega)
            clear hK K
            simp only [Act.put, aZ48, bZ48, cZ48]
            refine wpQuiet_step (fun K hK => ?_)
            rw [if_pos (by rfl)]
            refine ⟨.bool true, fun W hW => quiet_ok ?_, hK _ ?_⟩
            · have q := HX.out W hW
              obtain ⟨⟨m0, m1, m2, m3, m4, m5⟩, _⟩ := q
              have q2 := HCX.out W hW
              obtain ⟨k0, k1⟩ := q2
              have q4 := HH.out W hW
              obtain ⟨h0, h1, h2, h3⟩ := q4
              go_simp
              all_goals (try omega)
            clear hK K
            simp only [Act.put, aZ48, bZ48, cZ48]
            refine wpQuiet_step (fun K hK => ?_)
            rw [if_pos (by rfl)]
            refine ⟨.bool true, fun W hW => quiet_ok ?_, hK _ ?_⟩
            · have q := HX.out W hW
              obtain ⟨⟨m0, m1, m2, m3, m4, m5⟩, _⟩ := q
              have q2 := HCX.out W hW
              obtain ⟨k0, k1⟩ := q2
              have q4 := HH.out W hW
              obtain ⟨h0, h1, h2, h3⟩ := q4
              go_simp
              all_goals (try omega)
            clear hK K
            simp only [Act.put, aZ48, bZ48, cZ48]
            refine wpQuiet_step (fun K hK => ?_)
            rw [if_pos (by rfl)]
            refine ⟨.bool u88, fun W hW => quiet_ok ?_, hK _ ?_⟩
            · have q := HX.out W hW
              obtain ⟨⟨m0, m1, m2, m3, m4, m5⟩, _⟩ := q
              have q2 := HCX.out W hW
              obtain ⟨k0, k1⟩ := q2
              have q4 := HH.out W hW
              obtain ⟨h0, h1, h2, h3⟩ := q4
              have v88 := HU88.out
              go_simp
              all_goals (try omega)
            clear hK K
            simp only [Act.put, aZ48, bZ48, cZ48]
            refine BigFrame.wpQuiet_skip (by show (some u88 == some false) = false; rw [HU88.out]; rfl) ?_
            simp only [Act.put, aZ48, bZ48, cZ48]
            refine BigFrame.wpQuiet_skip (by show (some u88 == some false) = false; rw [HU88.out]; rfl) ?_
            simp only [Act.put, aZ48, bZ48, cZ48]
            refine BigFrame.wpQuiet_skip (by show (some u88 == some false) = false; rw [HU88.out]; rfl) ?_
            simp only [Act.put, aZ48, bZ48, cZ48]
            refine BigFrame.wpQuiet_skip (by show (some u88 == some false) = false; rw [HU88.out]; rfl) ?_
            simp only [Act.put, aZ48, bZ48, cZ48]
            refine BigFrame.wpQuiet_skip (by show (some u88 == some false) = false; rw [HU88.out]; rfl) ?_
            simp only [Act.put, aZ48, bZ48, cZ48]
            refine BigFrame.wpQuiet_skip (by show (some u88 == some false) = false; rw [HU88.out]; rfl) ?_
            simp only [Act.put, aZ48, bZ48, cZ48]
            refine BigFrame.wpQuiet_skip (by show (some u88 == some false) = false; rw [HU88.out]; rfl) ?_
            simp only [Act.put, aZ48, bZ48, cZ48]
            refine BigFrame.wpQuiet_skip (by show (some u88 == some false) = false; rw [HU88.out]; rfl) ?_
            simp only [Act.put, aZ48, bZ48, cZ48]
            refine wpQuiet_step (fun K hK => ?_)
            rw [if_pos (by rfl)]
            refine ⟨.bool true, fun W hW => quiet_ok ?_, hK _ ?_⟩
            · have q := HX.out W hW
              obtain ⟨⟨m0, m1, m2, m3, m4, m5⟩, _⟩ := q
              have q2 := HCX.out W hW
              obtain ⟨k0, k1⟩ := q2
              have q4 := HH.out W hW
              obtain ⟨h0, h1, h2, h3⟩ := q4
              have v88 := HU88.out
              go_simp
              all_goals (try omega)
            clear hK K
            simp only [Act.put, aZ48, bZ48, cZ48]
            refine wpQuiet_nil ?_
            intro W2 hW2
            have hbW2 := HBW.out W2 hW2
            go_wp2_with fail
            go_ret
            exact ⟨ret_bool HF.out.symm, hbW2⟩
          have e5 : (h.1 == nm) = true := by simpa using g5
          have e5' : (h.1 != nm) = false := by simpa using g5
          by_cases g6 : h.2.1 = ty
          case neg =>
            have HF : Hid (r = false) := HBR2.out (fun hh => g6 hh.2)
            have e6 : (h.2.1 == ty) = false := by simpa using g6
            have e6' : (h.2.1 != ty) = true := by simpa using g6
            clear HUP2 HBR2 g5 g6
            go_wp2_with fail
            refine wp_region_quiet (C := fun W => Below W0.heap.size W0 W) (by kernel_rfl) (by kernel_rfl) hbd2 ?_
            refine wpQuiet_step (fun K hK => ?_)
            rw [if_pos (by rfl)]
            refine ⟨.pointer (some ⟨gx, 3, none⟩), fun W hW => quiet_ok ?_, hK _ ?_⟩
            · have q := HX.out W hW
              obtain ⟨⟨m0, m1, m2, m3, m4, m5⟩, _⟩ := q
              have q2 := HCX.out W hW
              obtain ⟨k0, k1⟩ := q2
              have q4 := HH.out W hW
              obtain ⟨h0, h1, h2, h3⟩ := q4
              go_simp
              all_goals (try omega)
            clear hK K
            simp only [Act.put, aZ48, bZ48, cZ48]
            refine wpQuiet_step (fun K hK => ?_)
            rw [if_pos (by rfl)]
            refine ⟨.slice (some ⟨b2, o2, none⟩) R.length ca, fun W hW => quiet_ok ?_, hK _ ?_⟩
            · have q := HX.out W hW
              obtain ⟨⟨m0, m1, m2, m3, m4, m5⟩, _⟩ := q
              have q2 := HCX.out W hW
              obtain ⟨k0, k1⟩ := q2
              have q4 := HH.out W hW
              obtain ⟨h0, h1, h2, h3⟩ := q4
              go_simp
              all_goals (try omega)
            clear hK K
            simp only [Act.put, aZ48, bZ48, cZ48]
            refine wpQuiet_step (fun K hK => ?_)
            rw [if_pos (by rfl)]
            refine ⟨.bool true, fun W hW => quiet_call (f := 33) (args := #[.slice (some ⟨b2, o2, none⟩) R.length ca]) ?_ ?_, hK _ ?_⟩
            · go_simp
            · exact (HSM.out W hW).mono fun e w'' h => ⟨h.1, HTR.out _ _ hW h.2⟩
            clear hK K
            simp only [Act.put, aZ48, bZ48, cZ48]
            refine wpQuiet_step (fun K hK => ?_)
            rw [if_pos (by rfl)]
            refine ⟨.bool false, fun W hW => quiet_ok ?_, hK _ ?_⟩
            · have q := HX.out W hW
              obtain ⟨⟨m0, m1, m2, m3, m4, m5⟩, _⟩ := q
              have q2 := HCX.out W hW
              obtain ⟨k0, k1⟩ := q2
              have q4 := HH.out W hW
              obtain ⟨h0, h1, h2, h3⟩ := q4
              go_simp
              all_goals (try omega)
            clear hK K
            simp only [Act.put, aZ48, bZ48, cZ48]
            refine wpQuiet_step (fun K hK => ?_)
            rw [if_pos (by rfl)]
            refine ⟨.bool false, fun W hW => quiet_ok ?_, hK _ ?_⟩
            · have q := HX.out W hW
              obtain ⟨⟨m0, m1, m2, m3, m4, m5⟩, _⟩ := q
              have q2 := HCX.out W hW
              obtain ⟨k0, k1⟩ := q2
              have q4 := HH.out W hW
              obtain ⟨h0, h1, h2, h3⟩ := q4
              go_simp
              all_goals (try omega)
            clear hK K
            simp only [Act.put, aZ48, bZ48, cZ48]
            refine wpQuiet_step (fun K hK => ?_)
            rw [if_pos (by rfl)]
            refine ⟨.pointer (some ⟨gx, 3, none⟩), fun W hW => quiet_ok ?_, hK _ ?_⟩
            · have q := HX.out W hW
              obtain ⟨⟨m0, m1, m2, m3, m4, m5⟩, _⟩ := q
              have q2 := HCX.out W hW
              obtain ⟨k0, k1⟩ := q2
              have q4 := HH.out W hW
              obtain ⟨h0, h1, h2, h3⟩ := q4
              go_simp
              all_goals (try omega)
            clear hK K
            simp only [Act.put, aZ48, bZ48, cZ48]
            refine wpQuiet_step (fun K hK => ?_)
            rw [if_pos (by rfl)]
            refine ⟨.slice (some ⟨b2, o2, none⟩) R.length ca, fun W hW => quiet_ok ?_, hK _ ?_⟩
            · have q := HX.out W hW
              obtain ⟨⟨m0, m1, m2, m3, m4, m5⟩, _⟩ := q
              have q2 := HCX.out W hW
              obtain ⟨k0, k1⟩ := q2
              have q4 := HH.out W hW
              obtain ⟨h0, h1, h2, h3⟩ := q4
              go_simp
              all_goals (try omega)
            clear hK K
            simp only [Act.put, aZ48, bZ48, cZ48]
            refine wpQuiet_step (fun K hK => ?_)
            rw [if_pos (by rfl)]
            refine ⟨.pointer (some ⟨b2, o2, none⟩), fun W hW => quiet_ok ?_, hK _ ?_⟩
            · have q := HX.out W hW
              obtain ⟨⟨m0, m1, m2, m3, m4, m5⟩, _⟩ := q
              have q2 := HCX.out W hW
              obtain ⟨k0, k1⟩ := q2
              have q4 := HH.out W hW
              obtain ⟨h0, h1, h2, h3⟩ := q4
              go_simp
              all_goals (try omega)
            clear hK K
            simp only [Act.put, aZ48, bZ48, cZ48]
            refine wpQuiet_step (fun K hK => ?_)
            rw [if_pos (by rfl)]
            refine ⟨.pointer (some ⟨b2, o2, none⟩), fun W hW => quiet_ok ?_, hK _ ?_⟩
            · have q := HX.out W hW
              obtain ⟨⟨m0, m1, m2, m3, m4, m5⟩, _⟩ := q
              have q2 := HCX.out W hW
              obtain ⟨k0, k1⟩ := q2
              have q4 := HH.out W hW
              obtain ⟨h0, h1, h2, h3⟩ := q4
              go_simp
              all_goals (try omega)
            clear hK K
            simp only [Act.put, aZ48, bZ48, cZ48]
            refine wpQuiet_step (fun K hK => ?_)
            rw [if_pos (by rfl)]
            refine ⟨.string ⟨h.1.toArray⟩, fun W hW => quiet_ok ?_, hK _ ?_⟩
            · have q := HX.out W hW
              obtain ⟨⟨m0, m1, m2, m3, m4, m5⟩, _⟩ := q
              have q2 := HCX.out W hW
              obtain ⟨k0, k1⟩ := q2
              have q4 := HH.out W hW
              obtain ⟨h0, h1, h2, h3⟩ := q4
              go_simp
              all_goals (try omega)
            clear hK K
            simp only [Act.put, aZ48, bZ48, cZ48]
            refine wpQuiet_step (fun K hK => ?_)
            rw [if_pos (by rfl)]
            refine ⟨.pointer (some ⟨gx, 0, none⟩), fun W hW => quiet_ok ?_, hK _ ?_⟩
            · have q := HX.out W hW
              obtain ⟨⟨m0, m1, m2, m3, m4, m5⟩, _⟩ := q
              have q2 := HCX.out W hW
              obtain ⟨k0, k1⟩ := q2
              have q4 := HH.out W hW
              obtain ⟨h0, h1, h2, h3⟩ := q4
              go_simp
              all_goals (try omega)
            clear hK K
            simp only [Act.put, aZ48, bZ48, cZ48]
            refine wpQuiet_step (fun K hK => ?_)
            rw [if_pos (by rfl)]
            refine ⟨.string ⟨nm.toArray⟩, fun W hW => quiet_ok ?_, hK _ ?_⟩
            · have q := HX.out W hW
              obtain ⟨⟨m0, m1, m2, m3, m4, m5⟩, _⟩ := q
              have q2 := HCX.out W hW
              obtain ⟨k0, k1⟩ := q2
              have q4 := HH.out W hW
              obtain ⟨h0, h1, h2, h3⟩ := q4
              go_simp
              all_goals (try omega)
            clear hK K
            simp only [Act.put, aZ48, bZ48, cZ48]
            refine wpQuiet_step (fun K hK => ?_)
            rw [if_pos (by rfl)]
            refine ⟨.bool false, fun W hW => quiet_ok ?_, hK _ ?_⟩
            · have q := HX.out W hW
              obtain ⟨⟨m0, m1, m2, m3, m4, m5⟩, _⟩ := q
              have q2 := HCX.out W hW
              obtain ⟨k0, k1⟩ := q2
              have q4 := HH.out W hW
              obtain ⟨h0, h1, h2, h3⟩ := q4
              go_simp
              all_goals (try omega)
            clear hK K
            simp only [Act.put, aZ48, bZ48, cZ48]
            refine wpQuiet_step (fun K hK => ?_)
            rw [if_pos (by rfl)]
            refine ⟨.bool false, fun W hW => quiet_ok ?_, hK _ ?_⟩
            · have q := HX.out W hW
              obtain ⟨⟨m0, m1, m2, m3, m4, m5⟩, _⟩ := q
              have q2 := HCX.out W hW
              obtain ⟨k0, k1⟩ := q2
              have q4 := HH.out W hW
              obtain ⟨h0, h1, h2, h3⟩ := q4
              go_simp
              all_goals (try omega)
            clear hK K
            simp only [Act.put, aZ48, bZ48, cZ48]
            refine wpQuiet_step (fun K hK => ?_)
            rw [if_pos (by rfl)]
            refine ⟨.bool false, fun W hW => quiet_ok ?_, hK _ ?_⟩
            · have q := HX.out W hW
              obtain ⟨⟨m0, m1, m2, m3, m4, m5⟩, _⟩ := q
              have q2 := HCX.out W hW
              obtain ⟨k0, k1⟩ := q2
              have q4 := HH.out W hW
              obtain ⟨h0, h1, h2, h3⟩ := q4
              go_simp
              all_goals (try omega)
            clear hK K
            simp only [Act.put, aZ48, bZ48, cZ48]
            refine wpQuiet_step (fun K hK => ?_)
            rw [if_pos (by rfl)]
            refine ⟨.pointer (some ⟨gx, 3, none⟩), fun W hW => quiet_ok ?_, hK _ ?_⟩
            · have q := HX.out W hW
              obtain ⟨⟨m0, m1, m2, m3, m4, m5⟩, _⟩ := q
              have q2 := HCX.out W hW
              obtain ⟨k0, k1⟩ := q2
              have q4 := HH.out W hW
              obtain ⟨h0, h1, h2, h3⟩ := q4
              go_simp
              all_goals (try omega)
            clear hK K
            simp only [Act.put, aZ48, bZ48, cZ48]
            refine wpQuiet_step (fun K hK => ?_)
            rw [if_pos (by rfl)]
            refine ⟨.slice (some ⟨b2, o2, none⟩) R.length ca, fun W hW => quiet_ok ?_, hK _ ?_⟩
            · have q := HX.out W hW
              obtain ⟨⟨m0, m1, m2, m3, m4, m5⟩, _⟩ := q
              have q2 := HCX.out W hW
              obtain ⟨k0, k1⟩ := q2
              have q4 := HH.out W hW
              obtain ⟨h0, h1, h2, h3⟩ := q4
              go_simp
              all_goals (try omega)
            clear hK K
            simp only [Act.put, aZ48, bZ48, cZ48]
            refine wpQuiet_step (fun K hK => ?_)
            rw [if_pos (by rfl)]
            refine ⟨.pointer (some ⟨b2, o2, none⟩), fun W hW => quiet_ok ?_, hK _ ?_⟩
            · have q := HX.out W hW
              obtain ⟨⟨m0, m1, m2, m3, m4, m5⟩, _⟩ := q
              have q2 := HCX.out W hW
              obtain ⟨k0, k1⟩ := q2
              have q4 := HH.out W hW
              obtain ⟨h0, h1, h2, h3⟩ := q4
              go_simp
              all_goals (try omega)
            clear hK K
            simp only [Act.put, aZ48, bZ48, cZ48]
            refine wpQuiet_step (fun K hK => ?_)
            rw [if_pos (by rfl)]
            refine ⟨.pointer (some ⟨b2, o2 + 1, none⟩), fun W hW => quiet_ok ?_, hK _ ?_⟩
            · have q := HX.out W hW
              obtain ⟨⟨m0, m1, m2, m3, m4, m5⟩, _⟩ := q
              have q2 := HCX.out W hW
              obtain ⟨k0, k1⟩ := q2
              have q4 := HH.out W hW
              obtain ⟨h0, h1, h2, h3⟩ := q4
              go_simp
              all_goals (try omega)
            clear hK K
            simp only [Act.put, aZ48, bZ48, cZ48]
            refine wpQuiet_step (fun K hK => ?_)
            rw [if_pos (by rfl)]
            refine ⟨.int .i64 h.2.1, fun W hW => quiet_ok ?_, hK _ ?_⟩
            · have q := HX.out W hW
              obtain ⟨⟨m0, m1, m2, m3, m4, m5⟩, _⟩ := q
              have q2 := HCX.out W hW
              obtain ⟨k0, k1⟩ := q2
              have q4 := HH.out W hW
              obtain ⟨h0, h1, h2, h3⟩ := q4
              go_simp
              all_goals (try omega)
            clear hK K
            simp only [Act.put, aZ48, bZ48, cZ48]
            refine wpQuiet_step (fun K hK => ?_)
            rw [if_pos (by rfl)]
            refine ⟨.pointer (some ⟨gx, 1, none⟩), fun W hW => quiet_ok ?_, hK _ ?_⟩
            · have q := HX.out W hW
              obtain ⟨⟨m0, m1, m2, m3, m4, m5⟩, _⟩ := q
              have q2 := HCX.out W hW
              obtain ⟨k0, k1⟩ := q2
              have q4 := HH.out W hW
              obtain ⟨h0, h1, h2, h3⟩ := q4
              go_simp
              all_goals (try omega)
            clear hK K
            simp only [Act.put, aZ48, bZ48, cZ48]
            refine wpQuiet_step (fun K hK => ?_)
            rw [if_pos (by rfl)]
            refine ⟨.int .i64 ty, fun W hW => quiet_ok ?_, hK _ ?_⟩
            · have q := HX.out W hW
              obtain ⟨⟨m0, m1, m2, m3, m4, m5⟩, _⟩ := q
              have q2 := HCX.out W hW
              obtain ⟨k0, k1⟩ := q2
              have q4 := HH.out W hW
              obtain ⟨h0, h1, h2, h3⟩ := q4
              go_simp
              all_goals (try omega)
            clear hK K
            simp only [Act.put, aZ48, bZ48, cZ48]
            refine wpQuiet_step (fun K hK => ?_)
            rw [if_pos (by rfl)]
            refine ⟨.bool true, fun W hW => quiet_ok ?_, hK _ ?_⟩
            · have q := HX.out W hW
              obtain ⟨⟨m0, m1, m2, m3, m4, m5⟩, _⟩ := q
              have q2 := HCX.out W hW
              obtain ⟨k0, k1⟩ := q2
              have q4 := HH.out W hW
              obtain ⟨h0, h1, h2, h3⟩ := q4
              go_simp
              all_goals (try omega)
            clear hK K
            simp only [Act.put, aZ48, bZ48, cZ48]
            refine wpQuiet_step (fun K hK => ?_)
            rw [if_pos (by rfl)]
            refine ⟨.bool true, fun W hW => quiet_ok ?_, hK _ ?_⟩
            · have q := HX.out W hW
              obtain ⟨⟨m0, m1, m2, m3, m4, m5⟩, _⟩ := q
              have q2 := HCX.out W hW
              obtain ⟨k0, k1⟩ := q2
              have q4 := HH.out W hW
              obtain ⟨h0, h1, h2, h3⟩ := q4
              go_simp
              all_goals (try omega)
            clear hK K
            simp only [Act.put, aZ48, bZ48, cZ48]
            refine wpQuiet_nil ?_
            intro W2 hW2
            have hbW2 := HBW.out W2 hW2
            go_wp2_with fail
            go_ret
            exact ⟨ret_bool HF.out.symm, hbW2⟩
          have e6 : (h.2.1 == ty) = true := by simpa using g6
          have e6' : (h.2.1 != ty) = false := by simpa using g6
          have HU : Hid (∀ j, j < k + 1 → stepE now L j = true) := HUP2.out g5 g6
          clear HUP2 HBR2 g5 g6
          go_wp2_with fail
          refine wp_region_quiet (C := fun W => Below W0.heap.size W0 W) (by kernel_rfl) (by kernel_rfl) hbd2 ?_
          refine wpQuiet_step (fun K hK => ?_)
          rw [if_pos (by rfl)]
          refine ⟨.pointer (some ⟨gx, 3, none⟩), fun W hW => quiet_ok ?_, hK _ ?_⟩
          · have q := HX.out W hW
            obtain ⟨⟨m0, m1, m2, m3, m4, m5⟩, _⟩ := q
            have q2 := HCX.out W hW
            obtain ⟨k0, k1⟩ := q2
            have q4 := HH.out W hW
            obtain ⟨h0, h1, h2, h3⟩ := q4
            go_simp
            all_goals (try omega)
          clear hK K
          simp only [Act.put, aZ48, bZ48, cZ48]
          refine wpQuiet_step (fun K hK => ?_)
          rw [if_pos (by rfl)]
          refine ⟨.slice (some ⟨b2, o2, none⟩) R.length ca, fun W hW => quiet_ok ?_, hK _ ?_⟩
          · have q := HX.out W hW
            obtain ⟨⟨m0, m1, m2, m3, m4, m5⟩, _⟩ := q
            have q2 := HCX.out W hW
            obtain ⟨k0, k1⟩ := q2
            have q4 := HH.out W hW
            obtain ⟨h0, h1, h2, h3⟩ := q4
            go_simp
            all_goals (try omega)
          clear hK K
          simp only [Act.put, aZ48, bZ48, cZ48]
          refine wpQuiet_step (fun K hK => ?_)
          rw [if_pos (by rfl)]
          refine ⟨.bool true, fun W hW => quiet_call (f := 33) (args := #[.slice (some ⟨b2, o2, none⟩) R.length ca]) ?_ ?_, hK _ ?_⟩
          · go_simp
          · exact (HSM.out W hW).mono fun e w'' h => ⟨h.1, HTR.out _ _ hW h.2⟩
          clear hK K
          simp only [Act.put, aZ48, bZ48, cZ48]
          refine wpQuiet_step (fun K hK => ?_)
          rw [if_pos (by rfl)]
          refine ⟨.bool false, fun W hW => quiet_ok ?_, hK _ ?_⟩
          · have q := HX.out W hW
            obtain ⟨⟨m0, m1, m2, m3, m4, m5⟩, _⟩ := q
            have q2 := HCX.out W hW
            obtain ⟨k0, k1⟩ := q2
            have q4 := HH.out W hW
            obtain ⟨h0, h1, h2, h3⟩ := q4
            go_simp
            all_goals (try omega)
          clear hK K
          simp only [Act.put, aZ48, bZ48, cZ48]
          refine wpQuiet_step (fun K hK => ?_)
          rw [if_pos (by rfl)]
          refine ⟨.bool false, fun W hW => quiet_ok ?_, hK _ ?_⟩
          · have q := HX.out W hW
            obtain ⟨⟨m0, m1, m2, m3, m4, m5⟩, _⟩ := q
            have q2 := HCX.out W hW
            obtain ⟨k0, k1⟩ := q2
            have q4 := HH.out W hW
            obtain ⟨h0, h1, h2, h3⟩ := q4
            go_simp
            all_goals (try omega)
          clear hK K
          simp only [Act.put, aZ48, bZ48, cZ48]
          refine wpQuiet_step (fun K hK => ?_)
          rw [if_pos (by rfl)]
          refine ⟨.pointer (some ⟨gx, 3, none⟩), fun W hW => quiet_ok ?_, hK _ ?_⟩
          · have q := HX.out W hW
            obtain ⟨⟨m0, m1, m2, m3, m4, m5⟩, _⟩ := q
            have q2 := HCX.out W hW
            obtain ⟨k0, k1⟩ := q2
            have q4 := HH.out W hW
            obtain ⟨h0, h1, h2, h3⟩ := q4
            go_simp
            all_goals (try omega)
          clear hK K
          simp only [Act.put, aZ48, bZ48, cZ48]
          refine wpQuiet_step (fun K hK => ?_)
          rw [if_pos (by rfl)]
          refine ⟨.slice (some ⟨b2, o2, none⟩) R.length ca, fun W hW => quiet_ok ?_, hK _ ?_⟩
          · have q := HX.out W hW
            obtain ⟨⟨m0, m1, m2, m3, m4, m5⟩, _⟩ := q
            have q2 := HCX.out W hW
            obtain ⟨k0, k1⟩ := q2
            have q4 := HH.out W hW
            obtain ⟨h0, h1, h2, h3⟩ := q4
            go_simp
            all_goals (try omega)
          clear hK K
          simp only [Act.put, aZ48, bZ48, cZ48]
          refine wpQuiet_step (fun K hK => ?_)
          rw [if_pos (by rfl)]
          refine ⟨.pointer (some ⟨b2, o2, none⟩), fun W hW => quiet_ok ?_, hK _ ?_⟩
          · have q := HX.out W hW
            obtain ⟨⟨m0, m1, m2, m3, m4, m5⟩, _⟩ := q
            have q2 := HCX.out W hW
            obtain ⟨k0, k1⟩ := q2
            have q4 := HH.out W hW
            obtain ⟨h0, h1, h2, h3⟩ := q4
            go_simp
            all_goals (try omega)
          clear hK K
          simp only [Act.put, aZ48, bZ48, cZ48]
          refine wpQuiet_step (fun K hK => ?_)
          rw [if_pos (by rfl)]
          refine ⟨.pointer (some ⟨b2, o2, none⟩), fun W hW => quiet_ok ?_, hK _ ?_⟩
          · have q := HX.out W hW
            obtain ⟨⟨m0, m1, m2, m3, m4, m5⟩, _⟩ := q
            have q2 := HCX.out W hW
            obtain ⟨k0, k1⟩ := q2
            have q4 := HH.out W hW
            obtain ⟨h0, h1, h2, h3⟩ := q4
            go_simp
            all_goals (try omega)
          clear hK K
          simp only [Act.put, aZ48, bZ48, cZ48]
          refine wpQuiet_step (fun K hK => ?_)
          rw [if_pos (by rfl)]
          refine ⟨.string ⟨h.1.toArray⟩, fun W hW => quiet_ok ?_, hK _ ?_⟩
          · have q := HX.out W hW
            obtain ⟨⟨m0, m1, m2, m3, m4, m5⟩, _⟩ := q
            have q2 := HCX.out W hW
            obtain ⟨k0, k1⟩ := q2
            have q4 := HH.out W hW
            obtain ⟨h0, h1, h2, h3⟩ := q4
            go_simp
            all_goals (try omega)
          clear hK K
          simp only [Act.put, aZ48, bZ48, cZ48]
          refine wpQuiet_step (fun K hK => ?_)
          rw [if_pos (by rfl)]
          refine ⟨.pointer (some ⟨gx, 0, none⟩), fun W hW => quiet_ok ?_, hK _ ?_⟩
          · have q := HX.out W hW
            obtain ⟨⟨m0, m1, m2, m3, m4, m5⟩, _⟩ := q
            have q2 := HCX.out W hW
            obtain ⟨k0, k1⟩ := q2
            have q4 := HH.out W hW
            obtain ⟨h0, h1, h2, h3⟩ := q4
            go_simp
            all_goals (try omega)
          clear hK K
          simp only [Act.put, aZ48, bZ48, cZ48]
          refine wpQuiet_step (fun K hK => ?_)
          rw [if_pos (by rfl)]
          refine ⟨.string ⟨nm.toArray⟩, fun W hW => quiet_ok ?_, hK _ ?_⟩
          · have q := HX.out W hW
            obtain ⟨⟨m0, m1, m2, m3, m4, m5⟩, _⟩ := q
            have q2 := HCX.out W hW
            obtain ⟨k0, k1⟩ := q2
            have q4 := HH.out W hW
            obtain ⟨h0, h1, h2, h3⟩ := q4
            go_simp
            all_goals (try omega)
          clear hK K
          simp only [Act.put, aZ48, bZ48, cZ48]
          refine wpQuiet_step (fun K hK => ?_)
          rw [if_pos (by rfl)]
          refine ⟨.bool false, fun W hW => quiet_ok ?_, hK _ ?_⟩
          · have q := HX.out W hW
            obtain ⟨⟨m0, m1, m2, m3, m4, m5⟩, _⟩ := q
            have q2 := HCX.out W hW
            obtain ⟨k0, k1⟩ := q2
            have q4 := HH.out W hW
            obtain ⟨h0, h1, h2, h3⟩ := q4
            go_simp
            all_goals (try omega)
          clear hK K
          simp only [Act.put, aZ48, bZ48, cZ48]
          refine wpQuiet_step (fun K hK => ?_)
          rw [if_pos (by rfl)]
          refine ⟨.bool false, fun W hW => quiet_ok ?_, hK _ ?_⟩
          · have q := HX.out W hW
            obtain ⟨⟨m0, m1, m2, m3, m4, m5⟩, _⟩ := q
            have q2 := HCX.out W hW
            obtain ⟨k0, k1⟩ := q2
            have q4 := HH.out W hW
            obtain ⟨h0, h1, h2, h3⟩ := q4
            go_simp
            all_goals (try omega)
          clear hK K
          simp only [Act.put, aZ48, bZ48, cZ48]
          refine wpQuiet_step (fun K hK => ?_)
          rw [if_pos (by rfl)]
          refine ⟨.bool false, fun W hW => quiet_ok ?_, hK _ ?_⟩
          · have q := HX.out W hW
            obtain ⟨⟨m0, m1, m2, m3, m4, m5⟩, _⟩ := q
            have q2 := HCX.out W hW
            obtain ⟨k0, k1⟩ := q2
            have q4 := HH.out W hW
            obtain ⟨h0, h1, h2, h3⟩ := q4
            go_simp
            all_goals (try omega)
          clear hK K
          simp only [Act.put, aZ48, bZ48, cZ48]
          refine wpQuiet_step (fun K hK => ?_)
          rw [if_pos (by rfl)]
          refine ⟨.pointer (some ⟨gx, 3, none⟩), fun W hW => quiet_ok ?_, hK _ ?_⟩
          · have q := HX.out W hW
            obtain ⟨⟨m0, m1, m2, m3, m4, m5⟩, _⟩ := q
            have q2 := HCX.out W hW
            obtain ⟨k0, k1⟩ := q2
            have q4 := HH.out W hW
            obtain ⟨h0, h1, h2, h3⟩ := q4
            go_simp
            all_goals (try omega)
          clear hK K
          simp only [Act.put, aZ48, bZ48, cZ48]
          refine wpQuiet_step (fun K hK => ?_)
          rw [if_pos (by rfl)]
          refine ⟨.slice (some ⟨b2, o2, none⟩) R.length ca, fun W hW => quiet_ok ?_, hK _ ?_⟩
          · have q := HX.out W hW
            obtain ⟨⟨m0, m1, m2, m3, m4, m5⟩, _⟩ := q
            have q2 := HCX.out W hW
            obtain ⟨k0, k1⟩ := q2
            have q4 := HH.out W hW
            obtain ⟨h0, h1, h2, h3⟩ := q4
            go_simp
            all_goals (try omega)
          clear hK K
          simp only [Act.put, aZ48, bZ48, cZ48]
          refine wpQuiet_step (fun K hK => ?_)
          rw [if_pos (by rfl)]
          refine ⟨.pointer (some ⟨b2, o2, none⟩), fun W hW => quiet_ok ?_, hK _ ?_⟩
          · have q := HX.out W hW
            obtain ⟨⟨m0, m1, m2, m3, m4, m5⟩, _⟩ := q
            have q2 := HCX.out W hW
            obtain ⟨k0, k1⟩ := q2
            have q4 := HH.out W hW
            obtain ⟨h0, h1, h2, h3⟩ := q4
            go_simp
            all_goals (try omega)
          clear hK K
          simp only [Act.put, aZ48, bZ48, cZ48]
          refine wpQuiet_step (fun K hK => ?_)
          rw [if_pos (by rfl)]
          refine ⟨.pointer (some ⟨b2, o2 + 1, none⟩), fun W hW => quiet_ok ?_, hK _ ?_⟩
          · have q := HX.out W hW
            obtain ⟨⟨m0, m1, m2, m3, m4, m5⟩, _⟩ := q
            have q2 := HCX.out W hW
            obtain ⟨k0, k1⟩ := q2
            have q4 := HH.out W hW
            obtain ⟨h0, h1, h2, h3⟩ := q4
            go_simp
            all_goals (try omega)
          clear hK K
          simp only [Act.put, aZ48, bZ48, cZ48]
          refine wpQuiet_step (fun K hK => ?_)
          rw [if_pos (by rfl)]
          refine ⟨.int .i64 h.2.1, fun W hW => quiet_ok ?_, hK _ ?_⟩
          · have q := HX.out W hW
            obtain ⟨⟨m0, m1, m2, m3, m4, m5⟩, _⟩ := q
            have q2 := HCX.out W hW
            obtain ⟨k0, k1⟩ := q2
            have q4 := HH.out W hW
            obtain ⟨h0, h1, h2, h3⟩ := q4
            go_simp
            all_goals (try omega)
          clear hK K
          simp only [Act.put, aZ48, bZ48, cZ48]
          refine wpQuiet_step (fun K hK => ?_)
          rw [if_pos (by rfl)]
          refine ⟨.pointer (some ⟨gx, 1, none⟩), fun W hW => quiet_ok ?_, hK _ ?_⟩
          · have q := HX.out W hW
            obtain ⟨⟨m0, m1, m2, m3, m4, m5⟩, _⟩ := q
            have q2 := HCX.out W hW
            obtain ⟨k0, k1⟩ := q2
            have q4 := HH.out W hW
            obtain ⟨h0, h1, h2, h3⟩ := q4
            go_simp
            all_goals (try omega)
          clear hK K
          simp only [Act.put, aZ48, bZ48, cZ48]
          refine wpQuiet_step (fun K hK => ?_)
          rw [if_pos (by rfl)]
          refine ⟨.int .i64 ty, fun W hW => quiet_ok ?_, hK _ ?_⟩
          · have q := HX.out W hW
            obtain ⟨⟨m0, m1, m2, m3, m4, m5⟩, _⟩ := q
            have q2 := HCX.out W hW
            obtain ⟨k0, k1⟩ := q2
            have q4 := HH.out W hW
            obtain ⟨h0, h1, h2, h3⟩ := q4
            go_simp
            all_goals (try omega)
          clear hK K
          simp only [Act.put, aZ48, bZ48, cZ48]
          refine wpQuiet_step (fun K hK => ?_)
          rw [if_pos (by rfl)]
          refine ⟨.bool false, fun W hW => quiet_ok ?_, hK _ ?_⟩
          · have q := HX.out W hW
            obtain ⟨⟨m0, m1, m2, m3, m4, m5⟩, _⟩ := q
            have q2 := HCX.out W hW
            obtain ⟨k0, k1⟩ := q2
            have q4 := HH.out W hW
            obtain ⟨h0, h1, h2, h3⟩ := q4
            go_simp
            all_goals (try omega)
          clear hK K
          simp only [Act.put, aZ48, bZ48, cZ48]
          refine wpQuiet_step (fun K hK => ?_)
          rw [if_pos (by rfl)]
          refine ⟨.bool false, fun W hW => quiet_ok ?_, hK _ ?_⟩
          · have q := HX.out W hW
            obtain ⟨⟨m0, m1, m2, m3, m4, m5⟩, _⟩ := q
            have q2 := HCX.out W hW
            obtain ⟨k0, k1⟩ := q2
            have q4 := HH.out W hW
            obtain ⟨h0, h1, h2, h3⟩ := q4
            go_simp
            all_goals (try omega)
          clear hK K
          simp only [Act.put, aZ48, bZ48, cZ48]
          refine wpQuiet_nil ?_
          intro W2 hW2
          have hbW2 := HBW.out W2 hW2
          have HIW : Hid (Below WB.heap.size WB W2) := HIB.out W2 hW2
          go_wp2_with fail
          go_roundw
          case rel => exact ⟨k + 1, by omega, by go_num, HU, HIW.out⟩
          case measure => simp [intOf]; omega
      · obtain ⟨j, hj⟩ : ∃ j, k = j + 1 := ⟨k - 1, by omega⟩
        obtain ⟨y, vb, hye, hny, hyl, hys, hyc⟩ := HPREV.out j hj
        rw [hye] at HG
        have HL : Hid (∀ W, Calls Tryz.prog 63 #[.agg #[.string ⟨y.1.toArray⟩, .int .i64 y.2.1, .bool y.2.2.1, vb, .int .i64 y.2.2.2.2.1, .int .i64 y.2.2.2.2.2], .agg #[.string ⟨nm.toArray⟩, .int .i64 ty, .bool no, .slice aa R.length ca, .int .i64 un, .int .i64 us]] W fun e w' => e = .returned (.bool (lessE y (nm, ty, no, R, un, us))) ∧ Below W.heap.size W w') := fun W => l10Less_any y (nm, ty, no, R, un, us) vb (.slice aa R.length ca) W hyl HXL.out ⟨hny, h1⟩ hys ⟨_, _, _, rfl⟩
        have HY : Hid (∀ W, Below W0.heap.size W0 W → W.cell? ⟨b, o + j * 6, none⟩ = some (.string ⟨y.1.toArray⟩) ∧ W.cell? ⟨b, o + j * 6 + 1, none⟩ = some (.int .i64 y.2.1) ∧ W.cell? ⟨b, o + j * 6 + 2, none⟩ = some (.bool y.2.2.1) ∧ W.cell? ⟨b, o + j * 6 + 3, none⟩ = some (vb) ∧ W.cell? ⟨b, o + j * 6 + 4, none⟩ = some (.int .i64 y.2.2.2.2.1) ∧ W.cell? ⟨b, o + j * 6 + 5, none⟩ = some (.int .i64 y.2.2.2.2.2)) := fun W hW => (hyc W (HBW.out W hW)).1
        have hk0i : (0 : Int) < (k : Int) := by omega
        have wk : IntKind.i64.wrap ((k : Int) - 1) = (j : Int) := by rw [wrap_small _ (by omega) (by omega)]; omega
        have wk2 : (k : Int) - 1 = (j : Int) := by omega
        have wj : IntKind.i64.wrap (j : Int) = (j : Int) := wrap_small _ (by omega) (by omega)
        have hjl : (j : Int) < (L.length : Int) := by omega
        have HKB : Hid ((k == 0) = false) := by show _ = false; simp; omega
        clear HPREV hk0 hye hny hyl hyc hj hys
        cases h5 : lessE y (nm, ty, no, R, un, us) with
        | false =>
          have HF : Hid (r = false) := HBAD.out (HG.out.trans (by rw [HKB.out, h5]; simp))
          rw [h5] at HL
          clear HBAD HG h1 h2 h3 h4 h5 HUPA HROW2 HKB
          go_wp2_with fail
          rw [HW0.out, HGX.out]
          refine wp_region_quiet (C := fun W => Below W0.heap.size W0 W) (by kernel_rfl) (by kernel_rfl) hbd ?_
          refine wpQuiet_step (fun K hK => ?_)
          rw [if_pos (by rfl)]
          refine ⟨.pointer (some ⟨gx, 0, none⟩), fun W hW => quiet_ok ?_, hK _ ?_⟩
          · have q := HX.out W hW
            obtain ⟨⟨m0, m1, m2, m3, m4, m5⟩, _⟩ := q
            have q2 := HCX.out W hW
            obtain ⟨k0, k1⟩ := q2
            have q3 := HY.out W hW
            obtain ⟨y0, y1, y2, y3, y4, y5⟩ := q3
            go_simp
            all_goals (try omega)
          clear hK K
          simp only [Act.put, aZ48, bZ48, cZ48]
          refine wpQuiet_step (fun K hK => ?_)
          rw [if_pos (by rfl)]
          refine ⟨.string ⟨nm.toArray⟩, fun W hW => quiet_ok ?_, hK _ ?_⟩
          · have q := HX.out W hW
            obtain ⟨⟨m0, m1, m2, m3, m4, m5⟩, _⟩ := q
            have q2 := HCX.out W hW
            obtain ⟨k0, k1⟩ := q2
            have q3 := HY.out W hW
            obtain ⟨y0, y1, y2, y3, y4, y5⟩ := q3
            go_simp
            all_goals (try omega)
          clear hK K
          simp only [Act.put, aZ48, bZ48, cZ48]
          refine wpQuiet_step (fun K hK => ?_)
          rw [if_pos (by rfl)]
          refine ⟨.bool true, fun W hW => quiet_call (f := 47) (args := #[.string ⟨nm.toArray⟩]) ?_ ?_, hK _ ?_⟩
          · go_simp
          · exact (HN.out W).mono fun e w'' h => ⟨h.1, HTR.out _ _ hW h.2⟩
          clear hK K
          simp only [Act.put, aZ48, bZ48, cZ48]
          refine wpQuiet_step (fun K hK => ?_)
          rw [if_pos (by rfl)]
          refine ⟨.bool false, fun W hW => quiet_ok ?_, hK _ ?_⟩
          · have q := HX.out W hW
            obtain ⟨⟨m0, m1, m2, m3, m4, m5⟩, _⟩ := q
            have q2 := HCX.out W hW
            obtain ⟨k0, k1⟩ := q2
            have q3 := HY.out W hW
            obtain ⟨y0, y1, y2, y3, y4, y5⟩ := q3
            go_simp
            all_goals (try omega)
          clear hK K
          simp only [Act.put, aZ48, bZ48, cZ48]
          refine wpQuiet_step (fun K hK => ?_)
          rw [if_pos (by rfl)]
          refine ⟨.bool false, fun W hW => quiet_ok ?_, hK _ ?_⟩
          · have q := HX.out W hW
            obtain ⟨⟨m0, m1, m2, m3, m4, m5⟩, _⟩ := q
            have q2 := HCX.out W hW
            obtain ⟨k0, k1⟩ := q2
            have q3 := HY.out W hW
            obtain ⟨y0, y1, y2, y3, y4, y5⟩ := q3
            go_simp
            all_goals (try omega)
          clear hK K
          simp only [Act.put, aZ48, bZ48, cZ48]
          refine wpQuiet_step (fun K hK => ?_)
          rw [if_pos (by rfl)]
          refine ⟨.pointer (some ⟨gx, 1, none⟩), fun W hW => quiet_ok ?_, hK _ ?_⟩
          · have q := HX.out W hW
            obtain ⟨⟨m0, m1, m2, m3, m4, m5⟩, _⟩ := q
            have q2 := HCX.out W hW
            obtain ⟨k0, k1⟩ := q2
            have q3 := HY.out W hW
            obtain ⟨y0, y1, y2, y3, y4, y5⟩ := q3
            go_simp
            all_goals (try omega)
          clear hK K
          simp only [Act.put, aZ48, bZ48, cZ48]
          refine wpQuiet_step (fun K hK => ?_)
          rw [if_pos (by rfl)]
          refine ⟨.int .i64 ty, fun W hW => quiet_ok ?_, hK _ ?_⟩
          · have q := HX.out W hW
            obtain ⟨⟨m0, m1, m2, m3, m4, m5⟩, _⟩ := q
            have q2 := HCX.out W hW
            obtain ⟨k0, k1⟩ := q2
            have q3 := HY.out W hW
            obtain ⟨y0, y1, y2, y3, y4, y5⟩ := q3
            go_simp
            all_goals (try omega)
          clear hK K
          simp only [Act.put, aZ48, bZ48, cZ48]
          refine wpQuiet_step (fun K hK => ?_)
          rw [if_pos (by rfl)]
          refine ⟨.bool true, fun W hW => quiet_call (f := 48) (args := #[.int .i64 ty]) ?_ ?_, hK _ ?_⟩
          · go_simp
          · exact (HT.out W).mono fun e w'' h => ⟨h.1, HTR.out _ _ hW h.2⟩
          clear hK K
          simp only [Act.put, aZ48, bZ48, cZ48]
          refine wpQuiet_step (fun K hK => ?_)
          rw [if_pos (by rfl)]
          refine ⟨.bool false, fun W hW => quiet_ok ?_, hK _ ?_⟩
          · have q := HX.out W hW
            obtain ⟨⟨m0, m1, m2, m3, m4, m5⟩, _⟩ := q
            have q2 := HCX.out W hW
            obtain ⟨k0, k1⟩ := q2
            have q3 := HY.out W hW
            obtain ⟨y0, y1, y2, y3, y4, y5⟩ := q3
            go_simp
            all_goals (try omega)
          clear hK K
          simp only [Act.put, aZ48, bZ48, cZ48]
          refine wpQuiet_step (fun K hK => ?_)
          rw [if_pos (by rfl)]
          refine ⟨.bool false, fun W hW => quiet_ok ?_, hK _ ?_⟩
          · have q := HX.out W hW
            obtain ⟨⟨m0, m1, m2, m3, m4, m5⟩, _⟩ := q
            have q2 := HCX.out W hW
            obtain ⟨k0, k1⟩ := q2
            have q3 := HY.out W hW
            obtain ⟨y0, y1, y2, y3, y4, y5⟩ := q3
            go_simp
            all_goals (try omega)
          clear hK K
          simp only [Act.put, aZ48, bZ48, cZ48]
          refine wpQuiet_step (fun K hK => ?_)
          rw [if_pos (by rfl)]
          refine ⟨.bool false, fun W hW => quiet_ok ?_, hK _ ?_⟩
          · have q := HX.out W hW
            obtain ⟨⟨m0, m1, m2, m3, m4, m5⟩, _⟩ := q
            have q2 := HCX.out W hW
            obtain ⟨k0, k1⟩ := q2
            have q3 := HY.out W hW
            obtain ⟨y0, y1, y2, y3, y4, y5⟩ := q3
            go_simp
            all_goals (try omega)
          clear hK K
          simp only [Act.put, aZ48, bZ48, cZ48]
          refine wpQuiet_step (fun K hK => ?_)
          rw [if_pos (by rfl)]
          refine ⟨.pointer (some ⟨gx, 4, none⟩), fun W hW => quiet_ok ?_, hK _ ?_⟩
          · have q := HX.out W hW
            obtain ⟨⟨m0, m1, m2, m3, m4, m5⟩, _⟩ := q
            have q2 := HCX.out W hW
            obtain ⟨k0, k1⟩ := q2
            have q3 := HY.out W hW
            obtain ⟨y0, y1, y2, y3, y4, y5⟩ := q3
            go_simp
            all_goals (try omega)
          clear hK K
          simp only [Act.put, aZ48, bZ48, cZ48]
          refine wpQuiet_step (fun K hK => ?_)
          rw [if_pos (by rfl)]
          refine ⟨.int .i64 un, fun W hW => quiet_ok ?_, hK _ ?_⟩
          · have q := HX.out W hW
            obtain ⟨⟨m0, m1, m2, m3, m4, m5⟩, _⟩ := q
            have q2 := HCX.out W hW
            obtain ⟨k0, k1⟩ := q2
            have q3 := HY.out W hW
            obtain ⟨y0, y1, y2, y3, y4, y5⟩ := q3
            go_simp
            all_goals (try omega)
          clear hK K
          simp only [Act.put, aZ48, bZ48, cZ48]
          refine wpQuiet_step (fun K hK => ?_)
          rw [if_pos (by rfl)]
          refine ⟨.pointer (some ⟨w.heap.size, 0, none⟩), fun W hW => quiet_ok ?_, hK _ ?_⟩
          · have q := HX.out W hW
            obtain ⟨⟨m0, m1, m2, m3, m4, m5⟩, _⟩ := q
            have q2 := HCX.out W hW
            obtain ⟨k0, k1⟩ := q2
            have q3 := HY.out W hW
            obtain ⟨y0, y1, y2, y3, y4, y5⟩ := q3
            go_simp
            all_goals (try omega)
          clear hK K
          simp only [Act.put, aZ48, bZ48, cZ48]
          refine wpQuiet_step (fun K hK => ?_)
          rw [if_pos (by rfl)]
          refine ⟨.int .i64 now, fun W hW => quiet_ok ?_, hK _ ?_⟩
          · have q := HX.out W hW
            obtain ⟨⟨m0, m1, m2, m3, m4, m5⟩, _⟩ := q
            have q2 := HCX.out W hW
            obtain ⟨k0, k1⟩ := q2
            have q3 := HY.out W hW
            obtain ⟨y0, y1, y2, y3, y4, y5⟩ := q3
            go_simp
            all_goals (try omega)
          clear hK K
          simp only [Act.put, aZ48, bZ48, cZ48]
          refine wpQuiet_step (fun K hK => ?_)
          rw [if_pos (by rfl)]
          refine ⟨.int .i64 (now + 1), fun W hW => quiet_ok ?_, hK _ ?_⟩
          · have q := HX.out W hW
            obtain ⟨⟨m0, m1, m2, m3, m4, m5⟩, _⟩ := q
            have q2 := HCX.out W hW
            obtain ⟨k0, k1⟩ := q2
            have q3 := HY.out W hW
            obtain ⟨y0, y1, y2, y3, y4, y5⟩ := q3
            go_simp
            all_goals (try omega)
          clear hK K
          simp only [Act.put, aZ48, bZ48, cZ48]
          refine wpQuiet_step (fun K hK => ?_)
          rw [if_pos (by rfl)]
          refine ⟨.pointer (some ⟨w.heap.size, 0, none⟩), fun W hW => quiet_ok ?_, hK _ ?_⟩
          · have q := HX.out W hW
            obtain ⟨⟨m0, m1, m2, m3, m4, m5⟩, _⟩ := q
            have q2 := HCX.out W hW
            obtain ⟨k0, k1⟩ := q2
            have q3 := HY.out W hW
            obtain ⟨y0, y1, y2, y3, y4, y5⟩ := q3
            go_simp
            all_goals (try omega)
          clear hK K
          simp only [Act.put, aZ48, bZ48, cZ48]
          refine wpQuiet_step (fun K hK => ?_)
          rw [if_pos (by rfl)]
          refine ⟨.int .i64 now, fun W hW => quiet_ok ?_, hK _ ?_⟩
          · have q := HX.out W hW
            obtain ⟨⟨m0, m1, m2, m3, m4, m5⟩, _⟩ := q
            have q2 := HCX.out W hW
            obtain ⟨k0, k1⟩ := q2
            have q3 := HY.out W hW
            obtain ⟨y0, y1, y2, y3, y4, y5⟩ := q3
            go_simp
            all_goals (try omega)
          clear hK K
          simp only [Act.put, aZ48, bZ48, cZ48]
          refine wpQuiet_step (fun K hK => ?_)
          rw [if_pos (by rfl)]
          refine ⟨.int .i64 (now + 100000), fun W hW => quiet_ok ?_, hK _ ?_⟩
          · have q := HX.out W hW
            obtain ⟨⟨m0, m1, m2, m3, m4, m5⟩, _⟩ := q
            have q2 := HCX.out W hW
            obtain ⟨k0, k1⟩ := q2
            have q3 := HY.out W hW
            obtain ⟨y0, y1, y2, y3, y4, y5⟩ := q3
            go_simp
            all_goals (try omega)
          clear hK K
          simp only [Act.put, aZ48, bZ48, cZ48]
          refine wpQuiet_step (fun K hK => ?_)
          rw [if_pos (by rfl)]
          refine ⟨.bool true, fun W hW => quiet_call (f := 49) (args := #[.int .i64 un, .int .i64 (now + 1), .int .i64 (now + 100000)]) ?_ ?_, hK _ ?_⟩
          · go_simp
          · exact (HIU.out W).mono fun e w'' h => ⟨h.1, HTR.out _ _ hW h.2⟩
          clear hK K
          simp only [Act.put, aZ48, bZ48, cZ48]
          refine wpQuiet_step (fun K hK => ?_)
          rw [if_pos (by rfl)]
          refine ⟨.bool false, fun W hW => quiet_ok ?_, hK _ ?_⟩
          · have q := HX.out W hW
            obtain ⟨⟨m0, m1, m2, m3, m4, m5⟩, _⟩ := q
            have q2 := HCX.out W hW
            obtain ⟨k0, k1⟩ := q2
            have q3 := HY.out W hW
            obtain ⟨y0, y1, y2, y3, y4, y5⟩ := q3
            go_simp
            all_goals (try omega)
          clear hK K
          simp only [Act.put, aZ48, bZ48, cZ48]
          refine wpQuiet_step (fun K hK => ?_)
          rw [if_pos (by rfl)]
          refine ⟨.bool false, fun W hW => quiet_ok ?_, hK _ ?_⟩
          · have q := HX.out W hW
            obtain ⟨⟨m0, m1, m2, m3, m4, m5⟩, _⟩ := q
            have q2 := HCX.out W hW
            obtain ⟨k0, k1⟩ := q2
            have q3 := HY.out W hW
            obtain ⟨y0, y1, y2, y3, y4, y5⟩ := q3
            go_simp
            all_goals (try omega)
          clear hK K
          simp only [Act.put, aZ48, bZ48, cZ48]
          refine wpQuiet_step (fun K hK => ?_)
          rw [if_pos (by rfl)]
          refine ⟨.bool false, fun W hW => quiet_ok ?_, hK _ ?_⟩
          · have q := HX.out W hW
            obtain ⟨⟨m0, m1, m2, m3, m4, m5⟩, _⟩ := q
            have q2 := HCX.out W hW
            obtain ⟨k0, k1⟩ := q2
            have q3 := HY.out W hW
            obtain ⟨y0, y1, y2, y3, y4, y5⟩ := q3
            go_simp
            all_goals (try omega)
          clear hK K
          simp only [Act.put, aZ48, bZ48, cZ48]
          refine wpQuiet_step (fun K hK => ?_)
          rw [if_pos (by rfl)]
          refine ⟨.pointer (some ⟨gx, 5, none⟩), fun W hW => quiet_ok ?_, hK _ ?_⟩
          · have q := HX.out W hW
            obtain ⟨⟨m0, m1, m2, m3, m4, m5⟩, _⟩ := q
            have q2 := HCX.out W hW
            obtain ⟨k0, k1⟩ := q2
            have q3 := HY.out W hW
            obtain ⟨y0, y1, y2, y3, y4, y5⟩ := q3
            go_simp
            all_goals (try omega)
          clear hK K
          simp only [Act.put, aZ48, bZ48, cZ48]
          refine wpQuiet_step (fun K hK => ?_)
          rw [if_pos (by rfl)]
          refine ⟨.int .i64 us, fun W hW => quiet_ok ?_, hK _ ?_⟩
          · have q := HX.out W hW
            obtain ⟨⟨m0, m1, m2, m3, m4, m5⟩, _⟩ := q
            have q2 := HCX.out W hW
            obtain ⟨k0, k1⟩ := q2
            have q3 := HY.out W hW
            obtain ⟨y0, y1, y2, y3, y4, y5⟩ := q3
            go_simp
            all_goals (try omega)
          clear hK K
          simp only [Act.put, aZ48, bZ48, cZ48]
          refine wpQuiet_step (fun K hK => ?_)
          rw [if_pos (by rfl)]
          refine ⟨.pointer (some ⟨w.heap.size, 0, none⟩), fun W hW => quiet_ok ?_, hK _ ?_⟩
          · have q := HX.out W hW
            obtain ⟨⟨m0, m1, m2, m3, m4, m5⟩, _⟩ := q
            have q2 := HCX.out W hW
            obtain ⟨k0, k1⟩ := q2
            have q3 := HY.out W hW
            obtain ⟨y0, y1, y2, y3, y4, y5⟩ := q3
            go_simp
            all_goals (try omega)
          clear hK K
          simp only [Act.put, aZ48, bZ48, cZ48]
          refine wpQuiet_step (fun K hK => ?_)
          rw [if_pos (by rfl)]
          refine ⟨.int .i64 now, fun W hW => quiet_ok ?_, hK _ ?_⟩
          · have q := HX.out W hW
            obtain ⟨⟨m0, m1, m2, m3, m4, m5⟩, _⟩ := q
            have q2 := HCX.out W hW
            obtain ⟨k0, k1⟩ := q2
            have q3 := HY.out W hW
            obtain ⟨y0, y1, y2, y3, y4, y5⟩ := q3
            go_simp
            all_goals (try omega)
          clear hK K
          simp only [Act.put, aZ48, bZ48, cZ48]
          refine wpQuiet_step (fun K hK => ?_)
          rw [if_pos (by rfl)]
          refine ⟨.bool true, fun W hW => quiet_call (f := 49) (args := #[.int .i64 us, .int .i64 1, .int .i64 now]) ?_ ?_, hK _ ?_⟩
          · go_simp
          · exact (HIS.out W).mono fun e w'' h => ⟨h.1, HTR.out _ _ hW h.2⟩
          clear hK K
          simp only [Act.put, aZ48, bZ48, cZ48]
          refine wpQuiet_step (fun K hK => ?_)
          rw [if_pos (by rfl)]
          refine ⟨.bool false, fun W hW => quiet_ok ?_, hK _ ?_⟩
          · have q := HX.out W hW
            obtain ⟨⟨m0, m1, m2, m3, m4, m5⟩, _⟩ := q
            have q2 := HCX.out W hW
            obtain ⟨k0, k1⟩ := q2
            have q3 := HY.out W hW
            obtain ⟨y0, y1, y2, y3, y4, y5⟩ := q3
            go_simp
            all_goals (try omega)
          clear hK K
          simp only [Act.put, aZ48, bZ48, cZ48]
          refine wpQuiet_step (fun K hK => ?_)
          rw [if_pos (by rfl)]
          refine ⟨.bool false, fun W hW => quiet_ok ?_, hK _ ?_⟩
          · have q := HX.out W hW
            obtain ⟨⟨m0, m1, m2, m3, m4, m5⟩, _⟩ := q
            have q2 := HCX.out W hW
            obtain ⟨k0, k1⟩ := q2
            have q3 := HY.out W hW
            obtain ⟨y0, y1, y2, y3, y4, y5⟩ := q3
            go_simp
            all_goals (try omega)
          clear hK K
          simp only [Act.put, aZ48, bZ48, cZ48]
          refine wpQuiet_step (fun K hK => ?_)
          rw [if_pos (by rfl)]
          refine ⟨.bool false, fun W hW => quiet_ok ?_, hK _ ?_⟩
          · have q := HX.out W hW
            obtain ⟨⟨m0, m1, m2, m3, m4, m5⟩, _⟩ := q
            have q2 := HCX.out W hW
            obtain ⟨k0, k1⟩ := q2
            have q3 := HY.out W hW
            obtain ⟨y0, y1, y2, y3, y4, y5⟩ := q3
            go_simp
            all_goals (try omega)
          clear hK K
          simp only [Act.put, aZ48, bZ48, cZ48]
          refine wpQuiet_step (fun K hK => ?_)
          rw [if_pos (by rfl)]
          refine ⟨.int .i64 (k : Int), fun W hW => quiet_ok ?_, hK _ ?_⟩
          · have q := HX.out W hW
            obtain ⟨⟨m0, m1, m2, m3, m4, m5⟩, _⟩ := q
            have q2 := HCX.out W hW
            obtain ⟨k0, k1⟩ := q2
            have q3 := HY.out W hW
            obtain ⟨y0, y1, y2, y3, y4, y5⟩ := q3
            go_simp
            all_goals (try omega)
          clear hK K
          simp only [Act.put, aZ48, bZ48, cZ48]
          refine wpQuiet_step (fun K hK => ?_)
          rw [if_pos (by rfl)]
          refine ⟨.bool true, fun W hW => quiet_ok ?_, hK _ ?_⟩
          · have q := HX.out W hW
            obtain ⟨⟨m0, m1, m2, m3, m4, m5⟩, _⟩ := q
            have q2 := HCX.out W hW
            obtain ⟨k0, k1⟩ := q2
            have q3 := HY.out W hW
            obtain ⟨y0, y1, y2, y3, y4, y5⟩ := q3
            go_simp
            all_goals (try omega)
          clear hK K
          simp only [Act.put, aZ48, bZ48, cZ48]
          refine wpQuiet_step (fun K hK => ?_)
          rw [if_pos (by rfl)]
          refine ⟨.bool true, fun W hW => quiet_ok ?_, hK _ ?_⟩
          · have q := HX.out W hW
            obtain ⟨⟨m0, m1, m2, m3, m4, m5⟩, _⟩ := q
            have q2 := HCX.out W hW
            obtain ⟨k0, k1⟩ := q2
            have q3 := HY.out W hW
            obtain ⟨y0, y1, y2, y3, y4, y5⟩ := q3
            go_simp
            all_goals (try omega)
          clear hK K
          simp only [Act.put, aZ48, bZ48, cZ48]
          refine wpQuiet_step (fun K hK => ?_)
          rw [if_pos (by rfl)]
          refine ⟨.pointer (some ⟨w.heap.size, 1, none⟩), fun W hW => quiet_ok ?_, hK _ ?_⟩
          · have q := HX.out W hW
            obtain ⟨⟨m0, m1, m2, m3, m4, m5⟩, _⟩ := q
            have q2 := HCX.out W hW
            obtain ⟨k0, k1⟩ := q2
            have q3 := HY.out W hW
            obtain ⟨y0, y1, y2, y3, y4, y5⟩ := q3
            go_simp
            all_goals (try omega)
          clear hK K
          simp only [Act.put, aZ48, bZ48, cZ48]
          refine wpQuiet_step (fun K hK => ?_)
          rw [if_pos (by rfl)]
          refine ⟨.slice (some ⟨b, o, none⟩) L.length cap, fun W hW => quiet_ok ?_, hK _ ?_⟩
          · have q := HX.out W hW
            obtain ⟨⟨m0, m1, m2, m3, m4, m5⟩, _⟩ := q
            have q2 := HCX.out W hW
            obtain ⟨k0, k1⟩ := q2
            have q3 := HY.out W hW
            obtain ⟨y0, y1, y2, y3, y4, y5⟩ := q3
            go_simp
            all_goals (try omega)
          clear hK K
          simp only [Act.put, aZ48, bZ48, cZ48]
          refine wpQuiet_step (fun K hK => ?_)
          rw [if_pos (by rfl)]
          refine ⟨.int .i64 (k : Int), fun W hW => quiet_ok ?_, hK _ ?_⟩
          · have q := HX.out W hW
            obtain ⟨⟨m0, m1, m2, m3, m4, m5⟩, _⟩ := q
            have q2 := HCX.out W hW
            obtain ⟨k0, k1⟩ := q2
            have q3 := HY.out W hW
            obtain ⟨y0, y1, y2, y3, y4, y5⟩ := q3
            go_simp
            all_goals (try omega)
          clear hK K
          simp only [Act.put, aZ48, bZ48, cZ48]
          refine wpQuiet_step (fun K hK => ?_)
          rw [if_pos (by rfl)]
          refine ⟨.int .i64 (j : Int), fun W hW => quiet_ok ?_, hK _ ?_⟩
          · have q := HX.out W hW
            obtain ⟨⟨m0, m1, m2, m3, m4, m5⟩, _⟩ := q
            have q2 := HCX.out W hW
            obtain ⟨k0, k1⟩ := q2
            have q3 := HY.out W hW
            obtain ⟨y0, y1, y2, y3, y4, y5⟩ := q3
            go_simp
            all_goals (try omega)
          clear hK K
          simp only [Act.put, aZ48, bZ48, cZ48]
          refine wpQuiet_step (fun K hK => ?_)
          rw [if_pos (by rfl)]
          refine ⟨.pointer (some ⟨b, o + j * 6, none⟩), fun W hW => quiet_ok ?_, hK _ ?_⟩
          · have q := HX.out W hW
            obtain ⟨⟨m0, m1, m2, m3, m4, m5⟩, _⟩ := q
            have q2 := HCX.out W hW
            obtain ⟨k0, k1⟩ := q2
            have q3 := HY.out W hW
            obtain ⟨y0, y1, y2, y3, y4, y5⟩ := q3
            go_simp
            all_goals (try omega)
          clear hK K
          simp only [Act.put, aZ48, bZ48, cZ48]
          refine wpQuiet_step (fun K hK => ?_)
          rw [if_pos (by rfl)]
          refine ⟨.agg #[.string ⟨y.1.toArray⟩, .int .i64 y.2.1, .bool y.2.2.1, vb, .int .i64 y.2.2.2.2.1, .int .i64 y.2.2.2.2.2], fun W hW => quiet_ok ?_, hK _ ?_⟩
          · have q := HX.out W hW
            obtain ⟨⟨m0, m1, m2, m3, m4, m5⟩, _⟩ := q
            have q2 := HCX.out W hW
            obtain ⟨k0, k1⟩ := q2
            have q3 := HY.out W hW
            obtain ⟨y0, y1, y2, y3, y4, y5⟩ := q3
            go_simp
            all_goals (try omega)
          clear hK K
          simp only [Act.put, aZ48, bZ48, cZ48]
          refine wpQuiet_step (fun K hK => ?_)
          rw [if_pos (by rfl)]
          refine ⟨.agg #[.string ⟨nm.toArray⟩, .int .i64 ty, .bool no, .slice aa R.length ca, .int .i64 un, .int .i64 us], fun W hW => quiet_ok ?_, hK _ ?_⟩
          · have q := HX.out W hW
            obtain ⟨⟨m0, m1, m2, m3, m4, m5⟩, _⟩ := q
            have q2 := HCX.out W hW
            obtain ⟨k0, k1⟩ := q2
            have q3 := HY.out W hW
            obtain ⟨y0, y1, y2, y3, y4, y5⟩ := q3
            go_simp
            all_goals (try omega)
          clear hK K
          simp only [Act.put, aZ48, bZ48, cZ48]
          refine wpQuiet_step (fun K hK => ?_)
          rw [if_pos (by rfl)]
          refine ⟨.bool false, fun W hW => quiet_call (f := 63) (args := #[.agg #[.string ⟨y.1.toArray⟩, .int .i64 y.2.1, .bool y.2.2.1, vb, .int .i64 y.2.2.2.2.1, .int .i64 y.2.2.2.2.2], .agg #[.string ⟨nm.toArray⟩, .int .i64 ty, .bool no, .slice aa R.length ca, .int .i64 un, .int .i64 us]]) ?_ ?_, hK _ ?_⟩
          · go_simp
          · exact (HL.out W).mono fun e w'' h => ⟨h.1, HTR.out _ _ hW h.2⟩
          clear hK K
          simp only [Act.put, aZ48, bZ48, cZ48]
          refine wpQuiet_step (fun K hK => ?_)
          rw [if_pos (by rfl)]
          refine ⟨.bool true, fun W hW => quiet_ok ?_, hK _ ?_⟩
          · have q := HX.out W hW
            obtain ⟨⟨m0, m1, m2, m3, m4, m5⟩, _⟩ := q
            have q2 := HCX.out W hW
            obtain ⟨k0, k1⟩ := q2
            have q3 := HY.out W hW
            obtain ⟨y0, y1, y2, y3, y4, y5⟩ := q3
            go_simp
            all_goals (try omega)
          clear hK K
          simp only [Act.put, aZ48, bZ48, cZ48]
          refine wpQuiet_step (fun K hK => ?_)
          rw [if_pos (by rfl)]
          refine ⟨.bool true, fun W hW => quiet_ok ?_, hK _ ?_⟩
          · have q := HX.out W hW
            obtain ⟨⟨m0, m1, m2, m3, m4, m5⟩, _⟩ := q
            have q2 := HCX.out W hW
            obtain ⟨k0, k1⟩ := q2
            have q3 := HY.out W hW
            obtain ⟨y0, y1, y2, y3, y4, y5⟩ := q3
            go_simp
            all_goals (try omega)
          clear hK K
          simp only [Act.put, aZ48, bZ48, cZ48]
          refine wpQuiet_step (fun K hK => ?_)
          rw [if_pos (by rfl)]
          refine ⟨.bool true, fun W hW => quiet_ok ?_, hK _ ?_⟩
          · have q := HX.out W hW
            obtain ⟨⟨m0, m1, m2, m3, m4, m5⟩, _⟩ := q
            have q2 := HCX.out W hW
            obtain ⟨k0, k1⟩ := q2
            have q3 := HY.out W hW
            obtain ⟨y0, y1, y2, y3, y4, y5⟩ := q3
            go_simp
            all_goals (try omega)
          clear hK K
          simp only [Act.put, aZ48, bZ48, cZ48]
          refine wpQuiet_nil ?_
          intro W hW
          have hbW := HBW.out W hW
          go_wp2_with fail
          go_ret
          exact ⟨ret_bool HF.out.symm, hbW⟩
        | true =>
          rw [h5] at HL
          have HUP : Hid (tellB (nm, ty, no, R, un, us) = true → ∀ j, j < k + 1 → stepE now L j = true) := fun h => HUPA.out (HG.out.trans (by rw [h1, h2, h3, h4, h, h5]; simp))
          have HBR : Hid (tellB (nm, ty, no, R, un, us) = false → r = false) := fun h => HBAD.out (HG.out.trans (by rw [h]; simp))
          clear HUPA HBAD HG h1 h2 h3 h4 h5 HKB
          go_wp2_with fail
          rw [HW0.out, HGX.out]
          refine wp_region_quiet (C := fun W => Below W0.heap.size W0 W) (by kernel_rfl) (by kernel_rfl) hbd ?_
          refine wpQuiet_step (fun K hK => ?_)
          rw [if_pos (by rfl)]
          refine ⟨.pointer (some ⟨gx, 0, none⟩), fun W hW => quiet_ok ?_, hK _ ?_⟩
          · have q := HX.out W hW
            obtain ⟨⟨m0, m1, m2, m3, m4, m5⟩, _⟩ := q
            have q2 := HCX.out W hW
            obtain ⟨k0, k1⟩ := q2
            have q3 := HY.out W hW
            obtain ⟨y0, y1, y2, y3, y4, y5⟩ := q3
            go_simp
            all_goals (try omega)
          clear hK K
          simp only [Act.put, aZ48, bZ48, cZ48]
          refine wpQuiet_step (fun K hK => ?_)
          rw [if_pos (by rfl)]
          refine ⟨.string ⟨nm.toArray⟩, fun W hW => quiet_ok ?_, hK _ ?_⟩
          · have q := HX.out W hW
            obtain ⟨⟨m0, m1, m2, m3, m4, m5⟩, _⟩ := q
            have q2 := HCX.out W hW
            obtain ⟨k0, k1⟩ := q2
            have q3 := HY.out W hW
            obtain ⟨y0, y1, y2, y3, y4, y5⟩ := q3
            go_simp
            all_goals (try omega)
          clear hK K
          simp only [Act.put, aZ48, bZ48, cZ48]
          refine wpQuiet_step (fun K hK => ?_)
          rw [if_pos (by rfl)]
          refine ⟨.bool true, fun W hW => quiet_call (f := 47) (args := #[.string ⟨nm.toArray⟩]) ?_ ?_, hK _ ?_⟩
          · go_simp
          · exact (HN.out W).mono fun e w'' h => ⟨h.1, HTR.out _ _ hW h.2⟩
          clear hK K
          simp only [Act.put, aZ48, bZ48, cZ48]
          refine wpQuiet_step (fun K hK => ?_)
          rw [if_pos (by rfl)]
          refine ⟨.bool false, fun W hW => quiet_ok ?_, hK _ ?_⟩
          · have q := HX.out W hW
            obtain ⟨⟨m0, m1, m2, m3, m4, m5⟩, _⟩ := q
            have q2 := HCX.out W hW
            obtain ⟨k0, k1⟩ := q2
            have q3 := HY.out W hW
            obtain ⟨y0, y1, y2, y3, y4, y5⟩ := q3
            go_simp
            all_goals (try omega)
          clear hK K
          simp only [Act.put, aZ48, bZ48, cZ48]
          refine wpQuiet_step (fun K hK => ?_)
          rw [if_pos (by rfl)]
          refine ⟨.bool false, fun W hW => quiet_ok ?_, hK _ ?_⟩
          · have q := HX.out W hW
            obtain ⟨⟨m0, m1, m2, m3, m4, m5⟩, _⟩ := q
            have q2 := HCX.out W hW
            obtain ⟨k0, k1⟩ := q2
            have q3 := HY.out W hW
            obtain ⟨y0, y1, y2, y3, y4, y5⟩ := q3
            go_simp
            all_goals (try omega)
          clear hK K
          simp only [Act.put, aZ48, bZ48, cZ48]
          refine wpQuiet_step (fun K hK => ?_)
          rw [if_pos (by rfl)]
          refine ⟨.pointer (some ⟨gx, 1, none⟩), fun W hW => quiet_ok ?_, hK _ ?_⟩
          · have q := HX.out W hW
            obtain ⟨⟨m0, m1, m2, m3, m4, m5⟩, _⟩ := q
            have q2 := HCX.out W hW
            obtain ⟨k0, k1⟩ := q2
            have q3 := HY.out W hW
            obtain ⟨y0, y1, y2, y3, y4, y5⟩ := q3
            go_simp
            all_goals (try omega)
          clear hK K
          simp only [Act.put, aZ48, bZ48, cZ48]
          refine wpQuiet_step (fun K hK => ?_)
          rw [if_pos (by rfl)]
          refine ⟨.int .i64 ty, fun W hW => quiet_ok ?_, hK _ ?_⟩
          · have q := HX.out W hW
            obtain ⟨⟨m0, m1, m2, m3, m4, m5⟩, _⟩ := q
            have q2 := HCX.out W hW
            obtain ⟨k0, k1⟩ := q2
            have q3 := HY.out W hW
            obtain ⟨y0, y1, y2, y3, y4, y5⟩ := q3
            go_simp
            all_goals (try omega)
          clear hK K
          simp only [Act.put, aZ48, bZ48, cZ48]
          refine wpQuiet_step (fun K hK => ?_)
          rw [if_pos (by rfl)]
          refine ⟨.bool true, fun W hW => quiet_call (f := 48) (args := #[.int .i64 ty]) ?_ ?_, hK _ ?_⟩
          · go_simp
          · exact (HT.out W).mono fun e w'' h => ⟨h.1, HTR.out _ _ hW h.2⟩
          clear hK K
          simp only [Act.put, aZ48, bZ48, cZ48]
          refine wpQuiet_step (fun K hK => ?_)
          rw [if_pos (by rfl)]
          refine ⟨.bool false, fun W hW => quiet_ok ?_, hK _ ?_⟩
          · have q := HX.out W hW
            obtain ⟨⟨m0, m1, m2, m3, m4, m5⟩, _⟩ := q
            have q2 := HCX.out W hW
            obtain ⟨k0, k1⟩ := q2
            have q3 := HY.out W hW
            obtain ⟨y0, y1, y2, y3, y4, y5⟩ := q3
            go_simp
            all_goals (try omega)
          clear hK K
          simp only [Act.put, aZ48, bZ48, cZ48]
          refine wpQuiet_step (fun K hK => ?_)
          rw [if_pos (by rfl)]
          refine ⟨.bool false, fun W hW => quiet_ok ?_, hK _ ?_⟩
          · have q := HX.out W hW
            obtain ⟨⟨m0, m1, m2, m3, m4, m5⟩, _⟩ := q
            have q2 := HCX.out W hW
            obtain ⟨k0, k1⟩ := q2
            have q3 := HY.out W hW
            obtain ⟨y0, y1, y2, y3, y4, y5⟩ := q3
            go_simp
            all_goals (try omega)
          clear hK K
          simp only [Act.put, aZ48, bZ48, cZ48]
          refine wpQuiet_step (fun K hK => ?_)
          rw [if_pos (by rfl)]
          refine ⟨.bool false, fun W hW => quiet_ok ?_, hK _ ?_⟩
          · have q := HX.out W hW
            obtain ⟨⟨m0, m1, m2, m3, m4, m5⟩, _⟩ := q
            have q2 := HCX.out W hW
            obtain ⟨k0, k1⟩ := q2
            have q3 := HY.out W hW
            obtain ⟨y0, y1, y2, y3, y4, y5⟩ := q3
            go_simp
            all_goals (try omega)
          clear hK K
          simp only [Act.put, aZ48, bZ48, cZ48]
          refine wpQuiet_step (fun K hK => ?_)
          rw [if_pos (by rfl)]
          refine ⟨.pointer (some ⟨gx, 4, none⟩), fun W hW => quiet_ok ?_, hK _ ?_⟩
          · have q := HX.out W hW
            obtain ⟨⟨m0, m1, m2, m3, m4, m5⟩, _⟩ := q
            have q2 := HCX.out W hW
            obtain ⟨k0, k1⟩ := q2
            have q3 := HY.out W hW
            obtain ⟨y0, y1, y2, y3, y4, y5⟩ := q3
            go_simp
            all_goals (try omega)
          clear hK K
          simp only [Act.put, aZ48, bZ48, cZ48]
          refine wpQuiet_step (fun K hK => ?_)
          rw [if_pos (by rfl)]
          refine ⟨.int .i64 un, fun W hW => quiet_ok ?_, hK _ ?_⟩
          · have q := HX.out W hW
            obtain ⟨⟨m0, m1, m2, m3, m4, m5⟩, _⟩ := q
            have q2 := HCX.out W hW
            obtain ⟨k0, k1⟩ := q2
            have q3 := HY.out W hW
            obtain ⟨y0, y1, y2, y3, y4, y5⟩ := q3
            go_simp
            all_goals (try omega)
          clear hK K
          simp only [Act.put, aZ48, bZ48, cZ48]
          refine wpQuiet_step (fun K hK => ?_)
          rw [if_pos (by rfl)]
          refine ⟨.pointer (some ⟨w.heap.size, 0, none⟩), fun W hW => quiet_ok ?_, hK _ ?_⟩
          · have q := HX.out W hW
            obtain ⟨⟨m0, m1, m2, m3, m4, m5⟩, _⟩ := q
            have q2 := HCX.out W hW
            obtain ⟨k0, k1⟩ := q2
            have q3 := HY.out W hW
            obtain ⟨y0, y1, y2, y3, y4, y5⟩ := q3
            go_simp
            all_goals (try omega)
          clear hK K
          simp only [Act.put, aZ48, bZ48, cZ48]
          refine wpQuiet_step (fun K hK => ?_)
          rw [if_pos (by rfl)]
          refine ⟨.int .i64 now, fun W hW => quiet_ok ?_, hK _ ?_⟩
          · have q := HX.out W hW
            obtain ⟨⟨m0, m1, m2, m3, m4, m5⟩, _⟩ := q
            have q2 := HCX.out W hW
            obtain ⟨k0, k1⟩ := q2
            have q3 := HY.out W hW
            obtain ⟨y0, y1, y2, y3, y4, y5⟩ := q3
            go_simp
            all_goals (try omega)
          clear hK K
          simp only [Act.put, aZ48, bZ48, cZ48]
          refine wpQuiet_step (fun K hK => ?_)
          rw [if_pos (by rfl)]
          refine ⟨.int .i64 (now + 1), fun W hW => quiet_ok ?_, hK _ ?_⟩
          · have q := HX.out W hW
            obtain ⟨⟨m0, m1, m2, m3, m4, m5⟩, _⟩ := q
            have q2 := HCX.out W hW
            obtain ⟨k0, k1⟩ := q2
            have q3 := HY.out W hW
            obtain ⟨y0, y1, y2, y3, y4, y5⟩ := q3
            go_simp
            all_goals (try omega)
          clear hK K
          simp only [Act.put, aZ48, bZ48, cZ48]
          refine wpQuiet_step (fun K hK => ?_)
          rw [if_pos (by rfl)]
          refine ⟨.pointer (some ⟨w.heap.size, 0, none⟩), fun W hW => quiet_ok ?_, hK _ ?_⟩
          · have q := HX.out W hW
            obtain ⟨⟨m0, m1, m2, m3, m4, m5⟩, _⟩ := q
            have q2 := HCX.out W hW
            obtain ⟨k0, k1⟩ := q2
            have q3 := HY.out W hW
            obtain ⟨y0, y1, y2, y3, y4, y5⟩ := q3
            go_simp
            all_goals (try omega)
          clear hK K
          simp only [Act.put, aZ48, bZ48, cZ48]
          refine wpQuiet_step (fun K hK => ?_)
          rw [if_pos (by rfl)]
          refine ⟨.int .i64 now, fun W hW => quiet_ok ?_, hK _ ?_⟩
          · have q := HX.out W hW
            obtain ⟨⟨m0, m1, m2, m3, m4, m5⟩, _⟩ := q
            have q2 := HCX.out W hW
            obtain ⟨k0, k1⟩ := q2
            have q3 := HY.out W hW
            obtain ⟨y0, y1, y2, y3, y4, y5⟩ := q3
            go_simp
            all_goals (try omega)
          clear hK K
          simp only [Act.put, aZ48, bZ48, cZ48]
          refine wpQuiet_step (fun K hK => ?_)
          rw [if_pos (by rfl)]
          refine ⟨.int .i64 (now + 100000), fun W hW => quiet_ok ?_, hK _ ?_⟩
          · have q := HX.out W hW
            obtain ⟨⟨m0, m1, m2, m3, m4, m5⟩, _⟩ := q
            have q2 := HCX.out W hW
            obtain ⟨k0, k1⟩ := q2
            have q3 := HY.out W hW
            obtain ⟨y0, y1, y2, y3, y4, y5⟩ := q3
            go_simp
            all_goals (try omega)
          clear hK K
          simp only [Act.put, aZ48, bZ48, cZ48]
          refine wpQuiet_step (fun K hK => ?_)
          rw [if_pos (by rfl)]
          refine ⟨.bool true, fun W hW => quiet_call (f := 49) (args := #[.int .i64 un, .int .i64 (now + 1), .int .i64 (now + 100000)]) ?_ ?_, hK _ ?_⟩
          · go_simp
          · exact (HIU.out W).mono fun e w'' h => ⟨h.1, HTR.out _ _ hW h.2⟩
          clear hK K
          simp only [Act.put, aZ48, bZ48, cZ48]
          refine wpQuiet_step (fun K hK => ?_)
          rw [if_pos (by rfl)]
          refine ⟨.bool false, fun W hW => quiet_ok ?_, hK _ ?_⟩
          · have q := HX.out W hW
            obtain ⟨⟨m0, m1, m2, m3, m4, m5⟩, _⟩ := q
            have q2 := HCX.out W hW
            obtain ⟨k0, k1⟩ := q2
            have q3 := HY.out W hW
            obtain ⟨y0, y1, y2, y3, y4, y5⟩ := q3
            go_simp
            all_goals (try omega)
          clear hK K
          simp only [Act.put, aZ48, bZ48, cZ48]
          refine wpQuiet_step (fun K hK => ?_)
          rw [if_pos (by rfl)]
          refine ⟨.bool false, fun W hW => quiet_ok ?_, hK _ ?_⟩
          · have q := HX.out W hW
            obtain ⟨⟨m0, m1, m2, m3, m4, m5⟩, _⟩ := q
            have q2 := HCX.out W hW
            obtain ⟨k0, k1⟩ := q2
            have q3 := HY.out W hW
            obtain ⟨y0, y1, y2, y3, y4, y5⟩ := q3
            go_simp
            all_goals (try omega)
          clear hK K
          simp only [Act.put, aZ48, bZ48, cZ48]
          refine wpQuiet_step (fun K hK => ?_)
          rw [if_pos (by rfl)]
          refine ⟨.bool false, fun W hW => quiet_ok ?_, hK _ ?_⟩
          · have q := HX.out W hW
            obtain ⟨⟨m0, m1, m2, m3, m4, m5⟩, _⟩ := q
            have q2 := HCX.out W hW
            obtain ⟨k0, k1⟩ := q2
            have q3 := HY.out W hW
            obtain ⟨y0, y1, y2, y3, y4, y5⟩ := q3
            go_simp
            all_goals (try omega)
          clear hK K
          simp only [Act.put, aZ48, bZ48, cZ48]
          refine wpQuiet_step (fun K hK => ?_)
          rw [if_pos (by rfl)]
          refine ⟨.pointer (some ⟨gx, 5, none⟩), fun W hW => quiet_ok ?_, hK _ ?_⟩
          · have q := HX.out W hW
            obtain ⟨⟨m0, m1, m2, m3, m4, m5⟩, _⟩ := q
            have q2 := HCX.out W hW
            obtain ⟨k0, k1⟩ := q2
            have q3 := HY.out W hW
            obtain ⟨y0, y1, y2, y3, y4, y5⟩ := q3
            go_simp
            all_goals (try omega)
          clear hK K
          simp only [Act.put, aZ48, bZ48, cZ48]
          refine wpQuiet_step (fun K hK => ?_)
          rw [if_pos (by rfl)]
          refine ⟨.int .i64 us, fun W hW => quiet_ok ?_, hK _ ?_⟩
          · have q := HX.out W hW
            obtain ⟨⟨m0, m1, m2, m3, m4, m5⟩, _⟩ := q
            have q2 := HCX.out W hW
            obtain ⟨k0, k1⟩ := q2
            have q3 := HY.out W hW
            obtain ⟨y0, y1, y2, y3, y4, y5⟩ := q3
            go_simp
            all_goals (try omega)
          clear hK K
          simp only [Act.put, aZ48, bZ48, cZ48]
          refine wpQuiet_step (fun K hK => ?_)
          rw [if_pos (by rfl)]
          refine ⟨.pointer (some ⟨w.heap.size, 0, none⟩), fun W hW => quiet_ok ?_, hK _ ?_⟩
          · have q := HX.out W hW
            obtain ⟨⟨m0, m1, m2, m3, m4, m5⟩, _⟩ := q
            have q2 := HCX.out W hW
            obtain ⟨k0, k1⟩ := q2
            have q3 := HY.out W hW
            obtain ⟨y0, y1, y2, y3, y4, y5⟩ := q3
            go_simp
            all_goals (try omega)
          clear hK K
          simp only [Act.put, aZ48, bZ48, cZ48]
          refine wpQuiet_step (fun K hK => ?_)
          rw [if_pos (by rfl)]
          refine ⟨.int .i64 now, fun W hW => quiet_ok ?_, hK _ ?_⟩
          · have q := HX.out W hW
            obtain ⟨⟨m0, m1, m2, m3, m4, m5⟩, _⟩ := q
            have q2 := HCX.out W hW
            obtain ⟨k0, k1⟩ := q2
            have q3 := HY.out W hW
            obtain ⟨y0, y1, y2, y3, y4, y5⟩ := q3
            go_simp
            all_goals (try omega)
          clear hK K
          simp only [Act.put, aZ48, bZ48, cZ48]
          refine wpQuiet_step (fun K hK => ?_)
          rw [if_pos (by rfl)]
          refine ⟨.bool true, fun W hW => quiet_call (f := 49) (args := #[.int .i64 us, .int .i64 1, .int .i64 now]) ?_ ?_, hK _ ?_⟩
          · go_simp
          · exact (HIS.out W).mono fun e w'' h => ⟨h.1, HTR.out _ _ hW h.2⟩
          clear hK K
          simp only [Act.put, aZ48, bZ48, cZ48]
          refine wpQuiet_step (fun K hK => ?_)
          rw [if_pos (by rfl)]
          refine ⟨.bool false, fun W hW => quiet_ok ?_, hK _ ?_⟩
          · have q := HX.out W hW
            obtain ⟨⟨m0, m1, m2, m3, m4, m5⟩, _⟩ := q
            have q2 := HCX.out W hW
            obtain ⟨k0, k1⟩ := q2
            have q3 := HY.out W hW
            obtain ⟨y0, y1, y2, y3, y4, y5⟩ := q3
            go_simp
            all_goals (try omega)
          clear hK K
          simp only [Act.put, aZ48, bZ48, cZ48]
          refine wpQuiet_step (fun K hK => ?_)
          rw [if_pos (by rfl)]
          refine ⟨.bool false, fun W hW => quiet_ok ?_, hK _ ?_⟩
          · have q := HX.out W hW
            obtain ⟨⟨m0, m1, m2, m3, m4, m5⟩, _⟩ := q
            have q2 := HCX.out W hW
            obtain ⟨k0, k1⟩ := q2
            have q3 := HY.out W hW
            obtain ⟨y0, y1, y2, y3, y4, y5⟩ := q3
            go_simp
            all_goals (try omega)
          clear hK K
          simp only [Act.put, aZ48, bZ48, cZ48]
          refine wpQuiet_step (fun K hK => ?_)
          rw [if_pos (by rfl)]
          refine ⟨.bool false, fun W hW => quiet_ok ?_, hK _ ?_⟩
          · have q := HX.out W hW
            obtain ⟨⟨m0, m1, m2, m3, m4, m5⟩, _⟩ := q
            have q2 := HCX.out W hW
            obtain ⟨k0, k1⟩ := q2
            have q3 := HY.out W hW
            obtain ⟨y0, y1, y2, y3, y4, y5⟩ := q3
            go_simp
            all_goals (try omega)
          clear hK K
          simp only [Act.put, aZ48, bZ48, cZ48]
          refine wpQuiet_step (fun K hK => ?_)
          rw [if_pos (by rfl)]
          refine ⟨.int .i64 (k : Int), fun W hW => quiet_ok ?_, hK _ ?_⟩
          · have q := HX.out W hW
            obtain ⟨⟨m0, m1, m2, m3, m4, m5⟩, _⟩ := q
            have q2 := HCX.out W hW
            obtain ⟨k0, k1⟩ := q2
            have q3 := HY.out W hW
            obtain ⟨y0, y1, y2, y3, y4, y5⟩ := q3
            go_simp
            all_goals (try omega)
          clear hK K
          simp only [Act.put, aZ48, bZ48, cZ48]
          refine wpQuiet_step (fun K hK => ?_)
          rw [if_pos (by rfl)]
          refine ⟨.bool true, fun W hW => quiet_ok ?_, hK _ ?_⟩
          · have q := HX.out W hW
            obtain ⟨⟨m0, m1, m2, m3, m4, m5⟩, _⟩ := q
            have q2 := HCX.out W hW
            obtain ⟨k0, k1⟩ := q2
            have q3 := HY.out W hW
            obtain ⟨y0, y1, y2, y3, y4, y5⟩ := q3
            go_simp
            all_goals (try omega)
          clear hK K
          simp only [Act.put, aZ48, bZ48, cZ48]
          refine wpQuiet_step (fun K hK => ?_)
          rw [if_pos (by rfl)]
          refine ⟨.bool true, fun W hW => quiet_ok ?_, hK _ ?_⟩
          · have q := HX.out W hW
            obtain ⟨⟨m0, m1, m2, m3, m4, m5⟩, _⟩ := q
            have q2 := HCX.out W hW
            obtain ⟨k0, k1⟩ := q2
            have q3 := HY.out W hW
            obtain ⟨y0, y1, y2, y3, y4, y5⟩ := q3
            go_simp
            all_goals (try omega)
          clear hK K
          simp only [Act.put, aZ48, bZ48, cZ48]
          refine wpQuiet_step (fun K hK => ?_)
          rw [if_pos (by rfl)]
          refine ⟨.pointer (some ⟨w.heap.size, 1, none⟩), fun W hW => quiet_ok ?_, hK _ ?_⟩
          · have q := HX.out W hW
            obtain ⟨⟨m0, m1, m2, m3, m4, m5⟩, _⟩ := q
            have q2 := HCX.out W hW
            obtain ⟨k0, k1⟩ := q2
            have q3 := HY.out W hW
            obtain ⟨y0, y1, y2, y3, y4, y5⟩ := q3
            go_simp
            all_goals (try omega)
          clear hK K
          simp only [Act.put, aZ48, bZ48, cZ48]
          refine wpQuiet_step (fun K hK => ?_)
          rw [if_pos (by rfl)]
          refine ⟨.slice (some ⟨b, o, none⟩) L.length cap, fun W hW => quiet_ok ?_, hK _ ?_⟩
          · have q := HX.out W hW
            obtain ⟨⟨m0, m1, m2, m3, m4, m5⟩, _⟩ := q
            have q2 := HCX.out W hW
            obtain ⟨k0, k1⟩ := q2
            have q3 := HY.out W hW
            obtain ⟨y0, y1, y2, y3, y4, y5⟩ := q3
            go_simp
            all_goals (try omega)
          clear hK K
          simp only [Act.put, aZ48, bZ48, cZ48]
          refine wpQuiet_step (fun K hK => ?_)
          rw [if_pos (by rfl)]
          refine ⟨.int .i64 (k : Int), fun W hW => quiet_ok ?_, hK _ ?_⟩
          · have q := HX.out W hW
            obtain ⟨⟨m0, m1, m2, m3, m4, m5⟩, _⟩ := q
            have q2 := HCX.out W hW
            obtain ⟨k0, k1⟩ := q2
            have q3 := HY.out W hW
            obtain ⟨y0, y1, y2, y3, y4, y5⟩ := q3
            go_simp
            all_goals (try omega)
          clear hK K
          simp only [Act.put, aZ48, bZ48, cZ48]
          refine wpQuiet_step (fun K hK => ?_)
          rw [if_pos (by rfl)]
          refine ⟨.int .i64 (j : Int), fun W hW => quiet_ok ?_, hK _ ?_⟩
          · have q := HX.out W hW
            obtain ⟨⟨m0, m1, m2, m3, m4, m5⟩, _⟩ := q
            have q2 := HCX.out W hW
            obtain ⟨k0, k1⟩ := q2
            have q3 := HY.out W hW
            obtain ⟨y0, y1, y2, y3, y4, y5⟩ := q3
            go_simp
            all_goals (try omega)
          clear hK K
          simp only [Act.put, aZ48, bZ48, cZ48]
          refine wpQuiet_step (fun K hK => ?_)
          rw [if_pos (by rfl)]
          refine ⟨.pointer (some ⟨b, o + j * 6, none⟩), fun W hW => quiet_ok ?_, hK _ ?_⟩
          · have q := HX.out W hW
            obtain ⟨⟨m0, m1, m2, m3, m4, m5⟩, _⟩ := q
            have q2 := HCX.out W hW
            obtain ⟨k0, k1⟩ := q2
            have q3 := HY.out W hW
            obtain ⟨y0, y1, y2, y3, y4, y5⟩ := q3
            go_simp
            all_goals (try omega)
          clear hK K
          simp only [Act.put, aZ48, bZ48, cZ48]
          refine wpQuiet_step (fun K hK => ?_)
          rw [if_pos (by rfl)]
          refine ⟨.agg #[.string ⟨y.1.toArray⟩, .int .i64 y.2.1, .bool y.2.2.1, vb, .int .i64 y.2.2.2.2.1, .int .i64 y.2.2.2.2.2], fun W hW => quiet_ok ?_, hK _ ?_⟩
          · have q := HX.out W hW
            obtain ⟨⟨m0, m1, m2, m3, m4, m5⟩, _⟩ := q
            have q2 := HCX.out W hW
            obtain ⟨k0, k1⟩ := q2
            have q3 := HY.out W hW
            obtain ⟨y0, y1, y2, y3, y4, y5⟩ := q3
            go_simp
            all_goals (try omega)
          clear hK K
          simp only [Act.put, aZ48, bZ48, cZ48]
          refine wpQuiet_step (fun K hK => ?_)
          rw [if_pos (by rfl)]
          refine ⟨.agg #[.string ⟨nm.toArray⟩, .int .i64 ty, .bool no, .slice aa R.length ca, .int .i64 un, .int .i64 us], fun W hW => quiet_ok ?_, hK _ ?_⟩
          · have q := HX.out W hW
            obtain ⟨⟨m0, m1, m2, m3, m4, m5⟩, _⟩ := q
            have q2 := HCX.out W hW
            obtain ⟨k0, k1⟩ := q2
            have q3 := HY.out W hW
            obtain ⟨y0, y1, y2, y3, y4, y5⟩ := q3
            go_simp
            all_goals (try omega)
          clear hK K
          simp only [Act.put, aZ48, bZ48, cZ48]
          refine wpQuiet_step (fun K hK => ?_)
          rw [if_pos (by rfl)]
          refine ⟨.bool true, fun W hW => quiet_call (f := 63) (args := #[.agg #[.string ⟨y.1.toArray⟩, .int .i64 y.2.1, .bool y.2.2.1, vb, .int .i64 y.2.2.2.2.1, .int .i64 y.2.2.2.2.2], .agg #[.string ⟨nm.toArray⟩, .int .i64 ty, .bool no, .slice aa R.length ca, .int .i64 un, .int .i64 us]]) ?_ ?_, hK _ ?_⟩
          · go_simp
          · exact (HL.out W).mono fun e w'' h => ⟨h.1, HTR.out _ _ hW h.2⟩
          clear hK K
          simp only [Act.put, aZ48, bZ48, cZ48]
          refine wpQuiet_step (fun K hK => ?_)
          rw [if_pos (by rfl)]
          refine ⟨.bool false, fun W hW => quiet_ok ?_, hK _ ?_⟩
          · have q := HX.out W hW
            obtain ⟨⟨m0, m1, m2, m3, m4, m5⟩, _⟩ := q
            have q2 := HCX.out W hW
            obtain ⟨k0, k1⟩ := q2
            have q3 := HY.out W hW
            obtain ⟨y0, y1, y2, y3, y4, y5⟩ := q3
            go_simp
            all_goals (try omega)
          clear hK K
          simp only [Act.put, aZ48, bZ48, cZ48]
          refine wpQuiet_step (fun K hK => ?_)
          rw [if_pos (by rfl)]
          refine ⟨.bool false, fun W hW => quiet_ok ?_, hK _ ?_⟩
          · have q := HX.out W hW
            obtain ⟨⟨m0, m1, m2, m3, m4, m5⟩, _⟩ := q
            have q2 := HCX.out W hW
            obtain ⟨k0, k1⟩ := q2
            have q3 := HY.out W hW
            obtain ⟨y0, y1, y2, y3, y4, y5⟩ := q3
            go_simp
            all_goals (try omega)
          clear hK K
          simp only [Act.put, aZ48, bZ48, cZ48]
          refine wpQuiet_step (fun K hK => ?_)
          rw [if_pos (by rfl)]
          refine ⟨.bool false, fun W hW => quiet_ok ?_, hK _ ?_⟩
          · have q := HX.out W hW
            obtain ⟨⟨m0, m1, m2, m3, m4, m5⟩, _⟩ := q
            have q2 := HCX.out W hW
            obtain ⟨k0, k1⟩ := q2
            have q3 := HY.out W hW
            obtain ⟨y0, y1, y2, y3, y4, y5⟩ := q3
            go_simp
            all_goals (try omega)
          clear hK K
          simp only [Act.put, aZ48, bZ48, cZ48]
          refine wpQuiet_nil ?_
          intro W hW
          have hbW := HBW.out W hW
          have hc2 := HX.out W hW
          obtain ⟨⟨m0, m1, m2, m3, m4, m5⟩, _⟩ := hc2
          cases no with
          | true =>
            by_cases gR : R.length = 0
            · have HU : Hid (∀ j, j < k + 1 → stepE now L j = true) := HUP.out (by unfold tellB; simp [gR])
              have eR : ¬ (0 : Int) < (R.length : Int) := by omega
              have HIW : Hid (Below WB.heap.size WB W) := HIB.out W hW
              clear HUP HBR gR
              go_wp2_with fail
              go_roundw
              case rel => exact ⟨k + 1, by omega, by go_num, HU, HIW.out⟩
              case measure => simp [intOf]; omega
            · have HF : Hid (r = false) := HBR.out (by unfold tellB; simp [gR])
              have eR : (0 : Int) < (R.length : Int) := by omega
              clear HUP HBR gR
              go_wp2_with fail
              go_ret
              exact ⟨ret_bool HF.out.symm, hbW⟩
          | false =>
            have HBR1 : Hid (ansB R = false → r = false) := fun h => HBR.out (by unfold tellB; simp [h])
            have hbd2 : Below W0.heap.size W0 W.drew := hW.drew
            cases hA : ansB R with
            | false =>
              have HF : Hid (r = false) := HBR1.out hA
              rw [hA] at HSM
              clear HUP HBR HBR1 hA hbd
              obtain ⟨u78, hu78⟩ : ∃ u : Bool, u = true := ⟨_, rfl⟩
              have HU78 : Hid (u78 = true) := hu78
              clear hu78
              obtain ⟨u88, hu88⟩ : ∃ u : Bool, u = true := ⟨_, rfl⟩
              have HU88 : Hid (u88 = true) := hu88
              clear hu88
              go_wp2_with fail
              refine wp_region_quiet (C := fun W => Below W0.heap.size W0 W) (by kernel_rfl) (by kernel_rfl) hbd2 ?_
              refine wpQuiet_step (fun K hK => ?_)
              rw [if_pos (by rfl)]
              refine ⟨.pointer (some ⟨gx, 3, none⟩), fun W hW => quiet_ok ?_, hK _ ?_⟩
              · have q := HX.out W hW
                obtain ⟨⟨m0, m1, m2, m3, m4, m5⟩, _⟩ := q
                have q2 := HCX.out W hW
                obtain ⟨k0, k1⟩ := q2
                go_simp
                all_goals (try omega)
              clear hK K
              simp only [Act.put, aZ48, bZ48, cZ48]
              refine wpQuiet_step (fun K hK => ?_)
              rw [if_pos (by rfl)]
              refine ⟨.slice aa R.length ca, fun W hW => quiet_ok ?_, hK _ ?_⟩
              · have q := HX.out W hW
                obtain ⟨⟨m0, m1, m2, m3, m4, m5⟩, _⟩ := q
                have q2 := HCX.out W hW
                obtain ⟨k0, k1⟩ := q2
                go_simp
                all_goals (try omega)
              clear hK K
              simp only [Act.put, aZ48, bZ48, cZ48]
              refine wpQuiet_step (fun K hK => ?_)
              rw [if_pos (by rfl)]
              refine ⟨.bool false, fun W hW => quiet_call (f := 33) (args := #[.slice aa R.length ca]) ?_ ?_, hK _ ?_⟩
              · go_simp
              · exact (HSM.out W hW).mono fun e w'' h => ⟨h.1, HTR.out _ _ hW h.2⟩
              clear hK K
              simp only [Act.put, aZ48, bZ48, cZ48]
              refine wpQuiet_step (fun K hK => ?_)
              rw [if_pos (by rfl)]
              refine ⟨.bool true, fun W hW => quiet_ok ?_, hK _ ?_⟩
              · have q := HX.out W hW
                obtain ⟨⟨m0, m1, m2, m3, m4, m5⟩, _⟩ := q
                have q2 := HCX.out W hW
                obtain ⟨k0, k1⟩ := q2
                go_simp
                all_goals (try omega)
              clear hK K
              simp only [Act.put, aZ48, bZ48, cZ48]
              refine wpQuiet_step (fun K hK => ?_)
              rw [if_pos (by rfl)]
              refine ⟨.bool u78, fun W hW => quiet_ok ?_, hK _ ?_⟩
              · have q := HX.out W hW
                obtain ⟨⟨m0, m1, m2, m3, m4, m5⟩, _⟩ := q
                have q2 := HCX.out W hW
                obtain ⟨k0, k1⟩ := q2
                have v78 := HU78.out
                go_simp
                all_goals (try omega)
              clear hK K
              simp only [Act.put, aZ48, bZ48, cZ48]
              refine BigFrame.wpQuiet_skip (by show (some u78 == some false) = false; rw [HU78.out]; rfl) ?_
              simp only [Act.put, aZ48, bZ48, cZ48]
              refine BigFrame.wpQuiet_skip (by show (some u78 == some false) = false; rw [HU78.out]; rfl) ?_
              simp only [Act.put, aZ48, bZ48, cZ48]
              refine BigFrame.wpQuiet_skip (by show (some u78 == some false) = false; rw [HU78.out]; rfl) ?_
              simp only [Act.put, aZ48, bZ48, cZ48]
              refine BigFrame.wpQuiet_skip (by show (some u78 == some false) = false; rw [HU78.out]; rfl) ?_
              simp only [Act.put, aZ48, bZ48, cZ48]
              refine BigFrame.wpQuiet_skip (by show (some u78 == some false) = false; rw [HU78.out]; rfl) ?_
              simp only [Act.put, aZ48, bZ48, cZ48]
              refine BigFrame.wpQuiet_skip (by show (some u78 == some false) = false; rw [HU78.out]; rfl) ?_
              simp only [Act.put, aZ48, bZ48, cZ48]
              refine BigFrame.wpQuiet_skip (by show (some u78 == some false) = false; rw [HU78.out]; rfl) ?_
              simp only [Act.put, aZ48, bZ48, cZ48]
              refine BigFrame.wpQuiet_skip (by show (some u78 == some false) = false; rw [HU78.out]; rfl) ?_
              simp only [Act.put, aZ48, bZ48, cZ48]
              refine wpQuiet_step (fun K hK => ?_)
              rw [if_pos (by rfl)]
              refine ⟨.bool true, fun W hW => quiet_ok ?_, hK _ ?_⟩
              · have q := HX.out W hW
                obtain ⟨⟨m0, m1, m2, m3, m4, m5⟩, _⟩ := q
                have q2 := HCX.out W hW
                obtain ⟨k0, k1⟩ := q2
                have v78 := HU78.out
                go_simp
                all_goals (try omega)
              clear hK K
              simp only [Act.put, aZ48, bZ48, cZ48]
              refine wpQuiet_step (fun K hK => ?_)
              rw [if_pos (by rfl)]
              refine ⟨.bool u88, fun W hW => quiet_ok ?_, hK _ ?_⟩
              · have q := HX.out W hW
                obtain ⟨⟨m0, m1, m2, m3, m4, m5⟩, _⟩ := q
                have q2 := HCX.out W hW
                obtain ⟨k0, k1⟩ := q2
                have v78 := HU78.out
                have v88 := HU88.out
                go_simp
                all_goals (try omega)
              clear hK K
              simp only [Act.put, aZ48, bZ48, cZ48]
              refine BigFrame.wpQuiet_skip (by show (some u88 == some false) = false; rw [HU88.out]; rfl) ?_
              simp only [Act.put, aZ48, bZ48, cZ48]
              refine BigFrame.wpQuiet_skip (by show (some u88 == some false) = false; rw [HU88.out]; rfl) ?_
              simp only [Act.put, aZ48, bZ48, cZ48]
              refine BigFrame.wpQuiet_skip (by show (some u88 == some false) = false; rw [HU88.out]; rfl) ?_
              simp only [Act.put, aZ48, bZ48, cZ48]
              refine BigFrame.wpQuiet_skip (by show (some u88 == some false) = false; rw [HU88.out]; rfl) ?_
              simp only [Act.put, aZ48, bZ48, cZ48]
              refine BigFrame.wpQuiet_skip (by show (some u88 == some false) = false; rw [HU88.out]; rfl) ?_
              simp only [Act.put, aZ48, bZ48, cZ48]
              refine BigFrame.wpQuiet_skip (by show (some u88 == some false) = false; rw [HU88.out]; rfl) ?_
              simp only [Act.put, aZ48, bZ48, cZ48]
              refine BigFrame.wpQuiet_skip (by show (some u88 == some false) = false; rw [HU88.out]; rfl) ?_
              simp only [Act.put, aZ48, bZ48, cZ48]
              refine BigFrame.wpQuiet_skip (by show (some u88 == some false) = false; rw [HU88.out]; rfl) ?_
              simp only [Act.put, aZ48, bZ48, cZ48]
              refine wpQuiet_step (fun K hK => ?_)
              rw [if_pos (by rfl)]
              refine ⟨.bool true, fun W hW => quiet_ok ?_, hK _ ?_⟩
              · have q := HX.out W hW
                obtain ⟨⟨m0, m1, m2, m3, m4, m5⟩, _⟩ := q
                have q2 := HCX.out W hW
                obtain ⟨k0, k1⟩ := q2
                have v78 := HU78.out
                have v88 := HU88.out
                go_simp
                all_goals (try omega)
              clear hK K
              simp only [Act.put, aZ48, bZ48, cZ48]
              refine wpQuiet_nil ?_
              intro W2 hW2
              have hbW2 := HBW.out W2 hW2
              go_wp2_with fail
              go_ret
              exact ⟨ret_bool HF.out.symm, hbW2⟩
            | true =>
            rw [hA] at HSM
            have hpos := ans_pos hA
            have HHD : Hid (hdR R = R[0]'hpos) := hdR_at hpos
            obtain ⟨b2, o2, ha2, hbl2, hcel2⟩ := HROW2.out hpos
            subst ha2
            have hc0 := hcel2 0 hpos
            rw [Nat.zero_mul, Nat.add_zero] at hc0
            obtain ⟨h, hhe⟩ : ∃ h, h = R[0]'hpos := ⟨_, rfl⟩
            rw [← hhe] at hc0 HHD
            have HH : Hid (∀ W, Below W0.heap.size W0 W → W.cell? ⟨b2, o2, none⟩ = some (.string ⟨h.1.toArray⟩) ∧ W.cell? ⟨b2, o2 + 1, none⟩ = some (.int .i64 h.2.1) ∧ W.cell? ⟨b2, o2 + 2, none⟩ = some (.int .i64 h.2.2.1) ∧ W.cell? ⟨b2, o2 + 3, none⟩ = some (.string ⟨h.2.2.2.toArray⟩)) := fun W hW => hc0.kept (HBR0.out W hW)
            have HBR2 : Hid (¬ (h.1 = nm ∧ h.2.1 = ty) → r = false) := fun hh => HBR.out (by
              unfold tellB
              simp only [HHD.out, hA, Bool.true_and, Bool.false_eq_true]
              cases hc : ((h.1 == nm) && (h.2.1 == ty)) with
              | false => rfl
              | true => simp only [Bool.and_eq_true, beq_iff_eq] at hc; exact absurd hc hh)
            have HUP2 : Hid (h.1 = nm → h.2.1 = ty → ∀ j, j < k + 1 → stepE now L j = true) := fun h1 h2 => HUP.out (by unfold tellB; simp [HHD.out, hA, h1, h2])
            have hl2 : (0 : Int) < (R.length : Int) := by omega
            have hRn : ¬ R = [] := fun e => by rw [e] at hpos; simp at hpos
            clear HUP HBR HBR1 HHD hcel2 hhe hc0 hA HROW2 hbl2 hbd
            by_cases g5 : h.1 = nm
            case neg =>
              have HF : Hid (r = false) := HBR2.out (fun hh => g5 hh.1)
              have e5 : (h.1 == nm) = false := by simpa using g5
              have e5' : (h.1 != nm) = true := by simpa using g5
              clear HUP2 HBR2 g5
              obtain ⟨u88, hu88⟩ : ∃ u : Bool, u = true := ⟨_, rfl⟩
              have HU88 : Hid (u88 = true) := hu88
              clear hu88
              go_wp2_with fail
              refine wp_region_quiet (C := fun W => Below W0.heap.size W0 W) (by kernel_rfl) (by kernel_rfl) hbd2 ?_
              refine wpQuiet_step (fun K hK => ?_)
              rw [if_pos (by rfl)]
              refine ⟨.pointer (some ⟨gx, 3, none⟩), fun W hW => quiet_ok ?_, hK _ ?_⟩
              · have q := HX.out W hW
                obtain ⟨⟨m0, m1, m2, m3, m4, m5⟩, _⟩ := q
                have q2 := HCX.out W hW
                obtain ⟨k0, k1⟩ := q2
                have q4 := HH.out W hW
                obtain ⟨h0, h1, h2, h3⟩ := q4
                go_simp
                all_goals (try omega)
              clear hK K
              simp only [Act.put, aZ48, bZ48, cZ48]
              refine wpQuiet_step (fun K hK => ?_)
              rw [if_pos (by rfl)]
              refine ⟨.slice (some ⟨b2, o2, none⟩) R.length ca, fun W hW => quiet_ok ?_, hK _ ?_⟩
              · have q := HX.out W hW
                obtain ⟨⟨m0, m1, m2, m3, m4, m5⟩, _⟩ := q
                have q2 := HCX.out W hW
                obtain ⟨k0, k1⟩ := q2
                have q4 := HH.out W hW
                obtain ⟨h0, h1, h2, h3⟩ := q4
                go_simp
                all_goals (try omega)
              clear hK K
              simp only [Act.put, aZ48, bZ48, cZ48]
              refine wpQuiet_step (fun K hK => ?_)
              rw [if_pos (by rfl)]
              refine ⟨.bool true, fun W hW => quiet_call (f := 33) (args := #[.slice (some ⟨b2, o2, none⟩) R.length ca]) ?_ ?_, hK _ ?_⟩
              · go_simp
              · exact (HSM.out W hW).mono fun e w'' h => ⟨h.1, HTR.out _ _ hW h.2⟩
              clear hK K
              simp only [Act.put, aZ48, bZ48, cZ48]
              refine wpQuiet_step (fun K hK => ?_)
              rw [if_pos (by rfl)]
              refine ⟨.bool false, fun W hW => quiet_ok ?_, hK _ ?_⟩
              · have q := HX.out W hW
                obtain ⟨⟨m0, m1, m2, m3, m4, m5⟩, _⟩ := q
                have q2 := HCX.out W hW
                obtain ⟨k0, k1⟩ := q2
                have q4 := HH.out W hW
                obtain ⟨h0, h1, h2, h3⟩ := q4
                go_simp
                all_goals (try omega)
              clear hK K
              simp only [Act.put, aZ48, bZ48, cZ48]
              refine wpQuiet_step (fun K hK => ?_)
              rw [if_pos (by rfl)]
              refine ⟨.bool false, fun W hW => quiet_ok ?_, hK _ ?_⟩
              · have q := HX.out W hW
                obtain ⟨⟨m0, m1, m2, m3, m4, m5⟩, _⟩ := q
                have q2 := HCX.out W hW
                obtain ⟨k0, k1⟩ := q2
                have q4 := HH.out W hW
                obtain ⟨h0, h1, h2, h3⟩ := q4
                go_simp
                all_goals (try omega)
              clear hK K
              simp only [Act.put, aZ48, bZ48, cZ48]
              refine wpQuiet_step (fun K hK => ?_)
              rw [if_pos (by rfl)]
              refine ⟨.pointer (some ⟨gx, 3, none⟩), fun W hW => quiet_ok ?_, hK _ ?_⟩
              · have q := HX.out W hW
                obtain ⟨⟨m0, m1, m2, m3, m4, m5⟩, _⟩ := q
                have q2 := HCX.out W hW
                obtain ⟨k0, k1⟩ := q2
                have q4 := HH.out W hW
                obtain ⟨h0, h1, h2, h3⟩ := q4
                go_simp
                all_goals (try omega)
              clear hK K
              simp only [Act.put, aZ48, bZ48, cZ48]
              refine wpQuiet_step (fun K hK => ?_)
              rw [if_pos (by rfl)]
              refine ⟨.slice (some ⟨b2, o2, none⟩) R.length ca, fun W hW => quiet_ok ?_, hK _ ?_⟩
              · have q := HX.out W hW
                obtain ⟨⟨m0, m1, m2, m3, m4, m5⟩, _⟩ := q
                have q2 := HCX.out W hW
                obtain ⟨k0, k1⟩ := q2
                have q4 := HH.out W hW
                obtain ⟨h0, h1, h2, h3⟩ := q4
                go_simp
                all_goals (try omega)
              clear hK K
              simp only [Act.put, aZ48, bZ48, cZ48]
              refine wpQuiet_step (fun K hK => ?_)
              rw [if_pos (by rfl)]
              refine ⟨.pointer (some ⟨b2, o2, none⟩), fun W hW => quiet_ok ?_, hK _ ?_⟩
              · have q := HX.out W hW
                obtain ⟨⟨m0, m1, m2, m3, m4, m5⟩, _⟩ := q
                have q2 := HCX.out W hW
                obtain ⟨k0, k1⟩ := q2
                have q4 := HH.out W hW
                obtain ⟨h0, h1, h2, h3⟩ := q4
                go_simp
                all_goals (try omega)
              clear hK K
              simp only [Act.put, aZ48, bZ48, cZ48]
              refine wpQuiet_step (fun K hK => ?_)
              rw [if_pos (by rfl)]
              refine ⟨.pointer (some ⟨b2, o2, none⟩), fun W hW => quiet_ok ?_, hK _ ?_⟩
              · have q := HX.out W hW
                obtain ⟨⟨m0, m1, m2, m3, m4, m5⟩, _⟩ := q
                have q2 := HCX.out W hW
                obtain ⟨k0, k1⟩ := q2
                have q4 := HH.out W hW
                obtain ⟨h0, h1, h2, h3⟩ := q4
                go_simp
                all_goals (try omega)
              clear hK K
              simp only [Act.put, aZ48, bZ48, cZ48]
              refine wpQuiet_step (fun K hK => ?_)
              rw [if_pos (by rfl)]
              refine ⟨.string ⟨h.1.toArray⟩, fun W hW => quiet_ok ?_, hK _ ?_⟩
              · have q := HX.out W hW
                obtain ⟨⟨m0, m1, m2, m3, m4, m5⟩, _⟩ := q
                have q2 := HCX.out W hW
                obtain ⟨k0, k1⟩ := q2
                have q4 := HH.out W hW
                obtain ⟨h0, h1, h2, h3⟩ := q4
                go_simp
                all_goals (try omega)
              clear hK K
              simp only [Act.put, aZ48, bZ48, cZ48]
              refine wpQuiet_step (fun K hK => ?_)
              rw [if_pos (by rfl)]
              refine ⟨.pointer (some ⟨gx, 0, none⟩), fun W hW => quiet_ok ?_, hK _ ?_⟩
              · have q := HX.out W hW
                obtain ⟨⟨m0, m1, m2, m3, m4, m5⟩, _⟩ := q
                have q2 := HCX.out W hW
                obtain ⟨k0, k1⟩ := q2
                have q4 := HH.out W hW
                obtain ⟨h0, h1, h2, h3⟩ := q4
                go_simp
                all_goals (try omega)
              clear hK K
              simp only [Act.put, aZ48, bZ48, cZ48]
              refine wpQuiet_step (fun K hK => ?_)
              rw [if_pos (by rfl)]
              refine ⟨.string ⟨nm.toArray⟩, fun W hW => quiet_ok ?_, hK _ ?_⟩
              · have q := HX.out W hW
                obtain ⟨⟨m0, m1, m2, m3, m4, m5⟩, _⟩ := q
                have q2 := HCX.out W hW
                obtain ⟨k0, k1⟩ := q2
                have q4 := HH.out W hW
                obtain ⟨h0, h1, h2, h3⟩ := q4
                go_simp
                all_goals (try omega)
              clear hK K
              simp only [Act.put, aZ48, bZ48, cZ48]
              refine wpQuiet_step (fun K hK => ?_)
              rw [if_pos (by rfl)]
              refine ⟨.bool true, fun W hW => quiet_ok ?_, hK _ ?_⟩
              · have q := HX.out W hW
                obtain ⟨⟨m0, m1, m2, m3, m4, m5⟩, _⟩ := q
                have q2 := HCX.out W hW
                obtain ⟨k0, k1⟩ := q2
                have q4 := HH.out W hW
                obtain ⟨h0, h1, h2, h3⟩ := q4
                go_simp
                all_goals (try omega)
              clear hK K
              simp only [Act.put, aZ48, bZ48, cZ48]
              refine wpQuiet_step (fun K hK => ?_)
              rw [if_pos (by rfl)]
              refine ⟨.bool true, fun W hW => quiet_ok ?_, hK _ ?_⟩
              · have q := HX.out W hW
                obtain ⟨⟨m0, m1, m2, m3, m4, m5⟩, _⟩ := q
                have q2 := HCX.out W hW
                obtain ⟨k0, k1⟩ := q2
                have q4 := HH.out W hW
                obtain ⟨h0, h1, h2, h3⟩ := q4
                go_simp
                all_goals (try omega)
              clear hK K
              simp only [Act.put, aZ48, bZ48, cZ48]
              refine wpQuiet_step (fun K hK => ?_)
              rw [if_pos (by rfl)]
              refine ⟨.bool u88, fun W hW => quiet_ok ?_, hK _ ?_⟩
              · have q := HX.out W hW
                obtain ⟨⟨m0, m1, m2, m3, m4, m5⟩, _⟩ := q
                have q2 := HCX.out W hW
                obtain ⟨k0, k1⟩ := q2
                have q4 := HH.out W hW
                obtain ⟨h0, h1, h2, h3⟩ := q4
                have v88 := HU88.out
                go_simp
                all_goals (try omega)
              clear hK K
              simp only [Act.put, aZ48, bZ48, cZ48]
              refine BigFrame.wpQuiet_skip (by show (some u88 == some false) = false; rw [HU88.out]; rfl) ?_
              simp only [Act.put, aZ48, bZ48, cZ48]
              refine BigFrame.wpQuiet_skip (by show (some u88 == some false) = false; rw [HU88.out]; rfl) ?_
              simp only [Act.put, aZ48, bZ48, cZ48]
              refine BigFrame.wpQuiet_skip (by show (some u88 == some false) = false; rw [HU88.out]; rfl) ?_
              simp only [Act.put, aZ48, bZ48, cZ48]
              refine BigFrame.wpQuiet_skip (by show (some u88 == some false) = false; rw [HU88.out]; rfl) ?_
              simp only [Act.put, aZ48, bZ48, cZ48]
              refine BigFrame.wpQuiet_skip (by show (some u88 == some false) = false; rw [HU88.out]; rfl) ?_
              simp only [Act.put, aZ48, bZ48, cZ48]
              refine BigFrame.wpQuiet_skip (by show (some u88 == some false) = false; rw [HU88.out]; rfl) ?_
              simp only [Act.put, aZ48, bZ48, cZ48]
              refine BigFrame.wpQuiet_skip (by show (some u88 == some false) = false; rw [HU88.out]; rfl) ?_
              simp only [Act.put, aZ48, bZ48, cZ48]
              refine BigFrame.wpQuiet_skip (by show (some u88 == some false) = false; rw [HU88.out]; rfl) ?_
              simp only [Act.put, aZ48, bZ48, cZ48]
              refine wpQuiet_step (fun K hK => ?_)
              rw [if_pos (by rfl)]
              refine ⟨.bool true, fun W hW => quiet_ok ?_, hK _ ?_⟩
              · have q := HX.out W hW
                obtain ⟨⟨m0, m1, m2, m3, m4, m5⟩, _⟩ := q
                have q2 := HCX.out W hW
                obtain ⟨k0, k1⟩ := q2
                have q4 := HH.out W hW
                obtain ⟨h0, h1, h2, h3⟩ := q4
                have v88 := HU88.out
                go_simp
                all_goals (try omega)
              clear hK K
              simp only [Act.put, aZ48, bZ48, cZ48]
              refine wpQuiet_nil ?_
              intro W2 hW2
              have hbW2 := HBW.out W2 hW2
              go_wp2_with fail
              go_ret
              exact ⟨ret_bool HF.out.symm, hbW2⟩
            have e5 : (h.1 == nm) = true := by simpa using g5
            have e5' : (h.1 != nm) = false := by simpa using g5
            by_cases g6 : h.2.1 = ty
            case neg =>
              have HF : Hid (r = false) := HBR2.out (fun hh => g6 hh.2)
              have e6 : (h.2.1 == ty) = false := by simpa using g6
              have e6' : (h.2.1 != ty) = true := by simpa using g6
              clear HUP2 HBR2 g5 g6
              go_wp2_with fail
              refine wp_region_quiet (C := fun W => Below W0.heap.size W0 W) (by kernel_rfl) (by kernel_rfl) hbd2 ?_
              refine wpQuiet_step (fun K hK => ?_)
              rw [if_pos (by rfl)]
              refine ⟨.pointer (some ⟨gx, 3, none⟩), fun W hW => quiet_ok ?_, hK _ ?_⟩
              · have q := HX.out W hW
                obtain ⟨⟨m0, m1, m2, m3, m4, m5⟩, _⟩ := q
                have q2 := HCX.out W hW
                obtain ⟨k0, k1⟩ := q2
                have q4 := HH.out W hW
                obtain ⟨h0, h1, h2, h3⟩ := q4
                go_simp
                all_goals (try omega)
              clear hK K
              simp only [Act.put, aZ48, bZ48, cZ48]
              refine wpQuiet_step (fun K hK => ?_)
              rw [if_pos (by rfl)]
              refine ⟨.slice (some ⟨b2, o2, none⟩) R.length ca, fun W hW => quiet_ok ?_, hK _ ?_⟩
              · have q := HX.out W hW
                obtain ⟨⟨m0, m1, m2, m3, m4, m5⟩, _⟩ := q
                have q2 := HCX.out W hW
                obtain ⟨k0, k1⟩ := q2
                have q4 := HH.out W hW
                obtain ⟨h0, h1, h2, h3⟩ := q4
                go_simp
                all_goals (try omega)
              clear hK K
              simp only [Act.put, aZ48, bZ48, cZ48]
              refine wpQuiet_step (fun K hK => ?_)
              rw [if_pos (by rfl)]
              refine ⟨.bool true, fun W hW => quiet_call (f := 33) (args := #[.slice (some ⟨b2, o2, none⟩) R.length ca]) ?_ ?_, hK _ ?_⟩
              · go_simp
              · exact (HSM.out W hW).mono fun e w'' h => ⟨h.1, HTR.out _ _ hW h.2⟩
              clear hK K
              simp only [Act.put, aZ48, bZ48, cZ48]
              refine wpQuiet_step (fun K hK => ?_)
              rw [if_pos (by rfl)]
              refine ⟨.bool false, fun W hW => quiet_ok ?_, hK _ ?_⟩
              · have q := HX.out W hW
                obtain ⟨⟨m0, m1, m2, m3, m4, m5⟩, _⟩ := q
                have q2 := HCX.out W hW
                obtain ⟨k0, k1⟩ := q2
                have q4 := HH.out W hW
                obtain ⟨h0, h1, h2, h3⟩ := q4
                go_simp
                all_goals (try omega)
              clear hK K
              simp only [Act.put, aZ48, bZ48, cZ48]
              refine wpQuiet_step (fun K hK => ?_)
              rw [if_pos (by rfl)]
              refine ⟨.bool false, fun W hW => quiet_ok ?_, hK _ ?_⟩
              · have q := HX.out W hW
                obtain ⟨⟨m0, m1, m2, m3, m4, m5⟩, _⟩ := q
                have q2 := HCX.out W hW
                obtain ⟨k0, k1⟩ := q2
                have q4 := HH.out W hW
                obtain ⟨h0, h1, h2, h3⟩ := q4
                go_simp
                all_goals (try omega)
              clear hK K
              simp only [Act.put, aZ48, bZ48, cZ48]
              refine wpQuiet_step (fun K hK => ?_)
              rw [if_pos (by rfl)]
              refine ⟨.pointer (some ⟨gx, 3, none⟩), fun W hW => quiet_ok ?_, hK _ ?_⟩
              · have q := HX.out W hW
                obtain ⟨⟨m0, m1, m2, m3, m4, m5⟩, _⟩ := q
                have q2 := HCX.out W hW
                obtain ⟨k0, k1⟩ := q2
                have q4 := HH.out W hW
                obtain ⟨h0, h1, h2, h3⟩ := q4
                go_simp
                all_goals (try omega)
              clear hK K
              simp only [Act.put, aZ48, bZ48, cZ48]
              refine wpQuiet_step (fun K hK => ?_)
              rw [if_pos (by rfl)]
              refine ⟨.slice (some ⟨b2, o2, none⟩) R.length ca, fun W hW => quiet_ok ?_, hK _ ?_⟩
              · have q := HX.out W hW
                obtain ⟨⟨m0, m1, m2, m3, m4, m5⟩, _⟩ := q
                have q2 := HCX.out W hW
                obtain ⟨k0, k1⟩ := q2
                have q4 := HH.out W hW
                obtain ⟨h0, h1, h2, h3⟩ := q4
                go_simp
                all_goals (try omega)
              clear hK K
              simp only [Act.put, aZ48, bZ48, cZ48]
              refine wpQuiet_step (fun K hK => ?_)
              rw [if_pos (by rfl)]
              refine ⟨.pointer (some ⟨b2, o2, none⟩), fun W hW => quiet_ok ?_, hK _ ?_⟩
              · have q := HX.out W hW
                obtain ⟨⟨m0, m1, m2, m3, m4, m5⟩, _⟩ := q
                have q2 := HCX.out W hW
                obtain ⟨k0, k1⟩ := q2
                have q4 := HH.out W hW
                obtain ⟨h0, h1, h2, h3⟩ := q4
                go_simp
                all_goals (try omega)
              clear hK K
              simp only [Act.put, aZ48, bZ48, cZ48]
              refine wpQuiet_step (fun K hK => ?_)
              rw [if_pos (by rfl)]
              refine ⟨.pointer (some ⟨b2, o2, none⟩), fun W hW => quiet_ok ?_, hK _ ?_⟩
              · have q := HX.out W hW
                obtain ⟨⟨m0, m1, m2, m3, m4, m5⟩, _⟩ := q
                have q2 := HCX.out W hW
                obtain ⟨k0, k1⟩ := q2
                have q4 := HH.out W hW
                obtain ⟨h0, h1, h2, h3⟩ := q4
                go_simp
                all_goals (try omega)
              clear hK K
              simp only [Act.put, aZ48, bZ48, cZ48]
              refine wpQuiet_step (fun K hK => ?_)
              rw [if_pos (by rfl)]
              refine ⟨.string ⟨h.1.toArray⟩, fun W hW => quiet_ok ?_, hK _ ?_⟩
              · have q := HX.out W hW
                obtain ⟨⟨m0, m1, m2, m3, m4, m5⟩, _⟩ := q
                have q2 := HCX.out W hW
                obtain ⟨k0, k1⟩ := q2
                have q4 := HH.out W hW
                obtain ⟨h0, h1, h2, h3⟩ := q4
                go_simp
                all_goals (try omega)
              clear hK K
              simp only [Act.put, aZ48, bZ48, cZ48]
              refine wpQuiet_step (fun K hK => ?_)
              rw [if_pos (by rfl)]
              refine ⟨.pointer (some ⟨gx, 0, none⟩), fun W hW => quiet_ok ?_, hK _ ?_⟩
              · have q := HX.out W hW
                obtain ⟨⟨m0, m1, m2, m3, m4, m5⟩, _⟩ := q
                have q2 := HCX.out W hW
                obtain ⟨k0, k1⟩ := q2
                have q4 := HH.out W hW
                obtain ⟨h0, h1, h2, h3⟩ := q4
                go_simp
                all_goals (try omega)
              clear hK K
              simp only [Act.put, aZ48, bZ48, cZ48]
              refine wpQuiet_step (fun K hK => ?_)
              rw [if_pos (by rfl)]
              refine ⟨.string ⟨nm.toArray⟩, fun W hW => quiet_ok ?_, hK _ ?_⟩
              · have q := HX.out W hW
                obtain ⟨⟨m0, m1, m2, m3, m4, m5⟩, _⟩ := q
                have q2 := HCX.out W hW
                obtain ⟨k0, k1⟩ := q2
                have q4 := HH.out W hW
                obtain ⟨h0, h1, h2, h3⟩ := q4
                go_simp
                all_goals (try omega)
              clear hK K
              simp only [Act.put, aZ48, bZ48, cZ48]
              refine wpQuiet_step (fun K hK => ?_)
              rw [if_pos (by rfl)]
              refine ⟨.bool false, fun W hW => quiet_ok ?_, hK _ ?_⟩
              · have q := HX.out W hW
                obtain ⟨⟨m0, m1, m2, m3, m4, m5⟩, _⟩ := q
                have q2 := HCX.out W hW
                obtain ⟨k0, k1⟩ := q2
                have q4 := HH.out W hW
                obtain ⟨h0, h1, h2, h3⟩ := q4
                go_simp
                all_goals (try omega)
              clear hK K
              simp only [Act.put, aZ48, bZ48, cZ48]
              refine wpQuiet_step (fun K hK => ?_)
              rw [if_pos (by rfl)]
              refine ⟨.bool false, fun W hW => quiet_ok ?_, hK _ ?_⟩
              · have q := HX.out W hW
                obtain ⟨⟨m0, m1, m2, m3, m4, m5⟩, _⟩ := q
                have q2 := HCX.out W hW
                obtain ⟨k0, k1⟩ := q2
                have q4 := HH.out W hW
                obtain ⟨h0, h1, h2, h3⟩ := q4
                go_simp
                all_goals (try omega)
              clear hK K
              simp only [Act.put, aZ48, bZ48, cZ48]
              refine wpQuiet_step (fun K hK => ?_)
              rw [if_pos (by rfl)]
              refine ⟨.bool false, fun W hW => quiet_ok ?_, hK _ ?_⟩
              · have q := HX.out W hW
                obtain ⟨⟨m0, m1, m2, m3, m4, m5⟩, _⟩ := q
                have q2 := HCX.out W hW
                obtain ⟨k0, k1⟩ := q2
                have q4 := HH.out W hW
                obtain ⟨h0, h1, h2, h3⟩ := q4
                go_simp
                all_goals (try omega)
              clear hK K
              simp only [Act.put, aZ48, bZ48, cZ48]
              refine wpQuiet_step (fun K hK => ?_)
              rw [if_pos (by rfl)]
              refine ⟨.pointer (some ⟨gx, 3, none⟩), fun W hW => quiet_ok ?_, hK _ ?_⟩
              · have q := HX.out W hW
                obtain ⟨⟨m0, m1, m2, m3, m4, m5⟩, _⟩ := q
                have q2 := HCX.out W hW
                obtain ⟨k0, k1⟩ := q2
                have q4 := HH.out W hW
                obtain ⟨h0, h1, h2, h3⟩ := q4
                go_simp
                all_goals (try omega)
              clear hK K
              simp only [Act.put, aZ48, bZ48, cZ48]
              refine wpQuiet_step (fun K hK => ?_)
              rw [if_pos (by rfl)]
              refine ⟨.slice (some ⟨b2, o2, none⟩) R.length ca, fun W hW => quiet_ok ?_, hK _ ?_⟩
              · have q := HX.out W hW
                obtain ⟨⟨m0, m1, m2, m3, m4, m5⟩, _⟩ := q
                have q2 := HCX.out W hW
                obtain ⟨k0, k1⟩ := q2
                have q4 := HH.out W hW
                obtain ⟨h0, h1, h2, h3⟩ := q4
                go_simp
                all_goals (try omega)
              clear hK K
              simp only [Act.put, aZ48, bZ48, cZ48]
              refine wpQuiet_step (fun K hK => ?_)
              rw [if_pos (by rfl)]
              refine ⟨.pointer (some ⟨b2, o2, none⟩), fun W hW => quiet_ok ?_, hK _ ?_⟩
              · have q := HX.out W hW
                obtain ⟨⟨m0, m1, m2, m3, m4, m5⟩, _⟩ := q
                have q2 := HCX.out W hW
                obtain ⟨k0, k1⟩ := q2
                have q4 := HH.out W hW
                obtain ⟨h0, h1, h2, h3⟩ := q4
                go_simp
                all_goals (try omega)
              clear hK K
              simp only [Act.put, aZ48, bZ48, cZ48]
              refine wpQuiet_step (fun K hK => ?_)
              rw [if_pos (by rfl)]
              refine ⟨.pointer (some ⟨b2, o2 + 1, none⟩), fun W hW => quiet_ok ?_, hK _ ?_⟩
              · have q := HX.out W hW
                obtain ⟨⟨m0, m1, m2, m3, m4, m5⟩, _⟩ := q
                have q2 := HCX.out W hW
                obtain ⟨k0, k1⟩ := q2
                have q4 := HH.out W hW
                obtain ⟨h0, h1, h2, h3⟩ := q4
                go_simp
                all_goals (try omega)
              clear hK K
              simp only [Act.put, aZ48, bZ48, cZ48]
              refine wpQuiet_step (fun K hK => ?_)
              rw [if_pos (by rfl)]
              refine ⟨.int .i64 h.2.1, fun W hW => quiet_ok ?_, hK _ ?_⟩
              · have q := HX.out W hW
                obtain ⟨⟨m0, m1, m2, m3, m4, m5⟩, _⟩ := q
                have q2 := HCX.out W hW
                obtain ⟨k0, k1⟩ := q2
                have q4 := HH.out W hW
                obtain ⟨h0, h1, h2, h3⟩ := q4
                go_simp
                all_goals (try omega)
              clear hK K
              simp only [Act.put, aZ48, bZ48, cZ48]
              refine wpQuiet_step (fun K hK => ?_)
              rw [if_pos (by rfl)]
              refine ⟨.pointer (some ⟨gx, 1, none⟩), fun W hW => quiet_ok ?_, hK _ ?_⟩
              · have q := HX.out W hW
                obtain ⟨⟨m0, m1, m2, m3, m4, m5⟩, _⟩ := q
                have q2 := HCX.out W hW
                obtain ⟨k0, k1⟩ := q2
                have q4 := HH.out W hW
                obtain ⟨h0, h1, h2, h3⟩ := q4
                go_simp
                all_goals (try omega)
              clear hK K
              simp only [Act.put, aZ48, bZ48, cZ48]
              refine wpQuiet_step (fun K hK => ?_)
              rw [if_pos (by rfl)]
              refine ⟨.int .i64 ty, fun W hW => quiet_ok ?_, hK _ ?_⟩
              · have q := HX.out W hW
                obtain ⟨⟨m0, m1, m2, m3, m4, m5⟩, _⟩ := q
                have q2 := HCX.out W hW
                obtain ⟨k0, k1⟩ := q2
                have q4 := HH.out W hW
                obtain ⟨h0, h1, h2, h3⟩ := q4
                go_simp
                all_goals (try omega)
              clear hK K
              simp only [Act.put, aZ48, bZ48, cZ48]
              refine wpQuiet_step (fun K hK => ?_)
              rw [if_pos (by rfl)]
              refine ⟨.bool true, fun W hW => quiet_ok ?_, hK _ ?_⟩
              · have q := HX.out W hW
                obtain ⟨⟨m0, m1, m2, m3, m4, m5⟩, _⟩ := q
                have q2 := HCX.out W hW
                obtain ⟨k0, k1⟩ := q2
                have q4 := HH.out W hW
                obtain ⟨h0, h1, h2, h3⟩ := q4
                go_simp
                all_goals (try omega)
              clear hK K
              simp only [Act.put, aZ48, bZ48, cZ48]
              refine wpQuiet_step (fun K hK => ?_)
              rw [if_pos (by rfl)]
              refine ⟨.bool true, fun W hW => quiet_ok ?_, hK _ ?_⟩
              · have q := HX.out W hW
                obtain ⟨⟨m0, m1, m2, m3, m4, m5⟩, _⟩ := q
                have q2 := HCX.out W hW
                obtain ⟨k0, k1⟩ := q2
                have q4 := HH.out W hW
                obtain ⟨h0, h1, h2, h3⟩ := q4
                go_simp
                all_goals (try omega)
              clear hK K
              simp only [Act.put, aZ48, bZ48, cZ48]
              refine wpQuiet_nil ?_
              intro W2 hW2
              have hbW2 := HBW.out W2 hW2
              go_wp2_with fail
              go_ret
              exact ⟨ret_bool HF.out.symm, hbW2⟩
            have e6 : (h.2.1 == ty) = true := by simpa using g6
            have e6' : (h.2.1 != ty) = false := by simpa using g6
            have HU : Hid (∀ j, j < k + 1 → stepE now L j = true) := HUP2.out g5 g6
            clear HUP2 HBR2 g5 g6
            go_wp2_with fail
            refine wp_region_quiet (C := fun W => Below W0.heap.size W0 W) (by kernel_rfl) (by kernel_rfl) hbd2 ?_
            refine wpQuiet_step (fun K hK => ?_)
            rw [if_pos (by rfl)]
            refine ⟨.pointer (some ⟨gx, 3, none⟩), fun W hW => quiet_ok ?_, hK _ ?_⟩
            · have q := HX.out W hW
              obtain ⟨⟨m0, m1, m2, m3, m4, m5⟩, _⟩ := q
              have q2 := HCX.out W hW
              obtain ⟨k0, k1⟩ := q2
              have q4 := HH.out W hW
              obtain ⟨h0, h1, h2, h3⟩ := q4
              go_simp
              all_goals (try omega)
            clear hK K
            simp only [Act.put, aZ48, bZ48, cZ48]
            refine wpQuiet_step (fun K hK => ?_)
            rw [if_pos (by rfl)]
            refine ⟨.slice (some ⟨b2, o2, none⟩) R.length ca, fun W hW => quiet_ok ?_, hK _ ?_⟩
            · have q := HX.out W hW
              obtain ⟨⟨m0, m1, m2, m3, m4, m5⟩, _⟩ := q
              have q2 := HCX.out W hW
              obtain ⟨k0, k1⟩ := q2
              have q4 := HH.out W hW
              obtain ⟨h0, h1, h2, h3⟩ := q4
              go_simp
              all_goals (try omega)
            clear hK K
            simp only [Act.put, aZ48, bZ48, cZ48]
            refine wpQuiet_step (fun K hK => ?_)
            rw [if_pos (by rfl)]
            refine ⟨.bool true, fun W hW => quiet_call (f := 33) (args := #[.slice (some ⟨b2, o2, none⟩) R.length ca]) ?_ ?_, hK _ ?_⟩
            · go_simp
            · exact (HSM.out W hW).mono fun e w'' h => ⟨h.1, HTR.out _ _ hW h.2⟩
            clear hK K
            simp only [Act.put, aZ48, bZ48, cZ48]
            refine wpQuiet_step (fun K hK => ?_)
            rw [if_pos (by rfl)]
            refine ⟨.bool false, fun W hW => quiet_ok ?_, hK _ ?_⟩
            · have q := HX.out W hW
              obtain ⟨⟨m0, m1, m2, m3, m4, m5⟩, _⟩ := q
              have q2 := HCX.out W hW
              obtain ⟨k0, k1⟩ := q2
              have q4 := HH.out W hW
              obtain ⟨h0, h1, h2, h3⟩ := q4
              go_simp
              all_goals (try omega)
            clear hK K
            simp only [Act.put, aZ48, bZ48, cZ48]
            refine wpQuiet_step (fun K hK => ?_)
            rw [if_pos (by rfl)]
            refine ⟨.bool false, fun W hW => quiet_ok ?_, hK _ ?_⟩
            · have q := HX.out W hW
              obtain ⟨⟨m0, m1, m2, m3, m4, m5⟩, _⟩ := q
              have q2 := HCX.out W hW
              obtain ⟨k0, k1⟩ := q2
              have q4 := HH.out W hW
              obtain ⟨h0, h1, h2, h3⟩ := q4
              go_simp
              all_goals (try omega)
            clear hK K
            simp only [Act.put, aZ48, bZ48, cZ48]
            refine wpQuiet_step (fun K hK => ?_)
            rw [if_pos (by rfl)]
            refine ⟨.pointer (some ⟨gx, 3, none⟩), fun W hW => quiet_ok ?_, hK _ ?_⟩
            · have q := HX.out W hW
              obtain ⟨⟨m0, m1, m2, m3, m4, m5⟩, _⟩ := q
              have q2 := HCX.out W hW
              obtain ⟨k0, k1⟩ := q2
              have q4 := HH.out W hW
              obtain ⟨h0, h1, h2, h3⟩ := q4
              go_simp
              all_goals (try omega)
            clear hK K
            simp only [Act.put, aZ48, bZ48, cZ48]
            refine wpQuiet_step (fun K hK => ?_)
            rw [if_pos (by rfl)]
            refine ⟨.slice (some ⟨b2, o2, none⟩) R.length ca, fun W hW => quiet_ok ?_, hK _ ?_⟩
            · have q := HX.out W hW
              obtain ⟨⟨m0, m1, m2, m3, m4, m5⟩, _⟩ := q
              have q2 := HCX.out W hW
              obtain ⟨k0, k1⟩ := q2
              have q4 := HH.out W hW
              obtain ⟨h0, h1, h2, h3⟩ := q4
              go_simp
              all_goals (try omega)
            clear hK K
            simp only [Act.put, aZ48, bZ48, cZ48]
            refine wpQuiet_step (fun K hK => ?_)
            rw [if_pos (by rfl)]
            refine ⟨.pointer (some ⟨b2, o2, none⟩), fun W hW => quiet_ok ?_, hK _ ?_⟩
            · have q := HX.out W hW
              obtain ⟨⟨m0, m1, m2, m3, m4, m5⟩, _⟩ := q
              have q2 := HCX.out W hW
              obtain ⟨k0, k1⟩ := q2
              have q4 := HH.out W hW
              obtain ⟨h0, h1, h2, h3⟩ := q4
              go_simp
              all_goals (try omega)
            clear hK K
            simp only [Act.put, aZ48, bZ48, cZ48]
            refine wpQuiet_step (fun K hK => ?_)
            rw [if_pos (by rfl)]
            refine ⟨.pointer (some ⟨b2, o2, none⟩), fun W hW => quiet_ok ?_, hK _ ?_⟩
            · have q := HX.out W hW
              obtain ⟨⟨m0, m1, m2, m3, m4, m5⟩, _⟩ := q
              have q2 := HCX.out W hW
              obtain ⟨k0, k1⟩ := q2
              have q4 := HH.out W hW
              obtain ⟨h0, h1, h2, h3⟩ := q4
              go_simp
              all_goals (try omega)
            clear hK K
            simp only [Act.put, aZ48, bZ48, cZ48]
            refine wpQuiet_step (fun K hK => ?_)
            rw [if_pos (by rfl)]
            refine ⟨.string ⟨h.1.toArray⟩, fun W hW => quiet_ok ?_, hK _ ?_⟩
            · have q := HX.out W hW
              obtain ⟨⟨m0, m1, m2, m3, m4, m5⟩, _⟩ := q
              have q2 := HCX.out W hW
              obtain ⟨k0, k1⟩ := q2
              have q4 := HH.out W hW
              obtain ⟨h0, h1, h2, h3⟩ := q4
              go_simp
              all_goals (try omega)
            clear hK K
            simp only [Act.put, aZ48, bZ48, cZ48]
            refine wpQuiet_step (fun K hK => ?_)
            rw [if_pos (by rfl)]
            refine ⟨.pointer (some ⟨gx, 0, none⟩), fun W hW => quiet_ok ?_, hK _ ?_⟩
            · have q := HX.out W hW
              obtain ⟨⟨m0, m1, m2, m3, m4, m5⟩, _⟩ := q
              have q2 := HCX.out W hW
              obtain ⟨k0, k1⟩ := q2
              have q4 := HH.out W hW
              obtain ⟨h0, h1, h2, h3⟩ := q4
              go_simp
              all_goals (try omega)
            clear hK K
            simp only [Act.put, aZ48, bZ48, cZ48]
            refine wpQuiet_step (fun K hK => ?_)
            rw [if_pos (by rfl)]
            refine ⟨.string ⟨nm.toArray⟩, fun W hW => quiet_ok ?_, hK _ ?_⟩
            · have q := HX.out W hW
              obtain ⟨⟨m0, m1, m2, m3, m4, m5⟩, _⟩ := q
              have q2 := HCX.out W hW
              obtain ⟨k0, k1⟩ := q2
              have q4 := HH.out W hW
              obtain ⟨h0, h1, h2, h3⟩ := q4
              go_simp
              all_goals (try omega)
            clear hK K
            simp only [Act.put, aZ48, bZ48, cZ48]
            refine wpQuiet_step (fun K hK => ?_)
            rw [if_pos (by rfl)]
            refine ⟨.bool false, fun W hW => quiet_ok ?_, hK _ ?_⟩
            · have q := HX.out W hW
              obtain ⟨⟨m0, m1, m2, m3, m4, m5⟩, _⟩ := q
              have q2 := HCX.out W hW
              obtain ⟨k0, k1⟩ := q2
              have q4 := HH.out W hW
              obtain ⟨h0, h1, h2, h3⟩ := q4
              go_simp
              all_goals (try omega)
            clear hK K
            simp only [Act.put, aZ48, bZ48, cZ48]
            refine wpQuiet_step (fun K hK => ?_)
            rw [if_pos (by rfl)]
            refine ⟨.bool false, fun W hW => quiet_ok ?_, hK _ ?_⟩
            · have q := HX.out W hW
              obtain ⟨⟨m0, m1, m2, m3, m4, m5⟩, _⟩ := q
              have q2 := HCX.out W hW
              obtain ⟨k0, k1⟩ := q2
              have q4 := HH.out W hW
              obtain ⟨h0, h1, h2, h3⟩ := q4
              go_simp
              all_goals (try omega)
            clear hK K
            simp only [Act.put, aZ48, bZ48, cZ48]
            refine wpQuiet_step (fun K hK => ?_)
            rw [if_pos (by rfl)]
            refine ⟨.bool false, fun W hW => quiet_ok ?_, hK _ ?_⟩
            · have q := HX.out W hW
              obtain ⟨⟨m0, m1, m2, m3, m4, m5⟩, _⟩ := q
              have q2 := HCX.out W hW
              obtain ⟨k0, k1⟩ := q2
              have q4 := HH.out W hW
              obtain ⟨h0, h1, h2, h3⟩ := q4
              go_simp
              all_goals (try omega)
            clear hK K
            simp only [Act.put, aZ48, bZ48, cZ48]
            refine wpQuiet_step (fun K hK => ?_)
            rw [if_pos (by rfl)]
            refine ⟨.pointer (some ⟨gx, 3, none⟩), fun W hW => quiet_ok ?_, hK _ ?_⟩
            · have q := HX.out W hW
              obtain ⟨⟨m0, m1, m2, m3, m4, m5⟩, _⟩ := q
              have q2 := HCX.out W hW
              obtain ⟨k0, k1⟩ := q2
              have q4 := HH.out W hW
              obtain ⟨h0, h1, h2, h3⟩ := q4
              go_simp
              all_goals (try omega)
            clear hK K
            simp only [Act.put, aZ48, bZ48, cZ48]
            refine wpQuiet_step (fun K hK => ?_)
            rw [if_pos (by rfl)]
            refine ⟨.slice (some ⟨b2, o2, none⟩) R.length ca, fun W hW => quiet_ok ?_, hK _ ?_⟩
            · have q := HX.out W hW
              obtain ⟨⟨m0, m1, m2, m3, m4, m5⟩, _⟩ := q
              have q2 := HCX.out W hW
              obtain ⟨k0, k1⟩ := q2
              have q4 := HH.out W hW
              obtain ⟨h0, h1, h2, h3⟩ := q4
              go_simp
              all_goals (try omega)
            clear hK K
            simp only [Act.put, aZ48, bZ48, cZ48]
            refine wpQuiet_step (fun K hK => ?_)
            rw [if_pos (by rfl)]
            refine ⟨.pointer (some ⟨b2, o2, none⟩), fun W hW => quiet_ok ?_, hK _ ?_⟩
            · have q := HX.out W hW
              obtain ⟨⟨m0, m1, m2, m3, m4, m5⟩, _⟩ := q
              have q2 := HCX.out W hW
              obtain ⟨k0, k1⟩ := q2
              have q4 := HH.out W hW
              obtain ⟨h0, h1, h2, h3⟩ := q4
              go_simp
              all_goals (try omega)
            clear hK K
            simp only [Act.put, aZ48, bZ48, cZ48]
            refine wpQuiet_step (fun K hK => ?_)
            rw [if_pos (by rfl)]
            refine ⟨.pointer (some ⟨b2, o2 + 1, none⟩), fun W hW => quiet_ok ?_, hK _ ?_⟩
            · have q := HX.out W hW
              obtain ⟨⟨m0, m1, m2, m3, m4, m5⟩, _⟩ := q
              have q2 := HCX.out W hW
              obtain ⟨k0, k1⟩ := q2
              have q4 := HH.out W hW
              obtain ⟨h0, h1, h2, h3⟩ := q4
              go_simp
              all_goals (try omega)
            clear hK K
            simp only [Act.put, aZ48, bZ48, cZ48]
            refine wpQuiet_step (fun K hK => ?_)
            rw [if_pos (by rfl)]
            refine ⟨.int .i64 h.2.1, fun W hW => quiet_ok ?_, hK _ ?_⟩
            · have q := HX.out W hW
              obtain ⟨⟨m0, m1, m2, m3, m4, m5⟩, _⟩ := q
              have q2 := HCX.out W hW
              obtain ⟨k0, k1⟩ := q2
              have q4 := HH.out W hW
              obtain ⟨h0, h1, h2, h3⟩ := q4
              go_simp
              all_goals (try omega)
            clear hK K
            simp only [Act.put, aZ48, bZ48, cZ48]
            refine wpQuiet_step (fun K hK => ?_)
            rw [if_pos (by rfl)]
            refine ⟨.pointer (some ⟨gx, 1, none⟩), fun W hW => quiet_ok ?_, hK _ ?_⟩
            · have q := HX.out W hW
              obtain ⟨⟨m0, m1, m2, m3, m4, m5⟩, _⟩ := q
              have q2 := HCX.out W hW
              obtain ⟨k0, k1⟩ := q2
              have q4 := HH.out W hW
              obtain ⟨h0, h1, h2, h3⟩ := q4
              go_simp
              all_goals (try omega)
            clear hK K
            simp only [Act.put, aZ48, bZ48, cZ48]
            refine wpQuiet_step (fun K hK => ?_)
            rw [if_pos (by rfl)]
            refine ⟨.int .i64 ty, fun W hW => quiet_ok ?_, hK _ ?_⟩
            · have q := HX.out W hW
              obtain ⟨⟨m0, m1, m2, m3, m4, m5⟩, _⟩ := q
              have q2 := HCX.out W hW
              obtain ⟨k0, k1⟩ := q2
              have q4 := HH.out W hW
              obtain ⟨h0, h1, h2, h3⟩ := q4
              go_simp
              all_goals (try omega)
            clear hK K
            simp only [Act.put, aZ48, bZ48, cZ48]
            refine wpQuiet_step (fun K hK => ?_)
            rw [if_pos (by rfl)]
            refine ⟨.bool false, fun W hW => quiet_ok ?_, hK _ ?_⟩
            · have q := HX.out W hW
              obtain ⟨⟨m0, m1, m2, m3, m4, m5⟩, _⟩ := q
              have q2 := HCX.out W hW
              obtain ⟨k0, k1⟩ := q2
              have q4 := HH.out W hW
              obtain ⟨h0, h1, h2, h3⟩ := q4
              go_simp
              all_goals (try omega)
            clear hK K
            simp only [Act.put, aZ48, bZ48, cZ48]
            refine wpQuiet_step (fun K hK => ?_)
            rw [if_pos (by rfl)]
            refine ⟨.bool false, fun W hW => quiet_ok ?_, hK _ ?_⟩
            · have q := HX.out W hW
              obtain ⟨⟨m0, m1, m2, m3, m4, m5⟩, _⟩ := q
              have q2 := HCX.out W hW
              obtain ⟨k0, k1⟩ := q2
              have q4 := HH.out W hW
              obtain ⟨h0, h1, h2, h3⟩ := q4
              go_simp
              all_goals (try omega)
            clear hK K
            simp only [Act.put, aZ48, bZ48, cZ48]
            refine wpQuiet_nil ?_
            intro W2 hW2
            have hbW2 := HBW.out W2 hW2
            have HIW : Hid (Below WB.heap.size WB W2) := HIB.out W2 hW2
            go_wp2_with fail
            go_roundw
            case rel => exact ⟨k + 1, by omega, by go_num, HU, HIW.out⟩
            case measure => simp [intOf]; omega
    · have HF : Hid (r = true) := HALL.out (fun j hj => HA.out j (by omega))
      go_wp2_with fail
      go_ret
      exact ⟨ret_bool HF.out.symm, hb⟩
end Go.Proofs.YtgfiahfoghnpkaaGreatDoor
