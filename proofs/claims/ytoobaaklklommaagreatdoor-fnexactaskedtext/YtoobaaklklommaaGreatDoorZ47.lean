import Derived.Test.YtoobaaklklommaaGreatDoorZ40
import Derived.Test.YtoobaaklklommaaGreatDoorZ46
import Derived.BigQuiet
import Derived.Deep.QuietTactic
namespace Go.Proofs.YtoobaaklklommaaGreatDoor
open Go.RowKit

theorem l16Who_any (c n : Int) (w : World) : Calls Tryz.prog 41 #[.int .i64 c, .int .i64 n] w fun e w' => e = .returned (.bool (whoB c n)) ∧ w' = w := by
  have HA : Hid (whoB c n = (inB c 0 100 && inB n 1 1000)) := rfl
  rw [HA.out]
  have H1 : Hid (∀ W, Calls Tryz.prog 42 #[.int .i64 c, .int .i64 0, .int .i64 100] W fun e w' => e = .returned (.bool (inB c 0 100)) ∧ w' = W) := fun W => l1In_anyY _ _ _ W
  have H2 : Hid (∀ W, Calls Tryz.prog 42 #[.int .i64 n, .int .i64 1, .int .i64 1000] W fun e w' => e = .returned (.bool (inB n 1 1000)) ∧ w' = W) := fun W => l1In_anyY _ _ _ W
  obtain ⟨b1, hb1⟩ : ∃ b, b = inB c 0 100 := ⟨_, rfl⟩
  obtain ⟨b2, hb2⟩ : ∃ b, b = inB n 1 1000 := ⟨_, rfl⟩
  rw [← hb1] at H1 ⊢
  rw [← hb2] at H2 ⊢
  clear hb1 hb2 HA
  go_enter Tryz.func41, Tryz.ntmps41
  go_wp2_with fail
  refine (H1.out _).mono ?_
  rintro e w1 ⟨rfl, rfl⟩
  cases b1 with
  | false =>
    go_wp2_with fail
    go_ret
    exact ⟨rfl, rfl⟩
  | true =>
    go_wp2_with fail
    refine (H2.out _).mono ?_
    rintro e w1 ⟨rfl, rfl⟩
    go_wp2_with fail
    go_ret
    exact ⟨by simp, rfl⟩

set_option linter.unusedVariables false in
set_option maxRecDepth 20000 in
set_option maxHeartbeats 8000000 in
theorem sGoodControl_any (nm : ByteArray) (ct : Int) (v vl : Value) (many : Int) (Q : List (List UInt8 × Int × Int × List UInt8)) (L : List DonT) (w : World) (hr : RRow w v Q) (hd : DonRow w vl L) (hap : nm.size ≤ 1048576) (hl : Q.length ≤ 1048576) (hx : Hid (∀ x ∈ Q, x.1.length ≤ 1048576 ∧ x.2.2.2.length ≤ 1048576)) :
    Calls Tryz.prog 10 #[CtlV nm ct v vl many] w fun e w' => e = .returned (.bool (ctlB nm.data.toList ct Q L many)) ∧ Below w.heap.size w w' := by
  unfold CtlV
  have HZ : Hid (∀ W, Below w.heap.size w W → Calls Tryz.prog 44 #[.agg #[.string nm, .int .i64 ct, v]] W fun e w' => e = .returned (.bool (zoneB nm.data.toList ct Q)) ∧ Below W.heap.size W w') := fun W hW => sGoodZone_any nm ct v Q W (hr.kept hW) hap hl hx
  have HM : Hid (∀ W, Calls Tryz.prog 42 #[.int .i64 many, .int .i64 0, .int .i64 1000000] W fun e w' => e = .returned (.bool (inB many 0 1000000)) ∧ w' = W) := fun W => l1In_anyY _ _ _ W
  obtain ⟨aq, capq, rfl, _⟩ := id hr
  obtain ⟨a, cap, rfl, hcap, hmax, HROW⟩ := don_value hd
  have HALL : Hid (okB L L.length = true → ctlB nm.data.toList ct Q L many = (zoneB nm.data.toList ct Q && inB many 0 1000000 && decide (L.length ≤ 8))) := fun h => by
    unfold ctlB lastB
    rw [h, Bool.and_true, Bool.and_assoc, Bool.and_assoc, Bool.and_comm (decide _)]
  have HFAL : Hid (okB L L.length = false → false = ctlB nm.data.toList ct Q L many) := fun h => by
    unfold ctlB lastB
    rw [h, Bool.and_false, Bool.and_false, Bool.false_and]
  obtain ⟨r, hrr⟩ : ∃ r, r = ctlB nm.data.toList ct Q L many := ⟨_, rfl⟩
  rw [← hrr] at HALL HFAL ⊢
  obtain ⟨W0, hW0⟩ : ∃ W0, W0 = w.alloc (.cells #[.string nm, .int .i64 ct, .slice aq Q.length capq, .slice a L.length cap, .int .i64 many] 35) := ⟨_, rfl⟩
  have HW0 : Hid (w.alloc (.cells #[.string nm, .int .i64 ct, .slice aq Q.length capq, .slice a L.length cap, .int .i64 many] 35) = W0) := hW0.symm
  have hb0 : Below w.heap.size w W0 := by rw [hW0]; exact (Below.refl _ _).alloc (Nat.le_refl _) _
  have hz0 : w.heap.size < W0.heap.size := by rw [hW0]; simp
  have hx0 : W0.heap[w.heap.size]? = some (.cells #[.string nm, .int .i64 ct, .slice aq Q.length capq, .slice a L.length cap, .int .i64 many] 35) := by rw [hW0]; exact blk_new _ _
  have HC : Hid (∀ W, Below W0.heap.size W0 W → (W.cell? ⟨w.heap.size, 0, none⟩ = some (.string nm) ∧ W.cell? ⟨w.heap.size, 1, none⟩ = some (.int .i64 ct) ∧ W.cell? ⟨w.heap.size, 2, none⟩ = some (.slice aq Q.length capq) ∧ W.cell? ⟨w.heap.size, 3, none⟩ = some (.slice a L.length cap) ∧ W.cell? ⟨w.heap.size, 4, none⟩ = some (.int .i64 many))) := fun W hW => (ctl_cells ((hW.block _ hz0).trans hx0)).1
  clear hrr hr hd hW0 hx0 hz0
  obtain ⟨k0, k1, k2, k3, k4⟩ := HC.out W0 (Below.refl _ _)
  go_enter Tryz.func10, Tryz.ntmps10
  go_wp2_with (rw [HW0.out])
  clear k0 k1 k2 k3 k4
  go_loopw [8] (fun i wr => ∃ k : Nat, k ≤ L.length ∧ i = .int .i64 (k : Int) ∧ Hid (okB L k = true) ∧ (Below w.heap.size w wr ∧ Below W0.heap.size W0 wr)) (fun i _ => L.length - (intOf i).toNat)
  case atStart => exact ⟨0, Nat.zero_le _, rfl, rfl, hb0, Below.refl _ _⟩
  case round =>
    obtain ⟨k, hk, rfl, HA, hb⟩ := hrel
    by_cases hlt : k < L.length
    · obtain ⟨b, o, ha, hbl, hcel⟩ := HROW.out (by omega)
      subst ha
      have hx1 := (hcel k hlt).kept hb.1
      obtain ⟨x, hxe⟩ : ∃ x, x = L[k]'hlt := ⟨_, rfl⟩
      rw [← hxe] at hx1
      obtain ⟨c0, c1, c2, c3⟩ := hx1.cells
      obtain ⟨W1, hW1⟩ : ∃ W1, W1 = wr.alloc (.cells #[.int .i64 x.1, .int .i64 x.2.1, .int .i64 x.2.2.1, .int .i64 x.2.2.2] 44) := ⟨_, rfl⟩
      have HW1 : Hid (wr.alloc (.cells #[.int .i64 x.1, .int .i64 x.2.1, .int .i64 x.2.2.1, .int .i64 x.2.2.2] 44) = W1) := hW1.symm
      have hb1 : Below wr.heap.size wr W1 := by rw [hW1]; exact (Below.refl _ _).alloc (Nat.le_refl _) _
      have hxb : W1.heap[wr.heap.size]? = some (.cells #[.int .i64 x.1, .int .i64 x.2.1, .int .i64 x.2.2.1, .int .i64 x.2.2.2] 44) := by rw [hW1]; exact blk_new _ _
      have hz1 : wr.heap.size < W1.heap.size := by rw [hW1]; simp
      obtain ⟨y, hy⟩ : ∃ y : Int, y = (L.getD (k - 1) zD).1 := ⟨_, rfl⟩
      have hyc : 0 < k → wr.cell? ⟨b, o + (k - 1) * 4, none⟩ = some (.int .i64 y) := fun hp => by
        have h9 := (((hcel (k - 1) (by omega)).kept hb.1).cells).1
        rw [hy, getD_d (by omega)]; exact h9
      have hrow1 : b < wr.heap.size := Nat.lt_of_lt_of_le hbl hb.1.size
      have HX : Hid (∀ W, Below W1.heap.size W1 W → (W.cell? ⟨wr.heap.size, 0, none⟩ = some (.int .i64 x.1) ∧ W.cell? ⟨wr.heap.size, 1, none⟩ = some (.int .i64 x.2.1) ∧ W.cell? ⟨wr.heap.size, 2, none⟩ = some (.int .i64 x.2.2.1) ∧ W.cell? ⟨wr.heap.size, 3, none⟩ = some (.int .i64 x.2.2.2)) ∧ (W.cell? ⟨w.heap.size, 3, none⟩ = some (.slice (some ⟨b, o, none⟩) L.length cap)) ∧ (Below w.heap.size w W ∧ Below W0.heap.size W0 W)) := fun W hW => ⟨don_cells ((hW.block _ hz1).trans hxb), (HC.out W (hb.2.trans ((hb1.trans (hW.mono hb1.size)).mono hb.2.size))).2.2.2.1, ⟨hb.1.trans ((hb1.trans (hW.mono hb1.size)).mono hb.1.size), hb.2.trans ((hb1.trans (hW.mono hb1.size)).mono hb.2.size)⟩⟩
      have HYY : Hid (∀ k1 : Nat, k = k1 + 1 → ∀ W, Below W1.heap.size W1 W → W.cell? ⟨b, o + k1 * 4, none⟩ = some (.int .i64 y)) := fun k1 e W hW => by
        have h9 := hyc (by omega)
        rw [show k - 1 = k1 by omega] at h9
        rw [hW.cell (p := ⟨b, o + k1 * 4, none⟩) (Nat.lt_of_lt_of_le hrow1 hb1.size), hb1.cell (p := ⟨b, o + k1 * 4, none⟩) hrow1]
        exact h9
      have HTR : Hid (∀ W W', Below W1.heap.size W1 W → Below W.heap.size W W' → Below W1.heap.size W1 W') := fun W W' h1 h2 => h1.trans (h2.mono h1.size)
      have hbd : Below W1.heap.size W1 W1.drew := (Below.refl _ _).drew
      have HWH : Hid (∀ W, Calls Tryz.prog 41 #[.int .i64 x.1, .int .i64 x.2.1] W fun e w' => e = .returned (.bool (whoB x.1 x.2.1)) ∧ Below W.heap.size W w') := fun W => (l16Who_any _ _ W).mono fun e w' h => ⟨h.1, by rw [h.2]; exact Below.refl _ _⟩
      have HCO : Hid (∀ W, Calls Tryz.prog 42 #[.int .i64 x.2.2.1, .int .i64 0, .int .i64 4] W fun e w' => e = .returned (.bool (inB x.2.2.1 0 4)) ∧ Below W.heap.size W w') := fun W => (l1In_anyY _ _ _ W).mono fun e w' h => ⟨h.1, by rw [h.2]; exact Below.refl _ _⟩
      have HSE : Hid (∀ W, Calls Tryz.prog 43 #[.int .i64 x.2.2.2] W fun e w' => e = .returned (.bool (serB x.2.2.2)) ∧ Below W.heap.size W w') := fun W => (l5Serial_any _ W).mono fun e w' h => ⟨h.1, by rw [h.2]; exact Below.refl _ _⟩
      have HBAD : Hid (donB x = false → okB L L.length = false) := fun h => okB_no (rowOk_bad hlt (by rw [← hxe]; exact h)) _ hlt
      have HZERO : Hid (k = 0 → donB x = true → okB L (k + 1) = true) := fun h hd => by
        subst h
        exact okB_step HA.out (rowOk_zero hlt (by rw [← hxe]; exact hd))
      have HSUC : Hid (0 < k → donB x = true → (x.1 ≤ y → okB L L.length = false) ∧ (¬ x.1 ≤ y → okB L (k + 1) = true)) := fun hp hd => by
        obtain ⟨k1, rfl⟩ : ∃ k1, k = k1 + 1 := ⟨k - 1, by omega⟩
        have h9 := rowOk_succ hlt (by rw [← hxe]; exact hd)
        rw [Nat.add_sub_cancel] at hy
        rw [getD_d (by omega)] at hy
        rw [← hxe, ← hy] at h9
        refine ⟨fun h => okB_no (k := k1 + 1) (by rw [h9]; simp; omega) _ hlt, fun h => okB_step HA.out (by rw [h9]; simp; omega)⟩
      have hki : (k : Int) < (L.length : Int) := by omega
      have hkb : k ≤ 9223372036854775806 := by omega
      clear hcel hxe hx1 hW1 hxb hz1 hy hyc hrow1 hb1 HA hlt
      go_wp2_with (rw [HW1.out])
      clear c0 c1 c2 c3
      cases h1 : whoB x.1 x.2.1 with
      | false =>
        have HR : Hid (okB L L.length = false) := HBAD.out (by unfold donB; rw [h1]; rfl)
        rw [h1] at HWH
        clear HBAD HZERO HSUC h1
        obtain ⟨u19, hu19⟩ : ∃ u : Bool, u = true := ⟨_, rfl⟩
        have HU19 : Hid (u19 = true) := hu19
        clear hu19
        obtain ⟨u25, hu25⟩ : ∃ u : Bool, u = true := ⟨_, rfl⟩
        have HU25 : Hid (u25 = true) := hu25
        clear hu25
        obtain ⟨u31, hu31⟩ : ∃ u : Bool, u = true := ⟨_, rfl⟩
        have HU31 : Hid (u31 = true) := hu31
        clear hu31
        refine wp_region_quiet (C := fun W => Below W1.heap.size W1 W) (by kernel_rfl) (by kernel_rfl) hbd ?_
        refine wpQuiet_step (fun K hK => ?_)
        rw [if_pos (by rfl)]
        refine ⟨.pointer (some ⟨wr.heap.size, 0, none⟩), fun W hW => quiet_ok ?_, hK _ ?_⟩
        · have q := HX.out W hW
          obtain ⟨⟨m0, m1, m2, m3⟩, z0, _⟩ := q
          go_simp
          all_goals (try omega)
        clear hK K
        simp only [Act.put, List.setIfInBounds_toArray, List.set_cons_succ, List.set_cons_zero]
        refine wpQuiet_step (fun K hK => ?_)
        rw [if_pos (by rfl)]
        refine ⟨.int .i64 x.1, fun W hW => quiet_ok ?_, hK _ ?_⟩
        · have q := HX.out W hW
          obtain ⟨⟨m0, m1, m2, m3⟩, z0, _⟩ := q
          go_simp
          all_goals (try omega)
        clear hK K
        simp only [Act.put, List.setIfInBounds_toArray, List.set_cons_succ, List.set_cons_zero]
        refine wpQuiet_step (fun K hK => ?_)
        rw [if_pos (by rfl)]
        refine ⟨.pointer (some ⟨wr.heap.size, 1, none⟩), fun W hW => quiet_ok ?_, hK _ ?_⟩
        · have q := HX.out W hW
          obtain ⟨⟨m0, m1, m2, m3⟩, z0, _⟩ := q
          go_simp
          all_goals (try omega)
        clear hK K
        simp only [Act.put, List.setIfInBounds_toArray, List.set_cons_succ, List.set_cons_zero]
        refine wpQuiet_step (fun K hK => ?_)
        rw [if_pos (by rfl)]
        refine ⟨.int .i64 x.2.1, fun W hW => quiet_ok ?_, hK _ ?_⟩
        · have q := HX.out W hW
          obtain ⟨⟨m0, m1, m2, m3⟩, z0, _⟩ := q
          go_simp
          all_goals (try omega)
        clear hK K
        simp only [Act.put, List.setIfInBounds_toArray, List.set_cons_succ, List.set_cons_zero]
        refine wpQuiet_step (fun K hK => ?_)
        rw [if_pos (by rfl)]
        refine ⟨.bool false, fun W hW => quiet_call (f := 41) (args := #[.int .i64 x.1, .int .i64 x.2.1]) ?_ ?_, hK _ ?_⟩
        · go_simp
        · exact (HWH.out W).mono fun e w'' h => ⟨h.1, HTR.out _ _ hW h.2⟩
        clear hK K
        simp only [Act.put, List.setIfInBounds_toArray, List.set_cons_succ, List.set_cons_zero]
        refine wpQuiet_step (fun K hK => ?_)
        rw [if_pos (by rfl)]
        refine ⟨.bool true, fun W hW => quiet_ok ?_, hK _ ?_⟩
        · have q := HX.out W hW
          obtain ⟨⟨m0, m1, m2, m3⟩, z0, _⟩ := q
          go_simp
          all_goals (try omega)
        clear hK K
        simp only [Act.put, List.setIfInBounds_toArray, List.set_cons_succ, List.set_cons_zero]
        refine wpQuiet_step (fun K hK => ?_)
        rw [if_pos (by rfl)]
        refine ⟨.bool u19, fun W hW => quiet_ok ?_, hK _ ?_⟩
        · have q := HX.out W hW
          obtain ⟨⟨m0, m1, m2, m3⟩, z0, _⟩ := q
          have v19 := HU19.out
          go_simp
          all_goals (try omega)
        clear hK K
        simp only [Act.put, List.setIfInBounds_toArray, List.set_cons_succ, List.set_cons_zero]
        refine BigFrame.wpQuiet_skip (by show (some u19 == some false) = false; rw [HU19.out]; rfl) ?_
        simp only [Act.put, List.setIfInBounds_toArray, List.set_cons_succ, List.set_cons_zero]
        refine BigFrame.wpQuiet_skip (by show (some u19 == some false) = false; rw [HU19.out]; rfl) ?_
        simp only [Act.put, List.setIfInBounds_toArray, List.set_cons_succ, List.set_cons_zero]
        refine BigFrame.wpQuiet_skip (by show (some u19 == some false) = false; rw [HU19.out]; rfl) ?_
        simp only [Act.put, List.setIfInBounds_toArray, List.set_cons_succ, List.set_cons_zero]
        refine BigFrame.wpQuiet_skip (by show (some u19 == some false) = false; rw [HU19.out]; rfl) ?_
        simp only [Act.put, List.setIfInBounds_toArray, List.set_cons_succ, List.set_cons_zero]
        refine wpQuiet_step (fun K hK => ?_)
        rw [if_pos (by rfl)]
        refine ⟨.bool true, fun W hW => quiet_ok ?_, hK _ ?_⟩
        · have q := HX.out W hW
          obtain ⟨⟨m0, m1, m2, m3⟩, z0, _⟩ := q
          have v19 := HU19.out
          go_simp
          all_goals (try omega)
        clear hK K
        simp only [Act.put, List.setIfInBounds_toArray, List.set_cons_succ, List.set_cons_zero]
        refine wpQuiet_step (fun K hK => ?_)
        rw [if_pos (by rfl)]
        refine ⟨.bool u25, fun W hW => quiet_ok ?_, hK _ ?_⟩
        · have q := HX.out W hW
          obtain ⟨⟨m0, m1, m2, m3⟩, z0, _⟩ := q
          have v19 := HU19.out
          have v25 := HU25.out
          go_simp
          all_goals (try omega)
        clear hK K
        simp only [Act.put, List.setIfInBounds_toArray, List.set_cons_succ, List.set_cons_zero]
        refine BigFrame.wpQuiet_skip (by show (some u25 == some false) = false; rw [HU25.out]; rfl) ?_
        simp only [Act.put, List.setIfInBounds_toArray, List.set_cons_succ, List.set_cons_zero]
        refine BigFrame.wpQuiet_skip (by show (some u25 == some false) = false; rw [HU25.out]; rfl) ?_
        simp only [Act.put, List.setIfInBounds_toArray, List.set_cons_succ, List.set_cons_zero]
        refine BigFrame.wpQuiet_skip (by show (some u25 == some false) = false; rw [HU25.out]; rfl) ?_
        simp only [Act.put, List.setIfInBounds_toArray, List.set_cons_succ, List.set_cons_zero]
        refine BigFrame.wpQuiet_skip (by show (some u25 == some false) = false; rw [HU25.out]; rfl) ?_
        simp only [Act.put, List.setIfInBounds_toArray, List.set_cons_succ, List.set_cons_zero]
        refine wpQuiet_step (fun K hK => ?_)
        rw [if_pos (by rfl)]
        refine ⟨.bool true, fun W hW => quiet_ok ?_, hK _ ?_⟩
        · have q := HX.out W hW
          obtain ⟨⟨m0, m1, m2, m3⟩, z0, _⟩ := q
          have v19 := HU19.out
          have v25 := HU25.out
          go_simp
          all_goals (try omega)
        clear hK K
        simp only [Act.put, List.setIfInBounds_toArray, List.set_cons_succ, List.set_cons_zero]
        refine wpQuiet_step (fun K hK => ?_)
        rw [if_pos (by rfl)]
        refine ⟨.bool u31, fun W hW => quiet_ok ?_, hK _ ?_⟩
        · have q := HX.out W hW
          obtain ⟨⟨m0, m1, m2, m3⟩, z0, _⟩ := q
          have v19 := HU19.out
          have v25 := HU25.out
          have v31 := HU31.out
          go_simp
          all_goals (try omega)
        clear hK K
        simp only [Act.put, List.setIfInBounds_toArray, List.set_cons_succ, List.set_cons_zero]
        refine BigFrame.wpQuiet_skip (by show (some u31 == some false) = false; rw [HU31.out]; rfl) ?_
        simp only [Act.put, List.setIfInBounds_toArray, List.set_cons_succ, List.set_cons_zero]
        refine BigFrame.wpQuiet_skip (by show (some u31 == some false) = false; rw [HU31.out]; rfl) ?_
        simp only [Act.put, List.setIfInBounds_toArray, List.set_cons_succ, List.set_cons_zero]
        refine BigFrame.wpQuiet_skip (by show (some u31 == some false) = false; rw [HU31.out]; rfl) ?_
        simp only [Act.put, List.setIfInBounds_toArray, List.set_cons_succ, List.set_cons_zero]
        generalize hund : (undef : Value) = un
        refine BigFrame.wpQuiet_skip (by rw [← hund]; rfl) ?_
        simp only [Act.put, List.setIfInBounds_toArray, List.set_cons_succ, List.set_cons_zero]
        refine BigFrame.wpQuiet_skip (by rw [← hund]; rfl) ?_
        simp only [Act.put, List.setIfInBounds_toArray, List.set_cons_succ, List.set_cons_zero]
        refine BigFrame.wpQuiet_skip (by rw [← hund]; rfl) ?_
        simp only [Act.put, List.setIfInBounds_toArray, List.set_cons_succ, List.set_cons_zero]
        refine BigFrame.wpQuiet_skip (by rw [← hund]; rfl) ?_
        simp only [Act.put, List.setIfInBounds_toArray, List.set_cons_succ, List.set_cons_zero]
        refine BigFrame.wpQuiet_skip (by rw [← hund]; rfl) ?_
        simp only [Act.put, List.setIfInBounds_toArray, List.set_cons_succ, List.set_cons_zero]
        refine BigFrame.wpQuiet_skip (by rw [← hund]; rfl) ?_
        simp only [Act.put, List.setIfInBounds_toArray, List.set_cons_succ, List.set_cons_zero]
        refine BigFrame.wpQuiet_skip (by rw [← hund]; rfl) ?_
        simp only [Act.put, List.setIfInBounds_toArray, List.set_cons_succ, List.set_cons_zero]
        refine BigFrame.wpQuiet_skip (by rw [← hund]; rfl) ?_
        simp only [Act.put, List.setIfInBounds_toArray, List.set_cons_succ, List.set_cons_zero]
        refine BigFrame.wpQuiet_skip (by rw [← hund]; rfl) ?_
        simp only [Act.put, List.setIfInBounds_toArray, List.set_cons_succ, List.set_cons_zero]
        refine BigFrame.wpQuiet_skip (by rw [← hund]; rfl) ?_
        simp only [Act.put, List.setIfInBounds_toArray, List.set_cons_succ, List.set_cons_zero]
        refine BigFrame.wpQuiet_skip (by show (some u31 == some false) = false; rw [HU31.out]; rfl) ?_
        simp only [Act.put, List.setIfInBounds_toArray, List.set_cons_succ, List.set_cons_zero]
        refine wpQuiet_step (fun K hK => ?_)
        rw [if_pos (by rfl)]
        refine ⟨.bool true, fun W hW => quiet_ok ?_, hK _ ?_⟩
        · have q := HX.out W hW
          obtain ⟨⟨m0, m1, m2, m3⟩, z0, _⟩ := q
          have v19 := HU19.out
          have v25 := HU25.out
          have v31 := HU31.out
          go_simp
          all_goals (try omega)
        clear hK K
        simp only [Act.put, List.setIfInBounds_toArray, List.set_cons_succ, List.set_cons_zero]
        subst hund
        refine wpQuiet_nil ?_
        intro W hW
        have hbW := (HX.out W hW).2.2
        go_wp2_with fail
        go_ret
        exact ⟨ret_bool (HFAL.out HR.out), hbW.1⟩
      | true =>
        rw [h1] at HWH
        cases h2 : inB x.2.2.1 0 4 with
        | false =>
          have HR : Hid (okB L L.length = false) := HBAD.out (by unfold donB; rw [h1, h2]; rfl)
          rw [h2] at HCO
          clear HBAD HZERO HSUC h1 h2
          obtain ⟨u25, hu25⟩ : ∃ u : Bool, u = true := ⟨_, rfl⟩
          have HU25 : Hid (u25 = true) := hu25
          clear hu25
          obtain ⟨u31, hu31⟩ : ∃ u : Bool, u = true := ⟨_, rfl⟩
          have HU31 : Hid (u31 = true) := hu31
          clear hu31
          refine wp_region_quiet (C := fun W => Below W1.heap.size W1 W) (by kernel_rfl) (by kernel_rfl) hbd ?_
          refine wpQuiet_step (fun K hK => ?_)
          rw [if_pos (by rfl)]
          refine ⟨.pointer (some ⟨wr.heap.size, 0, none⟩), fun W hW => quiet_ok ?_, hK _ ?_⟩
          · have q := HX.out W hW
            obtain ⟨⟨m0, m1, m2, m3⟩, z0, _⟩ := q
            go_simp
            all_goals (try omega)
          clear hK K
          simp only [Act.put, List.setIfInBounds_toArray, List.set_cons_succ, List.set_cons_zero]
          refine wpQuiet_step (fun K hK => ?_)
          rw [if_pos (by rfl)]
          refine ⟨.int .i64 x.1, fun W hW => quiet_ok ?_, hK _ ?_⟩
          · have q := HX.out W hW
            obtain ⟨⟨m0, m1, m2, m3⟩, z0, _⟩ := q
            go_simp
            all_goals (try omega)
          clear hK K
          simp only [Act.put, List.setIfInBounds_toArray, List.set_cons_succ, List.set_cons_zero]
          refine wpQuiet_step (fun K hK => ?_)
          rw [if_pos (by rfl)]
          refine ⟨.pointer (some ⟨wr.heap.size, 1, none⟩), fun W hW => quiet_ok ?_, hK _ ?_⟩
          · have q := HX.out W hW
            obtain ⟨⟨m0, m1, m2, m3⟩, z0, _⟩ := q
            go_simp
            all_goals (try omega)
          clear hK K
          simp only [Act.put, List.setIfInBounds_toArray, List.set_cons_succ, List.set_cons_zero]
          refine wpQuiet_step (fun K hK => ?_)
          rw [if_pos (by rfl)]
          refine ⟨.int .i64 x.2.1, fun W hW => quiet_ok ?_, hK _ ?_⟩
          · have q := HX.out W hW
            obtain ⟨⟨m0, m1, m2, m3⟩, z0, _⟩ := q
            go_simp
            all_goals (try omega)
          clear hK K
          simp only [Act.put, List.setIfInBounds_toArray, List.set_cons_succ, List.set_cons_zero]
          refine wpQuiet_step (fun K hK => ?_)
          rw [if_pos (by rfl)]
          refine ⟨.bool true, fun W hW => quiet_call (f := 41) (args := #[.int .i64 x.1, .int .i64 x.2.1]) ?_ ?_, hK _ ?_⟩
          · go_simp
          · exact (HWH.out W).mono fun e w'' h => ⟨h.1, HTR.out _ _ hW h.2⟩
          clear hK K
          simp only [Act.put, List.setIfInBounds_toArray, List.set_cons_succ, List.set_cons_zero]
          refine wpQuiet_step (fun K hK => ?_)
          rw [if_pos (by rfl)]
          refine ⟨.bool false, fun W hW => quiet_ok ?_, hK _ ?_⟩
          · have q := HX.out W hW
            obtain ⟨⟨m0, m1, m2, m3⟩, z0, _⟩ := q
            go_simp
            all_goals (try omega)
          clear hK K
          simp only [Act.put, List.setIfInBounds_toArray, List.set_cons_succ, List.set_cons_zero]
          refine wpQuiet_step (fun K hK => ?_)
          rw [if_pos (by rfl)]
          refine ⟨.bool false, fun W hW => quiet_ok ?_, hK _ ?_⟩
          · have q := HX.out W hW
            obtain ⟨⟨m0, m1, m2, m3⟩, z0, _⟩ := q
            go_simp
            all_goals (try omega)
          clear hK K
          simp only [Act.put, List.setIfInBounds_toArray, List.set_cons_succ, List.set_cons_zero]
          refine wpQuiet_step (fun K hK => ?_)
          rw [if_pos (by rfl)]
          refine ⟨.pointer (some ⟨wr.heap.size, 2, none⟩), fun W hW => quiet_ok ?_, hK _ ?_⟩
          · have q := HX.out W hW
            obtain ⟨⟨m0, m1, m2, m3⟩, z0, _⟩ := q
            go_simp
            all_goals (try omega)
          clear hK K
          simp only [Act.put, List.setIfInBounds_toArray, List.set_cons_succ, List.set_cons_zero]
          refine wpQuiet_step (fun K hK => ?_)
          rw [if_pos (by rfl)]
          refine ⟨.int .i64 x.2.2.1, fun W hW => quiet_ok ?_, hK _ ?_⟩
          · have q := HX.out W hW
            obtain ⟨⟨m0, m1, m2, m3⟩, z0, _⟩ := q
            go_simp
            all_goals (try omega)
          clear hK K
          simp only [Act.put, List.setIfInBounds_toArray, List.set_cons_succ, List.set_cons_zero]
          refine wpQuiet_step (fun K hK => ?_)
          rw [if_pos (by rfl)]
          refine ⟨.bool false, fun W hW => quiet_call (f := 42) (args := #[.int .i64 x.2.2.1, .int .i64 0, .int .i64 4]) ?_ ?_, hK _ ?_⟩
          · go_simp
          · exact (HCO.out W).mono fun e w'' h => ⟨h.1, HTR.out _ _ hW h.2⟩
          clear hK K
          simp only [Act.put, List.setIfInBounds_toArray, List.set_cons_succ, List.set_cons_zero]
          refine wpQuiet_step (fun K hK => ?_)
          rw [if_pos (by rfl)]
          refine ⟨.bool true, fun W hW => quiet_ok ?_, hK _ ?_⟩
          · have q := HX.out W hW
            obtain ⟨⟨m0, m1, m2, m3⟩, z0, _⟩ := q
            go_simp
            all_goals (try omega)
          clear hK K
          simp only [Act.put, List.setIfInBounds_toArray, List.set_cons_succ, List.set_cons_zero]
          refine wpQuiet_step (fun K hK => ?_)
          rw [if_pos (by rfl)]
          refine ⟨.bool true, fun W hW => quiet_ok ?_, hK _ ?_⟩
          · have q := HX.out W hW
            obtain ⟨⟨m0, m1, m2, m3⟩, z0, _⟩ := q
            go_simp
            all_goals (try omega)
          clear hK K
          simp only [Act.put, List.setIfInBounds_toArray, List.set_cons_succ, List.set_cons_zero]
          refine wpQuiet_step (fun K hK => ?_)
          rw [if_pos (by rfl)]
          refine ⟨.bool u25, fun W hW => quiet_ok ?_, hK _ ?_⟩
          · have q := HX.out W hW
            obtain ⟨⟨m0, m1, m2, m3⟩, z0, _⟩ := q
            have v25 := HU25.out
            go_simp
            all_goals (try omega)
          clear hK K
          simp only [Act.put, List.setIfInBounds_toArray, List.set_cons_succ, List.set_cons_zero]
          refine BigFrame.wpQuiet_skip (by show (some u25 == some false) = false; rw [HU25.out]; rfl) ?_
          simp only [Act.put, List.setIfInBounds_toArray, List.set_cons_succ, List.set_cons_zero]
          refine BigFrame.wpQuiet_skip (by show (some u25 == some false) = false; rw [HU25.out]; rfl) ?_
          simp only [Act.put, List.setIfInBounds_toArray, List.set_cons_succ, List.set_cons_zero]
          refine BigFrame.wpQuiet_skip (by show (some u25 == some false) = false; rw [HU25.out]; rfl) ?_
          simp only [Act.put, List.setIfInBounds_toArray, List.set_cons_succ, List.set_cons_zero]
          refine BigFrame.wpQuiet_skip (by show (some u25 == some false) = false; rw [HU25.out]; rfl) ?_
          simp only [Act.put, List.setIfInBounds_toArray, List.set_cons_succ, List.set_cons_zero]
          refine wpQuiet_step (fun K hK => ?_)
          rw [if_pos (by rfl)]
          refine ⟨.bool true, fun W hW => quiet_ok ?_, hK _ ?_⟩
          · have q := HX.out W hW
            obtain ⟨⟨m0, m1, m2, m3⟩, z0, _⟩ := q
            have v25 := HU25.out
            go_simp
            all_goals (try omega)
          clear hK K
          simp only [Act.put, List.setIfInBounds_toArray, List.set_cons_succ, List.set_cons_zero]
          refine wpQuiet_step (fun K hK => ?_)
          rw [if_pos (by rfl)]
          refine ⟨.bool u31, fun W hW => quiet_ok ?_, hK _ ?_⟩
          · have q := HX.out W hW
            obtain ⟨⟨m0, m1, m2, m3⟩, z0, _⟩ := q
            have v25 := HU25.out
            have v31 := HU31.out
            go_simp
            all_goals (try omega)
          clear hK K
          simp only [Act.put, List.setIfInBounds_toArray, List.set_cons_succ, List.set_cons_zero]
          refine BigFrame.wpQuiet_skip (by show (some u31 == some false) = false; rw [HU31.out]; rfl) ?_
          simp only [Act.put, List.setIfInBounds_toArray, List.set_cons_succ, List.set_cons_zero]
          refine BigFrame.wpQuiet_skip (by show (some u31 == some false) = false; rw [HU31.out]; rfl) ?_
          simp only [Act.put, List.setIfInBounds_toArray, List.set_cons_succ, List.set_cons_zero]
          refine BigFrame.wpQuiet_skip (by show (some u31 == some false) = false; rw [HU31.out]; rfl) ?_
          simp only [Act.put, List.setIfInBounds_toArray, List.set_cons_succ, List.set_cons_zero]
          generalize hund : (undef : Value) = un
          refine BigFrame.wpQuiet_skip (by rw [← hund]; rfl) ?_
          simp only [Act.put, List.setIfInBounds_toArray, List.set_cons_succ, List.set_cons_zero]
          refine BigFrame.wpQuiet_skip (by rw [← hund]; rfl) ?_
          simp only [Act.put, List.setIfInBounds_toArray, List.set_cons_succ, List.set_cons_zero]
          refine BigFrame.wpQuiet_skip (by rw [← hund]; rfl) ?_
          simp only [Act.put, List.setIfInBounds_toArray, List.set_cons_succ, List.set_cons_zero]
          refine BigFrame.wpQuiet_skip (by rw [← hund]; rfl) ?_
          simp only [Act.put, List.setIfInBounds_toArray, List.set_cons_succ, List.set_cons_zero]
          refine BigFrame.wpQuiet_skip (by rw [← hund]; rfl) ?_
          simp only [Act.put, List.setIfInBounds_toArray, List.set_cons_succ, List.set_cons_zero]
          refine BigFrame.wpQuiet_skip (by rw [← hund]; rfl) ?_
          simp only [Act.put, List.setIfInBounds_toArray, List.set_cons_succ, List.set_cons_zero]
          refine BigFrame.wpQuiet_skip (by rw [← hund]; rfl) ?_
          simp only [Act.put, List.setIfInBounds_toArray, List.set_cons_succ, List.set_cons_zero]
          refine BigFrame.wpQuiet_skip (by rw [← hund]; rfl) ?_
          simp only [Act.put, List.setIfInBounds_toArray, List.set_cons_succ, List.set_cons_zero]
          refine BigFrame.wpQuiet_skip (by rw [← hund]; rfl) ?_
          simp only [Act.put, List.setIfInBounds_toArray, List.set_cons_succ, List.set_cons_zero]
          refine BigFrame.wpQuiet_skip (by rw [← hund]; rfl) ?_
          simp only [Act.put, List.setIfInBounds_toArray, List.set_cons_succ, List.set_cons_zero]
          refine BigFrame.wpQuiet_skip (by show (some u31 == some false) = false; rw [HU31.out]; rfl) ?_
          simp only [Act.put, List.setIfInBounds_toArray, List.set_cons_succ, List.set_cons_zero]
          refine wpQuiet_step (fun K hK => ?_)
          rw [if_pos (by rfl)]
          refine ⟨.bool true, fun W hW => quiet_ok ?_, hK _ ?_⟩
          · have q := HX.out W hW
            obtain ⟨⟨m0, m1, m2, m3⟩, z0, _⟩ := q
            have v25 := HU25.out
            have v31 := HU31.out
            go_simp
            all_goals (try omega)
          clear hK K
          simp only [Act.put, List.setIfInBounds_toArray, List.set_cons_succ, List.set_cons_zero]
          subst hund
          refine wpQuiet_nil ?_
          intro W hW
          have hbW := (HX.out W hW).2.2
          go_wp2_with fail
          go_ret
          exact ⟨ret_bool (HFAL.out HR.out), hbW.1⟩
        | true =>
          rw [h2] at HCO
          cases h3 : serB x.2.2.2 with
          | false =>
            have HR : Hid (okB L L.length = false) := HBAD.out (by unfold donB; rw [h1, h2, h3]; rfl)
            rw [h3] at HSE
            clear HBAD HZERO HSUC h1 h2 h3
            obtain ⟨u31, hu31⟩ : ∃ u : Bool, u = true := ⟨_, rfl⟩
            have HU31 : Hid (u31 = true) := hu31
            clear hu31
            refine wp_region_quiet (C := fun W => Below W1.heap.size W1 W) (by kernel_rfl) (by kernel_rfl) hbd ?_
            refine wpQuiet_step (fun K hK => ?_)
            rw [if_pos (by rfl)]
            refine ⟨.pointer (some ⟨wr.heap.size, 0, none⟩), fun W hW => quiet_ok ?_, hK _ ?_⟩
            · have q := HX.out W hW
              obtain ⟨⟨m0, m1, m2, m3⟩, z0, _⟩ := q
              go_simp
              all_goals (try omega)
            clear hK K
            simp only [Act.put, List.setIfInBounds_toArray, List.set_cons_succ, List.set_cons_zero]
            refine wpQuiet_step (fun K hK => ?_)
            rw [if_pos (by rfl)]
            refine ⟨.int .i64 x.1, fun W hW => quiet_ok ?_, hK _ ?_⟩
            · have q := HX.out W hW
              obtain ⟨⟨m0, m1, m2, m3⟩, z0, _⟩ := q
              go_simp
              all_goals (try omega)
            clear hK K
            simp only [Act.put, List.setIfInBounds_toArray, List.set_cons_succ, List.set_cons_zero]
            refine wpQuiet_step (fun K hK => ?_)
            rw [if_pos (by rfl)]
            refine ⟨.pointer (some ⟨wr.heap.size, 1, none⟩), fun W hW => quiet_ok ?_, hK _ ?_⟩
            · have q := HX.out W hW
              obtain ⟨⟨m0, m1, m2, m3⟩, z0, _⟩ := q
              go_simp
              all_goals (try omega)
            clear hK K
            simp only [Act.put, List.setIfInBounds_toArray, List.set_cons_succ, List.set_cons_zero]
            refine wpQuiet_step (fun K hK => ?_)
            rw [if_pos (by rfl)]
            refine ⟨.int .i64 x.2.1, fun W hW => quiet_ok ?_, hK _ ?_⟩
            · have q := HX.out W hW
              obtain ⟨⟨m0, m1, m2, m3⟩, z0, _⟩ := q
              go_simp
              all_goals (try omega)
            clear hK K
            simp only [Act.put, List.setIfInBounds_toArray, List.set_cons_succ, List.set_cons_zero]
            refine wpQuiet_step (fun K hK => ?_)
            rw [if_pos (by rfl)]
            refine ⟨.bool true, fun W hW => quiet_call (f := 41) (args := #[.int .i64 x.1, .int .i64 x.2.1]) ?_ ?_, hK _ ?_⟩
            · go_simp
            · exact (HWH.out W).mono fun e w'' h => ⟨h.1, HTR.out _ _ hW h.2⟩
            clear hK K
            simp only [Act.put, List.setIfInBounds_toArray, List.set_cons_succ, List.set_cons_zero]
            refine wpQuiet_step (fun K hK => ?_)
            rw [if_pos (by rfl)]
            refine ⟨.bool false, fun W hW => quiet_ok ?_, hK _ ?_⟩
            · have q := HX.out W hW
              obtain ⟨⟨m0, m1, m2, m3⟩, z0, _⟩ := q
              go_simp
              all_goals (try omega)
            clear hK K
            simp only [Act.put, List.setIfInBounds_toArray, List.set_cons_succ, List.set_cons_zero]
            refine wpQuiet_step (fun K hK => ?_)
            rw [if_pos (by rfl)]
            refine ⟨.bool false, fun W hW => quiet_ok ?_, hK _ ?_⟩
            · have q := HX.out W hW
              obtain ⟨⟨m0, m1, m2, m3⟩, z0, _⟩ := q
              go_simp
              all_goals (try omega)
            clear hK K
            simp only [Act.put, List.setIfInBounds_toArray, List.set_cons_succ, List.set_cons_zero]
            refine wpQuiet_step (fun K hK => ?_)
            rw [if_pos (by rfl)]
            refine ⟨.pointer (some ⟨wr.heap.size, 2, none⟩), fun W hW => quiet_ok ?_, hK _ ?_⟩
            · have q := HX.out W hW
              obtain ⟨⟨m0, m1, m2, m3⟩, z0, _⟩ := q
              go_simp
              all_goals (try omega)
            clear hK K
            simp only [Act.put, List.setIfInBounds_toArray, List.set_cons_succ, List.set_cons_zero]
            refine wpQuiet_step (fun K hK => ?_)
            rw [if_pos (by rfl)]
            refine ⟨.int .i64 x.2.2.1, fun W hW => quiet_ok ?_, hK _ ?_⟩
            · have q := HX.out W hW
              obtain ⟨⟨m0, m1, m2, m3⟩, z0, _⟩ := q
              go_simp
              all_goals (try omega)
            clear hK K
            simp only [Act.put, List.setIfInBounds_toArray, List.set_cons_succ, List.set_cons_zero]
            refine wpQuiet_step (fun K hK => ?_)
            rw [if_pos (by rfl)]
            refine ⟨.bool true, fun W hW => quiet_call (f := 42) (args := #[.int .i64 x.2.2.1, .int .i64 0, .int .i64 4]) ?_ ?_, hK _ ?_⟩
            · go_simp
            · exact (HCO.out W).mono fun e w'' h => ⟨h.1, HTR.out _ _ hW h.2⟩
            clear hK K
            simp only [Act.put, List.setIfInBounds_toArray, List.set_cons_succ, List.set_cons_zero]
            refine wpQuiet_step (fun K hK => ?_)
            rw [if_pos (by rfl)]
            refine ⟨.bool false, fun W hW => quiet_ok ?_, hK _ ?_⟩
            · have q := HX.out W hW
              obtain ⟨⟨m0, m1, m2, m3⟩, z0, _⟩ := q
              go_simp
              all_goals (try omega)
            clear hK K
            simp only [Act.put, List.setIfInBounds_toArray, List.set_cons_succ, List.set_cons_zero]
            refine wpQuiet_step (fun K hK => ?_)
            rw [if_pos (by rfl)]
            refine ⟨.bool false, fun W hW => quiet_ok ?_, hK _ ?_⟩
            · have q := HX.out W hW
              obtain ⟨⟨m0, m1, m2, m3⟩, z0, _⟩ := q
              go_simp
              all_goals (try omega)
            clear hK K
            simp only [Act.put, List.setIfInBounds_toArray, List.set_cons_succ, List.set_cons_zero]
            refine wpQuiet_step (fun K hK => ?_)
            rw [if_pos (by rfl)]
            refine ⟨.bool false, fun W hW => quiet_ok ?_, hK _ ?_⟩
            · have q := HX.out W hW
              obtain ⟨⟨m0, m1, m2, m3⟩, z0, _⟩ := q
              go_simp
              all_goals (try omega)
            clear hK K
            simp only [Act.put, List.setIfInBounds_toArray, List.set_cons_succ, List.set_cons_zero]
            refine wpQuiet_step (fun K hK => ?_)
            rw [if_pos (by rfl)]
            refine ⟨.pointer (some ⟨wr.heap.size, 3, none⟩), fun W hW => quiet_ok ?_, hK _ ?_⟩
            · have q := HX.out W hW
              obtain ⟨⟨m0, m1, m2, m3⟩, z0, _⟩ := q
              go_simp
              all_goals (try omega)
            clear hK K
            simp only [Act.put, List.setIfInBounds_toArray, List.set_cons_succ, List.set_cons_zero]
            refine wpQuiet_step (fun K hK => ?_)
            rw [if_pos (by rfl)]
            refine ⟨.int .i64 x.2.2.2, fun W hW => quiet_ok ?_, hK _ ?_⟩
            · have q := HX.out W hW
              obtain ⟨⟨m0, m1, m2, m3⟩, z0, _⟩ := q
              go_simp
              all_goals (try omega)
            clear hK K
            simp only [Act.put, List.setIfInBounds_toArray, List.set_cons_succ, List.set_cons_zero]
            refine wpQuiet_step (fun K hK => ?_)
            rw [if_pos (by rfl)]
            refine ⟨.bool false, fun W hW => quiet_call (f := 43) (args := #[.int .i64 x.2.2.2]) ?_ ?_, hK _ ?_⟩
            · go_simp
            · exact (HSE.out W).mono fun e w'' h => ⟨h.1, HTR.out _ _ hW h.2⟩
            clear hK K
            simp only [Act.put, List.setIfInBounds_toArray, List.set_cons_succ, List.set_cons_zero]
            refine wpQuiet_step (fun K hK => ?_)
            rw [if_pos (by rfl)]
            refine ⟨.bool true, fun W hW => quiet_ok ?_, hK _ ?_⟩
            · have q := HX.out W hW
              obtain ⟨⟨m0, m1, m2, m3⟩, z0, _⟩ := q
              go_simp
              all_goals (try omega)
            clear hK K
            simp only [Act.put, List.setIfInBounds_toArray, List.set_cons_succ, List.set_cons_zero]
            refine wpQuiet_step (fun K hK => ?_)
            rw [if_pos (by rfl)]
            refine ⟨.bool true, fun W hW => quiet_ok ?_, hK _ ?_⟩
            · have q := HX.out W hW
              obtain ⟨⟨m0, m1, m2, m3⟩, z0, _⟩ := q
              go_simp
              all_goals (try omega)
            clear hK K
            simp only [Act.put, List.setIfInBounds_toArray, List.set_cons_succ, List.set_cons_zero]
            refine wpQuiet_step (fun K hK => ?_)
            rw [if_pos (by rfl)]
            refine ⟨.bool u31, fun W hW => quiet_ok ?_, hK _ ?_⟩
            · have q := HX.out W hW
              obtain ⟨⟨m0, m1, m2, m3⟩, z0, _⟩ := q
              have v31 := HU31.out
              go_simp
              all_goals (try omega)
            clear hK K
            simp only [Act.put, List.setIfInBounds_toArray, List.set_cons_succ, List.set_cons_zero]
            refine BigFrame.wpQuiet_skip (by show (some u31 == some false) = false; rw [HU31.out]; rfl) ?_
            simp only [Act.put, List.setIfInBounds_toArray, List.set_cons_succ, List.set_cons_zero]
            refine BigFrame.wpQuiet_skip (by show (some u31 == some false) = false; rw [HU31.out]; rfl) ?_
            simp only [Act.put, List.setIfInBounds_toArray, List.set_cons_succ, List.set_cons_zero]
            refine BigFrame.wpQuiet_skip (by show (some u31 == some false) = false; rw [HU31.out]; rfl) ?_
            simp only [Act.put, List.setIfInBounds_toArray, List.set_cons_succ, List.set_cons_zero]
            generalize hund : (undef : Value) = un
            refine BigFrame.wpQuiet_skip (by rw [← hund]; rfl) ?_
            simp only [Act.put, List.setIfInBounds_toArray, List.set_cons_succ, List.set_cons_zero]
            refine BigFrame.wpQuiet_skip (by rw [← hund]; rfl) ?_
            simp only [Act.put, List.setIfInBounds_toArray, List.set_cons_succ, List.set_cons_zero]
            refine BigFrame.wpQuiet_skip (by rw [← hund]; rfl) ?_
            simp only [Act.put, List.setIfInBounds_toArray, List.set_cons_succ, List.set_cons_zero]
            refine BigFrame.wpQuiet_skip (by rw [← hund]; rfl) ?_
            simp only [Act.put, List.setIfInBounds_toArray, List.set_cons_succ, List.set_cons_zero]
            refine BigFrame.wpQuiet_skip (by rw [← hund]; rfl) ?_
            simp only [Act.put, List.setIfInBounds_toArray, List.set_cons_succ, List.set_cons_zero]
            refine BigFrame.wpQuiet_skip (by rw [← hund]; rfl) ?_
            simp only [Act.put, List.setIfInBounds_toArray, List.set_cons_succ, List.set_cons_zero]
            refine BigFrame.wpQuiet_skip (by rw [← hund]; rfl) ?_
            simp only [Act.put, List.setIfInBounds_toArray, List.set_cons_succ, List.set_cons_zero]
            refine BigFrame.wpQuiet_skip (by rw [← hund]; rfl) ?_
            simp only [Act.put, List.setIfInBounds_toArray, List.set_cons_succ, List.set_cons_zero]
            refine BigFrame.wpQuiet_skip (by rw [← hund]; rfl) ?_
            simp only [Act.put, List.setIfInBounds_toArray, List.set_cons_succ, List.set_cons_zero]
            refine BigFrame.wpQuiet_skip (by rw [← hund]; rfl) ?_
            simp only [Act.put, List.setIfInBounds_toArray, List.set_cons_succ, List.set_cons_zero]
            refine BigFrame.wpQuiet_skip (by show (some u31 == some false) = false; rw [HU31.out]; rfl) ?_
            simp only [Act.put, List.setIfInBounds_toArray, List.set_cons_succ, List.set_cons_zero]
            refine wpQuiet_step (fun K hK => ?_)
            rw [if_pos (by rfl)]
            refine ⟨.bool true, fun W hW => quiet_ok ?_, hK _ ?_⟩
            · have q := HX.out W hW
              obtain ⟨⟨m0, m1, m2, m3⟩, z0, _⟩ := q
              have v31 := HU31.out
              go_simp
              all_goals (try omega)
            clear hK K
            simp only [Act.put, List.setIfInBounds_toArray, List.set_cons_succ, List.set_cons_zero]
            subst hund
            refine wpQuiet_nil ?_
            intro W hW
            have hbW := (HX.out W hW).2.2
            go_wp2_with fail
            go_ret
            exact ⟨ret_bool (HFAL.out HR.out), hbW.1⟩
          | true =>
            rw [h3] at HSE
            have hd : donB x = true := by unfold donB; rw [h1, h2, h3]; rfl
            clear h1 h2 h3
            by_cases h0 : k = 0
            · have HR : Hid (okB L (k + 1) = true) := HZERO.out h0 hd
              have hk0 : ¬ (0 : Int) < (k : Int) := by omega
              have hk1 : decide ((0 : Int) < (k : Int)) = false := by simp; omega
              clear HBAD HZERO HSUC hd h0 HYY
              obtain ⟨u34, hu34⟩ : ∃ u : Bool, u = false := ⟨_, rfl⟩
              have HU34 : Hid (u34 = false) := hu34
              clear hu34
              refine wp_region_quiet (C := fun W => Below W1.heap.size W1 W) (by kernel_rfl) (by kernel_rfl) hbd ?_
              refine wpQuiet_step (fun K hK => ?_)
              rw [if_pos (by rfl)]
              refine ⟨.pointer (some ⟨wr.heap.size, 0, none⟩), fun W hW => quiet_ok ?_, hK _ ?_⟩
              · have q := HX.out W hW
                obtain ⟨⟨m0, m1, m2, m3⟩, z0, _⟩ := q
                go_simp
                all_goals (try omega)
              clear hK K
              simp only [Act.put, List.setIfInBounds_toArray, List.set_cons_succ, List.set_cons_zero]
              refine wpQuiet_step (fun K hK => ?_)
              rw [if_pos (by rfl)]
              refine ⟨.int .i64 x.1, fun W hW => quiet_ok ?_, hK _ ?_⟩
              · have q := HX.out W hW
                obtain ⟨⟨m0, m1, m2, m3⟩, z0, _⟩ := q
                go_simp
                all_goals (try omega)
              clear hK K
              simp only [Act.put, List.setIfInBounds_toArray, List.set_cons_succ, List.set_cons_zero]
              refine wpQuiet_step (fun K hK => ?_)
              rw [if_pos (by rfl)]
              refine ⟨.pointer (some ⟨wr.heap.size, 1, none⟩), fun W hW => quiet_ok ?_, hK _ ?_⟩
              · have q := HX.out W hW
                obtain ⟨⟨m0, m1, m2, m3⟩, z0, _⟩ := q
                go_simp
                all_goals (try omega)
              clear hK K
              simp only [Act.put, List.setIfInBounds_toArray, List.set_cons_succ, List.set_cons_zero]
              refine wpQuiet_step (fun K hK => ?_)
              rw [if_pos (by rfl)]
              refine ⟨.int .i64 x.2.1, fun W hW => quiet_ok ?_, hK _ ?_⟩
              · have q := HX.out W hW
                obtain ⟨⟨m0, m1, m2, m3⟩, z0, _⟩ := q
                go_simp
                all_goals (try omega)
              clear hK K
              simp only [Act.put, List.setIfInBounds_toArray, List.set_cons_succ, List.set_cons_zero]
              refine wpQuiet_step (fun K hK => ?_)
              rw [if_pos (by rfl)]
              refine ⟨.bool true, fun W hW => quiet_call (f := 41) (args := #[.int .i64 x.1, .int .i64 x.2.1]) ?_ ?_, hK _ ?_⟩
              · go_simp
              · exact (HWH.out W).mono fun e w'' h => ⟨h.1, HTR.out _ _ hW h.2⟩
              clear hK K
              simp only [Act.put, List.setIfInBounds_toArray, List.set_cons_succ, List.set_cons_zero]
              refine wpQuiet_step (fun K hK => ?_)
              rw [if_pos (by rfl)]
              refine ⟨.bool false, fun W hW => quiet_ok ?_, hK _ ?_⟩
              · have q := HX.out W hW
                obtain ⟨⟨m0, m1, m2, m3⟩, z0, _⟩ := q
                go_simp
                all_goals (try omega)
              clear hK K
              simp only [Act.put, List.setIfInBounds_toArray, List.set_cons_succ, List.set_cons_zero]
              refine wpQuiet_step (fun K hK => ?_)
              rw [if_pos (by rfl)]
              refine ⟨.bool false, fun W hW => quiet_ok ?_, hK _ ?_⟩
              · have q := HX.out W hW
                obtain ⟨⟨m0, m1, m2, m3⟩, z0, _⟩ := q
                go_simp
                all_goals (try omega)
              clear hK K
              simp only [Act.put, List.setIfInBounds_toArray, List.set_cons_succ, List.set_cons_zero]
              refine wpQuiet_step (fun K hK => ?_)
              rw [if_pos (by rfl)]
              refine ⟨.pointer (some ⟨wr.heap.size, 2, none⟩), fun W hW => quiet_ok ?_, hK _ ?_⟩
              · have q := HX.out W hW
                obtain ⟨⟨m0, m1, m2, m3⟩, z0, _⟩ := q
                go_simp
                all_goals (try omega)
              clear hK K
              simp only [Act.put, List.setIfInBounds_toArray, List.set_cons_succ, List.set_cons_zero]
              refine wpQuiet_step (fun K hK => ?_)
              rw [if_pos (by rfl)]
              refine ⟨.int .i64 x.2.2.1, fun W hW => quiet_ok ?_, hK _ ?_⟩
              · have q := HX.out W hW
                obtain ⟨⟨m0, m1, m2, m3⟩, z0, _⟩ := q
                go_simp
                all_goals (try omega)
              clear hK K
              simp only [Act.put, List.setIfInBounds_toArray, List.set_cons_succ, List.set_cons_zero]
              refine wpQuiet_step (fun K hK => ?_)
              rw [if_pos (by rfl)]
              refine ⟨.bool true, fun W hW => quiet_call (f := 42) (args := #[.int .i64 x.2.2.1, .int .i64 0, .int .i64 4]) ?_ ?_, hK _ ?_⟩
              · go_simp
              · exact (HCO.out W).mono fun e w'' h => ⟨h.1, HTR.out _ _ hW h.2⟩
              clear hK K
              simp only [Act.put, List.setIfInBounds_toArray, List.set_cons_succ, List.set_cons_zero]
              refine wpQuiet_step (fun K hK => ?_)
              rw [if_pos (by rfl)]
              refine ⟨.bool false, fun W hW => quiet_ok ?_, hK _ ?_⟩
              · have q := HX.out W hW
                obtain ⟨⟨m0, m1, m2, m3⟩, z0, _⟩ := q
                go_simp
                all_goals (try omega)
              clear hK K
              simp only [Act.put, List.setIfInBounds_toArray, List.set_cons_succ, List.set_cons_zero]
              refine wpQuiet_step (fun K hK => ?_)
              rw [if_pos (by rfl)]
              refine ⟨.bool false, fun W hW => quiet_ok ?_, hK _ ?_⟩
              · have q := HX.out W hW
                obtain ⟨⟨m0, m1, m2, m3⟩, z0, _⟩ := q
                go_simp
                all_goals (try omega)
              clear hK K
              simp only [Act.put, List.setIfInBounds_toArray, List.set_cons_succ, List.set_cons_zero]
              refine wpQuiet_step (fun K hK => ?_)
              rw [if_pos (by rfl)]
              refine ⟨.bool false, fun W hW => quiet_ok ?_, hK _ ?_⟩
              · have q := HX.out W hW
                obtain ⟨⟨m0, m1, m2, m3⟩, z0, _⟩ := q
                go_simp
                all_goals (try omega)
              clear hK K
              simp only [Act.put, List.setIfInBounds_toArray, List.set_cons_succ, List.set_cons_zero]
              refine wpQuiet_step (fun K hK => ?_)
              rw [if_pos (by rfl)]
              refine ⟨.pointer (some ⟨wr.heap.size, 3, none⟩), fun W hW => quiet_ok ?_, hK _ ?_⟩
              · have q := HX.out W hW
                obtain ⟨⟨m0, m1, m2, m3⟩, z0, _⟩ := q
                go_simp
                all_goals (try omega)
              clear hK K
              simp only [Act.put, List.setIfInBounds_toArray, List.set_cons_succ, List.set_cons_zero]
              refine wpQuiet_step (fun K hK => ?_)
              rw [if_pos (by rfl)]
              refine ⟨.int .i64 x.2.2.2, fun W hW => quiet_ok ?_, hK _ ?_⟩
              · have q := HX.out W hW
                obtain ⟨⟨m0, m1, m2, m3⟩, z0, _⟩ := q
                go_simp
                all_goals (try omega)
              clear hK K
              simp only [Act.put, List.setIfInBounds_toArray, List.set_cons_succ, List.set_cons_zero]
              refine wpQuiet_step (fun K hK => ?_)
              rw [if_pos (by rfl)]
              refine ⟨.bool true, fun W hW => quiet_call (f := 43) (args := #[.int .i64 x.2.2.2]) ?_ ?_, hK _ ?_⟩
              · go_simp
              · exact (HSE.out W).mono fun e w'' h => ⟨h.1, HTR.out _ _ hW h.2⟩
              clear hK K
              simp only [Act.put, List.setIfInBounds_toArray, List.set_cons_succ, List.set_cons_zero]
              refine wpQuiet_step (fun K hK => ?_)
              rw [if_pos (by rfl)]
              refine ⟨.bool false, fun W hW => quiet_ok ?_, hK _ ?_⟩
              · have q := HX.out W hW
                obtain ⟨⟨m0, m1, m2, m3⟩, z0, _⟩ := q
                go_simp
                all_goals (try omega)
              clear hK K
              simp only [Act.put, List.setIfInBounds_toArray, List.set_cons_succ, List.set_cons_zero]
              refine wpQuiet_step (fun K hK => ?_)
              rw [if_pos (by rfl)]
              refine ⟨.bool false, fun W hW => quiet_ok ?_, hK _ ?_⟩
              · have q := HX.out W hW
                obtain ⟨⟨m0, m1, m2, m3⟩, z0, _⟩ := q
                go_simp
                all_goals (try omega)
              clear hK K
              simp only [Act.put, List.setIfInBounds_toArray, List.set_cons_succ, List.set_cons_zero]
              refine wpQuiet_step (fun K hK => ?_)
              rw [if_pos (by rfl)]
              refine ⟨.bool false, fun W hW => quiet_ok ?_, hK _ ?_⟩
              · have q := HX.out W hW
                obtain ⟨⟨m0, m1, m2, m3⟩, z0, _⟩ := q
                go_simp
                all_goals (try omega)
              clear hK K
              simp only [Act.put, List.setIfInBounds_toArray, List.set_cons_succ, List.set_cons_zero]
              refine wpQuiet_step (fun K hK => ?_)
              rw [if_pos (by rfl)]
              refine ⟨.int .i64 (k : Int), fun W hW => quiet_ok ?_, hK _ ?_⟩
              · have q := HX.out W hW
                obtain ⟨⟨m0, m1, m2, m3⟩, z0, _⟩ := q
                go_simp
                all_goals (try omega)
              clear hK K
              simp only [Act.put, List.setIfInBounds_toArray, List.set_cons_succ, List.set_cons_zero]
              refine wpQuiet_step (fun K hK => ?_)
              rw [if_pos (by rfl)]
              refine ⟨.bool false, fun W hW => quiet_ok ?_, hK _ ?_⟩
              · have q := HX.out W hW
                obtain ⟨⟨m0, m1, m2, m3⟩, z0, _⟩ := q
                go_simp
                all_goals (try omega)
              clear hK K
              simp only [Act.put, List.setIfInBounds_toArray, List.set_cons_succ, List.set_cons_zero]
              refine wpQuiet_step (fun K hK => ?_)
              rw [if_pos (by rfl)]
              refine ⟨.bool u34, fun W hW => quiet_ok ?_, hK _ ?_⟩
              · have q := HX.out W hW
                obtain ⟨⟨m0, m1, m2, m3⟩, z0, _⟩ := q
                have v34 := HU34.out
                go_simp
                all_goals (try omega)
              clear hK K
              simp only [Act.put, List.setIfInBounds_toArray, List.set_cons_succ, List.set_cons_zero]
              refine BigFrame.wpQuiet_skip (by show (some u34 == some true) = false; rw [HU34.out]; rfl) ?_
              simp only [Act.put, List.setIfInBounds_toArray, List.set_cons_succ, List.set_cons_zero]
              refine BigFrame.wpQuiet_skip (by show (some u34 == some true) = false; rw [HU34.out]; rfl) ?_
              simp only [Act.put, List.setIfInBounds_toArray, List.set_cons_succ, List.set_cons_zero]
              refine BigFrame.wpQuiet_skip (by show (some u34 == some true) = false; rw [HU34.out]; rfl) ?_
              simp only [Act.put, List.setIfInBounds_toArray, List.set_cons_succ, List.set_cons_zero]
              refine BigFrame.wpQuiet_skip (by show (some u34 == some true) = false; rw [HU34.out]; rfl) ?_
              simp only [Act.put, List.setIfInBounds_toArray, List.set_cons_succ, List.set_cons_zero]
              refine BigFrame.wpQuiet_skip (by show (some u34 == some true) = false; rw [HU34.out]; rfl) ?_
              simp only [Act.put, List.setIfInBounds_toArray, List.set_cons_succ, List.set_cons_zero]
              refine BigFrame.wpQuiet_skip (by show (some u34 == some true) = false; rw [HU34.out]; rfl) ?_
              simp only [Act.put, List.setIfInBounds_toArray, List.set_cons_succ, List.set_cons_zero]
              refine BigFrame.wpQuiet_skip (by show (some u34 == some true) = false; rw [HU34.out]; rfl) ?_
              simp only [Act.put, List.setIfInBounds_toArray, List.set_cons_succ, List.set_cons_zero]
              refine BigFrame.wpQuiet_skip (by show (some u34 == some true) = false; rw [HU34.out]; rfl) ?_
              simp only [Act.put, List.setIfInBounds_toArray, List.set_cons_succ, List.set_cons_zero]
              refine BigFrame.wpQuiet_skip (by show (some u34 == some true) = false; rw [HU34.out]; rfl) ?_
              simp only [Act.put, List.setIfInBounds_toArray, List.set_cons_succ, List.set_cons_zero]
              refine BigFrame.wpQuiet_skip (by show (some u34 == some true) = false; rw [HU34.out]; rfl) ?_
              simp only [Act.put, List.setIfInBounds_toArray, List.set_cons_succ, List.set_cons_zero]
              refine wpQuiet_step (fun K hK => ?_)
              rw [if_pos (by rfl)]
              refine ⟨.bool false, fun W hW => quiet_ok ?_, hK _ ?_⟩
              · have q := HX.out W hW
                obtain ⟨⟨m0, m1, m2, m3⟩, z0, _⟩ := q
                have v34 := HU34.out
                go_simp
                all_goals (try omega)
              clear hK K
              simp only [Act.put, List.setIfInBounds_toArray, List.set_cons_succ, List.set_cons_zero]
              refine wpQuiet_step (fun K hK => ?_)
              rw [if_pos (by rfl)]
              refine ⟨.bool false, fun W hW => quiet_ok ?_, hK _ ?_⟩
              · have q := HX.out W hW
                obtain ⟨⟨m0, m1, m2, m3⟩, z0, _⟩ := q
                have v34 := HU34.out
                go_simp
                all_goals (try omega)
              clear hK K
              simp only [Act.put, List.setIfInBounds_toArray, List.set_cons_succ, List.set_cons_zero]
              refine wpQuiet_nil ?_
              intro W hW
              have hbW := (HX.out W hW).2.2
              go_wp2_with fail
              go_roundw
              case rel => exact ⟨k + 1, by omega, by go_num, HR, hbW⟩
              case measure => simp [intOf]; omega
            · obtain ⟨k1, HK1⟩ : ∃ k1, Hid (k = k1 + 1) := ⟨k - 1, by show _ = _; omega⟩
              have hs := HSUC.out (by omega) hd
              have hk1 : decide ((0 : Int) < (k : Int)) = true := by simp; omega
              have hk2 : (0 : Int) < (k : Int) := by omega
              have wk : IntKind.i64.wrap ((k : Int) - 1) = (k1 : Int) := by rw [wrap_small _ (by omega) (by omega)]; have := HK1.out; omega
              have hkk : (k1 : Int) < (L.length : Int) := by have := HK1.out; omega
              have HY : Hid (∀ W, Below W1.heap.size W1 W → W.cell? ⟨b, o + k1 * 4, none⟩ = some (.int .i64 y)) := HYY.out k1 HK1.out
              clear h0 HYY
              by_cases hge : x.1 ≤ y
              · have HR : Hid (okB L L.length = false) := hs.1 hge
                have hde : decide (x.1 ≤ y) = true := by simp; exact hge
                clear HBAD HZERO HSUC hd hs
                refine wp_region_quiet (C := fun W => Below W1.heap.size W1 W) (by kernel_rfl) (by kernel_rfl) hbd ?_
                refine wpQuiet_step (fun K hK => ?_)
                rw [if_pos (by rfl)]
                refine ⟨.pointer (some ⟨wr.heap.size, 0, none⟩), fun W hW => quiet_ok ?_, hK _ ?_⟩
                · have q := HX.out W hW
                  obtain ⟨⟨m0, m1, m2, m3⟩, z0, _⟩ := q
                  have z2 := HY.out W hW
                  go_simp
                  all_goals (try omega)
                clear hK K
                simp only [Act.put, List.setIfInBounds_toArray, List.set_cons_succ, List.set_cons_zero]
                refine wpQuiet_step (fun K hK => ?_)
                rw [if_pos (by rfl)]
                refine ⟨.int .i64 x.1, fun W hW => quiet_ok ?_, hK _ ?_⟩
                · have q := HX.out W hW
                  obtain ⟨⟨m0, m1, m2, m3⟩, z0, _⟩ := q
                  have z2 := HY.out W hW
                  go_simp
                  all_goals (try omega)
                clear hK K
                simp only [Act.put, List.setIfInBounds_toArray, List.set_cons_succ, List.set_cons_zero]
                refine wpQuiet_step (fun K hK => ?_)
                rw [if_pos (by rfl)]
                refine ⟨.pointer (some ⟨wr.heap.size, 1, none⟩), fun W hW => quiet_ok ?_, hK _ ?_⟩
                · have q := HX.out W hW
                  obtain ⟨⟨m0, m1, m2, m3⟩, z0, _⟩ := q
                  have z2 := HY.out W hW
                  go_simp
                  all_goals (try omega)
                clear hK K
                simp only [Act.put, List.setIfInBounds_toArray, List.set_cons_succ, List.set_cons_zero]
                refine wpQuiet_step (fun K hK => ?_)
                rw [if_pos (by rfl)]
                refine ⟨.int .i64 x.2.1, fun W hW => quiet_ok ?_, hK _ ?_⟩
                · have q := HX.out W hW
                  obtain ⟨⟨m0, m1, m2, m3⟩, z0, _⟩ := q
                  have z2 := HY.out W hW
                  go_simp
                  all_goals (try omega)
                clear hK K
                simp only [Act.put, List.setIfInBounds_toArray, List.set_cons_succ, List.set_cons_zero]
                refine wpQuiet_step (fun K hK => ?_)
                rw [if_pos (by rfl)]
                refine ⟨.bool true, fun W hW => quiet_call (f := 41) (args := #[.int .i64 x.1, .int .i64 x.2.1]) ?_ ?_, hK _ ?_⟩
                · go_simp
                · exact (HWH.out W).mono fun e w'' h => ⟨h.1, HTR.out _ _ hW h.2⟩
                clear hK K
                simp only [Act.put, List.setIfInBounds_toArray, List.set_cons_succ, List.set_cons_zero]
                refine wpQuiet_step (fun K hK => ?_)
                rw [if_pos (by rfl)]
                refine ⟨.bool false, fun W hW => quiet_ok ?_, hK _ ?_⟩
                · have q := HX.out W hW
                  obtain ⟨⟨m0, m1, m2, m3⟩, z0, _⟩ := q
                  have z2 := HY.out W hW
                  go_simp
                  all_goals (try omega)
                clear hK K
                simp only [Act.put, List.setIfInBounds_toArray, List.set_cons_succ, List.set_cons_zero]
                refine wpQuiet_step (fun K hK => ?_)
                rw [if_pos (by rfl)]
                refine ⟨.bool false, fun W hW => quiet_ok ?_, hK _ ?_⟩
                · have q := HX.out W hW
                  obtain ⟨⟨m0, m1, m2, m3⟩, z0, _⟩ := q
                  have z2 := HY.out W hW
                  go_simp
                  all_goals (try omega)
                clear hK K
                simp only [Act.put, List.setIfInBounds_toArray, List.set_cons_succ, List.set_cons_zero]
                refine wpQuiet_step (fun K hK => ?_)
                rw [if_pos (by rfl)]
                refine ⟨.pointer (some ⟨wr.heap.size, 2, none⟩), fun W hW => quiet_ok ?_, hK _ ?_⟩
                · have q := HX.out W hW
                  obtain ⟨⟨m0, m1, m2, m3⟩, z0, _⟩ := q
                  have z2 := HY.out W hW
                  go_simp
                  all_goals (try omega)
                clear hK K
                simp only [Act.put, List.setIfInBounds_toArray, List.set_cons_succ, List.set_cons_zero]
                refine wpQuiet_step (fun K hK => ?_)
                rw [if_pos (by rfl)]
                refine ⟨.int .i64 x.2.2.1, fun W hW => quiet_ok ?_, hK _ ?_⟩
                · have q := HX.out W hW
                  obtain ⟨⟨m0, m1, m2, m3⟩, z0, _⟩ := q
                  have z2 := HY.out W hW
                  go_simp
                  all_goals (try omega)
                clear hK K
                simp only [Act.put, List.setIfInBounds_toArray, List.set_cons_succ, List.set_cons_zero]
                refine wpQuiet_step (fun K hK => ?_)
                rw [if_pos (by rfl)]
                refine ⟨.bool true, fun W hW => quiet_call (f := 42) (args := #[.int .i64 x.2.2.1, .int .i64 0, .int .i64 4]) ?_ ?_, hK _ ?_⟩
                · go_simp
                · exact (HCO.out W).mono fun e w'' h => ⟨h.1, HTR.out _ _ hW h.2⟩
                clear hK K
                simp only [Act.put, List.setIfInBounds_toArray, List.set_cons_succ, List.set_cons_zero]
                refine wpQuiet_step (fun K hK => ?_)
                rw [if_pos (by rfl)]
                refine ⟨.bool false, fun W hW => quiet_ok ?_, hK _ ?_⟩
                · have q := HX.out W hW
                  obtain ⟨⟨m0, m1, m2, m3⟩, z0, _⟩ := q
                  have z2 := HY.out W hW
                  go_simp
                  all_goals (try omega)
                clear hK K
                simp only [Act.put, List.setIfInBounds_toArray, List.set_cons_succ, List.set_cons_zero]
                refine wpQuiet_step (fun K hK => ?_)
                rw [if_pos (by rfl)]
                refine ⟨.bool false, fun W hW => quiet_ok ?_, hK _ ?_⟩
                · have q := HX.out W hW
                  obtain ⟨⟨m0, m1, m2, m3⟩, z0, _⟩ := q
                  have z2 := HY.out W hW
                  go_simp
                  all_goals (try omega)
                clear hK K
                simp only [Act.put, List.setIfInBounds_toArray, List.set_cons_succ, List.set_cons_zero]
                refine wpQuiet_step (fun K hK => ?_)
                rw [if_pos (by rfl)]
                refine ⟨.bool false, fun W hW => quiet_ok ?_, hK _ ?_⟩
                · have q := HX.out W hW
                  obtain ⟨⟨m0, m1, m2, m3⟩, z0, _⟩ := q
                  have z2 := HY.out W hW
                  go_simp
                  all_goals (try omega)
                clear hK K
                simp only [Act.put, List.setIfInBounds_toArray, List.set_cons_succ, List.set_cons_zero]
                refine wpQuiet_step (fun K hK => ?_)
                rw [if_pos (by rfl)]
                refine ⟨.pointer (some ⟨wr.heap.size, 3, none⟩), fun W hW => quiet_ok ?_, hK _ ?_⟩
                · have q := HX.out W hW
                  obtain ⟨⟨m0, m1, m2, m3⟩, z0, _⟩ := q
                  have z2 := HY.out W hW
                  go_simp
                  all_goals (try omega)
                clear hK K
                simp only [Act.put, List.setIfInBounds_toArray, List.set_cons_succ, List.set_cons_zero]
                refine wpQuiet_step (fun K hK => ?_)
                rw [if_pos (by rfl)]
                refine ⟨.int .i64 x.2.2.2, fun W hW => quiet_ok ?_, hK _ ?_⟩
                · have q := HX.out W hW
                  obtain ⟨⟨m0, m1, m2, m3⟩, z0, _⟩ := q
                  have z2 := HY.out W hW
                  go_simp
                  all_goals (try omega)
                clear hK K
                simp only [Act.put, List.setIfInBounds_toArray, List.set_cons_succ, List.set_cons_zero]
                refine wpQuiet_step (fun K hK => ?_)
                rw [if_pos (by rfl)]
                refine ⟨.bool true, fun W hW => quiet_call (f := 43) (args := #[.int .i64 x.2.2.2]) ?_ ?_, hK _ ?_⟩
                · go_simp
                · exact (HSE.out W).mono fun e w'' h => ⟨h.1, HTR.out _ _ hW h.2⟩
                clear hK K
                simp only [Act.put, List.setIfInBounds_toArray, List.set_cons_succ, List.set_cons_zero]
                refine wpQuiet_step (fun K hK => ?_)
                rw [if_pos (by rfl)]
                refine ⟨.bool false, fun W hW => quiet_ok ?_, hK _ ?_⟩
                · have q := HX.out W hW
                  obtain ⟨⟨m0, m1, m2, m3⟩, z0, _⟩ := q
                  have z2 := HY.out W hW
                  go_simp
                  all_goals (try omega)
                clear hK K
                simp only [Act.put, List.setIfInBounds_toArray, List.set_cons_succ, List.set_cons_zero]
                refine wpQuiet_step (fun K hK => ?_)
                rw [if_pos (by rfl)]
                refine ⟨.bool false, fun W hW => quiet_ok ?_, hK _ ?_⟩
                · have q := HX.out W hW
                  obtain ⟨⟨m0, m1, m2, m3⟩, z0, _⟩ := q
                  have z2 := HY.out W hW
                  go_simp
                  all_goals (try omega)
                clear hK K
                simp only [Act.put, List.setIfInBounds_toArray, List.set_cons_succ, List.set_cons_zero]
                refine wpQuiet_step (fun K hK => ?_)
                rw [if_pos (by rfl)]
                refine ⟨.bool false, fun W hW => quiet_ok ?_, hK _ ?_⟩
                · have q := HX.out W hW
                  obtain ⟨⟨m0, m1, m2, m3⟩, z0, _⟩ := q
                  have z2 := HY.out W hW
                  go_simp
                  all_goals (try omega)
                clear hK K
                simp only [Act.put, List.setIfInBounds_toArray, List.set_cons_succ, List.set_cons_zero]
                refine wpQuiet_step (fun K hK => ?_)
                rw [if_pos (by rfl)]
                refine ⟨.int .i64 (k : Int), fun W hW => quiet_ok ?_, hK _ ?_⟩
                · have q := HX.out W hW
                  obtain ⟨⟨m0, m1, m2, m3⟩, z0, _⟩ := q
                  have z2 := HY.out W hW
                  go_simp
                  all_goals (try omega)
                clear hK K
                simp only [Act.put, List.setIfInBounds_toArray, List.set_cons_succ, List.set_cons_zero]
                refine wpQuiet_step (fun K hK => ?_)
                rw [if_pos (by rfl)]
                refine ⟨.bool true, fun W hW => quiet_ok ?_, hK _ ?_⟩
                · have q := HX.out W hW
                  obtain ⟨⟨m0, m1, m2, m3⟩, z0, _⟩ := q
                  have z2 := HY.out W hW
                  go_simp
                  all_goals (try omega)
                clear hK K
                simp only [Act.put, List.setIfInBounds_toArray, List.set_cons_succ, List.set_cons_zero]
                refine wpQuiet_step (fun K hK => ?_)
                rw [if_pos (by rfl)]
                refine ⟨.bool true, fun W hW => quiet_ok ?_, hK _ ?_⟩
                · have q := HX.out W hW
                  obtain ⟨⟨m0, m1, m2, m3⟩, z0, _⟩ := q
                  have z2 := HY.out W hW
                  go_simp
                  all_goals (try omega)
                clear hK K
                simp only [Act.put, List.setIfInBounds_toArray, List.set_cons_succ, List.set_cons_zero]
                refine wpQuiet_step (fun K hK => ?_)
                rw [if_pos (by rfl)]
                refine ⟨.pointer (some ⟨w.heap.size, 3, none⟩), fun W hW => quiet_ok ?_, hK _ ?_⟩
                · have q := HX.out W hW
                  obtain ⟨⟨m0, m1, m2, m3⟩, z0, _⟩ := q
                  have z2 := HY.out W hW
                  go_simp
                  all_goals (try omega)
                clear hK K
                simp only [Act.put, List.setIfInBounds_toArray, List.set_cons_succ, List.set_cons_zero]
                refine wpQuiet_step (fun K hK => ?_)
                rw [if_pos (by rfl)]
                refine ⟨.slice (some ⟨b, o, none⟩) L.length cap, fun W hW => quiet_ok ?_, hK _ ?_⟩
                · have q := HX.out W hW
                  obtain ⟨⟨m0, m1, m2, m3⟩, z0, _⟩ := q
                  have z2 := HY.out W hW
                  go_simp
                  all_goals (try omega)
                clear hK K
                simp only [Act.put, List.setIfInBounds_toArray, List.set_cons_succ, List.set_cons_zero]
                refine wpQuiet_step (fun K hK => ?_)
                rw [if_pos (by rfl)]
                refine ⟨.int .i64 (k : Int), fun W hW => quiet_ok ?_, hK _ ?_⟩
                · have q := HX.out W hW
                  obtain ⟨⟨m0, m1, m2, m3⟩, z0, _⟩ := q
                  have z2 := HY.out W hW
                  go_simp
                  all_goals (try omega)
                clear hK K
                simp only [Act.put, List.setIfInBounds_toArray, List.set_cons_succ, List.set_cons_zero]
                refine wpQuiet_step (fun K hK => ?_)
                rw [if_pos (by rfl)]
                refine ⟨.int .i64 (k1 : Int), fun W hW => quiet_ok ?_, hK _ ?_⟩
                · have q := HX.out W hW
                  obtain ⟨⟨m0, m1, m2, m3⟩, z0, _⟩ := q
                  have z2 := HY.out W hW
                  go_simp
                  all_goals (try omega)
                clear hK K
                simp only [Act.put, List.setIfInBounds_toArray, List.set_cons_succ, List.set_cons_zero]
                refine wpQuiet_step (fun K hK => ?_)
                rw [if_pos (by rfl)]
                refine ⟨.pointer (some ⟨b, o + k1 * 4, none⟩), fun W hW => quiet_ok ?_, hK _ ?_⟩
                · have q := HX.out W hW
                  obtain ⟨⟨m0, m1, m2, m3⟩, z0, _⟩ := q
                  have z2 := HY.out W hW
                  go_simp
                  all_goals (try omega)
                clear hK K
                simp only [Act.put, List.setIfInBounds_toArray, List.set_cons_succ, List.set_cons_zero]
                refine wpQuiet_step (fun K hK => ?_)
                rw [if_pos (by rfl)]
                refine ⟨.pointer (some ⟨b, o + k1 * 4, none⟩), fun W hW => quiet_ok ?_, hK _ ?_⟩
                · have q := HX.out W hW
                  obtain ⟨⟨m0, m1, m2, m3⟩, z0, _⟩ := q
                  have z2 := HY.out W hW
                  go_simp
                  all_goals (try omega)
                clear hK K
                simp only [Act.put, List.setIfInBounds_toArray, List.set_cons_succ, List.set_cons_zero]
                refine wpQuiet_step (fun K hK => ?_)
                rw [if_pos (by rfl)]
                refine ⟨.int .i64 y, fun W hW => quiet_ok ?_, hK _ ?_⟩
                · have q := HX.out W hW
                  obtain ⟨⟨m0, m1, m2, m3⟩, z0, _⟩ := q
                  have z2 := HY.out W hW
                  go_simp
                  all_goals (try omega)
                clear hK K
                simp only [Act.put, List.setIfInBounds_toArray, List.set_cons_succ, List.set_cons_zero]
                refine wpQuiet_step (fun K hK => ?_)
                rw [if_pos (by rfl)]
                refine ⟨.pointer (some ⟨wr.heap.size, 0, none⟩), fun W hW => quiet_ok ?_, hK _ ?_⟩
                · have q := HX.out W hW
                  obtain ⟨⟨m0, m1, m2, m3⟩, z0, _⟩ := q
                  have z2 := HY.out W hW
                  go_simp
                  all_goals (try omega)
                clear hK K
                simp only [Act.put, List.setIfInBounds_toArray, List.set_cons_succ, List.set_cons_zero]
                refine wpQuiet_step (fun K hK => ?_)
                rw [if_pos (by rfl)]
                refine ⟨.int .i64 x.1, fun W hW => quiet_ok ?_, hK _ ?_⟩
                · have q := HX.out W hW
                  obtain ⟨⟨m0, m1, m2, m3⟩, z0, _⟩ := q
                  have z2 := HY.out W hW
                  go_simp
                  all_goals (try omega)
                clear hK K
                simp only [Act.put, List.setIfInBounds_toArray, List.set_cons_succ, List.set_cons_zero]
                refine wpQuiet_step (fun K hK => ?_)
                rw [if_pos (by rfl)]
                refine ⟨.bool true, fun W hW => quiet_ok ?_, hK _ ?_⟩
                · have q := HX.out W hW
                  obtain ⟨⟨m0, m1, m2, m3⟩, z0, _⟩ := q
                  have z2 := HY.out W hW
                  go_simp
                  all_goals (try omega)
                clear hK K
                simp only [Act.put, List.setIfInBounds_toArray, List.set_cons_succ, List.set_cons_zero]
                refine wpQuiet_step (fun K hK => ?_)
                rw [if_pos (by rfl)]
                refine ⟨.bool true, fun W hW => quiet_ok ?_, hK _ ?_⟩
                · have q := HX.out W hW
                  obtain ⟨⟨m0, m1, m2, m3⟩, z0, _⟩ := q
                  have z2 := HY.out W hW
                  go_simp
                  all_goals (try omega)
                clear hK K
                simp only [Act.put, List.setIfInBounds_toArray, List.set_cons_succ, List.set_cons_zero]
                refine wpQuiet_step (fun K hK => ?_)
                rw [if_pos (by rfl)]
                refine ⟨.bool true, fun W hW => quiet_ok ?_, hK _ ?_⟩
                · have q := HX.out W hW
                  obtain ⟨⟨m0, m1, m2, m3⟩, z0, _⟩ := q
                  have z2 := HY.out W hW
                  go_simp
                  all_goals (try omega)
                clear hK K
                simp only [Act.put, List.setIfInBounds_toArray, List.set_cons_succ, List.set_cons_zero]
                refine wpQuiet_nil ?_
                intro W hW
                have hbW := (HX.out W hW).2.2
                go_wp2_with fail
                go_ret
                exact ⟨ret_bool (HFAL.out HR.out), hbW.1⟩
              · have HR : Hid (okB L (k + 1) = true) := hs.2 (by omega)
                have hde : decide (x.1 ≤ y) = false := by simp; omega
                clear HBAD HZERO HSUC hd hs
                refine wp_region_quiet (C := fun W => Below W1.heap.size W1 W) (by kernel_rfl) (by kernel_rfl) hbd ?_
                refine wpQuiet_step (fun K hK => ?_)
                rw [if_pos (by rfl)]
                refine ⟨.pointer (some ⟨wr.heap.size, 0, none⟩), fun W hW => quiet_ok ?_, hK _ ?_⟩
                · have q := HX.out W hW
                  obtain ⟨⟨m0, m1, m2, m3⟩, z0, _⟩ := q
                  have z2 := HY.out W hW
                  go_simp
                  all_goals (try omega)
                clear hK K
                simp only [Act.put, List.setIfInBounds_toArray, List.set_cons_succ, List.set_cons_zero]
                refine wpQuiet_step (fun K hK => ?_)
                rw [if_pos (by rfl)]
                refine ⟨.int .i64 x.1, fun W hW => quiet_ok ?_, hK _ ?_⟩
                · have q := HX.out W hW
                  obtain ⟨⟨m0, m1, m2, m3⟩, z0, _⟩ := q
                  have z2 := HY.out W hW
                  go_simp
                  all_goals (try omega)
                clear hK K
                simp only [Act.put, List.setIfInBounds_toArray, List.set_cons_succ, List.set_cons_zero]
                refine wpQuiet_step (fun K hK => ?_)
                rw [if_pos (by rfl)]
                refine ⟨.pointer (some ⟨wr.heap.size, 1, none⟩), fun W hW => quiet_ok ?_, hK _ ?_⟩
                · have q := HX.out W hW
                  obtain ⟨⟨m0, m1, m2, m3⟩, z0, _⟩ := q
                  have z2 := HY.out W hW
                  go_simp
                  all_goals (try omega)
                clear hK K
                simp only [Act.put, List.setIfInBounds_toArray, List.set_cons_succ, List.set_cons_zero]
                refine wpQuiet_step (fun K hK => ?_)
                rw [if_pos (by rfl)]
                refine ⟨.int .i64 x.2.1, fun W hW => quiet_ok ?_, hK _ ?_⟩
                · have q := HX.out W hW
                  obtain ⟨⟨m0, m1, m2, m3⟩, z0, _⟩ := q
                  have z2 := HY.out W hW
                  go_simp
                  all_goals (try omega)
                clear hK K
                simp only [Act.put, List.setIfInBounds_toArray, List.set_cons_succ, List.set_cons_zero]
                refine wpQuiet_step (fun K hK => ?_)
                rw [if_pos (by rfl)]
                refine ⟨.bool true, fun W hW => quiet_call (f := 41) (args := #[.int .i64 x.1, .int .i64 x.2.1]) ?_ ?_, hK _ ?_⟩
                · go_simp
                · exact (HWH.out W).mono fun e w'' h => ⟨h.1, HTR.out _ _ hW h.2⟩
                clear hK K
                simp only [Act.put, List.setIfInBounds_toArray, List.set_cons_succ, List.set_cons_zero]
                refine wpQuiet_step (fun K hK => ?_)
                rw [if_pos (by rfl)]
                refine ⟨.bool false, fun W hW => quiet_ok ?_, hK _ ?_⟩
                · have q := HX.out W hW
                  obtain ⟨⟨m0, m1, m2, m3⟩, z0, _⟩ := q
                  have z2 := HY.out W hW
                  go_simp
                  all_goals (try omega)
                clear hK K
                simp only [Act.put, List.setIfInBounds_toArray, List.set_cons_succ, List.set_cons_zero]
                refine wpQuiet_step (fun K hK => ?_)
                rw [if_pos (by rfl)]
                refine ⟨.bool false, fun W hW => quiet_ok ?_, hK _ ?_⟩
                · have q := HX.out W hW
                  obtain ⟨⟨m0, m1, m2, m3⟩, z0, _⟩ := q
                  have z2 := HY.out W hW
                  go_simp
                  all_goals (try omega)
                clear hK K
                simp only [Act.put, List.setIfInBounds_toArray, List.set_cons_succ, List.set_cons_zero]
                refine wpQuiet_step (fun K hK => ?_)
                rw [if_pos (by rfl)]
                refine ⟨.pointer (some ⟨wr.heap.size, 2, none⟩), fun W hW => quiet_ok ?_, hK _ ?_⟩
                · have q := HX.out W hW
                  obtain ⟨⟨m0, m1, m2, m3⟩, z0, _⟩ := q
                  have z2 := HY.out W hW
                  go_simp
                  all_goals (try omega)
                clear hK K
                simp only [Act.put, List.setIfInBounds_toArray, List.set_cons_succ, List.set_cons_zero]
                refine wpQuiet_step (fun K hK => ?_)
                rw [if_pos (by rfl)]
                refine ⟨.int .i64 x.2.2.1, fun W hW => quiet_ok ?_, hK _ ?_⟩
                · have q := HX.out W hW
                  obtain ⟨⟨m0, m1, m2, m3⟩, z0, _⟩ := q
                  have z2 := HY.out W hW
                  go_simp
                  all_goals (try omega)
                clear hK K
                simp only [Act.put, List.setIfInBounds_toArray, List.set_cons_succ, List.set_cons_zero]
                refine wpQuiet_step (fun K hK => ?_)
                rw [if_pos (by rfl)]
                refine ⟨.bool true, fun W hW => quiet_call (f := 42) (args := #[.int .i64 x.2.2.1, .int .i64 0, .int .i64 4]) ?_ ?_, hK _ ?_⟩
                · go_simp
                · exact (HCO.out W).mono fun e w'' h => ⟨h.1, HTR.out _ _ hW h.2⟩
                clear hK K
                simp only [Act.put, List.setIfInBounds_toArray, List.set_cons_succ, List.set_cons_zero]
                refine wpQuiet_step (fun K hK => ?_)
                rw [if_pos (by rfl)]
                refine ⟨.bool false, fun W hW => quiet_ok ?_, hK _ ?_⟩
                · have q := HX.out W hW
                  obtain ⟨⟨m0, m1, m2, m3⟩, z0, _⟩ := q
                  have z2 := HY.out W hW
                  go_simp
                  all_goals (try omega)
                clear hK K
                simp only [Act.put, List.setIfInBounds_toArray, List.set_cons_succ, List.set_cons_zero]
                refine wpQuiet_step (fun K hK => ?_)
                rw [if_pos (by rfl)]
                refine ⟨.bool false, fun W hW => quiet_ok ?_, hK _ ?_⟩
                · have q := HX.out W hW
                  obtain ⟨⟨m0, m1, m2, m3⟩, z0, _⟩ := q
                  have z2 := HY.out W hW
                  go_simp
                  all_goals (try omega)
                clear hK K
                simp only [Act.put, List.setIfInBounds_toArray, List.set_cons_succ, List.set_cons_zero]
                refine wpQuiet_step (fun K hK => ?_)
                rw [if_pos (by rfl)]
                refine ⟨.bool false, fun W hW => quiet_ok ?_, hK _ ?_⟩
                · have q := HX.out W hW
                  obtain ⟨⟨m0, m1, m2, m3⟩, z0, _⟩ := q
                  have z2 := HY.out W hW
                  go_simp
                  all_goals (try omega)
                clear hK K
                simp only [Act.put, List.setIfInBounds_toArray, List.set_cons_succ, List.set_cons_zero]
                refine wpQuiet_step (fun K hK => ?_)
                rw [if_pos (by rfl)]
                refine ⟨.pointer (some ⟨wr.heap.size, 3, none⟩), fun W hW => quiet_ok ?_, hK _ ?_⟩
                · have q := HX.out W hW
                  obtain ⟨⟨m0, m1, m2, m3⟩, z0, _⟩ := q
                  have z2 := HY.out W hW
                  go_simp
                  all_goals (try omega)
                clear hK K
                simp only [Act.put, List.setIfInBounds_toArray, List.set_cons_succ, List.set_cons_zero]
                refine wpQuiet_step (fun K hK => ?_)
                rw [if_pos (by rfl)]
                refine ⟨.int .i64 x.2.2.2, fun W hW => quiet_ok ?_, hK _ ?_⟩
                · have q := HX.out W hW
                  obtain ⟨⟨m0, m1, m2, m3⟩, z0, _⟩ := q
                  have z2 := HY.out W hW
                  go_simp
                  all_goals (try omega)
                clear hK K
                simp only [Act.put, List.setIfInBounds_toArray, List.set_cons_succ, List.set_cons_zero]
                refine wpQuiet_step (fun K hK => ?_)
                rw [if_pos (by rfl)]
                refine ⟨.bool true, fun W hW => quiet_call (f := 43) (args := #[.int .i64 x.2.2.2]) ?_ ?_, hK _ ?_⟩
                · go_simp
                · exact (HSE.out W).mono fun e w'' h => ⟨h.1, HTR.out _ _ hW h.2⟩
                clear hK K
                simp only [Act.put, List.setIfInBounds_toArray, List.set_cons_succ, List.set_cons_zero]
                refine wpQuiet_step (fun K hK => ?_)
                rw [if_pos (by rfl)]
                refine ⟨.bool false, fun W hW => quiet_ok ?_, hK _ ?_⟩
                · have q := HX.out W hW
                  obtain ⟨⟨m0, m1, m2, m3⟩, z0, _⟩ := q
                  have z2 := HY.out W hW
                  go_simp
                  all_goals (try omega)
                clear hK K
                simp only [Act.put, List.setIfInBounds_toArray, List.set_cons_succ, List.set_cons_zero]
                refine wpQuiet_step (fun K hK => ?_)
                rw [if_pos (by rfl)]
                refine ⟨.bool false, fun W hW => quiet_ok ?_, hK _ ?_⟩
                · have q := HX.out W hW
                  obtain ⟨⟨m0, m1, m2, m3⟩, z0, _⟩ := q
                  have z2 := HY.out W hW
                  go_simp
                  all_goals (try omega)
                clear hK K
                simp only [Act.put, List.setIfInBounds_toArray, List.set_cons_succ, List.set_cons_zero]
                refine wpQuiet_step (fun K hK => ?_)
                rw [if_pos (by rfl)]
                refine ⟨.bool false, fun W hW => quiet_ok ?_, hK _ ?_⟩
                · have q := HX.out W hW
                  obtain ⟨⟨m0, m1, m2, m3⟩, z0, _⟩ := q
                  have z2 := HY.out W hW
                  go_simp
                  all_goals (try omega)
                clear hK K
                simp only [Act.put, List.setIfInBounds_toArray, List.set_cons_succ, List.set_cons_zero]
                refine wpQuiet_step (fun K hK => ?_)
                rw [if_pos (by rfl)]
                refine ⟨.int .i64 (k : Int), fun W hW => quiet_ok ?_, hK _ ?_⟩
                · have q := HX.out W hW
                  obtain ⟨⟨m0, m1, m2, m3⟩, z0, _⟩ := q
                  have z2 := HY.out W hW
                  go_simp
                  all_goals (try omega)
                clear hK K
                simp only [Act.put, List.setIfInBounds_toArray, List.set_cons_succ, List.set_cons_zero]
                refine wpQuiet_step (fun K hK => ?_)
                rw [if_pos (by rfl)]
                refine ⟨.bool true, fun W hW => quiet_ok ?_, hK _ ?_⟩
                · have q := HX.out W hW
                  obtain ⟨⟨m0, m1, m2, m3⟩, z0, _⟩ := q
                  have z2 := HY.out W hW
                  go_simp
                  all_goals (try omega)
                clear hK K
                simp only [Act.put, List.setIfInBounds_toArray, List.set_cons_succ, List.set_cons_zero]
                refine wpQuiet_step (fun K hK => ?_)
                rw [if_pos (by rfl)]
                refine ⟨.bool true, fun W hW => quiet_ok ?_, hK _ ?_⟩
                · have q := HX.out W hW
                  obtain ⟨⟨m0, m1, m2, m3⟩, z0, _⟩ := q
                  have z2 := HY.out W hW
                  go_simp
                  all_goals (try omega)
                clear hK K
                simp only [Act.put, List.setIfInBounds_toArray, List.set_cons_succ, List.set_cons_zero]
                refine wpQuiet_step (fun K hK => ?_)
                rw [if_pos (by rfl)]
                refine ⟨.pointer (some ⟨w.heap.size, 3, none⟩), fun W hW => quiet_ok ?_, hK _ ?_⟩
                · have q := HX.out W hW
                  obtain ⟨⟨m0, m1, m2, m3⟩, z0, _⟩ := q
                  have z2 := HY.out W hW
                  go_simp
                  all_goals (try omega)
                clear hK K
                simp only [Act.put, List.setIfInBounds_toArray, List.set_cons_succ, List.set_cons_zero]
                refine wpQuiet_step (fun K hK => ?_)
                rw [if_pos (by rfl)]
                refine ⟨.slice (some ⟨b, o, none⟩) L.length cap, fun W hW => quiet_ok ?_, hK _ ?_⟩
                · have q := HX.out W hW
                  obtain ⟨⟨m0, m1, m2, m3⟩, z0, _⟩ := q
                  have z2 := HY.out W hW
                  go_simp
                  all_goals (try omega)
                clear hK K
                simp only [Act.put, List.setIfInBounds_toArray, List.set_cons_succ, List.set_cons_zero]
                refine wpQuiet_step (fun K hK => ?_)
                rw [if_pos (by rfl)]
                refine ⟨.int .i64 (k : Int), fun W hW => quiet_ok ?_, hK _ ?_⟩
                · have q := HX.out W hW
                  obtain ⟨⟨m0, m1, m2, m3⟩, z0, _⟩ := q
                  have z2 := HY.out W hW
                  go_simp
                  all_goals (try omega)
                clear hK K
                simp only [Act.put, List.setIfInBounds_toArray, List.set_cons_succ, List.set_cons_zero]
                refine wpQuiet_step (fun K hK => ?_)
                rw [if_pos (by rfl)]
                refine ⟨.int .i64 (k1 : Int), fun W hW => quiet_ok ?_, hK _ ?_⟩
                · have q := HX.out W hW
                  obtain ⟨⟨m0, m1, m2, m3⟩, z0, _⟩ := q
                  have z2 := HY.out W hW
                  go_simp
                  all_goals (try omega)
                clear hK K
                simp only [Act.put, List.setIfInBounds_toArray, List.set_cons_succ, List.set_cons_zero]
                refine wpQuiet_step (fun K hK => ?_)
                rw [if_pos (by rfl)]
                refine ⟨.pointer (some ⟨b, o + k1 * 4, none⟩), fun W hW => quiet_ok ?_, hK _ ?_⟩
                · have q := HX.out W hW
                  obtain ⟨⟨m0, m1, m2, m3⟩, z0, _⟩ := q
                  have z2 := HY.out W hW
                  go_simp
                  all_goals (try omega)
                clear hK K
                simp only [Act.put, List.setIfInBounds_toArray, List.set_cons_succ, List.set_cons_zero]
                refine wpQuiet_step (fun K hK => ?_)
                rw [if_pos (by rfl)]
                refine ⟨.pointer (some ⟨b, o + k1 * 4, none⟩), fun W hW => quiet_ok ?_, hK _ ?_⟩
                · have q := HX.out W hW
                  obtain ⟨⟨m0, m1, m2, m3⟩, z0, _⟩ := q
                  have z2 := HY.out W hW
                  go_simp
                  all_goals (try omega)
                clear hK K
                simp only [Act.put, List.setIfInBounds_toArray, List.set_cons_succ, List.set_cons_zero]
                refine wpQuiet_step (fun K hK => ?_)
                rw [if_pos (by rfl)]
                refine ⟨.int .i64 y, fun W hW => quiet_ok ?_, hK _ ?_⟩
                · have q := HX.out W hW
                  obtain ⟨⟨m0, m1, m2, m3⟩, z0, _⟩ := q
                  have z2 := HY.out W hW
                  go_simp
                  all_goals (try omega)
                clear hK K
                simp only [Act.put, List.setIfInBounds_toArray, List.set_cons_succ, List.set_cons_zero]
                refine wpQuiet_step (fun K hK => ?_)
                rw [if_pos (by rfl)]
                refine ⟨.pointer (some ⟨wr.heap.size, 0, none⟩), fun W hW => quiet_ok ?_, hK _ ?_⟩
                · have q := HX.out W hW
                  obtain ⟨⟨m0, m1, m2, m3⟩, z0, _⟩ := q
                  have z2 := HY.out W hW
                  go_simp
                  all_goals (try omega)
                clear hK K
                simp only [Act.put, List.setIfInBounds_toArray, List.set_cons_succ, List.set_cons_zero]
                refine wpQuiet_step (fun K hK => ?_)
                rw [if_pos (by rfl)]
                refine ⟨.int .i64 x.1, fun W hW => quiet_ok ?_, hK _ ?_⟩
                · have q := HX.out W hW
                  obtain ⟨⟨m0, m1, m2, m3⟩, z0, _⟩ := q
                  have z2 := HY.out W hW
                  go_simp
                  all_goals (try omega)
                clear hK K
                simp only [Act.put, List.setIfInBounds_toArray, List.set_cons_succ, List.set_cons_zero]
                refine wpQuiet_step (fun K hK => ?_)
                rw [if_pos (by rfl)]
                refine ⟨.bool false, fun W hW => quiet_ok ?_, hK _ ?_⟩
                · have q := HX.out W hW
                  obtain ⟨⟨m0, m1, m2, m3⟩, z0, _⟩ := q
                  have z2 := HY.out W hW
                  go_simp
                  all_goals (try omega)
                clear hK K
                simp only [Act.put, List.setIfInBounds_toArray, List.set_cons_succ, List.set_cons_zero]
                refine wpQuiet_step (fun K hK => ?_)
                rw [if_pos (by rfl)]
                refine ⟨.bool false, fun W hW => quiet_ok ?_, hK _ ?_⟩
                · have q := HX.out W hW
                  obtain ⟨⟨m0, m1, m2, m3⟩, z0, _⟩ := q
                  have z2 := HY.out W hW
                  go_simp
                  all_goals (try omega)
                clear hK K
                simp only [Act.put, List.setIfInBounds_toArray, List.set_cons_succ, List.set_cons_zero]
                refine wpQuiet_step (fun K hK => ?_)
                rw [if_pos (by rfl)]
                refine ⟨.bool false, fun W hW => quiet_ok ?_, hK _ ?_⟩
                · have q := HX.out W hW
                  obtain ⟨⟨m0, m1, m2, m3⟩, z0, _⟩ := q
                  have z2 := HY.out W hW
                  go_simp
                  all_goals (try omega)
                clear hK K
                simp only [Act.put, List.setIfInBounds_toArray, List.set_cons_succ, List.set_cons_zero]
                refine wpQuiet_nil ?_
                intro W hW
                have hbW := (HX.out W hW).2.2
                go_wp2_with fail
                go_roundw
                case rel => exact ⟨k + 1, by omega, by go_num, HR, hbW⟩
                case measure => simp [intOf]; omega
    · have hR : okB L L.length = true := by have := HA.out; rw [show k = L.length by omega] at this; exact this
      have hre := HALL.out hR
      clear HALL HFAL hR HA
      obtain ⟨b1, hb1⟩ : ∃ b, b = zoneB nm.data.toList ct Q := ⟨_, rfl⟩
      obtain ⟨b3, hb3⟩ : ∃ b, b = inB many 0 1000000 := ⟨_, rfl⟩
      rw [← hb1] at HZ hre
      rw [← hb3] at HM hre
      have HRE : Hid (r = (b1 && b3 && decide (L.length ≤ 8))) := hre
      clear hb1 hb3 hre
      obtain ⟨q0, q1, q2, q3, q4⟩ := HC.out wr hb.2
      go_wp2_with fail
      refine (HZ.out _ hb.1).mono ?_
      rintro e w1 ⟨rfl, hb1⟩
      clear q0 q1 q2 q3 q4
      have hbw1 := hb.1.trans (hb1.mono hb.1.size)
      obtain ⟨q0, q1, q2, q3, q4⟩ := HC.out w1 (hb.2.trans (hb1.mono hb.2.size))
      cases b1 with
      | false =>
        go_wp2_with fail
        go_ret
        exact ⟨ret_bool (by rw [HRE.out]; rfl), hbw1⟩
      | true =>
        go_wp2_with fail
        refine (HM.out _).mono ?_
        rintro e w2 ⟨rfl, rfl⟩
        cases b3 with
        | false =>
          go_wp2_with fail
          go_ret
          exact ⟨ret_bool (by rw [HRE.out]; rfl), hbw1⟩
        | true =>
          have HD8 : Hid (decide ((L.length : Int) ≤ 8) = decide (L.length ≤ 8)) := by show _ = _; rw [decide_eq_decide]; omega
          go_wp2_with fail
          go_ret
          exact ⟨ret_bool (by rw [HRE.out, HD8.out]; simp), hbw1⟩
end Go.Proofs.YtoobaaklklommaaGreatDoor
