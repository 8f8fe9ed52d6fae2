import Derived.Test.YtoobaaklklommaaGreatDoorZ20
import Derived.Test.YtoobaaklklommaaGreatDoorZ22
import Derived.Test.YtoobaaklklommaaGreatDoorZ39
import Derived.BigQuiet
import Derived.Deep.QuietTactic
namespace Go.Proofs.YtoobaaklklommaaGreatDoor
open Go.RowKit

/-! What makes a good control, in plain words. -/
def whoB (c n : Int) : Bool := inB c 0 100 && inB n 1 1000
def donB (x : DonT) : Bool := whoB x.1 x.2.1 && inB x.2.2.1 0 4 && serB x.2.2.2
def zD : DonT := (0, 0, 0, 0)
/-- The last of one client is good, and its client greater than the one ahead. -/
def rowOk (L : List DonT) (k : Nat) : Bool := donB (L.getD k zD) && (decide (k = 0) || decide ((L.getD (k - 1) zD).1 < (L.getD k zD).1))
def okB (L : List DonT) : Nat → Bool
  | 0 => true
  | k + 1 => okB L k && rowOk L k
theorem okB_no {L : List DonT} {k : Nat} (h : rowOk L k = false) : ∀ m, k < m → okB L m = false
  | 0, hm => absurd hm (Nat.not_lt_zero _)
  | m + 1, hm => by
    rw [okB]
    by_cases e : k = m
    · rw [← e, h, Bool.and_false]
    · rw [okB_no h m (by omega), Bool.false_and]
theorem okB_step {L : List DonT} {k : Nat} (h : okB L k = true) (h2 : rowOk L k = true) : okB L (k + 1) = true := by rw [okB, h, h2]; rfl
theorem getD_d {L : List DonT} {k : Nat} (h : k < L.length) : L.getD k zD = L[k] := by rw [List.getD_eq_getElem?_getD, List.getElem?_eq_getElem h]; rfl
theorem rowOk_bad {L : List DonT} {k : Nat} (h : k < L.length) (hd : donB (L[k]'h) = false) : rowOk L k = false := by unfold rowOk; rw [getD_d h, hd]; rfl
theorem rowOk_zero {L : List DonT} (h : 0 < L.length) (hd : donB (L[0]'h) = true) : rowOk L 0 = true := by unfold rowOk; rw [getD_d h, hd]; rfl
theorem rowOk_succ {L : List DonT} {k : Nat} (h : k + 1 < L.length) (hd : donB (L[k + 1]'h) = true) : rowOk L (k + 1) = decide ((L[k]'(by omega)).1 < (L[k + 1]'h).1) := by
  unfold rowOk
  rw [getD_d h, hd, Nat.add_sub_cancel, getD_d (by omega)]
  simp
def lastB (L : List DonT) : Bool := decide (L.length ≤ 8) && okB L L.length
def ctlB (nm : List UInt8) (ct : Int) (Q : List (List UInt8 × Int × Int × List UInt8)) (L : List DonT) (many : Int) : Bool := zoneB nm ct Q && lastB L && inB many 0 1000000
end Go.Proofs.YtoobaaklklommaaGreatDoor

namespace Go.Proofs.YtoobaaklklommaaGreatDoor
open Go.RowKit

theorem isClient_any (n : Int) (w : World) : Calls Tryz.prog 94 #[.int .i64 n] w fun e w' => e = .returned (.bool (inB n 0 100)) ∧ w' = w := by
  go_enter Tryz.func94, Tryz.ntmps94
  go_wp2_with fail
  refine (iWithin_anyY _ _ _ _).mono ?_
  rintro e w1 ⟨rfl, rfl⟩
  go_wp2_with fail
  go_ret
  exact ⟨rfl, rfl⟩
theorem isNo_any (n : Int) (w : World) : Calls Tryz.prog 95 #[.int .i64 n] w fun e w' => e = .returned (.bool (inB n 1 1000)) ∧ w' = w := by
  go_enter Tryz.func95, Tryz.ntmps95
  go_wp2_with fail
  refine (iWithin_anyY _ _ _ _).mono ?_
  rintro e w1 ⟨rfl, rfl⟩
  go_wp2_with fail
  go_ret
  exact ⟨rfl, rfl⟩
set_option maxRecDepth 20000 in
set_option maxHeartbeats 1000000 in
theorem isDone_any (x : DonT) (w : World) : Calls Tryz.prog 87 #[.agg #[.int .i64 x.1, .int .i64 x.2.1, .int .i64 x.2.2.1, .int .i64 x.2.2.2]] w fun e w' => e = .returned (.bool (donB x)) ∧ Below w.heap.size w w' := by
  have HA : Hid (donB x = (inB x.1 0 100 && inB x.2.1 1 1000 && inB x.2.2.1 0 4 && serB x.2.2.2)) := rfl
  rw [HA.out]
  have H1 : Hid (∀ W, Calls Tryz.prog 94 #[.int .i64 x.1] W fun e w' => e = .returned (.bool (inB x.1 0 100)) ∧ w' = W) := fun W => isClient_any _ W
  have H2 : Hid (∀ W, Calls Tryz.prog 95 #[.int .i64 x.2.1] W fun e w' => e = .returned (.bool (inB x.2.1 1 1000)) ∧ w' = W) := fun W => isNo_any _ W
  have H3 : Hid (∀ W, Calls Tryz.prog 49 #[.int .i64 x.2.2.1, .int .i64 0, .int .i64 4] W fun e w' => e = .returned (.bool (inB x.2.2.1 0 4)) ∧ w' = W) := fun W => iWithin_anyY _ _ _ W
  have H4 : Hid (∀ W, Calls Tryz.prog 127 #[.int .i64 x.2.2.2] W fun e w' => e = .returned (.bool (serB x.2.2.2)) ∧ w' = W) := fun W => isSerial_any _ W
  obtain ⟨b1, hb1⟩ : ∃ b, b = inB x.1 0 100 := ⟨_, rfl⟩
  obtain ⟨b2, hb2⟩ : ∃ b, b = inB x.2.1 1 1000 := ⟨_, rfl⟩
  obtain ⟨b3, hb3⟩ : ∃ b, b = inB x.2.2.1 0 4 := ⟨_, rfl⟩
  obtain ⟨b4, hb4⟩ : ∃ b, b = serB x.2.2.2 := ⟨_, rfl⟩
  rw [← hb1] at H1 ⊢
  rw [← hb2] at H2 ⊢
  rw [← hb3] at H3 ⊢
  rw [← hb4] at H4 ⊢
  have hbw : Below w.heap.size w (w.alloc (.cells #[.int .i64 x.1, .int .i64 x.2.1, .int .i64 x.2.2.1, .int .i64 x.2.2.2] 44)) := (Below.refl _ _).alloc (Nat.le_refl _) _
  clear hb1 hb2 hb3 hb4 HA
  go_enter Tryz.func87, Tryz.ntmps87
  go_wp2_with fail
  refine (H1.out _).mono ?_
  rintro e w1 ⟨rfl, rfl⟩
  cases b1 with
  | false =>
    go_wp2_with fail
    go_ret
    exact ⟨rfl, hbw⟩
  | true =>
    go_wp2_with fail
    refine (H2.out _).mono ?_
    rintro e w1 ⟨rfl, rfl⟩
    cases b2 with
    | false =>
      go_wp2_with fail
      go_ret
      exact ⟨rfl, hbw⟩
    | true =>
      go_wp2_with fail
      refine (H3.out _).mono ?_
      rintro e w1 ⟨rfl, rfl⟩
      cases b3 with
      | false =>
        go_wp2_with fail
        go_ret
        exact ⟨rfl, hbw⟩
      | true =>
        go_wp2_with fail
        refine (H4.out _).mono ?_
        rintro e w1 ⟨rfl, rfl⟩
        go_wp2_with fail
        go_ret
        exact ⟨by simp, hbw⟩

set_option linter.unusedVariables false in
set_option maxRecDepth 20000 in
set_option maxHeartbeats 4000000 in
theorem areLast_any (v : Value) (L : List DonT) (w : World) (hr : DonRow w v L) :
    Calls Tryz.prog 48 #[v] w fun e w' => e = .returned (.bool (lastB L)) ∧ Below w.heap.size w w' := by
  obtain ⟨a, cap, rfl, hcap, hmax, HROW⟩ := don_value hr
  clear hr
  by_cases h8 : 8 < L.length
  · have e8 : lastB L = false := by unfold lastB; simp; intro h; omega
    have hi8 : (8 : Int) < (L.length : Int) := by omega
    rw [e8]
    clear e8 HROW
    go_enter Tryz.func48, Tryz.ntmps48
    go_wp2_with fail
    go_ret
    exact ⟨rfl, Below.refl _ _⟩
  have e8 : lastB L = okB L L.length := by unfold lastB; rw [show decide (L.length ≤ 8) = true by simp; omega]; rfl
  have hi8 : ¬ (8 : Int) < (L.length : Int) := by omega
  rw [e8]
  clear e8
  go_enter Tryz.func48, Tryz.ntmps48
  go_wp2_with fail
  go_loopw [10] (fun i wr => ∃ k : Nat, k ≤ L.length ∧ i = .int .i64 (k : Int) ∧ Hid (okB L k = true) ∧ Below w.heap.size w wr) (fun i _ => L.length - (intOf i).toNat)
  case atStart => exact ⟨0, Nat.zero_le _, rfl, rfl, Below.refl _ _⟩
  case round =>
    obtain ⟨k, hk, rfl, HA, hb⟩ := hrel
    by_cases hlt : k < L.length
    · obtain ⟨b, o, ha, hbl, hcel⟩ := HROW.out (by omega)
      subst ha
      have hx1 := (hcel k hlt).kept hb
      obtain ⟨x, hxe⟩ : ∃ x, x = L[k]'hlt := ⟨_, rfl⟩
      rw [← hxe] at hx1
      obtain ⟨c0, c1, c2, c3⟩ := hx1.cells
      obtain ⟨W1, hW1⟩ : ∃ W1, W1 = wr.alloc (.cells #[.int .i64 x.1, .int .i64 x.2.1, .int .i64 x.2.2.1, .int .i64 x.2.2.2] 44) := ⟨_, rfl⟩
      have HW1 : Hid (wr.alloc (.cells #[.int .i64 x.1, .int .i64 x.2.1, .int .i64 x.2.2.1, .int .i64 x.2.2.2] 44) = W1) := hW1.symm
      have hb1 : Below wr.heap.size wr W1 := by rw [hW1]; exact (Below.refl _ _).alloc (Nat.le_refl _) _
      have hxb : W1.heap[wr.heap.size]? = some (.cells #[.int .i64 x.1, .int .i64 x.2.1, .int .i64 x.2.2.1, .int .i64 x.2.2.2] 44) := by rw [hW1]; exact blk_new _ _
      have hz1 : wr.heap.size < W1.heap.size := by rw [hW1]; simp
      obtain ⟨y, hy⟩ : ∃ y : Int, y = (L.getD (k - 1) zD).1 := ⟨_, rfl⟩
      have hyc : 0 < k → wr.cell? ⟨b, o + (k - 1) * 4, none⟩ = some (.int .i64 y) := fun hp => by
        have h9 := (((hcel (k - 1) (by omega)).kept hb).cells).1
        rw [hy, getD_d (by omega)]; exact h9
      have hrow1 : b < wr.heap.size := Nat.lt_of_lt_of_le hbl hb.size
      have HX : Hid (∀ W, Below W1.heap.size W1 W → (W.cell? ⟨wr.heap.size, 0, none⟩ = some (.int .i64 x.1) ∧ W.cell? ⟨wr.heap.size, 1, none⟩ = some (.int .i64 x.2.1) ∧ W.cell? ⟨wr.heap.size, 2, none⟩ = some (.int .i64 x.2.2.1) ∧ W.cell? ⟨wr.heap.size, 3, none⟩ = some (.int .i64 x.2.2.2)) ∧ True ∧ Below w.heap.size w W) := fun W hW => ⟨don_cells ((hW.block _ hz1).trans hxb), trivial, hb.trans ((hb1.trans (hW.mono hb1.size)).mono hb.size)⟩
      have HYY : Hid (∀ k1 : Nat, k = k1 + 1 → ∀ W, Below W1.heap.size W1 W → W.cell? ⟨b, o + k1 * 4, none⟩ = some (.int .i64 y)) := fun k1 e W hW => by
        have h9 := hyc (by omega)
        rw [show k - 1 = k1 by omega] at h9
        rw [hW.cell (p := ⟨b, o + k1 * 4, none⟩) (Nat.lt_of_lt_of_le hrow1 hb1.size), hb1.cell (p := ⟨b, o + k1 * 4, none⟩) hrow1]
        exact h9
      have HTR : Hid (∀ W W', Below W1.heap.size W1 W → Below W.heap.size W W' → Below W1.heap.size W1 W') := fun W W' h1 h2 => h1.trans (h2.mono h1.size)
      have hbd : Below W1.heap.size W1 W1.drew := (Below.refl _ _).drew
      have HDO : Hid (∀ W, Calls Tryz.prog 87 #[.agg #[.int .i64 x.1, .int .i64 x.2.1, .int .i64 x.2.2.1, .int .i64 x.2.2.2]] W fun e w' => e = .returned (.bool (donB x)) ∧ Below W.heap.size W w') := fun W => isDone_any x W
      have HBAD : Hid (donB x = false → okB L L.length = false) := fun h => okB_no (rowOk_bad hlt (by rw [← hxe]; exact h)) _ hlt
      have HZERO : Hid (k = 0 → donB x = true → okB L (k + 1) = true) := fun h hd => by
        subst h
        exact okB_step HA.out (rowOk_zero hlt (by rw [← hxe]; exact hd))
      have HSUC : Hid (0 < k → donB x = true → (x.1 ≤ y → okB L L.length = false) ∧ (¬ x.1 ≤ y → okB L (k + 1) = true)) := fun hp hd => by
        obtain ⟨k1, rfl⟩ : ∃ k1, k = k1 + 1 := ⟨k - 1, by omega⟩
        have h9 := rowOk_succ hlt (by rw [← hxe]; exact hd)
        rw [Nat.add_sub_cancel] at hy
        rw [getD_d (by omega)] at hy
        rw [← hxe, ← hy] at h9
        refine ⟨fun h => okB_no (k := k1 + 1) (by rw [h9]; simp; omega) _ hlt, fun h => okB_step HA.out (by rw [h9]; simp; omega)⟩
      have hki : (k : Int) < (L.length : Int) := by omega
      have hkb : k ≤ 9223372036854775806 := by omega
      clear hcel hxe hx1 hW1 hxb hz1 hy hyc hrow1 hb1 HA hlt
      go_wp2_with (rw [HW1.out])
      clear c0 c1 c2 c3
      cases hd : donB x with
      | false =>
        have HR : Hid (okB L L.length = false) := HBAD.out hd
        rw [hd] at HDO
        clear HBAD HZERO HSUC hd
        obtain ⟨u18, hu18⟩ : ∃ u : Bool, u = true := ⟨_, rfl⟩
        have HU18 : Hid (u18 = true) := hu18
        clear hu18
        refine wp_region_quiet (C := fun W => Below W1.heap.size W1 W) (by kernel_rfl) (by kernel_rfl) hbd ?_
        refine wpQuiet_step (fun K hK => ?_)
        rw [if_pos (by rfl)]
        refine ⟨.agg #[.int .i64 x.1, .int .i64 x.2.1, .int .i64 x.2.2.1, .int .i64 x.2.2.2], fun W hW => quiet_ok ?_, hK _ ?_⟩
        · have q := HX.out W hW
          obtain ⟨⟨m0, m1, m2, m3⟩, z0, _⟩ := q
          go_simp
          all_goals (try omega)
        clear hK K
        simp only [Act.put, List.setIfInBounds_toArray, List.set_cons_succ, List.set_cons_zero]
        refine wpQuiet_step (fun K hK => ?_)
        rw [if_pos (by rfl)]
        refine ⟨.bool false, fun W hW => quiet_call (f := 87) (args := #[.agg #[.int .i64 x.1, .int .i64 x.2.1, .int .i64 x.2.2.1, .int .i64 x.2.2.2]]) ?_ ?_, hK _ ?_⟩
        · go_simp
        · exact (HDO.out W).mono fun e w'' h => ⟨h.1, HTR.out _ _ hW h.2⟩
        clear hK K
        simp only [Act.put, List.setIfInBounds_toArray, List.set_cons_succ, List.set_cons_zero]
        refine wpQuiet_step (fun K hK => ?_)
        rw [if_pos (by rfl)]
        refine ⟨.bool true, fun W hW => quiet_ok ?_, hK _ ?_⟩
        · have q := HX.out W hW
          obtain ⟨⟨m0, m1, m2, m3⟩, z0, _⟩ := q
          go_simp
          all_goals (try omega)
        clear hK K
        simp only [Act.put, List.setIfInBounds_toArray, List.set_cons_succ, List.set_cons_zero]
        refine wpQuiet_step (fun K hK => ?_)
        rw [if_pos (by rfl)]
        refine ⟨.bool u18, fun W hW => quiet_ok ?_, hK _ ?_⟩
        · have q := HX.out W hW
          obtain ⟨⟨m0, m1, m2, m3⟩, z0, _⟩ := q
          have v18 := HU18.out
          go_simp
          all_goals (try omega)
        clear hK K
        simp only [Act.put, List.setIfInBounds_toArray, List.set_cons_succ, List.set_cons_zero]
        refine BigFrame.wpQuiet_skip (by show (some u18 == some false) = false; rw [HU18.out]; rfl) ?_
        simp only [Act.put, List.setIfInBounds_toArray, List.set_cons_succ, List.set_cons_zero]
        refine BigFrame.wpQuiet_skip (by show (some u18 == some false) = false; rw [HU18.out]; rfl) ?_
        simp only [Act.put, List.setIfInBounds_toArray, List.set_cons_succ, List.set_cons_zero]
        refine BigFrame.wpQuiet_skip (by show (some u18 == some false) = false; rw [HU18.out]; rfl) ?_
        simp only [Act.put, List.setIfInBounds_toArray, List.set_cons_succ, List.set_cons_zero]
        generalize hund : (undef : Value) = un
        refine BigFrame.wpQuiet_skip (by rw [← hund]; rfl) ?_
        simp only [Act.put, List.setIfInBounds_toArray, List.set_cons_succ, List.set_cons_zero]
        refine BigFrame.wpQuiet_skip (by rw [← hund]; rfl) ?_
        simp only [Act.put, List.setIfInBounds_toArray, List.set_cons_succ, List.set_cons_zero]
        refine BigFrame.wpQuiet_skip (by rw [← hund]; rfl) ?_
        simp only [Act.put, List.setIfInBounds_toArray, List.set_cons_succ, List.set_cons_zero]
        refine BigFrame.wpQuiet_skip (by rw [← hund]; rfl) ?_
        simp only [Act.put, List.setIfInBounds_toArray, List.set_cons_succ, List.set_cons_zero]
        refine BigFrame.wpQuiet_skip (by rw [← hund]; rfl) ?_
        simp only [Act.put, List.setIfInBounds_toArray, List.set_cons_succ, List.set_cons_zero]
        refine BigFrame.wpQuiet_skip (by rw [← hund]; rfl) ?_
        simp only [Act.put, List.setIfInBounds_toArray, List.set_cons_succ, List.set_cons_zero]
        refine BigFrame.wpQuiet_skip (by rw [← hund]; rfl) ?_
        simp only [Act.put, List.setIfInBounds_toArray, List.set_cons_succ, List.set_cons_zero]
        refine BigFrame.wpQuiet_skip (by rw [← hund]; rfl) ?_
        simp only [Act.put, List.setIfInBounds_toArray, List.set_cons_succ, List.set_cons_zero]
        refine BigFrame.wpQuiet_skip (by rw [← hund]; rfl) ?_
        simp only [Act.put, List.setIfInBounds_toArray, List.set_cons_succ, List.set_cons_zero]
        refine BigFrame.wpQuiet_skip (by show (some u18 == some false) = false; rw [HU18.out]; rfl) ?_
        simp only [Act.put, List.setIfInBounds_toArray, List.set_cons_succ, List.set_cons_zero]
        refine wpQuiet_step (fun K hK => ?_)
        rw [if_pos (by rfl)]
        refine ⟨.bool true, fun W hW => quiet_ok ?_, hK _ ?_⟩
        · have q := HX.out W hW
          obtain ⟨⟨m0, m1, m2, m3⟩, z0, _⟩ := q
          have v18 := HU18.out
          go_simp
          all_goals (try omega)
        clear hK K
        simp only [Act.put, List.setIfInBounds_toArray, List.set_cons_succ, List.set_cons_zero]
        subst hund
        refine wpQuiet_nil ?_
        intro W hW
        have hbW := (HX.out W hW).2.2
        go_wp2_with fail
        go_ret
        exact ⟨ret_bool HR.out.symm, hbW⟩
      | true =>
        rw [hd] at HDO
        by_cases h0 : k = 0
        · have HR : Hid (okB L (k + 1) = true) := HZERO.out h0 hd
          have hk0 : ¬ (0 : Int) < (k : Int) := by omega
          have hk1 : decide ((0 : Int) < (k : Int)) = false := by simp; omega
          clear HBAD HZERO HSUC hd h0 HYY
          obtain ⟨u21, hu21⟩ : ∃ u : Bool, u = false := ⟨_, rfl⟩
          have HU21 : Hid (u21 = false) := hu21
          clear hu21
          refine wp_region_quiet (C := fun W => Below W1.heap.size W1 W) (by kernel_rfl) (by kernel_rfl) hbd ?_
          refine wpQuiet_step (fun K hK => ?_)
          rw [if_pos (by rfl)]
          refine ⟨.agg #[.int .i64 x.1, .int .i64 x.2.1, .int .i64 x.2.2.1, .int .i64 x.2.2.2], fun W hW => quiet_ok ?_, hK _ ?_⟩
          · have q := HX.out W hW
            obtain ⟨⟨m0, m1, m2, m3⟩, z0, _⟩ := q
            go_simp
            all_goals (try omega)
          clear hK K
          simp only [Act.put, List.setIfInBounds_toArray, List.set_cons_succ, List.set_cons_zero]
          refine wpQuiet_step (fun K hK => ?_)
          rw [if_pos (by rfl)]
          refine ⟨.bool true, fun W hW => quiet_call (f := 87) (args := #[.agg #[.int .i64 x.1, .int .i64 x.2.1, .int .i64 x.2.2.1, .int .i64 x.2.2.2]]) ?_ ?_, hK _ ?_⟩
          · go_simp
          · exact (HDO.out W).mono fun e w'' h => ⟨h.1, HTR.out _ _ hW h.2⟩
          clear hK K
          simp only [Act.put, List.setIfInBounds_toArray, List.set_cons_succ, List.set_cons_zero]
          refine wpQuiet_step (fun K hK => ?_)
          rw [if_pos (by rfl)]
          refine ⟨.bool false, fun W hW => quiet_ok ?_, hK _ ?_⟩
          · have q := HX.out W hW
            obtain ⟨⟨m0, m1, m2, m3⟩, z0, _⟩ := q
            go_simp
            all_goals (try omega)
          clear hK K
          simp only [Act.put, List.setIfInBounds_toArray, List.set_cons_succ, List.set_cons_zero]
          refine wpQuiet_step (fun K hK => ?_)
          rw [if_pos (by rfl)]
          refine ⟨.bool false, fun W hW => quiet_ok ?_, hK _ ?_⟩
          · have q := HX.out W hW
            obtain ⟨⟨m0, m1, m2, m3⟩, z0, _⟩ := q
            go_simp
            all_goals (try omega)
          clear hK K
          simp only [Act.put, List.setIfInBounds_toArray, List.set_cons_succ, List.set_cons_zero]
          refine wpQuiet_step (fun K hK => ?_)
          rw [if_pos (by rfl)]
          refine ⟨.int .i64 (k : Int), fun W hW => quiet_ok ?_, hK _ ?_⟩
          · have q := HX.out W hW
            obtain ⟨⟨m0, m1, m2, m3⟩, z0, _⟩ := q
            go_simp
            all_goals (try omega)
          clear hK K
          simp only [Act.put, List.setIfInBounds_toArray, List.set_cons_succ, List.set_cons_zero]
          refine wpQuiet_step (fun K hK => ?_)
          rw [if_pos (by rfl)]
          refine ⟨.bool false, fun W hW => quiet_ok ?_, hK _ ?_⟩
          · have q := HX.out W hW
            obtain ⟨⟨m0, m1, m2, m3⟩, z0, _⟩ := q
            go_simp
            all_goals (try omega)
          clear hK K
          simp only [Act.put, List.setIfInBounds_toArray, List.set_cons_succ, List.set_cons_zero]
          refine wpQuiet_step (fun K hK => ?_)
          rw [if_pos (by rfl)]
          refine ⟨.bool u21, fun W hW => quiet_ok ?_, hK _ ?_⟩
          · have q := HX.out W hW
            obtain ⟨⟨m0, m1, m2, m3⟩, z0, _⟩ := q
            have v21 := HU21.out
            go_simp
            all_goals (try omega)
          clear hK K
          simp only [Act.put, List.setIfInBounds_toArray, List.set_cons_succ, List.set_cons_zero]
          refine BigFrame.wpQuiet_skip (by show (some u21 == some true) = false; rw [HU21.out]; rfl) ?_
          simp only [Act.put, List.setIfInBounds_toArray, List.set_cons_succ, List.set_cons_zero]
          refine BigFrame.wpQuiet_skip (by show (some u21 == some true) = false; rw [HU21.out]; rfl) ?_
          simp only [Act.put, List.setIfInBounds_toArray, List.set_cons_succ, List.set_cons_zero]
          refine BigFrame.wpQuiet_skip (by show (some u21 == some true) = false; rw [HU21.out]; rfl) ?_
          simp only [Act.put, List.setIfInBounds_toArray, List.set_cons_succ, List.set_cons_zero]
          refine BigFrame.wpQuiet_skip (by show (some u21 == some true) = false; rw [HU21.out]; rfl) ?_
          simp only [Act.put, List.setIfInBounds_toArray, List.set_cons_succ, List.set_cons_zero]
          refine BigFrame.wpQuiet_skip (by show (some u21 == some true) = false; rw [HU21.out]; rfl) ?_
          simp only [Act.put, List.setIfInBounds_toArray, List.set_cons_succ, List.set_cons_zero]
          refine BigFrame.wpQuiet_skip (by show (some u21 == some true) = false; rw [HU21.out]; rfl) ?_
          simp only [Act.put, List.setIfInBounds_toArray, List.set_cons_succ, List.set_cons_zero]
          refine BigFrame.wpQuiet_skip (by show (some u21 == some true) = false; rw [HU21.out]; rfl) ?_
          simp only [Act.put, List.setIfInBounds_toArray, List.set_cons_succ, List.set_cons_zero]
          refine BigFrame.wpQuiet_skip (by show (some u21 == some true) = false; rw [HU21.out]; rfl) ?_
          simp only [Act.put, List.setIfInBounds_toArray, List.set_cons_succ, List.set_cons_zero]
          refine BigFrame.wpQuiet_skip (by show (some u21 == some true) = false; rw [HU21.out]; rfl) ?_
          simp only [Act.put, List.setIfInBounds_toArray, List.set_cons_succ, List.set_cons_zero]
          refine wpQuiet_step (fun K hK => ?_)
          rw [if_pos (by rfl)]
          refine ⟨.bool false, fun W hW => quiet_ok ?_, hK _ ?_⟩
          · have q := HX.out W hW
            obtain ⟨⟨m0, m1, m2, m3⟩, z0, _⟩ := q
            have v21 := HU21.out
            go_simp
            all_goals (try omega)
          clear hK K
          simp only [Act.put, List.setIfInBounds_toArray, List.set_cons_succ, List.set_cons_zero]
          refine wpQuiet_step (fun K hK => ?_)
          rw [if_pos (by rfl)]
          refine ⟨.bool false, fun W hW => quiet_ok ?_, hK _ ?_⟩
          · have q := HX.out W hW
            obtain ⟨⟨m0, m1, m2, m3⟩, z0, _⟩ := q
            have v21 := HU21.out
            go_simp
            all_goals (try omega)
          clear hK K
          simp only [Act.put, List.setIfInBounds_toArray, List.set_cons_succ, List.set_cons_zero]
          refine wpQuiet_nil ?_
          intro W hW
          have hbW := (HX.out W hW).2.2
          go_wp2_with fail
          go_roundw
          case rel => exact ⟨k + 1, by omega, by go_num, HR, hbW⟩
          case measure => simp [intOf]; omega
        · obtain ⟨k1, HK1⟩ : ∃ k1, Hid (k = k1 + 1) := ⟨k - 1, by show _ = _; omega⟩
          have hs := HSUC.out (by omega) hd
          have hk1 : decide ((0 : Int) < (k : Int)) = true := by simp; omega
          have hk2 : (0 : Int) < (k : Int) := by omega
          have wk : IntKind.i64.wrap ((k : Int) - 1) = (k1 : Int) := by rw [wrap_small _ (by omega) (by omega)]; have := HK1.out; omega
          have hkk : (k1 : Int) < (L.length : Int) := by have := HK1.out; omega
          have HY : Hid (∀ W, Below W1.heap.size W1 W → W.cell? ⟨b, o + k1 * 4, none⟩ = some (.int .i64 y)) := HYY.out k1 HK1.out
          clear h0 HYY
          by_cases hge : x.1 ≤ y
          · have HR : Hid (okB L L.length = false) := hs.1 hge
            have hde : decide (x.1 ≤ y) = true := by simp; exact hge
            clear HBAD HZERO HSUC hd hs
            refine wp_region_quiet (C := fun W => Below W1.heap.size W1 W) (by kernel_rfl) (by kernel_rfl) hbd ?_
            refine wpQuiet_step (fun K hK => ?_)
            rw [if_pos (by rfl)]
            refine ⟨.agg #[.int .i64 x.1, .int .i64 x.2.1, .int .i64 x.2.2.1, .int .i64 x.2.2.2], fun W hW => quiet_ok ?_, hK _ ?_⟩
            · have q := HX.out W hW
              obtain ⟨⟨m0, m1, m2, m3⟩, z0, _⟩ := q
              have z2 := HY.out W hW
              go_simp
              all_goals (try omega)
            clear hK K
            simp only [Act.put, List.setIfInBounds_toArray, List.set_cons_succ, List.set_cons_zero]
            refine wpQuiet_step (fun K hK => ?_)
            rw [if_pos (by rfl)]
            refine ⟨.bool true, fun W hW => quiet_call (f := 87) (args := #[.agg #[.int .i64 x.1, .int .i64 x.2.1, .int .i64 x.2.2.1, .int .i64 x.2.2.2]]) ?_ ?_, hK _ ?_⟩
            · go_simp
            · exact (HDO.out W).mono fun e w'' h => ⟨h.1, HTR.out _ _ hW h.2⟩
            clear hK K
            simp only [Act.put, List.setIfInBounds_toArray, List.set_cons_succ, List.set_cons_zero]
            refine wpQuiet_step (fun K hK => ?_)
            rw [if_pos (by rfl)]
            refine ⟨.bool false, fun W hW => quiet_ok ?_, hK _ ?_⟩
            · have q := HX.out W hW
              obtain ⟨⟨m0, m1, m2, m3⟩, z0, _⟩ := q
              have z2 := HY.out W hW
              go_simp
              all_goals (try omega)
            clear hK K
            simp only [Act.put, List.setIfInBounds_toArray, List.set_cons_succ, List.set_cons_zero]
            refine wpQuiet_step (fun K hK => ?_)
            rw [if_pos (by rfl)]
            refine ⟨.bool false, fun W hW => quiet_ok ?_, hK _ ?_⟩
            · have q := HX.out W hW
              obtain ⟨⟨m0, m1, m2, m3⟩, z0, _⟩ := q
              have z2 := HY.out W hW
              go_simp
              all_goals (try omega)
            clear hK K
            simp only [Act.put, List.setIfInBounds_toArray, List.set_cons_succ, List.set_cons_zero]
            refine wpQuiet_step (fun K hK => ?_)
            rw [if_pos (by rfl)]
            refine ⟨.int .i64 (k : Int), fun W hW => quiet_ok ?_, hK _ ?_⟩
            · have q := HX.out W hW
              obtain ⟨⟨m0, m1, m2, m3⟩, z0, _⟩ := q
              have z2 := HY.out W hW
              go_simp
              all_goals (try omega)
            clear hK K
            simp only [Act.put, List.setIfInBounds_toArray, List.set_cons_succ, List.set_cons_zero]
            refine wpQuiet_step (fun K hK => ?_)
            rw [if_pos (by rfl)]
            refine ⟨.bool true, fun W hW => quiet_ok ?_, hK _ ?_⟩
            · have q := HX.out W hW
              obtain ⟨⟨m0, m1, m2, m3⟩, z0, _⟩ := q
              have z2 := HY.out W hW
              go_simp
              all_goals (try omega)
            clear hK K
            simp only [Act.put, List.setIfInBounds_toArray, List.set_cons_succ, List.set_cons_zero]
            refine wpQuiet_step (fun K hK => ?_)
            rw [if_pos (by rfl)]
            refine ⟨.bool true, fun W hW => quiet_ok ?_, hK _ ?_⟩
            · have q := HX.out W hW
              obtain ⟨⟨m0, m1, m2, m3⟩, z0, _⟩ := q
              have z2 := HY.out W hW
              go_simp
              all_goals (try omega)
            clear hK K
            simp only [Act.put, List.setIfInBounds_toArray, List.set_cons_succ, List.set_cons_zero]
            refine wpQuiet_step (fun K hK => ?_)
            rw [if_pos (by rfl)]
            refine ⟨.slice (some ⟨b, o, none⟩) L.length cap, fun W hW => quiet_ok ?_, hK _ ?_⟩
            · have q := HX.out W hW
              obtain ⟨⟨m0, m1, m2, m3⟩, z0, _⟩ := q
              have z2 := HY.out W hW
              go_simp
              all_goals (try omega)
            clear hK K
            simp only [Act.put, List.setIfInBounds_toArray, List.set_cons_succ, List.set_cons_zero]
            refine wpQuiet_step (fun K hK => ?_)
            rw [if_pos (by rfl)]
            refine ⟨.int .i64 (k : Int), fun W hW => quiet_ok ?_, hK _ ?_⟩
            · have q := HX.out W hW
              obtain ⟨⟨m0, m1, m2, m3⟩, z0, _⟩ := q
              have z2 := HY.out W hW
              go_simp
              all_goals (try omega)
            clear hK K
            simp only [Act.put, List.setIfInBounds_toArray, List.set_cons_succ, List.set_cons_zero]
            refine wpQuiet_step (fun K hK => ?_)
            rw [if_pos (by rfl)]
            refine ⟨.int .i64 (k1 : Int), fun W hW => quiet_ok ?_, hK _ ?_⟩
            · have q := HX.out W hW
              obtain ⟨⟨m0, m1, m2, m3⟩, z0, _⟩ := q
              have z2 := HY.out W hW
              go_simp
              all_goals (try omega)
            clear hK K
            simp only [Act.put, List.setIfInBounds_toArray, List.set_cons_succ, List.set_cons_zero]
            refine wpQuiet_step (fun K hK => ?_)
            rw [if_pos (by rfl)]
            refine ⟨.pointer (some ⟨b, o + k1 * 4, none⟩), fun W hW => quiet_ok ?_, hK _ ?_⟩
            · have q := HX.out W hW
              obtain ⟨⟨m0, m1, m2, m3⟩, z0, _⟩ := q
              have z2 := HY.out W hW
              go_simp
              all_goals (try omega)
            clear hK K
            simp only [Act.put, List.setIfInBounds_toArray, List.set_cons_succ, List.set_cons_zero]
            refine wpQuiet_step (fun K hK => ?_)
            rw [if_pos (by rfl)]
            refine ⟨.pointer (some ⟨b, o + k1 * 4, none⟩), fun W hW => quiet_ok ?_, hK _ ?_⟩
            · have q := HX.out W hW
              obtain ⟨⟨m0, m1, m2, m3⟩, z0, _⟩ := q
              have z2 := HY.out W hW
              go_simp
              all_goals (try omega)
            clear hK K
            simp only [Act.put, List.setIfInBounds_toArray, List.set_cons_succ, List.set_cons_zero]
            refine wpQuiet_step (fun K hK => ?_)
            rw [if_pos (by rfl)]
            refine ⟨.int .i64 y, fun W hW => quiet_ok ?_, hK _ ?_⟩
            · have q := HX.out W hW
              obtain ⟨⟨m0, m1, m2, m3⟩, z0, _⟩ := q
              have z2 := HY.out W hW
              go_simp
              all_goals (try omega)
            clear hK K
            simp only [Act.put, List.setIfInBounds_toArray, List.set_cons_succ, List.set_cons_zero]
            refine wpQuiet_step (fun K hK => ?_)
            rw [if_pos (by rfl)]
            refine ⟨.pointer (some ⟨wr.heap.size, 0, none⟩), fun W hW => quiet_ok ?_, hK _ ?_⟩
            · have q := HX.out W hW
              obtain ⟨⟨m0, m1, m2, m3⟩, z0, _⟩ := q
              have z2 := HY.out W hW
              go_simp
              all_goals (try omega)
            clear hK K
            simp only [Act.put, List.setIfInBounds_toArray, List.set_cons_succ, List.set_cons_zero]
            refine wpQuiet_step (fun K hK => ?_)
            rw [if_pos (by rfl)]
            refine ⟨.int .i64 x.1, fun W hW => quiet_ok ?_, hK _ ?_⟩
            · have q := HX.out W hW
              obtain ⟨⟨m0, m1, m2, m3⟩, z0, _⟩ := q
              have z2 := HY.out W hW
              go_simp
              all_goals (try omega)
            clear hK K
            simp only [Act.put, List.setIfInBounds_toArray, List.set_cons_succ, List.set_cons_zero]
            refine wpQuiet_step (fun K hK => ?_)
            rw [if_pos (by rfl)]
            refine ⟨.bool true, fun W hW => quiet_ok ?_, hK _ ?_⟩
            · have q := HX.out W hW
              obtain ⟨⟨m0, m1, m2, m3⟩, z0, _⟩ := q
              have z2 := HY.out W hW
              go_simp
              all_goals (try omega)
            clear hK K
            simp only [Act.put, List.setIfInBounds_toArray, List.set_cons_succ, List.set_cons_zero]
            refine wpQuiet_step (fun K hK => ?_)
            rw [if_pos (by rfl)]
            refine ⟨.bool true, fun W hW => quiet_ok ?_, hK _ ?_⟩
            · have q := HX.out W hW
              obtain ⟨⟨m0, m1, m2, m3⟩, z0, _⟩ := q
              have z2 := HY.out W hW
              go_simp
              all_goals (try omega)
            clear hK K
            simp only [Act.put, List.setIfInBounds_toArray, List.set_cons_succ, List.set_cons_zero]
            refine wpQuiet_step (fun K hK => ?_)
            rw [if_pos (by rfl)]
            refine ⟨.bool true, fun W hW => quiet_ok ?_, hK _ ?_⟩
            · have q := HX.out W hW
              obtain ⟨⟨m0, m1, m2, m3⟩, z0, _⟩ := q
              have z2 := HY.out W hW
              go_simp
              all_goals (try omega)
            clear hK K
            simp only [Act.put, List.setIfInBounds_toArray, List.set_cons_succ, List.set_cons_zero]
            refine wpQuiet_nil ?_
            intro W hW
            have hbW := (HX.out W hW).2.2
            go_wp2_with fail
            go_ret
            exact ⟨ret_bool HR.out.symm, hbW⟩
          · have HR : Hid (okB L (k + 1) = true) := hs.2 (by omega)
            have hde : decide (x.1 ≤ y) = false := by simp; omega
            clear HBAD HZERO HSUC hd hs
            refine wp_region_quiet (C := fun W => Below W1.heap.size W1 W) (by kernel_rfl) (by kernel_rfl) hbd ?_
            refine wpQuiet_step (fun K hK => ?_)
            rw [if_pos (by rfl)]
            refine ⟨.agg #[.int .i64 x.1, .int .i64 x.2.1, .int .i64 x.2.2.1, .int .i64 x.2.2.2], fun W hW => quiet_ok ?_, hK _ ?_⟩
            · have q := HX.out W hW
              obtain ⟨⟨m0, m1, m2, m3⟩, z0, _⟩ := q
              have z2 := HY.out W hW
              go_simp
              all_goals (try omega)
            clear hK K
            simp only [Act.put, List.setIfInBounds_toArray, List.set_cons_succ, List.set_cons_zero]
            refine wpQuiet_step (fun K hK => ?_)
            rw [if_pos (by rfl)]
            refine ⟨.bool true, fun W hW => quiet_call (f := 87) (args := #[.agg #[.int .i64 x.1, .int .i64 x.2.1, .int .i64 x.2.2.1, .int .i64 x.2.2.2]]) ?_ ?_, hK _ ?_⟩
            · go_simp
            · exact (HDO.out W).mono fun e w'' h => ⟨h.1, HTR.out _ _ hW h.2⟩
            clear hK K
            simp only [Act.put, List.setIfInBounds_toArray, List.set_cons_succ, List.set_cons_zero]
            refine wpQuiet_step (fun K hK => ?_)
            rw [if_pos (by rfl)]
            refine ⟨.bool false, fun W hW => quiet_ok ?_, hK _ ?_⟩
            · have q := HX.out W hW
              obtain ⟨⟨m0, m1, m2, m3⟩, z0, _⟩ := q
              have z2 := HY.out W hW
              go_simp
              all_goals (try omega)
            clear hK K
            simp only [Act.put, List.setIfInBounds_toArray, List.set_cons_succ, List.set_cons_zero]
            refine wpQuiet_step (fun K hK => ?_)
            rw [if_pos (by rfl)]
            refine ⟨.bool false, fun W hW => quiet_ok ?_, hK _ ?_⟩
            · have q := HX.out W hW
              obtain ⟨⟨m0, m1, m2, m3⟩, z0, _⟩ := q
              have z2 := HY.out W hW
              go_simp
              all_goals (try omega)
            clear hK K
            simp only [Act.put, List.setIfInBounds_toArray, List.set_cons_succ, List.set_cons_zero]
            refine wpQuiet_step (fun K hK => ?_)
            rw [if_pos (by rfl)]
            refine ⟨.int .i64 (k : Int), fun W hW => quiet_ok ?_, hK _ ?_⟩
            · have q := HX.out W hW
              obtain ⟨⟨m0, m1, m2, m3⟩, z0, _⟩ := q
              have z2 := HY.out W hW
              go_simp
              all_goals (try omega)
            clear hK K
            simp only [Act.put, List.setIfInBounds_toArray, List.set_cons_succ, List.set_cons_zero]
            refine wpQuiet_step (fun K hK => ?_)
            rw [if_pos (by rfl)]
            refine ⟨.bool true, fun W hW => quiet_ok ?_, hK _ ?_⟩
            · have q := HX.out W hW
              obtain ⟨⟨m0, m1, m2, m3⟩, z0, _⟩ := q
              have z2 := HY.out W hW
              go_simp
              all_goals (try omega)
            clear hK K
            simp only [Act.put, List.setIfInBounds_toArray, List.set_cons_succ, List.set_cons_zero]
            refine wpQuiet_step (fun K hK => ?_)
            rw [if_pos (by rfl)]
            refine ⟨.bool true, fun W hW => quiet_ok ?_, hK _ ?_⟩
            · have q := HX.out W hW
              obtain ⟨⟨m0, m1, m2, m3⟩, z0, _⟩ := q
              have z2 := HY.out W hW
              go_simp
              all_goals (try omega)
            clear hK K
            simp only [Act.put, List.setIfInBounds_toArray, List.set_cons_succ, List.set_cons_zero]
            refine wpQuiet_step (fun K hK => ?_)
            rw [if_pos (by rfl)]
            refine ⟨.slice (some ⟨b, o, none⟩) L.length cap, fun W hW => quiet_ok ?_, hK _ ?_⟩
            · have q := HX.out W hW
              obtain ⟨⟨m0, m1, m2, m3⟩, z0, _⟩ := q
              have z2 := HY.out W hW
              go_simp
              all_goals (try omega)
            clear hK K
            simp only [Act.put, List.setIfInBounds_toArray, List.set_cons_succ, List.set_cons_zero]
            refine wpQuiet_step (fun K hK => ?_)
            rw [if_pos (by rfl)]
            refine ⟨.int .i64 (k : Int), fun W hW => quiet_ok ?_, hK _ ?_⟩
            · have q := HX.out W hW
              obtain ⟨⟨m0, m1, m2, m3⟩, z0, _⟩ := q
              have z2 := HY.out W hW
              go_simp
              all_goals (try omega)
            clear hK K
            simp only [Act.put, List.setIfInBounds_toArray, List.set_cons_succ, List.set_cons_zero]
            refine wpQuiet_step (fun K hK => ?_)
            rw [if_pos (by rfl)]
            refine ⟨.int .i64 (k1 : Int), fun W hW => quiet_ok ?_, hK _ ?_⟩
            · have q := HX.out W hW
              obtain ⟨⟨m0, m1, m2, m3⟩, z0, _⟩ := q
              have z2 := HY.out W hW
              go_simp
              all_goals (try omega)
            clear hK K
            simp only [Act.put, List.setIfInBounds_toArray, List.set_cons_succ, List.set_cons_zero]
            refine wpQuiet_step (fun K hK => ?_)
            rw [if_pos (by rfl)]
            refine ⟨.pointer (some ⟨b, o + k1 * 4, none⟩), fun W hW => quiet_ok ?_, hK _ ?_⟩
            · have q := HX.out W hW
              obtain ⟨⟨m0, m1, m2, m3⟩, z0, _⟩ := q
              have z2 := HY.out W hW
              go_simp
              all_goals (try omega)
            clear hK K
            simp only [Act.put, List.setIfInBounds_toArray, List.set_cons_succ, List.set_cons_zero]
            refine wpQuiet_step (fun K hK => ?_)
            rw [if_pos (by rfl)]
            refine ⟨.pointer (some ⟨b, o + k1 * 4, none⟩), fun W hW => quiet_ok ?_, hK _ ?_⟩
            · have q := HX.out W hW
              obtain ⟨⟨m0, m1, m2, m3⟩, z0, _⟩ := q
              have z2 := HY.out W hW
              go_simp
              all_goals (try omega)
            clear hK K
            simp only [Act.put, List.setIfInBounds_toArray, List.set_cons_succ, List.set_cons_zero]
            refine wpQuiet_step (fun K hK => ?_)
            rw [if_pos (by rfl)]
            refine ⟨.int .i64 y, fun W hW => quiet_ok ?_, hK _ ?_⟩
            · have q := HX.out W hW
              obtain ⟨⟨m0, m1, m2, m3⟩, z0, _⟩ := q
              have z2 := HY.out W hW
              go_simp
              all_goals (try omega)
            clear hK K
            simp only [Act.put, List.setIfInBounds_toArray, List.set_cons_succ, List.set_cons_zero]
            refine wpQuiet_step (fun K hK => ?_)
            rw [if_pos (by rfl)]
            refine ⟨.pointer (some ⟨wr.heap.size, 0, none⟩), fun W hW => quiet_ok ?_, hK _ ?_⟩
            · have q := HX.out W hW
              obtain ⟨⟨m0, m1, m2, m3⟩, z0, _⟩ := q
              have z2 := HY.out W hW
              go_simp
              all_goals (try omega)
            clear hK K
            simp only [Act.put, List.setIfInBounds_toArray, List.set_cons_succ, List.set_cons_zero]
            refine wpQuiet_step (fun K hK => ?_)
            rw [if_pos (by rfl)]
            refine ⟨.int .i64 x.1, fun W hW => quiet_ok ?_, hK _ ?_⟩
            · have q := HX.out W hW
              obtain ⟨⟨m0, m1, m2, m3⟩, z0, _⟩ := q
              have z2 := HY.out W hW
              go_simp
              all_goals (try omega)
            clear hK K
            simp only [Act.put, List.setIfInBounds_toArray, List.set_cons_succ, List.set_cons_zero]
            refine wpQuiet_step (fun K hK => ?_)
            rw [if_pos (by rfl)]
            refine ⟨.bool false, fun W hW => quiet_ok ?_, hK _ ?_⟩
            · have q := HX.out W hW
              obtain ⟨⟨m0, m1, m2, m3⟩, z0, _⟩ := q
              have z2 := HY.out W hW
              go_simp
              all_goals (try omega)
            clear hK K
            simp only [Act.put, List.setIfInBounds_toArray, List.set_cons_succ, List.set_cons_zero]
            refine wpQuiet_step (fun K hK => ?_)
            rw [if_pos (by rfl)]
            refine ⟨.bool false, fun W hW => quiet_ok ?_, hK _ ?_⟩
            · have q := HX.out W hW
              obtain ⟨⟨m0, m1, m2, m3⟩, z0, _⟩ := q
              have z2 := HY.out W hW
              go_simp
              all_goals (try omega)
            clear hK K
            simp only [Act.put, List.setIfInBounds_toArray, List.set_cons_succ, List.set_cons_zero]
            refine wpQuiet_step (fun K hK => ?_)
            rw [if_pos (by rfl)]
            refine ⟨.bool false, fun W hW => quiet_ok ?_, hK _ ?_⟩
            · have q := HX.out W hW
              obtain ⟨⟨m0, m1, m2, m3⟩, z0, _⟩ := q
              have z2 := HY.out W hW
              go_simp
              all_goals (try omega)
            clear hK K
            simp only [Act.put, List.setIfInBounds_toArray, List.set_cons_succ, List.set_cons_zero]
            refine wpQuiet_nil ?_
            intro W hW
            have hbW := (HX.out W hW).2.2
            go_wp2_with fail
            go_roundw
            case rel => exact ⟨k + 1, by omega, by go_num, HR, hbW⟩
            case measure => simp [intOf]; omega
    · have HR : Hid (okB L L.length = true) := by have := HA.out; rw [show k = L.length by omega] at this; exact this
      go_wp2_with fail
      go_ret
      exact ⟨ret_bool HR.out.symm, hb⟩

set_option maxRecDepth 20000 in
set_option maxHeartbeats 2000000 in
theorem iGoodControl_any (nm : ByteArray) (ct : Int) (v vl : Value) (many : Int) (Q : List (List UInt8 × Int × Int × List UInt8)) (L : List DonT) (w : World) (hr : RRow w v Q) (hd : DonRow w vl L) (hap : nm.size ≤ 1048576) (hx : Hid (∀ x ∈ Q, x.1.length ≤ 1048576 ∧ x.2.2.2.length ≤ 1048576)) (hE : EnvZ w) :
    Calls Tryz.prog 12 #[CtlV nm ct v vl many] w fun e w' => e = .returned (.bool (ctlB nm.data.toList ct Q L many)) ∧ Below w.heap.size w w' := by
  unfold CtlV
  have HZ : Hid (∀ W, Below w.heap.size w W → Calls Tryz.prog 47 #[.agg #[.string nm, .int .i64 ct, v]] W fun e w' => e = .returned (.bool (zoneB nm.data.toList ct Q)) ∧ Below W.heap.size W w') := fun W hW => iGoodZone_any nm ct v Q W (hr.kept hW) hap hx (hE.below hW)
  have HL : Hid (∀ W, Below w.heap.size w W → Calls Tryz.prog 48 #[vl] W fun e w' => e = .returned (.bool (lastB L)) ∧ Below W.heap.size W w') := fun W hW => areLast_any vl L W (hd.kept hW)
  have HM : Hid (∀ W, Calls Tryz.prog 49 #[.int .i64 many, .int .i64 0, .int .i64 1000000] W fun e w' => e = .returned (.bool (inB many 0 1000000)) ∧ w' = W) := fun W => iWithin_anyY _ _ _ W
  obtain ⟨a, cap, rfl, _⟩ := id hr
  obtain ⟨al, capl, rfl, _⟩ := id hd
  unfold ctlB
  obtain ⟨b1, hb1⟩ : ∃ b, b = zoneB nm.data.toList ct Q := ⟨_, rfl⟩
  obtain ⟨b2, hb2⟩ : ∃ b, b = lastB L := ⟨_, rfl⟩
  obtain ⟨b3, hb3⟩ : ∃ b, b = inB many 0 1000000 := ⟨_, rfl⟩
  rw [← hb1] at HZ ⊢
  rw [← hb2] at HL ⊢
  rw [← hb3] at HM ⊢
  obtain ⟨W0, hW0⟩ : ∃ W0, W0 = w.alloc (.cells #[.string nm, .int .i64 ct, .slice a Q.length cap, .slice al L.length capl, .int .i64 many] 35) := ⟨_, rfl⟩
  have HW0 : Hid (w.alloc (.cells #[.string nm, .int .i64 ct, .slice a Q.length cap, .slice al L.length capl, .int .i64 many] 35) = W0) := hW0.symm
  have hb0 : Below w.heap.size w W0 := by rw [hW0]; exact (Below.refl _ _).alloc (Nat.le_refl _) _
  have hz0 : w.heap.size < W0.heap.size := by rw [hW0]; simp
  have hx0 : W0.heap[w.heap.size]? = some (.cells #[.string nm, .int .i64 ct, .slice a Q.length cap, .slice al L.length capl, .int .i64 many] 35) := by rw [hW0]; exact blk_new _ _
  have HC : Hid (∀ W, Below W0.heap.size W0 W → (W.cell? ⟨w.heap.size, 0, none⟩ = some (.string nm) ∧ W.cell? ⟨w.heap.size, 1, none⟩ = some (.int .i64 ct) ∧ W.cell? ⟨w.heap.size, 2, none⟩ = some (.slice a Q.length cap) ∧ W.cell? ⟨w.heap.size, 3, none⟩ = some (.slice al L.length capl) ∧ W.cell? ⟨w.heap.size, 4, none⟩ = some (.int .i64 many))) := fun W hW => (ctl_cells ((hW.block _ hz0).trans hx0)).1
  clear hb1 hb2 hb3 hr hd hW0 hx0
  obtain ⟨c0, c1, c2, c3, c4⟩ := HC.out W0 (Below.refl _ _)
  go_enter Tryz.func12, Tryz.ntmps12
  go_wp2_with (rw [HW0.out])
  refine (HZ.out _ hb0).mono ?_
  rintro e w1 ⟨rfl, hb1⟩
  clear c0 c1 c2 c3 c4
  have hbw1 := hb0.trans (hb1.mono hb0.size)
  obtain ⟨c0, c1, c2, c3, c4⟩ := HC.out w1 hb1
  cases b1 with
  | false =>
    go_wp2_with fail
    go_ret
    exact ⟨rfl, hbw1⟩
  | true =>
    go_wp2_with fail
    refine (HL.out _ hbw1).mono ?_
    rintro e w2 ⟨rfl, hb2⟩
    clear c0 c1 c2 c3 c4
    obtain ⟨c0, c1, c2, c3, c4⟩ := HC.out w2 (hb1.trans (hb2.mono hb1.size))
    have hbw2 := hbw1.trans (hb2.mono hbw1.size)
    cases b2 with
    | false =>
      go_wp2_with fail
      go_ret
      exact ⟨rfl, hbw2⟩
    | true =>
      go_wp2_with fail
      refine (HM.out _).mono ?_
      rintro e w3 ⟨rfl, rfl⟩
      go_wp2_with fail
      go_ret
      exact ⟨by simp, hbw2⟩
end Go.Proofs.YtoobaaklklommaaGreatDoor
