import Derived.Test.YtgfiahfoghnpkaaGreatDoorZ30
import Derived.Test.YtgfiahfoghnpkaaGreatDoorZ31
import Derived.Test.YtgfiahfoghnpkaaGreatDoorZ32
import Derived.BigQuiet
import Derived.Deep.QuietTactic
import Derived.Deep.RegionHeld3
namespace Go.Proofs.YtgfiahfoghnpkaaGreatDoor
open Go.RowKit

theorem one_up {L : List (List UInt8 × Int × Int × List UInt8)} {k : Nat} (hk : k < L.length) (h : ∀ j, (hj : j < L.length) → j < k → oneOf (hdR L) L[j] = true) (h2 : oneOf (hdR L) L[k] = true) : ∀ j, (hj : j < L.length) → j < k + 1 → oneOf (hdR L) L[j] = true := fun j hj hjk => by
  rcases Nat.lt_or_ge j k with h' | h'
  · exact h j hj h'
  · obtain rfl : j = k := by omega
    exact h2

set_option maxRecDepth 20000 in
set_option maxHeartbeats 8000000 in
theorem areAnswer_any (v : Value) (L : List (List UInt8 × Int × Int × List UInt8)) (w : World) (hr : RRow w v L) (hx : Hid (∀ x ∈ L, x.1.length ≤ 1048576 ∧ x.2.2.2.length ≤ 1048576)) (hE : EnvR w) :
    Calls Tryz.prog 39 #[v] w fun e w' => e = .returned (.bool (ansB L)) ∧ Below w.heap.size w w' := by
  have HAR : Hid (∀ W, Below w.heap.size w W → Calls Tryz.prog 69 #[v] W fun e w' => e = .returned (.bool (aresB L)) ∧ Below W.heap.size W w') := fun W hW => areRecords_any v L W (hr.kept hW) hx (hE.below hW)
  have HRI : Hid (∀ W, Below w.heap.size w W → Calls Tryz.prog 71 #[v] W fun e w' => e = .returned (.bool (risesB L)) ∧ Below W.heap.size W w') := fun W hW => areRising_any v L W (hr.kept hW) hx (hE.below hW)
  have HOW : Hid (∀ (x : (List UInt8 × Int × Int × List UInt8)) W, Calls Tryz.prog 70 #[.agg #[.string ⟨x.1.toArray⟩, .int .i64 x.2.1, .int .i64 x.2.2.1, .string ⟨x.2.2.2.toArray⟩]] W fun e w' => e = .returned (.agg #[.string ⟨x.1.toArray⟩, .int .i64 x.2.1]) ∧ Below W.heap.size W w') := fun x W => ownerOf_any ⟨x.1.toArray⟩ ⟨x.2.2.2.toArray⟩ x.2.1 x.2.2.1 W
  obtain ⟨a, cap, rfl, hcap, hmax, hrow⟩ := hr
  have HROW : Hid (L = [] ∨ ∃ b o, a = some ⟨b, o, none⟩ ∧ b < w.heap.size ∧ ∀ j, (hj : j < L.length) → RecAt w b (o + j * 4) L[j]) := hrow
  obtain ⟨r, hrr⟩ : ∃ r, r = ansB L := ⟨_, rfl⟩
  have HRR : Hid (r = ansB L) := hrr
  rw [← hrr]
  unfold maxLen at hmax
  clear hrr hrow hE
  by_cases g1 : L.length < 1
  · have HF : Hid (r = false) := HRR.out.trans (ans_len (by omega))
    have g1i : (L.length : Int) < 1 := by omega
    clear g1
    go_enter Tryz.func39, Tryz.ntmps39
    go_wp2_with fail
    go_ret
    exact ⟨ret_bool HF.out.symm, Below.refl _ _⟩
  by_cases g2 : 12 < L.length
  · have HF : Hid (r = false) := HRR.out.trans (ans_len (by omega))
    have g1i : ¬ (L.length : Int) < 1 := by omega
    have g2i : (12 : Int) < (L.length : Int) := by omega
    clear g1 g2
    go_enter Tryz.func39, Tryz.ntmps39
    go_wp2_with fail
    go_ret
    exact ⟨ret_bool HF.out.symm, Below.refl _ _⟩
  have g1i : ¬ (L.length : Int) < 1 := by omega
  have g2i : ¬ (12 : Int) < (L.length : Int) := by omega
  cases g3 : aresB L with
  | false =>
    have HF : Hid (r = false) := HRR.out.trans (ans_rec g3)
    rw [g3] at HAR
    clear g1 g2 g3
    go_enter Tryz.func39, Tryz.ntmps39
    go_wp2_with fail
    refine (HAR.out _ (Below.refl _ _)).mono ?_
    rintro e w1 ⟨rfl, hb1⟩
    go_wp2_with fail
    go_ret
    exact ⟨ret_bool HF.out.symm, hb1⟩
  | true =>
  rw [g3] at HAR
  have HEND : Hid ((∀ j, (hj : j < L.length) → oneOf (hdR L) L[j] = true) → r = risesB L) := fun h => HRR.out.trans (ans_part ⟨by omega, by omega⟩ g3 h)
  have hl1 : 1 ≤ L.length := by omega
  clear g1 g2 g3
  go_enter Tryz.func39, Tryz.ntmps39
  go_wp2_with fail
  refine (HAR.out _ (Below.refl _ _)).mono ?_
  rintro e w1 ⟨rfl, hb1⟩
  clear HAR
  go_wp2_with fail
  go_loopw [20] (fun i wr => ∃ k : Nat, k ≤ L.length ∧ i = .int .i64 (k : Int) ∧ Hid (∀ j, (hj : j < L.length) → j < k → oneOf (hdR L) L[j] = true) ∧ Below w.heap.size w wr) (fun i _ => L.length - (intOf i).toNat)
  case atStart => exact ⟨0, Nat.zero_le _, rfl, fun j _ h => absurd h (Nat.not_lt_zero _), hb1⟩
  case round =>
    obtain ⟨k, hk, rfl, HA, hb⟩ := hrel
    clear hb1
    by_cases hlt : k < L.length
    · rcases HROW.out with hr | ⟨b, o, ha, hbl, hcel⟩
      · rw [hr] at hlt; simp at hlt
      · rw [ha]
        have hcx := (hcel k hlt).kept hb
        unfold RecAt at hcx
        obtain ⟨c0, c1, c2, c3⟩ := hcx
        have hc0 := hcel 0 (by omega)
        rw [Nat.zero_mul, Nat.add_zero] at hc0
        have HBAD : Hid (oneOf (L[0]'(by omega)) (L[k]'hlt) = false → r = false) := fun h => HRR.out.trans (ans_one k hlt (by rw [hdR_at (show 0 < L.length by omega)]; exact h))
        have HUP : Hid (oneOf (L[0]'(by omega)) (L[k]'hlt) = true → ∀ j, (hj : j < L.length) → j < k + 1 → oneOf (hdR L) L[j] = true) := fun h => one_up hlt HA.out (by rw [hdR_at (show 0 < L.length by omega)]; exact h)
        obtain ⟨h, hhe⟩ : ∃ h, h = L[0]'(by omega) := ⟨_, rfl⟩
        obtain ⟨x, hxe⟩ : ∃ x, x = L[k]'hlt := ⟨_, rfl⟩
        rw [← hhe] at hc0 HBAD HUP
        rw [← hxe] at c0 c1 c2 c3 HBAD HUP
        have HOX0 := HOW.out x
        have HOH0 := HOW.out h
        clear hcel hxe hhe
        obtain ⟨xn, xt, xl, xd⟩ := x
        obtain ⟨hn, ht, hl, hd⟩ := h
        have HOX : Hid (∀ W, Calls Tryz.prog 70 #[.agg #[.string ⟨xn.toArray⟩, .int .i64 xt, .int .i64 xl, .string ⟨xd.toArray⟩]] W fun e w' => e = .returned (.agg #[.string ⟨xn.toArray⟩, .int .i64 xt]) ∧ Below W.heap.size W w') := HOX0
        have HOH : Hid (∀ W, Calls Tryz.prog 70 #[.agg #[.string ⟨hn.toArray⟩, .int .i64 ht, .int .i64 hl, .string ⟨hd.toArray⟩]] W fun e w' => e = .returned (.agg #[.string ⟨hn.toArray⟩, .int .i64 ht]) ∧ Below W.heap.size W w') := HOH0
        obtain ⟨W0, hW0⟩ : ∃ W0, W0 = wr.alloc (.cells #[.string ⟨xn.toArray⟩, .int .i64 xt, .int .i64 xl, .string ⟨xd.toArray⟩] 61) := ⟨_, rfl⟩
        have HW0 : Hid (wr.alloc (.cells #[.string ⟨xn.toArray⟩, .int .i64 xt, .int .i64 xl, .string ⟨xd.toArray⟩] 61) = W0) := hW0.symm
        obtain ⟨gx, hgx⟩ : ∃ gx, gx = wr.heap.size := ⟨_, rfl⟩
        have HGX : Hid (wr.heap.size = gx) := hgx.symm
        have HTR : Hid (∀ W W', Below W0.heap.size W0 W → Below W.heap.size W W' → Below W0.heap.size W0 W') := fun W W' h1 h2 => h1.trans (h2.mono h1.size)
        have hbd : Below W0.heap.size W0 W0.drew := (Below.refl _ _).drew
        have HX : Hid (∀ W, Below W0.heap.size W0 W → (W.cell? ⟨gx, 0, none⟩ = some (.string ⟨xn.toArray⟩) ∧ W.cell? ⟨gx, 1, none⟩ = some (.int .i64 xt) ∧ W.cell? ⟨gx, 2, none⟩ = some (.int .i64 xl) ∧ W.cell? ⟨gx, 3, none⟩ = some (.string ⟨xd.toArray⟩)) ∧ Below wr.heap.size wr W) := fun W hW => by
          rw [hW0] at hW
          have h := box4 hW
          rw [hgx]
          exact ⟨⟨h.1, h.2.1, h.2.2.1, h.2.2.2.1⟩, h.2.2.2.2⟩
        have HBW : Hid (∀ W, Below W0.heap.size W0 W → Below w.heap.size w W) := fun W hW => hb.trans ((HX.out W hW).2.mono hb.size)
        have HH : Hid (∀ W, Below W0.heap.size W0 W → W.cell? ⟨b, o, none⟩ = some (.string ⟨hn.toArray⟩) ∧ W.cell? ⟨b, o + 1, none⟩ = some (.int .i64 ht) ∧ W.cell? ⟨b, o + 2, none⟩ = some (.int .i64 hl) ∧ W.cell? ⟨b, o + 3, none⟩ = some (.string ⟨hd.toArray⟩)) := fun W hW => hc0.kept (HBW.out W hW)
        have hl0 : (0 : Int) < (L.length : Int) := by omega
        have hLn : ¬ L = [] := fun e => by rw [e] at hlt; simp at hlt
        have hlk : (k : Int) < (L.length : Int) := by omega
        clear hW0 hgx hc0 HOX0 HOH0
        by_cases hs : xn = hn ∧ xt = ht
        case neg =>
          have HF : Hid (r = false) := HBAD.out (one_not (fun g => hs ⟨g.1, g.2.1⟩))
          have HE : Hid (xn = hn → ¬ xt = ht) := fun g1 g2 => hs ⟨g1, g2⟩
          clear HBAD HUP hs
          obtain ⟨u31, hu31⟩ : ∃ u : Bool, u = true := ⟨_, rfl⟩
          have HU31 : Hid (u31 = true) := hu31
          clear hu31
          go_wp2_with fail
          rw [HW0.out, HGX.out]
          refine wp_region_quiet (C := fun W => Below W0.heap.size W0 W) (by kernel_rfl) (by kernel_rfl) hbd ?_
          refine wpQuiet_step (fun K hK => ?_)
          rw [if_pos (by rfl)]
          refine ⟨.agg #[.string ⟨xn.toArray⟩, .int .i64 xt, .int .i64 xl, .string ⟨xd.toArray⟩], fun W hW => quiet_ok ?_, hK _ ?_⟩
          · have q := HX.out W hW
            obtain ⟨⟨m0, m1, m2, m3⟩, _⟩ := q
            have q2 := HH.out W hW
            obtain ⟨z0, z1, z2, z3⟩ := q2
            go_simp
            all_goals (try omega)
          clear hK K
          simp only [Act.put, List.setIfInBounds_toArray, List.set_cons_succ, List.set_cons_zero]
          refine wpQuiet_step (fun K hK => ?_)
          rw [if_pos (by rfl)]
          refine ⟨.agg #[.string ⟨xn.toArray⟩, .int .i64 xt], fun W hW => quiet_call (f := 70) (args := #[.agg #[.string ⟨xn.toArray⟩, .int .i64 xt, .int .i64 xl, .string ⟨xd.toArray⟩]]) ?_ ?_, hK _ ?_⟩
          · go_simp
          · exact (HOX.out W).mono fun e w'' h => ⟨h.1, HTR.out _ _ hW h.2⟩
          clear hK K
          simp only [Act.put, List.setIfInBounds_toArray, List.set_cons_succ, List.set_cons_zero]
          refine wpQuiet_step (fun K hK => ?_)
          rw [if_pos (by rfl)]
          refine ⟨.slice (some ⟨b, o, none⟩) L.length cap, fun W hW => quiet_ok ?_, hK _ ?_⟩
          · have q := HX.out W hW
            obtain ⟨⟨m0, m1, m2, m3⟩, _⟩ := q
            have q2 := HH.out W hW
            obtain ⟨z0, z1, z2, z3⟩ := q2
            go_simp
            all_goals (try omega)
          clear hK K
          simp only [Act.put, List.setIfInBounds_toArray, List.set_cons_succ, List.set_cons_zero]
          refine wpQuiet_step (fun K hK => ?_)
          rw [if_pos (by rfl)]
          refine ⟨.pointer (some ⟨b, o, none⟩), fun W hW => quiet_ok ?_, hK _ ?_⟩
          · have q := HX.out W hW
            obtain ⟨⟨m0, m1, m2, m3⟩, _⟩ := q
            have q2 := HH.out W hW
            obtain ⟨z0, z1, z2, z3⟩ := q2
            go_simp
            all_goals (try omega)
          clear hK K
          simp only [Act.put, List.setIfInBounds_toArray, List.set_cons_succ, List.set_cons_zero]
          refine wpQuiet_step (fun K hK => ?_)
          rw [if_pos (by rfl)]
          refine ⟨.agg #[.string ⟨hn.toArray⟩, .int .i64 ht, .int .i64 hl, .string ⟨hd.toArray⟩], fun W hW => quiet_ok ?_, hK _ ?_⟩
          · have q := HX.out W hW
            obtain ⟨⟨m0, m1, m2, m3⟩, _⟩ := q
            have q2 := HH.out W hW
            obtain ⟨z0, z1, z2, z3⟩ := q2
            go_simp
            all_goals (try omega)
          clear hK K
          simp only [Act.put, List.setIfInBounds_toArray, List.set_cons_succ, List.set_cons_zero]
          refine wpQuiet_step (fun K hK => ?_)
          rw [if_pos (by rfl)]
          refine ⟨.agg #[.string ⟨hn.toArray⟩, .int .i64 ht], fun W hW => quiet_call (f := 70) (args := #[.agg #[.string ⟨hn.toArray⟩, .int .i64 ht, .int .i64 hl, .string ⟨hd.toArray⟩]]) ?_ ?_, hK _ ?_⟩
          · go_simp
          · exact (HOH.out W).mono fun e w'' h => ⟨h.1, HTR.out _ _ hW h.2⟩
          clear hK K
          simp only [Act.put, List.setIfInBounds_toArray, List.set_cons_succ, List.set_cons_zero]
          refine wpQuiet_step (fun K hK => ?_)
          rw [if_pos (by rfl)]
          refine ⟨.bool true, fun W hW => quiet_ok ?_, hK _ ?_⟩
          · go_simp
            exact HE.out
          clear hK K
          simp only [Act.put, List.setIfInBounds_toArray, List.set_cons_succ, List.set_cons_zero]
          refine wpQuiet_step (fun K hK => ?_)
          rw [if_pos (by rfl)]
          refine ⟨.bool u31, fun W hW => quiet_ok ?_, hK _ ?_⟩
          · have q := HX.out W hW
            obtain ⟨⟨m0, m1, m2, m3⟩, _⟩ := q
            have q2 := HH.out W hW
            obtain ⟨z0, z1, z2, z3⟩ := q2
            have v31 := HU31.out
            go_simp
            all_goals (try omega)
          clear hK K
          simp only [Act.put, List.setIfInBounds_toArray, List.set_cons_succ, List.set_cons_zero]
          refine BigFrame.wpQuiet_skip (by show (some u31 == some false) = false; rw [HU31.out]; rfl) ?_
          simp only [Act.put, List.setIfInBounds_toArray, List.set_cons_succ, List.set_cons_zero]
          refine BigFrame.wpQuiet_skip (by show (some u31 == some false) = false; rw [HU31.out]; rfl) ?_
          simp only [Act.put, List.setIfInBounds_toArray, List.set_cons_succ, List.set_cons_zero]
          refine BigFrame.wpQuiet_skip (by show (some u31 == some false) = false; rw [HU31.out]; rfl) ?_
          simp only [Act.put, List.setIfInBounds_toArray, List.set_cons_succ, List.set_cons_zero]
          refine BigFrame.wpQuiet_skip (by show (some u31 == some false) = false; rw [HU31.out]; rfl) ?_
          simp only [Act.put, List.setIfInBounds_toArray, List.set_cons_succ, List.set_cons_zero]
          refine BigFrame.wpQuiet_skip (by show (some u31 == some false) = false; rw [HU31.out]; rfl) ?_
          simp only [Act.put, List.setIfInBounds_toArray, List.set_cons_succ, List.set_cons_zero]
          refine BigFrame.wpQuiet_skip (by show (some u31 == some false) = false; rw [HU31.out]; rfl) ?_
          simp only [Act.put, List.setIfInBounds_toArray, List.set_cons_succ, List.set_cons_zero]
          refine BigFrame.wpQuiet_skip (by show (some u31 == some false) = false; rw [HU31.out]; rfl) ?_
          simp only [Act.put, List.setIfInBounds_toArray, List.set_cons_succ, List.set_cons_zero]
          refine wpQuiet_step (fun K hK => ?_)
          rw [if_pos (by rfl)]
          refine ⟨.bool true, fun W hW => quiet_ok ?_, hK _ ?_⟩
          · have q := HX.out W hW
            obtain ⟨⟨m0, m1, m2, m3⟩, _⟩ := q
            have q2 := HH.out W hW
            obtain ⟨z0, z1, z2, z3⟩ := q2
            have v31 := HU31.out
            go_simp
            all_goals (try omega)
          clear hK K
          simp only [Act.put, List.setIfInBounds_toArray, List.set_cons_succ, List.set_cons_zero]
          refine wpQuiet_nil ?_
          intro W hW
          have hbW := HBW.out W hW
          go_wp2_with fail
          go_ret
          exact ⟨ret_bool HF.out.symm, hbW⟩
        have HE : Hid (true = (xn == hn && xt == ht)) := own_on hs.1 hs.2
        by_cases g3 : xl = hl
        case neg =>
          have HF : Hid (r = false) := HBAD.out (one_not (fun g => g3 g.2.2))
          have e3 : (xl == hl) = false := by simpa using g3
          have e3' : (xl != hl) = true := by simpa using g3
          clear HBAD HUP hs g3
          go_wp2_with fail
          rw [HW0.out, HGX.out]
          refine wp_region_quiet (C := fun W => Below W0.heap.size W0 W) (by kernel_rfl) (by kernel_rfl) hbd ?_
          refine wpQuiet_step (fun K hK => ?_)
          rw [if_pos (by rfl)]
          refine ⟨.agg #[.string ⟨xn.toArray⟩, .int .i64 xt, .int .i64 xl, .string ⟨xd.toArray⟩], fun W hW => quiet_ok ?_, hK _ ?_⟩
          · have q := HX.out W hW
            obtain ⟨⟨m0, m1, m2, m3⟩, _⟩ := q
            have q2 := HH.out W hW
            obtain ⟨z0, z1, z2, z3⟩ := q2
            go_simp
            all_goals (try omega)
          clear hK K
          simp only [Act.put, List.setIfInBounds_toArray, List.set_cons_succ, List.set_cons_zero]
          refine wpQuiet_step (fun K hK => ?_)
          rw [if_pos (by rfl)]
          refine ⟨.agg #[.string ⟨xn.toArray⟩, .int .i64 xt], fun W hW => quiet_call (f := 70) (args := #[.agg #[.string ⟨xn.toArray⟩, .int .i64 xt, .int .i64 xl, .string ⟨xd.toArray⟩]]) ?_ ?_, hK _ ?_⟩
          · go_simp
          · exact (HOX.out W).mono fun e w'' h => ⟨h.1, HTR.out _ _ hW h.2⟩
          clear hK K
          simp only [Act.put, List.setIfInBounds_toArray, List.set_cons_succ, List.set_cons_zero]
          refine wpQuiet_step (fun K hK => ?_)
          rw [if_pos (by rfl)]
          refine ⟨.slice (some ⟨b, o, none⟩) L.length cap, fun W hW => quiet_ok ?_, hK _ ?_⟩
          · have q := HX.out W hW
            obtain ⟨⟨m0, m1, m2, m3⟩, _⟩ := q
            have q2 := HH.out W hW
            obtain ⟨z0, z1, z2, z3⟩ := q2
            go_simp
            all_goals (try omega)
          clear hK K
          simp only [Act.put, List.setIfInBounds_toArray, List.set_cons_succ, List.set_cons_zero]
          refine wpQuiet_step (fun K hK => ?_)
          rw [if_pos (by rfl)]
          refine ⟨.pointer (some ⟨b, o, none⟩), fun W hW => quiet_ok ?_, hK _ ?_⟩
          · have q := HX.out W hW
            obtain ⟨⟨m0, m1, m2, m3⟩, _⟩ := q
            have q2 := HH.out W hW
            obtain ⟨z0, z1, z2, z3⟩ := q2
            go_simp
            all_goals (try omega)
          clear hK K
          simp only [Act.put, List.setIfInBounds_toArray, List.set_cons_succ, List.set_cons_zero]
          refine wpQuiet_step (fun K hK => ?_)
          rw [if_pos (by rfl)]
          refine ⟨.agg #[.string ⟨hn.toArray⟩, .int .i64 ht, .int .i64 hl, .string ⟨hd.toArray⟩], fun W hW => quiet_ok ?_, hK _ ?_⟩
          · have q := HX.out W hW
            obtain ⟨⟨m0, m1, m2, m3⟩, _⟩ := q
            have q2 := HH.out W hW
            obtain ⟨z0, z1, z2, z3⟩ := q2
            go_simp
            all_goals (try omega)
          clear hK K
          simp only [Act.put, List.setIfInBounds_toArray, List.set_cons_succ, List.set_cons_zero]
          refine wpQuiet_step (fun K hK => ?_)
          rw [if_pos (by rfl)]
          refine ⟨.agg #[.string ⟨hn.toArray⟩, .int .i64 ht], fun W hW => quiet_call (f := 70) (args := #[.agg #[.string ⟨hn.toArray⟩, .int .i64 ht, .int .i64 hl, .string ⟨hd.toArray⟩]]) ?_ ?_, hK _ ?_⟩
          · go_simp
          · exact (HOH.out W).mono fun e w'' h => ⟨h.1, HTR.out _ _ hW h.2⟩
          clear hK K
          simp only [Act.put, List.setIfInBounds_toArray, List.set_cons_succ, List.set_cons_zero]
          refine wpQuiet_step (fun K hK => ?_)
          rw [if_pos (by rfl)]
          refine ⟨.bool false, fun W hW => quiet_ok ?_, hK _ ?_⟩
          · go_simp
            exact own_if (fun b => Result.ok (Next.value (Value.bool !b)) W) HE.out
          clear hK K
          simp only [Act.put, List.setIfInBounds_toArray, List.set_cons_succ, List.set_cons_zero]
          refine wpQuiet_step (fun K hK => ?_)
          rw [if_pos (by rfl)]
          refine ⟨.bool false, fun W hW => quiet_ok ?_, hK _ ?_⟩
          · have q := HX.out W hW
            obtain ⟨⟨m0, m1, m2, m3⟩, _⟩ := q
            have q2 := HH.out W hW
            obtain ⟨z0, z1, z2, z3⟩ := q2
            go_simp
            all_goals (try omega)
          clear hK K
          simp only [Act.put, List.setIfInBounds_toArray, List.set_cons_succ, List.set_cons_zero]
          refine wpQuiet_step (fun K hK => ?_)
          rw [if_pos (by rfl)]
          refine ⟨.pointer (some ⟨gx, 2, none⟩), fun W hW => quiet_ok ?_, hK _ ?_⟩
          · have q := HX.out W hW
            obtain ⟨⟨m0, m1, m2, m3⟩, _⟩ := q
            have q2 := HH.out W hW
            obtain ⟨z0, z1, z2, z3⟩ := q2
            go_simp
            all_goals (try omega)
          clear hK K
          simp only [Act.put, List.setIfInBounds_toArray, List.set_cons_succ, List.set_cons_zero]
          refine wpQuiet_step (fun K hK => ?_)
          rw [if_pos (by rfl)]
          refine ⟨.int .i64 xl, fun W hW => quiet_ok ?_, hK _ ?_⟩
          · have q := HX.out W hW
            obtain ⟨⟨m0, m1, m2, m3⟩, _⟩ := q
            have q2 := HH.out W hW
            obtain ⟨z0, z1, z2, z3⟩ := q2
            go_simp
            all_goals (try omega)
          clear hK K
          simp only [Act.put, List.setIfInBounds_toArray, List.set_cons_succ, List.set_cons_zero]
          refine wpQuiet_step (fun K hK => ?_)
          rw [if_pos (by rfl)]
          refine ⟨.slice (some ⟨b, o, none⟩) L.length cap, fun W hW => quiet_ok ?_, hK _ ?_⟩
          · have q := HX.out W hW
            obtain ⟨⟨m0, m1, m2, m3⟩, _⟩ := q
            have q2 := HH.out W hW
            obtain ⟨z0, z1, z2, z3⟩ := q2
            go_simp
            all_goals (try omega)
          clear hK K
          simp only [Act.put, List.setIfInBounds_toArray, List.set_cons_succ, List.set_cons_zero]
          refine wpQuiet_step (fun K hK => ?_)
          rw [if_pos (by rfl)]
          refine ⟨.pointer (some ⟨b, o, none⟩), fun W hW => quiet_ok ?_, hK _ ?_⟩
          · have q := HX.out W hW
            obtain ⟨⟨m0, m1, m2, m3⟩, _⟩ := q
            have q2 := HH.out W hW
            obtain ⟨z0, z1, z2, z3⟩ := q2
            go_simp
            all_goals (try omega)
          clear hK K
          simp only [Act.put, List.setIfInBounds_toArray, List.set_cons_succ, List.set_cons_zero]
          refine wpQuiet_step (fun K hK => ?_)
          rw [if_pos (by rfl)]
          refine ⟨.pointer (some ⟨b, o + 2, none⟩), fun W hW => quiet_ok ?_, hK _ ?_⟩
          · have q := HX.out W hW
            obtain ⟨⟨m0, m1, m2, m3⟩, _⟩ := q
            have q2 := HH.out W hW
            obtain ⟨z0, z1, z2, z3⟩ := q2
            go_simp
            all_goals (try omega)
          clear hK K
          simp only [Act.put, List.setIfInBounds_toArray, List.set_cons_succ, List.set_cons_zero]
          refine wpQuiet_step (fun K hK => ?_)
          rw [if_pos (by rfl)]
          refine ⟨.int .i64 hl, fun W hW => quiet_ok ?_, hK _ ?_⟩
          · have q := HX.out W hW
            obtain ⟨⟨m0, m1, m2, m3⟩, _⟩ := q
            have q2 := HH.out W hW
            obtain ⟨z0, z1, z2, z3⟩ := q2
            go_simp
            all_goals (try omega)
          clear hK K
          simp only [Act.put, List.setIfInBounds_toArray, List.set_cons_succ, List.set_cons_zero]
          refine wpQuiet_step (fun K hK => ?_)
          rw [if_pos (by rfl)]
          refine ⟨.bool true, fun W hW => quiet_ok ?_, hK _ ?_⟩
          · have q := HX.out W hW
            obtain ⟨⟨m0, m1, m2, m3⟩, _⟩ := q
            have q2 := HH.out W hW
            obtain ⟨z0, z1, z2, z3⟩ := q2
            go_simp
            all_goals (try omega)
          clear hK K
          simp only [Act.put, List.setIfInBounds_toArray, List.set_cons_succ, List.set_cons_zero]
          refine wpQuiet_step (fun K hK => ?_)
          rw [if_pos (by rfl)]
          refine ⟨.bool true, fun W hW => quiet_ok ?_, hK _ ?_⟩
          · have q := HX.out W hW
            obtain ⟨⟨m0, m1, m2, m3⟩, _⟩ := q
            have q2 := HH.out W hW
            obtain ⟨z0, z1, z2, z3⟩ := q2
            go_simp
            all_goals (try omega)
          clear hK K
          simp only [Act.put, List.setIfInBounds_toArray, List.set_cons_succ, List.set_cons_zero]
          refine wpQuiet_nil ?_
          intro W hW
          have hbW := HBW.out W hW
          go_wp2_with fail
          go_ret
          exact ⟨ret_bool HF.out.symm, hbW⟩
        have e3 : (xl == hl) = true := by simpa using g3
        have e3' : (xl != hl) = false := by simpa using g3
        have HU : Hid (∀ j, (hj : j < L.length) → j < k + 1 → oneOf (hdR L) L[j] = true) := HUP.out ((one_iff _ _).2 ⟨hs.1, hs.2, g3⟩)
        clear HBAD HUP hs g3
        go_wp2_with fail
        rw [HW0.out, HGX.out]
        refine wp_region_quiet (C := fun W => Below W0.heap.size W0 W) (by kernel_rfl) (by kernel_rfl) hbd ?_
        refine wpQuiet_step (fun K hK => ?_)
        rw [if_pos (by rfl)]
        refine ⟨.agg #[.string ⟨xn.toArray⟩, .int .i64 xt, .int .i64 xl, .string ⟨xd.toArray⟩], fun W hW => quiet_ok ?_, hK _ ?_⟩
        · have q := HX.out W hW
          obtain ⟨⟨m0, m1, m2, m3⟩, _⟩ := q
          have q2 := HH.out W hW
          obtain ⟨z0, z1, z2, z3⟩ := q2
          go_simp
          all_goals (try omega)
        clear hK K
        simp only [Act.put, List.setIfInBounds_toArray, List.set_cons_succ, List.set_cons_zero]
        refine wpQuiet_step (fun K hK => ?_)
        rw [if_pos (by rfl)]
        refine ⟨.agg #[.string ⟨xn.toArray⟩, .int .i64 xt], fun W hW => quiet_call (f := 70) (args := #[.agg #[.string ⟨xn.toArray⟩, .int .i64 xt, .int .i64 xl, .string ⟨xd.toArray⟩]]) ?_ ?_, hK _ ?_⟩
        · go_simp
        · exact (HOX.out W).mono fun e w'' h => ⟨h.1, HTR.out _ _ hW h.2⟩
        clear hK K
        simp only [Act.put, List.setIfInBounds_toArray, List.set_cons_succ, List.set_cons_zero]
        refine wpQuiet_step (fun K hK => ?_)
        rw [if_pos (by rfl)]
        refine ⟨.slice (some ⟨b, o, none⟩) L.length cap, fun W hW => quiet_ok ?_, hK _ ?_⟩
        · have q := HX.out W hW
          obtain ⟨⟨m0, m1, m2, m3⟩, _⟩ := q
          have q2 := HH.out W hW
          obtain ⟨z0, z1, z2, z3⟩ := q2
          go_simp
          all_goals (try omega)
        clear hK K
        simp only [Act.put, List.setIfInBounds_toArray, List.set_cons_succ, List.set_cons_zero]
        refine wpQuiet_step (fun K hK => ?_)
        rw [if_pos (by rfl)]
        refine ⟨.pointer (some ⟨b, o, none⟩), fun W hW => quiet_ok ?_, hK _ ?_⟩
        · have q := HX.out W hW
          obtain ⟨⟨m0, m1, m2, m3⟩, _⟩ := q
          have q2 := HH.out W hW
          obtain ⟨z0, z1, z2, z3⟩ := q2
          go_simp
          all_goals (try omega)
        clear hK K
        simp only [Act.put, List.setIfInBounds_toArray, List.set_cons_succ, List.set_cons_zero]
        refine wpQuiet_step (fun K hK => ?_)
        rw [if_pos (by rfl)]
        refine ⟨.agg #[.string ⟨hn.toArray⟩, .int .i64 ht, .int .i64 hl, .string ⟨hd.toArray⟩], fun W hW => quiet_ok ?_, hK _ ?_⟩
        · have q := HX.out W hW
          obtain ⟨⟨m0, m1, m2, m3⟩, _⟩ := q
          have q2 := HH.out W hW
          obtain ⟨z0, z1, z2, z3⟩ := q2
          go_simp
          all_goals (try omega)
        clear hK K
        simp only [Act.put, List.setIfInBounds_toArray, List.set_cons_succ, List.set_cons_zero]
        refine wpQuiet_step (fun K hK => ?_)
        rw [if_pos (by rfl)]
        refine ⟨.agg #[.string ⟨hn.toArray⟩, .int .i64 ht], fun W hW => quiet_call (f := 70) (args := #[.agg #[.string ⟨hn.toArray⟩, .int .i64 ht, .int .i64 hl, .string ⟨hd.toArray⟩]]) ?_ ?_, hK _ ?_⟩
        · go_simp
        · exact (HOH.out W).mono fun e w'' h => ⟨h.1, HTR.out _ _ hW h.2⟩
        clear hK K
        simp only [Act.put, List.setIfInBounds_toArray, List.set_cons_succ, List.set_cons_zero]
        refine wpQuiet_step (fun K hK => ?_)
        rw [if_pos (by rfl)]
        refine ⟨.bool false, fun W hW => quiet_ok ?_, hK _ ?_⟩
        · go_simp
          exact own_if (fun b => Result.ok (Next.value (Value.bool !b)) W) HE.out
        clear hK K
        simp only [Act.put, List.setIfInBounds_toArray, List.set_cons_succ, List.set_cons_zero]
        refine wpQuiet_step (fun K hK => ?_)
        rw [if_pos (by rfl)]
        refine ⟨.bool false, fun W hW => quiet_ok ?_, hK _ ?_⟩
        · have q := HX.out W hW
          obtain ⟨⟨m0, m1, m2, m3⟩, _⟩ := q
          have q2 := HH.out W hW
          obtain ⟨z0, z1, z2, z3⟩ := q2
          go_simp
          all_goals (try omega)
        clear hK K
        simp only [Act.put, List.setIfInBounds_toArray, List.set_cons_succ, List.set_cons_zero]
        refine wpQuiet_step (fun K hK => ?_)
        rw [if_pos (by rfl)]
        refine ⟨.pointer (some ⟨gx, 2, none⟩), fun W hW => quiet_ok ?_, hK _ ?_⟩
        · have q := HX.out W hW
          obtain ⟨⟨m0, m1, m2, m3⟩, _⟩ := q
          have q2 := HH.out W hW
          obtain ⟨z0, z1, z2, z3⟩ := q2
          go_simp
          all_goals (try omega)
        clear hK K
        simp only [Act.put, List.setIfInBounds_toArray, List.set_cons_succ, List.set_cons_zero]
        refine wpQuiet_step (fun K hK => ?_)
        rw [if_pos (by rfl)]
        refine ⟨.int .i64 xl, fun W hW => quiet_ok ?_, hK _ ?_⟩
        · have q := HX.out W hW
          obtain ⟨⟨m0, m1, m2, m3⟩, _⟩ := q
          have q2 := HH.out W hW
          obtain ⟨z0, z1, z2, z3⟩ := q2
          go_simp
          all_goals (try omega)
        clear hK K
        simp only [Act.put, List.setIfInBounds_toArray, List.set_cons_succ, List.set_cons_zero]
        refine wpQuiet_step (fun K hK => ?_)
        rw [if_pos (by rfl)]
        refine ⟨.slice (some ⟨b, o, none⟩) L.length cap, fun W hW => quiet_ok ?_, hK _ ?_⟩
        · have q := HX.out W hW
          obtain ⟨⟨m0, m1, m2, m3⟩, _⟩ := q
          have q2 := HH.out W hW
          obtain ⟨z0, z1, z2, z3⟩ := q2
          go_simp
          all_goals (try omega)
        clear hK K
        simp only [Act.put, List.setIfInBounds_toArray, List.set_cons_succ, List.set_cons_zero]
        refine wpQuiet_step (fun K hK => ?_)
        rw [if_pos (by rfl)]
        refine ⟨.pointer (some ⟨b, o, none⟩), fun W hW => quiet_ok ?_, hK _ ?_⟩
        · have q := HX.out W hW
          obtain ⟨⟨m0, m1, m2, m3⟩, _⟩ := q
          have q2 := HH.out W hW
          obtain ⟨z0, z1, z2, z3⟩ := q2
          go_simp
          all_goals (try omega)
        clear hK K
        simp only [Act.put, List.setIfInBounds_toArray, List.set_cons_succ, List.set_cons_zero]
        refine wpQuiet_step (fun K hK => ?_)
        rw [if_pos (by rfl)]
        refine ⟨.pointer (some ⟨b, o + 2, none⟩), fun W hW => quiet_ok ?_, hK _ ?_⟩
        · have q := HX.out W hW
          obtain ⟨⟨m0, m1, m2, m3⟩, _⟩ := q
          have q2 := HH.out W hW
          obtain ⟨z0, z1, z2, z3⟩ := q2
          go_simp
          all_goals (try omega)
        clear hK K
        simp only [Act.put, List.setIfInBounds_toArray, List.set_cons_succ, List.set_cons_zero]
        refine wpQuiet_step (fun K hK => ?_)
        rw [if_pos (by rfl)]
        refine ⟨.int .i64 hl, fun W hW => quiet_ok ?_, hK _ ?_⟩
        · have q := HX.out W hW
          obtain ⟨⟨m0, m1, m2, m3⟩, _⟩ := q
          have q2 := HH.out W hW
          obtain ⟨z0, z1, z2, z3⟩ := q2
          go_simp
          all_goals (try omega)
        clear hK K
        simp only [Act.put, List.setIfInBounds_toArray, List.set_cons_succ, List.set_cons_zero]
        refine wpQuiet_step (fun K hK => ?_)
        rw [if_pos (by rfl)]
        refine ⟨.bool false, fun W hW => quiet_ok ?_, hK _ ?_⟩
        · have q := HX.out W hW
          obtain ⟨⟨m0, m1, m2, m3⟩, _⟩ := q
          have q2 := HH.out W hW
          obtain ⟨z0, z1, z2, z3⟩ := q2
          go_simp
          all_goals (try omega)
        clear hK K
        simp only [Act.put, List.setIfInBounds_toArray, List.set_cons_succ, List.set_cons_zero]
        refine wpQuiet_step (fun K hK => ?_)
        rw [if_pos (by rfl)]
        refine ⟨.bool false, fun W hW => quiet_ok ?_, hK _ ?_⟩
        · have q := HX.out W hW
          obtain ⟨⟨m0, m1, m2, m3⟩, _⟩ := q
          have q2 := HH.out W hW
          obtain ⟨z0, z1, z2, z3⟩ := q2
          go_simp
          all_goals (try omega)
        clear hK K
        simp only [Act.put, List.setIfInBounds_toArray, List.set_cons_succ, List.set_cons_zero]
        refine wpQuiet_nil ?_
        intro W hW
        have hbW := HBW.out W hW
        go_wp2_with fail
        go_roundw
        case rel => exact ⟨k + 1, by omega, by go_num, HU, hbW⟩
        case measure => simp [intOf]; omega
    · have HF : Hid (r = risesB L) := HEND.out (fun j hj => HA.out j hj (by omega))
      obtain ⟨q, hq⟩ : ∃ q, q = risesB L := ⟨_, rfl⟩
      rw [← hq] at HRI HF
      clear hq
      go_wp2_with fail
      refine (HRI.out _ hb).mono ?_
      rintro e w2 ⟨rfl, hb2⟩
      have hbw2 := hb.trans (hb2.mono hb.size)
      go_wp2_with fail
      go_ret
      exact ⟨ret_bool HF.out.symm, hbw2⟩

set_option maxRecDepth 20000 in
set_option maxHeartbeats 400000 in
theorem ownerOfEntry_any (nm : ByteArray) (ty : Int) (no : Bool) (a : Option Addr) (n c : Nat) (un us : Int) (w : World) :
    Calls Tryz.prog 72 #[.agg #[.string nm, .int .i64 ty, .bool no, .slice a n c, .int .i64 un, .int .i64 us]] w fun e w' => e = .returned (.agg #[.string nm, .int .i64 ty]) ∧ Below w.heap.size w w' := by
  go_enter Tryz.func72, Tryz.ntmps72
  go_wp2_with fail
  (try simp only [Exit.inBlock, Exit.then])
  refine bodyPost_ret (results_cell_row rfl _ _ (w.heap.size + 1) 75 _ (0, 0) _ rfl ?_ Tryz.underlying75 rfl (by kernel_rfl)) rfl ⟨rfl, ((Below.refl w.heap.size w).alloc (Nat.le_refl _) _).alloc (by simp) _⟩
  rw [heap_alloc2_new]

theorem tell_some {nm : List UInt8} {ty : Int} {R : List (List UInt8 × Int × Int × List UInt8)} {un us : Int} {h : List UInt8 × Int × Int × List UInt8} (hA : ansB R = true) (hh : hdR R = h) : tellB (nm, ty, false, R, un, us) = ((h.1 == nm) && (h.2.1 == ty)) := by
  unfold tellB; simp [hA, hh]
theorem tell_none {nm : List UInt8} {ty : Int} {R : List (List UInt8 × Int × Int × List UInt8)} {un us : Int} (hA : ansB R = false) : tellB (nm, ty, false, R, un, us) = false := by
  unfold tellB; simp [hA]

set_option maxRecDepth 20000 in
set_option maxHeartbeats 8000000 in
theorem tellsOne_any (nm : List UInt8) (ty : Int) (no : Bool) (v : Value) (R : List (List UInt8 × Int × Int × List UInt8)) (un us : Int) (w : World) (hr : RRow w v R) (hx : Hid (∀ x ∈ R, x.1.length ≤ 1048576 ∧ x.2.2.2.length ≤ 1048576)) (hE : EnvR w) :
    Calls Tryz.prog 86 #[.agg #[.string ⟨nm.toArray⟩, .int .i64 ty, .bool no, v, .int .i64 un, .int .i64 us]] w fun e w' => e = .returned (.bool (tellB (nm, ty, no, R, un, us))) ∧ Below w.heap.size w w' := by
  have HANW : Hid (∀ W, Below w.heap.size w W → Calls Tryz.prog 39 #[v] W fun e w' => e = .returned (.bool (ansB R)) ∧ Below W.heap.size W w') := fun W hW => areAnswer_any v R W (hr.kept hW) hx (hE.below hW)
  obtain ⟨aa, ca, rfl, hca1, hca, hrow⟩ := hr
  have HROW2 : Hid (R = [] ∨ ∃ b o, aa = some ⟨b, o, none⟩ ∧ b < w.heap.size ∧ ∀ j, (hj : j < R.length) → RecAt w b (o + j * 4) R[j]) := hrow
  unfold maxLen at hca
  clear hrow hE
  cases no with
  | true =>
    have HR : Hid (tellB (nm, ty, true, R, un, us) = decide (R.length = 0)) := if_pos rfl
    obtain ⟨r, hr⟩ : ∃ r, r = tellB (nm, ty, true, R, un, us) := ⟨_, rfl⟩
    rw [← hr] at HR ⊢
    clear hr
    by_cases g : R.length = 0
    · have HF : Hid (r = true) := HR.out.trans (by simp [g])
      have e0 : ((R.length : Int) == 0) = true := beq_iff_eq.2 (by omega)
      have g' : (R.length : Int) = 0 := by omega
      clear g HR
      go_enter Tryz.func86, Tryz.ntmps86
      go_wp2_with fail
      go_ret
      exact ⟨ret_bool HF.out.symm, (Below.refl w.heap.size w).alloc (Nat.le_refl _) _⟩
    · have HF : Hid (r = false) := HR.out.trans (by simp [g])
      have e0 : ((R.length : Int) == 0) = false := beq_eq_false_iff_ne.2 (by omega)
      have g' : ¬ (R.length : Int) = 0 := by omega
      clear g HR
      go_enter Tryz.func86, Tryz.ntmps86
      go_wp2_with fail
      go_ret
      exact ⟨ret_bool HF.out.symm, (Below.refl w.heap.size w).alloc (Nat.le_refl _) _⟩
  | false =>
    have HOE : Hid (∀ W, Calls Tryz.prog 72 #[.agg #[.string ⟨nm.toArray⟩, .int .i64 ty, .bool false, .slice aa R.length ca, .int .i64 un, .int .i64 us]] W fun e w' => e = .returned (.agg #[.string ⟨nm.toArray⟩, .int .i64 ty]) ∧ Below W.heap.size W w') := fun W => ownerOfEntry_any ⟨nm.toArray⟩ ty false aa R.length ca un us W
    obtain ⟨W0, hW0⟩ : ∃ W0, W0 = w.alloc (.cells #[.string ⟨nm.toArray⟩, .int .i64 ty, .bool false, .slice aa R.length ca, .int .i64 un, .int .i64 us] 44) := ⟨_, rfl⟩
    have HW0 : Hid (w.alloc (.cells #[.string ⟨nm.toArray⟩, .int .i64 ty, .bool false, .slice aa R.length ca, .int .i64 un, .int .i64 us] 44) = W0) := hW0.symm
    obtain ⟨gx, hgx⟩ : ∃ gx, gx = w.heap.size := ⟨_, rfl⟩
    have HGX : Hid (w.heap.size = gx) := hgx.symm
    have HTR : Hid (∀ W W', Below W0.heap.size W0 W → Below W.heap.size W W' → Below W0.heap.size W0 W') := fun W W' h1 h2 => h1.trans (h2.mono h1.size)
    have hbd : Below W0.heap.size W0 W0.drew := (Below.refl _ _).drew
    have HX : Hid (∀ W, Below W0.heap.size W0 W → (W.cell? ⟨gx, 0, none⟩ = some (.string ⟨nm.toArray⟩) ∧ W.cell? ⟨gx, 1, none⟩ = some (.int .i64 ty) ∧ W.cell? ⟨gx, 2, none⟩ = some (.bool false) ∧ W.cell? ⟨gx, 3, none⟩ = some (.slice aa R.length ca) ∧ W.cell? ⟨gx, 4, none⟩ = some (.int .i64 un) ∧ W.cell? ⟨gx, 5, none⟩ = some (.int .i64 us)) ∧ Below w.heap.size w W) := fun W hW => by rw [hW0] at hW; rw [hgx]; exact box6c hW
    have HBW : Hid (∀ W, Below W0.heap.size W0 W → Below w.heap.size w W) := fun W hW => (HX.out W hW).2
    have HAN : Hid (∀ W, Below W0.heap.size W0 W → Calls Tryz.prog 39 #[.slice aa R.length ca] W fun e w' => e = .returned (.bool (ansB R)) ∧ Below W.heap.size W w') := fun W hW => HANW.out W (HBW.out W hW)
    clear hW0 hgx HANW
    cases hA : ansB R with
    | false =>
      have HF : Hid (tellB (nm, ty, false, R, un, us) = false) := tell_none hA
      rw [hA] at HAN
      obtain ⟨r, hr⟩ : ∃ r, r = tellB (nm, ty, false, R, un, us) := ⟨_, rfl⟩
      rw [← hr] at HF ⊢
      clear hA hr HROW2
      obtain ⟨u12, hu12⟩ : ∃ u : Bool, u = false := ⟨_, rfl⟩
      have HU12 : Hid (u12 = false) := hu12
      clear hu12
      go_enter Tryz.func86, Tryz.ntmps86
      go_wp2_with fail
      rw [HW0.out, HGX.out]
      refine wp_region_quiet (C := fun W => Below W0.heap.size W0 W) (by kernel_rfl) (by kernel_rfl) hbd ?_
      refine wpQuiet_step (fun K hK => ?_)
      rw [if_pos (by rfl)]
      refine ⟨.pointer (some ⟨gx, 3, none⟩), fun W hW => quiet_ok ?_, hK _ ?_⟩
      · have q := HX.out W hW
        obtain ⟨⟨m0, m1, m2, m3, m4, m5⟩, _⟩ := q
        go_simp
        all_goals (try omega)
      clear hK K
      simp only [Act.put, List.setIfInBounds_toArray, List.set_cons_succ, List.set_cons_zero]
      refine wpQuiet_step (fun K hK => ?_)
      rw [if_pos (by rfl)]
      refine ⟨.slice aa R.length ca, fun W hW => quiet_ok ?_, hK _ ?_⟩
      · have q := HX.out W hW
        obtain ⟨⟨m0, m1, m2, m3, m4, m5⟩, _⟩ := q
        go_simp
        all_goals (try omega)
      clear hK K
      simp only [Act.put, List.setIfInBounds_toArray, List.set_cons_succ, List.set_cons_zero]
      refine wpQuiet_step (fun K hK => ?_)
      rw [if_pos (by rfl)]
      refine ⟨.bool false, fun W hW => quiet_call (f := 39) (args := #[.slice aa R.length ca]) ?_ ?_, hK _ ?_⟩
      · go_simp
      · exact (HAN.out W hW).mono fun e w'' h => ⟨h.1, HTR.out _ _ hW h.2⟩
      clear hK K
      simp only [Act.put, List.setIfInBounds_toArray, List.set_cons_succ, List.set_cons_zero]
      refine wpQuiet_step (fun K hK => ?_)
      rw [if_pos (by rfl)]
      refine ⟨.bool u12, fun W hW => quiet_ok ?_, hK _ ?_⟩
      · have q := HX.out W hW
        obtain ⟨⟨m0, m1, m2, m3, m4, m5⟩, _⟩ := q
        have v12 := HU12.out
        go_simp
        all_goals (try omega)
      clear hK K
      simp only [Act.put, List.setIfInBounds_toArray, List.set_cons_succ, List.set_cons_zero]
      refine BigFrame.wpQuiet_skip (by show (some u12 == some true) = false; rw [HU12.out]; rfl) ?_
      simp only [Act.put, List.setIfInBounds_toArray, List.set_cons_succ, List.set_cons_zero]
      refine BigFrame.wpQuiet_skip (by show (some u12 == some true) = false; rw [HU12.out]; rfl) ?_
      simp only [Act.put, List.setIfInBounds_toArray, List.set_cons_succ, List.set_cons_zero]
      refine BigFrame.wpQuiet_skip (by show (some u12 == some true) = false; rw [HU12.out]; rfl) ?_
      simp only [Act.put, List.setIfInBounds_toArray, List.set_cons_succ, List.set_cons_zero]
      refine BigFrame.wpQuiet_skip (by show (some u12 == some true) = false; rw [HU12.out]; rfl) ?_
      simp only [Act.put, List.setIfInBounds_toArray, List.set_cons_succ, List.set_cons_zero]
      refine BigFrame.wpQuiet_skip (by show (some u12 == some true) = false; rw [HU12.out]; rfl) ?_
      simp only [Act.put, List.setIfInBounds_toArray, List.set_cons_succ, List.set_cons_zero]
      refine BigFrame.wpQuiet_skip (by show (some u12 == some true) = false; rw [HU12.out]; rfl) ?_
      simp only [Act.put, List.setIfInBounds_toArray, List.set_cons_succ, List.set_cons_zero]
      refine BigFrame.wpQuiet_skip (by show (some u12 == some true) = false; rw [HU12.out]; rfl) ?_
      simp only [Act.put, List.setIfInBounds_toArray, List.set_cons_succ, List.set_cons_zero]
      refine BigFrame.wpQuiet_skip (by show (some u12 == some true) = false; rw [HU12.out]; rfl) ?_
      simp only [Act.put, List.setIfInBounds_toArray, List.set_cons_succ, List.set_cons_zero]
      refine wpQuiet_step (fun K hK => ?_)
      rw [if_pos (by rfl)]
      refine ⟨.bool false, fun W hW => quiet_ok ?_, hK _ ?_⟩
      · have q := HX.out W hW
        obtain ⟨⟨m0, m1, m2, m3, m4, m5⟩, _⟩ := q
        have v12 := HU12.out
        go_simp
        all_goals (try omega)
      clear hK K
      simp only [Act.put, List.setIfInBounds_toArray, List.set_cons_succ, List.set_cons_zero]
      refine wpQuiet_step (fun K hK => ?_)
      rw [if_pos (by rfl)]
      refine ⟨.bool false, fun W hW => quiet_ok ?_, hK _ ?_⟩
      · have q := HX.out W hW
        obtain ⟨⟨m0, m1, m2, m3, m4, m5⟩, _⟩ := q
        have v12 := HU12.out
        go_simp
        all_goals (try omega)
      clear hK K
      simp only [Act.put, List.setIfInBounds_toArray, List.set_cons_succ, List.set_cons_zero]
      refine wpQuiet_nil ?_
      intro W hW
      have hbW := HBW.out W hW
      go_wp2_with fail
      go_ret
      exact ⟨ret_bool HF.out.symm, hbW⟩
    | true =>
      rw [hA] at HAN
      have hpos := ans_pos hA
      have HHD : Hid (hdR R = R[0]'hpos) := hdR_at hpos
      rcases HROW2.out with hr | ⟨b2, o2, ha2, hbl2, hcel2⟩
      · rw [hr] at hpos; simp at hpos
      subst ha2
      have hc0 := hcel2 0 hpos
      rw [Nat.zero_mul, Nat.add_zero] at hc0
      obtain ⟨h, hhe⟩ : ∃ h, h = R[0]'hpos := ⟨_, rfl⟩
      rw [← hhe] at hc0 HHD
      have HTE : Hid (tellB (nm, ty, false, R, un, us) = ((h.1 == nm) && (h.2.1 == ty))) := tell_some hA HHD.out
      obtain ⟨r, hr⟩ : ∃ r, r = tellB (nm, ty, false, R, un, us) := ⟨_, rfl⟩
      rw [← hr] at HTE ⊢
      have HOH0 := ownerOf_any ⟨h.1.toArray⟩ ⟨h.2.2.2.toArray⟩ h.2.1 h.2.2.1
      clear hr hA hhe HHD hcel2 HROW2
      obtain ⟨hn, ht, hl, hd⟩ := h
      have HOH : Hid (∀ W, Calls Tryz.prog 70 #[.agg #[.string ⟨hn.toArray⟩, .int .i64 ht, .int .i64 hl, .string ⟨hd.toArray⟩]] W fun e w' => e = .returned (.agg #[.string ⟨hn.toArray⟩, .int .i64 ht]) ∧ Below W.heap.size W w') := HOH0
      have HH : Hid (∀ W, Below W0.heap.size W0 W → W.cell? ⟨b2, o2, none⟩ = some (.string ⟨hn.toArray⟩) ∧ W.cell? ⟨b2, o2 + 1, none⟩ = some (.int .i64 ht) ∧ W.cell? ⟨b2, o2 + 2, none⟩ = some (.int .i64 hl) ∧ W.cell? ⟨b2, o2 + 3, none⟩ = some (.string ⟨hd.toArray⟩)) := fun W hW => hc0.kept (HBW.out W hW)
      have hl2 : (0 : Int) < (R.length : Int) := by omega
      have hRn : ¬ R = [] := fun e => by rw [e] at hpos; simp at hpos
      clear HOH0 hc0 hbl2
      by_cases hs : hn = nm ∧ ht = ty
      · have HE : Hid (true = (hn == nm && ht == ty)) := own_on hs.1 hs.2
        have HF : Hid (r = true) := HTE.out.trans HE.out.symm
        clear hs HTE
        go_enter Tryz.func86, Tryz.ntmps86
        go_wp2_with fail
        rw [HW0.out, HGX.out]
        refine wp_region_quiet (C := fun W => Below W0.heap.size W0 W) (by kernel_rfl) (by kernel_rfl) hbd ?_
        refine wpQuiet_step (fun K hK => ?_)
        rw [if_pos (by rfl)]
        refine ⟨.pointer (some ⟨gx, 3, none⟩), fun W hW => quiet_ok ?_, hK _ ?_⟩
        · have q := HX.out W hW
          obtain ⟨⟨m0, m1, m2, m3, m4, m5⟩, _⟩ := q
          have q2 := HH.out W hW
          obtain ⟨z0, z1, z2, z3⟩ := q2
          go_simp
          all_goals (try omega)
        clear hK K
        simp only [Act.put, List.setIfInBounds_toArray, List.set_cons_succ, List.set_cons_zero]
        refine wpQuiet_step (fun K hK => ?_)
        rw [if_pos (by rfl)]
        refine ⟨.slice (some ⟨b2, o2, none⟩) R.length ca, fun W hW => quiet_ok ?_, hK _ ?_⟩
        · have q := HX.out W hW
          obtain ⟨⟨m0, m1, m2, m3, m4, m5⟩, _⟩ := q
          have q2 := HH.out W hW
          obtain ⟨z0, z1, z2, z3⟩ := q2
          go_simp
          all_goals (try omega)
        clear hK K
        simp only [Act.put, List.setIfInBounds_toArray, List.set_cons_succ, List.set_cons_zero]
        refine wpQuiet_step (fun K hK => ?_)
        rw [if_pos (by rfl)]
        refine ⟨.bool true, fun W hW => quiet_call (f := 39) (args := #[.slice (some ⟨b2, o2, none⟩) R.length ca]) ?_ ?_, hK _ ?_⟩
        · go_simp
        · exact (HAN.out W hW).mono fun e w'' h => ⟨h.1, HTR.out _ _ hW h.2⟩
        clear hK K
        simp only [Act.put, List.setIfInBounds_toArray, List.set_cons_succ, List.set_cons_zero]
        refine wpQuiet_step (fun K hK => ?_)
        rw [if_pos (by rfl)]
        refine ⟨.bool true, fun W hW => quiet_ok ?_, hK _ ?_⟩
        · have q := HX.out W hW
          obtain ⟨⟨m0, m1, m2, m3, m4, m5⟩, _⟩ := q
          have q2 := HH.out W hW
          obtain ⟨z0, z1, z2, z3⟩ := q2
          go_simp
          all_goals (try omega)
        clear hK K
        simp only [Act.put, List.setIfInBounds_toArray, List.set_cons_succ, List.set_cons_zero]
        refine wpQuiet_step (fun K hK => ?_)
        rw [if_pos (by rfl)]
        refine ⟨.pointer (some ⟨gx, 3, none⟩), fun W hW => quiet_ok ?_, hK _ ?_⟩
        · have q := HX.out W hW
          obtain ⟨⟨m0, m1, m2, m3, m4, m5⟩, _⟩ := q
          have q2 := HH.out W hW
          obtain ⟨z0, z1, z2, z3⟩ := q2
          go_simp
          all_goals (try omega)
        clear hK K
        simp only [Act.put, List.setIfInBounds_toArray, List.set_cons_succ, List.set_cons_zero]
        refine wpQuiet_step (fun K hK => ?_)
        rw [if_pos (by rfl)]
        refine ⟨.slice (some ⟨b2, o2, none⟩) R.length ca, fun W hW => quiet_ok ?_, hK _ ?_⟩
        · have q := HX.out W hW
          obtain ⟨⟨m0, m1, m2, m3, m4, m5⟩, _⟩ := q
          have q2 := HH.out W hW
          obtain ⟨z0, z1, z2, z3⟩ := q2
          go_simp
          all_goals (try omega)
        clear hK K
        simp only [Act.put, List.setIfInBounds_toArray, List.set_cons_succ, List.set_cons_zero]
        refine wpQuiet_step (fun K hK => ?_)
        rw [if_pos (by rfl)]
        refine ⟨.pointer (some ⟨b2, o2, none⟩), fun W hW => quiet_ok ?_, hK _ ?_⟩
        · have q := HX.out W hW
          obtain ⟨⟨m0, m1, m2, m3, m4, m5⟩, _⟩ := q
          have q2 := HH.out W hW
          obtain ⟨z0, z1, z2, z3⟩ := q2
          go_simp
          all_goals (try omega)
        clear hK K
        simp only [Act.put, List.setIfInBounds_toArray, List.set_cons_succ, List.set_cons_zero]
        refine wpQuiet_step (fun K hK => ?_)
        rw [if_pos (by rfl)]
        refine ⟨.agg #[.string ⟨hn.toArray⟩, .int .i64 ht, .int .i64 hl, .string ⟨hd.toArray⟩], fun W hW => quiet_ok ?_, hK _ ?_⟩
        · have q := HX.out W hW
          obtain ⟨⟨m0, m1, m2, m3, m4, m5⟩, _⟩ := q
          have q2 := HH.out W hW
          obtain ⟨z0, z1, z2, z3⟩ := q2
          go_simp
          all_goals (try omega)
        clear hK K
        simp only [Act.put, List.setIfInBounds_toArray, List.set_cons_succ, List.set_cons_zero]
        refine wpQuiet_step (fun K hK => ?_)
        rw [if_pos (by rfl)]
        refine ⟨.agg #[.string ⟨hn.toArray⟩, .int .i64 ht], fun W hW => quiet_call (f := 70) (args := #[.agg #[.string ⟨hn.toArray⟩, .int .i64 ht, .int .i64 hl, .string ⟨hd.toArray⟩]]) ?_ ?_, hK _ ?_⟩
        · go_simp
        · exact (HOH.out W).mono fun e w'' h => ⟨h.1, HTR.out _ _ hW h.2⟩
        clear hK K
        simp only [Act.put, List.setIfInBounds_toArray, List.set_cons_succ, List.set_cons_zero]
        refine wpQuiet_step (fun K hK => ?_)
        rw [if_pos (by rfl)]
        refine ⟨.agg #[.string ⟨nm.toArray⟩, .int .i64 ty, .bool false, .slice (some ⟨b2, o2, none⟩) R.length ca, .int .i64 un, .int .i64 us], fun W hW => quiet_ok ?_, hK _ ?_⟩
        · have q := HX.out W hW
          obtain ⟨⟨m0, m1, m2, m3, m4, m5⟩, _⟩ := q
          have q2 := HH.out W hW
          obtain ⟨z0, z1, z2, z3⟩ := q2
          go_simp
          all_goals (try omega)
        clear hK K
        simp only [Act.put, List.setIfInBounds_toArray, List.set_cons_succ, List.set_cons_zero]
        refine wpQuiet_step (fun K hK => ?_)
        rw [if_pos (by rfl)]
        refine ⟨.agg #[.string ⟨nm.toArray⟩, .int .i64 ty], fun W hW => quiet_call (f := 72) (args := #[.agg #[.string ⟨nm.toArray⟩, .int .i64 ty, .bool false, .slice (some ⟨b2, o2, none⟩) R.length ca, .int .i64 un, .int .i64 us]]) ?_ ?_, hK _ ?_⟩
        · go_simp
        · exact (HOE.out W).mono fun e w'' h => ⟨h.1, HTR.out _ _ hW h.2⟩
        clear hK K
        simp only [Act.put, List.setIfInBounds_toArray, List.set_cons_succ, List.set_cons_zero]
        refine wpQuiet_step (fun K hK => ?_)
        rw [if_pos (by rfl)]
        refine ⟨.bool true, fun W hW => quiet_ok ?_, hK _ ?_⟩
        · go_simp
          exact own_if (fun b => Result.ok (Next.value (Value.bool b)) W) HE.out
        clear hK K
        simp only [Act.put, List.setIfInBounds_toArray, List.set_cons_succ, List.set_cons_zero]
        refine wpQuiet_step (fun K hK => ?_)
        rw [if_pos (by rfl)]
        refine ⟨.bool true, fun W hW => quiet_ok ?_, hK _ ?_⟩
        · have q := HX.out W hW
          obtain ⟨⟨m0, m1, m2, m3, m4, m5⟩, _⟩ := q
          have q2 := HH.out W hW
          obtain ⟨z0, z1, z2, z3⟩ := q2
          go_simp
          all_goals (try omega)
        clear hK K
        simp only [Act.put, List.setIfInBounds_toArray, List.set_cons_succ, List.set_cons_zero]
        refine wpQuiet_step (fun K hK => ?_)
        rw [if_pos (by rfl)]
        refine ⟨.bool true, fun W hW => quiet_ok ?_, hK _ ?_⟩
        · have q := HX.out W hW
          obtain ⟨⟨m0, m1, m2, m3, m4, m5⟩, _⟩ := q
          have q2 := HH.out W hW
          obtain ⟨z0, z1, z2, z3⟩ := q2
          go_simp
          all_goals (try omega)
        clear hK K
        simp only [Act.put, List.setIfInBounds_toArray, List.set_cons_succ, List.set_cons_zero]
        refine wpQuiet_nil ?_
        intro W hW
        have hbW := HBW.out W hW
        go_wp2_with fail
        go_ret
        exact ⟨ret_bool HF.out.symm, hbW⟩
      · have HF : Hid (r = false) := HTE.out.trans (own_off hs).symm
        have HE : Hid (hn = nm → ¬ ht = ty) := fun g1 g2 => hs ⟨g1, g2⟩
        clear hs HTE
        go_enter Tryz.func86, Tryz.ntmps86
        go_wp2_with fail
        rw [HW0.out, HGX.out]
        refine wp_region_quiet (C := fun W => Below W0.heap.size W0 W) (by kernel_rfl) (by kernel_rfl) hbd ?_
        refine wpQuiet_step (fun K hK => ?_)
        rw [if_pos (by rfl)]
        refine ⟨.pointer (some ⟨gx, 3, none⟩), fun W hW => quiet_ok ?_, hK _ ?_⟩
        · have q := HX.out W hW
          obtain ⟨⟨m0, m1, m2, m3, m4, m5⟩, _⟩ := q
          have q2 := HH.out W hW
          obtain ⟨z0, z1, z2, z3⟩ := q2
          go_simp
          all_goals (try omega)
        clear hK K
        simp only [Act.put, List.setIfInBounds_toArray, List.set_cons_succ, List.set_cons_zero]
        refine wpQuiet_step (fun K hK => ?_)
        rw [if_pos (by rfl)]
        refine ⟨.slice (some ⟨b2, o2, none⟩) R.length ca, fun W hW => quiet_ok ?_, hK _ ?_⟩
        · have q := HX.out W hW
          obtain ⟨⟨m0, m1, m2, m3, m4, m5⟩, _⟩ := q
          have q2 := HH.out W hW
          obtain ⟨z0, z1, z2, z3⟩ := q2
          go_simp
          all_goals (try omega)
        clear hK K
        simp only [Act.put, List.setIfInBounds_toArray, List.set_cons_succ, List.set_cons_zero]
        refine wpQuiet_step (fun K hK => ?_)
        rw [if_pos (by rfl)]
        refine ⟨.bool true, fun W hW => quiet_call (f := 39) (args := #[.slice (some ⟨b2, o2, none⟩) R.length ca]) ?_ ?_, hK _ ?_⟩
        · go_simp
        · exact (HAN.out W hW).mono fun e w'' h => ⟨h.1, HTR.out _ _ hW h.2⟩
        clear hK K
        simp only [Act.put, List.setIfInBounds_toArray, List.set_cons_succ, List.set_cons_zero]
        refine wpQuiet_step (fun K hK => ?_)
        rw [if_pos (by rfl)]
        refine ⟨.bool true, fun W hW => quiet_ok ?_, hK _ ?_⟩
        · have q := HX.out W hW
          obtain ⟨⟨m0, m1, m2, m3, m4, m5⟩, _⟩ := q
          have q2 := HH.out W hW
          obtain ⟨z0, z1, z2, z3⟩ := q2
          go_simp
          all_goals (try omega)
        clear hK K
        simp only [Act.put, List.setIfInBounds_toArray, List.set_cons_succ, List.set_cons_zero]
        refine wpQuiet_step (fun K hK => ?_)
        rw [if_pos (by rfl)]
        refine ⟨.pointer (some ⟨gx, 3, none⟩), fun W hW => quiet_ok ?_, hK _ ?_⟩
        · have q := HX.out W hW
          obtain ⟨⟨m0, m1, m2, m3, m4, m5⟩, _⟩ := q
          have q2 := HH.out W hW
          obtain ⟨z0, z1, z2, z3⟩ := q2
          go_simp
          all_goals (try omega)
        clear hK K
        simp only [Act.put, List.setIfInBounds_toArray, List.set_cons_succ, List.set_cons_zero]
        refine wpQuiet_step (fun K hK => ?_)
        rw [if_pos (by rfl)]
        refine ⟨.slice (some ⟨b2, o2, none⟩) R.length ca, fun W hW => quiet_ok ?_, hK _ ?_⟩
        · have q := HX.out W hW
          obtain ⟨⟨m0, m1, m2, m3, m4, m5⟩, _⟩ := q
          have q2 := HH.out W hW
          obtain ⟨z0, z1, z2, z3⟩ := q2
          go_simp
          all_goals (try omega)
        clear hK K
        simp only [Act.put, List.setIfInBounds_toArray, List.set_cons_succ, List.set_cons_zero]
        refine wpQuiet_step (fun K hK => ?_)
        rw [if_pos (by rfl)]
        refine ⟨.pointer (some ⟨b2, o2, none⟩), fun W hW => quiet_ok ?_, hK _ ?_⟩
        · have q := HX.out W hW
          obtain ⟨⟨m0, m1, m2, m3, m4, m5⟩, _⟩ := q
          have q2 := HH.out W hW
          obtain ⟨z0, z1, z2, z3⟩ := q2
          go_simp
          all_goals (try omega)
        clear hK K
        simp only [Act.put, List.setIfInBounds_toArray, List.set_cons_succ, List.set_cons_zero]
        refine wpQuiet_step (fun K hK => ?_)
        rw [if_pos (by rfl)]
        refine ⟨.agg #[.string ⟨hn.toArray⟩, .int .i64 ht, .int .i64 hl, .string ⟨hd.toArray⟩], fun W hW => quiet_ok ?_, hK _ ?_⟩
        · have q := HX.out W hW
          obtain ⟨⟨m0, m1, m2, m3, m4, m5⟩, _⟩ := q
          have q2 := HH.out W hW
          obtain ⟨z0, z1, z2, z3⟩ := q2
          go_simp
          all_goals (try omega)
        clear hK K
        simp only [Act.put, List.setIfInBounds_toArray, List.set_cons_succ, List.set_cons_zero]
        refine wpQuiet_step (fun K hK => ?_)
        rw [if_pos (by rfl)]
        refine ⟨.agg #[.string ⟨hn.toArray⟩, .int .i64 ht], fun W hW => quiet_call (f := 70) (args := #[.agg #[.string ⟨hn.toArray⟩, .int .i64 ht, .int .i64 hl, .string ⟨hd.toArray⟩]]) ?_ ?_, hK _ ?_⟩
        · go_simp
        · exact (HOH.out W).mono fun e w'' h => ⟨h.1, HTR.out _ _ hW h.2⟩
        clear hK K
        simp only [Act.put, List.setIfInBounds_toArray, List.set_cons_succ, List.set_cons_zero]
        refine wpQuiet_step (fun K hK => ?_)
        rw [if_pos (by rfl)]
        refine ⟨.agg #[.string ⟨nm.toArray⟩, .int .i64 ty, .bool false, .slice (some ⟨b2, o2, none⟩) R.length ca, .int .i64 un, .int .i64 us], fun W hW => quiet_ok ?_, hK _ ?_⟩
        · have q := HX.out W hW
          obtain ⟨⟨m0, m1, m2, m3, m4, m5⟩, _⟩ := q
          have q2 := HH.out W hW
          obtain ⟨z0, z1, z2, z3⟩ := q2
          go_simp
          all_goals (try omega)
        clear hK K
        simp only [Act.put, List.setIfInBounds_toArray, List.set_cons_succ, List.set_cons_zero]
        refine wpQuiet_step (fun K hK => ?_)
        rw [if_pos (by rfl)]
        refine ⟨.agg #[.string ⟨nm.toArray⟩, .int .i64 ty], fun W hW => quiet_call (f := 72) (args := #[.agg #[.string ⟨nm.toArray⟩, .int .i64 ty, .bool false, .slice (some ⟨b2, o2, none⟩) R.length ca, .int .i64 un, .int .i64 us]]) ?_ ?_, hK _ ?_⟩
        · go_simp
        · exact (HOE.out W).mono fun e w'' h => ⟨h.1, HTR.out _ _ hW h.2⟩
        clear hK K
        simp only [Act.put, List.setIfInBounds_toArray, List.set_cons_succ, List.set_cons_zero]
        refine wpQuiet_step (fun K hK => ?_)
        rw [if_pos (by rfl)]
        refine ⟨.bool false, fun W hW => quiet_ok ?_, hK _ ?_⟩
        · go_simp
          exact HE.out
        clear hK K
        simp only [Act.put, List.setIfInBounds_toArray, List.set_cons_succ, List.set_cons_zero]
        refine wpQuiet_step (fun K hK => ?_)
        rw [if_pos (by rfl)]
        refine ⟨.bool false, fun W hW => quiet_ok ?_, hK _ ?_⟩
        · have q := HX.out W hW
          obtain ⟨⟨m0, m1, m2, m3, m4, m5⟩, _⟩ := q
          have q2 := HH.out W hW
          obtain ⟨z0, z1, z2, z3⟩ := q2
          go_simp
          all_goals (try omega)
        clear hK K
        simp only [Act.put, List.setIfInBounds_toArray, List.set_cons_succ, List.set_cons_zero]
        refine wpQuiet_step (fun K hK => ?_)
        rw [if_pos (by rfl)]
        refine ⟨.bool false, fun W hW => quiet_ok ?_, hK _ ?_⟩
        · have q := HX.out W hW
          obtain ⟨⟨m0, m1, m2, m3, m4, m5⟩, _⟩ := q
          have q2 := HH.out W hW
          obtain ⟨z0, z1, z2, z3⟩ := q2
          go_simp
          all_goals (try omega)
        clear hK K
        simp only [Act.put, List.setIfInBounds_toArray, List.set_cons_succ, List.set_cons_zero]
        refine wpQuiet_nil ?_
        intro W hW
        have hbW := HBW.out W hW
        go_wp2_with fail
        go_ret
        exact ⟨ret_bool HF.out.symm, hbW⟩
end Go.Proofs.YtgfiahfoghnpkaaGreatDoor
