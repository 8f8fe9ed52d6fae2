import Derived.Test.YtoobaaklklommaaGreatDoorZ32
import Derived.Test.YtoobaaklklommaaGreatDoorZ34
import Derived.BigQuiet
import Derived.Deep.QuietTactic
namespace Go.Proofs.YtoobaaklklommaaGreatDoor
open Go.RowKit

theorem own_if2 {xn yn : List UInt8} {xt yt : Int} {same : Bool} {β : Type} (f : Bool → β) (h : same = (xn == yn && xt == yt)) : (if xn = yn then if xt = yt then f true else f false else f false) = f same := by
  rw [h]
  by_cases h1 : xn = yn
  · by_cases h2 : xt = yt
    · rw [if_pos h1, if_pos h2, h1, h2]; simp
    · rw [if_pos h1, if_neg h2, h1, show (xt == yt) = false by simpa using h2]; simp
  · rw [if_neg h1, show (xn == yn) = false by simpa using h1]; simp

set_option maxRecDepth 20000 in
set_option maxHeartbeats 1000000 in
theorem held1_any (xn xd on : List UInt8) (xt xl ot : Int) (g : Nat) (w : World) (h0 : w.cell? ⟨g, 0, none⟩ = some (.string ⟨on.toArray⟩)) (h1 : w.cell? ⟨g, 1, none⟩ = some (.int .i64 ot)) (hg : g < w.heap.size) :
    Calls Tryz.prog 192 #[.agg #[.string ⟨xn.toArray⟩, .int .i64 xt, .int .i64 xl, .string ⟨xd.toArray⟩], .pointer (some ⟨g, 0, none⟩)] w fun e w' => e = .returned (.bool (xn == on && xt == ot)) ∧ Below w.heap.size w w' := by
  obtain ⟨W0, hW0⟩ : ∃ W0, W0 = w.alloc (.cells #[.string ⟨xn.toArray⟩, .int .i64 xt, .int .i64 xl, .string ⟨xd.toArray⟩] 108) := ⟨_, rfl⟩
  have HX : Hid (∀ W, Below W0.heap.size W0 W → (W.cell? ⟨w.heap.size, 0, none⟩ = some (.string ⟨xn.toArray⟩) ∧ W.cell? ⟨w.heap.size, 1, none⟩ = some (.int .i64 xt) ∧ W.cell? ⟨w.heap.size, 2, none⟩ = some (.int .i64 xl) ∧ W.cell? ⟨w.heap.size, 3, none⟩ = some (.string ⟨xd.toArray⟩)) ∧ (W.cell? ⟨g, 0, none⟩ = some (.string ⟨on.toArray⟩) ∧ W.cell? ⟨g, 1, none⟩ = some (.int .i64 ot)) ∧ Below w.heap.size w W) := fun W hW => by
    rw [hW0] at hW
    obtain ⟨a0, a1, a2, a3, hb⟩ := box4 hW
    exact ⟨⟨a0, a1, a2, a3⟩, ⟨(hb.cell (p := ⟨g, 0, none⟩) hg).trans h0, (hb.cell (p := ⟨g, 1, none⟩) hg).trans h1⟩, hb⟩
  have HOX : Hid (∀ W, Calls Tryz.prog 191 #[.agg #[.string ⟨xn.toArray⟩, .int .i64 xt, .int .i64 xl, .string ⟨xd.toArray⟩]] W fun e w' => e = .returned (.agg #[.string ⟨xn.toArray⟩, .int .i64 xt]) ∧ Below W.heap.size W w') := fun W => ownerOf_any ⟨xn.toArray⟩ ⟨xd.toArray⟩ xt xl W
  have HTR : Hid (∀ W W', Below W0.heap.size W0 W → Below W.heap.size W W' → Below W0.heap.size W0 W') := fun W W' h1 h2 => h1.trans (h2.mono h1.size)
  have HW0 : Hid (w.alloc (.cells #[.string ⟨xn.toArray⟩, .int .i64 xt, .int .i64 xl, .string ⟨xd.toArray⟩] 108) = W0) := hW0.symm
  have hbd : Below W0.heap.size W0 W0.drew := (Below.refl _ _).drew
  obtain ⟨same, hsame⟩ : ∃ same, same = (xn == on && xt == ot) := ⟨_, rfl⟩
  have HE : Hid (same = (xn == on && xt == ot)) := hsame
  rw [← hsame]
  clear hsame hW0 h0 h1
  go_enter Tryz.func192, Tryz.ntmps192
  go_wp2_with fail
  rw [HW0.out]
  refine wp_region_quiet (C := fun W => Below W0.heap.size W0 W) (by kernel_rfl) (by kernel_rfl) hbd ?_
  refine wpQuiet_step (fun K hK => ?_)
  rw [if_pos (by rfl)]
  refine ⟨.agg #[.string ⟨xn.toArray⟩, .int .i64 xt, .int .i64 xl, .string ⟨xd.toArray⟩], fun W hW => quiet_ok ?_, hK _ ?_⟩
  · have q := HX.out W hW
    obtain ⟨⟨m0, m1, m2, m3⟩, ⟨z0, z1⟩, _⟩ := q
    go_simp
    all_goals (try omega)
  clear hK K
  simp only [Act.put, List.setIfInBounds_toArray, List.set_cons_succ, List.set_cons_zero]
  refine wpQuiet_step (fun K hK => ?_)
  rw [if_pos (by rfl)]
  refine ⟨.agg #[.string ⟨xn.toArray⟩, .int .i64 xt], fun W hW => quiet_call (f := 191) (args := #[.agg #[.string ⟨xn.toArray⟩, .int .i64 xt, .int .i64 xl, .string ⟨xd.toArray⟩]]) ?_ ?_, hK _ ?_⟩
  · go_simp
  · exact (HOX.out W).mono fun e w'' h => ⟨h.1, HTR.out _ _ hW h.2⟩
  clear hK K
  simp only [Act.put, List.setIfInBounds_toArray, List.set_cons_succ, List.set_cons_zero]
  refine wpQuiet_step (fun K hK => ?_)
  rw [if_pos (by rfl)]
  refine ⟨.agg #[.string ⟨on.toArray⟩, .int .i64 ot], fun W hW => quiet_ok ?_, hK _ ?_⟩
  · have q := HX.out W hW
    obtain ⟨⟨m0, m1, m2, m3⟩, ⟨z0, z1⟩, _⟩ := q
    go_simp
    all_goals (try omega)
  clear hK K
  simp only [Act.put, List.setIfInBounds_toArray, List.set_cons_succ, List.set_cons_zero]
  refine wpQuiet_step (fun K hK => ?_)
  rw [if_pos (by rfl)]
  refine ⟨.bool same, fun W hW => quiet_ok ?_, hK _ ?_⟩
  · go_simp
    exact own_if2 (fun b => Result.ok (Next.value (Value.bool b)) W) HE.out
  clear hK K
  simp only [Act.put, List.setIfInBounds_toArray, List.set_cons_succ, List.set_cons_zero]
  refine wpQuiet_step (fun K hK => ?_)
  rw [if_pos (by rfl)]
  refine ⟨.bool same, fun W hW => quiet_ok ?_, hK _ ?_⟩
  · have q := HX.out W hW
    obtain ⟨⟨m0, m1, m2, m3⟩, ⟨z0, z1⟩, _⟩ := q
    go_simp
    all_goals (try omega)
  clear hK K
  simp only [Act.put, List.setIfInBounds_toArray, List.set_cons_succ, List.set_cons_zero]
  refine wpQuiet_nil ?_
  intro W hW
  have hbW := (HX.out W hW).2.2
  go_wp2_with fail
  go_ret
  exact ⟨rfl, hbW⟩

set_option maxRecDepth 20000 in
set_option maxHeartbeats 1000000 in
theorem tells1_any (xn xd sd : List UInt8) (xt xl : Int) (g : Nat) (w : World) (h0 : w.cell? ⟨g, 0, none⟩ = some (.string ⟨sd.toArray⟩)) (hg : g < w.heap.size) :
    Calls Tryz.prog 126 #[.agg #[.string ⟨xn.toArray⟩, .int .i64 xt, .int .i64 xl, .string ⟨xd.toArray⟩], .pointer (some ⟨g, 0, none⟩)] w fun e w' => e = .returned (.bool (xt == 6 && xd == sd)) ∧ Below w.heap.size w w' := by
  have hb0 : Below w.heap.size w (w.alloc (.cells #[.string ⟨xn.toArray⟩, .int .i64 xt, .int .i64 xl, .string ⟨xd.toArray⟩] 108)) := (Below.refl _ _).alloc (Nat.le_refl _) _
  by_cases h6 : xt = 6
  · subst h6
    go_enter Tryz.func126, Tryz.ntmps126
    go_wp2_with fail
    go_ret
    exact ⟨rfl, hb0⟩
  · have e6 : (xt == 6) = false := by simpa using h6
    go_enter Tryz.func126, Tryz.ntmps126
    go_wp2_with fail
    go_ret
    exact ⟨ret_bool (by rw [e6]; rfl), hb0⟩

set_option maxRecDepth 20000 in
set_option maxHeartbeats 4000000 in
theorem mayLie_any (xn xd yn yd : List UInt8) (xt xl yt yl : Int) (w : World) (hx : xn.length ≤ 1048576) (hy : yn.length ≤ 1048576) :
    Calls Tryz.prog 194 #[.agg #[.string ⟨xn.toArray⟩, .int .i64 xt, .int .i64 xl, .string ⟨xd.toArray⟩], .agg #[.string ⟨yn.toArray⟩, .int .i64 yt, .int .i64 yl, .string ⟨yd.toArray⟩]] w fun e w' => e = .returned (.bool (mayB (xn, xt, xl, xd) (yn, yt, yl, yd))) ∧ Below w.heap.size w w' := by
  obtain ⟨W0, hW0⟩ : ∃ W0, W0 = boxRR w ⟨xn.toArray⟩ ⟨xd.toArray⟩ xt xl ⟨yn.toArray⟩ ⟨yd.toArray⟩ yt yl := ⟨_, rfl⟩
  have HX : Hid (∀ W, Below W0.heap.size W0 W → (W.cell? ⟨w.heap.size, 0, none⟩ = some (.string ⟨xn.toArray⟩) ∧ W.cell? ⟨w.heap.size, 1, none⟩ = some (.int .i64 xt) ∧ W.cell? ⟨w.heap.size, 2, none⟩ = some (.int .i64 xl) ∧ W.cell? ⟨w.heap.size, 3, none⟩ = some (.string ⟨xd.toArray⟩)) ∧ (W.cell? ⟨w.heap.size + 1, 0, none⟩ = some (.string ⟨yn.toArray⟩) ∧ W.cell? ⟨w.heap.size + 1, 1, none⟩ = some (.int .i64 yt) ∧ W.cell? ⟨w.heap.size + 1, 2, none⟩ = some (.int .i64 yl) ∧ W.cell? ⟨w.heap.size + 1, 3, none⟩ = some (.string ⟨yd.toArray⟩)) ∧ Below w.heap.size w W) := fun W hW => by
    rw [hW0] at hW
    have c8 := in8 hW
    unfold In8 at c8
    exact ⟨⟨c8.1.1, c8.1.2.1, c8.1.2.2.1, c8.1.2.2.2⟩, ⟨c8.2.1.1, c8.2.1.2.1, c8.2.1.2.2.1, c8.2.1.2.2.2⟩, c8.2.2⟩
  have HOX : Hid (∀ W, Calls Tryz.prog 191 #[.agg #[.string ⟨xn.toArray⟩, .int .i64 xt, .int .i64 xl, .string ⟨xd.toArray⟩]] W fun e w' => e = .returned (.agg #[.string ⟨xn.toArray⟩, .int .i64 xt]) ∧ Below W.heap.size W w') := fun W => ownerOf_any ⟨xn.toArray⟩ ⟨xd.toArray⟩ xt xl W
  have HOY : Hid (∀ W, Calls Tryz.prog 191 #[.agg #[.string ⟨yn.toArray⟩, .int .i64 yt, .int .i64 yl, .string ⟨yd.toArray⟩]] W fun e w' => e = .returned (.agg #[.string ⟨yn.toArray⟩, .int .i64 yt]) ∧ Below W.heap.size W w') := fun W => ownerOf_any ⟨yn.toArray⟩ ⟨yd.toArray⟩ yt yl W
  have HLB : Hid (∀ W, Calls Tryz.prog 190 #[.string ⟨xn.toArray⟩, .string ⟨yn.toArray⟩] W fun e w' => e = .returned (.bool (belowB xn yn)) ∧ w' = W) := fun W => liesBelow_any ⟨xn.toArray⟩ ⟨yn.toArray⟩ W (by rw [size_list]; omega) (by rw [size_list]; omega)
  have HTR : Hid (∀ W W', Below W0.heap.size W0 W → Below W.heap.size W W' → Below W0.heap.size W0 W') := fun W W' h1 h2 => h1.trans (h2.mono h1.size)
  have HW0 : Hid ((w.alloc (.cells #[.string ⟨xn.toArray⟩, .int .i64 xt, .int .i64 xl, .string ⟨xd.toArray⟩] 108)).alloc (.cells #[.string ⟨yn.toArray⟩, .int .i64 yt, .int .i64 yl, .string ⟨yd.toArray⟩] 108) = W0) := hW0.symm
  have hbd : Below W0.heap.size W0 W0.drew := (Below.refl _ _).drew
  have HM : Hid (mayB (xn, xt, xl, xd) (yn, yt, yl, yd) = (!(belowB xn yn) || (xt == 1 || (xn == yn && xt == yt)))) := rfl
  obtain ⟨r, hr⟩ : ∃ r, r = mayB (xn, xt, xl, xd) (yn, yt, yl, yd) := ⟨_, rfl⟩
  rw [← hr] at HM ⊢
  obtain ⟨same, hsame⟩ : ∃ same, same = (xn == yn && xt == yt) := ⟨_, rfl⟩
  have HE : Hid (same = (xn == yn && xt == yt)) := hsame
  rw [← hsame] at HM
  clear hsame hW0 hr
  obtain ⟨bl, hbl⟩ : ∃ bl, bl = belowB xn yn := ⟨_, rfl⟩
  rw [← hbl] at HM HLB
  clear hbl
  go_enter Tryz.func194, Tryz.ntmps194
  go_wp2_with fail
  rw [HW0.out]
  refine wp_region_quiet (C := fun W => Below W0.heap.size W0 W) (by kernel_rfl) (by kernel_rfl) hbd ?_
  refine wpQuiet_step (fun K hK => ?_)
  rw [if_pos (by rfl)]
  refine ⟨.pointer (some ⟨w.heap.size, 0, none⟩), fun W hW => quiet_ok ?_, hK _ ?_⟩
  · have q := HX.out W hW
    obtain ⟨⟨m0, m1, m2, m3⟩, ⟨z0, z1, z2, z3⟩, _⟩ := q
    go_simp
    all_goals (try omega)
  clear hK K
  simp only [Act.put, List.setIfInBounds_toArray, List.set_cons_succ, List.set_cons_zero]
  refine wpQuiet_step (fun K hK => ?_)
  rw [if_pos (by rfl)]
  refine ⟨.string ⟨xn.toArray⟩, fun W hW => quiet_ok ?_, hK _ ?_⟩
  · have q := HX.out W hW
    obtain ⟨⟨m0, m1, m2, m3⟩, ⟨z0, z1, z2, z3⟩, _⟩ := q
    go_simp
    all_goals (try omega)
  clear hK K
  simp only [Act.put, List.setIfInBounds_toArray, List.set_cons_succ, List.set_cons_zero]
  refine wpQuiet_step (fun K hK => ?_)
  rw [if_pos (by rfl)]
  refine ⟨.pointer (some ⟨w.heap.size + 1, 0, none⟩), fun W hW => quiet_ok ?_, hK _ ?_⟩
  · have q := HX.out W hW
    obtain ⟨⟨m0, m1, m2, m3⟩, ⟨z0, z1, z2, z3⟩, _⟩ := q
    go_simp
    all_goals (try omega)
  clear hK K
  simp only [Act.put, List.setIfInBounds_toArray, List.set_cons_succ, List.set_cons_zero]
  refine wpQuiet_step (fun K hK => ?_)
  rw [if_pos (by rfl)]
  refine ⟨.string ⟨yn.toArray⟩, fun W hW => quiet_ok ?_, hK _ ?_⟩
  · have q := HX.out W hW
    obtain ⟨⟨m0, m1, m2, m3⟩, ⟨z0, z1, z2, z3⟩, _⟩ := q
    go_simp
    all_goals (try omega)
  clear hK K
  simp only [Act.put, List.setIfInBounds_toArray, List.set_cons_succ, List.set_cons_zero]
  refine wpQuiet_step (fun K hK => ?_)
  rw [if_pos (by rfl)]
  refine ⟨.bool bl, fun W hW => quiet_call (f := 190) (args := #[.string ⟨xn.toArray⟩, .string ⟨yn.toArray⟩]) ?_ ?_, hK _ ?_⟩
  · go_simp
  · exact (HLB.out W).mono fun e w'' h => ⟨h.1, by rw [h.2]; exact hW⟩
  clear hK K
  simp only [Act.put, List.setIfInBounds_toArray, List.set_cons_succ, List.set_cons_zero]
  cases bl with
  | false =>
    have HR : Hid (r = true) := by rw [HM.out]; exact rfl
    clear HM HE
    refine wpQuiet_step (fun K hK => ?_)
    rw [if_pos (by rfl)]
    refine ⟨.bool true, fun W hW => quiet_ok ?_, hK _ ?_⟩
    · have q := HX.out W hW
      obtain ⟨⟨m0, m1, m2, m3⟩, ⟨z0, z1, z2, z3⟩, _⟩ := q
      go_simp
      all_goals (try omega)
    clear hK K
    simp only [Act.put, List.setIfInBounds_toArray, List.set_cons_succ, List.set_cons_zero]
    refine wpQuiet_step (fun K hK => ?_)
    rw [if_pos (by rfl)]
    refine ⟨.bool true, fun W hW => quiet_ok ?_, hK _ ?_⟩
    · have q := HX.out W hW
      obtain ⟨⟨m0, m1, m2, m3⟩, ⟨z0, z1, z2, z3⟩, _⟩ := q
      go_simp
      all_goals (try omega)
    clear hK K
    simp only [Act.put, List.setIfInBounds_toArray, List.set_cons_succ, List.set_cons_zero]
    refine BigFrame.wpQuiet_skip (by first | kernel_rfl | rfl) ?_
    simp only [Act.put, List.setIfInBounds_toArray, List.set_cons_succ, List.set_cons_zero]
    refine BigFrame.wpQuiet_skip (by first | kernel_rfl | rfl) ?_
    simp only [Act.put, List.setIfInBounds_toArray, List.set_cons_succ, List.set_cons_zero]
    refine BigFrame.wpQuiet_skip (by first | kernel_rfl | rfl) ?_
    simp only [Act.put, List.setIfInBounds_toArray, List.set_cons_succ, List.set_cons_zero]
    refine wpQuiet_step (fun K hK => ?_)
    rw [if_pos (by rfl)]
    refine ⟨.bool true, fun W hW => quiet_ok ?_, hK _ ?_⟩
    · have q := HX.out W hW
      obtain ⟨⟨m0, m1, m2, m3⟩, ⟨z0, z1, z2, z3⟩, _⟩ := q
      go_simp
      all_goals (try omega)
    clear hK K
    simp only [Act.put, List.setIfInBounds_toArray, List.set_cons_succ, List.set_cons_zero]
    refine wpQuiet_step (fun K hK => ?_)
    rw [if_pos (by rfl)]
    refine ⟨.bool true, fun W hW => quiet_ok ?_, hK _ ?_⟩
    · have q := HX.out W hW
      obtain ⟨⟨m0, m1, m2, m3⟩, ⟨z0, z1, z2, z3⟩, _⟩ := q
      go_simp
      all_goals (try omega)
    clear hK K
    simp only [Act.put, List.setIfInBounds_toArray, List.set_cons_succ, List.set_cons_zero]
    refine BigFrame.wpQuiet_skip (by first | kernel_rfl | rfl) ?_
    simp only [Act.put, List.setIfInBounds_toArray, List.set_cons_succ, List.set_cons_zero]
    refine BigFrame.wpQuiet_skip (by first | kernel_rfl | rfl) ?_
    simp only [Act.put, List.setIfInBounds_toArray, List.set_cons_succ, List.set_cons_zero]
    refine BigFrame.wpQuiet_skip (by first | kernel_rfl | rfl) ?_
    simp only [Act.put, List.setIfInBounds_toArray, List.set_cons_succ, List.set_cons_zero]
    refine BigFrame.wpQuiet_skip (by first | kernel_rfl | rfl) ?_
    simp only [Act.put, List.setIfInBounds_toArray, List.set_cons_succ, List.set_cons_zero]
    refine BigFrame.wpQuiet_skip (by first | kernel_rfl | rfl) ?_
    simp only [Act.put, List.setIfInBounds_toArray, List.set_cons_succ, List.set_cons_zero]
    refine wpQuiet_step (fun K hK => ?_)
    rw [if_pos (by rfl)]
    refine ⟨.bool true, fun W hW => quiet_ok ?_, hK _ ?_⟩
    · have q := HX.out W hW
      obtain ⟨⟨m0, m1, m2, m3⟩, ⟨z0, z1, z2, z3⟩, _⟩ := q
      go_simp
      all_goals (try omega)
    clear hK K
    simp only [Act.put, List.setIfInBounds_toArray, List.set_cons_succ, List.set_cons_zero]
    refine wpQuiet_step (fun K hK => ?_)
    rw [if_pos (by rfl)]
    refine ⟨.bool true, fun W hW => quiet_ok ?_, hK _ ?_⟩
    · have q := HX.out W hW
      obtain ⟨⟨m0, m1, m2, m3⟩, ⟨z0, z1, z2, z3⟩, _⟩ := q
      go_simp
      all_goals (try omega)
    clear hK K
    simp only [Act.put, List.setIfInBounds_toArray, List.set_cons_succ, List.set_cons_zero]
    refine wpQuiet_nil ?_
    intro W hW
    have hbW := (HX.out W hW).2.2
    go_wp2_with fail
    go_ret
    exact ⟨ret_bool HR.out.symm, hbW⟩
  | true =>
    refine wpQuiet_step (fun K hK => ?_)
    rw [if_pos (by rfl)]
    refine ⟨.bool false, fun W hW => quiet_ok ?_, hK _ ?_⟩
    · have q := HX.out W hW
      obtain ⟨⟨m0, m1, m2, m3⟩, ⟨z0, z1, z2, z3⟩, _⟩ := q
      go_simp
      all_goals (try omega)
    clear hK K
    simp only [Act.put, List.setIfInBounds_toArray, List.set_cons_succ, List.set_cons_zero]
    refine wpQuiet_step (fun K hK => ?_)
    rw [if_pos (by rfl)]
    refine ⟨.bool false, fun W hW => quiet_ok ?_, hK _ ?_⟩
    · have q := HX.out W hW
      obtain ⟨⟨m0, m1, m2, m3⟩, ⟨z0, z1, z2, z3⟩, _⟩ := q
      go_simp
      all_goals (try omega)
    clear hK K
    simp only [Act.put, List.setIfInBounds_toArray, List.set_cons_succ, List.set_cons_zero]
    refine wpQuiet_step (fun K hK => ?_)
    rw [if_pos (by rfl)]
    refine ⟨.pointer (some ⟨w.heap.size, 1, none⟩), fun W hW => quiet_ok ?_, hK _ ?_⟩
    · have q := HX.out W hW
      obtain ⟨⟨m0, m1, m2, m3⟩, ⟨z0, z1, z2, z3⟩, _⟩ := q
      go_simp
      all_goals (try omega)
    clear hK K
    simp only [Act.put, List.setIfInBounds_toArray, List.set_cons_succ, List.set_cons_zero]
    refine wpQuiet_step (fun K hK => ?_)
    rw [if_pos (by rfl)]
    refine ⟨.int .i64 xt, fun W hW => quiet_ok ?_, hK _ ?_⟩
    · have q := HX.out W hW
      obtain ⟨⟨m0, m1, m2, m3⟩, ⟨z0, z1, z2, z3⟩, _⟩ := q
      go_simp
      all_goals (try omega)
    clear hK K
    simp only [Act.put, List.setIfInBounds_toArray, List.set_cons_succ, List.set_cons_zero]
    by_cases h1 : xt = 1
    · have HR : Hid (r = true) := by rw [HM.out, show (xt == 1) = true by simpa using h1]; exact rfl
      clear HM HE
      subst h1
      refine wpQuiet_step (fun K hK => ?_)
      rw [if_pos (by rfl)]
      refine ⟨.bool true, fun W hW => quiet_ok ?_, hK _ ?_⟩
      · have q := HX.out W hW
        obtain ⟨⟨m0, m1, m2, m3⟩, ⟨z0, z1, z2, z3⟩, _⟩ := q
        go_simp
        all_goals (try omega)
      clear hK K
      simp only [Act.put, List.setIfInBounds_toArray, List.set_cons_succ, List.set_cons_zero]
      refine wpQuiet_step (fun K hK => ?_)
      rw [if_pos (by rfl)]
      refine ⟨.bool true, fun W hW => quiet_ok ?_, hK _ ?_⟩
      · have q := HX.out W hW
        obtain ⟨⟨m0, m1, m2, m3⟩, ⟨z0, z1, z2, z3⟩, _⟩ := q
        go_simp
        all_goals (try omega)
      clear hK K
      simp only [Act.put, List.setIfInBounds_toArray, List.set_cons_succ, List.set_cons_zero]
      refine wpQuiet_step (fun K hK => ?_)
      rw [if_pos (by rfl)]
      refine ⟨.bool true, fun W hW => quiet_ok ?_, hK _ ?_⟩
      · have q := HX.out W hW
        obtain ⟨⟨m0, m1, m2, m3⟩, ⟨z0, z1, z2, z3⟩, _⟩ := q
        go_simp
        all_goals (try omega)
      clear hK K
      simp only [Act.put, List.setIfInBounds_toArray, List.set_cons_succ, List.set_cons_zero]
      refine BigFrame.wpQuiet_skip (by first | kernel_rfl | rfl) ?_
      simp only [Act.put, List.setIfInBounds_toArray, List.set_cons_succ, List.set_cons_zero]
      refine BigFrame.wpQuiet_skip (by first | kernel_rfl | rfl) ?_
      simp only [Act.put, List.setIfInBounds_toArray, List.set_cons_succ, List.set_cons_zero]
      refine BigFrame.wpQuiet_skip (by first | kernel_rfl | rfl) ?_
      simp only [Act.put, List.setIfInBounds_toArray, List.set_cons_succ, List.set_cons_zero]
      refine BigFrame.wpQuiet_skip (by first | kernel_rfl | rfl) ?_
      simp only [Act.put, List.setIfInBounds_toArray, List.set_cons_succ, List.set_cons_zero]
      refine BigFrame.wpQuiet_skip (by first | kernel_rfl | rfl) ?_
      simp only [Act.put, List.setIfInBounds_toArray, List.set_cons_succ, List.set_cons_zero]
      refine wpQuiet_step (fun K hK => ?_)
      rw [if_pos (by rfl)]
      refine ⟨.bool true, fun W hW => quiet_ok ?_, hK _ ?_⟩
      · have q := HX.out W hW
        obtain ⟨⟨m0, m1, m2, m3⟩, ⟨z0, z1, z2, z3⟩, _⟩ := q
        go_simp
        all_goals (try omega)
      clear hK K
      simp only [Act.put, List.setIfInBounds_toArray, List.set_cons_succ, List.set_cons_zero]
      refine wpQuiet_step (fun K hK => ?_)
      rw [if_pos (by rfl)]
      refine ⟨.bool true, fun W hW => quiet_ok ?_, hK _ ?_⟩
      · have q := HX.out W hW
        obtain ⟨⟨m0, m1, m2, m3⟩, ⟨z0, z1, z2, z3⟩, _⟩ := q
        go_simp
        all_goals (try omega)
      clear hK K
      simp only [Act.put, List.setIfInBounds_toArray, List.set_cons_succ, List.set_cons_zero]
      refine wpQuiet_nil ?_
      intro W hW
      have hbW := (HX.out W hW).2.2
      go_wp2_with fail
      go_ret
      exact ⟨ret_bool HR.out.symm, hbW⟩
    · have ex : (xt == 1) = false := by simpa using h1
      have HR : Hid (r = same) := by rw [HM.out, ex]; exact rfl
      clear HM
      refine wpQuiet_step (fun K hK => ?_)
      rw [if_pos (by rfl)]
      refine ⟨.bool false, fun W hW => quiet_ok ?_, hK _ ?_⟩
      · have q := HX.out W hW
        obtain ⟨⟨m0, m1, m2, m3⟩, ⟨z0, z1, z2, z3⟩, _⟩ := q
        go_simp
        all_goals (try omega)
      clear hK K
      simp only [Act.put, List.setIfInBounds_toArray, List.set_cons_succ, List.set_cons_zero]
      refine wpQuiet_step (fun K hK => ?_)
      rw [if_pos (by rfl)]
      refine ⟨.bool false, fun W hW => quiet_ok ?_, hK _ ?_⟩
      · have q := HX.out W hW
        obtain ⟨⟨m0, m1, m2, m3⟩, ⟨z0, z1, z2, z3⟩, _⟩ := q
        go_simp
        all_goals (try omega)
      clear hK K
      simp only [Act.put, List.setIfInBounds_toArray, List.set_cons_succ, List.set_cons_zero]
      refine wpQuiet_step (fun K hK => ?_)
      rw [if_pos (by rfl)]
      refine ⟨.bool false, fun W hW => quiet_ok ?_, hK _ ?_⟩
      · have q := HX.out W hW
        obtain ⟨⟨m0, m1, m2, m3⟩, ⟨z0, z1, z2, z3⟩, _⟩ := q
        go_simp
        all_goals (try omega)
      clear hK K
      simp only [Act.put, List.setIfInBounds_toArray, List.set_cons_succ, List.set_cons_zero]
      refine wpQuiet_step (fun K hK => ?_)
      rw [if_pos (by rfl)]
      refine ⟨.agg #[.string ⟨xn.toArray⟩, .int .i64 xt, .int .i64 xl, .string ⟨xd.toArray⟩], fun W hW => quiet_ok ?_, hK _ ?_⟩
      · have q := HX.out W hW
        obtain ⟨⟨m0, m1, m2, m3⟩, ⟨z0, z1, z2, z3⟩, _⟩ := q
        go_simp
        all_goals (try omega)
      clear hK K
      simp only [Act.put, List.setIfInBounds_toArray, List.set_cons_succ, List.set_cons_zero]
      refine wpQuiet_step (fun K hK => ?_)
      rw [if_pos (by rfl)]
      refine ⟨.agg #[.string ⟨xn.toArray⟩, .int .i64 xt], fun W hW => quiet_call (f := 191) (args := #[.agg #[.string ⟨xn.toArray⟩, .int .i64 xt, .int .i64 xl, .string ⟨xd.toArray⟩]]) ?_ ?_, hK _ ?_⟩
      · go_simp
      · exact (HOX.out W).mono fun e w'' h => ⟨h.1, HTR.out _ _ hW h.2⟩
      clear hK K
      simp only [Act.put, List.setIfInBounds_toArray, List.set_cons_succ, List.set_cons_zero]
      refine wpQuiet_step (fun K hK => ?_)
      rw [if_pos (by rfl)]
      refine ⟨.agg #[.string ⟨yn.toArray⟩, .int .i64 yt, .int .i64 yl, .string ⟨yd.toArray⟩], fun W hW => quiet_ok ?_, hK _ ?_⟩
      · have q := HX.out W hW
        obtain ⟨⟨m0, m1, m2, m3⟩, ⟨z0, z1, z2, z3⟩, _⟩ := q
        go_simp
        all_goals (try omega)
      clear hK K
      simp only [Act.put, List.setIfInBounds_toArray, List.set_cons_succ, List.set_cons_zero]
      refine wpQuiet_step (fun K hK => ?_)
      rw [if_pos (by rfl)]
      refine ⟨.agg #[.string ⟨yn.toArray⟩, .int .i64 yt], fun W hW => quiet_call (f := 191) (args := #[.agg #[.string ⟨yn.toArray⟩, .int .i64 yt, .int .i64 yl, .string ⟨yd.toArray⟩]]) ?_ ?_, hK _ ?_⟩
      · go_simp
      · exact (HOY.out W).mono fun e w'' h => ⟨h.1, HTR.out _ _ hW h.2⟩
      clear hK K
      simp only [Act.put, List.setIfInBounds_toArray, List.set_cons_succ, List.set_cons_zero]
      refine wpQuiet_step (fun K hK => ?_)
      rw [if_pos (by rfl)]
      refine ⟨.bool same, fun W hW => quiet_ok ?_, hK _ ?_⟩
      · go_simp
        exact own_if2 (fun b => Result.ok (Next.value (Value.bool b)) W) HE.out
      clear hK K
      simp only [Act.put, List.setIfInBounds_toArray, List.set_cons_succ, List.set_cons_zero]
      refine wpQuiet_step (fun K hK => ?_)
      rw [if_pos (by rfl)]
      refine ⟨.bool same, fun W hW => quiet_ok ?_, hK _ ?_⟩
      · have q := HX.out W hW
        obtain ⟨⟨m0, m1, m2, m3⟩, ⟨z0, z1, z2, z3⟩, _⟩ := q
        go_simp
        all_goals (try omega)
      clear hK K
      simp only [Act.put, List.setIfInBounds_toArray, List.set_cons_succ, List.set_cons_zero]
      refine wpQuiet_step (fun K hK => ?_)
      rw [if_pos (by rfl)]
      refine ⟨.bool same, fun W hW => quiet_ok ?_, hK _ ?_⟩
      · have q := HX.out W hW
        obtain ⟨⟨m0, m1, m2, m3⟩, ⟨z0, z1, z2, z3⟩, _⟩ := q
        go_simp
        all_goals (try omega)
      clear hK K
      simp only [Act.put, List.setIfInBounds_toArray, List.set_cons_succ, List.set_cons_zero]
      refine wpQuiet_nil ?_
      intro W hW
      have hbW := (HX.out W hW).2.2
      go_wp2_with fail
      go_ret
      exact ⟨ret_bool HR.out.symm, hbW⟩
end Go.Proofs.YtoobaaklklommaaGreatDoor
