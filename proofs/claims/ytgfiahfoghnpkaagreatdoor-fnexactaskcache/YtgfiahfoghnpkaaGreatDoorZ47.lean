import Derived.Test.YtgfiahfoghnpkaaGreatDoorZ30
import Derived.Test.YtgfiahfoghnpkaaGreatDoorZ27
import Derived.Test.YtgfiahfoghnpkaaGreatDoorZ46
import Derived.BigQuiet
import Derived.Deep.QuietTactic
namespace Go.Proofs.YtgfiahfoghnpkaaGreatDoor
open Go.RowKit
theorem aZ47 {α : Type} {l : List α} {i : Nat} {x : α} : l.toArray.setIfInBounds i x = (l.set i x).toArray := List.setIfInBounds_toArray ..
theorem bZ47 {α : Type} {x : α} {l : List α} {i : Nat} {y : α} : (x :: l).set (i + 1) y = x :: l.set i y := List.set_cons_succ
theorem cZ47 {α : Type} {x : α} {l : List α} {y : α} : (x :: l).set 0 y = y :: l := List.set_cons_zero

/-- What holds of the records ahead of k. -/
def ansK (L : List (List UInt8 × Int × Int × List UInt8)) (k : Nat) : Prop :=
  (∀ j, (hj : j < L.length) → j < k → recB L[j].1 L[j].2.1 L[j].2.2.1 L[j].2.2.2 = true) ∧ (∀ j, (hj : j < L.length) → j < k → oneOf (hdR L) L[j] = true) ∧ ∀ j, (hj : j + 1 < L.length) → j + 1 < k → cmp4 (L[j]'(by omega)) L[j + 1] < 0
theorem ansK_zero (L : List (List UInt8 × Int × Int × List UInt8)) : ansK L 0 :=
  ⟨fun _ _ h => absurd h (Nat.not_lt_zero _), fun _ _ h => absurd h (Nat.not_lt_zero _), fun _ _ h => absurd h (Nat.not_lt_zero _)⟩
theorem ansK_up {L : List (List UInt8 × Int × Int × List UInt8)} {k : Nat} (h : ansK L k) (hk : k < L.length) (h1 : recB L[k].1 L[k].2.1 L[k].2.2.1 L[k].2.2.2 = true) (h2 : oneOf (hdR L) L[k] = true) (h3 : ∀ j, (hj : k = j + 1) → cmp4 (L[j]'(by omega)) L[k] < 0) : ansK L (k + 1) := by
  refine ⟨fun j hj hjk => ?_, fun j hj hjk => ?_, fun j hj hjk => ?_⟩
  · rcases Nat.lt_or_ge j k with h' | h'
    · exact h.1 j hj h'
    · obtain rfl : j = k := by omega
      exact h1
  · rcases Nat.lt_or_ge j k with h' | h'
    · exact h.2.1 j hj h'
    · obtain rfl : j = k := by omega
      exact h2
  · rcases Nat.lt_or_ge (j + 1) k with h' | h'
    · exact h.2.2 j hj h'
    · obtain rfl : j + 1 = k := by omega
      exact h3 j rfl
theorem ansK_all {L : List (List UInt8 × Int × Int × List UInt8)} {k : Nat} (h : ansK L k) (hk : ¬ k < L.length) : ansB L = (decide ((1 : Int) ≤ (L.length : Int)) && decide ((L.length : Int) ≤ 12)) :=
  ans_all (fun j hj => h.1 j hj (by omega)) (fun j hj => h.2.1 j hj (by omega)) (fun j hj => h.2.2 j hj (by omega))

set_option maxRecDepth 20000 in
set_option maxHeartbeats 8000000 in
theorem l10Same_any (v : Value) (L : List (List UInt8 × Int × Int × List UInt8)) (w : World) (hr : RRow w v L) (hx : Hid (∀ x ∈ L, x.1.length ≤ 1048576 ∧ x.2.2.2.length ≤ 1048576)) :
    Calls Tryz.prog 33 #[v] w fun e w' => e = .returned (.bool (ansB L)) ∧ Below w.heap.size w w' := by
  obtain ⟨a, cap, rfl, hcap, hmax, hrow⟩ := hr
  have HROW : Hid (L = [] ∨ ∃ b o, a = some ⟨b, o, none⟩ ∧ b < w.heap.size ∧ ∀ j, (hj : j < L.length) → RecAt w b (o + j * 4) L[j]) := hrow
  have HGR : Hid (∀ (x : (List UInt8 × Int × Int × List UInt8)) W, x.1.length ≤ 1048576 → x.2.2.2.length ≤ 1048576 → Calls Tryz.prog 64 #[.agg #[.string ⟨x.1.toArray⟩, .int .i64 x.2.1, .int .i64 x.2.2.1, .string ⟨x.2.2.2.toArray⟩]] W fun e w' => e = .returned (.bool (recB x.1 x.2.1 x.2.2.1 x.2.2.2)) ∧ Below W.heap.size W w') := fun x W g1 g2 =>
    sGoodRecord_any ⟨x.1.toArray⟩ ⟨x.2.2.2.toArray⟩ x.2.1 x.2.2.1 W (by rw [size_list]; exact g1) (by rw [size_list]; exact g2)
  have HCMA : Hid (∀ (y x : (List UInt8 × Int × Int × List UInt8)) W, y.1.length ≤ 1048576 → y.2.2.2.length ≤ 1048576 → x.1.length ≤ 1048576 → x.2.2.2.length ≤ 1048576 → recB y.1 y.2.1 y.2.2.1 y.2.2.2 = true → recB x.1 x.2.1 x.2.2.1 x.2.2.2 = true → Calls Tryz.prog 65 #[.agg #[.string ⟨y.1.toArray⟩, .int .i64 y.2.1, .int .i64 y.2.2.1, .string ⟨y.2.2.2.toArray⟩], .agg #[.string ⟨x.1.toArray⟩, .int .i64 x.2.1, .int .i64 x.2.2.1, .string ⟨x.2.2.2.toArray⟩]] W fun e w' => e = .returned (.int .i64 (cmp4 y x)) ∧ Below W.heap.size W w') := fun y x W g1 g2 g3 g4 g5 g6 => by
    have n1 := recB_name g5
    have n2 := recB_name g6
    have h := l3Compare_any ⟨y.1.toArray⟩ ⟨y.2.2.2.toArray⟩ y.2.1 y.2.2.1 ⟨x.1.toArray⟩ ⟨x.2.2.2.toArray⟩ x.2.1 x.2.2.1 W (by rw [size_list]; exact g1) (by rw [size_list]; exact g3) (by rw [size_list]; exact g2) (by rw [size_list]; exact g4) ⟨n1.1, n2.1⟩ ⟨n1.2, n2.2⟩
    refine h.mono fun e w' hh => ⟨hh.1.trans ?_, hh.2⟩
    exact congrArg (fun i => Ending.returned (.int .i64 i)) (ord_cmp ⟨n1.1, n2.1⟩).symm
  have HIN : Hid (∀ W, Calls Tryz.prog 49 #[.int .i64 (L.length : Int), .int .i64 1, .int .i64 12] W fun e w' => e = .returned (.bool (decide ((1 : Int) ≤ (L.length : Int)) && decide ((L.length : Int) ≤ 12))) ∧ w' = W) := fun W => l1In_any (L.length : Int) 1 12 W
  obtain ⟨r, hrr⟩ : ∃ r, r = ansB L := ⟨_, rfl⟩
  have HRR : Hid (r = ansB L) := hrr
  rw [← hrr]
  clear hrr
  unfold maxLen at hmax
  clear hrow
  go_enter Tryz.func33, Tryz.ntmps33
  go_wp2_with fail
  go_loopw [7] (fun i wr => ∃ k : Nat, k ≤ L.length ∧ i = .int .i64 (k : Int) ∧ Hid (ansK L k) ∧ Below w.heap.size w wr) (fun i _ => L.length - (intOf i).toNat)
  case atStart => exact ⟨0, Nat.zero_le _, rfl, ansK_zero L, Below.refl _ _⟩
  case round =>
    obtain ⟨k, hk, rfl, HA, hb⟩ := hrel
    by_cases hlt : k < L.length
    · rcases HROW.out with hr | ⟨b, o, ha, hbl, hcel⟩
      · rw [hr] at hlt; simp at hlt
      · rw [ha]
        have hcx := (hcel k hlt).kept hb
        unfold RecAt at hcx
        obtain ⟨c0, c1, c2, c3⟩ := hcx
        have hxl := hx.out _ (List.getElem_mem hlt)
        have hc0 := hcel 0 (by omega)
        rw [Nat.zero_mul, Nat.add_zero] at hc0
        have HBAD1 : Hid (recB (L[k]'hlt).1 (L[k]'hlt).2.1 (L[k]'hlt).2.2.1 (L[k]'hlt).2.2.2 = false → r = false) := fun h => HRR.out.trans (ans_rec (aresB_bad k hlt h))
        have HBAD2 : Hid (¬ ((L[k]'hlt).1 = (L[0]'(by omega)).1 ∧ (L[k]'hlt).2.1 = (L[0]'(by omega)).2.1 ∧ (L[k]'hlt).2.2.1 = (L[0]'(by omega)).2.2.1) → r = false) := fun h => HRR.out.trans (ans_one k hlt (one_not (by rw [hdR_at (show 0 < L.length by omega)]; exact h)))
        have HUPA : Hid (recB (L[k]'hlt).1 (L[k]'hlt).2.1 (L[k]'hlt).2.2.1 (L[k]'hlt).2.2.2 = true → ((L[k]'hlt).1 = (L[0]'(by omega)).1 ∧ (L[k]'hlt).2.1 = (L[0]'(by omega)).2.1 ∧ (L[k]'hlt).2.2.1 = (L[0]'(by omega)).2.2.1) → (∀ j, (hj : k = j + 1) → cmp4 (L[j]'(by omega)) (L[k]'hlt) < 0) → ansK L (k + 1)) := fun h1 h2 h3 => ansK_up HA.out hlt h1 ((one_iff _ _).2 (by rw [hdR_at (show 0 < L.length by omega)]; exact h2)) h3
        have HPREV : Hid (∀ j, (hj : k = j + 1) → ∃ y, y = L[j]'(by omega) ∧ recB y.1 y.2.1 y.2.2.1 y.2.2.2 = true ∧ (y.1.length ≤ 1048576 ∧ y.2.2.2.length ≤ 1048576) ∧ (∀ W, Below w.heap.size w W → RecAt W b (o + j * 4) y) ∧ (0 ≤ cmp4 y (L[k]'hlt) → r = false)) := fun j hj => ⟨_, rfl, HA.out.1 j (by omega) (by omega), hx.out _ (List.getElem_mem (by omega)), fun W hW => (hcel j (by omega)).kept hW, fun h => HRR.out.trans (ans_rise j (by omega) (by subst hj; exact h))⟩
        obtain ⟨h, hhe⟩ : ∃ h, h = L[0]'(by omega) := ⟨_, rfl⟩
        obtain ⟨x, hxe⟩ : ∃ x, x = L[k]'hlt := ⟨_, rfl⟩
        rw [← hhe] at hc0 HBAD2 HUPA
        rw [← hxe] at c0 c1 c2 c3 hxl HBAD1 HBAD2 HUPA HPREV
        have HC : Hid (∀ W, Calls Tryz.prog 64 #[.agg #[.string ⟨x.1.toArray⟩, .int .i64 x.2.1, .int .i64 x.2.2.1, .string ⟨x.2.2.2.toArray⟩]] W fun e w' => e = .returned (.bool (recB x.1 x.2.1 x.2.2.1 x.2.2.2)) ∧ Below W.heap.size W w') := fun W => HGR.out x W hxl.1 hxl.2
        obtain ⟨W0, hW0⟩ : ∃ W0, W0 = wr.alloc (.cells #[.string ⟨x.1.toArray⟩, .int .i64 x.2.1, .int .i64 x.2.2.1, .string ⟨x.2.2.2.toArray⟩] 61) := ⟨_, rfl⟩
        have HW0 : Hid (wr.alloc (.cells #[.string ⟨x.1.toArray⟩, .int .i64 x.2.1, .int .i64 x.2.2.1, .string ⟨x.2.2.2.toArray⟩] 61) = W0) := hW0.symm
        obtain ⟨gx, hgx⟩ : ∃ gx, gx = wr.heap.size := ⟨_, rfl⟩
        have HGX : Hid (wr.heap.size = gx) := hgx.symm
        have HTR : Hid (∀ W W', Below W0.heap.size W0 W → Below W.heap.size W W' → Below W0.heap.size W0 W') := fun W W' h1 h2 => h1.trans (h2.mono h1.size)
        have hbd : Below W0.heap.size W0 W0.drew := (Below.refl _ _).drew
        have HX : Hid (∀ W, Below W0.heap.size W0 W → (W.cell? ⟨gx, 0, none⟩ = some (.string ⟨x.1.toArray⟩) ∧ W.cell? ⟨gx, 1, none⟩ = some (.int .i64 x.2.1) ∧ W.cell? ⟨gx, 2, none⟩ = some (.int .i64 x.2.2.1) ∧ W.cell? ⟨gx, 3, none⟩ = some (.string ⟨x.2.2.2.toArray⟩)) ∧ Below wr.heap.size wr W) := fun W hW => by
          rw [hW0] at hW
          have h := box4 hW
          rw [hgx]
          exact ⟨⟨h.1, h.2.1, h.2.2.1, h.2.2.2.1⟩, h.2.2.2.2⟩
        have HBW : Hid (∀ W, Below W0.heap.size W0 W → Below w.heap.size w W) := fun W hW => hb.trans ((HX.out W hW).2.mono hb.size)
        have HH : Hid (∀ W, Below W0.heap.size W0 W → W.cell? ⟨b, o, none⟩ = some (.string ⟨h.1.toArray⟩) ∧ W.cell? ⟨b, o + 1, none⟩ = some (.int .i64 h.2.1) ∧ W.cell? ⟨b, o + 2, none⟩ = some (.int .i64 h.2.2.1) ∧ W.cell? ⟨b, o + 3, none⟩ = some (.string ⟨h.2.2.2.toArray⟩)) := fun W hW => hc0.kept (HBW.out W hW)
        have hl0 : (0 : Int) < (L.length : Int) := by omega
        have hLn : ¬ L = [] := fun e => by rw [e] at hlt; simp at hlt
        have hlk : (k : Int) < (L.length : Int) := by omega
        clear hcel hxe hhe hW0 hgx hc0
        cases h1 : recB x.1 x.2.1 x.2.2.1 x.2.2.2 with
        | false =>
          have HF : Hid (r = false) := HBAD1.out h1
          rw [h1] at HC
          clear HBAD1 HBAD2 HUPA HPREV h1
          obtain ⟨u15, hu15⟩ : ∃ u : Bool, u = true := ⟨_, rfl⟩
          have HU15 : Hid (u15 = true) := hu15
          clear hu15
          obtain ⟨u24, hu24⟩ : ∃ u : Bool, u = true := ⟨_, rfl⟩
          have HU24 : Hid (u24 = true) := hu24
          clear hu24
          obtain ⟨u33, hu33⟩ : ∃ u : Bool, u = true := ⟨_, rfl⟩
          have HU33 : Hid (u33 = true) := hu33
          clear hu33
          obtain ⟨u42, hu42⟩ : ∃ u : Bool, u = true := ⟨_, rfl⟩
          have HU42 : Hid (u42 = true) := hu42
          clear hu42
          go_wp2_with fail
          rw [HW0.out, HGX.out]
          refine wp_region_quiet (C := fun W => Below W0.heap.size W0 W) (by kernel_rfl) (by kernel_rfl) hbd ?_
          refine wpQuiet_step (fun K hK => ?_)
          rw [if_pos (by rfl)]
          refine ⟨.agg #[.string ⟨x.1.toArray⟩, .int .i64 x.2.1, .int .i64 x.2.2.1, .string ⟨x.2.2.2.toArray⟩], fun W hW => quiet_ok ?_, hK _ ?_⟩
          · have q := HX.out W hW
            obtain ⟨⟨m0, m1, m2, m3⟩, _⟩ := q
            have q2 := HH.out W hW
            obtain ⟨z0, z1, z2, z3⟩ := q2
            go_simp
            all_goals (try omega)
          clear hK K
          simp only [Act.put, aZ47, bZ47, cZ47]
          refine wpQuiet_step (fun K hK => ?_)
          rw [if_pos (by rfl)]
          refine ⟨.bool false, fun W hW => quiet_call (f := 64) (args := #[.agg #[.string ⟨x.1.toArray⟩, .int .i64 x.2.1, .int .i64 x.2.2.1, .string ⟨x.2.2.2.toArray⟩]]) ?_ ?_, hK _ ?_⟩
          · go_simp
          · exact (HC.out W).mono fun e w'' h => ⟨h.1, HTR.out _ _ hW h.2⟩
          clear hK K
          simp only [Act.put, aZ47, bZ47, cZ47]
          refine wpQuiet_step (fun K hK => ?_)
          rw [if_pos (by rfl)]
          refine ⟨.bool true, fun W hW => quiet_ok ?_, hK _ ?_⟩
          · have q := HX.out W hW
            obtain ⟨⟨m0, m1, m2, m3⟩, _⟩ := q
            have q2 := HH.out W hW
            obtain ⟨z0, z1, z2, z3⟩ := q2
            go_simp
            all_goals (try omega)
          clear hK K
          simp only [Act.put, aZ47, bZ47, cZ47]
          refine wpQuiet_step (fun K hK => ?_)
          rw [if_pos (by rfl)]
          refine ⟨.bool u15, fun W hW => quiet_ok ?_, hK _ ?_⟩
          · have q := HX.out W hW
            obtain ⟨⟨m0, m1, m2, m3⟩, _⟩ := q
            have q2 := HH.out W hW
            obtain ⟨z0, z1, z2, z3⟩ := q2
            have v15 := HU15.out
            go_simp
            all_goals (try omega)
          clear hK K
          simp only [Act.put, aZ47, bZ47, cZ47]
          refine BigFrame.wpQuiet_skip (by show (some u15 == some false) = false; rw [HU15.out]; rfl) ?_
          simp only [Act.put, aZ47, bZ47, cZ47]
          refine BigFrame.wpQuiet_skip (by show (some u15 == some false) = false; rw [HU15.out]; rfl) ?_
          simp only [Act.put, aZ47, bZ47, cZ47]
          refine BigFrame.wpQuiet_skip (by show (some u15 == some false) = false; rw [HU15.out]; rfl) ?_
          simp only [Act.put, aZ47, bZ47, cZ47]
          refine BigFrame.wpQuiet_skip (by show (some u15 == some false) = false; rw [HU15.out]; rfl) ?_
          simp only [Act.put, aZ47, bZ47, cZ47]
          refine BigFrame.wpQuiet_skip (by show (some u15 == some false) = false; rw [HU15.out]; rfl) ?_
          simp only [Act.put, aZ47, bZ47, cZ47]
          refine BigFrame.wpQuiet_skip (by show (some u15 == some false) = false; rw [HU15.out]; rfl) ?_
          simp only [Act.put, aZ47, bZ47, cZ47]
          refine BigFrame.wpQuiet_skip (by show (some u15 == some false) = false; rw [HU15.out]; rfl) ?_
          simp only [Act.put, aZ47, bZ47, cZ47]
          refine wpQuiet_step (fun K hK => ?_)
          rw [if_pos (by rfl)]
          refine ⟨.bool true, fun W hW => quiet_ok ?_, hK _ ?_⟩
          · have q := HX.out W hW
            obtain ⟨⟨m0, m1, m2, m3⟩, _⟩ := q
            have q2 := HH.out W hW
            obtain ⟨z0, z1, z2, z3⟩ := q2
            have v15 := HU15.out
            go_simp
            all_goals (try omega)
          clear hK K
          simp only [Act.put, aZ47, bZ47, cZ47]
          refine wpQuiet_step (fun K hK => ?_)
          rw [if_pos (by rfl)]
          refine ⟨.bool u24, fun W hW => quiet_ok ?_, hK _ ?_⟩
          · have q := HX.out W hW
            obtain ⟨⟨m0, m1, m2, m3⟩, _⟩ := q
            have q2 := HH.out W hW
            obtain ⟨z0, z1, z2, z3⟩ := q2
            have v15 := HU15.out
            have v24 := HU24.out
            go_simp
            all_goals (try omega)
          clear hK K
          simp only [Act.put, aZ47, bZ47, cZ47]
          refine BigFrame.wpQuiet_skip (by show (some u24 == some false) = false; rw [HU24.out]; rfl) ?_
          simp only [Act.put, aZ47, bZ47, cZ47]
          refine BigFrame.wpQuiet_skip (by show (some u24 == some false) = false; rw [HU24.out]; rfl) ?_
          simp only [Act.put, aZ47, bZ47, cZ47]
          refine BigFrame.wpQuiet_skip (by show (some u24 == some false) = false; rw [HU24.out]; rfl) ?_
          simp only [Act.put, aZ47, bZ47, cZ47]
          refine BigFrame.wpQuiet_skip (by show (some u24 == some false) = false; rw [HU24.out]; rfl) ?_
          simp only [Act.put, aZ47, bZ47, cZ47]
          refine BigFrame.wpQuiet_skip (by show (some u24 == some false) = false; rw [HU24.out]; rfl) ?_
          simp only [Act.put, aZ47, bZ47, cZ47]
          refine BigFrame.wpQuiet_skip (by show (some u24 == some false) = false; rw [HU24.out]; rfl) ?_
          simp only [Act.put, aZ47, bZ47, cZ47]
          refine BigFrame.wpQuiet_skip (by show (some u24 == some false) = false; rw [HU24.out]; rfl) ?_
          simp only [Act.put, aZ47, bZ47, cZ47]
          refine wpQuiet_step (fun K hK => ?_)
          rw [if_pos (by rfl)]
          refine ⟨.bool true, fun W hW => quiet_ok ?_, hK _ ?_⟩
          · have q := HX.out W hW
            obtain ⟨⟨m0, m1, m2, m3⟩, _⟩ := q
            have q2 := HH.out W hW
            obtain ⟨z0, z1, z2, z3⟩ := q2
            have v15 := HU15.out
            have v24 := HU24.out
            go_simp
            all_goals (try omega)
          clear hK K
          simp only [Act.put, aZ47, bZ47, cZ47]
          refine wpQuiet_step (fun K hK => ?_)
          rw [if_pos (by rfl)]
          refine ⟨.bool u33, fun W hW => quiet_ok ?_, hK _ ?_⟩
          · have q := HX.out W hW
            obtain ⟨⟨m0, m1, m2, m3⟩, _⟩ := q
            have q2 := HH.out W hW
            obtain ⟨z0, z1, z2, z3⟩ := q2
            have v15 := HU15.out
            have v24 := HU24.out
            have v33 := HU33.out
            go_simp
            all_goals (try omega)
          clear hK K
          simp only [Act.put, aZ47, bZ47, cZ47]
          refine BigFrame.wpQuiet_skip (by show (some u33 == some false) = false; rw [HU33.out]; rfl) ?_
          simp only [Act.put, aZ47, bZ47, cZ47]
          refine BigFrame.wpQuiet_skip (by show (some u33 == some false) = false; rw [HU33.out]; rfl) ?_
          simp only [Act.put, aZ47, bZ47, cZ47]
          refine BigFrame.wpQuiet_skip (by show (some u33 == some false) = false; rw [HU33.out]; rfl) ?_
          simp only [Act.put, aZ47, bZ47, cZ47]
          refine BigFrame.wpQuiet_skip (by show (some u33 == some false) = false; rw [HU33.out]; rfl) ?_
          simp only [Act.put, aZ47, bZ47, cZ47]
          refine BigFrame.wpQuiet_skip (by show (some u33 == some false) = false; rw [HU33.out]; rfl) ?_
          simp only [Act.put, aZ47, bZ47, cZ47]
          refine BigFrame.wpQuiet_skip (by show (some u33 == some false) = false; rw [HU33.out]; rfl) ?_
          simp only [Act.put, aZ47, bZ47, cZ47]
          refine BigFrame.wpQuiet_skip (by show (some u33 == some false) = false; rw [HU33.out]; rfl) ?_
          simp only [Act.put, aZ47, bZ47, cZ47]
          refine wpQuiet_step (fun K hK => ?_)
          rw [if_pos (by rfl)]
          refine ⟨.bool true, fun W hW => quiet_ok ?_, hK _ ?_⟩
          · have q := HX.out W hW
            obtain ⟨⟨m0, m1, m2, m3⟩, _⟩ := q
            have q2 := HH.out W hW
            obtain ⟨z0, z1, z2, z3⟩ := q2
            have v15 := HU15.out
            have v24 := HU24.out
            have v33 := HU33.out
            go_simp
            all_goals (try omega)
          clear hK K
          simp only [Act.put, aZ47, bZ47, cZ47]
          refine wpQuiet_step (fun K hK => ?_)
          rw [if_pos (by rfl)]
          refine ⟨.bool u42, fun W hW => quiet_ok ?_, hK _ ?_⟩
          · have q := HX.out W hW
            obtain ⟨⟨m0, m1, m2, m3⟩, _⟩ := q
            have q2 := HH.out W hW
            obtain ⟨z0, z1, z2, z3⟩ := q2
            have v15 := HU15.out
            have v24 := HU24.out
            have v33 := HU33.out
            have v42 := HU42.out
            go_simp
            all_goals (try omega)
          clear hK K
          simp only [Act.put, aZ47, bZ47, cZ47]
          refine BigFrame.wpQuiet_skip (by show (some u42 == some false) = false; rw [HU42.out]; rfl) ?_
          simp only [Act.put, aZ47, bZ47, cZ47]
          refine BigFrame.wpQuiet_skip (by show (some u42 == some false) = false; rw [HU42.out]; rfl) ?_
          simp only [Act.put, aZ47, bZ47, cZ47]
          refine BigFrame.wpQuiet_skip (by show (some u42 == some false) = false; rw [HU42.out]; rfl) ?_
          simp only [Act.put, aZ47, bZ47, cZ47]
          generalize hund : (undef : Value) = un
          refine BigFrame.wpQuiet_skip (by rw [← hund]; rfl) ?_
          simp only [Act.put, aZ47, bZ47, cZ47]
          refine BigFrame.wpQuiet_skip (by rw [← hund]; rfl) ?_
          simp only [Act.put, aZ47, bZ47, cZ47]
          refine BigFrame.wpQuiet_skip (by rw [← hund]; rfl) ?_
          simp only [Act.put, aZ47, bZ47, cZ47]
          refine BigFrame.wpQuiet_skip (by rw [← hund]; rfl) ?_
          simp only [Act.put, aZ47, bZ47, cZ47]
          refine BigFrame.wpQuiet_skip (by rw [← hund]; rfl) ?_
          simp only [Act.put, aZ47, bZ47, cZ47]
          refine BigFrame.wpQuiet_skip (by rw [← hund]; rfl) ?_
          simp only [Act.put, aZ47, bZ47, cZ47]
          refine BigFrame.wpQuiet_skip (by rw [← hund]; rfl) ?_
          simp only [Act.put, aZ47, bZ47, cZ47]
          refine BigFrame.wpQuiet_skip (by rw [← hund]; rfl) ?_
          simp only [Act.put, aZ47, bZ47, cZ47]
          refine BigFrame.wpQuiet_skip (by show (some u42 == some false) = false; rw [HU42.out]; rfl) ?_
          simp only [Act.put, aZ47, bZ47, cZ47]
          refine wpQuiet_step (fun K hK => ?_)
          rw [if_pos (by rfl)]
          refine ⟨.bool true, fun W hW => quiet_ok ?_, hK _ ?_⟩
          · have q := HX.out W hW
            obtain ⟨⟨m0, m1, m2, m3⟩, _⟩ := q
            have q2 := HH.out W hW
            obtain ⟨z0, z1, z2, z3⟩ := q2
            have v15 := HU15.out
            have v24 := HU24.out
            have v33 := HU33.out
            have v42 := HU42.out
            go_simp
            all_goals (try omega)
          clear hK K
          simp only [Act.put, aZ47, bZ47, cZ47]
          subst hund
          refine wpQuiet_nil ?_
          intro W hW
          have hbW := HBW.out W hW
          go_wp2_with fail
          go_ret
          exact ⟨ret_bool HF.out.symm, hbW⟩
        | true =>
        rw [h1] at HC
        by_cases g1 : x.1 = h.1
        case neg =>
          have HF : Hid (r = false) := HBAD2.out (fun hh => g1 hh.1)
          have e1 : (x.1 == h.1) = false := by simpa using g1
          have e1' : (x.1 != h.1) = true := by simpa using g1
          clear HBAD1 HBAD2 HUPA HPREV h1 g1
          obtain ⟨u24, hu24⟩ : ∃ u : Bool, u = true := ⟨_, rfl⟩
          have HU24 : Hid (u24 = true) := hu24
          clear hu24
          obtain ⟨u33, hu33⟩ : ∃ u : Bool, u = true := ⟨_, rfl⟩
          have HU33 : Hid (u33 = true) := hu33
          clear hu33
          obtain ⟨u42, hu42⟩ : ∃ u : Bool, u = true := ⟨_, rfl⟩
          have HU42 : Hid (u42 = true) := hu42
          clear hu42
          go_wp2_with fail
          rw [HW0.out, HGX.out]
          refine wp_region_quiet (C := fun W => Below W0.heap.size W0 W) (by kernel_rfl) (by kernel_rfl) hbd ?_
          refine wpQuiet_step (fun K hK => ?_)
          rw [if_pos (by rfl)]
          refine ⟨.agg #[.string ⟨x.1.toArray⟩, .int .i64 x.2.1, .int .i64 x.2.2.1, .string ⟨x.2.2.2.toArray⟩], fun W hW => quiet_ok ?_, hK _ ?_⟩
          · have q := HX.out W hW
            obtain ⟨⟨m0, m1, m2, m3⟩, _⟩ := q
            have q2 := HH.out W hW
            obtain ⟨z0, z1, z2, z3⟩ := q2
            go_simp
            all_goals (try omega)
          clear hK K
          simp only [Act.put, aZ47, bZ47, cZ47]
          refine wpQuiet_step (fun K hK => ?_)
          rw [if_pos (by rfl)]
          refine ⟨.bool true, fun W hW => quiet_call (f := 64) (args := #[.agg #[.string ⟨x.1.toArray⟩, .int .i64 x.2.1, .int .i64 x.2.2.1, .string ⟨x.2.2.2.toArray⟩]]) ?_ ?_, hK _ ?_⟩
          · go_simp
          · exact (HC.out W).mono fun e w'' h => ⟨h.1, HTR.out _ _ hW h.2⟩
          clear hK K
          simp only [Act.put, aZ47, bZ47, cZ47]
          refine wpQuiet_step (fun K hK => ?_)
          rw [if_pos (by rfl)]
          refine ⟨.bool false, fun W hW => quiet_ok ?_, hK _ ?_⟩
          · have q := HX.out W hW
            obtain ⟨⟨m0, m1, m2, m3⟩, _⟩ := q
            have q2 := HH.out W hW
            obtain ⟨z0, z1, z2, z3⟩ := q2
            go_simp
            all_goals (try omega)
          clear hK K
          simp only [Act.put, aZ47, bZ47, cZ47]
          refine wpQuiet_step (fun K hK => ?_)
          rw [if_pos (by rfl)]
          refine ⟨.bool false, fun W hW => quiet_ok ?_, hK _ ?_⟩
          · have q := HX.out W hW
            obtain ⟨⟨m0, m1, m2, m3⟩, _⟩ := q
            have q2 := HH.out W hW
            obtain ⟨z0, z1, z2, z3⟩ := q2
            go_simp
            all_goals (try omega)
          clear hK K
          simp only [Act.put, aZ47, bZ47, cZ47]
          refine wpQuiet_step (fun K hK => ?_)
          rw [if_pos (by rfl)]
          refine ⟨.pointer (some ⟨gx, 0, none⟩), fun W hW => quiet_ok ?_, hK _ ?_⟩
          · have q := HX.out W hW
            obtain ⟨⟨m0, m1, m2, m3⟩, _⟩ := q
            have q2 := HH.out W hW
            obtain ⟨z0, z1, z2, z3⟩ := q2
            go_simp
            all_goals (try omega)
          clear hK K
          simp only [Act.put, aZ47, bZ47, cZ47]
          refine wpQuiet_step (fun K hK => ?_)
          rw [if_pos (by rfl)]
          refine ⟨.string ⟨x.1.toArray⟩, fun W hW => quiet_ok ?_, hK _ ?_⟩
          · have q := HX.out W hW
            obtain ⟨⟨m0, m1, m2, m3⟩, _⟩ := q
            have q2 := HH.out W hW
            obtain ⟨z0, z1, z2, z3⟩ := q2
            go_simp
            all_goals (try omega)
          clear hK K
          simp only [Act.put, aZ47, bZ47, cZ47]
          refine wpQuiet_step (fun K hK => ?_)
          rw [if_pos (by rfl)]
          refine ⟨.slice (some ⟨b, o, none⟩) L.length cap, fun W hW => quiet_ok ?_, hK _ ?_⟩
          · have q := HX.out W hW
            obtain ⟨⟨m0, m1, m2, m3⟩, _⟩ := q
            have q2 := HH.out W hW
            obtain ⟨z0, z1, z2, z3⟩ := q2
            go_simp
            all_goals (try omega)
          clear hK K
          simp only [Act.put, aZ47, bZ47, cZ47]
          refine wpQuiet_step (fun K hK => ?_)
          rw [if_pos (by rfl)]
          refine ⟨.pointer (some ⟨b, o, none⟩), fun W hW => quiet_ok ?_, hK _ ?_⟩
          · have q := HX.out W hW
            obtain ⟨⟨m0, m1, m2, m3⟩, _⟩ := q
            have q2 := HH.out W hW
            obtain ⟨z0, z1, z2, z3⟩ := q2
            go_simp
            all_goals (try omega)
          clear hK K
          simp only [Act.put, aZ47, bZ47, cZ47]
          refine wpQuiet_step (fun K hK => ?_)
          rw [if_pos (by rfl)]
          refine ⟨.pointer (some ⟨b, o, none⟩), fun W hW => quiet_ok ?_, hK _ ?_⟩
          · have q := HX.out W hW
            obtain ⟨⟨m0, m1, m2, m3⟩, _⟩ := q
            have q2 := HH.out W hW
            obtain ⟨z0, z1, z2, z3⟩ := q2
            go_simp
            all_goals (try omega)
          clear hK K
          simp only [Act.put, aZ47, bZ47, cZ47]
          refine wpQuiet_step (fun K hK => ?_)
          rw [if_pos (by rfl)]
          refine ⟨.string ⟨h.1.toArray⟩, fun W hW => quiet_ok ?_, hK _ ?_⟩
          · have q := HX.out W hW
            obtain ⟨⟨m0, m1, m2, m3⟩, _⟩ := q
            have q2 := HH.out W hW
            obtain ⟨z0, z1, z2, z3⟩ := q2
            go_simp
            all_goals (try omega)
          clear hK K
          simp only [Act.put, aZ47, bZ47, cZ47]
          refine wpQuiet_step (fun K hK => ?_)
          rw [if_pos (by rfl)]
          refine ⟨.bool true, fun W hW => quiet_ok ?_, hK _ ?_⟩
          · have q := HX.out W hW
            obtain ⟨⟨m0, m1, m2, m3⟩, _⟩ := q
            have q2 := HH.out W hW
            obtain ⟨z0, z1, z2, z3⟩ := q2
            go_simp
            all_goals (try omega)
          clear hK K
          simp only [Act.put, aZ47, bZ47, cZ47]
          refine wpQuiet_step (fun K hK => ?_)
          rw [if_pos (by rfl)]
          refine ⟨.bool true, fun W hW => quiet_ok ?_, hK _ ?_⟩
          · have q := HX.out W hW
            obtain ⟨⟨m0, m1, m2, m3⟩, _⟩ := q
            have q2 := HH.out W hW
            obtain ⟨z0, z1, z2, z3⟩ := q2
            go_simp
            all_goals (try omega)
          clear hK K
          simp only [Act.put, aZ47, bZ47, cZ47]
          refine wpQuiet_step (fun K hK => ?_)
          rw [if_pos (by rfl)]
          refine ⟨.bool u24, fun W hW => quiet_ok ?_, hK _ ?_⟩
          · have q := HX.out W hW
            obtain ⟨⟨m0, m1, m2, m3⟩, _⟩ := q
            have q2 := HH.out W hW
            obtain ⟨z0, z1, z2, z3⟩ := q2
            have v24 := HU24.out
            go_simp
            all_goals (try omega)
          clear hK K
          simp only [Act.put, aZ47, bZ47, cZ47]
          refine BigFrame.wpQuiet_skip (by show (some u24 == some false) = false; rw [HU24.out]; rfl) ?_
          simp only [Act.put, aZ47, bZ47, cZ47]
          refine BigFrame.wpQuiet_skip (by show (some u24 == some false) = false; rw [HU24.out]; rfl) ?_
          simp only [Act.put, aZ47, bZ47, cZ47]
          refine BigFrame.wpQuiet_skip (by show (some u24 == some false) = false; rw [HU24.out]; rfl) ?_
          simp only [Act.put, aZ47, bZ47, cZ47]
          refine BigFrame.wpQuiet_skip (by show (some u24 == some false) = false; rw [HU24.out]; rfl) ?_
          simp only [Act.put, aZ47, bZ47, cZ47]
          refine BigFrame.wpQuiet_skip (by show (some u24 == some false) = false; rw [HU24.out]; rfl) ?_
          simp only [Act.put, aZ47, bZ47, cZ47]
          refine BigFrame.wpQuiet_skip (by show (some u24 == some false) = false; rw [HU24.out]; rfl) ?_
          simp only [Act.put, aZ47, bZ47, cZ47]
          refine BigFrame.wpQuiet_skip (by show (some u24 == some false) = false; rw [HU24.out]; rfl) ?_
          simp only [Act.put, aZ47, bZ47, cZ47]
          refine wpQuiet_step (fun K hK => ?_)
          rw [if_pos (by rfl)]
          refine ⟨.bool true, fun W hW => quiet_ok ?_, hK _ ?_⟩
          · have q := HX.out W hW
            obtain ⟨⟨m0, m1, m2, m3⟩, _⟩ := q
            have q2 := HH.out W hW
            obtain ⟨z0, z1, z2, z3⟩ := q2
            have v24 := HU24.out
            go_simp
            all_goals (try omega)
          clear hK K
          simp only [Act.put, aZ47, bZ47, cZ47]
          refine wpQuiet_step (fun K hK => ?_)
          rw [if_pos (by rfl)]
          refine ⟨.bool u33, fun W hW => quiet_ok ?_, hK _ ?_⟩
          · have q := HX.out W hW
            obtain ⟨⟨m0, m1, m2, m3⟩, _⟩ := q
            have q2 := HH.out W hW
            obtain ⟨z0, z1, z2, z3⟩ := q2
            have v24 := HU24.out
            have v33 := HU33.out
            go_simp
            all_goals (try omega)
          clear hK K
          simp only [Act.put, aZ47, bZ47, cZ47]
          refine BigFrame.wpQuiet_skip (by show (some u33 == some false) = false; rw [HU33.out]; rfl) ?_
          simp only [Act.put, aZ47, bZ47, cZ47]
          refine BigFrame.wpQuiet_skip (by show (some u33 == some false) = false; rw [HU33.out]; rfl) ?_
          simp only [Act.put, aZ47, bZ47, cZ47]
          refine BigFrame.wpQuiet_skip (by show (some u33 == some false) = false; rw [HU33.out]; rfl) ?_
          simp only [Act.put, aZ47, bZ47, cZ47]
          refine BigFrame.wpQuiet_skip (by show (some u33 == some false) = false; rw [HU33.out]; rfl) ?_
          simp only [Act.put, aZ47, bZ47, cZ47]
          refine BigFrame.wpQuiet_skip (by show (some u33 == some false) = false; rw [HU33.out]; rfl) ?_
          simp only [Act.put, aZ47, bZ47, cZ47]
          refine BigFrame.wpQuiet_skip (by show (some u33 == some false) = false; rw [HU33.out]; rfl) ?_
          simp only [Act.put, aZ47, bZ47, cZ47]
          refine BigFrame.wpQuiet_skip (by show (some u33 == some false) = false; rw [HU33.out]; rfl) ?_
          simp only [Act.put, aZ47, bZ47, cZ47]
          refine wpQuiet_step (fun K hK => ?_)
          rw [if_pos (by rfl)]
          refine ⟨.bool true, fun W hW => quiet_ok ?_, hK _ ?_⟩
          · have q := HX.out W hW
            obtain ⟨⟨m0, m1, m2, m3⟩, _⟩ := q
            have q2 := HH.out W hW
            obtain ⟨z0, z1, z2, z3⟩ := q2
            have v24 := HU24.out
            have v33 := HU33.out
            go_simp
            all_goals (try omega)
          clear hK K
          simp only [Act.put, aZ47, bZ47, cZ47]
          refine wpQuiet_step (fun K hK => ?_)
          rw [if_pos (by rfl)]
          refine ⟨.bool u42, fun W hW => quiet_ok ?_, hK _ ?_⟩
          · have q := HX.out W hW
            obtain ⟨⟨m0, m1, m2, m3⟩, _⟩ := q
            have q2 := HH.out W hW
            obtain ⟨z0, z1, z2, z3⟩ := q2
            have v24 := HU24.out
            have v33 := HU33.out
            have v42 := HU42.out
            go_simp
            all_goals (try omega)
          clear hK K
          simp only [Act.put, aZ47, bZ47, cZ47]
          refine BigFrame.wpQuiet_skip (by show (some u42 == some false) = false; rw [HU42.out]; rfl) ?_
          simp only [Act.put, aZ47, bZ47, cZ47]
          refine BigFrame.wpQuiet_skip (by show (some u42 == some false) = false; rw [HU42.out]; rfl) ?_
          simp only [Act.put, aZ47, bZ47, cZ47]
          refine BigFrame.wpQuiet_skip (by show (some u42 == some false) = false; rw [HU42.out]; rfl) ?_
          simp only [Act.put, aZ47, bZ47, cZ47]
          generalize hund : (undef : Value) = un
          refine BigFrame.wpQuiet_skip (by rw [← hund]; rfl) ?_
          simp only [Act.put, aZ47, bZ47, cZ47]
          refine BigFrame.wpQuiet_skip (by rw [← hund]; rfl) ?_
          simp only [Act.put, aZ47, bZ47, cZ47]
          refine BigFrame.wpQuiet_skip (by rw [← hund]; rfl) ?_
          simp only [Act.put, aZ47, bZ47, cZ47]
          refine BigFrame.wpQuiet_skip (by rw [← hund]; rfl) ?_
          simp only [Act.put, aZ47, bZ47, cZ47]
          refine BigFrame.wpQuiet_skip (by rw [← hund]; rfl) ?_
          simp only [Act.put, aZ47, bZ47, cZ47]
          refine BigFrame.wpQuiet_skip (by rw [← hund]; rfl) ?_
          simp only [Act.put, aZ47, bZ47, cZ47]
          refine BigFrame.wpQuiet_skip (by rw [← hund]; rfl) ?_
          simp only [Act.put, aZ47, bZ47, cZ47]
          refine BigFrame.wpQuiet_skip (by rw [← hund]; rfl) ?_
          simp only [Act.put, aZ47, bZ47, cZ47]
          refine BigFrame.wpQuiet_skip (by show (some u42 == some false) = false; rw [HU42.out]; rfl) ?_
          simp only [Act.put, aZ47, bZ47, cZ47]
          refine wpQuiet_step (fun K hK => ?_)
          rw [if_pos (by rfl)]
          refine ⟨.bool true, fun W hW => quiet_ok ?_, hK _ ?_⟩
          · have q := HX.out W hW
            obtain ⟨⟨m0, m1, m2, m3⟩, _⟩ := q
            have q2 := HH.out W hW
            obtain ⟨z0, z1, z2, z3⟩ := q2
            have v24 := HU24.out
            have v33 := HU33.out
            have v42 := HU42.out
            go_simp
            all_goals (try omega)
          clear hK K
          simp only [Act.put, aZ47, bZ47, cZ47]
          subst hund
          refine wpQuiet_nil ?_
          intro W hW
          have hbW := HBW.out W hW
          go_wp2_with fail
          go_ret
          exact ⟨ret_bool HF.out.symm, hbW⟩
        have e1 : (x.1 == h.1) = true := by simpa using g1
        have e1' : (x.1 != h.1) = false := by simpa using g1
        by_cases g2 : x.2.1 = h.2.1
        case neg =>
          have HF : Hid (r = false) := HBAD2.out (fun hh => g2 hh.2.1)
          have e2 : (x.2.1 == h.2.1) = false := by simpa using g2
          have e2' : (x.2.1 != h.2.1) = true := by simpa using g2
          clear HBAD1 HBAD2 HUPA HPREV h1 g1 g2
          obtain ⟨u33, hu33⟩ : ∃ u : Bool, u = true := ⟨_, rfl⟩
          have HU33 : Hid (u33 = true) := hu33
          clear hu33
          obtain ⟨u42, hu42⟩ : ∃ u : Bool, u = true := ⟨_, rfl⟩
          have HU42 : Hid (u42 = true) := hu42
          clear hu42
          go_wp2_with fail
          rw [HW0.out, HGX.out]
          refine wp_region_quiet (C := fun W => Below W0.heap.size W0 W) (by kernel_rfl) (by kernel_rfl) hbd ?_
          refine wpQuiet_step (fun K hK => ?_)
          rw [if_pos (by rfl)]
          refine ⟨.agg #[.string ⟨x.1.toArray⟩, .int .i64 x.2.1, .int .i64 x.2.2.1, .string ⟨x.2.2.2.toArray⟩], fun W hW => quiet_ok ?_, hK _ ?_⟩
          · have q := HX.out W hW
            obtain ⟨⟨m0, m1, m2, m3⟩, _⟩ := q
            have q2 := HH.out W hW
            obtain ⟨z0, z1, z2, z3⟩ := q2
            go_simp
            all_goals (try omega)
          clear hK K
          simp only [Act.put, aZ47, bZ47, cZ47]
          refine wpQuiet_step (fun K hK => ?_)
          rw [if_pos (by rfl)]
          refine ⟨.bool true, fun W hW => quiet_call (f := 64) (args := #[.agg #[.string ⟨x.1.toArray⟩, .int .i64 x.2.1, .int .i64 x.2.2.1, .string ⟨x.2.2.2.toArray⟩]]) ?_ ?_, hK _ ?_⟩
          · go_simp
          · exact (HC.out W).mono fun e w'' h => ⟨h.1, HTR.out _ _ hW h.2⟩
          clear hK K
          simp only [Act.put, aZ47, bZ47, cZ47]
          refine wpQuiet_step (fun K hK => ?_)
          rw [if_pos (by rfl)]
          refine ⟨.bool false, fun W hW => quiet_ok ?_, hK _ ?_⟩
          · have q := HX.out W hW
            obtain ⟨⟨m0, m1, m2, m3⟩, _⟩ := q
            have q2 := HH.out W hW
            obtain ⟨z0, z1, z2, z3⟩ := q2
            go_simp
            all_goals (try omega)
          clear hK K
          simp only [Act.put, aZ47, bZ47, cZ47]
          refine wpQuiet_step (fun K hK => ?_)
          rw [if_pos (by rfl)]
          refine ⟨.bool false, fun W hW => quiet_ok ?_, hK _ ?_⟩
          · have q := HX.out W hW
            obtain ⟨⟨m0, m1, m2, m3⟩, _⟩ := q
            have q2 := HH.out W hW
            obtain ⟨z0, z1, z2, z3⟩ := q2
            go_simp
            all_goals (try omega)
          clear hK K
          simp only [Act.put, aZ47, bZ47, cZ47]
          refine wpQuiet_step (fun K hK => ?_)
          rw [if_pos (by rfl)]
          refine ⟨.pointer (some ⟨gx, 0, none⟩), fun W hW => quiet_ok ?_, hK _ ?_⟩
          · have q := HX.out W hW
            obtain ⟨⟨m0, m1, m2, m3⟩, _⟩ := q
            have q2 := HH.out W hW
            obtain ⟨z0, z1, z2, z3⟩ := q2
            go_simp
            all_goals (try omega)
          clear hK K
          simp only [Act.put, aZ47, bZ47, cZ47]
          refine wpQuiet_step (fun K hK => ?_)
          rw [if_pos (by rfl)]
          refine ⟨.string ⟨x.1.toArray⟩, fun W hW => quiet_ok ?_, hK _ ?_⟩
          · have q := HX.out W hW
            obtain ⟨⟨m0, m1, m2, m3⟩, _⟩ := q
            have q2 := HH.out W hW
            obtain ⟨z0, z1, z2, z3⟩ := q2
            go_simp
            all_goals (try omega)
          clear hK K
          simp only [Act.put, aZ47, bZ47, cZ47]
          refine wpQuiet_step (fun K hK => ?_)
          rw [if_pos (by rfl)]
          refine ⟨.slice (some ⟨b, o, none⟩) L.length cap, fun W hW => quiet_ok ?_, hK _ ?_⟩
          · have q := HX.out W hW
            obtain ⟨⟨m0, m1, m2, m3⟩, _⟩ := q
            have q2 := HH.out W hW
            obtain ⟨z0, z1, z2, z3⟩ := q2
            go_simp
            all_goals (try omega)
          clear hK K
          simp only [Act.put, aZ47, bZ47, cZ47]
          refine wpQuiet_step (fun K hK => ?_)
          rw [if_pos (by rfl)]
          refine ⟨.pointer (some ⟨b, o, none⟩), fun W hW => quiet_ok ?_, hK _ ?_⟩
          · have q := HX.out W hW
            obtain ⟨⟨m0, m1, m2, m3⟩, _⟩ := q
            have q2 := HH.out W hW
            obtain ⟨z0, z1, z2, z3⟩ := q2
            go_simp
            all_goals (try omega)
          clear hK K
          simp only [Act.put, aZ47, bZ47, cZ47]
          refine wpQuiet_step (fun K hK => ?_)
          rw [if_pos (by rfl)]
          refine ⟨.pointer (some ⟨b, o, none⟩), fun W hW => quiet_ok ?_, hK _ ?_⟩
          · have q := HX.out W hW
            obtain ⟨⟨m0, m1, m2, m3⟩, _⟩ := q
            have q2 := HH.out W hW
            obtain ⟨z0, z1, z2, z3⟩ := q2
            go_simp
            all_goals (try omega)
          clear hK K
          simp only [Act.put, aZ47, bZ47, cZ47]
          refine wpQuiet_step (fun K hK => ?_)
          rw [if_pos (by rfl)]
          refine ⟨.string ⟨h.1.toArray⟩, fun W hW => quiet_ok ?_, hK _ ?_⟩
          · have q := HX.out W hW
            obtain ⟨⟨m0, m1, m2, m3⟩, _⟩ := q
            have q2 := HH.out W hW
            obtain ⟨z0, z1, z2, z3⟩ := q2
            go_simp
            all_goals (try omega)
          clear hK K
          simp only [Act.put, aZ47, bZ47, cZ47]
          refine wpQuiet_step (fun K hK => ?_)
          rw [if_pos (by rfl)]
          refine ⟨.bool false, fun W hW => quiet_ok ?_, hK _ ?_⟩
          · have q := HX.out W hW
            obtain ⟨⟨m0, m1, m2, m3⟩, _⟩ := q
            have q2 := HH.out W hW
            obtain ⟨z0, z1, z2, z3⟩ := q2
            go_simp
            all_goals (try omega)
          clear hK K
          simp only [Act.put, aZ47, bZ47, cZ47]
          refine wpQuiet_step (fun K hK => ?_)
          rw [if_pos (by rfl)]
          refine ⟨.bool false, fun W hW => quiet_ok ?_, hK _ ?_⟩
          · have q := HX.out W hW
            obtain ⟨⟨m0, m1, m2, m3⟩, _⟩ := q
            have q2 := HH.out W hW
            obtain ⟨z0, z1, z2, z3⟩ := q2
            go_simp
            all_goals (try omega)
          clear hK K
          simp only [Act.put, aZ47, bZ47, cZ47]
          refine wpQuiet_step (fun K hK => ?_)
          rw [if_pos (by rfl)]
          refine ⟨.bool false, fun W hW => quiet_ok ?_, hK _ ?_⟩
          · have q := HX.out W hW
            obtain ⟨⟨m0, m1, m2, m3⟩, _⟩ := q
            have q2 := HH.out W hW
            obtain ⟨z0, z1, z2, z3⟩ := q2
            go_simp
            all_goals (try omega)
          clear hK K
          simp only [Act.put, aZ47, bZ47, cZ47]
          refine wpQuiet_step (fun K hK => ?_)
          rw [if_pos (by rfl)]
          refine ⟨.pointer (some ⟨gx, 1, none⟩), fun W hW => quiet_ok ?_, hK _ ?_⟩
          · have q := HX.out W hW
            obtain ⟨⟨m0, m1, m2, m3⟩, _⟩ := q
            have q2 := HH.out W hW
            obtain ⟨z0, z1, z2, z3⟩ := q2
            go_simp
            all_goals (try omega)
          clear hK K
          simp only [Act.put, aZ47, bZ47, cZ47]
          refine wpQuiet_step (fun K hK => ?_)
          rw [if_pos (by rfl)]
          refine ⟨.int .i64 x.2.1, fun W hW => quiet_ok ?_, hK _ ?_⟩
          · have q := HX.out W hW
            obtain ⟨⟨m0, m1, m2, m3⟩, _⟩ := q
            have q2 := HH.out W hW
            obtain ⟨z0, z1, z2, z3⟩ := q2
            go_simp
            all_goals (try omega)
          clear hK K
          simp only [Act.put, aZ47, bZ47, cZ47]
          refine wpQuiet_step (fun K hK => ?_)
          rw [if_pos (by rfl)]
          refine ⟨.slice (some ⟨b, o, none⟩) L.length cap, fun W hW => quiet_ok ?_, hK _ ?_⟩
          · have q := HX.out W hW
            obtain ⟨⟨m0, m1, m2, m3⟩, _⟩ := q
            have q2 := HH.out W hW
            obtain ⟨z0, z1, z2, z3⟩ := q2
            go_simp
            all_goals (try omega)
          clear hK K
          simp only [Act.put, aZ47, bZ47, cZ47]
          refine wpQuiet_step (fun K hK => ?_)
          rw [if_pos (by rfl)]
          refine ⟨.pointer (some ⟨b, o, none⟩), fun W hW => quiet_ok ?_, hK _ ?_⟩
          · have q := HX.out W hW
            obtain ⟨⟨m0, m1, m2, m3⟩, _⟩ := q
            have q2 := HH.out W hW
            obtain ⟨z0, z1, z2, z3⟩ := q2
            go_simp
            all_goals (try omega)
          clear hK K
          simp only [Act.put, aZ47, bZ47, cZ47]
          refine wpQuiet_step (fun K hK => ?_)
          rw [if_pos (by rfl)]
          refine ⟨.pointer (some ⟨b, o + 1, none⟩), fun W hW => quiet_ok ?_, hK _ ?_⟩
          · have q := HX.out W hW
            obtain ⟨⟨m0, m1, m2, m3⟩, _⟩ := q
            have q2 := HH.out W hW
            obtain ⟨z0, z1, z2, z3⟩ := q2
            go_simp
            all_goals (try omega)
          clear hK K
          simp only [Act.put, aZ47, bZ47, cZ47]
          refine wpQuiet_step (fun K hK => ?_)
          rw [if_pos (by rfl)]
          refine ⟨.int .i64 h.2.1, fun W hW => quiet_ok ?_, hK _ ?_⟩
          · have q := HX.out W hW
            obtain ⟨⟨m0, m1, m2, m3⟩, _⟩ := q
            have q2 := HH.out W hW
            obtain ⟨z0, z1, z2, z3⟩ := q2
            go_simp
            all_goals (try omega)
          clear hK K
          simp only [Act.put, aZ47, bZ47, cZ47]
          refine wpQuiet_step (fun K hK => ?_)
          rw [if_pos (by rfl)]
          refine ⟨.bool true, fun W hW => quiet_ok ?_, hK _ ?_⟩
          · have q := HX.out W hW
            obtain ⟨⟨m0, m1, m2, m3⟩, _⟩ := q
            have q2 := HH.out W hW
            obtain ⟨z0, z1, z2, z3⟩ := q2
            go_simp
            all_goals (try omega)
          clear hK K
          simp only [Act.put, aZ47, bZ47, cZ47]
          refine wpQuiet_step (fun K hK => ?_)
          rw [if_pos (by rfl)]
          refine ⟨.bool true, fun W hW => quiet_ok ?_, hK _ ?_⟩
          · have q := HX.out W hW
            obtain ⟨⟨m0, m1, m2, m3⟩, _⟩ := q
            have q2 := HH.out W hW
            obtain ⟨z0, z1, z2, z3⟩ := q2
            go_simp
            all_goals (try omega)
          clear hK K
          simp only [Act.put, aZ47, bZ47, cZ47]
          refine wpQuiet_step (fun K hK => ?_)
          rw [if_pos (by rfl)]
          refine ⟨.bool u33, fun W hW => quiet_ok ?_, hK _ ?_⟩
          · have q := HX.out W hW
            obtain ⟨⟨m0, m1, m2, m3⟩, _⟩ := q
            have q2 := HH.out W hW
            obtain ⟨z0, z1, z2, z3⟩ := q2
            have v33 := HU33.out
            go_simp
            all_goals (try omega)
          clear hK K
          simp only [Act.put, aZ47, bZ47, cZ47]
          refine BigFrame.wpQuiet_skip (by show (some u33 == some false) = false; rw [HU33.out]; rfl) ?_
          simp only [Act.put, aZ47, bZ47, cZ47]
          refine BigFrame.wpQuiet_skip (by show (some u33 == some false) = false; rw [HU33.out]; rfl) ?_
          simp only [Act.put, aZ47, bZ47, cZ47]
          refine BigFrame.wpQuiet_skip (by show (some u33 == some false) = false; rw [HU33.out]; rfl) ?_
          simp only [Act.put, aZ47, bZ47, cZ47]
          refine BigFrame.wpQuiet_skip (by show (some u33 == some false) = false; rw [HU33.out]; rfl) ?_
          simp only [Act.put, aZ47, bZ47, cZ47]
          refine BigFrame.wpQuiet_skip (by show (some u33 == some false) = false; rw [HU33.out]; rfl) ?_
          simp only [Act.put, aZ47, bZ47, cZ47]
          refine BigFrame.wpQuiet_skip (by show (some u33 == some false) = false; rw [HU33.out]; rfl) ?_
          simp only [Act.put, aZ47, bZ47, cZ47]
          refine BigFrame.wpQuiet_skip (by show (some u33 == some false) = false; rw [HU33.out]; rfl) ?_
          simp only [Act.put, aZ47, bZ47, cZ47]
          refine wpQuiet_step (fun K hK => ?_)
          rw [if_pos (by rfl)]
          refine ⟨.bool true, fun W hW => quiet_ok ?_, hK _ ?_⟩
          · have q := HX.out W hW
            obtain ⟨⟨m0, m1, m2, m3⟩, _⟩ := q
            have q2 := HH.out W hW
            obtain ⟨z0, z1, z2, z3⟩ := q2
            have v33 := HU33.out
            go_simp
            all_goals (try omega)
          clear hK K
          simp only [Act.put, aZ47, bZ47, cZ47]
          refine wpQuiet_step (fun K hK => ?_)
          rw [if_pos (by rfl)]
          refine ⟨.bool u42, fun W hW => quiet_ok ?_, hK _ ?_⟩
          · have q := HX.out W hW
            obtain ⟨⟨m0, m1, m2, m3⟩, _⟩ := q
            have q2 := HH.out W hW
            obtain ⟨z0, z1, z2, z3⟩ := q2
            have v33 := HU33.out
            have v42 := HU42.out
            go_simp
            all_goals (try omega)
          clear hK K
          simp only [Act.put, aZ47, bZ47, cZ47]
          refine BigFrame.wpQuiet_skip (by show (some u42 == some false) = false; rw [HU42.out]; rfl) ?_
          simp only [Act.put, aZ47, bZ47, cZ47]
          refine BigFrame.wpQuiet_skip (by show (some u42 == some false) = false; rw [HU42.out]; rfl) ?_
          simp only [Act.put, aZ47, bZ47, cZ47]
          refine BigFrame.wpQuiet_skip (by show (some u42 == some false) = false; rw [HU42.out]; rfl) ?_
          simp only [Act.put, aZ47, bZ47, cZ47]
          generalize hund : (undef : Value) = un
          refine BigFrame.wpQuiet_skip (by rw [← hund]; rfl) ?_
          simp only [Act.put, aZ47, bZ47, cZ47]
          refine BigFrame.wpQuiet_skip (by rw [← hund]; rfl) ?_
          simp only [Act.put, aZ47, bZ47, cZ47]
          refine BigFrame.wpQuiet_skip (by rw [← hund]; rfl) ?_
          simp only [Act.put, aZ47, bZ47, cZ47]
          refine BigFrame.wpQuiet_skip (by rw [← hund]; rfl) ?_
          simp only [Act.put, aZ47, bZ47, cZ47]
          refine BigFrame.wpQuiet_skip (by rw [← hund]; rfl) ?_
          simp only [Act.put, aZ47, bZ47, cZ47]
          refine BigFrame.wpQuiet_skip (by rw [← hund]; rfl) ?_
          simp only [Act.put, aZ47, bZ47, cZ47]
          refine BigFrame.wpQuiet_skip (by rw [← hund]; rfl) ?_
          simp only [Act.put, aZ47, bZ47, cZ47]
          refine BigFrame.wpQuiet_skip (by rw [← hund]; rfl) ?_
          simp only [Act.put, aZ47, bZ47, cZ47]
          refine BigFrame.wpQuiet_skip (by show (some u42 == some false) = false; rw [HU42.out]; rfl) ?_
          simp only [Act.put, aZ47, bZ47, cZ47]
          refine wpQuiet_step (fun K hK => ?_)
          rw [if_pos (by rfl)]
          refine ⟨.bool true, fun W hW => quiet_ok ?_, hK _ ?_⟩
          · have q := HX.out W hW
            obtain ⟨⟨m0, m1, m2, m3⟩, _⟩ := q
            have q2 := HH.out W hW
            obtain ⟨z0, z1, z2, z3⟩ := q2
            have v33 := HU33.out
            have v42 := HU42.out
            go_simp
            all_goals (try omega)
          clear hK K
          simp only [Act.put, aZ47, bZ47, cZ47]
          subst hund
          refine wpQuiet_nil ?_
          intro W hW
          have hbW := HBW.out W hW
          go_wp2_with fail
          go_ret
          exact ⟨ret_bool HF.out.symm, hbW⟩
        have e2 : (x.2.1 == h.2.1) = true := by simpa using g2
        have e2' : (x.2.1 != h.2.1) = false := by simpa using g2
        by_cases g3 : x.2.2.1 = h.2.2.1
        case neg =>
          have HF : Hid (r = false) := HBAD2.out (fun hh => g3 hh.2.2)
          have e3 : (x.2.2.1 == h.2.2.1) = false := by simpa using g3
          have e3' : (x.2.2.1 != h.2.2.1) = true := by simpa using g3
          clear HBAD1 HBAD2 HUPA HPREV h1 g1 g2 g3
          obtain ⟨u42, hu42⟩ : ∃ u : Bool, u = true := ⟨_, rfl⟩
          have HU42 : Hid (u42 = true) := hu42
          clear hu42
          go_wp2_with fail
          rw [HW0.out, HGX.out]
          refine wp_region_quiet (C := fun W => Below W0.heap.size W0 W) (by kernel_rfl) (by kernel_rfl) hbd ?_
          refine wpQuiet_step (fun K hK => ?_)
          rw [if_pos (by rfl)]
          refine ⟨.agg #[.string ⟨x.1.toArray⟩, .int .i64 x.2.1, .int .i64 x.2.2.1, .string ⟨x.2.2.2.toArray⟩], fun W hW => quiet_ok ?_, hK _ ?_⟩
          · have q := HX.out W hW
            obtain ⟨⟨m0, m1, m2, m3⟩, _⟩ := q
            have q2 := HH.out W hW
            obtain ⟨z0, z1, z2, z3⟩ := q2
            go_simp
            all_goals (try omega)
          clear hK K
          simp only [Act.put, aZ47, bZ47, cZ47]
          refine wpQuiet_step (fun K hK => ?_)
          rw [if_pos (by rfl)]
          refine ⟨.bool true, fun W hW => quiet_call (f := 64) (args := #[.agg #[.string ⟨x.1.toArray⟩, .int .i64 x.2.1, .int .i64 x.2.2.1, .string ⟨x.2.2.2.toArray⟩]]) ?_ ?_, hK _ ?_⟩
          · go_simp
          · exact (HC.out W).mono fun e w'' h => ⟨h.1, HTR.out _ _ hW h.2⟩
          clear hK K
          simp only [Act.put, aZ47, bZ47, cZ47]
          refine wpQuiet_step (fun K hK => ?_)
          rw [if_pos (by rfl)]
          refine ⟨.bool false, fun W hW => quiet_ok ?_, hK _ ?_⟩
          · have q := HX.out W hW
            obtain ⟨⟨m0, m1, m2, m3⟩, _⟩ := q
            have q2 := HH.out W hW
            obtain ⟨z0, z1, z2, z3⟩ := q2
            go_simp
            all_goals (try omega)
          clear hK K
          simp only [Act.put, aZ47, bZ47, cZ47]
          refine wpQuiet_step (fun K hK => ?_)
          rw [if_pos (by rfl)]
          refine ⟨.bool false, fun W hW => quiet_ok ?_, hK _ ?_⟩
          · have q := HX.out W hW
            obtain ⟨⟨m0, m1, m2, m3⟩, _⟩ := q
            have q2 := HH.out W hW
            obtain ⟨z0, z1, z2, z3⟩ := q2
            go_simp
            all_goals (try omega)
          clear hK K
          simp only [Act.put, aZ47, bZ47, cZ47]
          refine wpQuiet_step (fun K hK => ?_)
          rw [if_pos (by rfl)]
          refine ⟨.pointer (some ⟨gx, 0, none⟩), fun W hW => quiet_ok ?_, hK _ ?_⟩
          · have q := HX.out W hW
            obtain ⟨⟨m0, m1, m2, m3⟩, _⟩ := q
            have q2 := HH.out W hW
            obtain ⟨z0, z1, z2, z3⟩ := q2
            go_simp
            all_goals (try omega)
          clear hK K
          simp only [Act.put, aZ47, bZ47, cZ47]
          refine wpQuiet_step (fun K hK => ?_)
          rw [if_pos (by rfl)]
          refine ⟨.string ⟨x.1.toArray⟩, fun W hW => quiet_ok ?_, hK _ ?_⟩
          · have q := HX.out W hW
            obtain ⟨⟨m0, m1, m2, m3⟩, _⟩ := q
            have q2 := HH.out W hW
            obtain ⟨z0, z1, z2, z3⟩ := q2
            go_simp
            all_goals (try omega)
          clear hK K
          simp only [Act.put, aZ47, bZ47, cZ47]
          refine wpQuiet_step (fun K hK => ?_)
          rw [if_pos (by rfl)]
          refine ⟨.slice (some ⟨b, o, none⟩) L.length cap, fun W hW => quiet_ok ?_, hK _ ?_⟩
          · have q := HX.out W hW
            obtain ⟨⟨m0, m1, m2, m3⟩, _⟩ := q
            have q2 := HH.out W hW
            obtain ⟨z0, z1, z2, z3⟩ := q2
            go_simp
            all_goals (try omega)
          clear hK K
          simp only [Act.put, aZ47, bZ47, cZ47]
          refine wpQuiet_step (fun K hK => ?_)
          rw [if_pos (by rfl)]
          refine ⟨.pointer (some ⟨b, o, none⟩), fun W hW => quiet_ok ?_, hK _ ?_⟩
          · have q := HX.out W hW
            obtain ⟨⟨m0, m1, m2, m3⟩, _⟩ := q
            have q2 := HH.out W hW
            obtain ⟨z0, z1, z2, z3⟩ := q2
            go_simp
            all_goals (try omega)
          clear hK K
          simp only [Act.put, aZ47, bZ47, cZ47]
          refine wpQuiet_step (fun K hK => ?_)
          rw [if_pos (by rfl)]
          refine ⟨.pointer (some ⟨b, o, none⟩), fun W hW => quiet_ok ?_, hK _ ?_⟩
          · have q := HX.out W hW
            obtain ⟨⟨m0, m1, m2, m3⟩, _⟩ := q
            have q2 := HH.out W hW
            obtain ⟨z0, z1, z2, z3⟩ := q2
            go_simp
            all_goals (try omega)
          clear hK K
          simp only [Act.put, aZ47, bZ47, cZ47]
          refine wpQuiet_step (fun K hK => ?_)
          rw [if_pos (by rfl)]
          refine ⟨.string ⟨h.1.toArray⟩, fun W hW => quiet_ok ?_, hK _ ?_⟩
          · have q := HX.out W hW
            obtain ⟨⟨m0, m1, m2, m3⟩, _⟩ := q
            have q2 := HH.out W hW
            obtain ⟨z0, z1, z2, z3⟩ := q2
            go_simp
            all_goals (try omega)
          clear hK K
          simp only [Act.put, aZ47, bZ47, cZ47]
          refine wpQuiet_step (fun K hK => ?_)
          rw [if_pos (by rfl)]
          refine ⟨.bool false, fun W hW => quiet_ok ?_, hK _ ?_⟩
          · have q := HX.out W hW
            obtain ⟨⟨m0, m1, m2, m3⟩, _⟩ := q
            have q2 := HH.out W hW
            obtain ⟨z0, z1, z2, z3⟩ := q2
            go_simp
            all_goals (try omega)
          clear hK K
          simp only [Act.put, aZ47, bZ47, cZ47]
          refine wpQuiet_step (fun K hK => ?_)
          rw [if_pos (by rfl)]
          refine ⟨.bool false, fun W hW => quiet_ok ?_, hK _ ?_⟩
          · have q := HX.out W hW
            obtain ⟨⟨m0, m1, m2, m3⟩, _⟩ := q
            have q2 := HH.out W hW
            obtain ⟨z0, z1, z2, z3⟩ := q2
            go_simp
            all_goals (try omega)
          clear hK K
          simp only [Act.put, aZ47, bZ47, cZ47]
          refine wpQuiet_step (fun K hK => ?_)
          rw [if_pos (by rfl)]
          refine ⟨.bool false, fun W hW => quiet_ok ?_, hK _ ?_⟩
          · have q := HX.out W hW
            obtain ⟨⟨m0, m1, m2, m3⟩, _⟩ := q
            have q2 := HH.out W hW
            obtain ⟨z0, z1, z2, z3⟩ := q2
            go_simp
            all_goals (try omega)
          clear hK K
          simp only [Act.put, aZ47, bZ47, cZ47]
          refine wpQuiet_step (fun K hK => ?_)
          rw [if_pos (by rfl)]
          refine ⟨.pointer (some ⟨gx, 1, none⟩), fun W hW => quiet_ok ?_, hK _ ?_⟩
          · have q := HX.out W hW
            obtain ⟨⟨m0, m1, m2, m3⟩, _⟩ := q
            have q2 := HH.out W hW
            obtain ⟨z0, z1, z2, z3⟩ := q2
            go_simp
            all_goals (try omega)
          clear hK K
          simp only [Act.put, aZ47, bZ47, cZ47]
          refine wpQuiet_step (fun K hK => ?_)
          rw [if_pos (by rfl)]
          refine ⟨.int .i64 x.2.1, fun W hW => quiet_ok ?_, hK _ ?_⟩
          · have q := HX.out W hW
            obtain ⟨⟨m0, m1, m2, m3⟩, _⟩ := q
            have q2 := HH.out W hW
            obtain ⟨z0, z1, z2, z3⟩ := q2
            go_simp
            all_goals (try omega)
          clear hK K
          simp only [Act.put, aZ47, bZ47, cZ47]
          refine wpQuiet_step (fun K hK => ?_)
          rw [if_pos (by rfl)]
          refine ⟨.slice (some ⟨b, o, none⟩) L.length cap, fun W hW => quiet_ok ?_, hK _ ?_⟩
          · have q := HX.out W hW
            obtain ⟨⟨m0, m1, m2, m3⟩, _⟩ := q
            have q2 := HH.out W hW
            obtain ⟨z0, z1, z2, z3⟩ := q2
            go_simp
            all_goals (try omega)
          clear hK K
          simp only [Act.put, aZ47, bZ47, cZ47]
          refine wpQuiet_step (fun K hK => ?_)
          rw [if_pos (by rfl)]
          refine ⟨.pointer (some ⟨b, o, none⟩), fun W hW => quiet_ok ?_, hK _ ?_⟩
          · have q := HX.out W hW
            obtain ⟨⟨m0, m1, m2, m3⟩, _⟩ := q
            have q2 := HH.out W hW
            obtain ⟨z0, z1, z2, z3⟩ := q2
            go_simp
            all_goals (try omega)
          clear hK K
          simp only [Act.put, aZ47, bZ47, cZ47]
          refine wpQuiet_step (fun K hK => ?_)
          rw [if_pos (by rfl)]
          refine ⟨.pointer (some ⟨b, o + 1, none⟩), fun W hW => quiet_ok ?_, hK _ ?_⟩
          · have q := HX.out W hW
            obtain ⟨⟨m0, m1, m2, m3⟩, _⟩ := q
            have q2 := HH.out W hW
            obtain ⟨z0, z1, z2, z3⟩ := q2
            go_simp
            all_goals (try omega)
          clear hK K
          simp only [Act.put, aZ47, bZ47, cZ47]
          refine wpQuiet_step (fun K hK => ?_)
          rw [if_pos (by rfl)]
          refine ⟨.int .i64 h.2.1, fun W hW => quiet_ok ?_, hK _ ?_⟩
          · have q := HX.out W hW
            obtain ⟨⟨m0, m1, m2, m3⟩, _⟩ := q
            have q2 := HH.out W hW
            obtain ⟨z0, z1, z2, z3⟩ := q2
            go_simp
            all_goals (try omega)
          clear hK K
          simp only [Act.put, aZ47, bZ47, cZ47]
          refine wpQuiet_step (fun K hK => ?_)
          rw [if_pos (by rfl)]
          refine ⟨.bool false, fun W hW => quiet_ok ?_, hK _ ?_⟩
          · have q := HX.out W hW
            obtain ⟨⟨m0, m1, m2, m3⟩, _⟩ := q
            have q2 := HH.out W hW
            obtain ⟨z0, z1, z2, z3⟩ := q2
            go_simp
            all_goals (try omega)
          clear hK K
          simp only [Act.put, aZ47, bZ47, cZ47]
          refine wpQuiet_step (fun K hK => ?_)
          rw [if_pos (by rfl)]
          refine ⟨.bool false, fun W hW => quiet_ok ?_, hK _ ?_⟩
          · have q := HX.out W hW
            obtain ⟨⟨m0, m1, m2, m3⟩, _⟩ := q
            have q2 := HH.out W hW
            obtain ⟨z0, z1, z2, z3⟩ := q2
            go_simp
            all_goals (try omega)
          clear hK K
          simp only [Act.put, aZ47, bZ47, cZ47]
          refine wpQuiet_step (fun K hK => ?_)
          rw [if_pos (by rfl)]
          refine ⟨.bool false, fun W hW => quiet_ok ?_, hK _ ?_⟩
          · have q := HX.out W hW
            obtain ⟨⟨m0, m1, m2, m3⟩, _⟩ := q
            have q2 := HH.out W hW
            obtain ⟨z0, z1, z2, z3⟩ := q2
            go_simp
            all_goals (try omega)
          clear hK K
          simp only [Act.put, aZ47, bZ47, cZ47]
          refine wpQuiet_step (fun K hK => ?_)
          rw [if_pos (by rfl)]
          refine ⟨.pointer (some ⟨gx, 2, none⟩), fun W hW => quiet_ok ?_, hK _ ?_⟩
          · have q := HX.out W hW
            obtain ⟨⟨m0, m1, m2, m3⟩, _⟩ := q
            have q2 := HH.out W hW
            obtain ⟨z0, z1, z2, z3⟩ := q2
            go_simp
            all_goals (try omega)
          clear hK K
          simp only [Act.put, aZ47, bZ47, cZ47]
          refine wpQuiet_step (fun K hK => ?_)
          rw [if_pos (by rfl)]
          refine ⟨.int .i64 x.2.2.1, fun W hW => quiet_ok ?_, hK _ ?_⟩
          · have q := HX.out W hW
            obtain ⟨⟨m0, m1, m2, m3⟩, _⟩ := q
            have q2 := HH.out W hW
            obtain ⟨z0, z1, z2, z3⟩ := q2
            go_simp
            all_goals (try omega)
          clear hK K
          simp only [Act.put, aZ47, bZ47, cZ47]
          refine wpQuiet_step (fun K hK => ?_)
          rw [if_pos (by rfl)]
          refine ⟨.slice (some ⟨b, o, none⟩) L.length cap, fun W hW => quiet_ok ?_, hK _ ?_⟩
          · have q := HX.out W hW
            obtain ⟨⟨m0, m1, m2, m3⟩, _⟩ := q
            have q2 := HH.out W hW
            obtain ⟨z0, z1, z2, z3⟩ := q2
            go_simp
            all_goals (try omega)
          clear hK K
          simp only [Act.put, aZ47, bZ47, cZ47]
          refine wpQuiet_step (fun K hK => ?_)
          rw [if_pos (by rfl)]
          refine ⟨.pointer (some ⟨b, o, none⟩), fun W hW => quiet_ok ?_, hK _ ?_⟩
          · have q := HX.out W hW
            obtain ⟨⟨m0, m1, m2, m3⟩, _⟩ := q
            have q2 := HH.out W hW
            obtain ⟨z0, z1, z2, z3⟩ := q2
            go_simp
            all_goals (try omega)
          clear hK K
          simp only [Act.put, aZ47, bZ47, cZ47]
          refine wpQuiet_step (fun K hK => ?_)
          rw [if_pos (by rfl)]
          refine ⟨.pointer (some ⟨b, o + 2, none⟩), fun W hW => quiet_ok ?_, hK _ ?_⟩
          · have q := HX.out W hW
            obtain ⟨⟨m0, m1, m2, m3⟩, _⟩ := q
            have q2 := HH.out W hW
            obtain ⟨z0, z1, z2, z3⟩ := q2
            go_simp
            all_goals (try omega)
          clear hK K
          simp only [Act.put, aZ47, bZ47, cZ47]
          refine wpQuiet_step (fun K hK => ?_)
          rw [if_pos (by rfl)]
          refine ⟨.int .i64 h.2.2.1, fun W hW => quiet_ok ?_, hK _ ?_⟩
          · have q := HX.out W hW
            obtain ⟨⟨m0, m1, m2, m3⟩, _⟩ := q
            have q2 := HH.out W hW
            obtain ⟨z0, z1, z2, z3⟩ := q2
            go_simp
            all_goals (try omega)
          clear hK K
          simp only [Act.put, aZ47, bZ47, cZ47]
          refine wpQuiet_step (fun K hK => ?_)
          rw [if_pos (by rfl)]
          refine ⟨.bool true, fun W hW => quiet_ok ?_, hK _ ?_⟩
          · have q := HX.out W hW
            obtain ⟨⟨m0, m1, m2, m3⟩, _⟩ := q
            have q2 := HH.out W hW
            obtain ⟨z0, z1, z2, z3⟩ := q2
            go_simp
            all_goals (try omega)
          clear hK K
          simp only [Act.put, aZ47, bZ47, cZ47]
          refine wpQuiet_step (fun K hK => ?_)
          rw [if_pos (by rfl)]
          refine ⟨.bool true, fun W hW => quiet_ok ?_, hK _ ?_⟩
          · have q := HX.out W hW
            obtain ⟨⟨m0, m1, m2, m3⟩, _⟩ := q
            have q2 := HH.out W hW
            obtain ⟨z0, z1, z2, z3⟩ := q2
            go_simp
            all_goals (try omega)
          clear hK K
          simp only [Act.put, aZ47, bZ47, cZ47]
          refine wpQuiet_step (fun K hK => ?_)
          rw [if_pos (by rfl)]
          refine ⟨.bool u42, fun W hW => quiet_ok ?_, hK _ ?_⟩
          · have q := HX.out W hW
            obtain ⟨⟨m0, m1, m2, m3⟩, _⟩ := q
            have q2 := HH.out W hW
            obtain ⟨z0, z1, z2, z3⟩ := q2
            have v42 := HU42.out
            go_simp
            all_goals (try omega)
          clear hK K
          simp only [Act.put, aZ47, bZ47, cZ47]
          refine BigFrame.wpQuiet_skip (by show (some u42 == some false) = false; rw [HU42.out]; rfl) ?_
          simp only [Act.put, aZ47, bZ47, cZ47]
          refine BigFrame.wpQuiet_skip (by show (some u42 == some false) = false; rw [HU42.out]; rfl) ?_
          simp only [Act.put, aZ47, bZ47, cZ47]
          refine BigFrame.wpQuiet_skip (by show (some u42 == some false) = false; rw [HU42.out]; rfl) ?_
          simp only [Act.put, aZ47, bZ47, cZ47]
          generalize hund : (undef : Value) = un
          refine BigFrame.wpQuiet_skip (by rw [← hund]; rfl) ?_
          simp only [Act.put, aZ47, bZ47, cZ47]
          refine BigFrame.wpQuiet_skip (by rw [← hund]; rfl) ?_
          simp only [Act.put, aZ47, bZ47, cZ47]
          refine BigFrame.wpQuiet_skip (by rw [← hund]; rfl) ?_
          simp only [Act.put, aZ47, bZ47, cZ47]
          refine BigFrame.wpQuiet_skip (by rw [← hund]; rfl) ?_
          simp only [Act.put, aZ47, bZ47, cZ47]
          refine BigFrame.wpQuiet_skip (by rw [← hund]; rfl) ?_
          simp only [Act.put, aZ47, bZ47, cZ47]
          refine BigFrame.wpQuiet_skip (by rw [← hund]; rfl) ?_
          simp only [Act.put, aZ47, bZ47, cZ47]
          refine BigFrame.wpQuiet_skip (by rw [← hund]; rfl) ?_
          simp only [Act.put, aZ47, bZ47, cZ47]
          refine BigFrame.wpQuiet_skip (by rw [← hund]; rfl) ?_
          simp only [Act.put, aZ47, bZ47, cZ47]
          refine BigFrame.wpQuiet_skip (by show (some u42 == some false) = false; rw [HU42.out]; rfl) ?_
          simp only [Act.put, aZ47, bZ47, cZ47]
          refine wpQuiet_step (fun K hK => ?_)
          rw [if_pos (by rfl)]
          refine ⟨.bool true, fun W hW => quiet_ok ?_, hK _ ?_⟩
          · have q := HX.out W hW
            obtain ⟨⟨m0, m1, m2, m3⟩, _⟩ := q
            have q2 := HH.out W hW
            obtain ⟨z0, z1, z2, z3⟩ := q2
            have v42 := HU42.out
            go_simp
            all_goals (try omega)
          clear hK K
          simp only [Act.put, aZ47, bZ47, cZ47]
          subst hund
          refine wpQuiet_nil ?_
          intro W hW
          have hbW := HBW.out W hW
          go_wp2_with fail
          go_ret
          exact ⟨ret_bool HF.out.symm, hbW⟩
        have e3 : (x.2.2.1 == h.2.2.1) = true := by simpa using g3
        have e3' : (x.2.2.1 != h.2.2.1) = false := by simpa using g3
        have HUPB : Hid ((∀ j, (hj : k = j + 1) → cmp4 (L[j]'(by omega)) x < 0) → ansK L (k + 1)) := HUPA.out h1 ⟨g1, g2, g3⟩
        clear HBAD1 HBAD2 HUPA g1 g2 g3
        rcases Nat.eq_zero_or_pos k with hk0 | hk0
        · have HU : Hid (ansK L (k + 1)) := HUPB.out (fun j hj => by omega)
          have hk0i : ¬ (0 : Int) < (k : Int) := by omega
          clear HUPB HPREV hk0 h1
          obtain ⟨u45, hu45⟩ : ∃ u : Bool, u = false := ⟨_, rfl⟩
          have HU45 : Hid (u45 = false) := hu45
          clear hu45
          go_wp2_with fail
          rw [HW0.out, HGX.out]
          refine wp_region_quiet (C := fun W => Below W0.heap.size W0 W) (by kernel_rfl) (by kernel_rfl) hbd ?_
          refine wpQuiet_step (fun K hK => ?_)
          rw [if_pos (by rfl)]
          refine ⟨.agg #[.string ⟨x.1.toArray⟩, .int .i64 x.2.1, .int .i64 x.2.2.1, .string ⟨x.2.2.2.toArray⟩], fun W hW => quiet_ok ?_, hK _ ?_⟩
          · have q := HX.out W hW
            obtain ⟨⟨m0, m1, m2, m3⟩, _⟩ := q
            have q2 := HH.out W hW
            obtain ⟨z0, z1, z2, z3⟩ := q2
            go_simp
            all_goals (try omega)
          clear hK K
          simp only [Act.put, aZ47, bZ47, cZ47]
          refine wpQuiet_step (fun K hK => ?_)
          rw [if_pos (by rfl)]
          refine ⟨.bool true, fun W hW => quiet_call (f := 64) (args := #[.agg #[.string ⟨x.1.toArray⟩, .int .i64 x.2.1, .int .i64 x.2.2.1, .string ⟨x.2.2.2.toArray⟩]]) ?_ ?_, hK _ ?_⟩
          · go_simp
          · exact (HC.out W).mono fun e w'' h => ⟨h.1, HTR.out _ _ hW h.2⟩
          clear hK K
          simp only [Act.put, aZ47, bZ47, cZ47]
          refine wpQuiet_step (fun K hK => ?_)
          rw [if_pos (by rfl)]
          refine ⟨.bool false, fun W hW => quiet_ok ?_, hK _ ?_⟩
          · have q := HX.out W hW
            obtain ⟨⟨m0, m1, m2, m3⟩, _⟩ := q
            have q2 := HH.out W hW
            obtain ⟨z0, z1, z2, z3⟩ := q2
            go_simp
            all_goals (try omega)
          clear hK K
          simp only [Act.put, aZ47, bZ47, cZ47]
          refine wpQuiet_step (fun K hK => ?_)
          rw [if_pos (by rfl)]
          refine ⟨.bool false, fun W hW => quiet_ok ?_, hK _ ?_⟩
          · have q := HX.out W hW
            obtain ⟨⟨m0, m1, m2, m3⟩, _⟩ := q
            have q2 := HH.out W hW
            obtain ⟨z0, z1, z2, z3⟩ := q2
            go_simp
            all_goals (try omega)
          clear hK K
          simp only [Act.put, aZ47, bZ47, cZ47]
          refine wpQuiet_step (fun K hK => ?_)
          rw [if_pos (by rfl)]
          refine ⟨.pointer (some ⟨gx, 0, none⟩), fun W hW => quiet_ok ?_, hK _ ?_⟩
          · have q := HX.out W hW
            obtain ⟨⟨m0, m1, m2, m3⟩, _⟩ := q
            have q2 := HH.out W hW
            obtain ⟨z0, z1, z2, z3⟩ := q2
            go_simp
            all_goals (try omega)
          clear hK K
          simp only [Act.put, aZ47, bZ47, cZ47]
          refine wpQuiet_step (fun K hK => ?_)
          rw [if_pos (by rfl)]
          refine ⟨.string ⟨x.1.toArray⟩, fun W hW => quiet_ok ?_, hK _ ?_⟩
          · have q := HX.out W hW
            obtain ⟨⟨m0, m1, m2, m3⟩, _⟩ := q
            have q2 := HH.out W hW
            obtain ⟨z0, z1, z2, z3⟩ := q2
            go_simp
            all_goals (try omega)
          clear hK K
          simp only [Act.put, aZ47, bZ47, cZ47]
          refine wpQuiet_step (fun K hK => ?_)
          rw [if_pos (by rfl)]
          refine ⟨.slice (some ⟨b, o, none⟩) L.length cap, fun W hW => quiet_ok ?_, hK _ ?_⟩
          · have q := HX.out W hW
            obtain ⟨⟨m0, m1, m2, m3⟩, _⟩ := q
            have q2 := HH.out W hW
            obtain ⟨z0, z1, z2, z3⟩ := q2
            go_simp
            all_goals (try omega)
          clear hK K
          simp only [Act.put, aZ47, bZ47, cZ47]
          refine wpQuiet_step (fun K hK => ?_)
          rw [if_pos (by rfl)]
          refine ⟨.pointer (some ⟨b, o, none⟩), fun W hW => quiet_ok ?_, hK _ ?_⟩
          · have q := HX.out W hW
            obtain ⟨⟨m0, m1, m2, m3⟩, _⟩ := q
            have q2 := HH.out W hW
            obtain ⟨z0, z1, z2, z3⟩ := q2
            go_simp
            all_goals (try omega)
          clear hK K
          simp only [Act.put, aZ47, bZ47, cZ47]
          refine wpQuiet_step (fun K hK => ?_)
          rw [if_pos (by rfl)]
          refine ⟨.pointer (some ⟨b, o, none⟩), fun W hW => quiet_ok ?_, hK _ ?_⟩
          · have q := HX.out W hW
            obtain ⟨⟨m0, m1, m2, m3⟩, _⟩ := q
            have q2 := HH.out W hW
            obtain ⟨z0, z1, z2, z3⟩ := q2
            go_simp
            all_goals (try omega)
          clear hK K
          simp only [Act.put, aZ47, bZ47, cZ47]
          refine wpQuiet_step (fun K hK => ?_)
          rw [if_pos (by rfl)]
          refine ⟨.string ⟨h.1.toArray⟩, fun W hW => quiet_ok ?_, hK _ ?_⟩
          · have q := HX.out W hW
            obtain ⟨⟨m0, m1, m2, m3⟩, _⟩ := q
            have q2 := HH.out W hW
            obtain ⟨z0, z1, z2, z3⟩ := q2
            go_simp
            all_goals (try omega)
          clear hK K
          simp only [Act.put, aZ47, bZ47, cZ47]
          refine wpQuiet_step (fun K hK => ?_)
          rw [if_pos (by rfl)]
          refine ⟨.bool false, fun W hW => quiet_ok ?_, hK _ ?_⟩
          · have q := HX.out W hW
            obtain ⟨⟨m0, m1, m2, m3⟩, _⟩ := q
            have q2 := HH.out W hW
            obtain ⟨z0, z1, z2, z3⟩ := q2
            go_simp
            all_goals (try omega)
          clear hK K
          simp only [Act.put, aZ47, bZ47, cZ47]
          refine wpQuiet_step (fun K hK => ?_)
          rw [if_pos (by rfl)]
          refine ⟨.bool false, fun W hW => quiet_ok ?_, hK _ ?_⟩
          · have q := HX.out W hW
            obtain ⟨⟨m0, m1, m2, m3⟩, _⟩ := q
            have q2 := HH.out W hW
            obtain ⟨z0, z1, z2, z3⟩ := q2
            go_simp
            all_goals (try omega)
          clear hK K
          simp only [Act.put, aZ47, bZ47, cZ47]
          refine wpQuiet_step (fun K hK => ?_)
          rw [if_pos (by rfl)]
          refine ⟨.bool false, fun W hW => quiet_ok ?_, hK _ ?_⟩
          · have q := HX.out W hW
            obtain ⟨⟨m0, m1, m2, m3⟩, _⟩ := q
            have q2 := HH.out W hW
            obtain ⟨z0, z1, z2, z3⟩ := q2
            go_simp
            all_goals (try omega)
          clear hK K
          simp only [Act.put, aZ47, bZ47, cZ47]
          refine wpQuiet_step (fun K hK => ?_)
          rw [if_pos (by rfl)]
          refine ⟨.pointer (some ⟨gx, 1, none⟩), fun W hW => quiet_ok ?_, hK _ ?_⟩
          · have q := HX.out W hW
            obtain ⟨⟨m0, m1, m2, m3⟩, _⟩ := q
            have q2 := HH.out W hW
            obtain ⟨z0, z1, z2, z3⟩ := q2
            go_simp
            all_goals (try omega)
          clear hK K
          simp only [Act.put, aZ47, bZ47, cZ47]
          refine wpQuiet_step (fun K hK => ?_)
          rw [if_pos (by rfl)]
          refine ⟨.int .i64 x.2.1, fun W hW => quiet_ok ?_, hK _ ?_⟩
          · have q := HX.out W hW
            obtain ⟨⟨m0, m1, m2, m3⟩, _⟩ := q
            have q2 := HH.out W hW
            obtain ⟨z0, z1, z2, z3⟩ := q2
            go_simp
            all_goals (try omega)
          clear hK K
          simp only [Act.put, aZ47, bZ47, cZ47]
          refine wpQuiet_step (fun K hK => ?_)
          rw [if_pos (by rfl)]
          refine ⟨.slice (some ⟨b, o, none⟩) L.length cap, fun W hW => quiet_ok ?_, hK _ ?_⟩
          · have q := HX.out W hW
            obtain ⟨⟨m0, m1, m2, m3⟩, _⟩ := q
            have q2 := HH.out W hW
            obtain ⟨z0, z1, z2, z3⟩ := q2
            go_simp
            all_goals (try omega)
          clear hK K
          simp only [Act.put, aZ47, bZ47, cZ47]
          refine wpQuiet_step (fun K hK => ?_)
          rw [if_pos (by rfl)]
          refine ⟨.pointer (some ⟨b, o, none⟩), fun W hW => quiet_ok ?_, hK _ ?_⟩
          · have q := HX.out W hW
            obtain ⟨⟨m0, m1, m2, m3⟩, _⟩ := q
            have q2 := HH.out W hW
            obtain ⟨z0, z1, z2, z3⟩ := q2
            go_simp
            all_goals (try omega)
          clear hK K
          simp only [Act.put, aZ47, bZ47, cZ47]
          refine wpQuiet_step (fun K hK => ?_)
          rw [if_pos (by rfl)]
          refine ⟨.pointer (some ⟨b, o + 1, none⟩), fun W hW => quiet_ok ?_, hK _ ?_⟩
          · have q := HX.out W hW
            obtain ⟨⟨m0, m1, m2, m3⟩, _⟩ := q
            have q2 := HH.out W hW
            obtain ⟨z0, z1, z2, z3⟩ := q2
            go_simp
            all_goals (try omega)
          clear hK K
          simp only [Act.put, aZ47, bZ47, cZ47]
          refine wpQuiet_step (fun K hK => ?_)
          rw [if_pos (by rfl)]
          refine ⟨.int .i64 h.2.1, fun W hW => quiet_ok ?_, hK _ ?_⟩
          · have q := HX.out W hW
            obtain ⟨⟨m0, m1, m2, m3⟩, _⟩ := q
            have q2 := HH.out W hW
            obtain ⟨z0, z1, z2, z3⟩ := q2
            go_simp
            all_goals (try omega)
          clear hK K
          simp only [Act.put, aZ47, bZ47, cZ47]
          refine wpQuiet_step (fun K hK => ?_)
          rw [if_pos (by rfl)]
          refine ⟨.bool false, fun W hW => quiet_ok ?_, hK _ ?_⟩
          · have q := HX.out W hW
            obtain ⟨⟨m0, m1, m2, m3⟩, _⟩ := q
            have q2 := HH.out W hW
            obtain ⟨z0, z1, z2, z3⟩ := q2
            go_simp
            all_goals (try omega)
          clear hK K
          simp only [Act.put, aZ47, bZ47, cZ47]
          refine wpQuiet_step (fun K hK => ?_)
          rw [if_pos (by rfl)]
          refine ⟨.bool false, fun W hW => quiet_ok ?_, hK _ ?_⟩
          · have q := HX.out W hW
            obtain ⟨⟨m0, m1, m2, m3⟩, _⟩ := q
            have q2 := HH.out W hW
            obtain ⟨z0, z1, z2, z3⟩ := q2
            go_simp
            all_goals (try omega)
          clear hK K
          simp only [Act.put, aZ47, bZ47, cZ47]
          refine wpQuiet_step (fun K hK => ?_)
          rw [if_pos (by rfl)]
          refine ⟨.bool false, fun W hW => quiet_ok ?_, hK _ ?_⟩
          · have q := HX.out W hW
            obtain ⟨⟨m0, m1, m2, m3⟩, _⟩ := q
            have q2 := HH.out W hW
            obtain ⟨z0, z1, z2, z3⟩ := q2
            go_simp
            all_goals (try omega)
          clear hK K
          simp only [Act.put, aZ47, bZ47, cZ47]
          refine wpQuiet_step (fun K hK => ?_)
          rw [if_pos (by rfl)]
          refine ⟨.pointer (some ⟨gx, 2, none⟩), fun W hW => quiet_ok ?_, hK _ ?_⟩
          · have q := HX.out W hW
            obtain ⟨⟨m0, m1, m2, m3⟩, _⟩ := q
            have q2 := HH.out W hW
            obtain ⟨z0, z1, z2, z3⟩ := q2
            go_simp
            all_goals (try omega)
          clear hK K
          simp only [Act.put, aZ47, bZ47, cZ47]
          refine wpQuiet_step (fun K hK => ?_)
          rw [if_pos (by rfl)]
          refine ⟨.int .i64 x.2.2.1, fun W hW => quiet_ok ?_, hK _ ?_⟩
          · have q := HX.out W hW
            obtain ⟨⟨m0, m1, m2, m3⟩, _⟩ := q
            have q2 := HH.out W hW
            obtain ⟨z0, z1, z2, z3⟩ := q2
            go_simp
            all_goals (try omega)
          clear hK K
          simp only [Act.put, aZ47, bZ47, cZ47]
          refine wpQuiet_step (fun K hK => ?_)
          rw [if_pos (by rfl)]
          refine ⟨.slice (some ⟨b, o, none⟩) L.length cap, fun W hW => quiet_ok ?_, hK _ ?_⟩
          · have q := HX.out W hW
            obtain ⟨⟨m0, m1, m2, m3⟩, _⟩ := q
            have q2 := HH.out W hW
            obtain ⟨z0, z1, z2, z3⟩ := q2
            go_simp
            all_goals (try omega)
          clear hK K
          simp only [Act.put, aZ47, bZ47, cZ47]
          refine wpQuiet_step (fun K hK => ?_)
          rw [if_pos (by rfl)]
          refine ⟨.pointer (some ⟨b, o, none⟩), fun W hW => quiet_ok ?_, hK _ ?_⟩
          · have q := HX.out W hW
            obtain ⟨⟨m0, m1, m2, m3⟩, _⟩ := q
            have q2 := HH.out W hW
            obtain ⟨z0, z1, z2, z3⟩ := q2
            go_simp
            all_goals (try omega)
          clear hK K
          simp only [Act.put, aZ47, bZ47, cZ47]
          refine wpQuiet_step (fun K hK => ?_)
          rw [if_pos (by rfl)]
          refine ⟨.pointer (some ⟨b, o + 2, none⟩), fun W hW => quiet_ok ?_, hK _ ?_⟩
          · have q := HX.out W hW
            obtain ⟨⟨m0, m1, m2, m3⟩, _⟩ := q
            have q2 := HH.out W hW
            obtain ⟨z0, z1, z2, z3⟩ := q2
            go_simp
            all_goals (try omega)
          clear hK K
          simp only [Act.put, aZ47, bZ47, cZ47]
          refine wpQuiet_step (fun K hK => ?_)
          rw [if_pos (by rfl)]
          refine ⟨.int .i64 h.2.2.1, fun W hW => quiet_ok ?_, hK _ ?_⟩
          · have q := HX.out W hW
            obtain ⟨⟨m0, m1, m2, m3⟩, _⟩ := q
            have q2 := HH.out W hW
            obtain ⟨z0, z1, z2, z3⟩ := q2
            go_simp
            all_goals (try omega)
          clear hK K
          simp only [Act.put, aZ47, bZ47, cZ47]
          refine wpQuiet_step (fun K hK => ?_)
          rw [if_pos (by rfl)]
          refine ⟨.bool false, fun W hW => quiet_ok ?_, hK _ ?_⟩
          · have q := HX.out W hW
            obtain ⟨⟨m0, m1, m2, m3⟩, _⟩ := q
            have q2 := HH.out W hW
            obtain ⟨z0, z1, z2, z3⟩ := q2
            go_simp
            all_goals (try omega)
          clear hK K
          simp only [Act.put, aZ47, bZ47, cZ47]
          refine wpQuiet_step (fun K hK => ?_)
          rw [if_pos (by rfl)]
          refine ⟨.bool false, fun W hW => quiet_ok ?_, hK _ ?_⟩
          · have q := HX.out W hW
            obtain ⟨⟨m0, m1, m2, m3⟩, _⟩ := q
            have q2 := HH.out W hW
            obtain ⟨z0, z1, z2, z3⟩ := q2
            go_simp
            all_goals (try omega)
          clear hK K
          simp only [Act.put, aZ47, bZ47, cZ47]
          refine wpQuiet_step (fun K hK => ?_)
          rw [if_pos (by rfl)]
          refine ⟨.bool false, fun W hW => quiet_ok ?_, hK _ ?_⟩
          · have q := HX.out W hW
            obtain ⟨⟨m0, m1, m2, m3⟩, _⟩ := q
            have q2 := HH.out W hW
            obtain ⟨z0, z1, z2, z3⟩ := q2
            go_simp
            all_goals (try omega)
          clear hK K
          simp only [Act.put, aZ47, bZ47, cZ47]
          refine wpQuiet_step (fun K hK => ?_)
          rw [if_pos (by rfl)]
          refine ⟨.int .i64 (k : Int), fun W hW => quiet_ok ?_, hK _ ?_⟩
          · have q := HX.out W hW
            obtain ⟨⟨m0, m1, m2, m3⟩, _⟩ := q
            have q2 := HH.out W hW
            obtain ⟨z0, z1, z2, z3⟩ := q2
            go_simp
            all_goals (try omega)
          clear hK K
          simp only [Act.put, aZ47, bZ47, cZ47]
          refine wpQuiet_step (fun K hK => ?_)
          rw [if_pos (by rfl)]
          refine ⟨.bool false, fun W hW => quiet_ok ?_, hK _ ?_⟩
          · have q := HX.out W hW
            obtain ⟨⟨m0, m1, m2, m3⟩, _⟩ := q
            have q2 := HH.out W hW
            obtain ⟨z0, z1, z2, z3⟩ := q2
            go_simp
            all_goals (try omega)
          clear hK K
          simp only [Act.put, aZ47, bZ47, cZ47]
          refine wpQuiet_step (fun K hK => ?_)
          rw [if_pos (by rfl)]
          refine ⟨.bool u45, fun W hW => quiet_ok ?_, hK _ ?_⟩
          · have q := HX.out W hW
            obtain ⟨⟨m0, m1, m2, m3⟩, _⟩ := q
            have q2 := HH.out W hW
            obtain ⟨z0, z1, z2, z3⟩ := q2
            have v45 := HU45.out
            go_simp
            all_goals (try omega)
          clear hK K
          simp only [Act.put, aZ47, bZ47, cZ47]
          refine BigFrame.wpQuiet_skip (by show (some u45 == some true) = false; rw [HU45.out]; rfl) ?_
          simp only [Act.put, aZ47, bZ47, cZ47]
          refine BigFrame.wpQuiet_skip (by show (some u45 == some true) = false; rw [HU45.out]; rfl) ?_
          simp only [Act.put, aZ47, bZ47, cZ47]
          refine BigFrame.wpQuiet_skip (by show (some u45 == some true) = false; rw [HU45.out]; rfl) ?_
          simp only [Act.put, aZ47, bZ47, cZ47]
          refine BigFrame.wpQuiet_skip (by show (some u45 == some true) = false; rw [HU45.out]; rfl) ?_
          simp only [Act.put, aZ47, bZ47, cZ47]
          refine BigFrame.wpQuiet_skip (by show (some u45 == some true) = false; rw [HU45.out]; rfl) ?_
          simp only [Act.put, aZ47, bZ47, cZ47]
          refine BigFrame.wpQuiet_skip (by show (some u45 == some true) = false; rw [HU45.out]; rfl) ?_
          simp only [Act.put, aZ47, bZ47, cZ47]
          refine BigFrame.wpQuiet_skip (by show (some u45 == some true) = false; rw [HU45.out]; rfl) ?_
          simp only [Act.put, aZ47, bZ47, cZ47]
          refine BigFrame.wpQuiet_skip (by show (some u45 == some true) = false; rw [HU45.out]; rfl) ?_
          simp only [Act.put, aZ47, bZ47, cZ47]
          refine wpQuiet_step (fun K hK => ?_)
          rw [if_pos (by rfl)]
          refine ⟨.bool false, fun W hW => quiet_ok ?_, hK _ ?_⟩
          · have q := HX.out W hW
            obtain ⟨⟨m0, m1, m2, m3⟩, _⟩ := q
            have q2 := HH.out W hW
            obtain ⟨z0, z1, z2, z3⟩ := q2
            have v45 := HU45.out
            go_simp
            all_goals (try omega)
          clear hK K
          simp only [Act.put, aZ47, bZ47, cZ47]
          refine wpQuiet_step (fun K hK => ?_)
          rw [if_pos (by rfl)]
          refine ⟨.bool false, fun W hW => quiet_ok ?_, hK _ ?_⟩
          · have q := HX.out W hW
            obtain ⟨⟨m0, m1, m2, m3⟩, _⟩ := q
            have q2 := HH.out W hW
            obtain ⟨z0, z1, z2, z3⟩ := q2
            have v45 := HU45.out
            go_simp
            all_goals (try omega)
          clear hK K
          simp only [Act.put, aZ47, bZ47, cZ47]
          refine wpQuiet_nil ?_
          intro W hW
          have hbW := HBW.out W hW
          go_wp2_with fail
          go_roundw
          case rel => exact ⟨k + 1, by omega, by go_num, HU, hbW⟩
          case measure => simp [intOf]; omega
        · obtain ⟨j, hj⟩ : ∃ j, k = j + 1 := ⟨k - 1, by omega⟩
          obtain ⟨y, hye, hyg, hyl, hyc, hyb⟩ := HPREV.out j hj
          have HCM : Hid (∀ W, Calls Tryz.prog 65 #[.agg #[.string ⟨y.1.toArray⟩, .int .i64 y.2.1, .int .i64 y.2.2.1, .string ⟨y.2.2.2.toArray⟩], .agg #[.string ⟨x.1.toArray⟩, .int .i64 x.2.1, .int .i64 x.2.2.1, .string ⟨x.2.2.2.toArray⟩]] W fun e w' => e = .returned (.int .i64 (cmp4 y x)) ∧ Below W.heap.size W w') := fun W => HCMA.out y x W hyl.1 hyl.2 hxl.1 hxl.2 hyg h1
          have HY : Hid (∀ W, Below W0.heap.size W0 W → W.cell? ⟨b, o + j * 4, none⟩ = some (.string ⟨y.1.toArray⟩) ∧ W.cell? ⟨b, o + j * 4 + 1, none⟩ = some (.int .i64 y.2.1) ∧ W.cell? ⟨b, o + j * 4 + 2, none⟩ = some (.int .i64 y.2.2.1) ∧ W.cell? ⟨b, o + j * 4 + 3, none⟩ = some (.string ⟨y.2.2.2.toArray⟩)) := fun W hW => hyc W (HBW.out W hW)
          have HYB : Hid (0 ≤ cmp4 y x → r = false) := hyb
          have HUPC : Hid (cmp4 y x < 0 → ansK L (k + 1)) := fun hh => HUPB.out (fun i hi => by
            have hij : i = j := (by omega)
            subst hij
            rw [← hye]; exact hh)
          obtain ⟨c, hc⟩ : ∃ c, c = cmp4 y x := ⟨_, rfl⟩
          rw [← hc] at HCM HYB HUPC
          have hk0i : (0 : Int) < (k : Int) := by omega
          have wk : IntKind.i64.wrap ((k : Int) - 1) = (j : Int) := by rw [wrap_small _ (by omega) (by omega)]; omega
          have wk2 : (k : Int) - 1 = (j : Int) := by omega
          have wj : IntKind.i64.wrap (j : Int) = (j : Int) := wrap_small _ (by omega) (by omega)
          have hjl : (j : Int) < (L.length : Int) := by omega
          clear HPREV HUPB hk0 hye hyg hyl hyc hyb hj hc h1
          by_cases h3 : 0 ≤ c
          · have HF : Hid (r = false) := HYB.out h3
            clear HYB HUPC
            go_wp2_with fail
            rw [HW0.out, HGX.out]
            refine wp_region_quiet (C := fun W => Below W0.heap.size W0 W) (by kernel_rfl) (by kernel_rfl) hbd ?_
            refine wpQuiet_step (fun K hK => ?_)
            rw [if_pos (by rfl)]
            refine ⟨.agg #[.string ⟨x.1.toArray⟩, .int .i64 x.2.1, .int .i64 x.2.2.1, .string ⟨x.2.2.2.toArray⟩], fun W hW => quiet_ok ?_, hK _ ?_⟩
            · have q := HX.out W hW
              obtain ⟨⟨m0, m1, m2, m3⟩, _⟩ := q
              have q2 := HH.out W hW
              obtain ⟨z0, z1, z2, z3⟩ := q2
              have q3 := HY.out W hW
              obtain ⟨y0, y1, y2, y3⟩ := q3
              go_simp
              all_goals (try omega)
            clear hK K
            simp only [Act.put, aZ47, bZ47, cZ47]
            refine wpQuiet_step (fun K hK => ?_)
            rw [if_pos (by rfl)]
            refine ⟨.bool true, fun W hW => quiet_call (f := 64) (args := #[.agg #[.string ⟨x.1.toArray⟩, .int .i64 x.2.1, .int .i64 x.2.2.1, .string ⟨x.2.2.2.toArray⟩]]) ?_ ?_, hK _ ?_⟩
            · go_simp
            · exact (HC.out W).mono fun e w'' h => ⟨h.1, HTR.out _ _ hW h.2⟩
            clear hK K
            simp only [Act.put, aZ47, bZ47, cZ47]
            refine wpQuiet_step (fun K hK => ?_)
            rw [if_pos (by rfl)]
            refine ⟨.bool false, fun W hW => quiet_ok ?_, hK _ ?_⟩
            · have q := HX.out W hW
              obtain ⟨⟨m0, m1, m2, m3⟩, _⟩ := q
              have q2 := HH.out W hW
              obtain ⟨z0, z1, z2, z3⟩ := q2
              have q3 := HY.out W hW
              obtain ⟨y0, y1, y2, y3⟩ := q3
              go_simp
              all_goals (try omega)
            clear hK K
            simp only [Act.put, aZ47, bZ47, cZ47]
            refine wpQuiet_step (fun K hK => ?_)
            rw [if_pos (by rfl)]
            refine ⟨.bool false, fun W hW => quiet_ok ?_, hK _ ?_⟩
            · have q := HX.out W hW
              obtain ⟨⟨m0, m1, m2, m3⟩, _⟩ := q
              have q2 := HH.out W hW
              obtain ⟨z0, z1, z2, z3⟩ := q2
              have q3 := HY.out W hW
              obtain ⟨y0, y1, y2, y3⟩ := q3
              go_simp
              all_goals (try omega)
            clear hK K
            simp only [Act.put, aZ47, bZ47, cZ47]
            refine wpQuiet_step (fun K hK => ?_)
            rw [if_pos (by rfl)]
            refine ⟨.pointer (some ⟨gx, 0, none⟩), fun W hW => quiet_ok ?_, hK _ ?_⟩
            · have q := HX.out W hW
              obtain ⟨⟨m0, m1, m2, m3⟩, _⟩ := q
              have q2 := HH.out W hW
              obtain ⟨z0, z1, z2, z3⟩ := q2
              have q3 := HY.out W hW
              obtain ⟨y0, y1, y2, y3⟩ := q3
              go_simp
              all_goals (try omega)
            clear hK K
            simp only [Act.put, aZ47, bZ47, cZ47]
            refine wpQuiet_step (fun K hK => ?_)
            rw [if_pos (by rfl)]
            refine ⟨.string ⟨x.1.toArray⟩, fun W hW => quiet_ok ?_, hK _ ?_⟩
            · have q := HX.out W hW
              obtain ⟨⟨m0, m1, m2, m3⟩, _⟩ := q
              have q2 := HH.out W hW
              obtain ⟨z0, z1, z2, z3⟩ := q2
              have q3 := HY.out W hW
              obtain ⟨y0, y1, y2, y3⟩ := q3
              go_simp
              all_goals (try omega)
            clear hK K
            simp only [Act.put, aZ47, bZ47, cZ47]
            refine wpQuiet_step (fun K hK => ?_)
            rw [if_pos (by rfl)]
            refine ⟨.slice (some ⟨b, o, none⟩) L.length cap, fun W hW => quiet_ok ?_, hK _ ?_⟩
            · have q := HX.out W hW
              obtain ⟨⟨m0, m1, m2, m3⟩, _⟩ := q
              have q2 := HH.out W hW
              obtain ⟨z0, z1, z2, z3⟩ := q2
              have q3 := HY.out W hW
              obtain ⟨y0, y1, y2, y3⟩ := q3
              go_simp
              all_goals (try omega)
            clear hK K
            simp only [Act.put, aZ47, bZ47, cZ47]
            refine wpQuiet_step (fun K hK => ?_)
            rw [if_pos (by rfl)]
            refine ⟨.pointer (some ⟨b, o, none⟩), fun W hW => quiet_ok ?_, hK _ ?_⟩
            · have q := HX.out W hW
              obtain ⟨⟨m0, m1, m2, m3⟩, _⟩ := q
              have q2 := HH.out W hW
              obtain ⟨z0, z1, z2, z3⟩ := q2
              have q3 := HY.out W hW
              obtain ⟨y0, y1, y2, y3⟩ := q3
              go_simp
              all_goals (try omega)
            clear hK K
            simp only [Act.put, aZ47, bZ47, cZ47]
            refine wpQuiet_step (fun K hK => ?_)
            rw [if_pos (by rfl)]
            refine ⟨.pointer (some ⟨b, o, none⟩), fun W hW => quiet_ok ?_, hK _ ?_⟩
            · have q := HX.out W hW
              obtain ⟨⟨m0, m1, m2, m3⟩, _⟩ := q
              have q2 := HH.out W hW
              obtain ⟨z0, z1, z2, z3⟩ := q2
              have q3 := HY.out W hW
              obtain ⟨y0, y1, y2, y3⟩ := q3
              go_simp
              all_goals (try omega)
            clear hK K
            simp only [Act.put, aZ47, bZ47, cZ47]
            refine wpQuiet_step (fun K hK => ?_)
            rw [if_pos (by rfl)]
            refine ⟨.string ⟨h.1.toArray⟩, fun W hW => quiet_ok ?_, hK _ ?_⟩
            · have q := HX.out W hW
              obtain ⟨⟨m0, m1, m2, m3⟩, _⟩ := q
              have q2 := HH.out W hW
              obtain ⟨z0, z1, z2, z3⟩ := q2
              have q3 := HY.out W hW
              obtain ⟨y0, y1, y2, y3⟩ := q3
              go_simp
              all_goals (try omega)
            clear hK K
            simp only [Act.put, aZ47, bZ47, cZ47]
            refine wpQuiet_step (fun K hK => ?_)
            rw [if_pos (by rfl)]
            refine ⟨.bool false, fun W hW => quiet_ok ?_, hK _ ?_⟩
            · have q := HX.out W hW
              obtain ⟨⟨m0, m1, m2, m3⟩, _⟩ := q
              have q2 := HH.out W hW
              obtain ⟨z0, z1, z2, z3⟩ := q2
              have q3 := HY.out W hW
              obtain ⟨y0, y1, y2, y3⟩ := q3
              go_simp
              all_goals (try omega)
            clear hK K
            simp only [Act.put, aZ47, bZ47, cZ47]
            refine wpQuiet_step (fun K hK => ?_)
            rw [if_pos (by rfl)]
            refine ⟨.bool false, fun W hW => quiet_ok ?_, hK _ ?_⟩
            · have q := HX.out W hW
              obtain ⟨⟨m0, m1, m2, m3⟩, _⟩ := q
              have q2 := HH.out W hW
              obtain ⟨z0, z1, z2, z3⟩ := q2
              have q3 := HY.out W hW
              obtain ⟨y0, y1, y2, y3⟩ := q3
              go_simp
              all_goals (try omega)
            clear hK K
            simp only [Act.put, aZ47, bZ47, cZ47]
            refine wpQuiet_step (fun K hK => ?_)
            rw [if_pos (by rfl)]
            refine ⟨.bool false, fun W hW => quiet_ok ?_, hK _ ?_⟩
            · have q := HX.out W hW
              obtain ⟨⟨m0, m1, m2, m3⟩, _⟩ := q
              have q2 := HH.out W hW
              obtain ⟨z0, z1, z2, z3⟩ := q2
              have q3 := HY.out W hW
              obtain ⟨y0, y1, y2, y3⟩ := q3
              go_simp
              all_goals (try omega)
            clear hK K
            simp only [Act.put, aZ47, bZ47, cZ47]
            refine wpQuiet_step (fun K hK => ?_)
            rw [if_pos (by rfl)]
            refine ⟨.pointer (some ⟨gx, 1, none⟩), fun W hW => quiet_ok ?_, hK _ ?_⟩
            · have q := HX.out W hW
              obtain ⟨⟨m0, m1, m2, m3⟩, _⟩ := q
              have q2 := HH.out W hW
              obtain ⟨z0, z1, z2, z3⟩ := q2
              have q3 := HY.out W hW
              obtain ⟨y0, y1, y2, y3⟩ := q3
              go_simp
              all_goals (try omega)
            clear hK K
            simp only [Act.put, aZ47, bZ47, cZ47]
            refine wpQuiet_step (fun K hK => ?_)
            rw [if_pos (by rfl)]
            refine ⟨.int .i64 x.2.1, fun W hW => quiet_ok ?_, hK _ ?_⟩
            · have q := HX.out W hW
              obtain ⟨⟨m0, m1, m2, m3⟩, _⟩ := q
              have q2 := HH.out W hW
              obtain ⟨z0, z1, z2, z3⟩ := q2
              have q3 := HY.out W hW
              obtain ⟨y0, y1, y2, y3⟩ := q3
              go_simp
              all_goals (try omega)
            clear hK K
            simp only [Act.put, aZ47, bZ47, cZ47]
            refine wpQuiet_step (fun K hK => ?_)
            rw [if_pos (by rfl)]
            refine ⟨.slice (some ⟨b, o, none⟩) L.length cap, fun W hW => quiet_ok ?_, hK _ ?_⟩
            · have q := HX.out W hW
              obtain ⟨⟨m0, m1, m2, m3⟩, _⟩ := q
              have q2 := HH.out W hW
              obtain ⟨z0, z1, z2, z3⟩ := q2
              have q3 := HY.out W hW
              obtain ⟨y0, y1, y2, y3⟩ := q3
              go_simp
              all_goals (try omega)
            clear hK K
            simp only [Act.put, aZ47, bZ47, cZ47]
            refine wpQuiet_step (fun K hK => ?_)
            rw [if_pos (by rfl)]
            refine ⟨.pointer (some ⟨b, o, none⟩), fun W hW => quiet_ok ?_, hK _ ?_⟩
            · have q := HX.out W hW
              obtain ⟨⟨m0, m1, m2, m3⟩, _⟩ := q
              have q2 := HH.out W hW
              obtain ⟨z0, z1, z2, z3⟩ := q2
              have q3 := HY.out W hW
              obtain ⟨y0, y1, y2, y3⟩ := q3
              go_simp
              all_goals (try omega)
            clear hK K
            simp only [Act.put, aZ47, bZ47, cZ47]
            refine wpQuiet_step (fun K hK => ?_)
            rw [if_pos (by rfl)]
            refine ⟨.pointer (some ⟨b, o + 1, none⟩), fun W hW => quiet_ok ?_, hK _ ?_⟩
            · have q := HX.out W hW
              obtain ⟨⟨m0, m1, m2, m3⟩, _⟩ := q
              have q2 := HH.out W hW
              obtain ⟨z0, z1, z2, z3⟩ := q2
              have q3 := HY.out W hW
              obtain ⟨y0, y1, y2, y3⟩ := q3
              go_simp
              all_goals (try omega)
            clear hK K
            simp only [Act.put, aZ47, bZ47, cZ47]
            refine wpQuiet_step (fun K hK => ?_)
            rw [if_pos (by rfl)]
            refine ⟨.int .i64 h.2.1, fun W hW => quiet_ok ?_, hK _ ?_⟩
            · have q := HX.out W hW
              obtain ⟨⟨m0, m1, m2, m3⟩, _⟩ := q
              have q2 := HH.out W hW
              obtain ⟨z0, z1, z2, z3⟩ := q2
              have q3 := HY.out W hW
              obtain ⟨y0, y1, y2, y3⟩ := q3
              go_simp
              all_goals (try omega)
            clear hK K
            simp only [Act.put, aZ47, bZ47, cZ47]
            refine wpQuiet_step (fun K hK => ?_)
            rw [if_pos (by rfl)]
            refine ⟨.bool false, fun W hW => quiet_ok ?_, hK _ ?_⟩
            · have q := HX.out W hW
              obtain ⟨⟨m0, m1, m2, m3⟩, _⟩ := q
              have q2 := HH.out W hW
              obtain ⟨z0, z1, z2, z3⟩ := q2
              have q3 := HY.out W hW
              obtain ⟨y0, y1, y2, y3⟩ := q3
              go_simp
              all_goals (try omega)
            clear hK K
            simp only [Act.put, aZ47, bZ47, cZ47]
            refine wpQuiet_step (fun K hK => ?_)
            rw [if_pos (by rfl)]
            refine ⟨.bool false, fun W hW => quiet_ok ?_, hK _ ?_⟩
            · have q := HX.out W hW
              obtain ⟨⟨m0, m1, m2, m3⟩, _⟩ := q
              have q2 := HH.out W hW
              obtain ⟨z0, z1, z2, z3⟩ := q2
              have q3 := HY.out W hW
              obtain ⟨y0, y1, y2, y3⟩ := q3
              go_simp
              all_goals (try omega)
            clear hK K
            simp only [Act.put, aZ47, bZ47, cZ47]
            refine wpQuiet_step (fun K hK => ?_)
            rw [if_pos (by rfl)]
            refine ⟨.bool false, fun W hW => quiet_ok ?_, hK _ ?_⟩
            · have q := HX.out W hW
              obtain ⟨⟨m0, m1, m2, m3⟩, _⟩ := q
              have q2 := HH.out W hW
              obtain ⟨z0, z1, z2, z3⟩ := q2
              have q3 := HY.out W hW
              obtain ⟨y0, y1, y2, y3⟩ := q3
              go_simp
              all_goals (try omega)
            clear hK K
            simp only [Act.put, aZ47, bZ47, cZ47]
            refine wpQuiet_step (fun K hK => ?_)
            rw [if_pos (by rfl)]
            refine ⟨.pointer (some ⟨gx, 2, none⟩), fun W hW => quiet_ok ?_, hK _ ?_⟩
            · have q := HX.out W hW
              obtain ⟨⟨m0, m1, m2, m3⟩, _⟩ := q
              have q2 := HH.out W hW
              obtain ⟨z0, z1, z2, z3⟩ := q2
              have q3 := HY.out W hW
              obtain ⟨y0, y1, y2, y3⟩ := q3
              go_simp
              all_goals (try omega)
            clear hK K
            simp only [Act.put, aZ47, bZ47, cZ47]
            refine wpQuiet_step (fun K hK => ?_)
            rw [if_pos (by rfl)]
            refine ⟨.int .i64 x.2.2.1, fun W hW => quiet_ok ?_, hK _ ?_⟩
            · have q := HX.out W hW
              obtain ⟨⟨m0, m1, m2, m3⟩, _⟩ := q
              have q2 := HH.out W hW
              obtain ⟨z0, z1, z2, z3⟩ := q2
              have q3 := HY.out W hW
              obtain ⟨y0, y1, y2, y3⟩ := q3
              go_simp
              all_goals (try omega)
            clear hK K
            simp only [Act.put, aZ47, bZ47, cZ47]
            refine wpQuiet_step (fun K hK => ?_)
            rw [if_pos (by rfl)]
            refine ⟨.slice (some ⟨b, o, none⟩) L.length cap, fun W hW => quiet_ok ?_, hK _ ?_⟩
            · have q := HX.out W hW
              obtain ⟨⟨m0, m1, m2, m3⟩, _⟩ := q
              have q2 := HH.out W hW
              obtain ⟨z0, z1, z2, z3⟩ := q2
              have q3 := HY.out W hW
              obtain ⟨y0, y1, y2, y3⟩ := q3
              go_simp
              all_goals (try omega)
            clear hK K
            simp only [Act.put, aZ47, bZ47, cZ47]
            refine wpQuiet_step (fun K hK => ?_)
            rw [if_pos (by rfl)]
            refine ⟨.pointer (some ⟨b, o, none⟩), fun W hW => quiet_ok ?_, hK _ ?_⟩
            · have q := HX.out W hW
              obtain ⟨⟨m0, m1, m2, m3⟩, _⟩ := q
              have q2 := HH.out W hW
              obtain ⟨z0, z1, z2, z3⟩ := q2
              have q3 := HY.out W hW
              obtain ⟨y0, y1, y2, y3⟩ := q3
              go_simp
              all_goals (try omega)
            clear hK K
            simp only [Act.put, aZ47, bZ47, cZ47]
            refine wpQuiet_step (fun K hK => ?_)
            rw [if_pos (by rfl)]
            refine ⟨.pointer (some ⟨b, o + 2, none⟩), fun W hW => quiet_ok ?_, hK _ ?_⟩
            · have q := HX.out W hW
              obtain ⟨⟨m0, m1, m2, m3⟩, _⟩ := q
              have q2 := HH.out W hW
              obtain ⟨z0, z1, z2, z3⟩ := q2
              have q3 := HY.out W hW
              obtain ⟨y0, y1, y2, y3⟩ := q3
              go_simp
              all_goals (try omega)
            clear hK K
            simp only [Act.put, aZ47, bZ47, cZ47]
            refine wpQuiet_step (fun K hK => ?_)
            rw [if_pos (by rfl)]
            refine ⟨.int .i64 h.2.2.1, fun W hW => quiet_ok ?_, hK _ ?_⟩
            · have q := HX.out W hW
              obtain ⟨⟨m0, m1, m2, m3⟩, _⟩ := q
              have q2 := HH.out W hW
              obtain ⟨z0, z1, z2, z3⟩ := q2
              have q3 := HY.out W hW
              obtain ⟨y0, y1, y2, y3⟩ := q3
              go_simp
              all_goals (try omega)
            clear hK K
            simp only [Act.put, aZ47, bZ47, cZ47]
            refine wpQuiet_step (fun K hK => ?_)
            rw [if_pos (by rfl)]
            refine ⟨.bool false, fun W hW => quiet_ok ?_, hK _ ?_⟩
            · have q := HX.out W hW
              obtain ⟨⟨m0, m1, m2, m3⟩, _⟩ := q
              have q2 := HH.out W hW
              obtain ⟨z0, z1, z2, z3⟩ := q2
              have q3 := HY.out W hW
              obtain ⟨y0, y1, y2, y3⟩ := q3
              go_simp
              all_goals (try omega)
            clear hK K
            simp only [Act.put, aZ47, bZ47, cZ47]
            refine wpQuiet_step (fun K hK => ?_)
            rw [if_pos (by rfl)]
            refine ⟨.bool false, fun W hW => quiet_ok ?_, hK _ ?_⟩
            · have q := HX.out W hW
              obtain ⟨⟨m0, m1, m2, m3⟩, _⟩ := q
              have q2 := HH.out W hW
              obtain ⟨z0, z1, z2, z3⟩ := q2
              have q3 := HY.out W hW
              obtain ⟨y0, y1, y2, y3⟩ := q3
              go_simp
              all_goals (try omega)
            clear hK K
            simp only [Act.put, aZ47, bZ47, cZ47]
            refine wpQuiet_step (fun K hK => ?_)
            rw [if_pos (by rfl)]
            refine ⟨.bool false, fun W hW => quiet_ok ?_, hK _ ?_⟩
            · have q := HX.out W hW
              obtain ⟨⟨m0, m1, m2, m3⟩, _⟩ := q
              have q2 := HH.out W hW
              obtain ⟨z0, z1, z2, z3⟩ := q2
              have q3 := HY.out W hW
              obtain ⟨y0, y1, y2, y3⟩ := q3
              go_simp
              all_goals (try omega)
            clear hK K
            simp only [Act.put, aZ47, bZ47, cZ47]
            refine wpQuiet_step (fun K hK => ?_)
            rw [if_pos (by rfl)]
            refine ⟨.int .i64 (k : Int), fun W hW => quiet_ok ?_, hK _ ?_⟩
            · have q := HX.out W hW
              obtain ⟨⟨m0, m1, m2, m3⟩, _⟩ := q
              have q2 := HH.out W hW
              obtain ⟨z0, z1, z2, z3⟩ := q2
              have q3 := HY.out W hW
              obtain ⟨y0, y1, y2, y3⟩ := q3
              go_simp
              all_goals (try omega)
            clear hK K
            simp only [Act.put, aZ47, bZ47, cZ47]
            refine wpQuiet_step (fun K hK => ?_)
            rw [if_pos (by rfl)]
            refine ⟨.bool true, fun W hW => quiet_ok ?_, hK _ ?_⟩
            · have q := HX.out W hW
              obtain ⟨⟨m0, m1, m2, m3⟩, _⟩ := q
              have q2 := HH.out W hW
              obtain ⟨z0, z1, z2, z3⟩ := q2
              have q3 := HY.out W hW
              obtain ⟨y0, y1, y2, y3⟩ := q3
              go_simp
              all_goals (try omega)
            clear hK K
            simp only [Act.put, aZ47, bZ47, cZ47]
            refine wpQuiet_step (fun K hK => ?_)
            rw [if_pos (by rfl)]
            refine ⟨.bool true, fun W hW => quiet_ok ?_, hK _ ?_⟩
            · have q := HX.out W hW
              obtain ⟨⟨m0, m1, m2, m3⟩, _⟩ := q
              have q2 := HH.out W hW
              obtain ⟨z0, z1, z2, z3⟩ := q2
              have q3 := HY.out W hW
              obtain ⟨y0, y1, y2, y3⟩ := q3
              go_simp
              all_goals (try omega)
            clear hK K
            simp only [Act.put, aZ47, bZ47, cZ47]
            refine wpQuiet_step (fun K hK => ?_)
            rw [if_pos (by rfl)]
            refine ⟨.slice (some ⟨b, o, none⟩) L.length cap, fun W hW => quiet_ok ?_, hK _ ?_⟩
            · have q := HX.out W hW
              obtain ⟨⟨m0, m1, m2, m3⟩, _⟩ := q
              have q2 := HH.out W hW
              obtain ⟨z0, z1, z2, z3⟩ := q2
              have q3 := HY.out W hW
              obtain ⟨y0, y1, y2, y3⟩ := q3
              go_simp
              all_goals (try omega)
            clear hK K
            simp only [Act.put, aZ47, bZ47, cZ47]
            refine wpQuiet_step (fun K hK => ?_)
            rw [if_pos (by rfl)]
            refine ⟨.int .i64 (k : Int), fun W hW => quiet_ok ?_, hK _ ?_⟩
            · have q := HX.out W hW
              obtain ⟨⟨m0, m1, m2, m3⟩, _⟩ := q
              have q2 := HH.out W hW
              obtain ⟨z0, z1, z2, z3⟩ := q2
              have q3 := HY.out W hW
              obtain ⟨y0, y1, y2, y3⟩ := q3
              go_simp
              all_goals (try omega)
            clear hK K
            simp only [Act.put, aZ47, bZ47, cZ47]
            refine wpQuiet_step (fun K hK => ?_)
            rw [if_pos (by rfl)]
            refine ⟨.int .i64 (j : Int), fun W hW => quiet_ok ?_, hK _ ?_⟩
            · have q := HX.out W hW
              obtain ⟨⟨m0, m1, m2, m3⟩, _⟩ := q
              have q2 := HH.out W hW
              obtain ⟨z0, z1, z2, z3⟩ := q2
              have q3 := HY.out W hW
              obtain ⟨y0, y1, y2, y3⟩ := q3
              go_simp
              all_goals (try omega)
            clear hK K
            simp only [Act.put, aZ47, bZ47, cZ47]
            refine wpQuiet_step (fun K hK => ?_)
            rw [if_pos (by rfl)]
            refine ⟨.pointer (some ⟨b, o + j * 4, none⟩), fun W hW => quiet_ok ?_, hK _ ?_⟩
            · have q := HX.out W hW
              obtain ⟨⟨m0, m1, m2, m3⟩, _⟩ := q
              have q2 := HH.out W hW
              obtain ⟨z0, z1, z2, z3⟩ := q2
              have q3 := HY.out W hW
              obtain ⟨y0, y1, y2, y3⟩ := q3
              go_simp
              all_goals (try omega)
            clear hK K
            simp only [Act.put, aZ47, bZ47, cZ47]
            refine wpQuiet_step (fun K hK => ?_)
            rw [if_pos (by rfl)]
            refine ⟨.agg #[.string ⟨y.1.toArray⟩, .int .i64 y.2.1, .int .i64 y.2.2.1, .string ⟨y.2.2.2.toArray⟩], fun W hW => quiet_ok ?_, hK _ ?_⟩
            · have q := HX.out W hW
              obtain ⟨⟨m0, m1, m2, m3⟩, _⟩ := q
              have q2 := HH.out W hW
              obtain ⟨z0, z1, z2, z3⟩ := q2
              have q3 := HY.out W hW
              obtain ⟨y0, y1, y2, y3⟩ := q3
              go_simp
              all_goals (try omega)
            clear hK K
            simp only [Act.put, aZ47, bZ47, cZ47]
            refine wpQuiet_step (fun K hK => ?_)
            rw [if_pos (by rfl)]
            refine ⟨.agg #[.string ⟨x.1.toArray⟩, .int .i64 x.2.1, .int .i64 x.2.2.1, .string ⟨x.2.2.2.toArray⟩], fun W hW => quiet_ok ?_, hK _ ?_⟩
            · have q := HX.out W hW
              obtain ⟨⟨m0, m1, m2, m3⟩, _⟩ := q
              have q2 := HH.out W hW
              obtain ⟨z0, z1, z2, z3⟩ := q2
              have q3 := HY.out W hW
              obtain ⟨y0, y1, y2, y3⟩ := q3
              go_simp
              all_goals (try omega)
            clear hK K
            simp only [Act.put, aZ47, bZ47, cZ47]
            refine wpQuiet_step (fun K hK => ?_)
            rw [if_pos (by rfl)]
            refine ⟨.int .i64 c, fun W hW => quiet_call (f := 65) (args := #[.agg #[.string ⟨y.1.toArray⟩, .int .i64 y.2.1, .int .i64 y.2.2.1, .string ⟨y.2.2.2.toArray⟩], .agg #[.string ⟨x.1.toArray⟩, .int .i64 x.2.1, .int .i64 x.2.2.1, .string ⟨x.2.2.2.toArray⟩]]) ?_ ?_, hK _ ?_⟩
            · go_simp
            · exact (HCM.out W).mono fun e w'' h => ⟨h.1, HTR.out _ _ hW h.2⟩
            clear hK K
            simp only [Act.put, aZ47, bZ47, cZ47]
            refine wpQuiet_step (fun K hK => ?_)
            rw [if_pos (by rfl)]
            refine ⟨.bool true, fun W hW => quiet_ok ?_, hK _ ?_⟩
            · have q := HX.out W hW
              obtain ⟨⟨m0, m1, m2, m3⟩, _⟩ := q
              have q2 := HH.out W hW
              obtain ⟨z0, z1, z2, z3⟩ := q2
              have q3 := HY.out W hW
              obtain ⟨y0, y1, y2, y3⟩ := q3
              go_simp
              all_goals (try omega)
            clear hK K
            simp only [Act.put, aZ47, bZ47, cZ47]
            refine wpQuiet_step (fun K hK => ?_)
            rw [if_pos (by rfl)]
            refine ⟨.bool true, fun W hW => quiet_ok ?_, hK _ ?_⟩
            · have q := HX.out W hW
              obtain ⟨⟨m0, m1, m2, m3⟩, _⟩ := q
              have q2 := HH.out W hW
              obtain ⟨z0, z1, z2, z3⟩ := q2
              have q3 := HY.out W hW
              obtain ⟨y0, y1, y2, y3⟩ := q3
              go_simp
              all_goals (try omega)
            clear hK K
            simp only [Act.put, aZ47, bZ47, cZ47]
            refine wpQuiet_step (fun K hK => ?_)
            rw [if_pos (by rfl)]
            refine ⟨.bool true, fun W hW => quiet_ok ?_, hK _ ?_⟩
            · have q := HX.out W hW
              obtain ⟨⟨m0, m1, m2, m3⟩, _⟩ := q
              have q2 := HH.out W hW
              obtain ⟨z0, z1, z2, z3⟩ := q2
              have q3 := HY.out W hW
              obtain ⟨y0, y1, y2, y3⟩ := q3
              go_simp
              all_goals (try omega)
            clear hK K
            simp only [Act.put, aZ47, bZ47, cZ47]
            refine wpQuiet_nil ?_
            intro W hW
            have hbW := HBW.out W hW
            go_wp2_with fail
            go_ret
            exact ⟨ret_bool HF.out.symm, hbW⟩
          · have HU : Hid (ansK L (k + 1)) := HUPC.out (by omega)
            clear HYB HUPC
            go_wp2_with fail
            rw [HW0.out, HGX.out]
            refine wp_region_quiet (C := fun W => Below W0.heap.size W0 W) (by kernel_rfl) (by kernel_rfl) hbd ?_
            refine wpQuiet_step (fun K hK => ?_)
            rw [if_pos (by rfl)]
            refine ⟨.agg #[.string ⟨x.1.toArray⟩, .int .i64 x.2.1, .int .i64 x.2.2.1, .string ⟨x.2.2.2.toArray⟩], fun W hW => quiet_ok ?_, hK _ ?_⟩
            · have q := HX.out W hW
              obtain ⟨⟨m0, m1, m2, m3⟩, _⟩ := q
              have q2 := HH.out W hW
              obtain ⟨z0, z1, z2, z3⟩ := q2
              have q3 := HY.out W hW
              obtain ⟨y0, y1, y2, y3⟩ := q3
              go_simp
              all_goals (try omega)
            clear hK K
            simp only [Act.put, aZ47, bZ47, cZ47]
            refine wpQuiet_step (fun K hK => ?_)
            rw [if_pos (by rfl)]
            refine ⟨.bool true, fun W hW => quiet_call (f := 64) (args := #[.agg #[.string ⟨x.1.toArray⟩, .int .i64 x.2.1, .int .i64 x.2.2.1, .string ⟨x.2.2.2.toArray⟩]]) ?_ ?_, hK _ ?_⟩
            · go_simp
            · exact (HC.out W).mono fun e w'' h => ⟨h.1, HTR.out _ _ hW h.2⟩
            clear hK K
            simp only [Act.put, aZ47, bZ47, cZ47]
            refine wpQuiet_step (fun K hK => ?_)
            rw [if_pos (by rfl)]
            refine ⟨.bool false, fun W hW => quiet_ok ?_, hK _ ?_⟩
            · have q := HX.out W hW
              obtain ⟨⟨m0, m1, m2, m3⟩, _⟩ := q
              have q2 := HH.out W hW
              obtain ⟨z0, z1, z2, z3⟩ := q2
              have q3 := HY.out W hW
              obtain ⟨y0, y1, y2, y3⟩ := q3
              go_simp
              all_goals (try omega)
            clear hK K
            simp only [Act.put, aZ47, bZ47, cZ47]
            refine wpQuiet_step (fun K hK => ?_)
            rw [if_pos (by rfl)]
            refine ⟨.bool false, fun W hW => quiet_ok ?_, hK _ ?_⟩
            · have q := HX.out W hW
              obtain ⟨⟨m0, m1, m2, m3⟩, _⟩ := q
              have q2 := HH.out W hW
              obtain ⟨z0, z1, z2, z3⟩ := q2
              have q3 := HY.out W hW
              obtain ⟨y0, y1, y2, y3⟩ := q3
              go_simp
              all_goals (try omega)
            clear hK K
            simp only [Act.put, aZ47, bZ47, cZ47]
            refine wpQuiet_step (fun K hK => ?_)
            rw [if_pos (by rfl)]
            refine ⟨.pointer (some ⟨gx, 0, none⟩), fun W hW => quiet_ok ?_, hK _ ?_⟩
            · have q := HX.out W hW
              obtain ⟨⟨m0, m1, m2, m3⟩, _⟩ := q
              have q2 := HH.out W hW
              obtain ⟨z0, z1, z2, z3⟩ := q2
              have q3 := HY.out W hW
              obtain ⟨y0, y1, y2, y3⟩ := q3
              go_simp
              all_goals (try omega)
            clear hK K
            simp only [Act.put, aZ47, bZ47, cZ47]
            refine wpQuiet_step (fun K hK => ?_)
            rw [if_pos (by rfl)]
            refine ⟨.string ⟨x.1.toArray⟩, fun W hW => quiet_ok ?_, hK _ ?_⟩
            · have q := HX.out W hW
              obtain ⟨⟨m0, m1, m2, m3⟩, _⟩ := q
              have q2 := HH.out W hW
              obtain ⟨z0, z1, z2, z3⟩ := q2
              have q3 := HY.out W hW
              obtain ⟨y0, y1, y2, y3⟩ := q3
              go_simp
              all_goals (try omega)
            clear hK K
            simp only [Act.put, aZ47, bZ47, cZ47]
            refine wpQuiet_step (fun K hK => ?_)
            rw [if_pos (by rfl)]
            refine ⟨.slice (some ⟨b, o, none⟩) L.length cap, fun W hW => quiet_ok ?_, hK _ ?_⟩
            · have q := HX.out W hW
              obtain ⟨⟨m0, m1, m2, m3⟩, _⟩ := q
              have q2 := HH.out W hW
              obtain ⟨z0, z1, z2, z3⟩ := q2
              have q3 := HY.out W hW
              obtain ⟨y0, y1, y2, y3⟩ := q3
              go_simp
              all_goals (try omega)
            clear hK K
            simp only [Act.put, aZ47, bZ47, cZ47]
            refine wpQuiet_step (fun K hK => ?_)
            rw [if_pos (by rfl)]
            refine ⟨.pointer (some ⟨b, o, none⟩), fun W hW => quiet_ok ?_, hK _ ?_⟩
            · have q := HX.out W hW
              obtain ⟨⟨m0, m1, m2, m3⟩, _⟩ := q
              have q2 := HH.out W hW
              obtain ⟨z0, z1, z2, z3⟩ := q2
              have q3 := HY.out W hW
              obtain ⟨y0, y1, y2, y3⟩ := q3
              go_simp
              all_goals (try omega)
            clear hK K
            simp only [Act.put, aZ47, bZ47, cZ47]
            refine wpQuiet_step (fun K hK => ?_)
            rw [if_pos (by rfl)]
            refine ⟨.pointer (some ⟨b, o, none⟩), fun W hW => quiet_ok ?_, hK _ ?_⟩
            · have q := HX.out W hW
              obtain ⟨⟨m0, m1, m2, m3⟩, _⟩ := q
              have q2 := HH.out W hW
              obtain ⟨z0, z1, z2, z3⟩ := q2
              have q3 := HY.out W hW
              obtain ⟨y0, y1, y2, y3⟩ := q3
              go_simp
              all_goals (try omega)
            clear hK K
            simp only [Act.put, aZ47, bZ47, cZ47]
            refine wpQuiet_step (fun K hK => ?_)
            rw [if_pos (by rfl)]
            refine ⟨.string ⟨h.1.toArray⟩, fun W hW => quiet_ok ?_, hK _ ?_⟩
            · have q := HX.out W hW
              obtain ⟨⟨m0, m1, m2, m3⟩, _⟩ := q
              have q2 := HH.out W hW
              obtain ⟨z0, z1, z2, z3⟩ := q2
              have q3 := HY.out W hW
              obtain ⟨y0, y1, y2, y3⟩ := q3
              go_simp
              all_goals (try omega)
            clear hK K
            simp only [Act.put, aZ47, bZ47, cZ47]
            refine wpQuiet_step (fun K hK => ?_)
            rw [if_pos (by rfl)]
            refine ⟨.bool false, fun W hW => quiet_ok ?_, hK _ ?_⟩
            · have q := HX.out W hW
              obtain ⟨⟨m0, m1, m2, m3⟩, _⟩ := q
              have q2 := HH.out W hW
              obtain ⟨z0, z1, z2, z3⟩ := q2
              have q3 := HY.out W hW
              obtain ⟨y0, y1, y2, y3⟩ := q3
              go_simp
              all_goals (try omega)
            clear hK K
            simp only [Act.put, aZ47, bZ47, cZ47]
            refine wpQuiet_step (fun K hK => ?_)
            rw [if_pos (by rfl)]
            refine ⟨.bool false, fun W hW => quiet_ok ?_, hK _ ?_⟩
            · have q := HX.out W hW
              obtain ⟨⟨m0, m1, m2, m3⟩, _⟩ := q
              have q2 := HH.out W hW
              obtain ⟨z0, z1, z2, z3⟩ := q2
              have q3 := HY.out W hW
              obtain ⟨y0, y1, y2, y3⟩ := q3
              go_simp
              all_goals (try omega)
            clear hK K
            simp only [Act.put, aZ47, bZ47, cZ47]
            refine wpQuiet_step (fun K hK => ?_)
            rw [if_pos (by rfl)]
            refine ⟨.bool false, fun W hW => quiet_ok ?_, hK _ ?_⟩
            · have q := HX.out W hW
              obtain ⟨⟨m0, m1, m2, m3⟩, _⟩ := q
              have q2 := HH.out W hW
              obtain ⟨z0, z1, z2, z3⟩ := q2
              have q3 := HY.out W hW
              obtain ⟨y0, y1, y2, y3⟩ := q3
              go_simp
              all_goals (try omega)
            clear hK K
            simp only [Act.put, aZ47, bZ47, cZ47]
            refine wpQuiet_step (fun K hK => ?_)
            rw [if_pos (by rfl)]
            refine ⟨.pointer (some ⟨gx, 1, none⟩), fun W hW => quiet_ok ?_, hK _ ?_⟩
            · have q := HX.out W hW
              obtain ⟨⟨m0, m1, m2, m3⟩, _⟩ := q
              have q2 := HH.out W hW
              obtain ⟨z0, z1, z2, z3⟩ := q2
              have q3 := HY.out W hW
              obtain ⟨y0, y1, y2, y3⟩ := q3
              go_simp
              all_goals (try omega)
            clear hK K
            simp only [Act.put, aZ47, bZ47, cZ47]
            refine wpQuiet_step (fun K hK => ?_)
            rw [if_pos (by rfl)]
            refine ⟨.int .i64 x.2.1, fun W hW => quiet_ok ?_, hK _ ?_⟩
            · have q := HX.out W hW
              obtain ⟨⟨m0, m1, m2, m3⟩, _⟩ := q
              have q2 := HH.out W hW
              obtain ⟨z0, z1, z2, z3⟩ := q2
              have q3 := HY.out W hW
              obtain ⟨y0, y1, y2, y3⟩ := q3
              go_simp
              all_goals (try omega)
            clear hK K
            simp only [Act.put, aZ47, bZ47, cZ47]
            refine wpQuiet_step (fun K hK => ?_)
            rw [if_pos (by rfl)]
            refine ⟨.slice (some ⟨b, o, none⟩) L.length cap, fun W hW => quiet_ok ?_, hK _ ?_⟩
            · have q := HX.out W hW
              obtain ⟨⟨m0, m1, m2, m3⟩, _⟩ := q
              have q2 := HH.out W hW
              obtain ⟨z0, z1, z2, z3⟩ := q2
              have q3 := HY.out W hW
              obtain ⟨y0, y1, y2, y3⟩ := q3
              go_simp
              all_goals (try omega)
            clear hK K
            simp only [Act.put, aZ47, bZ47, cZ47]
            refine wpQuiet_step (fun K hK => ?_)
            rw [if_pos (by rfl)]
            refine ⟨.pointer (some ⟨b, o, none⟩), fun W hW => quiet_ok ?_, hK _ ?_⟩
            · have q := HX.out W hW
              obtain ⟨⟨m0, m1, m2, m3⟩, _⟩ := q
              have q2 := HH.out W hW
              obtain ⟨z0, z1, z2, z3⟩ := q2
              have q3 := HY.out W hW
              obtain ⟨y0, y1, y2, y3⟩ := q3
              go_simp
              all_goals (try omega)
            clear hK K
            simp only [Act.put, aZ47, bZ47, cZ47]
            refine wpQuiet_step (fun K hK => ?_)
            rw [if_pos (by rfl)]
            refine ⟨.pointer (some ⟨b, o + 1, none⟩), fun W hW => quiet_ok ?_, hK _ ?_⟩
            · have q := HX.out W hW
              obtain ⟨⟨m0, m1, m2, m3⟩, _⟩ := q
              have q2 := HH.out W hW
              obtain ⟨z0, z1, z2, z3⟩ := q2
              have q3 := HY.out W hW
              obtain ⟨y0, y1, y2, y3⟩ := q3
              go_simp
              all_goals (try omega)
            clear hK K
            simp only [Act.put, aZ47, bZ47, cZ47]
            refine wpQuiet_step (fun K hK => ?_)
            rw [if_pos (by rfl)]
            refine ⟨.int .i64 h.2.1, fun W hW => quiet_ok ?_, hK _ ?_⟩
            · have q := HX.out W hW
              obtain ⟨⟨m0, m1, m2, m3⟩, _⟩ := q
              have q2 := HH.out W hW
              obtain ⟨z0, z1, z2, z3⟩ := q2
              have q3 := HY.out W hW
              obtain ⟨y0, y1, y2, y3⟩ := q3
              go_simp
              all_goals (try omega)
            clear hK K
            simp only [Act.put, aZ47, bZ47, cZ47]
            refine wpQuiet_step (fun K hK => ?_)
            rw [if_pos (by rfl)]
            refine ⟨.bool false, fun W hW => quiet_ok ?_, hK _ ?_⟩
            · have q := HX.out W hW
              obtain ⟨⟨m0, m1, m2, m3⟩, _⟩ := q
              have q2 := HH.out W hW
              obtain ⟨z0, z1, z2, z3⟩ := q2
              have q3 := HY.out W hW
              obtain ⟨y0, y1, y2, y3⟩ := q3
              go_simp
              all_goals (try omega)
            clear hK K
            simp only [Act.put, aZ47, bZ47, cZ47]
            refine wpQuiet_step (fun K hK => ?_)
            rw [if_pos (by rfl)]
            refine ⟨.bool false, fun W hW => quiet_ok ?_, hK _ ?_⟩
            · have q := HX.out W hW
              obtain ⟨⟨m0, m1, m2, m3⟩, _⟩ := q
              have q2 := HH.out W hW
              obtain ⟨z0, z1, z2, z3⟩ := q2
              have q3 := HY.out W hW
              obtain ⟨y0, y1, y2, y3⟩ := q3
              go_simp
              all_goals (try omega)
            clear hK K
            simp only [Act.put, aZ47, bZ47, cZ47]
            refine wpQuiet_step (fun K hK => ?_)
            rw [if_pos (by rfl)]
            refine ⟨.bool false, fun W hW => quiet_ok ?_, hK _ ?_⟩
            · have q := HX.out W hW
              obtain ⟨⟨m0, m1, m2, m3⟩, _⟩ := q
              have q2 := HH.out W hW
              obtain ⟨z0, z1, z2, z3⟩ := q2
              have q3 := HY.out W hW
              obtain ⟨y0, y1, y2, y3⟩ := q3
              go_simp
              all_goals (try omega)
            clear hK K
            simp only [Act.put, aZ47, bZ47, cZ47]
            refine wpQuiet_step (fun K hK => ?_)
            rw [if_pos (by rfl)]
            refine ⟨.pointer (some ⟨gx, 2, none⟩), fun W hW => quiet_ok ?_, hK _ ?_⟩
            · have q := HX.out W hW
              obtain ⟨⟨m0, m1, m2, m3⟩, _⟩ := q
              have q2 := HH.out W hW
              obtain ⟨z0, z1, z2, z3⟩ := q2
              have q3 := HY.out W hW
              obtain ⟨y0, y1, y2, y3⟩ := q3
              go_simp
              all_goals (try omega)
            clear hK K
            simp only [Act.put, aZ47, bZ47, cZ47]
            refine wpQuiet_step (fun K hK => ?_)
            rw [if_pos (by rfl)]
            refine ⟨.int .i64 x.2.2.1, fun W hW => quiet_ok ?_, hK _ ?_⟩
            · have q := HX.out W hW
              obtain ⟨⟨m0, m1, m2, m3⟩, _⟩ := q
              have q2 := HH.out W hW
              obtain ⟨z0, z1, z2, z3⟩ := q2
              have q3 := HY.out W hW
              obtain ⟨y0, y1, y2, y3⟩ := q3
              go_simp
              all_goals (try omega)
            clear hK K
            simp only [Act.put, aZ47, bZ47, cZ47]
            refine wpQuiet_step (fun K hK => ?_)
            rw [if_pos (by rfl)]
            refine ⟨.slice (some ⟨b, o, none⟩) L.length cap, fun W hW => quiet_ok ?_, hK _ ?_⟩
            · have q := HX.out W hW
              obtain ⟨⟨m0, m1, m2, m3⟩, _⟩ := q
              have q2 := HH.out W hW
              obtain ⟨z0, z1, z2, z3⟩ := q2
              have q3 := HY.out W hW
              obtain ⟨y0, y1, y2, y3⟩ := q3
              go_simp
              all_goals (try omega)
            clear hK K
            simp only [Act.put, aZ47, bZ47, cZ47]
            refine wpQuiet_step (fun K hK => ?_)
            rw [if_pos (by rfl)]
            refine ⟨.pointer (some ⟨b, o, none⟩), fun W hW => quiet_ok ?_, hK _ ?_⟩
            · have q := HX.out W hW
              obtain ⟨⟨m0, m1, m2, m3⟩, _⟩ := q
              have q2 := HH.out W hW
              obtain ⟨z0, z1, z2, z3⟩ := q2
              have q3 := HY.out W hW
              obtain ⟨y0, y1, y2, y3⟩ := q3
              go_simp
              all_goals (try omega)
            clear hK K
            simp only [Act.put, aZ47, bZ47, cZ47]
            refine wpQuiet_step (fun K hK => ?_)
            rw [if_pos (by rfl)]
            refine ⟨.pointer (some ⟨b, o + 2, none⟩), fun W hW => quiet_ok ?_, hK _ ?_⟩
            · have q := HX.out W hW
              obtain ⟨⟨m0, m1, m2, m3⟩, _⟩ := q
              have q2 := HH.out W hW
              obtain ⟨z0, z1, z2, z3⟩ := q2
              have q3 := HY.out W hW
              obtain ⟨y0, y1, y2, y3⟩ := q3
              go_simp
              all_goals (try omega)
            clear hK K
            simp only [Act.put, aZ47, bZ47, cZ47]
            refine wpQuiet_step (fun K hK => ?_)
            rw [if_pos (by rfl)]
            refine ⟨.int .i64 h.2.2.1, fun W hW => quiet_ok ?_, hK _ ?_⟩
            · have q := HX.out W hW
              obtain ⟨⟨m0, m1, m2, m3⟩, _⟩ := q
              have q2 := HH.out W hW
              obtain ⟨z0, z1, z2, z3⟩ := q2
              have q3 := HY.out W hW
              obtain ⟨y0, y1, y2, y3⟩ := q3
              go_simp
              all_goals (try omega)
            clear hK K
            simp only [Act.put, aZ47, bZ47, cZ47]
            refine wpQuiet_step (fun K hK => ?_)
            rw [if_pos (by rfl)]
            refine ⟨.bool false, fun W hW => quiet_ok ?_, hK _ ?_⟩
            · have q := HX.out W hW
              obtain ⟨⟨m0, m1, m2, m3⟩, _⟩ := q
              have q2 := HH.out W hW
              obtain ⟨z0, z1, z2, z3⟩ := q2
              have q3 := HY.out W hW
              obtain ⟨y0, y1, y2, y3⟩ := q3
              go_simp
              all_goals (try omega)
            clear hK K
            simp only [Act.put, aZ47, bZ47, cZ47]
            refine wpQuiet_step (fun K hK => ?_)
            rw [if_pos (by rfl)]
            refine ⟨.bool false, fun W hW => quiet_ok ?_, hK _ ?_⟩
            · have q := HX.out W hW
              obtain ⟨⟨m0, m1, m2, m3⟩, _⟩ := q
              have q2 := HH.out W hW
              obtain ⟨z0, z1, z2, z3⟩ := q2
              have q3 := HY.out W hW
              obtain ⟨y0, y1, y2, y3⟩ := q3
              go_simp
              all_goals (try omega)
            clear hK K
            simp only [Act.put, aZ47, bZ47, cZ47]
            refine wpQuiet_step (fun K hK => ?_)
            rw [if_pos (by rfl)]
            refine ⟨.bool false, fun W hW => quiet_ok ?_, hK _ ?_⟩
            · have q := HX.out W hW
              obtain ⟨⟨m0, m1, m2, m3⟩, _⟩ := q
              have q2 := HH.out W hW
              obtain ⟨z0, z1, z2, z3⟩ := q2
              have q3 := HY.out W hW
              obtain ⟨y0, y1, y2, y3⟩ := q3
              go_simp
              all_goals (try omega)
            clear hK K
            simp only [Act.put, aZ47, bZ47, cZ47]
            refine wpQuiet_step (fun K hK => ?_)
            rw [if_pos (by rfl)]
            refine ⟨.int .i64 (k : Int), fun W hW => quiet_ok ?_, hK _ ?_⟩
            · have q := HX.out W hW
              obtain ⟨⟨m0, m1, m2, m3⟩, _⟩ := q
              have q2 := HH.out W hW
              obtain ⟨z0, z1, z2, z3⟩ := q2
              have q3 := HY.out W hW
              obtain ⟨y0, y1, y2, y3⟩ := q3
              go_simp
              all_goals (try omega)
            clear hK K
            simp only [Act.put, aZ47, bZ47, cZ47]
            refine wpQuiet_step (fun K hK => ?_)
            rw [if_pos (by rfl)]
            refine ⟨.bool true, fun W hW => quiet_ok ?_, hK _ ?_⟩
            · have q := HX.out W hW
              obtain ⟨⟨m0, m1, m2, m3⟩, _⟩ := q
              have q2 := HH.out W hW
              obtain ⟨z0, z1, z2, z3⟩ := q2
              have q3 := HY.out W hW
              obtain ⟨y0, y1, y2, y3⟩ := q3
              go_simp
              all_goals (try omega)
            clear hK K
            simp only [Act.put, aZ47, bZ47, cZ47]
            refine wpQuiet_step (fun K hK => ?_)
            rw [if_pos (by rfl)]
            refine ⟨.bool true, fun W hW => quiet_ok ?_, hK _ ?_⟩
            · have q := HX.out W hW
              obtain ⟨⟨m0, m1, m2, m3⟩, _⟩ := q
              have q2 := HH.out W hW
              obtain ⟨z0, z1, z2, z3⟩ := q2
              have q3 := HY.out W hW
              obtain ⟨y0, y1, y2, y3⟩ := q3
              go_simp
              all_goals (try omega)
            clear hK K
            simp only [Act.put, aZ47, bZ47, cZ47]
            refine wpQuiet_step (fun K hK => ?_)
            rw [if_pos (by rfl)]
            refine ⟨.slice (some ⟨b, o, none⟩) L.length cap, fun W hW => quiet_ok ?_, hK _ ?_⟩
            · have q := HX.out W hW
              obtain ⟨⟨m0, m1, m2, m3⟩, _⟩ := q
              have q2 := HH.out W hW
              obtain ⟨z0, z1, z2, z3⟩ := q2
              have q3 := HY.out W hW
              obtain ⟨y0, y1, y2, y3⟩ := q3
              go_simp
              all_goals (try omega)
            clear hK K
            simp only [Act.put, aZ47, bZ47, cZ47]
            refine wpQuiet_step (fun K hK => ?_)
            rw [if_pos (by rfl)]
            refine ⟨.int .i64 (k : Int), fun W hW => quiet_ok ?_, hK _ ?_⟩
            · have q := HX.out W hW
              obtain ⟨⟨m0, m1, m2, m3⟩, _⟩ := q
              have q2 := HH.out W hW
              obtain ⟨z0, z1, z2, z3⟩ := q2
              have q3 := HY.out W hW
              obtain ⟨y0, y1, y2, y3⟩ := q3
              go_simp
              all_goals (try omega)
            clear hK K
            simp only [Act.put, aZ47, bZ47, cZ47]
            refine wpQuiet_step (fun K hK => ?_)
            rw [if_pos (by rfl)]
            refine ⟨.int .i64 (j : Int), fun W hW => quiet_ok ?_, hK _ ?_⟩
            · have q := HX.out W hW
              obtain ⟨⟨m0, m1, m2, m3⟩, _⟩ := q
              have q2 := HH.out W hW
              obtain ⟨z0, z1, z2, z3⟩ := q2
              have q3 := HY.out W hW
              obtain ⟨y0, y1, y2, y3⟩ := q3
              go_simp
              all_goals (try omega)
            clear hK K
            simp only [Act.put, aZ47, bZ47, cZ47]
            refine wpQuiet_step (fun K hK => ?_)
            rw [if_pos (by rfl)]
            refine ⟨.pointer (some ⟨b, o + j * 4, none⟩), fun W hW => quiet_ok ?_, hK _ ?_⟩
            · have q := HX.out W hW
              obtain ⟨⟨m0, m1, m2, m3⟩, _⟩ := q
              have q2 := HH.out W hW
              obtain ⟨z0, z1, z2, z3⟩ := q2
              have q3 := HY.out W hW
              obtain ⟨y0, y1, y2, y3⟩ := q3
              go_simp
              all_goals (try omega)
            clear hK K
            simp only [Act.put, aZ47, bZ47, cZ47]
            refine wpQuiet_step (fun K hK => ?_)
            rw [if_pos (by rfl)]
            refine ⟨.agg #[.string ⟨y.1.toArray⟩, .int .i64 y.2.1, .int .i64 y.2.2.1, .string ⟨y.2.2.2.toArray⟩], fun W hW => quiet_ok ?_, hK _ ?_⟩
            · have q := HX.out W hW
              obtain ⟨⟨m0, m1, m2, m3⟩, _⟩ := q
              have q2 := HH.out W hW
              obtain ⟨z0, z1, z2, z3⟩ := q2
              have q3 := HY.out W hW
              obtain ⟨y0, y1, y2, y3⟩ := q3
              go_simp
              all_goals (try omega)
            clear hK K
            simp only [Act.put, aZ47, bZ47, cZ47]
            refine wpQuiet_step (fun K hK => ?_)
            rw [if_pos (by rfl)]
            refine ⟨.agg #[.string ⟨x.1.toArray⟩, .int .i64 x.2.1, .int .i64 x.2.2.1, .string ⟨x.2.2.2.toArray⟩], fun W hW => quiet_ok ?_, hK _ ?_⟩
            · have q := HX.out W hW
              obtain ⟨⟨m0, m1, m2, m3⟩, _⟩ := q
              have q2 := HH.out W hW
              obtain ⟨z0, z1, z2, z3⟩ := q2
              have q3 := HY.out W hW
              obtain ⟨y0, y1, y2, y3⟩ := q3
              go_simp
              all_goals (try omega)
            clear hK K
            simp only [Act.put, aZ47, bZ47, cZ47]
            refine wpQuiet_step (fun K hK => ?_)
            rw [if_pos (by rfl)]
            refine ⟨.int .i64 c, fun W hW => quiet_call (f := 65) (args := #[.agg #[.string ⟨y.1.toArray⟩, .int .i64 y.2.1, .int .i64 y.2.2.1, .string ⟨y.2.2.2.toArray⟩], .agg #[.string ⟨x.1.toArray⟩, .int .i64 x.2.1, .int .i64 x.2.2.1, .string ⟨x.2.2.2.toArray⟩]]) ?_ ?_, hK _ ?_⟩
            · go_simp
            · exact (HCM.out W).mono fun e w'' h => ⟨h.1, HTR.out _ _ hW h.2⟩
            clear hK K
            simp only [Act.put, aZ47, bZ47, cZ47]
            refine wpQuiet_step (fun K hK => ?_)
            rw [if_pos (by rfl)]
            refine ⟨.bool false, fun W hW => quiet_ok ?_, hK _ ?_⟩
            · have q := HX.out W hW
              obtain ⟨⟨m0, m1, m2, m3⟩, _⟩ := q
              have q2 := HH.out W hW
              obtain ⟨z0, z1, z2, z3⟩ := q2
              have q3 := HY.out W hW
              obtain ⟨y0, y1, y2, y3⟩ := q3
              go_simp
              all_goals (try omega)
            clear hK K
            simp only [Act.put, aZ47, bZ47, cZ47]
            refine wpQuiet_step (fun K hK => ?_)
            rw [if_pos (by rfl)]
            refine ⟨.bool false, fun W hW => quiet_ok ?_, hK _ ?_⟩
            · have q := HX.out W hW
              obtain ⟨⟨m0, m1, m2, m3⟩, _⟩ := q
              have q2 := HH.out W hW
              obtain ⟨z0, z1, z2, z3⟩ := q2
              have q3 := HY.out W hW
              obtain ⟨y0, y1, y2, y3⟩ := q3
              go_simp
              all_goals (try omega)
            clear hK K
            simp only [Act.put, aZ47, bZ47, cZ47]
            refine wpQuiet_step (fun K hK => ?_)
            rw [if_pos (by rfl)]
            refine ⟨.bool false, fun W hW => quiet_ok ?_, hK _ ?_⟩
            · have q := HX.out W hW
              obtain ⟨⟨m0, m1, m2, m3⟩, _⟩ := q
              have q2 := HH.out W hW
              obtain ⟨z0, z1, z2, z3⟩ := q2
              have q3 := HY.out W hW
              obtain ⟨y0, y1, y2, y3⟩ := q3
              go_simp
              all_goals (try omega)
            clear hK K
            simp only [Act.put, aZ47, bZ47, cZ47]
            refine wpQuiet_nil ?_
            intro W hW
            have hbW := HBW.out W hW
            go_wp2_with fail
            go_roundw
            case rel => exact ⟨k + 1, by omega, by go_num, HU, hbW⟩
            case measure => simp [intOf]; omega
    · have HF : Hid (r = (decide ((1 : Int) ≤ (L.length : Int)) && decide ((L.length : Int) ≤ 12))) := HRR.out.trans (ansK_all HA.out hlt)
      obtain ⟨q, hq⟩ : ∃ q, q = (decide ((1 : Int) ≤ (L.length : Int)) && decide ((L.length : Int) ≤ 12)) := ⟨_, rfl⟩
      rw [← hq] at HIN HF
      clear hq
      go_wp2_with fail
      refine (HIN.out _).mono ?_
      rintro e w2 ⟨rfl, rfl⟩
      go_wp2_with fail
      go_ret
      exact ⟨ret_bool HF.out.symm, hb⟩
end Go.Proofs.YtgfiahfoghnpkaaGreatDoor
