import Derived.Test.YtdbbcepjdojdcaaGreatDoorZ24
import Derived.Test.YtdbbcepjdojdcaaGreatDoorZ12
import Derived.Test.YtdbbcepjdojdcaaGreatDoorZ14
import Derived.Test.YtdbbcepjdojdcaaGreatDoorZ13
import Derived.Test.YtdbbcepjdojdcaaGreatDoorZ27
import Derived.Test.YtdbbcepjdojdcaaGreatDoorZ34
import Derived.Test.YtdbbcepjdojdcaaGreatDoorZ07
import Derived.Test.YtdbbcepjdojdcaaGreatDoorZ15
import Derived.Deep.QuietTactic
namespace Go.Proofs.YtdbbcepjdojdcaaGreatDoor
open Go.RowKit

set_option maxRecDepth 20000 in
set_option maxHeartbeats 2000000 in
theorem indexR_any (v : Value) (L : List (List UInt8 × Int × Int × List UInt8)) (r : List UInt8 × Int × Int × List UInt8) (w : World) (hr : RRow w v L) :
    Calls Tryz.prog 98 #[v, .agg #[.string ⟨r.1.toArray⟩, .int .i64 r.2.1, .int .i64 r.2.2.1, .string ⟨r.2.2.2.toArray⟩]] w fun e w' => (∃ i : Int, e = .returned (.int .i64 i) ∧ decide (0 ≤ i) = hasR L r) ∧ Below w.heap.size w w' := by
  obtain ⟨a, cap, rfl, hcap, hmax, HROW⟩ := rrow_value hr
  clear hr
  obtain ⟨q, hq⟩ : ∃ q, q = hasR L r := ⟨_, rfl⟩
  have HQ : Hid (q = hasR L r) := hq
  rw [← hq]
  clear hq
  go_enter Tryz.func98, Tryz.ntmps98
  go_wp2_with fail
  have hk0 : (w.alloc (.cells #[.string ⟨r.1.toArray⟩, .int .i64 r.2.1, .int .i64 r.2.2.1, .string ⟨r.2.2.2.toArray⟩] 63)).heap[w.heap.size]? = some (.cells #[.string ⟨r.1.toArray⟩, .int .i64 r.2.1, .int .i64 r.2.2.1, .string ⟨r.2.2.2.toArray⟩] 63) := blk_new _ _
  have HB0 : Hid (Below w.heap.size w (w.alloc (.cells #[.string ⟨r.1.toArray⟩, .int .i64 r.2.1, .int .i64 r.2.2.1, .string ⟨r.2.2.2.toArray⟩] 63))) := (Below.refl _ _).alloc (Nat.le_refl _) _
  go_loopw [8] (fun i wr => ∃ k : Nat, k ≤ L.length ∧ i = .int .i64 (k : Int) ∧ Hid (∀ j, (hj : j < L.length) → j < k → L[j] ≠ r) ∧ Hid (wr.heap[w.heap.size]? = some (.cells #[.string ⟨r.1.toArray⟩, .int .i64 r.2.1, .int .i64 r.2.2.1, .string ⟨r.2.2.2.toArray⟩] 63)) ∧ Below w.heap.size w wr) (fun i _ => L.length - (intOf i).toNat)
  case atStart => exact ⟨0, Nat.zero_le _, rfl, fun j _ h => absurd h (Nat.not_lt_zero _), hk0, HB0.out⟩
  case round =>
    obtain ⟨k, hk, rfl, HA, HK, hb⟩ := hrel
    clear hk0 HB0
    by_cases hlt : k < L.length
    · obtain ⟨b, o, ha, hbl, hcel⟩ := HROW.out (by omega)
      rw [ha]
      have hcx := (hcel k hlt).kept hb
      have HHIT : Hid ((L[k]'hlt) = r → decide (0 ≤ (k : Int)) = q) := fun h => by rw [HQ.out, hasR_hit k hlt h]; simp
      have HUP : Hid ((L[k]'hlt) ≠ r → ∀ j, (hj : j < L.length) → j < k + 1 → L[j] ≠ r) := fun h j hj hj2 => by
        rcases Nat.lt_or_ge j k with h' | h'
        · exact HA.out j hj h'
        · obtain rfl : j = k := by omega
          exact h
      obtain ⟨x, hxe⟩ : ∃ x, x = L[k]'hlt := ⟨_, rfl⟩
      rw [← hxe] at hcx HHIT HUP
      clear hcel hxe
      have hz : w.heap.size < wr.heap.size := (Array.getElem?_eq_some_iff.1 HK.out).1
      have HX : Hid (∀ W, Below wr.heap.size wr W → (W.cell? ⟨b, o + k * 4, none⟩ = some (.string ⟨x.1.toArray⟩) ∧ W.cell? ⟨b, o + k * 4 + 1, none⟩ = some (.int .i64 x.2.1) ∧ W.cell? ⟨b, o + k * 4 + 2, none⟩ = some (.int .i64 x.2.2.1) ∧ W.cell? ⟨b, o + k * 4 + 3, none⟩ = some (.string ⟨x.2.2.2.toArray⟩)) ∧ (W.cell? ⟨w.heap.size, 0, none⟩ = some (.string ⟨r.1.toArray⟩) ∧ W.cell? ⟨w.heap.size, 1, none⟩ = some (.int .i64 r.2.1) ∧ W.cell? ⟨w.heap.size, 2, none⟩ = some (.int .i64 r.2.2.1) ∧ W.cell? ⟨w.heap.size, 3, none⟩ = some (.string ⟨r.2.2.2.toArray⟩))) := fun W hW => by
        have h1 := hcx.kept hW
        exact ⟨⟨h1.1, h1.2.1, h1.2.2.1, h1.2.2.2⟩, dif4 ((hW.block _ hz).trans HK.out)⟩
      have hbd : Below wr.heap.size wr wr.drew := (Below.refl _ _).drew
      have HW : Hid (∀ W, Below wr.heap.size wr W → Below w.heap.size w W ∧ W.heap[w.heap.size]? = some (.cells #[.string ⟨r.1.toArray⟩, .int .i64 r.2.1, .int .i64 r.2.2.1, .string ⟨r.2.2.2.toArray⟩] 63)) := fun W hW => ⟨hb.trans (hW.mono hb.size), (hW.block _ hz).trans HK.out⟩
      have hG := guard_rec
      obtain ⟨same, hsame⟩ : ∃ same, same = decide (r = x) := ⟨_, rfl⟩
      have HHIT2 : Hid (same = true → decide (0 ≤ (k : Int)) = q) := fun h => HHIT.out (by rw [hsame, decide_eq_true_eq] at h; exact h.symm)
      have HUP2 : Hid (same = false → ∀ j, (hj : j < L.length) → j < k + 1 → L[j] ≠ r) := fun h => HUP.out (by rw [hsame, decide_eq_false_iff_not] at h; exact fun e => h e.symm)
      have hE : ∀ W, (Op.equalIn 10000 63 (.agg #[.string ⟨r.1.toArray⟩, .int .i64 r.2.1, .int .i64 r.2.2.1, .string ⟨r.2.2.2.toArray⟩]) (.agg #[.string ⟨x.1.toArray⟩, .int .i64 x.2.1, .int .i64 x.2.2.1, .string ⟨x.2.2.2.toArray⟩])).run Tryz.prog W = .ok same W := fun W => by rw [eq_rec r x W, hsame]
      clear hcx HK HHIT HUP hsame hb
      go_wp2_with fail
      refine wp_region_quiet (C := fun W => Below wr.heap.size wr W) (by kernel_rfl) (by kernel_rfl) hbd ?_
      refine wpQuiet_step (fun K hK => ?_)
      rw [if_pos (by rfl)]
      refine ⟨.agg #[.string ⟨r.1.toArray⟩, .int .i64 r.2.1, .int .i64 r.2.2.1, .string ⟨r.2.2.2.toArray⟩], fun W hW => quiet_ok ?_, hK _ ?_⟩
      · have q := HX.out W hW
        obtain ⟨⟨m0, m1, m2, m3⟩, ⟨z0, z1, z2, z3⟩⟩ := q
        go_simp
        all_goals (try omega)
      clear hK K
      simp only [Act.put, List.setIfInBounds_toArray, List.set_cons_succ, List.set_cons_zero]
      refine wpQuiet_step (fun K hK => ?_)
      rw [if_pos (by rfl)]
      refine ⟨.slice (some ⟨b, o, none⟩) L.length cap, fun W hW => quiet_ok ?_, hK _ ?_⟩
      · have q := HX.out W hW
        obtain ⟨⟨m0, m1, m2, m3⟩, ⟨z0, z1, z2, z3⟩⟩ := q
        go_simp
        all_goals (try omega)
      clear hK K
      simp only [Act.put, List.setIfInBounds_toArray, List.set_cons_succ, List.set_cons_zero]
      refine wpQuiet_step (fun K hK => ?_)
      rw [if_pos (by rfl)]
      refine ⟨.int .i64 (k : Int), fun W hW => quiet_ok ?_, hK _ ?_⟩
      · have q := HX.out W hW
        obtain ⟨⟨m0, m1, m2, m3⟩, ⟨z0, z1, z2, z3⟩⟩ := q
        go_simp
        all_goals (try omega)
      clear hK K
      simp only [Act.put, List.setIfInBounds_toArray, List.set_cons_succ, List.set_cons_zero]
      refine wpQuiet_step (fun K hK => ?_)
      rw [if_pos (by rfl)]
      refine ⟨.pointer (some ⟨b, o + k * 4, none⟩), fun W hW => quiet_ok ?_, hK _ ?_⟩
      · have q := HX.out W hW
        obtain ⟨⟨m0, m1, m2, m3⟩, ⟨z0, z1, z2, z3⟩⟩ := q
        go_simp
        all_goals (try omega)
      clear hK K
      simp only [Act.put, List.setIfInBounds_toArray, List.set_cons_succ, List.set_cons_zero]
      refine wpQuiet_step (fun K hK => ?_)
      rw [if_pos (by rfl)]
      refine ⟨.agg #[.string ⟨x.1.toArray⟩, .int .i64 x.2.1, .int .i64 x.2.2.1, .string ⟨x.2.2.2.toArray⟩], fun W hW => quiet_ok ?_, hK _ ?_⟩
      · have q := HX.out W hW
        obtain ⟨⟨m0, m1, m2, m3⟩, ⟨z0, z1, z2, z3⟩⟩ := q
        go_simp
        all_goals (try omega)
      clear hK K
      simp only [Act.put, List.setIfInBounds_toArray, List.set_cons_succ, List.set_cons_zero]
      refine wpQuiet_step (fun K hK => ?_)
      rw [if_pos (by rfl)]
      refine ⟨.bool same, fun W hW => quiet_ok ?_, hK _ ?_⟩
      · have q := HX.out W hW
        obtain ⟨⟨m0, m1, m2, m3⟩, ⟨z0, z1, z2, z3⟩⟩ := q
        go_simp
        all_goals (try omega)
      clear hK K
      simp only [Act.put, List.setIfInBounds_toArray, List.set_cons_succ, List.set_cons_zero]
      refine wpQuiet_nil ?_
      intro W hW
      obtain ⟨hbW, hkW⟩ := HW.out W hW
      have HKW : Hid (W.heap[w.heap.size]? = some (.cells #[.string ⟨r.1.toArray⟩, .int .i64 r.2.1, .int .i64 r.2.2.1, .string ⟨r.2.2.2.toArray⟩] 63)) := hkW
      clear hkW
      cases same with
      | true =>
        have HF : Hid (decide (0 ≤ (k : Int)) = q) := HHIT2.out rfl
        go_wp2_with fail
        go_ret
        exact ⟨⟨(k : Int), rfl, HF.out⟩, hbW⟩
      | false =>
        have HU : Hid (∀ j, (hj : j < L.length) → j < k + 1 → L[j] ≠ r) := HUP2.out rfl
        go_wp2_with fail
        go_roundw
        case rel => exact ⟨k + 1, by omega, by go_num, HU, HKW, hbW⟩
        case measure => simp [intOf]; omega
    · have HF : Hid (q = false) := HQ.out.trans (hasR_none (fun j hj => HA.out j hj (by omega)))
      go_wp2_with fail
      go_ret
      exact ⟨⟨-1, rfl, by rw [HF.out]; rfl⟩, hb⟩

set_option maxRecDepth 20000 in
set_option maxHeartbeats 1000000 in
theorem containsR_any (v : Value) (L : List (List UInt8 × Int × Int × List UInt8)) (r : List UInt8 × Int × Int × List UInt8) (w : World) (hr : RRow w v L) :
    Calls Tryz.prog 70 #[v, .agg #[.string ⟨r.1.toArray⟩, .int .i64 r.2.1, .int .i64 r.2.2.1, .string ⟨r.2.2.2.toArray⟩]] w fun e w' => e = .returned (.bool (hasR L r)) ∧ Below w.heap.size w w' := by
  have HC : Hid (∀ W, Below w.heap.size w W → Calls Tryz.prog 98 #[v, .agg #[.string ⟨r.1.toArray⟩, .int .i64 r.2.1, .int .i64 r.2.2.1, .string ⟨r.2.2.2.toArray⟩]] W fun e w' => (∃ i : Int, e = .returned (.int .i64 i) ∧ decide (0 ≤ i) = hasR L r) ∧ Below W.heap.size W w') := fun W hW => indexR_any v L r W (hr.kept hW)
  obtain ⟨a, cap, rfl, hcap, hmax, _⟩ := rrow_value hr
  clear hr
  go_enter Tryz.func70, Tryz.ntmps70
  go_wp2_with fail
  refine (HC.out _ ((Below.refl w.heap.size w).alloc (Nat.le_refl _) _)).mono ?_
  rintro e w1 ⟨⟨i, rfl, hi⟩, hb1⟩
  have hbw : Below w.heap.size w w1 := ((Below.refl w.heap.size w).alloc (Nat.le_refl _) _).trans (hb1.mono (by simp))
  have HI : Hid (decide (0 ≤ i) = hasR L r) := hi
  clear hi hb1
  go_wp2_with fail
  go_ret
  exact ⟨ret_bool HI.out, hbw⟩

set_option maxRecDepth 20000 in
set_option maxHeartbeats 4000000 in
theorem recordsWithout_any (v vg : Value) (L G : List (List UInt8 × Int × Int × List UInt8)) (w : World) (hr : RRow w v L) (hg : RRow w vg G) (hl : L.length ≤ 1048576) :
    Calls Tryz.prog 37 #[v, vg] w fun e w' => (∃ u, e = .returned u ∧ OwnQ w' w.heap.size u (wthR L G)) ∧ Below w.heap.size w w' := by
  obtain ⟨a, cap, rfl, hcap, hmax, HROW⟩ := rrow_value hr
  have HCO : Hid (∀ (x : List UInt8 × Int × Int × List UInt8) W, Below w.heap.size w W → Calls Tryz.prog 70 #[vg, .agg #[.string ⟨x.1.toArray⟩, .int .i64 x.2.1, .int .i64 x.2.2.1, .string ⟨x.2.2.2.toArray⟩]] W fun e w' => e = .returned (.bool (hasR G x)) ∧ Below W.heap.size W w') := fun x W hW => containsR_any vg G x W (hg.kept hW)
  obtain ⟨ag, cg, rfl, hcg1, hcg, _⟩ := rrow_value hg
  clear hr hg
  have HO0 : Hid (w.ownsRow w.heap.size 63 4 (.slice none 0 0) (wthR (L.take 0) G).length (rcells (wthR (L.take 0) G))) := by
    have h : w.ownsRow w.heap.size 63 4 (.slice none 0 0) (wthR (L.take 0) G).length (rcells (wthR (L.take 0) G)) := by simpa [rcells, wthR] using World.ownsRow_nil _ _ _ _
    exact h
  go_enter Tryz.func37, Tryz.ntmps37
  go_wp2_with fail
  go_loopw [5, 10] (fun vv i wr => ∃ (k : Nat) (v : Value), k ≤ L.length ∧ i = .int .i64 (k : Int) ∧ v = vv ∧ Hid (wr.ownsRow w.heap.size 63 4 v (wthR (L.take k) G).length (rcells (wthR (L.take k) G))) ∧ Below w.heap.size w wr) (fun _ i _ => L.length - (intOf i).toNat)
  case atStart => exact ⟨0, _, Nat.zero_le _, rfl, rfl, HO0, Below.refl _ _⟩
  case round =>
    obtain ⟨k, v, hk, rfl, rfl, HO, hb⟩ := hrel
    clear HO0
    by_cases hlt : k < L.length
    · obtain ⟨b, o, ha, hbl, hcel⟩ := HROW.out (by omega)
      rw [ha]
      have hcx := (hcel k hlt).kept hb
      have HN : Hid (wthR (L.take (k + 1)) G = wthR (L.take k) G ++ (if hasR G (L[k]'hlt) then [] else [L[k]'hlt])) := wthR_take k hlt
      have hlen : Hid ((wthR (L.take k) G).length ≤ k) := Nat.le_trans (wthR_le _ _) (by rw [List.length_take]; omega)
      obtain ⟨x, hxe⟩ : ∃ x, x = L[k]'hlt := ⟨_, rfl⟩
      rw [← hxe] at hcx HN
      unfold RecAt at hcx
      obtain ⟨c0, c1, c2, c3⟩ := hcx
      have HCX : Hid (∀ W, Below w.heap.size w W → Calls Tryz.prog 70 #[.slice ag G.length cg, .agg #[.string ⟨x.1.toArray⟩, .int .i64 x.2.1, .int .i64 x.2.2.1, .string ⟨x.2.2.2.toArray⟩]] W fun e w' => e = .returned (.bool (hasR G x)) ∧ Below W.heap.size W w') := HCO.out x
      obtain ⟨P, hP⟩ : ∃ P, P = wthR (L.take k) G := ⟨_, rfl⟩
      rw [← hP] at HO HN hlen
      clear hcel hxe hP
      cases hh : hasR G x with
      | true =>
        rw [hh] at HCX HN
        have HN2 : Hid (wthR (L.take (k + 1)) G = P) := HN.out.trans (by simp)
        clear HN hh
        go_wp2_with fail
        refine (HCX.out _ (hb.alloc hb.size _)).mono ?_
        rintro e w1 ⟨rfl, hb1⟩
        have HO1 : Hid (w1.ownsRow w.heap.size 63 4 v (wthR (L.take (k + 1)) G).length (rcells (wthR (L.take (k + 1)) G))) := by rw [HN2.out]; exact own_below (HO.out.alloc _) hb1
        have hbw1 : Below w.heap.size w w1 := (hb.alloc hb.size _).trans (hb1.mono (hb.alloc hb.size _).size)
        clear c0 c1 c2 c3 hb1
        go_wp2_with fail
        go_roundw
        case rel => exact ⟨k + 1, v, by omega, by go_num, rfl, HO1, hbw1⟩
        case measure => simp [intOf]; omega
      | false =>
        rw [hh] at HCX HN
        have HN2 : Hid (wthR (L.take (k + 1)) G = P ++ [x]) := HN.out.trans (by simp)
        clear HN hh
        have HNB : Hid (v.ownBlock ≠ some wr.heap.size) := fun h => Nat.lt_irrefl _ (HO.out.lt _ h).2
        go_wp2_with fail
        refine (HCX.out _ (hb.alloc hb.size _)).mono ?_
        rintro e w1 ⟨rfl, hb1⟩
        have HO1 : Hid (w1.ownsRow w.heap.size 63 4 v P.length (rcells P)) := own_below (HO.out.alloc _) hb1
        have hbw1 : Below w.heap.size w w1 := (hb.alloc hb.size _).trans (hb1.mono (hb.alloc hb.size _).size)
        have HB1 : Hid (w1.heap[wr.heap.size]? = some (.cells #[.string ⟨x.1.toArray⟩, .int .i64 x.2.1, .int .i64 x.2.2.1, .string ⟨x.2.2.2.toArray⟩] 63)) := (hb1.block wr.heap.size (by simp)).trans (blk_new _ _)
        obtain ⟨d0, d1, d2, d3⟩ := rec4_cells HB1.out
        clear c0 c1 c2 c3 hb1
        go_wp2_with (first | (at_builtin; refine wpList_append_rows rfl (.tmp 18) (.tmp 20) 29 rfl Tryz.underlying29 w.heap.size v _ P rfl rfl ?b0 _ [x] rfl ?b1 ?b2 ?b3 ?b4 ?_))
        case b0 => exact HO1.out.alloc _
        case b1 => exact rrow_one _ x _ _ (by simp)
        case b2 => intro n c h; cases h
        case b3 => have h := hlen.out; simp; omega
        case b4 => simp; have := hbw1.size; omega
        intro v2 w4 hown hgrow
        have HO4 : Hid (w4.ownsRow w.heap.size 63 4 v2 (wthR (L.take (k + 1)) G).length (rcells (wthR (L.take (k + 1)) G))) := by
          have e : (P ++ [x]).length = P.length + 1 := by simp
          rw [HN2.out, e]; exact hown
        have hbw4 : Below w.heap.size w w4 := (hbw1.alloc hbw1.size _).grown hgrow (by simp; have := hbw1.size; omega) (fun j hj => (HO1.out.lt j hj).1)
        clear hown hgrow
        go_wp2_with fail
        go_roundw
        case rel => exact ⟨k + 1, v2, by omega, by go_num, rfl, HO4, hbw4⟩
        case measure => simp [intOf]; omega
    · have HOL : Hid (OwnQ wr w.heap.size v (wthR L G)) := by
        have h := HO.out
        rw [List.take_of_length_le (by omega)] at h
        exact own_q h
      go_wp2_with fail
      go_ret
      exact ⟨⟨_, rfl, HOL.out⟩, hb⟩

set_option maxRecDepth 20000 in
set_option maxHeartbeats 1000000 in
theorem holdsNone_any (va vu : Value) (A U : List (List UInt8 × Int × Int × List UInt8)) (w : World) (ha : RRow w va A) (hu : RRow w vu U) (hl : U.length ≤ 1048576) :
    Calls Tryz.prog 63 #[va, vu] w fun e w' => e = .returned (.bool (A.all (fun r => !hasR U r))) ∧ Below w.heap.size w w' := by
  have HC : Hid (Calls Tryz.prog 37 #[vu, va] w fun e w' => (∃ u, e = .returned u ∧ OwnQ w' w.heap.size u (wthR U A)) ∧ Below w.heap.size w w') := recordsWithout_any vu va U A w hu ha hl
  have HQ : Hid ((((wthR U A).length : Int) == (U.length : Int)) = A.all (fun r => !hasR U r)) := by
    have h : (((wthR U A).length : Int) == (U.length : Int)) = A.all (fun r => !hasR U r) := by
      rw [← wthR_all, Bool.eq_iff_iff, beq_iff_eq, beq_iff_eq]
      omega
    exact h
  obtain ⟨aa, ca, rfl, hca1, hca, _⟩ := rrow_value ha
  obtain ⟨au, cu, rfl, hcu1, hcu, _⟩ := rrow_value hu
  clear ha hu
  go_enter Tryz.func63, Tryz.ntmps63
  go_wp2_with fail
  refine HC.out.mono ?_
  rintro e w1 ⟨⟨u, rfl, ho⟩, hb1⟩
  obtain ⟨a1, c1, hu1, hc1⟩ := ho.shape
  subst hu1
  clear ho
  go_wp2_with fail
  go_ret
  exact ⟨ret_bool HQ.out, hb1⟩
end Go.Proofs.YtdbbcepjdojdcaaGreatDoor

namespace Go.Proofs.YtdbbcepjdojdcaaGreatDoor
open Go.RowKit

set_option maxRecDepth 20000 in
set_option maxHeartbeats 4000000 in
theorem iGoodDiff_any (f t : Int) (va vu : Value) (A U : List (List UInt8 × Int × Int × List UInt8)) (w : World) (ha : RRow w va A) (hu : RRow w vu U) (hxa : Hid (∀ x ∈ A, x.1.length ≤ 1048576 ∧ x.2.2.2.length ≤ 1048576)) (hxu : Hid (∀ x ∈ U, x.1.length ≤ 1048576 ∧ x.2.2.2.length ≤ 1048576)) (hE : EnvR w) :
    Calls Tryz.prog 34 #[DifV f t va vu] w fun e w' => e = .returned (.bool (difB f t A U)) ∧ Below w.heap.size w w' := by
  unfold DifV
  have HRA : Hid (∀ W, Below w.heap.size w W → RRow W va A) := fun W hW => ha.kept hW
  have HRU : Hid (∀ W, Below w.heap.size w W → RRow W vu U) := fun W hW => hu.kept hW
  obtain ⟨aa, ca, rfl, hca1, hca, _⟩ := rrow_value ha
  obtain ⟨au, cu, rfl, hcu1, hcu, _⟩ := rrow_value hu
  clear ha hu
  obtain ⟨W0, hW0⟩ : ∃ W0, W0 = w.alloc (.cells #[.int .i64 f, .int .i64 t, .slice aa A.length ca, .slice au U.length cu] 36) := ⟨_, rfl⟩
  have HW0 : Hid (w.alloc (.cells #[.int .i64 f, .int .i64 t, .slice aa A.length ca, .slice au U.length cu] 36) = W0) := hW0.symm
  have HX : Hid (∀ W, Below W0.heap.size W0 W → W.cell? ⟨w.heap.size, 0, none⟩ = some (.int .i64 f) ∧ W.cell? ⟨w.heap.size, 1, none⟩ = some (.int .i64 t) ∧ W.cell? ⟨w.heap.size, 2, none⟩ = some (.slice aa A.length ca) ∧ W.cell? ⟨w.heap.size, 3, none⟩ = some (.slice au U.length cu) ∧ Below w.heap.size w W) := fun W hW => by
    rw [hW0] at hW
    obtain ⟨h1, h2⟩ := dif_below hW
    obtain ⟨⟨c0, c1, c2, c3⟩, _⟩ := dif_cells h1
    exact ⟨c0, c1, c2, c3, h2⟩
  have HC : Hid (∀ n W, Calls Tryz.prog 59 #[.int .i64 n] W fun e w' => e = .returned (.bool (cntB n)) ∧ w' = W) := fun n W => isCounter_any n W
  have HC1 : Hid (∀ W, Calls Tryz.prog 59 #[.int .i64 f] W fun e w' => e = .returned (.bool (cntB f)) ∧ w' = W) := HC.out f
  have HC2 : Hid (∀ W, Calls Tryz.prog 59 #[.int .i64 t] W fun e w' => e = .returned (.bool (cntB t)) ∧ w' = W) := HC.out t
  have HL1 : Hid (∀ W, Below w.heap.size w W → Calls Tryz.prog 62 #[.slice aa A.length ca] W fun e w' => e = .returned (.bool (listB A)) ∧ Below W.heap.size W w') := fun W hW => areOfZone_any _ A W (HRA.out W hW) hxa (hE.below hW)
  have HL2 : Hid (∀ W, Below w.heap.size w W → Calls Tryz.prog 62 #[.slice au U.length cu] W fun e w' => e = .returned (.bool (listB U)) ∧ Below W.heap.size W w') := fun W hW => areOfZone_any _ U W (HRU.out W hW) hxu (hE.below hW)
  have HN : Hid (U.length ≤ 1048576 → ∀ W, Below w.heap.size w W → Calls Tryz.prog 63 #[.slice aa A.length ca, .slice au U.length cu] W fun e w' => e = .returned (.bool (A.all (fun r => !hasR U r))) ∧ Below W.heap.size W w') := fun hl W hW => holdsNone_any _ _ A U W (HRA.out W hW) (HRU.out W hW) hl
  have HD : Hid (difB f t A U = (cntB f && cntB t && !(f == t) && listB A && listB U && A.all (fun r => !hasR U r))) := rfl
  obtain ⟨q, hq⟩ : ∃ q, q = difB f t A U := ⟨_, rfl⟩
  rw [← hq] at HD ⊢
  clear hq hW0 HC
  have hb0 : Below W0.heap.size W0 W0 := Below.refl _ _
  cases k1 : cntB f with
  | false =>
    have HF : Hid (q = false) := HD.out.trans (by rw [k1]; rfl)
    rw [k1] at HC1
    clear HD k1
    go_enter Tryz.func34, Tryz.ntmps34
    go_wp2_with fail
    rw [HW0.out]
    refine (HC1.out _).mono ?_
    rintro e w1 ⟨rfl, hw1⟩
    rw [hw1]
    clear hw1 w1
    have hbw := (HX.out _ hb0).2.2.2.2
    go_wp2_with fail
    go_ret
    exact ⟨ret_bool HF.out.symm, hbw⟩
  | true =>
  rw [k1] at HC1
  cases k2 : cntB t with
  | false =>
    have HF : Hid (q = false) := HD.out.trans (by rw [k2]; simp)
    rw [k2] at HC2
    clear HD k1 k2
    go_enter Tryz.func34, Tryz.ntmps34
    go_wp2_with fail
    rw [HW0.out]
    refine (HC1.out _).mono ?_
    rintro e w1 ⟨rfl, hw1⟩
    rw [hw1]
    clear hw1 w1
    obtain ⟨c0, c1, c2, c3, hbw⟩ := HX.out _ hb0
    go_wp2_with fail
    refine (HC2.out _).mono ?_
    rintro e w1 ⟨rfl, hw1⟩
    rw [hw1]
    clear hw1 w1
    go_wp2_with fail
    go_ret
    exact ⟨ret_bool HF.out.symm, hbw⟩
  | true =>
  rw [k2] at HC2
  by_cases k3 : f = t
  · have HF : Hid (q = false) := HD.out.trans (by rw [show (f == t) = true by simpa using k3]; simp)
    have e1 : (f == t) = true := by simpa using k3
    clear HD k1 k2 k3
    go_enter Tryz.func34, Tryz.ntmps34
    go_wp2_with fail
    rw [HW0.out]
    refine (HC1.out _).mono ?_
    rintro e w1 ⟨rfl, hw1⟩
    rw [hw1]
    clear hw1 w1
    obtain ⟨c0, c1, c2, c3, hbw⟩ := HX.out _ hb0
    go_wp2_with fail
    refine (HC2.out _).mono ?_
    rintro e w1 ⟨rfl, hw1⟩
    rw [hw1]
    clear hw1 w1
    go_wp2_with fail
    go_ret
    exact ⟨ret_bool HF.out.symm, hbw⟩
  have e1 : (f == t) = false := by simpa using k3
  have HE1 : Hid ((f == t) = false) := e1
  cases k4 : listB A with
  | false =>
    have HF : Hid (q = false) := HD.out.trans (by rw [k4]; simp)
    rw [k4] at HL1
    clear HD k1 k2 k3 k4
    go_enter Tryz.func34, Tryz.ntmps34
    go_wp2_with fail
    rw [HW0.out]
    refine (HC1.out _).mono ?_
    rintro e w1 ⟨rfl, hw1⟩
    rw [hw1]
    clear hw1 w1
    obtain ⟨c0, c1, c2, c3, hbw⟩ := HX.out _ hb0
    go_wp2_with fail
    refine (HC2.out _).mono ?_
    rintro e w1 ⟨rfl, hw1⟩
    rw [hw1]
    clear hw1 w1
    go_wp2_with fail
    refine (HL1.out _ hbw).mono ?_
    rintro e w2 ⟨rfl, hb2⟩
    have hbw2 := hbw.trans (hb2.mono hbw.size)
    go_wp2_with fail
    go_ret
    exact ⟨ret_bool HF.out.symm, hbw2⟩
  | true =>
  rw [k4] at HL1
  cases k5 : listB U with
  | false =>
    have HF : Hid (q = false) := HD.out.trans (by rw [k5]; simp)
    rw [k5] at HL2
    clear HD k1 k2 k3 k4 k5
    go_enter Tryz.func34, Tryz.ntmps34
    go_wp2_with fail
    rw [HW0.out]
    refine (HC1.out _).mono ?_
    rintro e w1 ⟨rfl, hw1⟩
    rw [hw1]
    clear hw1 w1
    obtain ⟨c0, c1, c2, c3, hbw⟩ := HX.out _ hb0
    go_wp2_with fail
    refine (HC2.out _).mono ?_
    rintro e w1 ⟨rfl, hw1⟩
    rw [hw1]
    clear hw1 w1
    go_wp2_with fail
    refine (HL1.out _ hbw).mono ?_
    rintro e w2 ⟨rfl, hb2⟩
    have hb02 : Below W0.heap.size W0 w2 := hb2
    clear c0 c1 c2 c3 hbw
    obtain ⟨c0, c1, c2, c3, hbw2⟩ := HX.out _ hb02
    go_wp2_with fail
    refine (HL2.out _ hbw2).mono ?_
    rintro e w3 ⟨rfl, hb3⟩
    have hbw3 := hbw2.trans (hb3.mono hbw2.size)
    go_wp2_with fail
    go_ret
    exact ⟨ret_bool HF.out.symm, hbw3⟩
  | true =>
  rw [k5] at HL2
  have HQ : Hid (q = A.all (fun r => !hasR U r)) := HD.out.trans (by rw [k1, k2, e1, k4, k5]; rfl)
  have hU : U.length ≤ 1048576 := by
    unfold listB at k5
    simp only [Bool.and_eq_true, decide_eq_true_eq] at k5
    omega
  have HN2 := HN.out hU
  have HNN : Hid (∀ W, Below w.heap.size w W → Calls Tryz.prog 63 #[.slice aa A.length ca, .slice au U.length cu] W fun e w' => e = .returned (.bool (A.all (fun r => !hasR U r))) ∧ Below W.heap.size W w') := HN2
  clear HD k1 k2 k3 k4 k5 HN HN2
  go_enter Tryz.func34, Tryz.ntmps34
  go_wp2_with fail
  rw [HW0.out]
  refine (HC1.out _).mono ?_
  rintro e w1 ⟨rfl, hw1⟩
  rw [hw1]
  clear hw1 w1
  obtain ⟨c0, c1, c2, c3, hbw⟩ := HX.out _ hb0
  go_wp2_with fail
  refine (HC2.out _).mono ?_
  rintro e w1 ⟨rfl, hw1⟩
  rw [hw1]
  clear hw1 w1
  go_wp2_with fail
  refine (HL1.out _ hbw).mono ?_
  rintro e w2 ⟨rfl, hb2⟩
  have hb02 : Below W0.heap.size W0 w2 := hb2
  clear c0 c1 c2 c3 hbw
  obtain ⟨c0, c1, c2, c3, hbw2⟩ := HX.out _ hb02
  go_wp2_with fail
  refine (HL2.out _ hbw2).mono ?_
  rintro e w3 ⟨rfl, hb3⟩
  have hb03 := hb02.trans (hb3.mono hb02.size)
  clear c0 c1 c2 c3 hbw2 hb2 hb3 hb02
  obtain ⟨c0, c1, c2, c3, hbw3⟩ := HX.out _ hb03
  go_wp2_with fail
  refine (HNN.out _ hbw3).mono ?_
  rintro e w4 ⟨rfl, hb4⟩
  have hbw4 := hbw3.trans (hb4.mono hbw3.size)
  clear c0 c1 c2 c3
  go_wp2_with fail
  go_ret
  exact ⟨ret_bool HQ.out.symm, hbw4⟩
end Go.Proofs.YtdbbcepjdojdcaaGreatDoor
