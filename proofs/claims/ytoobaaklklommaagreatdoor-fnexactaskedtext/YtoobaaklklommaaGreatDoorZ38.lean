import Derived.Test.YtoobaaklklommaaGreatDoorZ30
import Derived.Test.YtoobaaklklommaaGreatDoorZ32
import Derived.BigQuiet
import Derived.Deep.QuietTactic
namespace Go.Proofs.YtoobaaklklommaaGreatDoor
open Go.RowKit

theorem rec_pair {w : World} {b o k : Nat} {L : List (List UInt8 × Int × Int × List UInt8)} (hcel : ∀ j, (hj : j < L.length) → RecAt w b (o + j * 4) L[j]) (hk : k + 1 < L.length) {x y : (List UInt8 × Int × Int × List UInt8)} (hx : x = L[k]'(by omega)) (hy : y = L[k + 1]) :
    RecAt w b (o + k * 4) x ∧ RecAt w b (o + (k + 1) * 4) y := ⟨by rw [hx]; exact hcel k (by omega), by rw [hy]; exact hcel (k + 1) hk⟩
theorem ttl_on {xn yn xd yd : List UInt8} {xt yt xl yl : Int} (h1 : xn = yn) (h2 : xt = yt) : ttlP (xn, xt, xl, xd) (yn, yt, yl, yd) = (xl == yl) := by
  unfold ttlP; simp [h1, h2]
theorem ttl_off {xn yn xd yd : List UInt8} {xt yt xl yl : Int} (h : ¬ (xn = yn ∧ xt = yt)) : ttlP (xn, xt, xl, xd) (yn, yt, yl, yd) = true := by
  unfold ttlP
  by_cases h1 : xn = yn
  · have h2 : ¬ xt = yt := fun e => h ⟨h1, e⟩
    simp [h1, h2]
  · simp [h1]
theorem own_on {xn yn : List UInt8} {xt yt : Int} (h1 : xn = yn) (h2 : xt = yt) : true = (xn == yn && xt == yt) := by simp [h1, h2]
theorem own_off {xn yn : List UInt8} {xt yt : Int} (h : ¬ (xn = yn ∧ xt = yt)) : false = (xn == yn && xt == yt) := by
  by_cases h1 : xn = yn
  · have h2 : ¬ xt = yt := fun e => h ⟨h1, e⟩
    simp [h1, h2]
  · simp [h1]
theorem own_if {xn yn : List UInt8} {xt yt : Int} {same : Bool} {β : Type} (f : Bool → β) (h : same = (xn == yn && xt == yt)) : (if xn = yn then if xt = yt then f true else f false else f false) = f same := by
  rw [h]
  by_cases h1 : xn = yn
  · by_cases h2 : xt = yt
    · rw [if_pos h1, if_pos h2, h1, h2]; simp
    · rw [if_pos h1, if_neg h2, h1, show (xt == yt) = false by simpa using h2]; simp
  · rw [if_neg h1, show (xn == yn) = false by simpa using h1]; simp

set_option maxRecDepth 20000 in
set_option maxHeartbeats 8000000 in
theorem oneTtl_any (v : Value) (L : List (List UInt8 × Int × Int × List UInt8)) (w : World) (hr : RRow w v L) :
    Calls Tryz.prog 160 #[v] w fun e w' => e = .returned (.bool (adjB ttlP L)) ∧ Below w.heap.size w w' := by
  obtain ⟨a, cap, rfl, hcap, hmax, hrow⟩ := hr
  have HROW : Hid (L = [] ∨ ∃ b o, a = some ⟨b, o, none⟩ ∧ b < w.heap.size ∧ ∀ j, (hj : j < L.length) → RecAt w b (o + j * 4) L[j]) := hrow
  have HOW : Hid (∀ (x : (List UInt8 × Int × Int × List UInt8)) W, Calls Tryz.prog 191 #[.agg #[.string ⟨x.1.toArray⟩, .int .i64 x.2.1, .int .i64 x.2.2.1, .string ⟨x.2.2.2.toArray⟩]] W fun e w' => e = .returned (.agg #[.string ⟨x.1.toArray⟩, .int .i64 x.2.1]) ∧ Below W.heap.size W w') := fun x W => ownerOf_any ⟨x.1.toArray⟩ ⟨x.2.2.2.toArray⟩ x.2.1 x.2.2.1 W
  unfold maxLen at hmax
  clear hrow
  go_enter Tryz.func160, Tryz.ntmps160
  go_wp2_with fail
  go_loopw [3] (fun i wr => ∃ k : Nat, (k = 0 ∨ k < L.length) ∧ i = .int .i64 ((k : Int) + 1) ∧ Hid (∀ j, (hj : j + 1 < L.length) → j < k → ttlP (L[j]'(by omega)) L[j + 1] = true) ∧ Below w.heap.size w wr) (fun i _ => L.length + 1 - (intOf i).toNat)
  case atStart => exact ⟨0, .inl rfl, rfl, fun j _ h => absurd h (Nat.not_lt_zero _), Below.refl _ _⟩
  case round =>
    obtain ⟨k, hk, rfl, HA, hb⟩ := hrel
    by_cases hlt : k + 1 < L.length
    · rcases HROW.out with hr | ⟨b, o, ha, hbl, hcel⟩
      · rw [hr] at hlt; simp at hlt
      · rw [ha]
        have HBAD : Hid (ttlP (L[k]'(by omega)) (L[k + 1]'hlt) = false → adjB ttlP L = false) := adj_bad k hlt
        have HOK : Hid (ttlP (L[k]'(by omega)) (L[k + 1]'hlt) = true → ∀ j, (hj : j + 1 < L.length) → j < k + 1 → ttlP (L[j]'(by omega)) L[j + 1] = true) := fun h j hj h1 => by
          rcases Nat.lt_or_ge j k with h' | h'
          · exact HA.out j hj h'
          · obtain rfl : j = k := by omega
            exact h
        obtain ⟨x, hxe⟩ : ∃ x, x = L[k]'(by omega) := ⟨_, rfl⟩
        obtain ⟨y, hye⟩ : ∃ y, y = L[k + 1]'hlt := ⟨_, rfl⟩
        have HM := rec_pair (fun j hj => (hcel j hj).kept hb) hlt hxe hye
        rw [← hxe, ← hye] at HBAD HOK
        clear hcel hxe hye
        have HOX0 := HOW.out x
        have HOY0 := HOW.out y
        obtain ⟨xn, xt, xl, xd⟩ := x
        obtain ⟨yn, yt, yl, yd⟩ := y
        have HOX : Hid (∀ W, Calls Tryz.prog 191 #[.agg #[.string ⟨xn.toArray⟩, .int .i64 xt, .int .i64 xl, .string ⟨xd.toArray⟩]] W fun e w' => e = .returned (.agg #[.string ⟨xn.toArray⟩, .int .i64 xt]) ∧ Below W.heap.size W w') := HOX0
        have HOY : Hid (∀ W, Calls Tryz.prog 191 #[.agg #[.string ⟨yn.toArray⟩, .int .i64 yt, .int .i64 yl, .string ⟨yd.toArray⟩]] W fun e w' => e = .returned (.agg #[.string ⟨yn.toArray⟩, .int .i64 yt]) ∧ Below W.heap.size W w') := HOY0
        have HX : Hid (∀ W, Below wr.heap.size wr W → (W.cell? ⟨b, o + k * 4, none⟩ = some (.string ⟨xn.toArray⟩) ∧ W.cell? ⟨b, o + k * 4 + 1, none⟩ = some (.int .i64 xt) ∧ W.cell? ⟨b, o + k * 4 + 2, none⟩ = some (.int .i64 xl) ∧ W.cell? ⟨b, o + k * 4 + 3, none⟩ = some (.string ⟨xd.toArray⟩)) ∧ (W.cell? ⟨b, o + (k + 1) * 4, none⟩ = some (.string ⟨yn.toArray⟩) ∧ W.cell? ⟨b, o + (k + 1) * 4 + 1, none⟩ = some (.int .i64 yt) ∧ W.cell? ⟨b, o + (k + 1) * 4 + 2, none⟩ = some (.int .i64 yl) ∧ W.cell? ⟨b, o + (k + 1) * 4 + 3, none⟩ = some (.string ⟨yd.toArray⟩)) ∧ Below w.heap.size w W) := fun W hW => by
          have h1 := HM.1.kept hW
          have h2 := HM.2.kept hW
          exact ⟨⟨h1.1, h1.2.1, h1.2.2.1, h1.2.2.2⟩, ⟨h2.1, h2.2.1, h2.2.2.1, h2.2.2.2⟩, hb.trans (hW.mono hb.size)⟩
        have HTR : Hid (∀ W W', Below wr.heap.size wr W → Below W.heap.size W W' → Below wr.heap.size wr W') := fun W W' h1 h2 => h1.trans (h2.mono h1.size)
        have hbd : Below wr.heap.size wr wr.drew := (Below.refl _ _).drew
        have e1 : ((k : Int) + 1).toNat = k + 1 := by omega
        have wk : IntKind.i64.wrap (k : Int) = (k : Int) := wrap_small _ (by omega) (by omega)
        have hk1 : (k : Int) + 1 < (L.length : Int) := by omega
        clear HM HOX0 HOY0
        by_cases hs : xn = yn ∧ xt = yt
        · have HT2 : Hid (ttlP (xn, xt, xl, xd) (yn, yt, yl, yd) = (xl == yl)) := ttl_on hs.1 hs.2
          have HE : Hid (true = (xn == yn && xt == yt)) := own_on hs.1 hs.2
          clear hs
          go_wp2_with fail
          refine wp_region_quiet (C := fun W => Below wr.heap.size wr W) (by kernel_rfl) (by kernel_rfl) hbd ?_
          refine wpQuiet_step (fun K hK => ?_)
          rw [if_pos (by rfl)]
          refine ⟨.slice (some ⟨b, o, none⟩) L.length cap, fun W hW => quiet_ok ?_, hK _ ?_⟩
          · have q := HX.out W hW
            obtain ⟨⟨m0, m1, m2, m3⟩, ⟨z0, z1, z2, z3⟩, _⟩ := q
            go_simp
            all_goals (try omega)
          clear hK K
          simp only [Act.put, List.setIfInBounds_toArray, List.set_cons_succ, List.set_cons_zero]
          refine wpQuiet_step (fun K hK => ?_)
          rw [if_pos (by rfl)]
          refine ⟨.int .i64 ((k : Int) + 1), fun W hW => quiet_ok ?_, hK _ ?_⟩
          · have q := HX.out W hW
            obtain ⟨⟨m0, m1, m2, m3⟩, ⟨z0, z1, z2, z3⟩, _⟩ := q
            go_simp
            all_goals (try omega)
          clear hK K
          simp only [Act.put, List.setIfInBounds_toArray, List.set_cons_succ, List.set_cons_zero]
          refine wpQuiet_step (fun K hK => ?_)
          rw [if_pos (by rfl)]
          refine ⟨.int .i64 (k : Int), fun W hW => quiet_ok ?_, hK _ ?_⟩
          · have q := HX.out W hW
            obtain ⟨⟨m0, m1, m2, m3⟩, ⟨z0, z1, z2, z3⟩, _⟩ := q
            go_simp
            all_goals (try omega)
          clear hK K
          simp only [Act.put, List.setIfInBounds_toArray, List.set_cons_succ, List.set_cons_zero]
          refine wpQuiet_step (fun K hK => ?_)
          rw [if_pos (by rfl)]
          refine ⟨.pointer (some ⟨b, o + k * 4, none⟩), fun W hW => quiet_ok ?_, hK _ ?_⟩
          · have q := HX.out W hW
            obtain ⟨⟨m0, m1, m2, m3⟩, ⟨z0, z1, z2, z3⟩, _⟩ := q
            go_simp
            all_goals (try omega)
          clear hK K
          simp only [Act.put, List.setIfInBounds_toArray, List.set_cons_succ, List.set_cons_zero]
          refine wpQuiet_step (fun K hK => ?_)
          rw [if_pos (by rfl)]
          refine ⟨.agg #[.string ⟨xn.toArray⟩, .int .i64 xt, .int .i64 xl, .string ⟨xd.toArray⟩], fun W hW => quiet_ok ?_, hK _ ?_⟩
          · have q := HX.out W hW
            obtain ⟨⟨m0, m1, m2, m3⟩, ⟨z0, z1, z2, z3⟩, _⟩ := q
            go_simp
            all_goals (try omega)
          clear hK K
          simp only [Act.put, List.setIfInBounds_toArray, List.set_cons_succ, List.set_cons_zero]
          refine wpQuiet_step (fun K hK => ?_)
          rw [if_pos (by rfl)]
          refine ⟨.agg #[.string ⟨xn.toArray⟩, .int .i64 xt], fun W hW => quiet_call (f := 191) (args := #[.agg #[.string ⟨xn.toArray⟩, .int .i64 xt, .int .i64 xl, .string ⟨xd.toArray⟩]]) ?_ ?_, hK _ ?_⟩
          · go_simp
          · exact (HOX.out W).mono fun e w'' h => ⟨h.1, HTR.out _ _ hW h.2⟩
          clear hK K
          simp only [Act.put, List.setIfInBounds_toArray, List.set_cons_succ, List.set_cons_zero]
          refine wpQuiet_step (fun K hK => ?_)
          rw [if_pos (by rfl)]
          refine ⟨.slice (some ⟨b, o, none⟩) L.length cap, fun W hW => quiet_ok ?_, hK _ ?_⟩
          · have q := HX.out W hW
            obtain ⟨⟨m0, m1, m2, m3⟩, ⟨z0, z1, z2, z3⟩, _⟩ := q
            go_simp
            all_goals (try omega)
          clear hK K
          simp only [Act.put, List.setIfInBounds_toArray, List.set_cons_succ, List.set_cons_zero]
          refine wpQuiet_step (fun K hK => ?_)
          rw [if_pos (by rfl)]
          refine ⟨.int .i64 ((k : Int) + 1), fun W hW => quiet_ok ?_, hK _ ?_⟩
          · have q := HX.out W hW
            obtain ⟨⟨m0, m1, m2, m3⟩, ⟨z0, z1, z2, z3⟩, _⟩ := q
            go_simp
            all_goals (try omega)
          clear hK K
          simp only [Act.put, List.setIfInBounds_toArray, List.set_cons_succ, List.set_cons_zero]
          refine wpQuiet_step (fun K hK => ?_)
          rw [if_pos (by rfl)]
          refine ⟨.pointer (some ⟨b, o + (k + 1) * 4, none⟩), fun W hW => quiet_ok ?_, hK _ ?_⟩
          · have q := HX.out W hW
            obtain ⟨⟨m0, m1, m2, m3⟩, ⟨z0, z1, z2, z3⟩, _⟩ := q
            go_simp
            all_goals (try omega)
          clear hK K
          simp only [Act.put, List.setIfInBounds_toArray, List.set_cons_succ, List.set_cons_zero]
          refine wpQuiet_step (fun K hK => ?_)
          rw [if_pos (by rfl)]
          refine ⟨.agg #[.string ⟨yn.toArray⟩, .int .i64 yt, .int .i64 yl, .string ⟨yd.toArray⟩], fun W hW => quiet_ok ?_, hK _ ?_⟩
          · have q := HX.out W hW
            obtain ⟨⟨m0, m1, m2, m3⟩, ⟨z0, z1, z2, z3⟩, _⟩ := q
            go_simp
            all_goals (try omega)
          clear hK K
          simp only [Act.put, List.setIfInBounds_toArray, List.set_cons_succ, List.set_cons_zero]
          refine wpQuiet_step (fun K hK => ?_)
          rw [if_pos (by rfl)]
          refine ⟨.agg #[.string ⟨yn.toArray⟩, .int .i64 yt], fun W hW => quiet_call (f := 191) (args := #[.agg #[.string ⟨yn.toArray⟩, .int .i64 yt, .int .i64 yl, .string ⟨yd.toArray⟩]]) ?_ ?_, hK _ ?_⟩
          · go_simp
          · exact (HOY.out W).mono fun e w'' h => ⟨h.1, HTR.out _ _ hW h.2⟩
          clear hK K
          simp only [Act.put, List.setIfInBounds_toArray, List.set_cons_succ, List.set_cons_zero]
          refine wpQuiet_step (fun K hK => ?_)
          rw [if_pos (by rfl)]
          refine ⟨.bool true, fun W hW => quiet_ok ?_, hK _ ?_⟩
          · go_simp
            exact own_if (fun b => Result.ok (Next.value (Value.bool b)) W) HE.out
          clear hK K
          simp only [Act.put, List.setIfInBounds_toArray, List.set_cons_succ, List.set_cons_zero]
          refine wpQuiet_step (fun K hK => ?_)
          rw [if_pos (by rfl)]
          refine ⟨.bool true, fun W hW => quiet_ok ?_, hK _ ?_⟩
          · have q := HX.out W hW
            obtain ⟨⟨m0, m1, m2, m3⟩, ⟨z0, z1, z2, z3⟩, _⟩ := q
            go_simp
            all_goals (try omega)
          clear hK K
          simp only [Act.put, List.setIfInBounds_toArray, List.set_cons_succ, List.set_cons_zero]
          refine wpQuiet_step (fun K hK => ?_)
          rw [if_pos (by rfl)]
          refine ⟨.slice (some ⟨b, o, none⟩) L.length cap, fun W hW => quiet_ok ?_, hK _ ?_⟩
          · have q := HX.out W hW
            obtain ⟨⟨m0, m1, m2, m3⟩, ⟨z0, z1, z2, z3⟩, _⟩ := q
            go_simp
            all_goals (try omega)
          clear hK K
          simp only [Act.put, List.setIfInBounds_toArray, List.set_cons_succ, List.set_cons_zero]
          refine wpQuiet_step (fun K hK => ?_)
          rw [if_pos (by rfl)]
          refine ⟨.int .i64 ((k : Int) + 1), fun W hW => quiet_ok ?_, hK _ ?_⟩
          · have q := HX.out W hW
            obtain ⟨⟨m0, m1, m2, m3⟩, ⟨z0, z1, z2, z3⟩, _⟩ := q
            go_simp
            all_goals (try omega)
          clear hK K
          simp only [Act.put, List.setIfInBounds_toArray, List.set_cons_succ, List.set_cons_zero]
          refine wpQuiet_step (fun K hK => ?_)
          rw [if_pos (by rfl)]
          refine ⟨.int .i64 (k : Int), fun W hW => quiet_ok ?_, hK _ ?_⟩
          · have q := HX.out W hW
            obtain ⟨⟨m0, m1, m2, m3⟩, ⟨z0, z1, z2, z3⟩, _⟩ := q
            go_simp
            all_goals (try omega)
          clear hK K
          simp only [Act.put, List.setIfInBounds_toArray, List.set_cons_succ, List.set_cons_zero]
          refine wpQuiet_step (fun K hK => ?_)
          rw [if_pos (by rfl)]
          refine ⟨.pointer (some ⟨b, o + k * 4, none⟩), fun W hW => quiet_ok ?_, hK _ ?_⟩
          · have q := HX.out W hW
            obtain ⟨⟨m0, m1, m2, m3⟩, ⟨z0, z1, z2, z3⟩, _⟩ := q
            go_simp
            all_goals (try omega)
          clear hK K
          simp only [Act.put, List.setIfInBounds_toArray, List.set_cons_succ, List.set_cons_zero]
          refine wpQuiet_step (fun K hK => ?_)
          rw [if_pos (by rfl)]
          refine ⟨.pointer (some ⟨b, o + k * 4 + 2, none⟩), fun W hW => quiet_ok ?_, hK _ ?_⟩
          · have q := HX.out W hW
            obtain ⟨⟨m0, m1, m2, m3⟩, ⟨z0, z1, z2, z3⟩, _⟩ := q
            go_simp
            all_goals (try omega)
          clear hK K
          simp only [Act.put, List.setIfInBounds_toArray, List.set_cons_succ, List.set_cons_zero]
          refine wpQuiet_step (fun K hK => ?_)
          rw [if_pos (by rfl)]
          refine ⟨.int .i64 xl, fun W hW => quiet_ok ?_, hK _ ?_⟩
          · have q := HX.out W hW
            obtain ⟨⟨m0, m1, m2, m3⟩, ⟨z0, z1, z2, z3⟩, _⟩ := q
            go_simp
            all_goals (try omega)
          clear hK K
          simp only [Act.put, List.setIfInBounds_toArray, List.set_cons_succ, List.set_cons_zero]
          refine wpQuiet_step (fun K hK => ?_)
          rw [if_pos (by rfl)]
          refine ⟨.slice (some ⟨b, o, none⟩) L.length cap, fun W hW => quiet_ok ?_, hK _ ?_⟩
          · have q := HX.out W hW
            obtain ⟨⟨m0, m1, m2, m3⟩, ⟨z0, z1, z2, z3⟩, _⟩ := q
            go_simp
            all_goals (try omega)
          clear hK K
          simp only [Act.put, List.setIfInBounds_toArray, List.set_cons_succ, List.set_cons_zero]
          refine wpQuiet_step (fun K hK => ?_)
          rw [if_pos (by rfl)]
          refine ⟨.int .i64 ((k : Int) + 1), fun W hW => quiet_ok ?_, hK _ ?_⟩
          · have q := HX.out W hW
            obtain ⟨⟨m0, m1, m2, m3⟩, ⟨z0, z1, z2, z3⟩, _⟩ := q
            go_simp
            all_goals (try omega)
          clear hK K
          simp only [Act.put, List.setIfInBounds_toArray, List.set_cons_succ, List.set_cons_zero]
          refine wpQuiet_step (fun K hK => ?_)
          rw [if_pos (by rfl)]
          refine ⟨.pointer (some ⟨b, o + (k + 1) * 4, none⟩), fun W hW => quiet_ok ?_, hK _ ?_⟩
          · have q := HX.out W hW
            obtain ⟨⟨m0, m1, m2, m3⟩, ⟨z0, z1, z2, z3⟩, _⟩ := q
            go_simp
            all_goals (try omega)
          clear hK K
          simp only [Act.put, List.setIfInBounds_toArray, List.set_cons_succ, List.set_cons_zero]
          refine wpQuiet_step (fun K hK => ?_)
          rw [if_pos (by rfl)]
          refine ⟨.pointer (some ⟨b, o + (k + 1) * 4 + 2, none⟩), fun W hW => quiet_ok ?_, hK _ ?_⟩
          · have q := HX.out W hW
            obtain ⟨⟨m0, m1, m2, m3⟩, ⟨z0, z1, z2, z3⟩, _⟩ := q
            go_simp
            all_goals (try omega)
          clear hK K
          simp only [Act.put, List.setIfInBounds_toArray, List.set_cons_succ, List.set_cons_zero]
          refine wpQuiet_step (fun K hK => ?_)
          rw [if_pos (by rfl)]
          refine ⟨.int .i64 yl, fun W hW => quiet_ok ?_, hK _ ?_⟩
          · have q := HX.out W hW
            obtain ⟨⟨m0, m1, m2, m3⟩, ⟨z0, z1, z2, z3⟩, _⟩ := q
            go_simp
            all_goals (try omega)
          clear hK K
          simp only [Act.put, List.setIfInBounds_toArray, List.set_cons_succ, List.set_cons_zero]
          refine wpQuiet_step (fun K hK => ?_)
          rw [if_pos (by rfl)]
          refine ⟨.bool (xl != yl), fun W hW => quiet_ok ?_, hK _ ?_⟩
          · have q := HX.out W hW
            obtain ⟨⟨m0, m1, m2, m3⟩, ⟨z0, z1, z2, z3⟩, _⟩ := q
            go_simp
            all_goals (try omega)
          clear hK K
          simp only [Act.put, List.setIfInBounds_toArray, List.set_cons_succ, List.set_cons_zero]
          refine wpQuiet_step (fun K hK => ?_)
          rw [if_pos (by rfl)]
          refine ⟨.bool (xl != yl), fun W hW => quiet_ok ?_, hK _ ?_⟩
          · have q := HX.out W hW
            obtain ⟨⟨m0, m1, m2, m3⟩, ⟨z0, z1, z2, z3⟩, _⟩ := q
            go_simp
            all_goals (try omega)
          clear hK K
          simp only [Act.put, List.setIfInBounds_toArray, List.set_cons_succ, List.set_cons_zero]
          refine wpQuiet_nil ?_
          intro W hW
          have hbW := (HX.out W hW).2.2
          by_cases h2 : xl = yl
          · have HR := HOK.out (by rw [HT2.out]; simpa using h2)
            subst h2
            go_wp2_with fail
            go_roundw
            case rel => exact ⟨k + 1, .inr hlt, by go_num, HR, hbW⟩
            case measure => simp [intOf]; omega
          · have HR : Hid (adjB ttlP L = false) := HBAD.out (by rw [HT2.out]; simpa using h2)
            have e2 : (xl != yl) = true := by simpa using h2
            rw [e2]
            go_wp2_with fail
            go_ret
            exact ⟨ret_bool HR.out.symm, hbW⟩
        · have HT3 : Hid (ttlP (xn, xt, xl, xd) (yn, yt, yl, yd) = true) := ttl_off hs
          obtain ⟨same, hsame⟩ : ∃ same, same = (xn == yn && xt == yt) := ⟨_, rfl⟩
          have HE : Hid (same = (xn == yn && xt == yt)) := hsame
          have HSF : Hid (same = false) := hsame.trans (own_off hs).symm
          clear hs HBAD hsame
          go_wp2_with fail
          refine wp_region_quiet (C := fun W => Below wr.heap.size wr W) (by kernel_rfl) (by kernel_rfl) hbd ?_
          refine wpQuiet_step (fun K hK => ?_)
          rw [if_pos (by rfl)]
          refine ⟨.slice (some ⟨b, o, none⟩) L.length cap, fun W hW => quiet_ok ?_, hK _ ?_⟩
          · have q := HX.out W hW
            obtain ⟨⟨m0, m1, m2, m3⟩, ⟨z0, z1, z2, z3⟩, _⟩ := q
            go_simp
            all_goals (try omega)
          clear hK K
          simp only [Act.put, List.setIfInBounds_toArray, List.set_cons_succ, List.set_cons_zero]
          refine wpQuiet_step (fun K hK => ?_)
          rw [if_pos (by rfl)]
          refine ⟨.int .i64 ((k : Int) + 1), fun W hW => quiet_ok ?_, hK _ ?_⟩
          · have q := HX.out W hW
            obtain ⟨⟨m0, m1, m2, m3⟩, ⟨z0, z1, z2, z3⟩, _⟩ := q
            go_simp
            all_goals (try omega)
          clear hK K
          simp only [Act.put, List.setIfInBounds_toArray, List.set_cons_succ, List.set_cons_zero]
          refine wpQuiet_step (fun K hK => ?_)
          rw [if_pos (by rfl)]
          refine ⟨.int .i64 (k : Int), fun W hW => quiet_ok ?_, hK _ ?_⟩
          · have q := HX.out W hW
            obtain ⟨⟨m0, m1, m2, m3⟩, ⟨z0, z1, z2, z3⟩, _⟩ := q
            go_simp
            all_goals (try omega)
          clear hK K
          simp only [Act.put, List.setIfInBounds_toArray, List.set_cons_succ, List.set_cons_zero]
          refine wpQuiet_step (fun K hK => ?_)
          rw [if_pos (by rfl)]
          refine ⟨.pointer (some ⟨b, o + k * 4, none⟩), fun W hW => quiet_ok ?_, hK _ ?_⟩
          · have q := HX.out W hW
            obtain ⟨⟨m0, m1, m2, m3⟩, ⟨z0, z1, z2, z3⟩, _⟩ := q
            go_simp
            all_goals (try omega)
          clear hK K
          simp only [Act.put, List.setIfInBounds_toArray, List.set_cons_succ, List.set_cons_zero]
          refine wpQuiet_step (fun K hK => ?_)
          rw [if_pos (by rfl)]
          refine ⟨.agg #[.string ⟨xn.toArray⟩, .int .i64 xt, .int .i64 xl, .string ⟨xd.toArray⟩], fun W hW => quiet_ok ?_, hK _ ?_⟩
          · have q := HX.out W hW
            obtain ⟨⟨m0, m1, m2, m3⟩, ⟨z0, z1, z2, z3⟩, _⟩ := q
            go_simp
            all_goals (try omega)
          clear hK K
          simp only [Act.put, List.setIfInBounds_toArray, List.set_cons_succ, List.set_cons_zero]
          refine wpQuiet_step (fun K hK => ?_)
          rw [if_pos (by rfl)]
          refine ⟨.agg #[.string ⟨xn.toArray⟩, .int .i64 xt], fun W hW => quiet_call (f := 191) (args := #[.agg #[.string ⟨xn.toArray⟩, .int .i64 xt, .int .i64 xl, .string ⟨xd.toArray⟩]]) ?_ ?_, hK _ ?_⟩
          · go_simp
          · exact (HOX.out W).mono fun e w'' h => ⟨h.1, HTR.out _ _ hW h.2⟩
          clear hK K
          simp only [Act.put, List.setIfInBounds_toArray, List.set_cons_succ, List.set_cons_zero]
          refine wpQuiet_step (fun K hK => ?_)
          rw [if_pos (by rfl)]
          refine ⟨.slice (some ⟨b, o, none⟩) L.length cap, fun W hW => quiet_ok ?_, hK _ ?_⟩
          · have q := HX.out W hW
            obtain ⟨⟨m0, m1, m2, m3⟩, ⟨z0, z1, z2, z3⟩, _⟩ := q
            go_simp
            all_goals (try omega)
          clear hK K
          simp only [Act.put, List.setIfInBounds_toArray, List.set_cons_succ, List.set_cons_zero]
          refine wpQuiet_step (fun K hK => ?_)
          rw [if_pos (by rfl)]
          refine ⟨.int .i64 ((k : Int) + 1), fun W hW => quiet_ok ?_, hK _ ?_⟩
          · have q := HX.out W hW
            obtain ⟨⟨m0, m1, m2, m3⟩, ⟨z0, z1, z2, z3⟩, _⟩ := q
            go_simp
            all_goals (try omega)
          clear hK K
          simp only [Act.put, List.setIfInBounds_toArray, List.set_cons_succ, List.set_cons_zero]
          refine wpQuiet_step (fun K hK => ?_)
          rw [if_pos (by rfl)]
          refine ⟨.pointer (some ⟨b, o + (k + 1) * 4, none⟩), fun W hW => quiet_ok ?_, hK _ ?_⟩
          · have q := HX.out W hW
            obtain ⟨⟨m0, m1, m2, m3⟩, ⟨z0, z1, z2, z3⟩, _⟩ := q
            go_simp
            all_goals (try omega)
          clear hK K
          simp only [Act.put, List.setIfInBounds_toArray, List.set_cons_succ, List.set_cons_zero]
          refine wpQuiet_step (fun K hK => ?_)
          rw [if_pos (by rfl)]
          refine ⟨.agg #[.string ⟨yn.toArray⟩, .int .i64 yt, .int .i64 yl, .string ⟨yd.toArray⟩], fun W hW => quiet_ok ?_, hK _ ?_⟩
          · have q := HX.out W hW
            obtain ⟨⟨m0, m1, m2, m3⟩, ⟨z0, z1, z2, z3⟩, _⟩ := q
            go_simp
            all_goals (try omega)
          clear hK K
          simp only [Act.put, List.setIfInBounds_toArray, List.set_cons_succ, List.set_cons_zero]
          refine wpQuiet_step (fun K hK => ?_)
          rw [if_pos (by rfl)]
          refine ⟨.agg #[.string ⟨yn.toArray⟩, .int .i64 yt], fun W hW => quiet_call (f := 191) (args := #[.agg #[.string ⟨yn.toArray⟩, .int .i64 yt, .int .i64 yl, .string ⟨yd.toArray⟩]]) ?_ ?_, hK _ ?_⟩
          · go_simp
          · exact (HOY.out W).mono fun e w'' h => ⟨h.1, HTR.out _ _ hW h.2⟩
          clear hK K
          simp only [Act.put, List.setIfInBounds_toArray, List.set_cons_succ, List.set_cons_zero]
          refine wpQuiet_step (fun K hK => ?_)
          rw [if_pos (by rfl)]
          refine ⟨.bool same, fun W hW => quiet_ok ?_, hK _ ?_⟩
          · go_simp
            exact own_if (fun b => Result.ok (Next.value (Value.bool b)) W) HE.out
          clear hK K
          simp only [Act.put, List.setIfInBounds_toArray, List.set_cons_succ, List.set_cons_zero]
          refine wpQuiet_step (fun K hK => ?_)
          rw [if_pos (by rfl)]
          refine ⟨.bool same, fun W hW => quiet_ok ?_, hK _ ?_⟩
          · have q := HX.out W hW
            obtain ⟨⟨m0, m1, m2, m3⟩, ⟨z0, z1, z2, z3⟩, _⟩ := q
            go_simp
            all_goals (try omega)
          clear hK K
          simp only [Act.put, List.setIfInBounds_toArray, List.set_cons_succ, List.set_cons_zero]
          refine BigFrame.wpQuiet_skip (by show (some same == some true) = false; rw [HSF.out]; rfl) ?_
          simp only [Act.put, List.setIfInBounds_toArray, List.set_cons_succ, List.set_cons_zero]
          refine BigFrame.wpQuiet_skip (by show (some same == some true) = false; rw [HSF.out]; rfl) ?_
          simp only [Act.put, List.setIfInBounds_toArray, List.set_cons_succ, List.set_cons_zero]
          refine BigFrame.wpQuiet_skip (by show (some same == some true) = false; rw [HSF.out]; rfl) ?_
          simp only [Act.put, List.setIfInBounds_toArray, List.set_cons_succ, List.set_cons_zero]
          refine BigFrame.wpQuiet_skip (by show (some same == some true) = false; rw [HSF.out]; rfl) ?_
          simp only [Act.put, List.setIfInBounds_toArray, List.set_cons_succ, List.set_cons_zero]
          refine BigFrame.wpQuiet_skip (by show (some same == some true) = false; rw [HSF.out]; rfl) ?_
          simp only [Act.put, List.setIfInBounds_toArray, List.set_cons_succ, List.set_cons_zero]
          refine BigFrame.wpQuiet_skip (by show (some same == some true) = false; rw [HSF.out]; rfl) ?_
          simp only [Act.put, List.setIfInBounds_toArray, List.set_cons_succ, List.set_cons_zero]
          refine BigFrame.wpQuiet_skip (by show (some same == some true) = false; rw [HSF.out]; rfl) ?_
          simp only [Act.put, List.setIfInBounds_toArray, List.set_cons_succ, List.set_cons_zero]
          refine BigFrame.wpQuiet_skip (by show (some same == some true) = false; rw [HSF.out]; rfl) ?_
          simp only [Act.put, List.setIfInBounds_toArray, List.set_cons_succ, List.set_cons_zero]
          refine BigFrame.wpQuiet_skip (by show (some same == some true) = false; rw [HSF.out]; rfl) ?_
          simp only [Act.put, List.setIfInBounds_toArray, List.set_cons_succ, List.set_cons_zero]
          refine BigFrame.wpQuiet_skip (by show (some same == some true) = false; rw [HSF.out]; rfl) ?_
          simp only [Act.put, List.setIfInBounds_toArray, List.set_cons_succ, List.set_cons_zero]
          refine BigFrame.wpQuiet_skip (by show (some same == some true) = false; rw [HSF.out]; rfl) ?_
          simp only [Act.put, List.setIfInBounds_toArray, List.set_cons_succ, List.set_cons_zero]
          refine BigFrame.wpQuiet_skip (by show (some same == some true) = false; rw [HSF.out]; rfl) ?_
          simp only [Act.put, List.setIfInBounds_toArray, List.set_cons_succ, List.set_cons_zero]
          have hsf := HSF.out
          clear HE HSF
          subst hsf
          refine wpQuiet_step (fun K hK => ?_)
          rw [if_pos (by rfl)]
          refine ⟨.bool false, fun W hW => quiet_ok ?_, hK _ ?_⟩
          · have q := HX.out W hW
            obtain ⟨⟨m0, m1, m2, m3⟩, ⟨z0, z1, z2, z3⟩, _⟩ := q
            go_simp
            all_goals (try omega)
          clear hK K
          simp only [Act.put, List.setIfInBounds_toArray, List.set_cons_succ, List.set_cons_zero]
          refine wpQuiet_nil ?_
          intro W hW
          have hbW := (HX.out W hW).2.2
          have HR := HOK.out HT3.out
          go_wp2_with fail
          go_roundw
          case rel => exact ⟨k + 1, .inr hlt, by go_num, HR, hbW⟩
          case measure => simp [intOf]; omega
    · have HR : Hid (adjB ttlP L = true) := (adj_iff _ _).2 (fun j hj => HA.out j hj (by omega))
      have hk1 : ¬ (k : Int) + 1 < (L.length : Int) := by omega
      go_wp2_with fail
      go_ret
      exact ⟨ret_bool HR.out.symm, hb⟩
end Go.Proofs.YtoobaaklklommaaGreatDoor
