import Derived.Test.YtoobaaklklommaaGreatDoorZ30
import Derived.Test.YtoobaaklklommaaGreatDoorZ26
import Derived.BigQuiet
import Derived.Deep.QuietTactic
import Derived.Test.YtoobaaklklommaaGreatDoorZ12
namespace Go.Proofs.YtoobaaklklommaaGreatDoor
open Go.RowKit

theorem rec_two {w : World} {b o k : Nat} {L : List (List UInt8 × Int × Int × List UInt8)} (hcel : ∀ j, (hj : j < L.length) → RecAt w b (o + j * 4) L[j]) (hk : k + 1 < L.length) {x y : (List UInt8 × Int × Int × List UInt8)} (hx : x = L[k]'(by omega)) (hy : y = L[k + 1]) :
    RecAt w b (o + k * 4) x ∧ RecAt w b (o + (k + 1) * 4) y := ⟨by rw [hx]; exact hcel k (by omega), by rw [hy]; exact hcel (k + 1) hk⟩
theorem rises_bad {L : List (List UInt8 × Int × Int × List UInt8)} (k : Nat) (h : k + 1 < L.length) (hp : 0 ≤ cmp4 (L[k]'(by omega)) L[k + 1]) : risesB L = false := adj_bad k h (by simp; omega)

set_option maxRecDepth 20000 in
set_option maxHeartbeats 4000000 in
theorem areRising_any (v : Value) (L : List (List UInt8 × Int × Int × List UInt8)) (w : World) (hr : RRow w v L) (hx : Hid (∀ x ∈ L, x.1.length ≤ 1048576 ∧ x.2.2.2.length ≤ 1048576)) (hE : EnvR w) :
    Calls Tryz.prog 157 #[v] w fun e w' => e = .returned (.bool (risesB L)) ∧ Below w.heap.size w w' := by
  obtain ⟨a, cap, rfl, hcap, hmax, hrow⟩ := hr
  have HROW : Hid (L = [] ∨ ∃ b o, a = some ⟨b, o, none⟩ ∧ b < w.heap.size ∧ ∀ j, (hj : j < L.length) → RecAt w b (o + j * 4) L[j]) := hrow
  have HOW : Hid (∀ (x y : (List UInt8 × Int × Int × List UInt8)) W, EnvR W → x.2.2.2.length ≤ 1048576 → y.2.2.2.length ≤ 1048576 → Calls Tryz.prog 189 #[.agg #[.string ⟨x.1.toArray⟩, .int .i64 x.2.1, .int .i64 x.2.2.1, .string ⟨x.2.2.2.toArray⟩], .agg #[.string ⟨y.1.toArray⟩, .int .i64 y.2.1, .int .i64 y.2.2.1, .string ⟨y.2.2.2.toArray⟩]] W fun e w' => e = .returned (.int .i64 (cmp4 x y)) ∧ Below W.heap.size W w') := fun x y W g1 g2 g3 =>
    orderOfRecords_any ⟨x.1.toArray⟩ ⟨x.2.2.2.toArray⟩ x.2.1 x.2.2.1 ⟨y.1.toArray⟩ ⟨y.2.2.2.toArray⟩ y.2.1 y.2.2.1 W (by rw [size_list]; exact g2) (by rw [size_list]; exact g3) g1
  unfold maxLen at hmax
  clear hrow
  go_enter Tryz.func157, Tryz.ntmps157
  go_wp2_with fail
  go_loopw [3] (fun i wr => ∃ k : Nat, (k = 0 ∨ k < L.length) ∧ i = .int .i64 ((k : Int) + 1) ∧ Hid (∀ j, (hj : j + 1 < L.length) → j < k → cmp4 (L[j]'(by omega)) L[j + 1] < 0) ∧ Below w.heap.size w wr) (fun i _ => L.length + 1 - (intOf i).toNat)
  case atStart => exact ⟨0, .inl rfl, rfl, fun j _ h => absurd h (Nat.not_lt_zero _), Below.refl _ _⟩
  case round =>
    obtain ⟨k, hk, rfl, HA, hb⟩ := hrel
    by_cases hlt : k + 1 < L.length
    · rcases HROW.out with hr | ⟨b, o, ha, hbl, hcel⟩
      · rw [hr] at hlt; simp at hlt
      · rw [ha]
        have HBAD : Hid (0 ≤ cmp4 (L[k]'(by omega)) (L[k + 1]'hlt) → risesB L = false) := rises_bad k hlt
        have HOK : Hid (cmp4 (L[k]'(by omega)) (L[k + 1]'hlt) < 0 → ∀ j, (hj : j + 1 < L.length) → j < k + 1 → cmp4 (L[j]'(by omega)) L[j + 1] < 0) := fun h j hj h1 => by
          rcases Nat.lt_or_ge j k with h' | h'
          · exact HA.out j hj h'
          · obtain rfl : j = k := by omega
            exact h
        have hxl := (hx.out _ (List.getElem_mem (by omega : k < L.length))).2
        have hyl := (hx.out _ (List.getElem_mem hlt)).2
        obtain ⟨x, hxe⟩ : ∃ x, x = L[k]'(by omega) := ⟨_, rfl⟩
        obtain ⟨y, hye⟩ : ∃ y, y = L[k + 1]'hlt := ⟨_, rfl⟩
        have HM := rec_two (fun j hj => (hcel j hj).kept hb) hlt hxe hye
        rw [← hxe] at hxl
        rw [← hye] at hyl
        rw [← hxe, ← hye] at HBAD HOK
        clear hcel hxe hye
        have HOX : Hid (∀ W, Below wr.heap.size wr W → Calls Tryz.prog 189 #[.agg #[.string ⟨x.1.toArray⟩, .int .i64 x.2.1, .int .i64 x.2.2.1, .string ⟨x.2.2.2.toArray⟩], .agg #[.string ⟨y.1.toArray⟩, .int .i64 y.2.1, .int .i64 y.2.2.1, .string ⟨y.2.2.2.toArray⟩]] W fun e w' => e = .returned (.int .i64 (cmp4 x y)) ∧ Below W.heap.size W w') := fun W hW => HOW.out x y W (hE.below (hb.trans (hW.mono hb.size))) hxl hyl
        obtain ⟨c, hc⟩ : ∃ c, c = cmp4 x y := ⟨_, rfl⟩
        rw [← hc] at HBAD HOK HOX
        have HX : Hid (∀ W, Below wr.heap.size wr W → (W.cell? ⟨b, o + k * 4, none⟩ = some (.string ⟨x.1.toArray⟩) ∧ W.cell? ⟨b, o + k * 4 + 1, none⟩ = some (.int .i64 x.2.1) ∧ W.cell? ⟨b, o + k * 4 + 2, none⟩ = some (.int .i64 x.2.2.1) ∧ W.cell? ⟨b, o + k * 4 + 3, none⟩ = some (.string ⟨x.2.2.2.toArray⟩)) ∧ (W.cell? ⟨b, o + (k + 1) * 4, none⟩ = some (.string ⟨y.1.toArray⟩) ∧ W.cell? ⟨b, o + (k + 1) * 4 + 1, none⟩ = some (.int .i64 y.2.1) ∧ W.cell? ⟨b, o + (k + 1) * 4 + 2, none⟩ = some (.int .i64 y.2.2.1) ∧ W.cell? ⟨b, o + (k + 1) * 4 + 3, none⟩ = some (.string ⟨y.2.2.2.toArray⟩)) ∧ Below w.heap.size w W) := fun W hW => by
          have h1 := HM.1.kept hW
          have h2 := HM.2.kept hW
          exact ⟨⟨h1.1, h1.2.1, h1.2.2.1, h1.2.2.2⟩, ⟨h2.1, h2.2.1, h2.2.2.1, h2.2.2.2⟩, hb.trans (hW.mono hb.size)⟩
        have HTR : Hid (∀ W W', Below wr.heap.size wr W → Below W.heap.size W W' → Below wr.heap.size wr W') := fun W W' h1 h2 => h1.trans (h2.mono h1.size)
        have hbd : Below wr.heap.size wr wr.drew := (Below.refl _ _).drew
        have e1 : ((k : Int) + 1).toNat = k + 1 := by omega
        have wk : IntKind.i64.wrap (k : Int) = (k : Int) := wrap_small _ (by omega) (by omega)
        have hk1 : (k : Int) + 1 < (L.length : Int) := by omega
        clear hc HM
        go_wp2_with fail
        refine wp_region_quiet (C := fun W => Below wr.heap.size wr W) (by kernel_rfl) (by kernel_rfl) hbd ?_
        refine wpQuiet_step (fun K hK => ?_)
        rw [if_pos (by rfl)]
        refine ⟨.slice (some ⟨b, o, none⟩) L.length cap, fun W hW => quiet_ok ?_, hK _ ?_⟩
        · have q := HX.out W hW
          obtain ⟨⟨m0, m1, m2, m3⟩, ⟨z0, z1, z2, z3⟩, _⟩ := q
          go_simp
          all_goals (try omega)
        clear hK K
        simp only [Act.put, List.setIfInBounds_toArray, List.set_cons_succ, List.set_cons_zero]
        refine wpQuiet_step (fun K hK => ?_)
        rw [if_pos (by rfl)]
        refine ⟨.int .i64 ((k : Int) + 1), fun W hW => quiet_ok ?_, hK _ ?_⟩
        · have q := HX.out W hW
          obtain ⟨⟨m0, m1, m2, m3⟩, ⟨z0, z1, z2, z3⟩, _⟩ := q
          go_simp
          all_goals (try omega)
        clear hK K
        simp only [Act.put, List.setIfInBounds_toArray, List.set_cons_succ, List.set_cons_zero]
        refine wpQuiet_step (fun K hK => ?_)
        rw [if_pos (by rfl)]
        refine ⟨.int .i64 (k : Int), fun W hW => quiet_ok ?_, hK _ ?_⟩
        · have q := HX.out W hW
          obtain ⟨⟨m0, m1, m2, m3⟩, ⟨z0, z1, z2, z3⟩, _⟩ := q
          go_simp
          all_goals (try omega)
        clear hK K
        simp only [Act.put, List.setIfInBounds_toArray, List.set_cons_succ, List.set_cons_zero]
        refine wpQuiet_step (fun K hK => ?_)
        rw [if_pos (by rfl)]
        refine ⟨.pointer (some ⟨b, o + k * 4, none⟩), fun W hW => quiet_ok ?_, hK _ ?_⟩
        · have q := HX.out W hW
          obtain ⟨⟨m0, m1, m2, m3⟩, ⟨z0, z1, z2, z3⟩, _⟩ := q
          go_simp
          all_goals (try omega)
        clear hK K
        simp only [Act.put, List.setIfInBounds_toArray, List.set_cons_succ, List.set_cons_zero]
        refine wpQuiet_step (fun K hK => ?_)
        rw [if_pos (by rfl)]
        refine ⟨.agg #[.string ⟨x.1.toArray⟩, .int .i64 x.2.1, .int .i64 x.2.2.1, .string ⟨x.2.2.2.toArray⟩], fun W hW => quiet_ok ?_, hK _ ?_⟩
        · have q := HX.out W hW
          obtain ⟨⟨m0, m1, m2, m3⟩, ⟨z0, z1, z2, z3⟩, _⟩ := q
          go_simp
          all_goals (try omega)
        clear hK K
        simp only [Act.put, List.setIfInBounds_toArray, List.set_cons_succ, List.set_cons_zero]
        refine wpQuiet_step (fun K hK => ?_)
        rw [if_pos (by rfl)]
        refine ⟨.slice (some ⟨b, o, none⟩) L.length cap, fun W hW => quiet_ok ?_, hK _ ?_⟩
        · have q := HX.out W hW
          obtain ⟨⟨m0, m1, m2, m3⟩, ⟨z0, z1, z2, z3⟩, _⟩ := q
          go_simp
          all_goals (try omega)
        clear hK K
        simp only [Act.put, List.setIfInBounds_toArray, List.set_cons_succ, List.set_cons_zero]
        refine wpQuiet_step (fun K hK => ?_)
        rw [if_pos (by rfl)]
        refine ⟨.int .i64 ((k : Int) + 1), fun W hW => quiet_ok ?_, hK _ ?_⟩
        · have q := HX.out W hW
          obtain ⟨⟨m0, m1, m2, m3⟩, ⟨z0, z1, z2, z3⟩, _⟩ := q
          go_simp
          all_goals (try omega)
        clear hK K
        simp only [Act.put, List.setIfInBounds_toArray, List.set_cons_succ, List.set_cons_zero]
        refine wpQuiet_step (fun K hK => ?_)
        rw [if_pos (by rfl)]
        refine ⟨.pointer (some ⟨b, o + (k + 1) * 4, none⟩), fun W hW => quiet_ok ?_, hK _ ?_⟩
        · have q := HX.out W hW
          obtain ⟨⟨m0, m1, m2, m3⟩, ⟨z0, z1, z2, z3⟩, _⟩ := q
          go_simp
          all_goals (try omega)
        clear hK K
        simp only [Act.put, List.setIfInBounds_toArray, List.set_cons_succ, List.set_cons_zero]
        refine wpQuiet_step (fun K hK => ?_)
        rw [if_pos (by rfl)]
        refine ⟨.agg #[.string ⟨y.1.toArray⟩, .int .i64 y.2.1, .int .i64 y.2.2.1, .string ⟨y.2.2.2.toArray⟩], fun W hW => quiet_ok ?_, hK _ ?_⟩
        · have q := HX.out W hW
          obtain ⟨⟨m0, m1, m2, m3⟩, ⟨z0, z1, z2, z3⟩, _⟩ := q
          go_simp
          all_goals (try omega)
        clear hK K
        simp only [Act.put, List.setIfInBounds_toArray, List.set_cons_succ, List.set_cons_zero]
        refine wpQuiet_step (fun K hK => ?_)
        rw [if_pos (by rfl)]
        refine ⟨.int .i64 c, fun W hW => quiet_call (f := 189) (args := #[.agg #[.string ⟨x.1.toArray⟩, .int .i64 x.2.1, .int .i64 x.2.2.1, .string ⟨x.2.2.2.toArray⟩], .agg #[.string ⟨y.1.toArray⟩, .int .i64 y.2.1, .int .i64 y.2.2.1, .string ⟨y.2.2.2.toArray⟩]]) ?_ ?_, hK _ ?_⟩
        · go_simp
        · exact (HOX.out W hW).mono fun e w'' h => ⟨h.1, HTR.out _ _ hW h.2⟩
        clear hK K
        simp only [Act.put, List.setIfInBounds_toArray, List.set_cons_succ, List.set_cons_zero]
        refine wpQuiet_step (fun K hK => ?_)
        rw [if_pos (by rfl)]
        refine ⟨.bool (decide (0 ≤ c)), fun W hW => quiet_ok ?_, hK _ ?_⟩
        · have q := HX.out W hW
          obtain ⟨⟨m0, m1, m2, m3⟩, ⟨z0, z1, z2, z3⟩, _⟩ := q
          go_simp
          all_goals (try omega)
        clear hK K
        simp only [Act.put, List.setIfInBounds_toArray, List.set_cons_succ, List.set_cons_zero]
        refine wpQuiet_nil ?_
        intro W hW
        have hbW := (HX.out W hW).2.2
        by_cases h2 : 0 ≤ c
        · have HR : Hid (risesB L = false) := HBAD.out h2
          go_wp2_with fail
          go_ret
          exact ⟨ret_bool HR.out.symm, hbW⟩
        · have HR := HOK.out (by omega)
          go_wp2_with fail
          go_roundw
          case rel => exact ⟨k + 1, .inr hlt, by go_num, HR, hbW⟩
          case measure => simp [intOf]; omega
    · have HR : Hid (risesB L = true) := (adj_iff _ _).2 (fun j hj => by simpa using HA.out j hj (by omega))
      have hk1 : ¬ (k : Int) + 1 < (L.length : Int) := by omega
      go_wp2_with fail
      go_ret
      exact ⟨ret_bool HR.out.symm, hb⟩
end Go.Proofs.YtoobaaklklommaaGreatDoor

namespace Go.Proofs.YtoobaaklklommaaGreatDoor
open Go.RowKit

set_option maxRecDepth 20000 in
set_option maxHeartbeats 4000000 in
theorem cnAlone_any (v : Value) (L : List (List UInt8 × Int × Int × List UInt8)) (w : World) (hr : RRow w v L) :
    Calls Tryz.prog 161 #[v] w fun e w' => e = .returned (.bool (adjB cnP L)) ∧ Below w.heap.size w w' := by
  obtain ⟨a, cap, rfl, hcap, hmax, hrow⟩ := hr
  have HROW : Hid (L = [] ∨ ∃ b o, a = some ⟨b, o, none⟩ ∧ b < w.heap.size ∧ ∀ j, (hj : j < L.length) → RecAt w b (o + j * 4) L[j]) := hrow
  unfold maxLen at hmax
  clear hrow
  go_enter Tryz.func161, Tryz.ntmps161
  go_wp2_with fail
  go_loopw [3] (fun i wr => ∃ k : Nat, (k = 0 ∨ k < L.length) ∧ i = .int .i64 ((k : Int) + 1) ∧ Hid (∀ j, (hj : j + 1 < L.length) → j < k → cnP (L[j]'(by omega)) L[j + 1] = true) ∧ Below w.heap.size w wr) (fun i _ => L.length + 1 - (intOf i).toNat)
  case atStart => exact ⟨0, .inl rfl, rfl, fun j _ h => absurd h (Nat.not_lt_zero _), Below.refl _ _⟩
  case round =>
    obtain ⟨k, hk, rfl, HA, hb⟩ := hrel
    by_cases hlt : k + 1 < L.length
    · rcases HROW.out with hr | ⟨b, o, ha, hbl, hcel⟩
      · rw [hr] at hlt; simp at hlt
      · rw [ha]
        have HBAD : Hid (cnP (L[k]'(by omega)) (L[k + 1]'hlt) = false → adjB cnP L = false) := adj_bad k hlt
        have HOK : Hid (cnP (L[k]'(by omega)) (L[k + 1]'hlt) = true → ∀ j, (hj : j + 1 < L.length) → j < k + 1 → cnP (L[j]'(by omega)) L[j + 1] = true) := fun h j hj h1 => by
          rcases Nat.lt_or_ge j k with h' | h'
          · exact HA.out j hj h'
          · obtain rfl : j = k := by omega
            exact h
        obtain ⟨x, hxe⟩ : ∃ x, x = L[k]'(by omega) := ⟨_, rfl⟩
        obtain ⟨y, hye⟩ : ∃ y, y = L[k + 1]'hlt := ⟨_, rfl⟩
        have HM := rec_two (fun j hj => (hcel j hj).kept hb) hlt hxe hye
        rw [← hxe, ← hye] at HBAD HOK
        clear hcel hxe hye
        obtain ⟨xn, xt, xl, xd⟩ := x
        obtain ⟨yn, yt, yl, yd⟩ := y
        unfold RecAt at HM
        obtain ⟨⟨m0, m1, m2, m3⟩, ⟨z0, z1, z2, z3⟩⟩ := HM
        simp only at m0 m1 m2 m3 z0 z1 z2 z3
        have e1 : ((k : Int) + 1).toNat = k + 1 := by omega
        have wk : IntKind.i64.wrap (k : Int) = (k : Int) := wrap_small _ (by omega) (by omega)
        have hk1 : (k : Int) + 1 < (L.length : Int) := by omega
        have hkl : (k : Int) < (L.length : Int) := by omega
        clear m2 m3 z2 z3
        by_cases hn : xn = yn
        · by_cases hx5 : xt = 5
          · have HR : Hid (adjB cnP L = false) := HBAD.out (by unfold cnP; simp [hn, hx5])
            subst hn
            subst hx5
            clear HBAD HOK
            go_wp2_with fail
            go_quiet (fail)
            go_wp2_with fail
            go_ret
            exact ⟨ret_bool HR.out.symm, below_drewN hb _⟩
          · have e5 : (xt == 5) = false := by simpa using hx5
            by_cases hy5 : yt = 5
            · have HR : Hid (adjB cnP L = false) := HBAD.out (by unfold cnP; simp [hn, hy5])
              subst hn
              subst hy5
              clear HBAD HOK
              go_wp2_with fail
              go_quiet (fail)
              go_wp2_with fail
              go_ret
              exact ⟨ret_bool HR.out.symm, below_drewN hb _⟩
            · have e6 : (yt == 5) = false := by simpa using hy5
              have HR : Hid _ := HOK.out (by unfold cnP; simp [hx5, hy5])
              subst hn
              clear HBAD HOK
              go_wp2_with fail
              go_quiet (fail)
              go_wp2_with fail
              go_roundw
              case rel => exact ⟨k + 1, .inr hlt, by go_num, HR, below_drewN hb _⟩
              case measure => simp [intOf]; omega
        · have en : (xn == yn) = false := by simpa using hn
          have HR : Hid _ := HOK.out (by unfold cnP; simp [hn])
          clear HBAD HOK
          go_wp2_with fail
          go_quiet (fail)
          go_wp2_with fail
          go_roundw
          case rel => exact ⟨k + 1, .inr hlt, by go_num, HR, below_drewN hb _⟩
          case measure => simp [intOf]; omega
    · have HR : Hid (adjB cnP L = true) := (adj_iff _ _).2 (fun j hj => HA.out j hj (by omega))
      have hk1 : ¬ (k : Int) + 1 < (L.length : Int) := by omega
      go_wp2_with fail
      go_ret
      exact ⟨ret_bool HR.out.symm, hb⟩

set_option maxRecDepth 20000 in
set_option maxHeartbeats 400000 in
theorem areOfZone_any (v : Value) (L : List (List UInt8 × Int × Int × List UInt8)) (w : World) (hr : RRow w v L) (hx : Hid (∀ x ∈ L, x.1.length ≤ 1048576 ∧ x.2.2.2.length ≤ 1048576)) (hE : EnvR w) :
    Calls Tryz.prog 122 #[v] w fun e w' => e = .returned (.bool (listB L)) ∧ Below w.heap.size w w' := by
  have HRR : Hid (∀ W, Below w.heap.size w W → RRow W v L) := fun W hW => hr.kept hW
  obtain ⟨a, cap, rfl, hcap, hmax, _⟩ := hr
  unfold maxLen at hmax
  by_cases h40 : (L.length : Int) ≤ 40
  · have HL : Hid (listB L = (aresB L && risesB L)) := by unfold listB; rw [decide_eq_true (by omega : L.length ≤ 40)]; exact rfl
    go_enter Tryz.func122, Tryz.ntmps122
    go_wp2_with fail
    refine (areRecords_any _ L w (HRR.out _ (Below.refl _ _)) hx hE).mono ?_
    rintro e w1 ⟨rfl, hb1⟩
    cases hA : aresB L with
    | false =>
      have HR : Hid (listB L = false) := by rw [HL.out, hA]; exact rfl
      go_wp2_with fail
      go_ret
      exact ⟨ret_bool HR.out.symm, hb1⟩
    | true =>
      have HR : Hid (listB L = risesB L) := by rw [HL.out, hA]; exact rfl
      go_wp2_with fail
      refine (areRising_any _ L w1 (HRR.out _ hb1) hx (hE.below hb1)).mono ?_
      rintro e w2 ⟨rfl, hb2⟩
      go_wp2_with fail
      go_ret
      exact ⟨ret_bool HR.out.symm, hb1.trans (hb2.mono hb1.size)⟩
  · have HR : Hid (listB L = false) := by unfold listB; rw [decide_eq_false (by omega : ¬ L.length ≤ 40)]; exact rfl
    go_enter Tryz.func122, Tryz.ntmps122
    go_wp2_with fail
    go_ret
    exact ⟨ret_bool HR.out.symm, Below.refl _ _⟩
end Go.Proofs.YtoobaaklklommaaGreatDoor
