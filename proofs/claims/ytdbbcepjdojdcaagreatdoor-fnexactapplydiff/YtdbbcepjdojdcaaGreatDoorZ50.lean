import Derived.Test.YtdbbcepjdojdcaaGreatDoorZ42
import Derived.Test.YtdbbcepjdojdcaaGreatDoorZ49
import Derived.Test.YtdbbcepjdojdcaaGreatDoorZ23
import Derived.Test.YtdbbcepjdojdcaaGreatDoorZ37
import Derived.Deep.RegionHeld3
namespace Go.Proofs.YtdbbcepjdojdcaaGreatDoor.applyDiff
open Go.RowKit

theorem own_of {w : World} {base g : Nat} {L : List (List UInt8 × Int × Int × List UInt8)} (h : QRow w g L) (hb : base ≤ g) (hl : L.length ≤ 1048576) : OwnQ w base (.slice (some ⟨g, 0, none⟩) L.length L.length) L :=
  .inr ⟨g, L.length, rfl, Nat.le_refl _, by unfold maxLen; omega, hb, h⟩

set_option maxRecDepth 20000 in
set_option maxHeartbeats 64000000 in
theorem core (nm1 : ByteArray) (ct1 : Int) (v10 : Value) (L1 : List (List UInt8 × Int × Int × List UInt8)) (f2 t2 : Int) (v20 : Value) (v21 : Value) (A2 : List (List UInt8 × Int × Int × List UInt8)) (U2 : List (List UInt8 × Int × Int × List UInt8)) (ok : Bool) (nmR : ByteArray) (ctR : Int) (LR : List (List UInt8 × Int × Int × List UInt8)) (w : World)
    (hn1 : nm1.size ≤ maxLen) (hr10 : RRow w v10 L1) (hx10 : Hid (∀ x ∈ L1, x.1.length ≤ maxLen ∧ x.2.2.2.length ≤ maxLen)) (hr20 : RRow w v20 A2) (hx20 : Hid (∀ x ∈ A2, x.1.length ≤ maxLen ∧ x.2.2.2.length ≤ maxLen)) (hr21 : RRow w v21 U2) (hx21 : Hid (∀ x ∈ U2, x.1.length ≤ maxLen ∧ x.2.2.2.length ≤ maxLen)) (hE : EnvZ w)
    (hLR : L1.length ≤ 1048576 → A2.length ≤ 1048576 → U2.length ≤ 1048576 → LR.length ≤ 1048576)
    (HS0 : Hid (nm1.size ≤ 1048576 → L1.length ≤ 1048576 → Hid (∀ x ∈ L1, x.1.length ≤ 1048576 ∧ x.2.2.2.length ≤ 1048576) → A2.length ≤ 1048576 → U2.length ≤ 1048576 → Hid (∀ x ∈ A2, x.1.length ≤ 1048576 ∧ x.2.2.2.length ≤ 1048576) → Hid (∀ x ∈ U2, x.1.length ≤ 1048576 ∧ x.2.2.2.length ≤ 1048576) → ∀ g1a g2a g2b W, QRow W g1a L1 → QRow W g2a A2 → QRow W g2b U2 → Calls Tryz.prog 8 #[ZonV nm1 ct1 (.slice (some ⟨g1a, 0, none⟩) L1.length L1.length), DifV f2 t2 (.slice (some ⟨g2a, 0, none⟩) A2.length A2.length) (.slice (some ⟨g2b, 0, none⟩) U2.length U2.length)] W fun e w' => (∃ vr0, e = .returned (.tuple #[ZonV nmR ctR (vr0), .bool ok]) ∧ RRow w' vr0 LR) ∧ Below W.heap.size W w'))
    (HI0 : Hid (nm1.size ≤ 1048576 → L1.length ≤ 1048576 → Hid (∀ x ∈ L1, x.1.length ≤ 1048576 ∧ x.2.2.2.length ≤ 1048576) → A2.length ≤ 1048576 → U2.length ≤ 1048576 → Hid (∀ x ∈ A2, x.1.length ≤ 1048576 ∧ x.2.2.2.length ≤ 1048576) → Hid (∀ x ∈ U2, x.1.length ≤ 1048576 ∧ x.2.2.2.length ≤ 1048576) → ∀ g1a g2a g2b W, EnvZ W → QRow W g1a L1 → QRow W g2a A2 → QRow W g2b U2 → Calls Tryz.prog 11 #[ZonV nm1 ct1 (.slice (some ⟨g1a, 0, none⟩) L1.length L1.length), DifV f2 t2 (.slice (some ⟨g2a, 0, none⟩) A2.length A2.length) (.slice (some ⟨g2b, 0, none⟩) U2.length U2.length)] W fun e w' => (∃ vr0, e = .returned (.tuple #[ZonV nmR ctR (vr0), .bool ok]) ∧ OwnQ w' W.heap.size vr0 LR) ∧ Below W.heap.size W w')) :
    Calls Tryz.prog 3 #[ZonV nm1 ct1 (v10), DifV f2 t2 (v20) (v21)] w fun e w' => e = .returned (.bool true) ∧ Below w.heap.size w w' := by
  obtain ⟨a10, k10, hv10, _, hk10, _⟩ := id hr10
  obtain ⟨a20, k20, hv20, _, hk20, _⟩ := id hr20
  obtain ⟨a21, k21, hv21, _, hk21, _⟩ := id hr21
  have HZ1 : Hid (∀ W, Below w.heap.size w W → Calls Tryz.prog 6 #[ZonV nm1 ct1 (v10), .int .i64 1048576] W fun e w' => (∃ q : Int, e = .returned (.int .i64 q) ∧ (q = -1 ∨ (0 ≤ q ∧ q = 1048576 - (nm1.size : Int) - (L1.length : Int) - (wtR L1 : Int)))) ∧ Below W.heap.size W w') := fun W hW => szZone_any nm1 ct1 v10 L1 1048576 W hn1 (hr10.kept hW) hx10 (by omega) (by omega)
  have HZ2 : Hid (∀ (q : Int) W, 0 ≤ q → q ≤ 1048576 → Below w.heap.size w W → Calls Tryz.prog 7 #[DifV f2 t2 (v20) (v21), .int .i64 q] W fun e w' => (∃ r : Int, e = .returned (.int .i64 r) ∧ (r = -1 ∨ (0 ≤ r ∧ r = q - (A2.length : Int) - (wtR A2 : Int) - (U2.length : Int) - (wtR U2 : Int)))) ∧ Below W.heap.size W w') := fun q W h0 h1 hW => szDiff_any f2 t2 v20 v21 A2 U2 q W (hr20.kept hW) (hr21.kept hW) hx20 hx21 h0 h1
  have HT1' : Hid (L1.length ≤ 1048576 → ∀ W, Below w.heap.size w W → Calls Tryz.prog 9 #[ZonV nm1 ct1 (v10)] W fun e w' => (∃ g, e = .returned (ZonV nm1 ct1 (.slice (some ⟨g, 0, none⟩) L1.length L1.length)) ∧ W.heap.size ≤ g ∧ QRow w' g L1) ∧ Below W.heap.size W w') := fun h1 W hW => toZone_any nm1 ct1 v10 L1 W (hr10.kept hW) h1
  have HT2' : Hid (A2.length ≤ 1048576 → U2.length ≤ 1048576 → ∀ W, Below w.heap.size w W → Calls Tryz.prog 10 #[DifV f2 t2 (v20) (v21)] W fun e w' => (∃ g g', e = .returned (DifV f2 t2 (.slice (some ⟨g, 0, none⟩) A2.length A2.length) (.slice (some ⟨g', 0, none⟩) U2.length U2.length)) ∧ W.heap.size ≤ g ∧ g < g' ∧ QRow w' g A2 ∧ QRow w' g' U2) ∧ Below W.heap.size W w') := fun h1 h2 W hW => toDiff_any f2 t2 v20 v21 A2 U2 W (hr20.kept hW) (hr21.kept hW) h1 h2
  have e2 : (ok != ok) = false := by simp
  subst hv10
  subst hv20
  subst hv21
  clear hr10 hr20 hr21
  obtain ⟨W0, hW0⟩ : ∃ W0, W0 = (w.alloc (.cells #[.string nm1, .int .i64 ct1, .slice a10 L1.length k10] 24)).alloc (.cells #[.int .i64 f2, .int .i64 t2, .slice a20 A2.length k20, .slice a21 U2.length k21] 26) := ⟨_, rfl⟩
  have HW0 : Hid ((w.alloc (.cells #[.string nm1, .int .i64 ct1, .slice a10 L1.length k10] 24)).alloc (.cells #[.int .i64 f2, .int .i64 t2, .slice a20 A2.length k20, .slice a21 U2.length k21] 26) = W0) := hW0.symm
  have HX : Hid (∀ W, Below W0.heap.size W0 W → ((W.cell? ⟨w.heap.size, 0, none⟩ = some (.string nm1) ∧ W.cell? ⟨w.heap.size, 1, none⟩ = some (.int .i64 ct1) ∧ W.cell? ⟨w.heap.size, 2, none⟩ = some (.slice a10 L1.length k10)) ∧ (W.cell? ⟨w.heap.size + 1, 0, none⟩ = some (.int .i64 f2) ∧ W.cell? ⟨w.heap.size + 1, 1, none⟩ = some (.int .i64 t2) ∧ W.cell? ⟨w.heap.size + 1, 2, none⟩ = some (.slice a20 A2.length k20) ∧ W.cell? ⟨w.heap.size + 1, 3, none⟩ = some (.slice a21 U2.length k21))) ∧ Below w.heap.size w W ∧ w.heap.size + 1 < W.heap.size) := fun W hW => by
    have hs := hW.size
    rw [hW0] at hW hs
    obtain ⟨q1, q2, q4⟩ := heaps2 hW
    exact ⟨⟨(zon_cells q1).1, (dif_cells q2).1⟩, q4, by simp at hs; omega⟩
  have HTR : Hid (∀ W W', Below W0.heap.size W0 W → Below W.heap.size W W' → Below W0.heap.size W0 W') := fun W W' h1 h2 => h1.trans (h2.mono h1.size)
  have hb0 : Below W0.heap.size W0 W0 := Below.refl _ _
  clear hW0
  unfold ZonV at HZ1 HT1' ⊢
  unfold DifV at HZ2 HT2'
  unfold DifV
  go_enter Tryz.func3, Tryz.ntmps3
  go_wp2_with fail
  rw [HW0.out]
  refine (HZ1.out _ (HX.out _ hb0).2.1).mono ?_
  rintro e w1 ⟨⟨q, rfl, hq⟩, hb1⟩
  have hb01 := HTR.out _ _ hb0 hb1
  obtain ⟨⟨⟨c0, c1, c2⟩, ⟨d0, d1, d2, d3⟩⟩, hbw1, _⟩ := HX.out _ hb01
  rcases hq with rfl | ⟨hq0, hqe⟩
  · go_wp2_with fail
    go_ret
    exact ⟨rfl, hbw1⟩
  have hq1 : q ≤ 1048576 := by omega
  have HQE : Hid (q = 1048576 - (nm1.size : Int) - (L1.length : Int) - (wtR L1 : Int)) := hqe
  clear hqe
  go_wp2_with fail
  refine (HZ2.out q _ hq0 hq1 hbw1).mono ?_
  rintro e w2 ⟨⟨r, rfl, hr⟩, hb2⟩
  have hb02 := HTR.out _ _ hb01 hb2
  clear c0 c1 c2 d0 d1 d2 d3
  obtain ⟨⟨⟨c0, c1, c2⟩, ⟨d0, d1, d2, d3⟩⟩, hbw2, hz2⟩ := HX.out _ hb02
  rcases hr with rfl | ⟨hr0, hre⟩
  · go_wp2_with fail
    go_ret
    exact ⟨rfl, hbw2⟩
  have hqe := HQE.out
  have hN1 : nm1.size ≤ 1048576 := by omega
  have hL10 : L1.length ≤ 1048576 := by omega
  have hX10 : ∀ x ∈ L1, x.1.length ≤ 1048576 ∧ x.2.2.2.length ≤ 1048576 := fun x hx => by have := wtR_mem hx; omega
  have hL20 : A2.length ≤ 1048576 := by omega
  have hX20 : ∀ x ∈ A2, x.1.length ≤ 1048576 ∧ x.2.2.2.length ≤ 1048576 := fun x hx => by have := wtR_mem hx; omega
  have hL21 : U2.length ≤ 1048576 := by omega
  have hX21 : ∀ x ∈ U2, x.1.length ≤ 1048576 ∧ x.2.2.2.length ≤ 1048576 := fun x hx => by have := wtR_mem hx; omega
  have HLR : Hid (LR.length ≤ 1048576) := hLR hL10 hL20 hL21
  have HT1 : Hid (∀ W, Below w.heap.size w W → Calls Tryz.prog 9 #[.agg #[.string nm1, .int .i64 ct1, .slice a10 L1.length k10]] W fun e w' => (∃ g, e = .returned (.agg #[.string nm1, .int .i64 ct1, .slice (some ⟨g, 0, none⟩) L1.length L1.length]) ∧ W.heap.size ≤ g ∧ QRow w' g L1) ∧ Below W.heap.size W w') := HT1'.out hL10
  have HT2 : Hid (∀ W, Below w.heap.size w W → Calls Tryz.prog 10 #[.agg #[.int .i64 f2, .int .i64 t2, .slice a20 A2.length k20, .slice a21 U2.length k21]] W fun e w' => (∃ g g', e = .returned (.agg #[.int .i64 f2, .int .i64 t2, .slice (some ⟨g, 0, none⟩) A2.length A2.length, .slice (some ⟨g', 0, none⟩) U2.length U2.length]) ∧ W.heap.size ≤ g ∧ g < g' ∧ QRow w' g A2 ∧ QRow w' g' U2) ∧ Below W.heap.size W w') := HT2'.out hL20 hL21
  have HS : Hid (∀ g1a g2a g2b W, QRow W g1a L1 → QRow W g2a A2 → QRow W g2b U2 → Calls Tryz.prog 8 #[ZonV nm1 ct1 (.slice (some ⟨g1a, 0, none⟩) L1.length L1.length), DifV f2 t2 (.slice (some ⟨g2a, 0, none⟩) A2.length A2.length) (.slice (some ⟨g2b, 0, none⟩) U2.length U2.length)] W fun e w' => (∃ vr0, e = .returned (.tuple #[ZonV nmR ctR (vr0), .bool ok]) ∧ RRow w' vr0 LR) ∧ Below W.heap.size W w') := HS0.out hN1 hL10 hX10 hL20 hL21 hX20 hX21
  have HI : Hid (∀ g1a g2a g2b W, EnvZ W → QRow W g1a L1 → QRow W g2a A2 → QRow W g2b U2 → Calls Tryz.prog 11 #[ZonV nm1 ct1 (.slice (some ⟨g1a, 0, none⟩) L1.length L1.length), DifV f2 t2 (.slice (some ⟨g2a, 0, none⟩) A2.length A2.length) (.slice (some ⟨g2b, 0, none⟩) U2.length U2.length)] W fun e w' => (∃ vr0, e = .returned (.tuple #[ZonV nmR ctR (vr0), .bool ok]) ∧ OwnQ w' W.heap.size vr0 LR) ∧ Below W.heap.size W w') := HI0.out hN1 hL10 hX10 hL20 hL21 hX20 hX21
  have HE1 : Hid (∀ p g W, QRow W p L1 → QRow W g L1 → Calls Tryz.prog 12 #[.agg #[.string nm1, .int .i64 ct1, .slice (some ⟨p, 0, none⟩) L1.length L1.length], .agg #[.string nm1, .int .i64 ct1, .slice (some ⟨g, 0, none⟩) L1.length L1.length]] W fun e w' => e = .returned (.bool true) ∧ Below W.heap.size W w') := fun p g W h1 h2 => eqZone_same nm1 ct1 _ _ L1 W (h1.row (Nat.le_refl _) (by unfold maxLen; omega)) (h2.row (Nat.le_refl _) (by unfold maxLen; omega))
  have HE2 : Hid (∀ p p' g g' W, QRow W p A2 → QRow W p' U2 → QRow W g A2 → QRow W g' U2 → Calls Tryz.prog 13 #[.agg #[.int .i64 f2, .int .i64 t2, .slice (some ⟨p, 0, none⟩) A2.length A2.length, .slice (some ⟨p', 0, none⟩) U2.length U2.length], .agg #[.int .i64 f2, .int .i64 t2, .slice (some ⟨g, 0, none⟩) A2.length A2.length, .slice (some ⟨g', 0, none⟩) U2.length U2.length]] W fun e w' => e = .returned (.bool true) ∧ Below W.heap.size W w') := fun p p' g g' W h1 h2 h3 h4 => eqDiff_same f2 t2 _ _ _ _ A2 U2 W (h1.row (Nat.le_refl _) (by unfold maxLen; omega)) (h2.row (Nat.le_refl _) (by unfold maxLen; omega)) (h3.row (Nat.le_refl _) (by unfold maxLen; omega)) (h4.row (Nat.le_refl _) (by unfold maxLen; omega))
  have HEG : Hid (∀ x0 y0 W, RRow W x0 LR → RRow W y0 LR → Calls Tryz.prog 12 #[ZonV nmR ctR (x0), ZonV nmR ctR (y0)] W fun e w' => e = .returned (.bool true) ∧ Below W.heap.size W w') := fun x0 y0 W h0 h1 => eqZone_same nmR ctR x0 y0 LR W h0 h1
  have HM1 : Hid (∀ x0 base W, OwnQ W base x0 L1 → Calls Tryz.prog 14 #[ZonV nm1 ct1 (x0), .int .i64 1] W fun e w' => e = .returned (.int .i64 (1 + 4 * (L1.length : Int))) ∧ Kpt W w' (fun k => x0.ownBlock = some k)) := fun x0 base W h1 => by
      have h := markZone_any nm1 ct1 x0 L1 base (1) W h1 hL10 (by omega) (by omega)
      have e : (((1 : Nat) : Int)) = 1 := by omega
      rw [e] at h
      exact h.mono fun e w' h' => ⟨h'.1, h'.2.2⟩
  have HM2 : Hid (∀ x0 x1 base W, OwnQ W base x0 A2 → OwnQ W base x1 U2 → (∀ g, x0.ownBlock = some g → x1.ownBlock ≠ some g) → Calls Tryz.prog 15 #[DifV f2 t2 (x0) (x1), .int .i64 (1 + 4 * (L1.length : Int))] W fun e w' => e = .returned (.int .i64 (1 + 4 * (L1.length : Int) + 4 * (A2.length : Int) + 4 * (U2.length : Int))) ∧ Kpt W w' (fun k => x0.ownBlock = some k ∨ x1.ownBlock = some k)) := fun x0 x1 base W h1 h2 h3 => by
      have h := markDiff_any f2 t2 x0 x1 A2 U2 base (1 + 4 * L1.length) W h1 h2 h3 hL20 hL21 (by omega) (by omega)
      have e : (((1 + 4 * L1.length : Nat) : Int)) = 1 + 4 * (L1.length : Int) := by omega
      rw [e] at h
      exact h.mono fun e w' h' => ⟨h'.1, h'.2.2.2⟩
  have HMG : Hid (∀ x0 base W, OwnQ W base x0 LR → Calls Tryz.prog 14 #[ZonV nmR ctR (x0), .int .i64 1] W fun e w' => e = .returned (.int .i64 (1 + 4 * (LR.length : Int))) ∧ OwnQ w' base x0 (mrks 1 LR.length) ∧ Kpt W w' (fun k => x0.ownBlock = some k)) := fun x0 base W h1 => markZone_any nmR ctR x0 LR base 1 W h1 HLR.out (by omega) (by omega)
  have HHG : Hid (∀ x0 base W, OwnQ W base x0 (mrks 1 LR.length) → Calls Tryz.prog 16 #[ZonV nmR ctR (x0), .int .i64 1] W fun e w' => e = .returned (.int .i64 (1 + 4 * (LR.length : Int))) ∧ Below W.heap.size W w') := fun x0 base W h1 => heldZone_any nmR ctR x0 LR.length 1 W h1.row HLR.out (by omega) (by omega)
  obtain ⟨qx, hqx⟩ : ∃ q : Int, q = 1 + 4 * (L1.length : Int) := ⟨_, rfl⟩
  obtain ⟨qy, hqy⟩ : ∃ q : Int, q = 1 + 4 * (L1.length : Int) + 4 * (A2.length : Int) + 4 * (U2.length : Int) := ⟨_, rfl⟩
  obtain ⟨qg, hqg⟩ : ∃ q : Int, q = 1 + (4 * (LR.length : Int)) := ⟨_, rfl⟩
  rw [← hqy, ← hqx] at HM2
  rw [← hqx] at HM1
  rw [← hqg] at HMG HHG
  have hqy0 : decide (qy < 0) = false := by simp; omega
  have hqy1 : ¬ qy < 0 := by omega
  have hqg0 : decide (qg < 0) = false := by simp; omega
  have hqg1 : ¬ qg < 0 := by omega
  have hqq : (qg != qg) = false := by simp
  unfold DifV ZonV at HS HI
  unfold ZonV at HEG HMG HHG
  unfold ZonV at HM1
  unfold DifV at HM2
  clear hqx hqy hqg hre hqe HQE hX10 hX20 hX21 HS0 HI0 HT1' HT2' HZ1 HZ2 hLR
  have HC2 : Hid (∀ W, Below w2.heap.size w2 W → ((W.cell? ⟨w.heap.size, 0, none⟩ = some (.string nm1) ∧ W.cell? ⟨w.heap.size, 1, none⟩ = some (.int .i64 ct1) ∧ W.cell? ⟨w.heap.size, 2, none⟩ = some (.slice a10 L1.length k10)) ∧ (W.cell? ⟨w.heap.size + 1, 0, none⟩ = some (.int .i64 f2) ∧ W.cell? ⟨w.heap.size + 1, 1, none⟩ = some (.int .i64 t2) ∧ W.cell? ⟨w.heap.size + 1, 2, none⟩ = some (.slice a20 A2.length k20) ∧ W.cell? ⟨w.heap.size + 1, 3, none⟩ = some (.slice a21 U2.length k21))) ∧ Below w2.heap.size w2 W) := fun W hW => ⟨(HX.out _ (HTR.out _ _ hb02 hW)).1, hW⟩
  have HBW : Hid (∀ W, Below w2.heap.size w2 W → Below w.heap.size w W) := fun W hW => (HX.out _ (HTR.out _ _ hb02 hW)).2.1
  have HT22 : Hid (∀ W W', Below w2.heap.size w2 W → Below W.heap.size W W' → Below w2.heap.size w2 W') := fun W W' h1 h2 => h1.trans (h2.mono h1.size)
  have hbz : Below w2.heap.size w2 w2 := Below.refl _ _
  have hbd : Below w2.heap.size w2 w2.drew := (Below.refl _ _).drew
  clear c0 c1 c2 d0 d1 d2 d3
  go_wp2_with fail
  have hS2 : Below w2.heap.size w2 w2.drew := (Below.refl _ _).drew
  have HTS2 := HT22
  have HBW2 := HBW
  refine Code.wp_mono (Q := fun e a W => e = Exit.normal ∧ ∃ (g3a g4a g4b gX : Nat) (aw0 : Option Addr) (cw0 : Nat), a = { tmps := #[.agg #[.string nm1, .int .i64 ct1, .slice a10 L1.length k10], .agg #[.int .i64 f2, .int .i64 t2, .slice a20 A2.length k20, .slice a21 U2.length k21], .pointer (some ⟨w.heap.size, 0, none⟩), .pointer (some ⟨w.heap.size + 1, 0, none⟩), .bool false, .int .i64 r, .pointer (some ⟨gX, 0, none⟩), .bool ok, undef, undef, undef, undef, undef, undef, undef, undef, undef, .agg #[.string nm1, .int .i64 ct1, .slice a10 L1.length k10], .int .i64 1048576, .int .i64 q, .int .i64 q, .bool (decide (q < 0)), .agg #[.int .i64 f2, .int .i64 t2, .slice a20 A2.length k20, .slice a21 U2.length k21], .int .i64 q, .int .i64 r, .int .i64 r, .bool (decide (r < 0)), .tuple #[.agg #[.string nmR, .int .i64 ctR, .slice aw0 LR.length cw0], .bool ok], .agg #[.string nm1, .int .i64 ct1, .slice a10 L1.length k10], .agg #[.string nm1, .int .i64 ct1, .slice (some ⟨g3a, 0, none⟩) L1.length L1.length], .agg #[.int .i64 f2, .int .i64 t2, .slice a20 A2.length k20, .slice a21 U2.length k21], .agg #[.int .i64 f2, .int .i64 t2, .slice (some ⟨g4a, 0, none⟩) A2.length A2.length, .slice (some ⟨g4b, 0, none⟩) U2.length U2.length], .tuple #[.agg #[.string nmR, .int .i64 ctR, .slice aw0 LR.length cw0], .bool ok], .agg #[.string nmR, .int .i64 ctR, .slice aw0 LR.length cw0], .bool ok, undef, undef, undef, undef, undef, undef, undef, undef, undef, undef, undef, undef, undef, undef, undef, undef, undef, undef, undef, undef, undef, undef, undef, undef, undef, undef, undef, undef, undef, undef, undef, undef, undef, undef, undef, undef, undef, undef, undef, undef, undef, undef, undef, undef, undef, undef, undef, undef, undef, undef, undef, undef, undef, undef, undef, undef, undef, undef, undef, undef, undef, undef, undef, undef, undef, undef, undef, undef, undef, undef, undef, undef, undef, undef, undef, undef, undef, undef, undef, undef, undef, undef, undef, undef], defers := [] } ∧ cw0 ≤ maxLen ∧ W.heap[gX]? = some (.cells #[.string nmR, .int .i64 ctR, .slice aw0 LR.length cw0] 31) ∧ RRow W (.slice aw0 LR.length cw0) LR ∧ Below w2.heap.size w2 W ∧ w2.heap.size ≤ gX) ?_ ?_
  rotate_left
  · refine wp_region_held_drew (S := fun W : World => Below w2.heap.size w2 W) (by kernel_rfl) hS2 (fun hHeld => ?_)
    refine wpAnyH_take (i := 0) (v := .agg #[.string nm1, .int .i64 ct1, .slice a10 L1.length k10]) rfl (by kernel_rfl) (by kernel_rfl) (by kernel_rfl) (fun _ _ _ h => (by cases h.1)) (Or.inl ⟨by rfl, ?_⟩) (by assumption) ?_
    · intro W hSW
      obtain ⟨⟨⟨q0, q1, q2⟩, ⟨y0, y1, y2, y3⟩⟩, _⟩ := HC2.out _ hSW
      go_simp
    simp only [Act.put, List.setIfInBounds_toArray]
    refine wpAnyH_take (i := 2) (v := .agg #[.int .i64 f2, .int .i64 t2, .slice a20 A2.length k20, .slice a21 U2.length k21]) rfl (by kernel_rfl) (by kernel_rfl) (by kernel_rfl) (fun _ _ _ h => (by cases h.1)) (Or.inl ⟨by rfl, ?_⟩) (by assumption) ?_
    · intro W hSW
      obtain ⟨⟨⟨q0, q1, q2⟩, ⟨y0, y1, y2, y3⟩⟩, _⟩ := HC2.out _ hSW
      go_simp
    simp only [Act.put]
    refine wpAnyH_ready (rs := [1, 8]) (by kernel_rfl) (by simp) ?_
    refine AllReadyH.cons rfl (fun K hK => ?_) (AllReadyH.cons rfl (fun K hK => ?_) AllReadyH.nil)
    · rw [if_pos (by rfl)]
      go_simp
      refine (HT1.out _ (HBW2.out _ hS2)).mono ?_
      rintro e w3 ⟨⟨g3a, rfl, hgz3, hq3a⟩, hb3⟩
      go_simp
      have hS3 := HTS2.out _ _ hS2 hb3
      refine hK.out _ _ hS3 (fun hSS => ?_)
      clear hK
      refine wpAnyH_ready (rs := [3, 8]) (by kernel_rfl) (by simp) ?_
      refine AllReadyH.cons rfl (fun K hK => ?_) (AllReadyH.cons rfl (fun K hK => ?_) AllReadyH.nil)
      · rw [if_pos (by rfl)]
        go_simp
        refine (HT2.out _ (HBW2.out _ hS3)).mono ?_
        rintro e w4 ⟨⟨g4a, g4b, rfl, hgz4, hgz4l, hq4a, hq4b⟩, hb4⟩
        go_simp
        have hS4 := HTS2.out _ _ hS3 hb4
        have hq3ax := hq3a.kept hb4
        refine hK.out _ _ hS4 (fun hSS => ?_)
        clear hK
        refine wpAnyH_ready (rs := [4, 8]) (by kernel_rfl) (by simp) ?_
        refine AllReadyH.cons rfl (fun K hK => ?_) (AllReadyH.cons rfl (fun K hK => ?_) AllReadyH.nil)
        · rw [if_pos (by rfl)]
          go_simp
          refine (HS.out g3a g4a g4b _ (hq3ax) (hq4a) (hq4b)).mono ?_
          rintro e w5 ⟨⟨vw0, rfl, hrr0⟩, hb5⟩
          obtain ⟨aw0, cw0, hvw0, _, hcw0, _⟩ := id hrr0
          subst hvw0
          go_simp
          have hS5 := HTS2.out _ _ hS4 hb5
          refine hK.out _ _ hS5 (fun hSS => ?_)
          clear hK
          refine wpAnyH_take (i := 5) (v := .tuple #[.agg #[.string nmR, .int .i64 ctR, .slice aw0 LR.length cw0], .bool ok]) rfl (by kernel_rfl) (by kernel_rfl) (by kernel_rfl) (fun _ _ _ h => (by cases h.1)) (Or.inl ⟨by rfl, ?_⟩) (by assumption) ?_
          · intro W hSW
            go_simp
          simp only [Act.put]
          refine wpAnyH_take (i := 6) (v := .agg #[.string nmR, .int .i64 ctR, .slice aw0 LR.length cw0]) rfl (by kernel_rfl) (by kernel_rfl) (by kernel_rfl) (fun _ _ _ h => (by cases h.1)) (Or.inl ⟨by rfl, ?_⟩) (by assumption) ?_
          · intro W hSW
            go_simp
          simp only [Act.put]
          refine wpAnyH_take (i := 7) (v := .bool ok) rfl (by kernel_rfl) (by kernel_rfl) (by kernel_rfl) (fun _ _ _ h => (by cases h.1)) (Or.inl ⟨by rfl, ?_⟩) (by assumption) ?_
          · intro W hSW
            go_simp
          simp only [Act.put]
          refine wpAnyH_ready (rs := [8]) (by kernel_rfl) (by simp) ?_
          refine AllReadyH.cons rfl (fun K hK => ?_) AllReadyH.nil
          rw [if_pos (by rfl)]
          go_simp
          have hS8x := Below.alloc hS5 (Below.size hS5) (.cells #[.string ⟨#[]⟩, .int .i64 0, .slice none 0 0] 31)
          refine hK.out _ _ hS8x (fun hSS => ?_)
          clear hK
          refine wpAnyH_ready (rs := [9]) (by kernel_rfl) (by simp) ?_
          refine AllReadyH.cons rfl (fun K hK => ?_) AllReadyH.nil
          rw [if_pos (by rfl)]
          have hF : (w5.alloc (.cells #[.string nmR, .int .i64 ctR, .slice aw0 LR.length cw0] 31)).heap[w5.heap.size]? = some (.cells #[.string nmR, .int .i64 ctR, .slice aw0 LR.length cw0] 31) := blk_new _ _
          have hR0 := hrr0.kept ((Below.refl w5.heap.size w5).alloc (Nat.le_refl _) (.cells #[.string nmR, .int .i64 ctR, .slice aw0 LR.length cw0] 31))
          have hSF := Below.alloc hS5 (Below.size hS5) (.cells #[.string nmR, .int .i64 ctR, .slice aw0 LR.length cw0] 31)
          have hgB : w2.heap.size ≤ w5.heap.size := hS5.size
          go_simp
          refine hK.out _ _ hSF (fun hSS => ?_)
          clear hK
          refine wpAnyH_take (i := 10) (v := .bool ok) rfl (by kernel_rfl) (by kernel_rfl) (by kernel_rfl) (fun _ _ _ h => (by cases h.1)) (Or.inl ⟨by rfl, ?_⟩) (by assumption) ?_
          · intro W hSW
            go_simp
          simp only [Act.put]
          refine wpAnyH_done (by kernel_rfl) ?_ _
          exact ⟨rfl, g3a, g4a, g4b, w5.heap.size, aw0, cw0, rfl, hcw0, hF, hR0, hSF, hgB⟩
        · rw [if_pos (by rfl)]
          go_simp
          have hS8x := Below.alloc hS4 (Below.size hS4) (.cells #[.string ⟨#[]⟩, .int .i64 0, .slice none 0 0] 31)
          refine hK.out _ _ hS8x (fun hSS => ?_)
          clear hK
          refine wpAnyH_ready (rs := [4]) (by kernel_rfl) (by simp) ?_
          refine AllReadyH.cons rfl (fun K hK => ?_) AllReadyH.nil
          rw [if_pos (by rfl)]
          go_simp
          refine (HS.out g3a g4a g4b _ (hq3ax.kept ((Below.refl _ _).alloc (Nat.le_refl _) _)) (hq4a.kept ((Below.refl _ _).alloc (Nat.le_refl _) _)) (hq4b.kept ((Below.refl _ _).alloc (Nat.le_refl _) _))).mono ?_
          rintro e w5 ⟨⟨vw0, rfl, hrr0⟩, hb5⟩
          obtain ⟨aw0, cw0, hvw0, _, hcw0, _⟩ := id hrr0
          subst hvw0
          go_simp
          have hS5 := HTS2.out _ _ hS8x hb5
          refine hK.out _ _ hS5 (fun hSS => ?_)
          clear hK
          refine wpAnyH_take (i := 5) (v := .tuple #[.agg #[.string nmR, .int .i64 ctR, .slice aw0 LR.length cw0], .bool ok]) rfl (by kernel_rfl) (by kernel_rfl) (by kernel_rfl) (fun _ _ _ h => (by cases h.1)) (Or.inl ⟨by rfl, ?_⟩) (by assumption) ?_
          · intro W hSW
            go_simp
          simp only [Act.put]
          refine wpAnyH_take (i := 6) (v := .agg #[.string nmR, .int .i64 ctR, .slice aw0 LR.length cw0]) rfl (by kernel_rfl) (by kernel_rfl) (by kernel_rfl) (fun _ _ _ h => (by cases h.1)) (Or.inl ⟨by rfl, ?_⟩) (by assumption) ?_
          · intro W hSW
            go_simp
          simp only [Act.put]
          refine wpAnyH_take (i := 7) (v := .bool ok) rfl (by kernel_rfl) (by kernel_rfl) (by kernel_rfl) (fun _ _ _ h => (by cases h.1)) (Or.inl ⟨by rfl, ?_⟩) (by assumption) ?_
          · intro W hSW
            go_simp
          simp only [Act.put]
          refine wpAnyH_ready (rs := [9]) (by kernel_rfl) (by simp) ?_
          refine AllReadyH.cons rfl (fun K hK => ?_) AllReadyH.nil
          rw [if_pos (by rfl)]
          have hk4 : (w5).heap[w4.heap.size]? = some (.cells #[.string ⟨#[]⟩, .int .i64 0, .slice none 0 0] 31) := (hb5.block w4.heap.size (by simp)).trans (blk_new _ _)
          have hgB : w2.heap.size ≤ w4.heap.size := hS4.size
          have hgk := kpt_put3 (w5) (w4.heap.size) (.string nmR) (.int .i64 ctR) (.slice aw0 LR.length cw0) (S := fun k => k = w4.heap.size) rfl
          have hF := put3_heap (v0 := .string nmR) (v1 := .int .i64 ctR) (v2 := .slice aw0 LR.length cw0) hk4
          have hR0 := hrr0.apartZ hk4 hgk
          have hSF := put3_below hS5 (g := w4.heap.size) hgB (.string nmR) (.int .i64 ctR) (.slice aw0 LR.length cw0)
          obtain ⟨⟨rr0, rr1, rr2⟩, ⟨ff0, ff1, ff2⟩⟩ := zon_cells hk4
          go_simp
          unfold put3 at hF hR0 hSF
          refine hK.out _ _ hSF (fun hSS => ?_)
          clear hK rr0 rr1 rr2 ff0 ff1 ff2 hgk hk4
          refine wpAnyH_take (i := 10) (v := .bool ok) rfl (by kernel_rfl) (by kernel_rfl) (by kernel_rfl) (fun _ _ _ h => (by cases h.1)) (Or.inl ⟨by rfl, ?_⟩) (by assumption) ?_
          · intro W hSW
            go_simp
          simp only [Act.put]
          refine wpAnyH_done (by kernel_rfl) ?_ _
          exact ⟨rfl, g3a, g4a, g4b, w4.heap.size, aw0, cw0, rfl, hcw0, hF, hR0, hSF, hgB⟩
      · rw [if_pos (by rfl)]
        go_simp
        have hS8x := Below.alloc hS3 (Below.size hS3) (.cells #[.string ⟨#[]⟩, .int .i64 0, .slice none 0 0] 31)
        refine hK.out _ _ hS8x (fun hSS => ?_)
        clear hK
        refine wpAnyH_ready (rs := [3]) (by kernel_rfl) (by simp) ?_
        refine AllReadyH.cons rfl (fun K hK => ?_) AllReadyH.nil
        rw [if_pos (by rfl)]
        go_simp
        refine (HT2.out _ (HBW2.out _ hS8x)).mono ?_
        rintro e w4 ⟨⟨g4a, g4b, rfl, hgz4, hgz4l, hq4a, hq4b⟩, hb4⟩
        go_simp
        have hS4 := HTS2.out _ _ hS8x hb4
        have hq3ax := (hq3a.kept ((Below.refl _ _).alloc (Nat.le_refl _) _)).kept hb4
        refine hK.out _ _ hS4 (fun hSS => ?_)
        clear hK
        refine wpAnyH_ready (rs := [4]) (by kernel_rfl) (by simp) ?_
        refine AllReadyH.cons rfl (fun K hK => ?_) AllReadyH.nil
        rw [if_pos (by rfl)]
        go_simp
        refine (HS.out g3a g4a g4b _ (hq3ax) (hq4a) (hq4b)).mono ?_
        rintro e w5 ⟨⟨vw0, rfl, hrr0⟩, hb5⟩
        obtain ⟨aw0, cw0, hvw0, _, hcw0, _⟩ := id hrr0
        subst hvw0
        go_simp
        have hS5 := HTS2.out _ _ hS4 hb5
        refine hK.out _ _ hS5 (fun hSS => ?_)
        clear hK
        refine wpAnyH_take (i := 5) (v := .tuple #[.agg #[.string nmR, .int .i64 ctR, .slice aw0 LR.length cw0], .bool ok]) rfl (by kernel_rfl) (by kernel_rfl) (by kernel_rfl) (fun _ _ _ h => (by cases h.1)) (Or.inl ⟨by rfl, ?_⟩) (by assumption) ?_
        · intro W hSW
          go_simp
        simp only [Act.put]
        refine wpAnyH_take (i := 6) (v := .agg #[.string nmR, .int .i64 ctR, .slice aw0 LR.length cw0]) rfl (by kernel_rfl) (by kernel_rfl) (by kernel_rfl) (fun _ _ _ h => (by cases h.1)) (Or.inl ⟨by rfl, ?_⟩) (by assumption) ?_
        · intro W hSW
          go_simp
        simp only [Act.put]
        refine wpAnyH_take (i := 7) (v := .bool ok) rfl (by kernel_rfl) (by kernel_rfl) (by kernel_rfl) (fun _ _ _ h => (by cases h.1)) (Or.inl ⟨by rfl, ?_⟩) (by assumption) ?_
        · intro W hSW
          go_simp
        simp only [Act.put]
        refine wpAnyH_ready (rs := [9]) (by kernel_rfl) (by simp) ?_
        refine AllReadyH.cons rfl (fun K hK => ?_) AllReadyH.nil
        rw [if_pos (by rfl)]
        have hk4 : (w5).heap[w3.heap.size]? = some (.cells #[.string ⟨#[]⟩, .int .i64 0, .slice none 0 0] 31) := (hb5.block w3.heap.size (by have h := hb4.size; simp at h; omega)).trans ((hb4.block w3.heap.size (by simp)).trans (blk_new _ _))
        have hgB : w2.heap.size ≤ w3.heap.size := hS3.size
        have hgk := kpt_put3 (w5) (w3.heap.size) (.string nmR) (.int .i64 ctR) (.slice aw0 LR.length cw0) (S := fun k => k = w3.heap.size) rfl
        have hF := put3_heap (v0 := .string nmR) (v1 := .int .i64 ctR) (v2 := .slice aw0 LR.length cw0) hk4
        have hR0 := hrr0.apartZ hk4 hgk
        have hSF := put3_below hS5 (g := w3.heap.size) hgB (.string nmR) (.int .i64 ctR) (.slice aw0 LR.length cw0)
        obtain ⟨⟨rr0, rr1, rr2⟩, ⟨ff0, ff1, ff2⟩⟩ := zon_cells hk4
        go_simp
        unfold put3 at hF hR0 hSF
        refine hK.out _ _ hSF (fun hSS => ?_)
        clear hK rr0 rr1 rr2 ff0 ff1 ff2 hgk hk4
        refine wpAnyH_take (i := 10) (v := .bool ok) rfl (by kernel_rfl) (by kernel_rfl) (by kernel_rfl) (fun _ _ _ h => (by cases h.1)) (Or.inl ⟨by rfl, ?_⟩) (by assumption) ?_
        · intro W hSW
          go_simp
        simp only [Act.put]
        refine wpAnyH_done (by kernel_rfl) ?_ _
        exact ⟨rfl, g3a, g4a, g4b, w3.heap.size, aw0, cw0, rfl, hcw0, hF, hR0, hSF, hgB⟩
    · rw [if_pos (by rfl)]
      go_simp
      have hS8x := Below.alloc hS2 (Below.size hS2) (.cells #[.string ⟨#[]⟩, .int .i64 0, .slice none 0 0] 31)
      refine hK.out _ _ hS8x (fun hSS => ?_)
      clear hK
      refine wpAnyH_ready (rs := [1]) (by kernel_rfl) (by simp) ?_
      refine AllReadyH.cons rfl (fun K hK => ?_) AllReadyH.nil
      rw [if_pos (by rfl)]
      go_simp
      refine (HT1.out _ (HBW2.out _ hS8x)).mono ?_
      rintro e w3 ⟨⟨g3a, rfl, hgz3, hq3a⟩, hb3⟩
      go_simp
      have hS3 := HTS2.out _ _ hS8x hb3
      refine hK.out _ _ hS3 (fun hSS => ?_)
      clear hK
      refine wpAnyH_ready (rs := [3]) (by kernel_rfl) (by simp) ?_
      refine AllReadyH.cons rfl (fun K hK => ?_) AllReadyH.nil
      rw [if_pos (by rfl)]
      go_simp
      refine (HT2.out _ (HBW2.out _ hS3)).mono ?_
      rintro e w4 ⟨⟨g4a, g4b, rfl, hgz4, hgz4l, hq4a, hq4b⟩, hb4⟩
      go_simp
      have hS4 := HTS2.out _ _ hS3 hb4
      have hq3ax := hq3a.kept hb4
      refine hK.out _ _ hS4 (fun hSS => ?_)
      clear hK
      refine wpAnyH_ready (rs := [4]) (by kernel_rfl) (by simp) ?_
      refine AllReadyH.cons rfl (fun K hK => ?_) AllReadyH.nil
      rw [if_pos (by rfl)]
      go_simp
      refine (HS.out g3a g4a g4b _ (hq3ax) (hq4a) (hq4b)).mono ?_
      rintro e w5 ⟨⟨vw0, rfl, hrr0⟩, hb5⟩
      obtain ⟨aw0, cw0, hvw0, _, hcw0, _⟩ := id hrr0
      subst hvw0
      go_simp
      have hS5 := HTS2.out _ _ hS4 hb5
      refine hK.out _ _ hS5 (fun hSS => ?_)
      clear hK
      refine wpAnyH_take (i := 5) (v := .tuple #[.agg #[.string nmR, .int .i64 ctR, .slice aw0 LR.length cw0], .bool ok]) rfl (by kernel_rfl) (by kernel_rfl) (by kernel_rfl) (fun _ _ _ h => (by cases h.1)) (Or.inl ⟨by rfl, ?_⟩) (by assumption) ?_
      · intro W hSW
        go_simp
      simp only [Act.put]
      refine wpAnyH_take (i := 6) (v := .agg #[.string nmR, .int .i64 ctR, .slice aw0 LR.length cw0]) rfl (by kernel_rfl) (by kernel_rfl) (by kernel_rfl) (fun _ _ _ h => (by cases h.1)) (Or.inl ⟨by rfl, ?_⟩) (by assumption) ?_
      · intro W hSW
        go_simp
      simp only [Act.put]
      refine wpAnyH_take (i := 7) (v := .bool ok) rfl (by kernel_rfl) (by kernel_rfl) (by kernel_rfl) (fun _ _ _ h => (by cases h.1)) (Or.inl ⟨by rfl, ?_⟩) (by assumption) ?_
      · intro W hSW
        go_simp
      simp only [Act.put]
      refine wpAnyH_ready (rs := [9]) (by kernel_rfl) (by simp) ?_
      refine AllReadyH.cons rfl (fun K hK => ?_) AllReadyH.nil
      rw [if_pos (by rfl)]
      have hk4 : (w5).heap[w2.heap.size]? = some (.cells #[.string ⟨#[]⟩, .int .i64 0, .slice none 0 0] 31) := (hb5.block w2.heap.size (by have h := hb4.size; have h' := hb3.size; simp at h'; omega)).trans ((hb4.block w2.heap.size (by have h' := hb3.size; simp at h'; omega)).trans ((hb3.block w2.heap.size (by simp)).trans (blk_new w2.drew _)))
      have hgB : w2.heap.size ≤ w2.heap.size := Nat.le_refl _
      have hgk := kpt_put3 (w5) (w2.heap.size) (.string nmR) (.int .i64 ctR) (.slice aw0 LR.length cw0) (S := fun k => k = w2.heap.size) rfl
      have hF := put3_heap (v0 := .string nmR) (v1 := .int .i64 ctR) (v2 := .slice aw0 LR.length cw0) hk4
      have hR0 := hrr0.apartZ hk4 hgk
      have hSF := put3_below hS5 (g := w2.heap.size) hgB (.string nmR) (.int .i64 ctR) (.slice aw0 LR.length cw0)
      obtain ⟨⟨rr0, rr1, rr2⟩, ⟨ff0, ff1, ff2⟩⟩ := zon_cells hk4
      go_simp
      unfold put3 at hF hR0 hSF
      refine hK.out _ _ hSF (fun hSS => ?_)
      clear hK rr0 rr1 rr2 ff0 ff1 ff2 hgk hk4
      refine wpAnyH_take (i := 10) (v := .bool ok) rfl (by kernel_rfl) (by kernel_rfl) (by kernel_rfl) (fun _ _ _ h => (by cases h.1)) (Or.inl ⟨by rfl, ?_⟩) (by assumption) ?_
      · intro W hSW
        go_simp
      simp only [Act.put]
      refine wpAnyH_done (by kernel_rfl) ?_ _
      exact ⟨rfl, g3a, g4a, g4b, w2.heap.size, aw0, cw0, rfl, hcw0, hF, hR0, hSF, hgB⟩
  rintro e act WFX ⟨rfl, g3a, g4a, g4b, gX, aw0, cw0, rfl, hcw0, hF, hR0, hSF, hgB⟩
  have hgl : gX < WFX.heap.size := (Array.getElem?_eq_some_iff.1 hF).1
  have hb0F : Below W0.heap.size W0 WFX := HTR.out _ _ hb02 hSF
  have HWF : Hid (∀ W, Below WFX.heap.size WFX W → W.heap[gX]? = some (.cells #[.string nmR, .int .i64 ctR, .slice aw0 LR.length cw0] 31) ∧ RRow W (.slice aw0 LR.length cw0) LR ∧ Below W0.heap.size W0 W) := fun W hW => ⟨(hW.block _ hgl).trans hF, hR0.kept hW, HTR.out _ _ hb0F hW⟩
  have HTF : Hid (∀ W W', Below WFX.heap.size WFX W → Below W.heap.size W W' → Below WFX.heap.size WFX W') := fun W W' h1 h2 => h1.trans (h2.mono h1.size)
  obtain ⟨⟨⟨c0, c1, c2⟩, ⟨d0, d1, d2, d3⟩⟩, hbwF, hzF⟩ := HX.out _ hb0F
  clear hF hR0 HS HC2 HBW HT22 HTS2 HBW2 hbz hbd hS2
  go_wp2_with fail
  refine (HT1.out _ hbwF).mono ?_
  rintro e w6 ⟨⟨g6a, rfl, hg6, hq6a⟩, hb6⟩
  have hg6l : g6a < w6.heap.size := hq6a.1
  have hbF6 : Below WFX.heap.size WFX w6 := hb6
  have hbF6a : Below WFX.heap.size WFX (w6.alloc (.cells #[.string nm1, .int .i64 ct1, .slice (some ⟨g6a, 0, none⟩) L1.length L1.length] 31)) := hb6.alloc hb6.size _
  clear c0 c1 c2 d0 d1 d2 d3
  obtain ⟨⟨⟨c0, c1, c2⟩, ⟨d0, d1, d2, d3⟩⟩, hbw6, hz6⟩ := HX.out _ (HWF.out _ hbF6a).2.2
  obtain ⟨⟨⟨y0, y1, y2⟩, ⟨z0, z1, z2, z3⟩⟩, _, hz6'⟩ := HX.out _ (HWF.out _ hbF6).2.2
  go_wp2_with fail
  refine (HT2.out _ hbw6).mono ?_
  rintro e w7 ⟨⟨g7a, g7b, rfl, hg7, hg7l, hq7a, hq7b⟩, hb7⟩
  have hg7l : g7b < w7.heap.size := hq7b.1
  have hg67 : w6.heap.size + 1 ≤ g7a := by simpa using hg7
  have hb67 : Below w6.heap.size w6 w7 := ((Below.refl w6.heap.size w6).alloc (Nat.le_refl _) _).trans (hb7.mono (by simp))
  have hbF7 := HTF.out _ _ hbF6 hb67
  have HX1a : Hid (w7.heap[w6.heap.size]? = some (.cells #[.string nm1, .int .i64 ct1, .slice (some ⟨g6a, 0, none⟩) L1.length L1.length] 31)) := (hb7.block w6.heap.size (by simp)).trans (blk_new _ _)
  have hz67 : w6.heap.size < w7.heap.size := Nat.lt_of_lt_of_le (by simp) hb7.size
  have HQ1a0 : Hid (QRow w7 g6a L1) := hq6a.kept hb67
  have HQ2a0 : Hid (QRow w7 g7a A2) := hq7a
  have HQ2a1 : Hid (QRow w7 g7b U2) := hq7b
  have hbF7a : Below WFX.heap.size WFX (w7.alloc (.cells #[.int .i64 f2, .int .i64 t2, .slice (some ⟨g7a, 0, none⟩) A2.length A2.length, .slice (some ⟨g7b, 0, none⟩) U2.length U2.length] 36)) := hbF7.alloc hbF7.size _
  clear c0 c1 c2 d0 d1 d2 d3
  clear y0 y1 y2 z0 z1 z2 z3 hb7 hg7 hq6a hq7a hq7b
  obtain ⟨⟨x0, x1, x2⟩, _⟩ := zon_cells HX1a.out
  go_wp2_with fail
  refine (HI.out g6a g7a g7b _ (hE.below (HX.out _ (HWF.out _ hbF7a).2.2).2.1) (HQ1a0.out.kept ((Below.refl w7.heap.size w7).alloc (Nat.le_refl _) _)) (HQ2a0.out.kept ((Below.refl w7.heap.size w7).alloc (Nat.le_refl _) _)) (HQ2a1.out.kept ((Below.refl w7.heap.size w7).alloc (Nat.le_refl _) _))).mono ?_
  rintro e w8 ⟨⟨vg0, rfl, hoo0⟩, hb8⟩
  obtain ⟨ag0, cg0, hvg0, hcg0⟩ := hoo0.shape
  subst hvg0
  have hb78 : Below w7.heap.size w7 w8 := ((Below.refl w7.heap.size w7).alloc (Nat.le_refl _) _).trans (hb8.mono (by simp))
  have hz78 : w7.heap.size < w8.heap.size := Nat.lt_of_lt_of_le (by simp) hb8.size
  have hbF8 := HTF.out _ _ hbF7 hb78
  have HX2b : Hid (w8.heap[w7.heap.size]? = some (.cells #[.int .i64 f2, .int .i64 t2, .slice (some ⟨g7a, 0, none⟩) A2.length A2.length, .slice (some ⟨g7b, 0, none⟩) U2.length U2.length] 36)) := (hb8.block w7.heap.size (by simp)).trans (blk_new _ _)
  have HX1b : Hid (w8.heap[w6.heap.size]? = some (.cells #[.string nm1, .int .i64 ct1, .slice (some ⟨g6a, 0, none⟩) L1.length L1.length] 31)) := (hb78.block _ hz67).trans HX1a.out
  have HO8_0 : Hid (OwnQ w8 (w7.heap.size + 1) (.slice ag0 LR.length cg0) LR) := by
    have h : OwnQ w8 (w7.heap.size + 1) (.slice ag0 LR.length cg0) LR := by simpa using hoo0
    exact h
  have HLG : Hid (∀ k, (Value.slice ag0 LR.length cg0).ownBlock = some k → w7.heap.size + 1 ≤ k ∧ k < w8.heap.size) := fun k h => HO8_0.out.lt k h
  have HQ1b0 : Hid (QRow w8 g6a L1) := HQ1a0.out.kept hb78
  have HQ2b0 : Hid (QRow w8 g7a A2) := HQ2a0.out.kept hb78
  have HQ2b1 : Hid (QRow w8 g7b U2) := HQ2a1.out.kept hb78
  obtain ⟨hW8, hA0, _⟩ := HWF.out _ (hbF8.alloc hbF8.size (.cells #[.string nmR, .int .i64 ctR, .slice ag0 LR.length cg0] 31))
  obtain ⟨hW8', _⟩ := HWF.out _ hbF8
  obtain ⟨⟨c0, c1, c2⟩, _⟩ := zon_cells hW8'
  have hltX : gX < w8.heap.size := Nat.lt_of_lt_of_le hgl hbF8.size
  clear x0 x1 x2 hoo0 hb8 hb67 hb78 HX1a HQ1a0 HQ2a0 HQ2a1 hW8
  go_wp2_with fail
  refine (HEG.out _ _ _ (HO8_0.out.row.kept ((Below.refl w8.heap.size w8).alloc (Nat.le_refl _) _)) hA0).mono ?_
  rintro e w9 ⟨rfl, hb9⟩
  have hb89 : Below w8.heap.size w8 w9 := ((Below.refl w8.heap.size w8).alloc (Nat.le_refl _) _).trans (hb9.mono (by simp))
  have hz89 : w8.heap.size < w9.heap.size := Nat.lt_of_lt_of_le (by simp) hb9.size
  have HG9 : Hid (w9.heap[w8.heap.size]? = some (.cells #[.string nmR, .int .i64 ctR, .slice ag0 LR.length cg0] 31)) := (hb9.block w8.heap.size (by simp)).trans (blk_new _ _)
  have hbF9 := HTF.out _ _ hbF8 hb89
  have HX1c : Hid (w9.heap[w6.heap.size]? = some (.cells #[.string nm1, .int .i64 ct1, .slice (some ⟨g6a, 0, none⟩) L1.length L1.length] 31)) := (hb89.block _ (by omega)).trans HX1b.out
  have HX2c : Hid (w9.heap[w7.heap.size]? = some (.cells #[.int .i64 f2, .int .i64 t2, .slice (some ⟨g7a, 0, none⟩) A2.length A2.length, .slice (some ⟨g7b, 0, none⟩) U2.length U2.length] 36)) := (hb89.block _ (by omega)).trans HX2b.out
  have HO9_0 : Hid (OwnQ w9 (w7.heap.size + 1) (.slice ag0 LR.length cg0) LR) := HO8_0.out.kept hb89
  have HQ1c0 : Hid (QRow w9 g6a L1) := HQ1b0.out.kept hb89
  have HQ2c0 : Hid (QRow w9 g7a A2) := HQ2b0.out.kept hb89
  have HQ2c1 : Hid (QRow w9 g7b U2) := HQ2b1.out.kept hb89
  have HC9 : Hid (∀ W, Below w9.heap.size w9 W → ((W.cell? ⟨w.heap.size, 0, none⟩ = some (.string nm1) ∧ W.cell? ⟨w.heap.size, 1, none⟩ = some (.int .i64 ct1) ∧ W.cell? ⟨w.heap.size, 2, none⟩ = some (.slice a10 L1.length k10)) ∧ (W.cell? ⟨w.heap.size + 1, 0, none⟩ = some (.int .i64 f2) ∧ W.cell? ⟨w.heap.size + 1, 1, none⟩ = some (.int .i64 t2) ∧ W.cell? ⟨w.heap.size + 1, 2, none⟩ = some (.slice a20 A2.length k20) ∧ W.cell? ⟨w.heap.size + 1, 3, none⟩ = some (.slice a21 U2.length k21))) ∧ (W.cell? ⟨w6.heap.size, 0, none⟩ = some (.string nm1) ∧ W.cell? ⟨w6.heap.size, 1, none⟩ = some (.int .i64 ct1) ∧ W.cell? ⟨w6.heap.size, 2, none⟩ = some (.slice (some ⟨g6a, 0, none⟩) L1.length L1.length)) ∧ Below w9.heap.size w9 W) := fun W hW => ⟨(HX.out _ (HWF.out _ (HTF.out _ _ hbF9 hW)).2.2).1, (zon_cells ((hW.block w6.heap.size (by omega)).trans HX1c.out)).1, hW⟩
  have HT9 : Hid (∀ W, Below w9.heap.size w9 W → Calls Tryz.prog 9 #[.agg #[.string nm1, .int .i64 ct1, .slice a10 L1.length k10]] W fun e w' => (∃ g, e = .returned (.agg #[.string nm1, .int .i64 ct1, .slice (some ⟨g, 0, none⟩) L1.length L1.length]) ∧ W.heap.size ≤ g ∧ QRow w' g L1) ∧ Below W.heap.size W w') := fun W hW => HT1.out W (HX.out _ (HWF.out _ (HTF.out _ _ hbF9 hW)).2.2).2.1
  have HE9 : Hid (∀ g W, Below w9.heap.size w9 W → QRow W g L1 → Calls Tryz.prog 12 #[.agg #[.string nm1, .int .i64 ct1, .slice (some ⟨g6a, 0, none⟩) L1.length L1.length], .agg #[.string nm1, .int .i64 ct1, .slice (some ⟨g, 0, none⟩) L1.length L1.length]] W fun e w' => e = .returned (.bool true) ∧ Below W.heap.size W w') := fun g W hW h0 => HE1.out g6a g W (HQ1c0.out.kept hW) h0
  have HTR9 : Hid (∀ W W', Below w9.heap.size w9 W → Below W.heap.size W W' → Below w9.heap.size w9 W') := fun W W' h1 h2 => h1.trans (h2.mono h1.size)
  have hbz : Below w9.heap.size w9 w9 := Below.refl _ _
  have hbd : Below w9.heap.size w9 w9.drew := (Below.refl _ _).drew
  clear c0 c1 c2 hb9 hb89 hA0 hW8' HX1b HX2b HQ1b0 HQ2b0 HQ2b1 HO8_0
  go_wp2_with fail
  go_region_held3 (fun W => ((W.cell? ⟨w.heap.size, 0, none⟩ = some (.string nm1) ∧ W.cell? ⟨w.heap.size, 1, none⟩ = some (.int .i64 ct1) ∧ W.cell? ⟨w.heap.size, 2, none⟩ = some (.slice a10 L1.length k10)) ∧ (W.cell? ⟨w.heap.size + 1, 0, none⟩ = some (.int .i64 f2) ∧ W.cell? ⟨w.heap.size + 1, 1, none⟩ = some (.int .i64 t2) ∧ W.cell? ⟨w.heap.size + 1, 2, none⟩ = some (.slice a20 A2.length k20) ∧ W.cell? ⟨w.heap.size + 1, 3, none⟩ = some (.slice a21 U2.length k21))) ∧ (W.cell? ⟨w6.heap.size, 0, none⟩ = some (.string nm1) ∧ W.cell? ⟨w6.heap.size, 1, none⟩ = some (.int .i64 ct1) ∧ W.cell? ⟨w6.heap.size, 2, none⟩ = some (.slice (some ⟨g6a, 0, none⟩) L1.length L1.length)) ∧ Below w9.heap.size w9 W) (first | exact HC9.out _ (by assumption) | exact HC9.out _ (Below.drew (by assumption)))
    (first
    | (go_at_call 9; refine (HT9.out _ (by assumption)).mono ?_; rintro e w10 ⟨⟨g10a, rfl, _hgz10, hq10a⟩, hb10⟩; have hb910 := HTR9.out _ _ (by assumption) hb10)
    | (go_at_call 12; refine (HE9.out _ _ (by assumption) (by assumption)).mono ?_; rintro e w11 ⟨rfl, hb11⟩; have hb911 := HTR9.out _ _ (by assumption) hb11))
  have hz911 : w9.heap.size ≤ w11.heap.size := hb911.size
  have hbF11 := HTF.out _ _ hbF9 hb911
  have HG11 : Hid (w11.heap[w8.heap.size]? = some (.cells #[.string nmR, .int .i64 ctR, .slice ag0 LR.length cg0] 31)) := (hb911.block _ (by omega)).trans HG9.out
  have HX1d : Hid (w11.heap[w6.heap.size]? = some (.cells #[.string nm1, .int .i64 ct1, .slice (some ⟨g6a, 0, none⟩) L1.length L1.length] 31)) := (hb911.block _ (by omega)).trans HX1c.out
  have HX2d : Hid (w11.heap[w7.heap.size]? = some (.cells #[.int .i64 f2, .int .i64 t2, .slice (some ⟨g7a, 0, none⟩) A2.length A2.length, .slice (some ⟨g7b, 0, none⟩) U2.length U2.length] 36)) := (hb911.block _ (by omega)).trans HX2c.out
  have HO11_0 : Hid (OwnQ w11 (w7.heap.size + 1) (.slice ag0 LR.length cg0) LR) := HO9_0.out.kept hb911
  have HQ1d0 : Hid (QRow w11 g6a L1) := HQ1c0.out.kept hb911
  have HQ2d0 : Hid (QRow w11 g7a A2) := HQ2c0.out.kept hb911
  have HQ2d1 : Hid (QRow w11 g7b U2) := HQ2c1.out.kept hb911
  have HC11 : Hid (∀ W, Below w11.heap.size w11 W → ((W.cell? ⟨w.heap.size, 0, none⟩ = some (.string nm1) ∧ W.cell? ⟨w.heap.size, 1, none⟩ = some (.int .i64 ct1) ∧ W.cell? ⟨w.heap.size, 2, none⟩ = some (.slice a10 L1.length k10)) ∧ (W.cell? ⟨w.heap.size + 1, 0, none⟩ = some (.int .i64 f2) ∧ W.cell? ⟨w.heap.size + 1, 1, none⟩ = some (.int .i64 t2) ∧ W.cell? ⟨w.heap.size + 1, 2, none⟩ = some (.slice a20 A2.length k20) ∧ W.cell? ⟨w.heap.size + 1, 3, none⟩ = some (.slice a21 U2.length k21))) ∧ (W.cell? ⟨w7.heap.size, 0, none⟩ = some (.int .i64 f2) ∧ W.cell? ⟨w7.heap.size, 1, none⟩ = some (.int .i64 t2) ∧ W.cell? ⟨w7.heap.size, 2, none⟩ = some (.slice (some ⟨g7a, 0, none⟩) A2.length A2.length) ∧ W.cell? ⟨w7.heap.size, 3, none⟩ = some (.slice (some ⟨g7b, 0, none⟩) U2.length U2.length)) ∧ Below w11.heap.size w11 W) := fun W hW => ⟨(HX.out _ (HWF.out _ (HTF.out _ _ hbF11 hW)).2.2).1, (dif_cells ((hW.block w7.heap.size (by omega)).trans HX2d.out)).1, hW⟩
  have HT11 : Hid (∀ W, Below w11.heap.size w11 W → Calls Tryz.prog 10 #[.agg #[.int .i64 f2, .int .i64 t2, .slice a20 A2.length k20, .slice a21 U2.length k21]] W fun e w' => (∃ g g', e = .returned (.agg #[.int .i64 f2, .int .i64 t2, .slice (some ⟨g, 0, none⟩) A2.length A2.length, .slice (some ⟨g', 0, none⟩) U2.length U2.length]) ∧ W.heap.size ≤ g ∧ g < g' ∧ QRow w' g A2 ∧ QRow w' g' U2) ∧ Below W.heap.size W w') := fun W hW => HT2.out W (HX.out _ (HWF.out _ (HTF.out _ _ hbF11 hW)).2.2).2.1
  have HE11 : Hid (∀ g g' W, Below w11.heap.size w11 W → QRow W g A2 → QRow W g' U2 → Calls Tryz.prog 13 #[.agg #[.int .i64 f2, .int .i64 t2, .slice (some ⟨g7a, 0, none⟩) A2.length A2.length, .slice (some ⟨g7b, 0, none⟩) U2.length U2.length], .agg #[.int .i64 f2, .int .i64 t2, .slice (some ⟨g, 0, none⟩) A2.length A2.length, .slice (some ⟨g', 0, none⟩) U2.length U2.length]] W fun e w' => e = .returned (.bool true) ∧ Below W.heap.size W w') := fun g g' W hW h0 h1 => HE2.out g7a g7b g g' W (HQ2d0.out.kept hW) (HQ2d1.out.kept hW) h0 h1
  have HTR11 : Hid (∀ W W', Below w11.heap.size w11 W → Below W.heap.size W W' → Below w11.heap.size w11 W') := fun W W' h1 h2 => h1.trans (h2.mono h1.size)
  have hby : Below w11.heap.size w11 w11 := Below.refl _ _
  have hbe : Below w11.heap.size w11 w11.drew := (Below.refl _ _).drew
  clear hbz hbd HC9 HT9 HE9 HTR9 HG9 HX1c HX2c HO9_0 HQ1c0 HQ2c0 HQ2c1 hb911
  go_wp2_with fail
  go_region_held3 (fun W => ((W.cell? ⟨w.heap.size, 0, none⟩ = some (.string nm1) ∧ W.cell? ⟨w.heap.size, 1, none⟩ = some (.int .i64 ct1) ∧ W.cell? ⟨w.heap.size, 2, none⟩ = some (.slice a10 L1.length k10)) ∧ (W.cell? ⟨w.heap.size + 1, 0, none⟩ = some (.int .i64 f2) ∧ W.cell? ⟨w.heap.size + 1, 1, none⟩ = some (.int .i64 t2) ∧ W.cell? ⟨w.heap.size + 1, 2, none⟩ = some (.slice a20 A2.length k20) ∧ W.cell? ⟨w.heap.size + 1, 3, none⟩ = some (.slice a21 U2.length k21))) ∧ (W.cell? ⟨w7.heap.size, 0, none⟩ = some (.int .i64 f2) ∧ W.cell? ⟨w7.heap.size, 1, none⟩ = some (.int .i64 t2) ∧ W.cell? ⟨w7.heap.size, 2, none⟩ = some (.slice (some ⟨g7a, 0, none⟩) A2.length A2.length) ∧ W.cell? ⟨w7.heap.size, 3, none⟩ = some (.slice (some ⟨g7b, 0, none⟩) U2.length U2.length)) ∧ Below w11.heap.size w11 W) (first | exact HC11.out _ (by assumption) | exact HC11.out _ (Below.drew (by assumption)))
    (first
    | (go_at_call 10; refine (HT11.out _ (by assumption)).mono ?_; rintro e w12 ⟨⟨g12a, g12b, rfl, _hgz12, _hgz12l, hq12a, hq12b⟩, hb12⟩; have hb1112 := HTR11.out _ _ (by assumption) hb12)
    | (go_at_call 13; refine (HE11.out _ _ _ (by assumption) (by assumption) (by assumption)).mono ?_; rintro e w13 ⟨rfl, hb13⟩; have hb1113 := HTR11.out _ _ (by assumption) hb13))
  have hz1113 : w11.heap.size ≤ w13.heap.size := hb1113.size
  have hbF13 := HTF.out _ _ hbF11 hb1113
  have HG13 : Hid (w13.heap[w8.heap.size]? = some (.cells #[.string nmR, .int .i64 ctR, .slice ag0 LR.length cg0] 31)) := (hb1113.block _ (by omega)).trans HG11.out
  have HX1e : Hid (w13.heap[w6.heap.size]? = some (.cells #[.string nm1, .int .i64 ct1, .slice (some ⟨g6a, 0, none⟩) L1.length L1.length] 31)) := (hb1113.block _ (by omega)).trans HX1d.out
  have HX2e : Hid (w13.heap[w7.heap.size]? = some (.cells #[.int .i64 f2, .int .i64 t2, .slice (some ⟨g7a, 0, none⟩) A2.length A2.length, .slice (some ⟨g7b, 0, none⟩) U2.length U2.length] 36)) := (hb1113.block _ (by omega)).trans HX2d.out
  have HO13_0 : Hid (OwnQ w13 (w7.heap.size + 1) (.slice ag0 LR.length cg0) LR) := HO11_0.out.kept hb1113
  have HQ1e0 : Hid (QRow w13 g6a L1) := HQ1d0.out.kept hb1113
  have HQ2e0 : Hid (QRow w13 g7a A2) := HQ2d0.out.kept hb1113
  have HQ2e1 : Hid (QRow w13 g7b U2) := HQ2d1.out.kept hb1113
  obtain ⟨⟨x0, x1, x2⟩, _⟩ := zon_cells HX1e.out
  clear hby hbe HC11 HT11 HE11 HTR11 HG11 HX1d HX2d HO11_0 HQ1d0 HQ2d0 HQ2d1 hb1113
  go_wp2_with fail
  refine (HM1.out _ WFX.heap.size _ (own_of HQ1e0.out (by omega) hL10)).mono ?_
  rintro e w14 ⟨rfl, hk14⟩
  clear x0 x1 x2
  have HLX : Hid (∀ k, (Value.slice (some ⟨g6a, 0, none⟩) L1.length L1.length).ownBlock = some k → WFX.heap.size ≤ k ∧ k < w6.heap.size) := fun k h => by
    simp only [Value.ownBlock, Option.some.injEq] at h
    omega
  have hz1314 : w13.heap.size ≤ w14.heap.size := hk14.size
  have hbF14 : Below WFX.heap.size WFX w14 := hbF13.trans (hk14.below hbF13.size (fun k hk h => by have h1 := HLX.out _ h; omega))
  have HG14 : Hid (w14.heap[w8.heap.size]? = some (.cells #[.string nmR, .int .i64 ctR, .slice ag0 LR.length cg0] 31)) := (hk14.block _ (by omega) (fun h => by have h1 := HLX.out _ h; omega)).trans HG13.out
  have HX2f : Hid (w14.heap[w7.heap.size]? = some (.cells #[.int .i64 f2, .int .i64 t2, .slice (some ⟨g7a, 0, none⟩) A2.length A2.length, .slice (some ⟨g7b, 0, none⟩) U2.length U2.length] 36)) := (hk14.block _ (by omega) (fun h => by have h1 := HLX.out _ h; omega)).trans HX2e.out
  have HO14_0 : Hid (OwnQ w14 (w7.heap.size + 1) (.slice ag0 LR.length cg0) LR) := HO13_0.out.kpt hk14 (fun g hg h => by have h1 := HLX.out _ h; have h2 := HLG.out g hg; omega)
  have HQ2f0 : Hid (QRow w14 g7a A2) := HQ2e0.out.kpt hk14 (fun h => by have h1 := HLX.out _ h; omega)
  have HQ2f1 : Hid (QRow w14 g7b U2) := HQ2e1.out.kpt hk14 (fun h => by have h1 := HLX.out _ h; omega)
  obtain ⟨⟨x0, x1, x2, x3⟩, _⟩ := dif_cells HX2f.out
  clear hk14 HG13 HX1e HX2e HO13_0 HQ1e0 HQ2e0 HQ2e1 HLX hbF13
  go_wp2_with fail
  refine (HM2.out _ _ WFX.heap.size _ (own_of HQ2f0.out (by omega) hL20) (own_of HQ2f1.out (by omega) hL21) (fun g h h' => by simp only [Value.ownBlock, Option.some.injEq] at h h'; omega)).mono ?_
  rintro e w14b ⟨rfl, hk14b⟩
  clear x0 x1 x2 x3
  have HLY : Hid (∀ k, (Value.slice (some ⟨g7a, 0, none⟩) A2.length A2.length).ownBlock = some k ∨ (Value.slice (some ⟨g7b, 0, none⟩) U2.length U2.length).ownBlock = some k → w6.heap.size + 1 ≤ k ∧ k < w7.heap.size) := fun k h => by
    simp only [Value.ownBlock, Option.some.injEq] at h
    omega
  have hz14b : w14.heap.size ≤ w14b.heap.size := hk14b.size
  have hbF14b : Below WFX.heap.size WFX w14b := hbF14.trans (hk14b.below hbF14.size (fun k hk h => by have h1 := HLY.out _ h; omega))
  have HG14b : Hid (w14b.heap[w8.heap.size]? = some (.cells #[.string nmR, .int .i64 ctR, .slice ag0 LR.length cg0] 31)) := (hk14b.block _ (by omega) (fun h => by have h1 := HLY.out _ h; omega)).trans HG14.out
  have HO14b_0 : Hid (OwnQ w14b (w7.heap.size + 1) (.slice ag0 LR.length cg0) LR) := HO14_0.out.kpt hk14b (fun g hg h => by have h1 := HLY.out _ h; have h2 := HLG.out g hg; omega)
  obtain ⟨hWc, hA0, _⟩ := HWF.out _ hbF14b
  obtain ⟨⟨c0, c1, c2⟩, _⟩ := zon_cells hWc
  obtain ⟨⟨h0, h1, h2⟩, _⟩ := zon_cells HG14b.out
  clear hk14b HG14 HX2f HO14_0 HQ2f0 HQ2f1 HLY hbF14 hWc
  go_wp2_with fail
  refine (HEG.out _ _ _ HO14b_0.out.row hA0).mono ?_
  rintro e w15 ⟨rfl, hb15⟩
  clear c0 c1 c2 h0 h1 h2 hA0
  have hz15 : w14b.heap.size ≤ w15.heap.size := hb15.size
  have hbF15 := HTF.out _ _ hbF14b hb15
  have HG15 : Hid (w15.heap[w8.heap.size]? = some (.cells #[.string nmR, .int .i64 ctR, .slice ag0 LR.length cg0] 31)) := (hb15.block _ (by omega)).trans HG14b.out
  have HO15_0 : Hid (OwnQ w15 (w7.heap.size + 1) (.slice ag0 LR.length cg0) LR) := HO14b_0.out.kept hb15
  obtain ⟨⟨c0, c1, c2⟩, _⟩ := zon_cells HG15.out
  clear hb15 HG14b HO14b_0
  go_wp2_with fail
  refine (HMG.out _ (w7.heap.size + 1) _ HO15_0.out).mono ?_
  rintro e w15b ⟨rfl, ho15_0, hk15⟩
  clear c0 c1 c2
  have hz15b : w15.heap.size ≤ w15b.heap.size := hk15.size
  have hbF15b : Below WFX.heap.size WFX w15b := hbF15.trans (hk15.below hbF15.size (fun k hk h => by have h1 := HLG.out _ h; have h2 := hbF7.size; omega))
  have HG15b : Hid (w15b.heap[w8.heap.size]? = some (.cells #[.string nmR, .int .i64 ctR, .slice ag0 LR.length cg0] 31)) := (hk15.block _ (by omega) (fun h => by have h1 := HLG.out _ h; omega)).trans HG15.out
  obtain ⟨⟨c0, c1, c2⟩, _⟩ := zon_cells HG15b.out
  clear hk15 HG15 HO15_0 hbF15
  go_wp2_with fail
  refine (HHG.out _ _ _ ho15_0).mono ?_
  rintro e w16 ⟨rfl, hb16⟩
  clear c0 c1 c2
  have hz16 : w15b.heap.size ≤ w16.heap.size := hb16.size
  have hbF16 := HTF.out _ _ hbF15b hb16
  have HG16 : Hid (w16.heap[w8.heap.size]? = some (.cells #[.string nmR, .int .i64 ctR, .slice ag0 LR.length cg0] 31)) := (hb16.block _ (by omega)).trans HG15b.out
  have HO16_0 : Hid (OwnQ w16 (w7.heap.size + 1) (.slice ag0 LR.length cg0) (mrks 1 LR.length)) := ho15_0.kept hb16
  have HC16 : Hid (∀ W, Below w16.heap.size w16 W → ((W.cell? ⟨w.heap.size, 0, none⟩ = some (.string nm1) ∧ W.cell? ⟨w.heap.size, 1, none⟩ = some (.int .i64 ct1) ∧ W.cell? ⟨w.heap.size, 2, none⟩ = some (.slice a10 L1.length k10)) ∧ (W.cell? ⟨w.heap.size + 1, 0, none⟩ = some (.int .i64 f2) ∧ W.cell? ⟨w.heap.size + 1, 1, none⟩ = some (.int .i64 t2) ∧ W.cell? ⟨w.heap.size + 1, 2, none⟩ = some (.slice a20 A2.length k20) ∧ W.cell? ⟨w.heap.size + 1, 3, none⟩ = some (.slice a21 U2.length k21))) ∧ Below w16.heap.size w16 W) := fun W hW => ⟨(HX.out _ (HWF.out _ (HTF.out _ _ hbF16 hW)).2.2).1, hW⟩
  have HBW16 : Hid (∀ W, Below w16.heap.size w16 W → Below w.heap.size w W) := fun W hW => (HX.out _ (HWF.out _ (HTF.out _ _ hbF16 hW)).2.2).2.1
  have HTS16 : Hid (∀ W W', Below w16.heap.size w16 W → Below W.heap.size W W' → Below w16.heap.size w16 W') := fun W W' h1 h2 => h1.trans (h2.mono h1.size)
  have hS16 : Below w16.heap.size w16 w16.drew := (Below.refl _ _).drew
  clear ho15_0 hb16 HG15b hbF15b
  go_wp2_with fail
  refine wp_region_held_drew (S := fun W : World => Below w16.heap.size w16 W) (by kernel_rfl) hS16 (fun hHeld => ?_)
  refine wpAnyH_take (i := 0) (v := .agg #[.string nm1, .int .i64 ct1, .slice a10 L1.length k10]) rfl (by kernel_rfl) (by kernel_rfl) (by kernel_rfl) (fun _ _ _ h => h) (Or.inl ⟨by rfl, ?_⟩) (by assumption) ?_
  · intro W hSW
    obtain ⟨⟨⟨q0, q1, q2⟩, ⟨y0, y1, y2, y3⟩⟩, _⟩ := HC16.out _ hSW
    go_simp
  simp only [Act.put, List.setIfInBounds_toArray]
  refine wpAnyH_take (i := 2) (v := .agg #[.int .i64 f2, .int .i64 t2, .slice a20 A2.length k20, .slice a21 U2.length k21]) rfl (by kernel_rfl) (by kernel_rfl) (by kernel_rfl) (fun _ _ _ h => h) (Or.inl ⟨by rfl, ?_⟩) (by assumption) ?_
  · intro W hSW
    obtain ⟨⟨⟨q0, q1, q2⟩, ⟨y0, y1, y2, y3⟩⟩, _⟩ := HC16.out _ hSW
    go_simp
  simp only [Act.put]
  refine wpAnyH_ready (rs := [1, 8]) (by kernel_rfl) (by simp) ?_
  refine AllReadyH.cons rfl (fun K hK => ?_) (AllReadyH.cons rfl (fun K hK => ?_) AllReadyH.nil)
  · rw [if_pos (by rfl)]
    go_simp
    refine (HT1.out _ (HBW16.out _ hS16)).mono ?_
    rintro e w17 ⟨⟨g17a, rfl, hgz17, hq17a⟩, hb17⟩
    go_simp
    have hS17 := HTS16.out _ _ hS16 hb17
    refine hK.out _ _ hS17 (fun hSS => ?_)
    clear hK
    refine wpAnyH_ready (rs := [3, 8]) (by kernel_rfl) (by simp) ?_
    refine AllReadyH.cons rfl (fun K hK => ?_) (AllReadyH.cons rfl (fun K hK => ?_) AllReadyH.nil)
    · rw [if_pos (by rfl)]
      go_simp
      refine (HT2.out _ (HBW16.out _ hS17)).mono ?_
      rintro e w18 ⟨⟨g18a, g18b, rfl, hgz18, hgz18l, hq18a, hq18b⟩, hb18⟩
      go_simp
      have hS18 := HTS16.out _ _ hS17 hb18
      have hq17ax := hq17a.kept hb18
      refine hK.out _ _ hS18 (fun hSS => ?_)
      clear hK
      refine wpAnyH_ready (rs := [4, 8]) (by kernel_rfl) (by simp) ?_
      refine AllReadyH.cons rfl (fun K hK => ?_) (AllReadyH.cons rfl (fun K hK => ?_) AllReadyH.nil)
      · rw [if_pos (by rfl)]
        go_simp
        refine (HI.out g17a g18a g18b _ (hE.below (HBW16.out _ hS18)) (hq17ax) (hq18a) (hq18b)).mono ?_
        rintro e w19 ⟨⟨vh0, rfl, hoo0⟩, hb19⟩
        obtain ⟨ah0, ch0, hvh0, hch0⟩ := hoo0.shape
        subst hvh0
        have hrr0 := hoo0.row
        go_simp
        have hS19 := HTS16.out _ _ hS18 hb19
        refine hK.out _ _ hS19 (fun hSS => ?_)
        clear hK
        refine wpAnyH_take (i := 5) (v := .tuple #[.agg #[.string nmR, .int .i64 ctR, .slice ah0 LR.length ch0], .bool ok]) rfl (by kernel_rfl) (by kernel_rfl) (by kernel_rfl) (fun _ _ _ h => h) (Or.inl ⟨by rfl, ?_⟩) (by assumption) ?_
        · intro W hSW
          go_simp
        simp only [Act.put]
        refine wpAnyH_take (i := 6) (v := .agg #[.string nmR, .int .i64 ctR, .slice ah0 LR.length ch0]) rfl (by kernel_rfl) (by kernel_rfl) (by kernel_rfl) (fun _ _ _ h => h) (Or.inl ⟨by rfl, ?_⟩) (by assumption) ?_
        · intro W hSW
          go_simp
        simp only [Act.put]
        refine wpAnyH_take (i := 7) (v := .bool ok) rfl (by kernel_rfl) (by kernel_rfl) (by kernel_rfl) (fun _ _ _ h => h) (Or.inl ⟨by rfl, ?_⟩) (by assumption) ?_
        · intro W hSW
          go_simp
        simp only [Act.put]
        refine wpAnyH_ready (rs := [8]) (by kernel_rfl) (by simp) ?_
        refine AllReadyH.cons rfl (fun K hK => ?_) AllReadyH.nil
        rw [if_pos (by rfl)]
        go_simp
        have hS8x := Below.alloc hS19 (Below.size hS19) (.cells #[.string ⟨#[]⟩, .int .i64 0, .slice none 0 0] 31)
        refine hK.out _ _ hS8x (fun hSS => ?_)
        clear hK
        refine wpAnyH_ready (rs := [9]) (by kernel_rfl) (by simp) ?_
        refine AllReadyH.cons rfl (fun K hK => ?_) AllReadyH.nil
        rw [if_pos (by rfl)]
        have hF : (w19.alloc (.cells #[.string nmR, .int .i64 ctR, .slice ah0 LR.length ch0] 31)).heap[w19.heap.size]? = some (.cells #[.string nmR, .int .i64 ctR, .slice ah0 LR.length ch0] 31) := blk_new _ _
        have hR0 := hrr0.kept ((Below.refl w19.heap.size w19).alloc (Nat.le_refl _) (.cells #[.string nmR, .int .i64 ctR, .slice ah0 LR.length ch0] 31))
        have hSF := Below.alloc hS19 (Below.size hS19) (.cells #[.string nmR, .int .i64 ctR, .slice ah0 LR.length ch0] 31)
        have hgB : w16.heap.size ≤ w19.heap.size := hS19.size
        go_simp
        refine hK.out _ _ hSF (fun hSS => ?_)
        clear hK
        refine wpAnyH_take (i := 10) (v := .bool ok) rfl (by kernel_rfl) (by kernel_rfl) (by kernel_rfl) (fun _ _ _ h => h) (Or.inl ⟨by rfl, ?_⟩) (by assumption) ?_
        · intro W hSW
          go_simp
        simp only [Act.put]
        refine wpAnyH_done (by kernel_rfl) ?_ _
        obtain ⟨WF, hWF⟩ : ∃ WF, WF = w19.alloc (.cells #[.string nmR, .int .i64 ctR, .slice ah0 LR.length ch0] 31) := ⟨_, rfl⟩
        obtain ⟨gF, hgF⟩ : ∃ g, g = w19.heap.size := ⟨_, rfl⟩
        rw [← hWF] at hF hR0 hSF ⊢
        rw [← hgF] at hF hgB ⊢
        clear hWF hgF
        have hglH : gF < WF.heap.size := (Array.getElem?_eq_some_iff.1 hF).1
        have hbF17 : Below WFX.heap.size WFX WF := HTF.out _ _ hbF16 hSF
        obtain ⟨hW17, hA0, _⟩ := HWF.out _ hbF17
        obtain ⟨⟨c0, c1, c2⟩, _⟩ := zon_cells hW17
        obtain ⟨⟨h0, h1, h2⟩, _⟩ := zon_cells hF
        have HO17_0 : Hid (OwnQ WF (w7.heap.size + 1) (.slice ag0 LR.length cg0) (mrks 1 LR.length)) := HO16_0.out.kept hSF
        have HG17 : Hid (WF.heap[w8.heap.size]? = some (.cells #[.string nmR, .int .i64 ctR, .slice ag0 LR.length cg0] 31)) := (hSF.block _ (by omega)).trans HG16.out
        have hzz : w16.heap.size ≤ WF.heap.size := hSF.size
        have HRR0 : Hid (RRow WF (.slice ah0 LR.length ch0) LR) := hR0
        clear hW17 hF hR0 hSS
        go_wp2_with fail
        refine (HEG.out _ _ _ HRR0.out hA0).mono ?_
        rintro e w18 ⟨rfl, hb18⟩
        clear c0 c1 c2 h0 h1 h2 hA0
        have hbF18 := HTF.out _ _ hbF17 hb18
        have HG18 : Hid (w18.heap[w8.heap.size]? = some (.cells #[.string nmR, .int .i64 ctR, .slice ag0 LR.length cg0] 31)) := (hb18.block _ (by omega)).trans HG17.out
        obtain ⟨⟨c0, c1, c2⟩, _⟩ := zon_cells HG18.out
        have HO18_0 := HO17_0.out.kept hb18
        clear HG17
        go_wp2_with fail
        refine (HHG.out _ _ _ HO18_0).mono ?_
        rintro e w19 ⟨rfl, hb19⟩
        have hbF19 := HTF.out _ _ hbF18 hb19
        have hbw19 := (HX.out _ (HWF.out _ hbF19).2.2).2.1
        clear c0 c1 c2
        go_wp2_with fail
        go_ret
        exact ⟨rfl, hbw19⟩
      · rw [if_pos (by rfl)]
        go_simp
        have hS8x := Below.alloc hS18 (Below.size hS18) (.cells #[.string ⟨#[]⟩, .int .i64 0, .slice none 0 0] 31)
        refine hK.out _ _ hS8x (fun hSS => ?_)
        clear hK
        refine wpAnyH_ready (rs := [4]) (by kernel_rfl) (by simp) ?_
        refine AllReadyH.cons rfl (fun K hK => ?_) AllReadyH.nil
        rw [if_pos (by rfl)]
        go_simp
        refine (HI.out g17a g18a g18b _ (hE.below (HBW16.out _ hS8x)) (hq17ax.kept ((Below.refl _ _).alloc (Nat.le_refl _) _)) (hq18a.kept ((Below.refl _ _).alloc (Nat.le_refl _) _)) (hq18b.kept ((Below.refl _ _).alloc (Nat.le_refl _) _))).mono ?_
        rintro e w19 ⟨⟨vh0, rfl, hoo0⟩, hb19⟩
        obtain ⟨ah0, ch0, hvh0, hch0⟩ := hoo0.shape
        subst hvh0
        have hrr0 := hoo0.row
        go_simp
        have hS19 := HTS16.out _ _ hS8x hb19
        refine hK.out _ _ hS19 (fun hSS => ?_)
        clear hK
        refine wpAnyH_take (i := 5) (v := .tuple #[.agg #[.string nmR, .int .i64 ctR, .slice ah0 LR.length ch0], .bool ok]) rfl (by kernel_rfl) (by kernel_rfl) (by kernel_rfl) (fun _ _ _ h => h) (Or.inl ⟨by rfl, ?_⟩) (by assumption) ?_
        · intro W hSW
          go_simp
        simp only [Act.put]
        refine wpAnyH_take (i := 6) (v := .agg #[.string nmR, .int .i64 ctR, .slice ah0 LR.length ch0]) rfl (by kernel_rfl) (by kernel_rfl) (by kernel_rfl) (fun _ _ _ h => h) (Or.inl ⟨by rfl, ?_⟩) (by assumption) ?_
        · intro W hSW
          go_simp
        simp only [Act.put]
        refine wpAnyH_take (i := 7) (v := .bool ok) rfl (by kernel_rfl) (by kernel_rfl) (by kernel_rfl) (fun _ _ _ h => h) (Or.inl ⟨by rfl, ?_⟩) (by assumption) ?_
        · intro W hSW
          go_simp
        simp only [Act.put]
        refine wpAnyH_ready (rs := [9]) (by kernel_rfl) (by simp) ?_
        refine AllReadyH.cons rfl (fun K hK => ?_) AllReadyH.nil
        rw [if_pos (by rfl)]
        have hk4 : (w19).heap[w18.heap.size]? = some (.cells #[.string ⟨#[]⟩, .int .i64 0, .slice none 0 0] 31) := (hb19.block w18.heap.size (by simp)).trans (blk_new _ _)
        have hgB : w16.heap.size ≤ w18.heap.size := hS18.size
        have hgk := kpt_put3 (w19) (w18.heap.size) (.string nmR) (.int .i64 ctR) (.slice ah0 LR.length ch0) (S := fun k => k = w18.heap.size) rfl
        have hF := put3_heap (v0 := .string nmR) (v1 := .int .i64 ctR) (v2 := .slice ah0 LR.length ch0) hk4
        have hR0 := hrr0.apartZ hk4 hgk
        have hSF := put3_below hS19 (g := w18.heap.size) hgB (.string nmR) (.int .i64 ctR) (.slice ah0 LR.length ch0)
        obtain ⟨⟨rr0, rr1, rr2⟩, ⟨ff0, ff1, ff2⟩⟩ := zon_cells hk4
        go_simp
        unfold put3 at hF hR0 hSF
        refine hK.out _ _ hSF (fun hSS => ?_)
        clear hK rr0 rr1 rr2 ff0 ff1 ff2 hgk hk4
        refine wpAnyH_take (i := 10) (v := .bool ok) rfl (by kernel_rfl) (by kernel_rfl) (by kernel_rfl) (fun _ _ _ h => h) (Or.inl ⟨by rfl, ?_⟩) (by assumption) ?_
        · intro W hSW
          go_simp
        simp only [Act.put]
        refine wpAnyH_done (by kernel_rfl) ?_ _
        obtain ⟨WF, hWF⟩ : ∃ WF, WF = ((((w19).setCell ⟨w18.heap.size, 0, none⟩ (.string nmR)).setCell ⟨w18.heap.size, 1, none⟩ (.int .i64 ctR)).setCell ⟨w18.heap.size, 2, none⟩ (.slice ah0 LR.length ch0)) := ⟨_, rfl⟩
        obtain ⟨gF, hgF⟩ : ∃ g, g = w18.heap.size := ⟨_, rfl⟩
        rw [← hWF] at hF hR0 hSF ⊢
        rw [← hgF] at hF hgB ⊢
        clear hWF hgF
        have hglH : gF < WF.heap.size := (Array.getElem?_eq_some_iff.1 hF).1
        have hbF17 : Below WFX.heap.size WFX WF := HTF.out _ _ hbF16 hSF
        obtain ⟨hW17, hA0, _⟩ := HWF.out _ hbF17
        obtain ⟨⟨c0, c1, c2⟩, _⟩ := zon_cells hW17
        obtain ⟨⟨h0, h1, h2⟩, _⟩ := zon_cells hF
        have HO17_0 : Hid (OwnQ WF (w7.heap.size + 1) (.slice ag0 LR.length cg0) (mrks 1 LR.length)) := HO16_0.out.kept hSF
        have HG17 : Hid (WF.heap[w8.heap.size]? = some (.cells #[.string nmR, .int .i64 ctR, .slice ag0 LR.length cg0] 31)) := (hSF.block _ (by omega)).trans HG16.out
        have hzz : w16.heap.size ≤ WF.heap.size := hSF.size
        have HRR0 : Hid (RRow WF (.slice ah0 LR.length ch0) LR) := hR0
        clear hW17 hF hR0 hSS
        go_wp2_with fail
        refine (HEG.out _ _ _ HRR0.out hA0).mono ?_
        rintro e w18 ⟨rfl, hb18⟩
        clear c0 c1 c2 h0 h1 h2 hA0
        have hbF18 := HTF.out _ _ hbF17 hb18
        have HG18 : Hid (w18.heap[w8.heap.size]? = some (.cells #[.string nmR, .int .i64 ctR, .slice ag0 LR.length cg0] 31)) := (hb18.block _ (by omega)).trans HG17.out
        obtain ⟨⟨c0, c1, c2⟩, _⟩ := zon_cells HG18.out
        have HO18_0 := HO17_0.out.kept hb18
        clear HG17
        go_wp2_with fail
        refine (HHG.out _ _ _ HO18_0).mono ?_
        rintro e w19 ⟨rfl, hb19⟩
        have hbF19 := HTF.out _ _ hbF18 hb19
        have hbw19 := (HX.out _ (HWF.out _ hbF19).2.2).2.1
        clear c0 c1 c2
        go_wp2_with fail
        go_ret
        exact ⟨rfl, hbw19⟩
    · rw [if_pos (by rfl)]
      go_simp
      have hS8x := Below.alloc hS17 (Below.size hS17) (.cells #[.string ⟨#[]⟩, .int .i64 0, .slice none 0 0] 31)
      refine hK.out _ _ hS8x (fun hSS => ?_)
      clear hK
      refine wpAnyH_ready (rs := [3]) (by kernel_rfl) (by simp) ?_
      refine AllReadyH.cons rfl (fun K hK => ?_) AllReadyH.nil
      rw [if_pos (by rfl)]
      go_simp
      refine (HT2.out _ (HBW16.out _ hS8x)).mono ?_
      rintro e w18 ⟨⟨g18a, g18b, rfl, hgz18, hgz18l, hq18a, hq18b⟩, hb18⟩
      go_simp
      have hS18 := HTS16.out _ _ hS8x hb18
      have hq17ax := (hq17a.kept ((Below.refl _ _).alloc (Nat.le_refl _) _)).kept hb18
      refine hK.out _ _ hS18 (fun hSS => ?_)
      clear hK
      refine wpAnyH_ready (rs := [4]) (by kernel_rfl) (by simp) ?_
      refine AllReadyH.cons rfl (fun K hK => ?_) AllReadyH.nil
      rw [if_pos (by rfl)]
      go_simp
      refine (HI.out g17a g18a g18b _ (hE.below (HBW16.out _ hS18)) (hq17ax) (hq18a) (hq18b)).mono ?_
      rintro e w19 ⟨⟨vh0, rfl, hoo0⟩, hb19⟩
      obtain ⟨ah0, ch0, hvh0, hch0⟩ := hoo0.shape
      subst hvh0
      have hrr0 := hoo0.row
      go_simp
      have hS19 := HTS16.out _ _ hS18 hb19
      refine hK.out _ _ hS19 (fun hSS => ?_)
      clear hK
      refine wpAnyH_take (i := 5) (v := .tuple #[.agg #[.string nmR, .int .i64 ctR, .slice ah0 LR.length ch0], .bool ok]) rfl (by kernel_rfl) (by kernel_rfl) (by kernel_rfl) (fun _ _ _ h => h) (Or.inl ⟨by rfl, ?_⟩) (by assumption) ?_
      · intro W hSW
        go_simp
      simp only [Act.put]
      refine wpAnyH_take (i := 6) (v := .agg #[.string nmR, .int .i64 ctR, .slice ah0 LR.length ch0]) rfl (by kernel_rfl) (by kernel_rfl) (by kernel_rfl) (fun _ _ _ h => h) (Or.inl ⟨by rfl, ?_⟩) (by assumption) ?_
      · intro W hSW
        go_simp
      simp only [Act.put]
      refine wpAnyH_take (i := 7) (v := .bool ok) rfl (by kernel_rfl) (by kernel_rfl) (by kernel_rfl) (fun _ _ _ h => h) (Or.inl ⟨by rfl, ?_⟩) (by assumption) ?_
      · intro W hSW
        go_simp
      simp only [Act.put]
      refine wpAnyH_ready (rs := [9]) (by kernel_rfl) (by simp) ?_
      refine AllReadyH.cons rfl (fun K hK => ?_) AllReadyH.nil
      rw [if_pos (by rfl)]
      have hk4 : (w19).heap[w17.heap.size]? = some (.cells #[.string ⟨#[]⟩, .int .i64 0, .slice none 0 0] 31) := (hb19.block w17.heap.size (by have h := hb18.size; simp at h; omega)).trans ((hb18.block w17.heap.size (by simp)).trans (blk_new _ _))
      have hgB : w16.heap.size ≤ w17.heap.size := hS17.size
      have hgk := kpt_put3 (w19) (w17.heap.size) (.string nmR) (.int .i64 ctR) (.slice ah0 LR.length ch0) (S := fun k => k = w17.heap.size) rfl
      have hF := put3_heap (v0 := .string nmR) (v1 := .int .i64 ctR) (v2 := .slice ah0 LR.length ch0) hk4
      have hR0 := hrr0.apartZ hk4 hgk
      have hSF := put3_below hS19 (g := w17.heap.size) hgB (.string nmR) (.int .i64 ctR) (.slice ah0 LR.length ch0)
      obtain ⟨⟨rr0, rr1, rr2⟩, ⟨ff0, ff1, ff2⟩⟩ := zon_cells hk4
      go_simp
      unfold put3 at hF hR0 hSF
      refine hK.out _ _ hSF (fun hSS => ?_)
      clear hK rr0 rr1 rr2 ff0 ff1 ff2 hgk hk4
      refine wpAnyH_take (i := 10) (v := .bool ok) rfl (by kernel_rfl) (by kernel_rfl) (by kernel_rfl) (fun _ _ _ h => h) (Or.inl ⟨by rfl, ?_⟩) (by assumption) ?_
      · intro W hSW
        go_simp
      simp only [Act.put]
      refine wpAnyH_done (by kernel_rfl) ?_ _
      obtain ⟨WF, hWF⟩ : ∃ WF, WF = ((((w19).setCell ⟨w17.heap.size, 0, none⟩ (.string nmR)).setCell ⟨w17.heap.size, 1, none⟩ (.int .i64 ctR)).setCell ⟨w17.heap.size, 2, none⟩ (.slice ah0 LR.length ch0)) := ⟨_, rfl⟩
      obtain ⟨gF, hgF⟩ : ∃ g, g = w17.heap.size := ⟨_, rfl⟩
      rw [← hWF] at hF hR0 hSF ⊢
      rw [← hgF] at hF hgB ⊢
      clear hWF hgF
      have hglH : gF < WF.heap.size := (Array.getElem?_eq_some_iff.1 hF).1
      have hbF17 : Below WFX.heap.size WFX WF := HTF.out _ _ hbF16 hSF
      obtain ⟨hW17, hA0, _⟩ := HWF.out _ hbF17
      obtain ⟨⟨c0, c1, c2⟩, _⟩ := zon_cells hW17
      obtain ⟨⟨h0, h1, h2⟩, _⟩ := zon_cells hF
      have HO17_0 : Hid (OwnQ WF (w7.heap.size + 1) (.slice ag0 LR.length cg0) (mrks 1 LR.length)) := HO16_0.out.kept hSF
      have HG17 : Hid (WF.heap[w8.heap.size]? = some (.cells #[.string nmR, .int .i64 ctR, .slice ag0 LR.length cg0] 31)) := (hSF.block _ (by omega)).trans HG16.out
      have hzz : w16.heap.size ≤ WF.heap.size := hSF.size
      have HRR0 : Hid (RRow WF (.slice ah0 LR.length ch0) LR) := hR0
      clear hW17 hF hR0 hSS
      go_wp2_with fail
      refine (HEG.out _ _ _ HRR0.out hA0).mono ?_
      rintro e w18 ⟨rfl, hb18⟩
      clear c0 c1 c2 h0 h1 h2 hA0
      have hbF18 := HTF.out _ _ hbF17 hb18
      have HG18 : Hid (w18.heap[w8.heap.size]? = some (.cells #[.string nmR, .int .i64 ctR, .slice ag0 LR.length cg0] 31)) := (hb18.block _ (by omega)).trans HG17.out
      obtain ⟨⟨c0, c1, c2⟩, _⟩ := zon_cells HG18.out
      have HO18_0 := HO17_0.out.kept hb18
      clear HG17
      go_wp2_with fail
      refine (HHG.out _ _ _ HO18_0).mono ?_
      rintro e w19 ⟨rfl, hb19⟩
      have hbF19 := HTF.out _ _ hbF18 hb19
      have hbw19 := (HX.out _ (HWF.out _ hbF19).2.2).2.1
      clear c0 c1 c2
      go_wp2_with fail
      go_ret
      exact ⟨rfl, hbw19⟩
  · rw [if_pos (by rfl)]
    go_simp
    have hS8x := Below.alloc hS16 (Below.size hS16) (.cells #[.string ⟨#[]⟩, .int .i64 0, .slice none 0 0] 31)
    refine hK.out _ _ hS8x (fun hSS => ?_)
    clear hK
    refine wpAnyH_ready (rs := [1]) (by kernel_rfl) (by simp) ?_
    refine AllReadyH.cons rfl (fun K hK => ?_) AllReadyH.nil
    rw [if_pos (by rfl)]
    go_simp
    refine (HT1.out _ (HBW16.out _ hS8x)).mono ?_
    rintro e w17 ⟨⟨g17a, rfl, hgz17, hq17a⟩, hb17⟩
    go_simp
    have hS17 := HTS16.out _ _ hS8x hb17
    refine hK.out _ _ hS17 (fun hSS => ?_)
    clear hK
    refine wpAnyH_ready (rs := [3]) (by kernel_rfl) (by simp) ?_
    refine AllReadyH.cons rfl (fun K hK => ?_) AllReadyH.nil
    rw [if_pos (by rfl)]
    go_simp
    refine (HT2.out _ (HBW16.out _ hS17)).mono ?_
    rintro e w18 ⟨⟨g18a, g18b, rfl, hgz18, hgz18l, hq18a, hq18b⟩, hb18⟩
    go_simp
    have hS18 := HTS16.out _ _ hS17 hb18
    have hq17ax := hq17a.kept hb18
    refine hK.out _ _ hS18 (fun hSS => ?_)
    clear hK
    refine wpAnyH_ready (rs := [4]) (by kernel_rfl) (by simp) ?_
    refine AllReadyH.cons rfl (fun K hK => ?_) AllReadyH.nil
    rw [if_pos (by rfl)]
    go_simp
    refine (HI.out g17a g18a g18b _ (hE.below (HBW16.out _ hS18)) (hq17ax) (hq18a) (hq18b)).mono ?_
    rintro e w19 ⟨⟨vh0, rfl, hoo0⟩, hb19⟩
    obtain ⟨ah0, ch0, hvh0, hch0⟩ := hoo0.shape
    subst hvh0
    have hrr0 := hoo0.row
    go_simp
    have hS19 := HTS16.out _ _ hS18 hb19
    refine hK.out _ _ hS19 (fun hSS => ?_)
    clear hK
    refine wpAnyH_take (i := 5) (v := .tuple #[.agg #[.string nmR, .int .i64 ctR, .slice ah0 LR.length ch0], .bool ok]) rfl (by kernel_rfl) (by kernel_rfl) (by kernel_rfl) (fun _ _ _ h => h) (Or.inl ⟨by rfl, ?_⟩) (by assumption) ?_
    · intro W hSW
      go_simp
    simp only [Act.put]
    refine wpAnyH_take (i := 6) (v := .agg #[.string nmR, .int .i64 ctR, .slice ah0 LR.length ch0]) rfl (by kernel_rfl) (by kernel_rfl) (by kernel_rfl) (fun _ _ _ h => h) (Or.inl ⟨by rfl, ?_⟩) (by assumption) ?_
    · intro W hSW
      go_simp
    simp only [Act.put]
    refine wpAnyH_take (i := 7) (v := .bool ok) rfl (by kernel_rfl) (by kernel_rfl) (by kernel_rfl) (fun _ _ _ h => h) (Or.inl ⟨by rfl, ?_⟩) (by assumption) ?_
    · intro W hSW
      go_simp
    simp only [Act.put]
    refine wpAnyH_ready (rs := [9]) (by kernel_rfl) (by simp) ?_
    refine AllReadyH.cons rfl (fun K hK => ?_) AllReadyH.nil
    rw [if_pos (by rfl)]
    have hk4 : (w19).heap[w16.heap.size]? = some (.cells #[.string ⟨#[]⟩, .int .i64 0, .slice none 0 0] 31) := (hb19.block w16.heap.size (by have h := hb18.size; have h' := hb17.size; simp at h'; omega)).trans ((hb18.block w16.heap.size (by have h' := hb17.size; simp at h'; omega)).trans ((hb17.block w16.heap.size (by simp)).trans (blk_new w16.drew _)))
    have hgB : w16.heap.size ≤ w16.heap.size := Nat.le_refl _
    have hgk := kpt_put3 (w19) (w16.heap.size) (.string nmR) (.int .i64 ctR) (.slice ah0 LR.length ch0) (S := fun k => k = w16.heap.size) rfl
    have hF := put3_heap (v0 := .string nmR) (v1 := .int .i64 ctR) (v2 := .slice ah0 LR.length ch0) hk4
    have hR0 := hrr0.apartZ hk4 hgk
    have hSF := put3_below hS19 (g := w16.heap.size) hgB (.string nmR) (.int .i64 ctR) (.slice ah0 LR.length ch0)
    obtain ⟨⟨rr0, rr1, rr2⟩, ⟨ff0, ff1, ff2⟩⟩ := zon_cells hk4
    go_simp
    unfold put3 at hF hR0 hSF
    refine hK.out _ _ hSF (fun hSS => ?_)
    clear hK rr0 rr1 rr2 ff0 ff1 ff2 hgk hk4
    refine wpAnyH_take (i := 10) (v := .bool ok) rfl (by kernel_rfl) (by kernel_rfl) (by kernel_rfl) (fun _ _ _ h => h) (Or.inl ⟨by rfl, ?_⟩) (by assumption) ?_
    · intro W hSW
      go_simp
    simp only [Act.put]
    refine wpAnyH_done (by kernel_rfl) ?_ _
    obtain ⟨WF, hWF⟩ : ∃ WF, WF = ((((w19).setCell ⟨w16.heap.size, 0, none⟩ (.string nmR)).setCell ⟨w16.heap.size, 1, none⟩ (.int .i64 ctR)).setCell ⟨w16.heap.size, 2, none⟩ (.slice ah0 LR.length ch0)) := ⟨_, rfl⟩
    obtain ⟨gF, hgF⟩ : ∃ g, g = w16.heap.size := ⟨_, rfl⟩
    rw [← hWF] at hF hR0 hSF ⊢
    rw [← hgF] at hF hgB ⊢
    clear hWF hgF
    have hglH : gF < WF.heap.size := (Array.getElem?_eq_some_iff.1 hF).1
    have hbF17 : Below WFX.heap.size WFX WF := HTF.out _ _ hbF16 hSF
    obtain ⟨hW17, hA0, _⟩ := HWF.out _ hbF17
    obtain ⟨⟨c0, c1, c2⟩, _⟩ := zon_cells hW17
    obtain ⟨⟨h0, h1, h2⟩, _⟩ := zon_cells hF
    have HO17_0 : Hid (OwnQ WF (w7.heap.size + 1) (.slice ag0 LR.length cg0) (mrks 1 LR.length)) := HO16_0.out.kept hSF
    have HG17 : Hid (WF.heap[w8.heap.size]? = some (.cells #[.string nmR, .int .i64 ctR, .slice ag0 LR.length cg0] 31)) := (hSF.block _ (by omega)).trans HG16.out
    have hzz : w16.heap.size ≤ WF.heap.size := hSF.size
    have HRR0 : Hid (RRow WF (.slice ah0 LR.length ch0) LR) := hR0
    clear hW17 hF hR0 hSS
    go_wp2_with fail
    refine (HEG.out _ _ _ HRR0.out hA0).mono ?_
    rintro e w18 ⟨rfl, hb18⟩
    clear c0 c1 c2 h0 h1 h2 hA0
    have hbF18 := HTF.out _ _ hbF17 hb18
    have HG18 : Hid (w18.heap[w8.heap.size]? = some (.cells #[.string nmR, .int .i64 ctR, .slice ag0 LR.length cg0] 31)) := (hb18.block _ (by omega)).trans HG17.out
    obtain ⟨⟨c0, c1, c2⟩, _⟩ := zon_cells HG18.out
    have HO18_0 := HO17_0.out.kept hb18
    clear HG17
    go_wp2_with fail
    refine (HHG.out _ _ _ HO18_0).mono ?_
    rintro e w19 ⟨rfl, hb19⟩
    have hbF19 := HTF.out _ _ hbF18 hb19
    have hbw19 := (HX.out _ (HWF.out _ hbF19).2.2).2.1
    clear c0 c1 c2
    go_wp2_with fail
    go_ret
    exact ⟨rfl, hbw19⟩

theorem walk (nm1 : ByteArray) (ct1 : Int) (v10 : Value) (L1 : List (List UInt8 × Int × Int × List UInt8)) (f2 t2 : Int) (v20 v21 : Value) (A2 U2 : List (List UInt8 × Int × Int × List UInt8)) (w : World)
    (hn1 : nm1.size ≤ maxLen) (hr10 : RRow w v10 L1) (hx10 : Hid (∀ x ∈ L1, x.1.length ≤ maxLen ∧ x.2.2.2.length ≤ maxLen)) (_hc1 : -9223372036854775808 ≤ ct1 ∧ ct1 ≤ 9223372036854775807) (hr20 : RRow w v20 A2) (hx20 : Hid (∀ x ∈ A2, x.1.length ≤ maxLen ∧ x.2.2.2.length ≤ maxLen)) (hr21 : RRow w v21 U2) (hx21 : Hid (∀ x ∈ U2, x.1.length ≤ maxLen ∧ x.2.2.2.length ≤ maxLen)) (hE : EnvZ w) :
    Calls Tryz.prog 3 #[ZonV nm1 ct1 v10, DifV f2 t2 v20 v21] w fun e w' => e = .returned (.bool true) ∧ Below w.heap.size w w' := by
  have l1 : L1.length ≤ maxLen := by obtain ⟨_, cap, _, h1, h2, _⟩ := hr10; omega
  have l2 : A2.length ≤ maxLen := by obtain ⟨_, cap, _, h1, h2, _⟩ := hr20; omega
  have l3 : U2.length ≤ maxLen := by obtain ⟨_, cap, _, h1, h2, _⟩ := hr21; omega
  cases hB : (canB nm1.data.toList ct1 L1 f2 t2 A2 U2 && zoneB nm1.data.toList t2 (andQ (wthR L1 A2) U2)) with
  | false =>
    refine core nm1 ct1 v10 L1 f2 t2 v20 v21 A2 U2 false ⟨#[]⟩ 0 [] w hn1 hr10 hx10 hr20 hx20 hr21 hx21 hE (fun _ _ _ => by simp) (fun hN hL hX hLa hLu hXa hXu g1 g2 g3 W q1 q2 q3 => ?_) (fun hN hL hX hLa hLu hXa hXu g1 g2 g3 W hW q1 q2 q3 => ?_)
    · exact (sApplyDiff_any nm1 ct1 _ L1 f2 t2 _ _ A2 U2 W (q1.row (Nat.le_refl _) l1) (q2.row (Nat.le_refl _) l2) (q3.row (Nat.le_refl _) l3) hN hL hX hXa hXu).mono (fun e w' h' => ⟨h'.1.1 hB, h'.2⟩)
    · exact (iApplyDiff_any nm1 ct1 _ L1 f2 t2 _ _ A2 U2 W (q1.row (Nat.le_refl _) l1) (q2.row (Nat.le_refl _) l2) (q3.row (Nat.le_refl _) l3) hN hL hLa hLu hX hXa hXu hW).mono (fun e w' h' => ⟨h'.1.1 hB, h'.2⟩)
  | true =>
    have hlr : (andQ (wthR L1 A2) U2).length ≤ 1048576 := by
      rw [Bool.and_eq_true] at hB
      have h1 := hB.1
      unfold canB at h1
      rw [Bool.and_eq_true, Bool.and_eq_true] at h1
      have k1 := listB_len (zone_list h1.1)
      have k2 := listB_len (dif_lists h1.2.1).2
      have k3 := wthR_le L1 A2
      have k4 := andQ_len (wthR L1 A2) U2
      omega
    refine core nm1 ct1 v10 L1 f2 t2 v20 v21 A2 U2 true nm1 t2 (andQ (wthR L1 A2) U2) w hn1 hr10 hx10 hr20 hx20 hr21 hx21 hE (fun _ _ _ => hlr) (fun hN hL hX hLa hLu hXa hXu g1 g2 g3 W q1 q2 q3 => ?_) (fun hN hL hX hLa hLu hXa hXu g1 g2 g3 W hW q1 q2 q3 => ?_)
    · exact (sApplyDiff_any nm1 ct1 _ L1 f2 t2 _ _ A2 U2 W (q1.row (Nat.le_refl _) l1) (q2.row (Nat.le_refl _) l2) (q3.row (Nat.le_refl _) l3) hN hL hX hXa hXu).mono (fun e w' h' => ⟨h'.1.2 hB, h'.2⟩)
    · exact (iApplyDiff_any nm1 ct1 _ L1 f2 t2 _ _ A2 U2 W (q1.row (Nat.le_refl _) l1) (q2.row (Nat.le_refl _) l2) (q3.row (Nat.le_refl _) l3) hN hL hLa hLu hX hXa hXu hW).mono (fun e w' h' => ⟨h'.1.2 hB, h'.2⟩)
end Go.Proofs.YtdbbcepjdojdcaaGreatDoor.applyDiff
