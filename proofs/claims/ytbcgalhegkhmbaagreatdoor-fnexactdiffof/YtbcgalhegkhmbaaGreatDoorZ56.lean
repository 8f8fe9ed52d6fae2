import Derived.Test.YtbcgalhegkhmbaaGreatDoorZ47
import Derived.Test.YtbcgalhegkhmbaaGreatDoorZ55
import Derived.Test.YtbcgalhegkhmbaaGreatDoorZ29
import Derived.Test.YtbcgalhegkhmbaaGreatDoorZ43
import Derived.Deep.RegionHeld3
namespace Go.Proofs.YtbcgalhegkhmbaaGreatDoor.diffOf
open Go.RowKit

theorem own_of {w : World} {base g : Nat} {L : List (List UInt8 × Int × Int × List UInt8)} (h : QRow w g L) (hb : base ≤ g) (hl : L.length ≤ 1048576) : OwnQ w base (.slice (some ⟨g, 0, none⟩) L.length L.length) L :=
  .inr ⟨g, L.length, rfl, Nat.le_refl _, by unfold maxLen; omega, hb, h⟩
theorem sz_two {A B : List (List UInt8 × Int × Int × List UInt8)} {n m : Nat} {q r : Int} (h0 : 0 ≤ q) (h : q = 1048576 - (n : Int) - (A.length : Int) - (wtR A : Int)) (k0 : 0 ≤ r) (k : r = q - (m : Int) - (B.length : Int) - (wtR B : Int)) :
    (n ≤ 1048576 ∧ A.length ≤ 1048576 ∧ (∀ x ∈ A, x.1.length ≤ 1048576 ∧ x.2.2.2.length ≤ 1048576)) ∧ m ≤ 1048576 ∧ B.length ≤ 1048576 ∧ (∀ x ∈ B, x.1.length ≤ 1048576 ∧ x.2.2.2.length ≤ 1048576) := by
  refine ⟨⟨by omega, by omega, fun x hx => ?_⟩, by omega, by omega, fun x hx => ?_⟩
  · have := wtR_mem hx; omega
  · have := wtR_mem hx; omega

set_option maxRecDepth 20000 in
set_option maxHeartbeats 64000000 in
theorem core (nm1 : ByteArray) (ct1 : Int) (va : Value) (L1 : List (List UInt8 × Int × Int × List UInt8)) (nm2 : ByteArray) (ct2 : Int) (vb : Value) (L2 : List (List UInt8 × Int × Int × List UInt8)) (ok : Bool) (f2 t2 : Int) (A2 U2 : List (List UInt8 × Int × Int × List UInt8)) (w : World)
    (hn1 : nm1.size ≤ maxLen) (ha : RRow w va L1) (hxa : Hid (∀ x ∈ L1, x.1.length ≤ maxLen ∧ x.2.2.2.length ≤ maxLen)) (hn2 : nm2.size ≤ maxLen) (hb : RRow w vb L2) (hxb : Hid (∀ x ∈ L2, x.1.length ≤ maxLen ∧ x.2.2.2.length ≤ maxLen)) (hE : EnvZ w)
    (hA2 : L1.length ≤ 1048576 → A2.length ≤ 1048576) (hU2 : L2.length ≤ 1048576 → U2.length ≤ 1048576)
    (HS0 : Hid (nm1.size ≤ 1048576 → nm2.size ≤ 1048576 → L1.length ≤ 1048576 → L2.length ≤ 1048576 → Hid (∀ x ∈ L1, x.1.length ≤ 1048576 ∧ x.2.2.2.length ≤ 1048576) → Hid (∀ x ∈ L2, x.1.length ≤ 1048576 ∧ x.2.2.2.length ≤ 1048576) → ∀ g1 g2 W, QRow W g1 L1 → QRow W g2 L2 → Calls Tryz.prog 5 #[ZonV nm1 ct1 (.slice (some ⟨g1, 0, none⟩) L1.length L1.length), ZonV nm2 ct2 (.slice (some ⟨g2, 0, none⟩) L2.length L2.length)] W fun e w' => DRes w' ok f2 t2 A2 U2 e ∧ Below W.heap.size W w'))
    (HI0 : Hid (nm1.size ≤ 1048576 → nm2.size ≤ 1048576 → L1.length ≤ 1048576 → L2.length ≤ 1048576 → Hid (∀ x ∈ L1, x.1.length ≤ 1048576 ∧ x.2.2.2.length ≤ 1048576) → Hid (∀ x ∈ L2, x.1.length ≤ 1048576 ∧ x.2.2.2.length ≤ 1048576) → ∀ g1 g2 W, EnvZ W → QRow W g1 L1 → QRow W g2 L2 → Calls Tryz.prog 7 #[ZonV nm1 ct1 (.slice (some ⟨g1, 0, none⟩) L1.length L1.length), ZonV nm2 ct2 (.slice (some ⟨g2, 0, none⟩) L2.length L2.length)] W fun e w' => DOwn w' W.heap.size ok f2 t2 A2 U2 e ∧ Below W.heap.size W w')) :
    Calls Tryz.prog 3 #[ZonV nm1 ct1 va, ZonV nm2 ct2 vb] w fun e w' => e = .returned (.bool true) ∧ Below w.heap.size w w' := by
  obtain ⟨a1, k1, hva, _, hk1, _⟩ := id ha
  obtain ⟨a2, k2, hvb, _, hk2, _⟩ := id hb
  have HZ1 : Hid (∀ W, Below w.heap.size w W → Calls Tryz.prog 4 #[ZonV nm1 ct1 va, .int .i64 1048576] W fun e w' => (∃ q : Int, e = .returned (.int .i64 q) ∧ (q = -1 ∨ (0 ≤ q ∧ q = 1048576 - (nm1.size : Int) - (L1.length : Int) - (wtR L1 : Int)))) ∧ Below W.heap.size W w') := fun W hW => szZone_any nm1 ct1 va L1 1048576 W hn1 (ha.kept hW) hxa (by omega) (by omega)
  have HZ2 : Hid (∀ (q : Int) W, 0 ≤ q → q ≤ 1048576 → Below w.heap.size w W → Calls Tryz.prog 4 #[ZonV nm2 ct2 vb, .int .i64 q] W fun e w' => (∃ r : Int, e = .returned (.int .i64 r) ∧ (r = -1 ∨ (0 ≤ r ∧ r = q - (nm2.size : Int) - (L2.length : Int) - (wtR L2 : Int)))) ∧ Below W.heap.size W w') := fun q W h0 h1 hW => szZone_any nm2 ct2 vb L2 q W hn2 (hb.kept hW) hxb h0 h1
  have HT1' : Hid (L1.length ≤ 1048576 → ∀ W, Below w.heap.size w W → Calls Tryz.prog 6 #[ZonV nm1 ct1 va] W fun e w' => (∃ g, e = .returned (ZonV nm1 ct1 (.slice (some ⟨g, 0, none⟩) L1.length L1.length)) ∧ W.heap.size ≤ g ∧ QRow w' g L1) ∧ Below W.heap.size W w') := fun h1 W hW => toZone_any nm1 ct1 va L1 W (ha.kept hW) h1
  have HT2' : Hid (L2.length ≤ 1048576 → ∀ W, Below w.heap.size w W → Calls Tryz.prog 6 #[ZonV nm2 ct2 vb] W fun e w' => (∃ g, e = .returned (ZonV nm2 ct2 (.slice (some ⟨g, 0, none⟩) L2.length L2.length)) ∧ W.heap.size ≤ g ∧ QRow w' g L2) ∧ Below W.heap.size W w') := fun h1 W hW => toZone_any nm2 ct2 vb L2 W (hb.kept hW) h1
  have e2 : (ok != ok) = false := by simp
  subst hva
  subst hvb
  clear ha hb
  obtain ⟨W0, hW0⟩ : ∃ W0, W0 = (w.alloc (.cells #[.string nm1, .int .i64 ct1, .slice a1 L1.length k1] 24)).alloc (.cells #[.string nm2, .int .i64 ct2, .slice a2 L2.length k2] 24) := ⟨_, rfl⟩
  have HW0 : Hid ((w.alloc (.cells #[.string nm1, .int .i64 ct1, .slice a1 L1.length k1] 24)).alloc (.cells #[.string nm2, .int .i64 ct2, .slice a2 L2.length k2] 24) = W0) := hW0.symm
  have HX : Hid (∀ W, Below W0.heap.size W0 W → ((W.cell? ⟨w.heap.size, 0, none⟩ = some (.string nm1) ∧ W.cell? ⟨w.heap.size, 1, none⟩ = some (.int .i64 ct1) ∧ W.cell? ⟨w.heap.size, 2, none⟩ = some (.slice a1 L1.length k1)) ∧ (W.cell? ⟨w.heap.size + 1, 0, none⟩ = some (.string nm2) ∧ W.cell? ⟨w.heap.size + 1, 1, none⟩ = some (.int .i64 ct2) ∧ W.cell? ⟨w.heap.size + 1, 2, none⟩ = some (.slice a2 L2.length k2))) ∧ Below w.heap.size w W ∧ w.heap.size + 1 < W.heap.size) := fun W hW => by
    have hs := hW.size
    rw [hW0] at hW hs
    obtain ⟨q1, q2, q4⟩ := heaps2 hW
    exact ⟨⟨(zon_cells q1).1, (zon_cells q2).1⟩, q4, by simp at hs; omega⟩
  have HTR : Hid (∀ W W', Below W0.heap.size W0 W → Below W.heap.size W W' → Below W0.heap.size W0 W') := fun W W' h1 h2 => h1.trans (h2.mono h1.size)
  have hb0 : Below W0.heap.size W0 W0 := Below.refl _ _
  clear hW0
  unfold ZonV at HZ1 HZ2 HT1' HT2' ⊢
  go_enter Tryz.func3, Tryz.ntmps3
  go_wp2_with fail
  rw [HW0.out]
  refine (HZ1.out _ (HX.out _ hb0).2.1).mono ?_
  rintro e w1 ⟨⟨q, rfl, hq⟩, hb1⟩
  have hb01 := HTR.out _ _ hb0 hb1
  obtain ⟨⟨⟨c0, c1, c2⟩, ⟨d0, d1, d2⟩⟩, hbw1, _⟩ := HX.out _ hb01
  rcases hq with rfl | ⟨hq0, hqe⟩
  · go_wp2_with fail
    go_ret
    exact ⟨rfl, hbw1⟩
  have hq1 : q ≤ 1048576 := by omega
  have HQE : Hid (q = 1048576 - (nm1.size : Int) - (L1.length : Int) - (wtR L1 : Int)) := hqe
  clear hqe
  go_wp2_with fail
  refine (HZ2.out q _ hq0 hq1 hbw1).mono ?_
  rintro e w2 ⟨⟨r, rfl, hr⟩, hb2⟩
  have hb02 := HTR.out _ _ hb01 hb2
  clear c0 c1 c2 d0 d1 d2
  obtain ⟨⟨⟨c0, c1, c2⟩, ⟨d0, d1, d2⟩⟩, hbw2, hz2⟩ := HX.out _ hb02
  rcases hr with rfl | ⟨hr0, hre⟩
  · go_wp2_with fail
    go_ret
    exact ⟨rfl, hbw2⟩
  obtain ⟨⟨hn1', hL1, hx1⟩, hn2', hL2, hx2⟩ := sz_two hq0 HQE.out hr0 hre
  have HA2 : Hid (A2.length ≤ 1048576 ∧ U2.length ≤ 1048576) := ⟨hA2 hL1, hU2 hL2⟩
  have HT1 : Hid (∀ W, Below w.heap.size w W → Calls Tryz.prog 6 #[.agg #[.string nm1, .int .i64 ct1, .slice a1 L1.length k1]] W fun e w' => (∃ g, e = .returned (.agg #[.string nm1, .int .i64 ct1, .slice (some ⟨g, 0, none⟩) L1.length L1.length]) ∧ W.heap.size ≤ g ∧ QRow w' g L1) ∧ Below W.heap.size W w') := HT1'.out hL1
  have HT2 : Hid (∀ W, Below w.heap.size w W → Calls Tryz.prog 6 #[.agg #[.string nm2, .int .i64 ct2, .slice a2 L2.length k2]] W fun e w' => (∃ g, e = .returned (.agg #[.string nm2, .int .i64 ct2, .slice (some ⟨g, 0, none⟩) L2.length L2.length]) ∧ W.heap.size ≤ g ∧ QRow w' g L2) ∧ Below W.heap.size W w') := HT2'.out hL2
  have HS : Hid (∀ g1 g2 W, QRow W g1 L1 → QRow W g2 L2 → Calls Tryz.prog 5 #[ZonV nm1 ct1 (.slice (some ⟨g1, 0, none⟩) L1.length L1.length), ZonV nm2 ct2 (.slice (some ⟨g2, 0, none⟩) L2.length L2.length)] W fun e w' => DRes w' ok f2 t2 A2 U2 e ∧ Below W.heap.size W w') := HS0.out hn1' hn2' hL1 hL2 hx1 hx2
  have HI : Hid (∀ g1 g2 W, EnvZ W → QRow W g1 L1 → QRow W g2 L2 → Calls Tryz.prog 7 #[ZonV nm1 ct1 (.slice (some ⟨g1, 0, none⟩) L1.length L1.length), ZonV nm2 ct2 (.slice (some ⟨g2, 0, none⟩) L2.length L2.length)] W fun e w' => DOwn w' W.heap.size ok f2 t2 A2 U2 e ∧ Below W.heap.size W w') := HI0.out hn1' hn2' hL1 hL2 hx1 hx2
  have HE1 : Hid (∀ g1 g2 W, QRow W g1 L1 → QRow W g2 L1 → Calls Tryz.prog 9 #[.agg #[.string nm1, .int .i64 ct1, .slice (some ⟨g1, 0, none⟩) L1.length L1.length], .agg #[.string nm1, .int .i64 ct1, .slice (some ⟨g2, 0, none⟩) L1.length L1.length]] W fun e w' => e = .returned (.bool true) ∧ Below W.heap.size W w') := fun g1 g2 W h1 h2 => eqZone_same nm1 ct1 _ _ L1 W (h1.row (Nat.le_refl _) (by unfold maxLen; omega)) (h2.row (Nat.le_refl _) (by unfold maxLen; omega))
  have HE2 : Hid (∀ g1 g2 W, QRow W g1 L2 → QRow W g2 L2 → Calls Tryz.prog 9 #[.agg #[.string nm2, .int .i64 ct2, .slice (some ⟨g1, 0, none⟩) L2.length L2.length], .agg #[.string nm2, .int .i64 ct2, .slice (some ⟨g2, 0, none⟩) L2.length L2.length]] W fun e w' => e = .returned (.bool true) ∧ Below W.heap.size W w') := fun g1 g2 W h1 h2 => eqZone_same nm2 ct2 _ _ L2 W (h1.row (Nat.le_refl _) (by unfold maxLen; omega)) (h2.row (Nat.le_refl _) (by unfold maxLen; omega))
  have HEG : Hid (∀ va vu vb vc W, RRow W va A2 → RRow W vu U2 → RRow W vb A2 → RRow W vc U2 → Calls Tryz.prog 8 #[DifV f2 t2 va vu, DifV f2 t2 vb vc] W fun e w' => e = .returned (.bool true) ∧ Below W.heap.size W w') := fun va vu vb vc W h1 h2 h3 h4 => eqDiff_same f2 t2 va vu vb vc A2 U2 W h1 h2 h3 h4
  have HM1 : Hid (∀ v base W, OwnQ W base v L1 → Calls Tryz.prog 10 #[ZonV nm1 ct1 v, .int .i64 1] W fun e w' => e = .returned (.int .i64 (1 + 4 * (L1.length : Int))) ∧ OwnQ w' base v (mrks 1 L1.length) ∧ Kpt W w' (fun k => v.ownBlock = some k)) := fun v base W h1 => markZone_any nm1 ct1 v L1 base 1 W h1 hL1 (by omega) (by omega)
  have HM2 : Hid (∀ v base W, OwnQ W base v L2 → Calls Tryz.prog 10 #[ZonV nm2 ct2 v, .int .i64 (1 + 4 * (L1.length : Int))] W fun e w' => e = .returned (.int .i64 (1 + 4 * (L1.length : Int) + 4 * (L2.length : Int))) ∧ Kpt W w' (fun k => v.ownBlock = some k)) := fun v base W h1 => by
    have h := markZone_any nm2 ct2 v L2 base (1 + 4 * L1.length) W h1 hL2 (by omega) (by omega)
    have e : (((1 + 4 * L1.length : Nat) : Int)) = 1 + 4 * (L1.length : Int) := by omega
    rw [e] at h
    exact h.mono fun e w' h' => ⟨h'.1, h'.2.2⟩
  have HMG : Hid (∀ va vu base W, OwnQ W base va A2 → OwnQ W base vu U2 → (∀ g, va.ownBlock = some g → vu.ownBlock ≠ some g) → Calls Tryz.prog 11 #[DifV f2 t2 va vu, .int .i64 1] W fun e w' => e = .returned (.int .i64 (1 + 4 * (A2.length : Int) + 4 * (U2.length : Int))) ∧ OwnQ w' base va (mrks 1 A2.length) ∧ OwnQ w' base vu (mrks (1 + 4 * A2.length) U2.length) ∧ Kpt W w' (fun k => va.ownBlock = some k ∨ vu.ownBlock = some k)) := fun va vu base W h1 h2 h3 => markDiff_any f2 t2 va vu A2 U2 base 1 W h1 h2 h3 HA2.out.1 HA2.out.2 (by omega) (by omega)
  have HHG : Hid (∀ va vu base W, OwnQ W base va (mrks 1 A2.length) → OwnQ W base vu (mrks (1 + 4 * A2.length) U2.length) → Calls Tryz.prog 12 #[DifV f2 t2 va vu, .int .i64 1] W fun e w' => e = .returned (.int .i64 (1 + 4 * (A2.length : Int) + 4 * (U2.length : Int))) ∧ Below W.heap.size W w') := fun va vu base W h1 h2 => heldDiff_any f2 t2 va vu A2.length U2.length 1 W h1.row h2.row HA2.out.1 HA2.out.2 (by omega) (by omega)
  obtain ⟨qx, hqx⟩ : ∃ q : Int, q = 1 + 4 * (L1.length : Int) := ⟨_, rfl⟩
  obtain ⟨qy, hqy⟩ : ∃ q : Int, q = 1 + 4 * (L1.length : Int) + 4 * (L2.length : Int) := ⟨_, rfl⟩
  obtain ⟨qg, hqg⟩ : ∃ q : Int, q = 1 + 4 * (A2.length : Int) + 4 * (U2.length : Int) := ⟨_, rfl⟩
  rw [← hqy, ← hqx] at HM2
  rw [← hqx] at HM1
  rw [← hqg] at HMG HHG
  have hqy0 : decide (qy < 0) = false := by simp; omega
  have hqy1 : ¬ qy < 0 := by omega
  have hqg0 : decide (qg < 0) = false := by simp; omega
  have hqg1 : ¬ qg < 0 := by omega
  have hqq : (qg != qg) = false := by simp
  unfold DRes at HS
  unfold DOwn at HI
  unfold DifV at HS HI HEG HMG HHG
  unfold ZonV at HS HI HM1 HM2
  clear hqx hqy hqg hre HQE hx1 hx2 HS0 HI0 HT1' HT2' HZ1 HZ2 hn1' hn2' hA2 hU2
  have HC2 : Hid (∀ W, Below w2.heap.size w2 W → ((W.cell? ⟨w.heap.size, 0, none⟩ = some (.string nm1) ∧ W.cell? ⟨w.heap.size, 1, none⟩ = some (.int .i64 ct1) ∧ W.cell? ⟨w.heap.size, 2, none⟩ = some (.slice a1 L1.length k1)) ∧ (W.cell? ⟨w.heap.size + 1, 0, none⟩ = some (.string nm2) ∧ W.cell? ⟨w.heap.size + 1, 1, none⟩ = some (.int .i64 ct2) ∧ W.cell? ⟨w.heap.size + 1, 2, none⟩ = some (.slice a2 L2.length k2))) ∧ Below w2.heap.size w2 W) := fun W hW => ⟨(HX.out _ (HTR.out _ _ hb02 hW)).1, hW⟩
  have HBW : Hid (∀ W, Below w2.heap.size w2 W → Below w.heap.size w W) := fun W hW => (HX.out _ (HTR.out _ _ hb02 hW)).2.1
  have HT22 : Hid (∀ W W', Below w2.heap.size w2 W → Below W.heap.size W W' → Below w2.heap.size w2 W') := fun W W' h1 h2 => h1.trans (h2.mono h1.size)
  have hbz : Below w2.heap.size w2 w2 := Below.refl _ _
  have hbd : Below w2.heap.size w2 w2.drew := (Below.refl _ _).drew
  clear c0 c1 c2 d0 d1 d2
  go_wp2_with fail
  have hS2 : Below w2.heap.size w2 w2.drew := (Below.refl _ _).drew
  have HTS2 := HT22
  have HBW2 := HBW
  refine Code.wp_mono (Q := fun e a W => e = Exit.normal ∧ ∃ (g3a g4b gX : Nat) (aw6 : Option Addr) (cw6 : Nat) (aw7 : Option Addr) (cw7 : Nat), a = { tmps := #[.agg #[.string nm1, .int .i64 ct1, .slice a1 L1.length k1], .agg #[.string nm2, .int .i64 ct2, .slice a2 L2.length k2], .pointer (some ⟨w.heap.size, 0, none⟩), .pointer (some ⟨w.heap.size + 1, 0, none⟩), .bool false, .int .i64 r, .pointer (some ⟨gX, 0, none⟩), .bool ok, undef, undef, undef, undef, undef, undef, undef, undef, undef, .agg #[.string nm1, .int .i64 ct1, .slice a1 L1.length k1], .int .i64 1048576, .int .i64 q, .int .i64 q, .bool (decide (q < 0)), .agg #[.string nm2, .int .i64 ct2, .slice a2 L2.length k2], .int .i64 q, .int .i64 r, .int .i64 r, .bool (decide (r < 0)), .tuple #[.agg #[.int .i64 f2, .int .i64 t2, .slice aw6 A2.length cw6, .slice aw7 U2.length cw7], .bool ok], .agg #[.string nm1, .int .i64 ct1, .slice a1 L1.length k1], .agg #[.string nm1, .int .i64 ct1, .slice (some ⟨g3a, 0, none⟩) L1.length L1.length], .agg #[.string nm2, .int .i64 ct2, .slice a2 L2.length k2], .agg #[.string nm2, .int .i64 ct2, .slice (some ⟨g4b, 0, none⟩) L2.length L2.length], .tuple #[.agg #[.int .i64 f2, .int .i64 t2, .slice aw6 A2.length cw6, .slice aw7 U2.length cw7], .bool ok], .agg #[.int .i64 f2, .int .i64 t2, .slice aw6 A2.length cw6, .slice aw7 U2.length cw7], .bool ok, undef, undef, undef, undef, undef, undef, undef, undef, undef, undef, undef, undef, undef, undef, undef, undef, undef, undef, undef, undef, undef, undef, undef, undef, undef, undef, undef, undef, undef, undef, undef, undef, undef, undef, undef, undef, undef, undef, undef, undef, undef, undef, undef, undef, undef, undef, undef, undef, undef, undef, undef, undef, undef, undef, undef, undef, undef, undef, undef, undef, undef, undef, undef, undef, undef, undef, undef, undef, undef, undef, undef, undef, undef, undef, undef, undef, undef, undef, undef, undef, undef, undef, undef, undef], defers := [] } ∧ cw6 ≤ maxLen ∧ cw7 ≤ maxLen ∧ W.heap[gX]? = some (.cells #[.int .i64 f2, .int .i64 t2, .slice aw6 A2.length cw6, .slice aw7 U2.length cw7] 28) ∧ RRow W (.slice aw6 A2.length cw6) A2 ∧ RRow W (.slice aw7 U2.length cw7) U2 ∧ Below w2.heap.size w2 W ∧ w2.heap.size ≤ gX) ?_ ?_
  rotate_left
  · refine wp_region_held_drew (S := fun W : World => Below w2.heap.size w2 W) (by kernel_rfl) hS2 (fun hHeld => ?_)
    refine wpAnyH_take (i := 0) (v := .agg #[.string nm1, .int .i64 ct1, .slice a1 L1.length k1]) rfl (by kernel_rfl) (by kernel_rfl) (by kernel_rfl) (fun _ _ _ h => (by cases h.1)) (Or.inl ⟨by rfl, ?_⟩) (by assumption) ?_
    · intro W hSW
      obtain ⟨⟨⟨q0, q1, q2⟩, ⟨y0, y1, y2⟩⟩, _⟩ := HC2.out _ hSW
      go_simp
    simp only [Act.put, List.setIfInBounds_toArray]
    refine wpAnyH_take (i := 2) (v := .agg #[.string nm2, .int .i64 ct2, .slice a2 L2.length k2]) rfl (by kernel_rfl) (by kernel_rfl) (by kernel_rfl) (fun _ _ _ h => (by cases h.1)) (Or.inl ⟨by rfl, ?_⟩) (by assumption) ?_
    · intro W hSW
      obtain ⟨⟨⟨q0, q1, q2⟩, ⟨y0, y1, y2⟩⟩, _⟩ := HC2.out _ hSW
      go_simp
    simp only [Act.put]
    refine wpAnyH_ready (rs := [1, 8]) (by kernel_rfl) (by simp) ?_
    refine AllReadyH.cons rfl (fun K hK => ?_) (AllReadyH.cons rfl (fun K hK => ?_) AllReadyH.nil)
    · rw [if_pos (by rfl)]
      go_simp
      refine (HT1.out _ (HBW2.out _ hS2)).mono ?_
      rintro e w3 ⟨⟨g3a, rfl, _, hq3⟩, hb3⟩
      go_simp
      have hS3 := HTS2.out _ _ hS2 hb3
      refine hK.out _ _ hS3 (fun hSS => ?_)
      clear hK
      refine wpAnyH_ready (rs := [3, 8]) (by kernel_rfl) (by simp) ?_
      refine AllReadyH.cons rfl (fun K hK => ?_) (AllReadyH.cons rfl (fun K hK => ?_) AllReadyH.nil)
      · rw [if_pos (by rfl)]
        go_simp
        refine (HT2.out _ (HBW2.out _ hS3)).mono ?_
        rintro e w4 ⟨⟨g4b, rfl, _, hq4⟩, hb4⟩
        go_simp
        have hS4 := HTS2.out _ _ hS3 hb4
        have hq3a := hq3.kept hb4
        refine hK.out _ _ hS4 (fun hSS => ?_)
        clear hK
        refine wpAnyH_ready (rs := [4, 8]) (by kernel_rfl) (by simp) ?_
        refine AllReadyH.cons rfl (fun K hK => ?_) (AllReadyH.cons rfl (fun K hK => ?_) AllReadyH.nil)
        · rw [if_pos (by rfl)]
          go_simp
          refine (HS.out g3a g4b _ (hq3a) (hq4)).mono ?_
          rintro e w5 ⟨⟨vw6, vw7, rfl, hra, hru⟩, hb5⟩
          obtain ⟨aw6, cw6, hvw6, _, hcw6, _⟩ := id hra
          obtain ⟨aw7, cw7, hvw7, _, hcw7, _⟩ := id hru
          subst hvw6
          subst hvw7
          go_simp
          have hS5 := HTS2.out _ _ hS4 hb5
          refine hK.out _ _ hS5 (fun hSS => ?_)
          clear hK
          refine wpAnyH_take (i := 5) (v := .tuple #[.agg #[.int .i64 f2, .int .i64 t2, .slice aw6 A2.length cw6, .slice aw7 U2.length cw7], .bool ok]) rfl (by kernel_rfl) (by kernel_rfl) (by kernel_rfl) (fun _ _ _ h => (by cases h.1)) (Or.inl ⟨by rfl, ?_⟩) (by assumption) ?_
          · intro W hSW
            go_simp
          simp only [Act.put]
          refine wpAnyH_take (i := 6) (v := .agg #[.int .i64 f2, .int .i64 t2, .slice aw6 A2.length cw6, .slice aw7 U2.length cw7]) rfl (by kernel_rfl) (by kernel_rfl) (by kernel_rfl) (fun _ _ _ h => (by cases h.1)) (Or.inl ⟨by rfl, ?_⟩) (by assumption) ?_
          · intro W hSW
            go_simp
          simp only [Act.put]
          refine wpAnyH_take (i := 7) (v := .bool ok) rfl (by kernel_rfl) (by kernel_rfl) (by kernel_rfl) (fun _ _ _ h => (by cases h.1)) (Or.inl ⟨by rfl, ?_⟩) (by assumption) ?_
          · intro W hSW
            go_simp
          simp only [Act.put]
          refine wpAnyH_ready (rs := [8]) (by kernel_rfl) (by simp) ?_
          refine AllReadyH.cons rfl (fun K hK => ?_) AllReadyH.nil
          rw [if_pos (by rfl)]
          go_simp
          have hS8x := Below.alloc hS5 (Below.size hS5) (.cells #[.int .i64 0, .int .i64 0, .slice none 0 0, .slice none 0 0] 28)
          refine hK.out _ _ hS8x (fun hSS => ?_)
          clear hK
          refine wpAnyH_ready (rs := [9]) (by kernel_rfl) (by simp) ?_
          refine AllReadyH.cons rfl (fun K hK => ?_) AllReadyH.nil
          rw [if_pos (by rfl)]
          have hF : (w5.alloc (.cells #[.int .i64 f2, .int .i64 t2, .slice aw6 A2.length cw6, .slice aw7 U2.length cw7] 28)).heap[w5.heap.size]? = some (.cells #[.int .i64 f2, .int .i64 t2, .slice aw6 A2.length cw6, .slice aw7 U2.length cw7] 28) := blk_new _ _
          have hR1 := hra.kept ((Below.refl w5.heap.size w5).alloc (Nat.le_refl _) (.cells #[.int .i64 f2, .int .i64 t2, .slice aw6 A2.length cw6, .slice aw7 U2.length cw7] 28))
          have hR2 := hru.kept ((Below.refl w5.heap.size w5).alloc (Nat.le_refl _) (.cells #[.int .i64 f2, .int .i64 t2, .slice aw6 A2.length cw6, .slice aw7 U2.length cw7] 28))
          have hSF := Below.alloc hS5 (Below.size hS5) (.cells #[.int .i64 f2, .int .i64 t2, .slice aw6 A2.length cw6, .slice aw7 U2.length cw7] 28)
          have hgB : w2.heap.size ≤ w5.heap.size := hS5.size
          go_simp
          refine hK.out _ _ hSF (fun hSS => ?_)
          clear hK
          refine wpAnyH_take (i := 10) (v := .bool ok) rfl (by kernel_rfl) (by kernel_rfl) (by kernel_rfl) (fun _ _ _ h => (by cases h.1)) (Or.inl ⟨by rfl, ?_⟩) (by assumption) ?_
          · intro W hSW
            go_simp
          simp only [Act.put]
          refine wpAnyH_done (by kernel_rfl) ?_ _
          exact ⟨rfl, g3a, g4b, w5.heap.size, aw6, cw6, aw7, cw7, rfl, hcw6, hcw7, hF, hR1, hR2, hSF, hgB⟩
        · rw [if_pos (by rfl)]
          go_simp
          have hS8x := Below.alloc hS4 (Below.size hS4) (.cells #[.int .i64 0, .int .i64 0, .slice none 0 0, .slice none 0 0] 28)
          refine hK.out _ _ hS8x (fun hSS => ?_)
          clear hK
          refine wpAnyH_ready (rs := [4]) (by kernel_rfl) (by simp) ?_
          refine AllReadyH.cons rfl (fun K hK => ?_) AllReadyH.nil
          rw [if_pos (by rfl)]
          go_simp
          refine (HS.out g3a g4b _ (hq3a.kept ((Below.refl _ _).alloc (Nat.le_refl _) _)) (hq4.kept ((Below.refl _ _).alloc (Nat.le_refl _) _))).mono ?_
          rintro e w5 ⟨⟨vw6, vw7, rfl, hra, hru⟩, hb5⟩
          obtain ⟨aw6, cw6, hvw6, _, hcw6, _⟩ := id hra
          obtain ⟨aw7, cw7, hvw7, _, hcw7, _⟩ := id hru
          subst hvw6
          subst hvw7
          go_simp
          have hS5 := HTS2.out _ _ hS8x hb5
          refine hK.out _ _ hS5 (fun hSS => ?_)
          clear hK
          refine wpAnyH_take (i := 5) (v := .tuple #[.agg #[.int .i64 f2, .int .i64 t2, .slice aw6 A2.length cw6, .slice aw7 U2.length cw7], .bool ok]) rfl (by kernel_rfl) (by kernel_rfl) (by kernel_rfl) (fun _ _ _ h => (by cases h.1)) (Or.inl ⟨by rfl, ?_⟩) (by assumption) ?_
          · intro W hSW
            go_simp
          simp only [Act.put]
          refine wpAnyH_take (i := 6) (v := .agg #[.int .i64 f2, .int .i64 t2, .slice aw6 A2.length cw6, .slice aw7 U2.length cw7]) rfl (by kernel_rfl) (by kernel_rfl) (by kernel_rfl) (fun _ _ _ h => (by cases h.1)) (Or.inl ⟨by rfl, ?_⟩) (by assumption) ?_
          · intro W hSW
            go_simp
          simp only [Act.put]
          refine wpAnyH_take (i := 7) (v := .bool ok) rfl (by kernel_rfl) (by kernel_rfl) (by kernel_rfl) (fun _ _ _ h => (by cases h.1)) (Or.inl ⟨by rfl, ?_⟩) (by assumption) ?_
          · intro W hSW
            go_simp
          simp only [Act.put]
          refine wpAnyH_ready (rs := [9]) (by kernel_rfl) (by simp) ?_
          refine AllReadyH.cons rfl (fun K hK => ?_) AllReadyH.nil
          rw [if_pos (by rfl)]
          have hk4 : (w5).heap[w4.heap.size]? = some (.cells #[.int .i64 0, .int .i64 0, .slice none 0 0, .slice none 0 0] 28) := (hb5.block w4.heap.size (by simp)).trans (blk_new _ _)
          have hgB : w2.heap.size ≤ w4.heap.size := hS4.size
          have hgk := kpt_put4v (w5) (w4.heap.size) (.int .i64 f2) (.int .i64 t2) (.slice aw6 A2.length cw6) (.slice aw7 U2.length cw7) (S := fun k => k = w4.heap.size) rfl
          have hF := put4v_heap (v0 := .int .i64 f2) (v1 := .int .i64 t2) (v2 := .slice aw6 A2.length cw6) (v3 := .slice aw7 U2.length cw7) hk4
          have hR1 := hra.apart4 hk4 hgk
          have hR2 := hru.apart4 hk4 hgk
          have hSF := put4v_below hS5 (g := w4.heap.size) hgB (.int .i64 f2) (.int .i64 t2) (.slice aw6 A2.length cw6) (.slice aw7 U2.length cw7)
          obtain ⟨⟨r0, r1, r2, r3⟩, ⟨f0, f1, f2', f3⟩⟩ := dif_cells hk4
          go_simp
          unfold put4v at hF hR1 hR2 hSF
          refine hK.out _ _ hSF (fun hSS => ?_)
          clear hK r0 r1 r2 r3 f0 f1 f2' f3 hgk hk4
          refine wpAnyH_take (i := 10) (v := .bool ok) rfl (by kernel_rfl) (by kernel_rfl) (by kernel_rfl) (fun _ _ _ h => (by cases h.1)) (Or.inl ⟨by rfl, ?_⟩) (by assumption) ?_
          · intro W hSW
            go_simp
          simp only [Act.put]
          refine wpAnyH_done (by kernel_rfl) ?_ _
          exact ⟨rfl, g3a, g4b, w4.heap.size, aw6, cw6, aw7, cw7, rfl, hcw6, hcw7, hF, hR1, hR2, hSF, hgB⟩
      · rw [if_pos (by rfl)]
        go_simp
        have hS8x := Below.alloc hS3 (Below.size hS3) (.cells #[.int .i64 0, .int .i64 0, .slice none 0 0, .slice none 0 0] 28)
        refine hK.out _ _ hS8x (fun hSS => ?_)
        clear hK
        refine wpAnyH_ready (rs := [3]) (by kernel_rfl) (by simp) ?_
        refine AllReadyH.cons rfl (fun K hK => ?_) AllReadyH.nil
        rw [if_pos (by rfl)]
        go_simp
        refine (HT2.out _ (HBW2.out _ hS8x)).mono ?_
        rintro e w4 ⟨⟨g4b, rfl, _, hq4⟩, hb4⟩
        go_simp
        have hS4 := HTS2.out _ _ hS8x hb4
        have hq3a := (hq3.kept ((Below.refl _ _).alloc (Nat.le_refl _) _)).kept hb4
        refine hK.out _ _ hS4 (fun hSS => ?_)
        clear hK
        refine wpAnyH_ready (rs := [4]) (by kernel_rfl) (by simp) ?_
        refine AllReadyH.cons rfl (fun K hK => ?_) AllReadyH.nil
        rw [if_pos (by rfl)]
        go_simp
        refine (HS.out g3a g4b _ (hq3a) (hq4)).mono ?_
        rintro e w5 ⟨⟨vw6, vw7, rfl, hra, hru⟩, hb5⟩
        obtain ⟨aw6, cw6, hvw6, _, hcw6, _⟩ := id hra
        obtain ⟨aw7, cw7, hvw7, _, hcw7, _⟩ := id hru
        subst hvw6
        subst hvw7
        go_simp
        have hS5 := HTS2.out _ _ hS4 hb5
        refine hK.out _ _ hS5 (fun hSS => ?_)
        clear hK
        refine wpAnyH_take (i := 5) (v := .tuple #[.agg #[.int .i64 f2, .int .i64 t2, .slice aw6 A2.length cw6, .slice aw7 U2.length cw7], .bool ok]) rfl (by kernel_rfl) (by kernel_rfl) (by kernel_rfl) (fun _ _ _ h => (by cases h.1)) (Or.inl ⟨by rfl, ?_⟩) (by assumption) ?_
        · intro W hSW
          go_simp
        simp only [Act.put]
        refine wpAnyH_take (i := 6) (v := .agg #[.int .i64 f2, .int .i64 t2, .slice aw6 A2.length cw6, .slice aw7 U2.length cw7]) rfl (by kernel_rfl) (by kernel_rfl) (by kernel_rfl) (fun _ _ _ h => (by cases h.1)) (Or.inl ⟨by rfl, ?_⟩) (by assumption) ?_
        · intro W hSW
          go_simp
        simp only [Act.put]
        refine wpAnyH_take (i := 7) (v := .bool ok) rfl (by kernel_rfl) (by kernel_rfl) (by kernel_rfl) (fun _ _ _ h => (by cases h.1)) (Or.inl ⟨by rfl, ?_⟩) (by assumption) ?_
        · intro W hSW
          go_simp
        simp only [Act.put]
        refine wpAnyH_ready (rs := [9]) (by kernel_rfl) (by simp) ?_
        refine AllReadyH.cons rfl (fun K hK => ?_) AllReadyH.nil
        rw [if_pos (by rfl)]
        have hk4 : (w5).heap[w3.heap.size]? = some (.cells #[.int .i64 0, .int .i64 0, .slice none 0 0, .slice none 0 0] 28) := (hb5.block w3.heap.size (by have h := hb4.size; simp at h; omega)).trans ((hb4.block w3.heap.size (by simp)).trans (blk_new _ _))
        have hgB : w2.heap.size ≤ w3.heap.size := hS3.size
        have hgk := kpt_put4v (w5) (w3.heap.size) (.int .i64 f2) (.int .i64 t2) (.slice aw6 A2.length cw6) (.slice aw7 U2.length cw7) (S := fun k => k = w3.heap.size) rfl
        have hF := put4v_heap (v0 := .int .i64 f2) (v1 := .int .i64 t2) (v2 := .slice aw6 A2.length cw6) (v3 := .slice aw7 U2.length cw7) hk4
        have hR1 := hra.apart4 hk4 hgk
        have hR2 := hru.apart4 hk4 hgk
        have hSF := put4v_below hS5 (g := w3.heap.size) hgB (.int .i64 f2) (.int .i64 t2) (.slice aw6 A2.length cw6) (.slice aw7 U2.length cw7)
        obtain ⟨⟨r0, r1, r2, r3⟩, ⟨f0, f1, f2', f3⟩⟩ := dif_cells hk4
        go_simp
        unfold put4v at hF hR1 hR2 hSF
        refine hK.out _ _ hSF (fun hSS => ?_)
        clear hK r0 r1 r2 r3 f0 f1 f2' f3 hgk hk4
        refine wpAnyH_take (i := 10) (v := .bool ok) rfl (by kernel_rfl) (by kernel_rfl) (by kernel_rfl) (fun _ _ _ h => (by cases h.1)) (Or.inl ⟨by rfl, ?_⟩) (by assumption) ?_
        · intro W hSW
          go_simp
        simp only [Act.put]
        refine wpAnyH_done (by kernel_rfl) ?_ _
        exact ⟨rfl, g3a, g4b, w3.heap.size, aw6, cw6, aw7, cw7, rfl, hcw6, hcw7, hF, hR1, hR2, hSF, hgB⟩
    · rw [if_pos (by rfl)]
      go_simp
      have hS8x := Below.alloc hS2 (Below.size hS2) (.cells #[.int .i64 0, .int .i64 0, .slice none 0 0, .slice none 0 0] 28)
      refine hK.out _ _ hS8x (fun hSS => ?_)
      clear hK
      refine wpAnyH_ready (rs := [1]) (by kernel_rfl) (by simp) ?_
      refine AllReadyH.cons rfl (fun K hK => ?_) AllReadyH.nil
      rw [if_pos (by rfl)]
      go_simp
      refine (HT1.out _ (HBW2.out _ hS8x)).mono ?_
      rintro e w3 ⟨⟨g3a, rfl, _, hq3⟩, hb3⟩
      go_simp
      have hS3 := HTS2.out _ _ hS8x hb3
      refine hK.out _ _ hS3 (fun hSS => ?_)
      clear hK
      refine wpAnyH_ready (rs := [3]) (by kernel_rfl) (by simp) ?_
      refine AllReadyH.cons rfl (fun K hK => ?_) AllReadyH.nil
      rw [if_pos (by rfl)]
      go_simp
      refine (HT2.out _ (HBW2.out _ hS3)).mono ?_
      rintro e w4 ⟨⟨g4b, rfl, _, hq4⟩, hb4⟩
      go_simp
      have hS4 := HTS2.out _ _ hS3 hb4
      have hq3a := hq3.kept hb4
      refine hK.out _ _ hS4 (fun hSS => ?_)
      clear hK
      refine wpAnyH_ready (rs := [4]) (by kernel_rfl) (by simp) ?_
      refine AllReadyH.cons rfl (fun K hK => ?_) AllReadyH.nil
      rw [if_pos (by rfl)]
      go_simp
      refine (HS.out g3a g4b _ (hq3a) (hq4)).mono ?_
      rintro e w5 ⟨⟨vw6, vw7, rfl, hra, hru⟩, hb5⟩
      obtain ⟨aw6, cw6, hvw6, _, hcw6, _⟩ := id hra
      obtain ⟨aw7, cw7, hvw7, _, hcw7, _⟩ := id hru
      subst hvw6
      subst hvw7
      go_simp
      have hS5 := HTS2.out _ _ hS4 hb5
      refine hK.out _ _ hS5 (fun hSS => ?_)
      clear hK
      refine wpAnyH_take (i := 5) (v := .tuple #[.agg #[.int .i64 f2, .int .i64 t2, .slice aw6 A2.length cw6, .slice aw7 U2.length cw7], .bool ok]) rfl (by kernel_rfl) (by kernel_rfl) (by kernel_rfl) (fun _ _ _ h => (by cases h.1)) (Or.inl ⟨by rfl, ?_⟩) (by assumption) ?_
      · intro W hSW
        go_simp
      simp only [Act.put]
      refine wpAnyH_take (i := 6) (v := .agg #[.int .i64 f2, .int .i64 t2, .slice aw6 A2.length cw6, .slice aw7 U2.length cw7]) rfl (by kernel_rfl) (by kernel_rfl) (by kernel_rfl) (fun _ _ _ h => (by cases h.1)) (Or.inl ⟨by rfl, ?_⟩) (by assumption) ?_
      · intro W hSW
        go_simp
      simp only [Act.put]
      refine wpAnyH_take (i := 7) (v := .bool ok) rfl (by kernel_rfl) (by kernel_rfl) (by kernel_rfl) (fun _ _ _ h => (by cases h.1)) (Or.inl ⟨by rfl, ?_⟩) (by assumption) ?_
      · intro W hSW
        go_simp
      simp only [Act.put]
      refine wpAnyH_ready (rs := [9]) (by kernel_rfl) (by simp) ?_
      refine AllReadyH.cons rfl (fun K hK => ?_) AllReadyH.nil
      rw [if_pos (by rfl)]
      have hk4 : (w5).heap[w2.heap.size]? = some (.cells #[.int .i64 0, .int .i64 0, .slice none 0 0, .slice none 0 0] 28) := (hb5.block w2.heap.size (by have h := hb4.size; have h' := hb3.size; simp at h'; omega)).trans ((hb4.block w2.heap.size (by have h' := hb3.size; simp at h'; omega)).trans ((hb3.block w2.heap.size (by simp)).trans (blk_new w2.drew _)))
      have hgB : w2.heap.size ≤ w2.heap.size := Nat.le_refl _
      have hgk := kpt_put4v (w5) (w2.heap.size) (.int .i64 f2) (.int .i64 t2) (.slice aw6 A2.length cw6) (.slice aw7 U2.length cw7) (S := fun k => k = w2.heap.size) rfl
      have hF := put4v_heap (v0 := .int .i64 f2) (v1 := .int .i64 t2) (v2 := .slice aw6 A2.length cw6) (v3 := .slice aw7 U2.length cw7) hk4
      have hR1 := hra.apart4 hk4 hgk
      have hR2 := hru.apart4 hk4 hgk
      have hSF := put4v_below hS5 (g := w2.heap.size) hgB (.int .i64 f2) (.int .i64 t2) (.slice aw6 A2.length cw6) (.slice aw7 U2.length cw7)
      obtain ⟨⟨r0, r1, r2, r3⟩, ⟨f0, f1, f2', f3⟩⟩ := dif_cells hk4
      go_simp
      unfold put4v at hF hR1 hR2 hSF
      refine hK.out _ _ hSF (fun hSS => ?_)
      clear hK r0 r1 r2 r3 f0 f1 f2' f3 hgk hk4
      refine wpAnyH_take (i := 10) (v := .bool ok) rfl (by kernel_rfl) (by kernel_rfl) (by kernel_rfl) (fun _ _ _ h => (by cases h.1)) (Or.inl ⟨by rfl, ?_⟩) (by assumption) ?_
      · intro W hSW
        go_simp
      simp only [Act.put]
      refine wpAnyH_done (by kernel_rfl) ?_ _
      exact ⟨rfl, g3a, g4b, w2.heap.size, aw6, cw6, aw7, cw7, rfl, hcw6, hcw7, hF, hR1, hR2, hSF, hgB⟩
  rintro e act WFX ⟨rfl, g3a, g4b, gX, aw6, cw6, aw7, cw7, rfl, hcw6, hcw7, hF, hR1, hR2, hSF, hgB⟩
  have hgl : gX < WFX.heap.size := (Array.getElem?_eq_some_iff.1 hF).1
  have hb0F : Below W0.heap.size W0 WFX := HTR.out _ _ hb02 hSF
  have HWF : Hid (∀ W, Below WFX.heap.size WFX W → W.heap[gX]? = some (.cells #[.int .i64 f2, .int .i64 t2, .slice aw6 A2.length cw6, .slice aw7 U2.length cw7] 28) ∧ RRow W (.slice aw6 A2.length cw6) A2 ∧ RRow W (.slice aw7 U2.length cw7) U2 ∧ Below W0.heap.size W0 W) := fun W hW => ⟨(hW.block _ hgl).trans hF, hR1.kept hW, hR2.kept hW, HTR.out _ _ hb0F hW⟩
  have HTF : Hid (∀ W W', Below WFX.heap.size WFX W → Below W.heap.size W W' → Below WFX.heap.size WFX W') := fun W W' h1 h2 => h1.trans (h2.mono h1.size)
  obtain ⟨⟨⟨c0, c1, c2⟩, ⟨d0, d1, d2⟩⟩, hbwF, hzF⟩ := HX.out _ hb0F
  clear hF hR1 hR2 HS HC2 HBW HT22 HTS2 HBW2 hbz hbd hS2
  go_wp2_with fail
  refine (HT1.out _ hbwF).mono ?_
  rintro e w6 ⟨⟨g6, rfl, hg6, hq6⟩, hb6⟩
  have hg6l : g6 < w6.heap.size := hq6.1
  have hbF6 : Below WFX.heap.size WFX w6 := hb6
  have hbF6a : Below WFX.heap.size WFX (w6.alloc (.cells #[.string nm1, .int .i64 ct1, .slice (some ⟨g6, 0, none⟩) L1.length L1.length] 32)) := hb6.alloc hb6.size _
  clear c0 c1 c2 d0 d1 d2
  obtain ⟨⟨⟨c0, c1, c2⟩, ⟨d0, d1, d2⟩⟩, hbw6, hz6⟩ := HX.out _ (HWF.out _ hbF6a).2.2.2
  obtain ⟨⟨⟨y0, y1, y2⟩, ⟨z0, z1, z2⟩⟩, _, hz6'⟩ := HX.out _ (HWF.out _ hbF6).2.2.2
  go_wp2_with fail
  refine (HT2.out _ hbw6).mono ?_
  rintro e w7 ⟨⟨g7, rfl, hg7, hq7⟩, hb7⟩
  have hg7l : g7 < w7.heap.size := hq7.1
  have hg67 : w6.heap.size + 1 ≤ g7 := by simpa using hg7
  have hb67 : Below w6.heap.size w6 w7 := ((Below.refl w6.heap.size w6).alloc (Nat.le_refl _) _).trans (hb7.mono (by simp))
  have hbF7 := HTF.out _ _ hbF6 hb67
  have HX1a : Hid (w7.heap[w6.heap.size]? = some (.cells #[.string nm1, .int .i64 ct1, .slice (some ⟨g6, 0, none⟩) L1.length L1.length] 32)) := (hb7.block w6.heap.size (by simp)).trans (blk_new _ _)
  have hz67 : w6.heap.size < w7.heap.size := Nat.lt_of_lt_of_le (by simp) hb7.size
  have HQ1a : Hid (QRow w7 g6 L1) := hq6.kept hb67
  have HQ2a : Hid (QRow w7 g7 L2) := hq7
  have hbF7a : Below WFX.heap.size WFX (w7.alloc (.cells #[.string nm2, .int .i64 ct2, .slice (some ⟨g7, 0, none⟩) L2.length L2.length] 32)) := hbF7.alloc hbF7.size _
  clear c0 c1 c2 d0 d1 d2 y0 y1 y2 z0 z1 z2 hb7 hg7 hq6 hq7
  obtain ⟨⟨x0, x1, x2⟩, _⟩ := zon_cells HX1a.out
  go_wp2_with fail
  refine (HI.out g6 g7 _ (hE.below (HX.out _ (HWF.out _ hbF7a).2.2.2).2.1) (HQ1a.out.kept ((Below.refl w7.heap.size w7).alloc (Nat.le_refl _) _)) (HQ2a.out.kept ((Below.refl w7.heap.size w7).alloc (Nat.le_refl _) _))).mono ?_
  rintro e w8 ⟨⟨vg6, vg7, rfl, hoa, hou, hap⟩, hb8⟩
  obtain ⟨ag6, cg6, hvg6, hcg6⟩ := hoa.shape
  obtain ⟨ag7, cg7, hvg7, hcg7⟩ := hou.shape
  subst hvg6
  subst hvg7
  have hb78 : Below w7.heap.size w7 w8 := ((Below.refl w7.heap.size w7).alloc (Nat.le_refl _) _).trans (hb8.mono (by simp))
  have hz78 : w7.heap.size < w8.heap.size := Nat.lt_of_lt_of_le (by simp) hb8.size
  have hbF8 := HTF.out _ _ hbF7 hb78
  have HX2b : Hid (w8.heap[w7.heap.size]? = some (.cells #[.string nm2, .int .i64 ct2, .slice (some ⟨g7, 0, none⟩) L2.length L2.length] 32)) := (hb8.block w7.heap.size (by simp)).trans (blk_new _ _)
  have HX1b : Hid (w8.heap[w6.heap.size]? = some (.cells #[.string nm1, .int .i64 ct1, .slice (some ⟨g6, 0, none⟩) L1.length L1.length] 32)) := (hb78.block _ hz67).trans HX1a.out
  have HOA : Hid (OwnQ w8 (w7.heap.size + 1) (.slice ag6 A2.length cg6) A2) := by
    have h : OwnQ w8 (w7.heap.size + 1) (.slice ag6 A2.length cg6) A2 := by simpa using hoa
    exact h
  have HOU : Hid (OwnQ w8 (w7.heap.size + 1) (.slice ag7 U2.length cg7) U2) := by
    have h : OwnQ w8 (w7.heap.size + 1) (.slice ag7 U2.length cg7) U2 := by simpa using hou
    exact h
  have HAP : Hid (∀ g, (Value.slice ag6 A2.length cg6).ownBlock = some g → (Value.slice ag7 U2.length cg7).ownBlock ≠ some g) := hap
  have HLG : Hid (∀ k, (Value.slice ag6 A2.length cg6).ownBlock = some k ∨ (Value.slice ag7 U2.length cg7).ownBlock = some k → w7.heap.size + 1 ≤ k ∧ k < w8.heap.size) := fun k h => by
    rcases h with h | h
    · exact HOA.out.lt k h
    · exact HOU.out.lt k h
  have HQ1b : Hid (QRow w8 g6 L1) := HQ1a.out.kept hb78
  have HQ2b : Hid (QRow w8 g7 L2) := HQ2a.out.kept hb78
  obtain ⟨hW8, hA8, hU8, _⟩ := HWF.out _ (hbF8.alloc hbF8.size (.cells #[.int .i64 f2, .int .i64 t2, .slice ag6 A2.length cg6, .slice ag7 U2.length cg7] 28))
  obtain ⟨hW8', _, _, _⟩ := HWF.out _ hbF8
  obtain ⟨c0, c1, c2, c3⟩ := dif4 hW8'
  have hltX : gX < w8.heap.size := Nat.lt_of_lt_of_le hgl hbF8.size
  clear x0 x1 x2 hoa hou hap hb8 hb67 hb78 HX1a HQ1a HQ2a hW8
  go_wp2_with fail
  refine (HEG.out _ _ _ _ _ (HOA.out.row.kept ((Below.refl w8.heap.size w8).alloc (Nat.le_refl _) _)) (HOU.out.row.kept ((Below.refl w8.heap.size w8).alloc (Nat.le_refl _) _)) hA8 hU8).mono ?_
  rintro e w9 ⟨rfl, hb9⟩
  have hb89 : Below w8.heap.size w8 w9 := ((Below.refl w8.heap.size w8).alloc (Nat.le_refl _) _).trans (hb9.mono (by simp))
  have hz89 : w8.heap.size < w9.heap.size := Nat.lt_of_lt_of_le (by simp) hb9.size
  have HG9 : Hid (w9.heap[w8.heap.size]? = some (.cells #[.int .i64 f2, .int .i64 t2, .slice ag6 A2.length cg6, .slice ag7 U2.length cg7] 28)) := (hb9.block w8.heap.size (by simp)).trans (blk_new _ _)
  have hbF9 := HTF.out _ _ hbF8 hb89
  have HX1c : Hid (w9.heap[w6.heap.size]? = some (.cells #[.string nm1, .int .i64 ct1, .slice (some ⟨g6, 0, none⟩) L1.length L1.length] 32)) := (hb89.block _ (by omega)).trans HX1b.out
  have HX2c : Hid (w9.heap[w7.heap.size]? = some (.cells #[.string nm2, .int .i64 ct2, .slice (some ⟨g7, 0, none⟩) L2.length L2.length] 32)) := (hb89.block _ (by omega)).trans HX2b.out
  have HOA9 : Hid (OwnQ w9 (w7.heap.size + 1) (.slice ag6 A2.length cg6) A2) := HOA.out.kept hb89
  have HOU9 : Hid (OwnQ w9 (w7.heap.size + 1) (.slice ag7 U2.length cg7) U2) := HOU.out.kept hb89
  have HQ1c : Hid (QRow w9 g6 L1) := HQ1b.out.kept hb89
  have HQ2c : Hid (QRow w9 g7 L2) := HQ2b.out.kept hb89
  have HC9 : Hid (∀ W, Below w9.heap.size w9 W → ((W.cell? ⟨w.heap.size, 0, none⟩ = some (.string nm1) ∧ W.cell? ⟨w.heap.size, 1, none⟩ = some (.int .i64 ct1) ∧ W.cell? ⟨w.heap.size, 2, none⟩ = some (.slice a1 L1.length k1)) ∧ (W.cell? ⟨w.heap.size + 1, 0, none⟩ = some (.string nm2) ∧ W.cell? ⟨w.heap.size + 1, 1, none⟩ = some (.int .i64 ct2) ∧ W.cell? ⟨w.heap.size + 1, 2, none⟩ = some (.slice a2 L2.length k2))) ∧ (W.cell? ⟨w6.heap.size, 0, none⟩ = some (.string nm1) ∧ W.cell? ⟨w6.heap.size, 1, none⟩ = some (.int .i64 ct1) ∧ W.cell? ⟨w6.heap.size, 2, none⟩ = some (.slice (some ⟨g6, 0, none⟩) L1.length L1.length)) ∧ Below w9.heap.size w9 W) := fun W hW => ⟨(HX.out _ (HWF.out _ (HTF.out _ _ hbF9 hW)).2.2.2).1, (zon_cells ((hW.block w6.heap.size (by omega)).trans HX1c.out)).1, hW⟩
  have HT9 : Hid (∀ W, Below w9.heap.size w9 W → Calls Tryz.prog 6 #[.agg #[.string nm1, .int .i64 ct1, .slice a1 L1.length k1]] W fun e w' => (∃ g, e = .returned (.agg #[.string nm1, .int .i64 ct1, .slice (some ⟨g, 0, none⟩) L1.length L1.length]) ∧ W.heap.size ≤ g ∧ QRow w' g L1) ∧ Below W.heap.size W w') := fun W hW => HT1.out W (HX.out _ (HWF.out _ (HTF.out _ _ hbF9 hW)).2.2.2).2.1
  have HE9 : Hid (∀ g W, Below w9.heap.size w9 W → QRow W g L1 → Calls Tryz.prog 9 #[.agg #[.string nm1, .int .i64 ct1, .slice (some ⟨g6, 0, none⟩) L1.length L1.length], .agg #[.string nm1, .int .i64 ct1, .slice (some ⟨g, 0, none⟩) L1.length L1.length]] W fun e w' => e = .returned (.bool true) ∧ Below W.heap.size W w') := fun g W hW h1 => HE1.out g6 g W (HQ1c.out.kept hW) h1
  have HTR9 : Hid (∀ W W', Below w9.heap.size w9 W → Below W.heap.size W W' → Below w9.heap.size w9 W') := fun W W' h1 h2 => h1.trans (h2.mono h1.size)
  have hbz : Below w9.heap.size w9 w9 := Below.refl _ _
  have hbd : Below w9.heap.size w9 w9.drew := (Below.refl _ _).drew
  clear c0 c1 c2 c3 hb9 hb89 hA8 hU8 hW8' HX1b HX2b HQ1b HQ2b HOA HOU
  go_wp2_with fail
  go_region_held3 (fun W => ((W.cell? ⟨w.heap.size, 0, none⟩ = some (.string nm1) ∧ W.cell? ⟨w.heap.size, 1, none⟩ = some (.int .i64 ct1) ∧ W.cell? ⟨w.heap.size, 2, none⟩ = some (.slice a1 L1.length k1)) ∧ (W.cell? ⟨w.heap.size + 1, 0, none⟩ = some (.string nm2) ∧ W.cell? ⟨w.heap.size + 1, 1, none⟩ = some (.int .i64 ct2) ∧ W.cell? ⟨w.heap.size + 1, 2, none⟩ = some (.slice a2 L2.length k2))) ∧ (W.cell? ⟨w6.heap.size, 0, none⟩ = some (.string nm1) ∧ W.cell? ⟨w6.heap.size, 1, none⟩ = some (.int .i64 ct1) ∧ W.cell? ⟨w6.heap.size, 2, none⟩ = some (.slice (some ⟨g6, 0, none⟩) L1.length L1.length)) ∧ Below w9.heap.size w9 W) (first | exact HC9.out _ (by assumption) | exact HC9.out _ (Below.drew (by assumption)))
    (first
    | (go_at_call 6; refine (HT9.out _ (by assumption)).mono ?_; rintro e w10 ⟨⟨g10, rfl, _, hq10⟩, hb10⟩; have hb910 := HTR9.out _ _ (by assumption) hb10)
    | (go_at_call 9; refine (HE9.out _ _ (by assumption) (by assumption)).mono ?_; rintro e w11 ⟨rfl, hb11⟩; have hb911 := HTR9.out _ _ (by assumption) hb11))
  have hz911 : w9.heap.size ≤ w11.heap.size := hb911.size
  have hbF11 := HTF.out _ _ hbF9 hb911
  have HG11 : Hid (w11.heap[w8.heap.size]? = some (.cells #[.int .i64 f2, .int .i64 t2, .slice ag6 A2.length cg6, .slice ag7 U2.length cg7] 28)) := (hb911.block _ (by omega)).trans HG9.out
  have HX1d : Hid (w11.heap[w6.heap.size]? = some (.cells #[.string nm1, .int .i64 ct1, .slice (some ⟨g6, 0, none⟩) L1.length L1.length] 32)) := (hb911.block _ (by omega)).trans HX1c.out
  have HX2d : Hid (w11.heap[w7.heap.size]? = some (.cells #[.string nm2, .int .i64 ct2, .slice (some ⟨g7, 0, none⟩) L2.length L2.length] 32)) := (hb911.block _ (by omega)).trans HX2c.out
  have HOA11 : Hid (OwnQ w11 (w7.heap.size + 1) (.slice ag6 A2.length cg6) A2) := HOA9.out.kept hb911
  have HOU11 : Hid (OwnQ w11 (w7.heap.size + 1) (.slice ag7 U2.length cg7) U2) := HOU9.out.kept hb911
  have HQ1d : Hid (QRow w11 g6 L1) := HQ1c.out.kept hb911
  have HQ2d : Hid (QRow w11 g7 L2) := HQ2c.out.kept hb911
  have HC11 : Hid (∀ W, Below w11.heap.size w11 W → ((W.cell? ⟨w.heap.size, 0, none⟩ = some (.string nm1) ∧ W.cell? ⟨w.heap.size, 1, none⟩ = some (.int .i64 ct1) ∧ W.cell? ⟨w.heap.size, 2, none⟩ = some (.slice a1 L1.length k1)) ∧ (W.cell? ⟨w.heap.size + 1, 0, none⟩ = some (.string nm2) ∧ W.cell? ⟨w.heap.size + 1, 1, none⟩ = some (.int .i64 ct2) ∧ W.cell? ⟨w.heap.size + 1, 2, none⟩ = some (.slice a2 L2.length k2))) ∧ (W.cell? ⟨w7.heap.size, 0, none⟩ = some (.string nm2) ∧ W.cell? ⟨w7.heap.size, 1, none⟩ = some (.int .i64 ct2) ∧ W.cell? ⟨w7.heap.size, 2, none⟩ = some (.slice (some ⟨g7, 0, none⟩) L2.length L2.length)) ∧ Below w11.heap.size w11 W) := fun W hW => ⟨(HX.out _ (HWF.out _ (HTF.out _ _ hbF11 hW)).2.2.2).1, (zon_cells ((hW.block w7.heap.size (by omega)).trans HX2d.out)).1, hW⟩
  have HT11 : Hid (∀ W, Below w11.heap.size w11 W → Calls Tryz.prog 6 #[.agg #[.string nm2, .int .i64 ct2, .slice a2 L2.length k2]] W fun e w' => (∃ g, e = .returned (.agg #[.string nm2, .int .i64 ct2, .slice (some ⟨g, 0, none⟩) L2.length L2.length]) ∧ W.heap.size ≤ g ∧ QRow w' g L2) ∧ Below W.heap.size W w') := fun W hW => HT2.out W (HX.out _ (HWF.out _ (HTF.out _ _ hbF11 hW)).2.2.2).2.1
  have HE11 : Hid (∀ g W, Below w11.heap.size w11 W → QRow W g L2 → Calls Tryz.prog 9 #[.agg #[.string nm2, .int .i64 ct2, .slice (some ⟨g7, 0, none⟩) L2.length L2.length], .agg #[.string nm2, .int .i64 ct2, .slice (some ⟨g, 0, none⟩) L2.length L2.length]] W fun e w' => e = .returned (.bool true) ∧ Below W.heap.size W w') := fun g W hW h1 => HE2.out g7 g W (HQ2d.out.kept hW) h1
  have HTR11 : Hid (∀ W W', Below w11.heap.size w11 W → Below W.heap.size W W' → Below w11.heap.size w11 W') := fun W W' h1 h2 => h1.trans (h2.mono h1.size)
  have hby : Below w11.heap.size w11 w11 := Below.refl _ _
  have hbe : Below w11.heap.size w11 w11.drew := (Below.refl _ _).drew
  clear hbz hbd HC9 HT9 HE9 HTR9 HG9 HX1c HX2c HOA9 HOU9 HQ1c HQ2c hb911
  go_wp2_with fail
  go_region_held3 (fun W => ((W.cell? ⟨w.heap.size, 0, none⟩ = some (.string nm1) ∧ W.cell? ⟨w.heap.size, 1, none⟩ = some (.int .i64 ct1) ∧ W.cell? ⟨w.heap.size, 2, none⟩ = some (.slice a1 L1.length k1)) ∧ (W.cell? ⟨w.heap.size + 1, 0, none⟩ = some (.string nm2) ∧ W.cell? ⟨w.heap.size + 1, 1, none⟩ = some (.int .i64 ct2) ∧ W.cell? ⟨w.heap.size + 1, 2, none⟩ = some (.slice a2 L2.length k2))) ∧ (W.cell? ⟨w7.heap.size, 0, none⟩ = some (.string nm2) ∧ W.cell? ⟨w7.heap.size, 1, none⟩ = some (.int .i64 ct2) ∧ W.cell? ⟨w7.heap.size, 2, none⟩ = some (.slice (some ⟨g7, 0, none⟩) L2.length L2.length)) ∧ Below w11.heap.size w11 W) (first | exact HC11.out _ (by assumption) | exact HC11.out _ (Below.drew (by assumption)))
    (first
    | (go_at_call 6; refine (HT11.out _ (by assumption)).mono ?_; rintro e w12 ⟨⟨g12, rfl, _, hq12⟩, hb12⟩; have hb1112 := HTR11.out _ _ (by assumption) hb12)
    | (go_at_call 9; refine (HE11.out _ _ (by assumption) (by assumption)).mono ?_; rintro e w13 ⟨rfl, hb13⟩; have hb1113 := HTR11.out _ _ (by assumption) hb13))
  have hz1113 : w11.heap.size ≤ w13.heap.size := hb1113.size
  have hbF13 := HTF.out _ _ hbF11 hb1113
  have HG13 : Hid (w13.heap[w8.heap.size]? = some (.cells #[.int .i64 f2, .int .i64 t2, .slice ag6 A2.length cg6, .slice ag7 U2.length cg7] 28)) := (hb1113.block _ (by omega)).trans HG11.out
  have HX1e : Hid (w13.heap[w6.heap.size]? = some (.cells #[.string nm1, .int .i64 ct1, .slice (some ⟨g6, 0, none⟩) L1.length L1.length] 32)) := (hb1113.block _ (by omega)).trans HX1d.out
  have HX2e : Hid (w13.heap[w7.heap.size]? = some (.cells #[.string nm2, .int .i64 ct2, .slice (some ⟨g7, 0, none⟩) L2.length L2.length] 32)) := (hb1113.block _ (by omega)).trans HX2d.out
  have HOA13 : Hid (OwnQ w13 (w7.heap.size + 1) (.slice ag6 A2.length cg6) A2) := HOA11.out.kept hb1113
  have HOU13 : Hid (OwnQ w13 (w7.heap.size + 1) (.slice ag7 U2.length cg7) U2) := HOU11.out.kept hb1113
  have HQ1e : Hid (QRow w13 g6 L1) := HQ1d.out.kept hb1113
  have HQ2e : Hid (QRow w13 g7 L2) := HQ2d.out.kept hb1113
  obtain ⟨⟨x0, x1, x2⟩, _⟩ := zon_cells HX1e.out
  clear hby hbe HC11 HT11 HE11 HTR11 HG11 HX1d HX2d HOA11 HOU11 HQ1d HQ2d hb1113
  go_wp2_with fail
  refine (HM1.out _ WFX.heap.size _ (own_of HQ1e.out hg6 hL1)).mono ?_
  rintro e w14 ⟨rfl, _, hk14⟩
  clear x0 x1 x2
  have HLX : Hid (∀ k, (Value.slice (some ⟨g6, 0, none⟩) L1.length L1.length).ownBlock = some k → k = g6) := fun k h => by simp [Value.ownBlock] at h; omega
  have hz1314 : w13.heap.size ≤ w14.heap.size := hk14.size
  have hbF14 : Below WFX.heap.size WFX w14 := hbF13.trans (hk14.below hbF13.size (fun k hk h => by have h1 := HLX.out _ h; omega))
  have HG14 : Hid (w14.heap[w8.heap.size]? = some (.cells #[.int .i64 f2, .int .i64 t2, .slice ag6 A2.length cg6, .slice ag7 U2.length cg7] 28)) := (hk14.block _ (by omega) (fun h => by have h1 := HLX.out _ h; omega)).trans HG13.out
  have HX2f : Hid (w14.heap[w7.heap.size]? = some (.cells #[.string nm2, .int .i64 ct2, .slice (some ⟨g7, 0, none⟩) L2.length L2.length] 32)) := (hk14.block _ (by omega) (fun h => by have h1 := HLX.out _ h; omega)).trans HX2e.out
  have HOA14 : Hid (OwnQ w14 (w7.heap.size + 1) (.slice ag6 A2.length cg6) A2) := HOA13.out.kpt hk14 (fun g hg h => by have h1 := HLX.out _ h; have h2 := HLG.out g (.inl hg); omega)
  have HOU14 : Hid (OwnQ w14 (w7.heap.size + 1) (.slice ag7 U2.length cg7) U2) := HOU13.out.kpt hk14 (fun g hg h => by have h1 := HLX.out _ h; have h2 := HLG.out g (.inr hg); omega)
  have HQ2f : Hid (QRow w14 g7 L2) := HQ2e.out.kpt hk14 (fun h => by have h1 := HLX.out _ h; omega)
  obtain ⟨⟨x0, x1, x2⟩, _⟩ := zon_cells HX2f.out
  clear hk14 HG13 HX1e HX2e HOA13 HOU13 HQ1e HQ2e HLX hbF13
  go_wp2_with fail
  refine (HM2.out _ WFX.heap.size _ (own_of HQ2f.out (by omega) hL2)).mono ?_
  rintro e w14b ⟨rfl, hk14b⟩
  clear x0 x1 x2
  have HLY : Hid (∀ k, (Value.slice (some ⟨g7, 0, none⟩) L2.length L2.length).ownBlock = some k → k = g7) := fun k h => by simp [Value.ownBlock] at h; omega
  have hz14b : w14.heap.size ≤ w14b.heap.size := hk14b.size
  have hbF14b : Below WFX.heap.size WFX w14b := hbF14.trans (hk14b.below hbF14.size (fun k hk h => by have h1 := HLY.out _ h; omega))
  have HG14b : Hid (w14b.heap[w8.heap.size]? = some (.cells #[.int .i64 f2, .int .i64 t2, .slice ag6 A2.length cg6, .slice ag7 U2.length cg7] 28)) := (hk14b.block _ (by omega) (fun h => by have h1 := HLY.out _ h; omega)).trans HG14.out
  have HOA14b : Hid (OwnQ w14b (w7.heap.size + 1) (.slice ag6 A2.length cg6) A2) := HOA14.out.kpt hk14b (fun g hg h => by have h1 := HLY.out _ h; have h2 := HLG.out g (.inl hg); omega)
  have HOU14b : Hid (OwnQ w14b (w7.heap.size + 1) (.slice ag7 U2.length cg7) U2) := HOU14.out.kpt hk14b (fun g hg h => by have h1 := HLY.out _ h; have h2 := HLG.out g (.inr hg); omega)
  obtain ⟨hWc, hAc, hUc, _⟩ := HWF.out _ hbF14b
  obtain ⟨c0, c1, c2, c3⟩ := dif4 hWc
  obtain ⟨d0, d1, d2, d3⟩ := dif4 HG14b.out
  clear hk14b HG14 HX2f HOA14 HOU14 HQ2f HLY hbF14 hWc
  go_wp2_with fail
  refine (HEG.out _ _ _ _ _ HOA14b.out.row HOU14b.out.row hAc hUc).mono ?_
  rintro e w15 ⟨rfl, hb15⟩
  clear c0 c1 c2 c3 d0 d1 d2 d3 hAc hUc
  have hz15 : w14b.heap.size ≤ w15.heap.size := hb15.size
  have hbF15 := HTF.out _ _ hbF14b hb15
  have HG15 : Hid (w15.heap[w8.heap.size]? = some (.cells #[.int .i64 f2, .int .i64 t2, .slice ag6 A2.length cg6, .slice ag7 U2.length cg7] 28)) := (hb15.block _ (by omega)).trans HG14b.out
  have HOA15 : Hid (OwnQ w15 (w7.heap.size + 1) (.slice ag6 A2.length cg6) A2) := HOA14b.out.kept hb15
  have HOU15 : Hid (OwnQ w15 (w7.heap.size + 1) (.slice ag7 U2.length cg7) U2) := HOU14b.out.kept hb15
  obtain ⟨d0, d1, d2, d3⟩ := dif4 HG15.out
  clear hb15 HG14b HOA14b HOU14b
  go_wp2_with fail
  refine (HMG.out _ _ (w7.heap.size + 1) _ HOA15.out HOU15.out HAP.out).mono ?_
  rintro e w15b ⟨rfl, ho15, hu15, hk15⟩
  clear d0 d1 d2 d3
  have hz15b : w15.heap.size ≤ w15b.heap.size := hk15.size
  have hbF15b : Below WFX.heap.size WFX w15b := hbF15.trans (hk15.below hbF15.size (fun k hk h => by have h1 := HLG.out _ h; have h2 := hbF7.size; omega))
  have HG15b : Hid (w15b.heap[w8.heap.size]? = some (.cells #[.int .i64 f2, .int .i64 t2, .slice ag6 A2.length cg6, .slice ag7 U2.length cg7] 28)) := (hk15.block _ (by omega) (fun h => by have h1 := HLG.out _ h; omega)).trans HG15.out
  obtain ⟨d0, d1, d2, d3⟩ := dif4 HG15b.out
  clear hk15 HG15 HOA15 HOU15 hbF15
  go_wp2_with fail
  refine (HHG.out _ _ _ _ ho15 hu15).mono ?_
  rintro e w16 ⟨rfl, hb16⟩
  clear d0 d1 d2 d3
  have hz16 : w15b.heap.size ≤ w16.heap.size := hb16.size
  have hbF16 := HTF.out _ _ hbF15b hb16
  have HG16 : Hid (w16.heap[w8.heap.size]? = some (.cells #[.int .i64 f2, .int .i64 t2, .slice ag6 A2.length cg6, .slice ag7 U2.length cg7] 28)) := (hb16.block _ (by omega)).trans HG15b.out
  have HO16 : Hid (OwnQ w16 (w7.heap.size + 1) (.slice ag6 A2.length cg6) (mrks 1 A2.length)) := ho15.kept hb16
  have HU16 : Hid (OwnQ w16 (w7.heap.size + 1) (.slice ag7 U2.length cg7) (mrks (1 + 4 * A2.length) U2.length)) := hu15.kept hb16
  have HC16 : Hid (∀ W, Below w16.heap.size w16 W → ((W.cell? ⟨w.heap.size, 0, none⟩ = some (.string nm1) ∧ W.cell? ⟨w.heap.size, 1, none⟩ = some (.int .i64 ct1) ∧ W.cell? ⟨w.heap.size, 2, none⟩ = some (.slice a1 L1.length k1)) ∧ (W.cell? ⟨w.heap.size + 1, 0, none⟩ = some (.string nm2) ∧ W.cell? ⟨w.heap.size + 1, 1, none⟩ = some (.int .i64 ct2) ∧ W.cell? ⟨w.heap.size + 1, 2, none⟩ = some (.slice a2 L2.length k2))) ∧ Below w16.heap.size w16 W) := fun W hW => ⟨(HX.out _ (HWF.out _ (HTF.out _ _ hbF16 hW)).2.2.2).1, hW⟩
  have HBW16 : Hid (∀ W, Below w16.heap.size w16 W → Below w.heap.size w W) := fun W hW => (HX.out _ (HWF.out _ (HTF.out _ _ hbF16 hW)).2.2.2).2.1
  have HTS16 : Hid (∀ W W', Below w16.heap.size w16 W → Below W.heap.size W W' → Below w16.heap.size w16 W') := fun W W' h1 h2 => h1.trans (h2.mono h1.size)
  have hS16 : Below w16.heap.size w16 w16.drew := (Below.refl _ _).drew
  clear ho15 hu15 hb16 HG15b hbF15b
  go_wp2_with fail
  refine wp_region_held_drew (S := fun W : World => Below w16.heap.size w16 W) (by kernel_rfl) hS16 (fun hHeld => ?_)
  refine wpAnyH_take (i := 0) (v := .agg #[.string nm1, .int .i64 ct1, .slice a1 L1.length k1]) rfl (by kernel_rfl) (by kernel_rfl) (by kernel_rfl) (fun _ _ _ h => h) (Or.inl ⟨by rfl, ?_⟩) (by assumption) ?_
  · intro W hSW
    obtain ⟨⟨⟨q0, q1, q2⟩, ⟨y0, y1, y2⟩⟩, _⟩ := HC16.out _ hSW
    go_simp
  simp only [Act.put, List.setIfInBounds_toArray]
  refine wpAnyH_take (i := 2) (v := .agg #[.string nm2, .int .i64 ct2, .slice a2 L2.length k2]) rfl (by kernel_rfl) (by kernel_rfl) (by kernel_rfl) (fun _ _ _ h => h) (Or.inl ⟨by rfl, ?_⟩) (by assumption) ?_
  · intro W hSW
    obtain ⟨⟨⟨q0, q1, q2⟩, ⟨y0, y1, y2⟩⟩, _⟩ := HC16.out _ hSW
    go_simp
  simp only [Act.put]
  refine wpAnyH_ready (rs := [1, 8]) (by kernel_rfl) (by simp) ?_
  refine AllReadyH.cons rfl (fun K hK => ?_) (AllReadyH.cons rfl (fun K hK => ?_) AllReadyH.nil)
  · rw [if_pos (by rfl)]
    go_simp
    refine (HT1.out _ (HBW16.out _ hS16)).mono ?_
    rintro e w17 ⟨⟨g17a, rfl, _, hq17⟩, hb17⟩
    go_simp
    have hS17 := HTS16.out _ _ hS16 hb17
    refine hK.out _ _ hS17 (fun hSS => ?_)
    clear hK
    refine wpAnyH_ready (rs := [3, 8]) (by kernel_rfl) (by simp) ?_
    refine AllReadyH.cons rfl (fun K hK => ?_) (AllReadyH.cons rfl (fun K hK => ?_) AllReadyH.nil)
    · rw [if_pos (by rfl)]
      go_simp
      refine (HT2.out _ (HBW16.out _ hS17)).mono ?_
      rintro e w18 ⟨⟨g18b, rfl, _, hq18⟩, hb18⟩
      go_simp
      have hS18 := HTS16.out _ _ hS17 hb18
      have hq17a := hq17.kept hb18
      refine hK.out _ _ hS18 (fun hSS => ?_)
      clear hK
      refine wpAnyH_ready (rs := [4, 8]) (by kernel_rfl) (by simp) ?_
      refine AllReadyH.cons rfl (fun K hK => ?_) (AllReadyH.cons rfl (fun K hK => ?_) AllReadyH.nil)
      · rw [if_pos (by rfl)]
        go_simp
        refine (HI.out g17a g18b _ (hE.below (HBW16.out _ hS18)) (hq17a) (hq18)).mono ?_
        rintro e w19 ⟨⟨vh6, vh7, rfl, hoa, hou, _⟩, hb19⟩
        obtain ⟨ah6, ch6, hvh6, hch6⟩ := hoa.shape
        obtain ⟨ah7, ch7, hvh7, hch7⟩ := hou.shape
        subst hvh6
        subst hvh7
        have hra := hoa.row
        have hru := hou.row
        go_simp
        have hS19 := HTS16.out _ _ hS18 hb19
        refine hK.out _ _ hS19 (fun hSS => ?_)
        clear hK
        refine wpAnyH_take (i := 5) (v := .tuple #[.agg #[.int .i64 f2, .int .i64 t2, .slice ah6 A2.length ch6, .slice ah7 U2.length ch7], .bool ok]) rfl (by kernel_rfl) (by kernel_rfl) (by kernel_rfl) (fun _ _ _ h => h) (Or.inl ⟨by rfl, ?_⟩) (by assumption) ?_
        · intro W hSW
          go_simp
        simp only [Act.put]
        refine wpAnyH_take (i := 6) (v := .agg #[.int .i64 f2, .int .i64 t2, .slice ah6 A2.length ch6, .slice ah7 U2.length ch7]) rfl (by kernel_rfl) (by kernel_rfl) (by kernel_rfl) (fun _ _ _ h => h) (Or.inl ⟨by rfl, ?_⟩) (by assumption) ?_
        · intro W hSW
          go_simp
        simp only [Act.put]
        refine wpAnyH_take (i := 7) (v := .bool ok) rfl (by kernel_rfl) (by kernel_rfl) (by kernel_rfl) (fun _ _ _ h => h) (Or.inl ⟨by rfl, ?_⟩) (by assumption) ?_
        · intro W hSW
          go_simp
        simp only [Act.put]
        refine wpAnyH_ready (rs := [8]) (by kernel_rfl) (by simp) ?_
        refine AllReadyH.cons rfl (fun K hK => ?_) AllReadyH.nil
        rw [if_pos (by rfl)]
        go_simp
        have hS8x := Below.alloc hS19 (Below.size hS19) (.cells #[.int .i64 0, .int .i64 0, .slice none 0 0, .slice none 0 0] 28)
        refine hK.out _ _ hS8x (fun hSS => ?_)
        clear hK
        refine wpAnyH_ready (rs := [9]) (by kernel_rfl) (by simp) ?_
        refine AllReadyH.cons rfl (fun K hK => ?_) AllReadyH.nil
        rw [if_pos (by rfl)]
        have hF : (w19.alloc (.cells #[.int .i64 f2, .int .i64 t2, .slice ah6 A2.length ch6, .slice ah7 U2.length ch7] 28)).heap[w19.heap.size]? = some (.cells #[.int .i64 f2, .int .i64 t2, .slice ah6 A2.length ch6, .slice ah7 U2.length ch7] 28) := blk_new _ _
        have hR1 := hra.kept ((Below.refl w19.heap.size w19).alloc (Nat.le_refl _) (.cells #[.int .i64 f2, .int .i64 t2, .slice ah6 A2.length ch6, .slice ah7 U2.length ch7] 28))
        have hR2 := hru.kept ((Below.refl w19.heap.size w19).alloc (Nat.le_refl _) (.cells #[.int .i64 f2, .int .i64 t2, .slice ah6 A2.length ch6, .slice ah7 U2.length ch7] 28))
        have hSF := Below.alloc hS19 (Below.size hS19) (.cells #[.int .i64 f2, .int .i64 t2, .slice ah6 A2.length ch6, .slice ah7 U2.length ch7] 28)
        have hgB : w16.heap.size ≤ w19.heap.size := hS19.size
        go_simp
        refine hK.out _ _ hSF (fun hSS => ?_)
        clear hK
        refine wpAnyH_take (i := 10) (v := .bool ok) rfl (by kernel_rfl) (by kernel_rfl) (by kernel_rfl) (fun _ _ _ h => h) (Or.inl ⟨by rfl, ?_⟩) (by assumption) ?_
        · intro W hSW
          go_simp
        simp only [Act.put]
        refine wpAnyH_done (by kernel_rfl) ?_ _
        obtain ⟨WF, hWF⟩ : ∃ WF, WF = w19.alloc (.cells #[.int .i64 f2, .int .i64 t2, .slice ah6 A2.length ch6, .slice ah7 U2.length ch7] 28) := ⟨_, rfl⟩
        obtain ⟨gF, hgF⟩ : ∃ g, g = w19.heap.size := ⟨_, rfl⟩
        rw [← hWF] at hF hR1 hR2 hSF ⊢
        rw [← hgF] at hF hgB ⊢
        clear hWF hgF
        have hglH : gF < WF.heap.size := (Array.getElem?_eq_some_iff.1 hF).1
        have hbF17 : Below WFX.heap.size WFX WF := HTF.out _ _ hbF16 hSF
        obtain ⟨hW17, hA17, hU17, _⟩ := HWF.out _ hbF17
        obtain ⟨c0, c1, c2, c3⟩ := dif4 hW17
        obtain ⟨h0, h1, h2, h3⟩ := dif4 hF
        have HO17 : Hid (OwnQ WF (w7.heap.size + 1) (.slice ag6 A2.length cg6) (mrks 1 A2.length)) := HO16.out.kept hSF
        have HU17 : Hid (OwnQ WF (w7.heap.size + 1) (.slice ag7 U2.length cg7) (mrks (1 + 4 * A2.length) U2.length)) := HU16.out.kept hSF
        have HG17 : Hid (WF.heap[w8.heap.size]? = some (.cells #[.int .i64 f2, .int .i64 t2, .slice ag6 A2.length cg6, .slice ag7 U2.length cg7] 28)) := (hSF.block _ (by omega)).trans HG16.out
        have hzz : w16.heap.size ≤ WF.heap.size := hSF.size
        have HR1 : Hid (RRow WF (.slice ah6 A2.length ch6) A2) := hR1
        have HR2 : Hid (RRow WF (.slice ah7 U2.length ch7) U2) := hR2
        clear hW17 hF hR1 hR2 hSS
        go_wp2_with fail
        refine (HEG.out _ _ _ _ _ HR1.out HR2.out hA17 hU17).mono ?_
        rintro e w18 ⟨rfl, hb18⟩
        clear c0 c1 c2 c3 h0 h1 h2 h3 hA17 hU17
        have hbF18 := HTF.out _ _ hbF17 hb18
        have HG18 : Hid (w18.heap[w8.heap.size]? = some (.cells #[.int .i64 f2, .int .i64 t2, .slice ag6 A2.length cg6, .slice ag7 U2.length cg7] 28)) := (hb18.block _ (by omega)).trans HG17.out
        obtain ⟨d0, d1, d2, d3⟩ := dif4 HG18.out
        have HO18 := HO17.out.kept hb18
        have HU18 := HU17.out.kept hb18
        clear HG17
        go_wp2_with fail
        refine (HHG.out _ _ _ _ HO18 HU18).mono ?_
        rintro e w19 ⟨rfl, hb19⟩
        have hbF19 := HTF.out _ _ hbF18 hb19
        have hbw19 := (HX.out _ (HWF.out _ hbF19).2.2.2).2.1
        clear d0 d1 d2 d3
        go_wp2_with fail
        go_ret
        exact ⟨rfl, hbw19⟩
      · rw [if_pos (by rfl)]
        go_simp
        have hS8x := Below.alloc hS18 (Below.size hS18) (.cells #[.int .i64 0, .int .i64 0, .slice none 0 0, .slice none 0 0] 28)
        refine hK.out _ _ hS8x (fun hSS => ?_)
        clear hK
        refine wpAnyH_ready (rs := [4]) (by kernel_rfl) (by simp) ?_
        refine AllReadyH.cons rfl (fun K hK => ?_) AllReadyH.nil
        rw [if_pos (by rfl)]
        go_simp
        refine (HI.out g17a g18b _ (hE.below (HBW16.out _ hS8x)) (hq17a.kept ((Below.refl _ _).alloc (Nat.le_refl _) _)) (hq18.kept ((Below.refl _ _).alloc (Nat.le_refl _) _))).mono ?_
        rintro e w19 ⟨⟨vh6, vh7, rfl, hoa, hou, _⟩, hb19⟩
        obtain ⟨ah6, ch6, hvh6, hch6⟩ := hoa.shape
        obtain ⟨ah7, ch7, hvh7, hch7⟩ := hou.shape
        subst hvh6
        subst hvh7
        have hra := hoa.row
        have hru := hou.row
        go_simp
        have hS19 := HTS16.out _ _ hS8x hb19
        refine hK.out _ _ hS19 (fun hSS => ?_)
        clear hK
        refine wpAnyH_take (i := 5) (v := .tuple #[.agg #[.int .i64 f2, .int .i64 t2, .slice ah6 A2.length ch6, .slice ah7 U2.length ch7], .bool ok]) rfl (by kernel_rfl) (by kernel_rfl) (by kernel_rfl) (fun _ _ _ h => h) (Or.inl ⟨by rfl, ?_⟩) (by assumption) ?_
        · intro W hSW
          go_simp
        simp only [Act.put]
        refine wpAnyH_take (i := 6) (v := .agg #[.int .i64 f2, .int .i64 t2, .slice ah6 A2.length ch6, .slice ah7 U2.length ch7]) rfl (by kernel_rfl) (by kernel_rfl) (by kernel_rfl) (fun _ _ _ h => h) (Or.inl ⟨by rfl, ?_⟩) (by assumption) ?_
        · intro W hSW
          go_simp
        simp only [Act.put]
        refine wpAnyH_take (i := 7) (v := .bool ok) rfl (by kernel_rfl) (by kernel_rfl) (by kernel_rfl) (fun _ _ _ h => h) (Or.inl ⟨by rfl, ?_⟩) (by assumption) ?_
        · intro W hSW
          go_simp
        simp only [Act.put]
        refine wpAnyH_ready (rs := [9]) (by kernel_rfl) (by simp) ?_
        refine AllReadyH.cons rfl (fun K hK => ?_) AllReadyH.nil
        rw [if_pos (by rfl)]
        have hk4 : (w19).heap[w18.heap.size]? = some (.cells #[.int .i64 0, .int .i64 0, .slice none 0 0, .slice none 0 0] 28) := (hb19.block w18.heap.size (by simp)).trans (blk_new _ _)
        have hgB : w16.heap.size ≤ w18.heap.size := hS18.size
        have hgk := kpt_put4v (w19) (w18.heap.size) (.int .i64 f2) (.int .i64 t2) (.slice ah6 A2.length ch6) (.slice ah7 U2.length ch7) (S := fun k => k = w18.heap.size) rfl
        have hF := put4v_heap (v0 := .int .i64 f2) (v1 := .int .i64 t2) (v2 := .slice ah6 A2.length ch6) (v3 := .slice ah7 U2.length ch7) hk4
        have hR1 := hra.apart4 hk4 hgk
        have hR2 := hru.apart4 hk4 hgk
        have hSF := put4v_below hS19 (g := w18.heap.size) hgB (.int .i64 f2) (.int .i64 t2) (.slice ah6 A2.length ch6) (.slice ah7 U2.length ch7)
        obtain ⟨⟨r0, r1, r2, r3⟩, ⟨f0, f1, f2', f3⟩⟩ := dif_cells hk4
        go_simp
        unfold put4v at hF hR1 hR2 hSF
        refine hK.out _ _ hSF (fun hSS => ?_)
        clear hK r0 r1 r2 r3 f0 f1 f2' f3 hgk hk4
        refine wpAnyH_take (i := 10) (v := .bool ok) rfl (by kernel_rfl) (by kernel_rfl) (by kernel_rfl) (fun _ _ _ h => h) (Or.inl ⟨by rfl, ?_⟩) (by assumption) ?_
        · intro W hSW
          go_simp
        simp only [Act.put]
        refine wpAnyH_done (by kernel_rfl) ?_ _
        obtain ⟨WF, hWF⟩ : ∃ WF, WF = ((((w19).setCell ⟨w18.heap.size, 0, none⟩ (.int .i64 f2)).setCell ⟨w18.heap.size, 1, none⟩ (.int .i64 t2)).setCell ⟨w18.heap.size, 2, none⟩ (.slice ah6 A2.length ch6)).setCell ⟨w18.heap.size, 3, none⟩ (.slice ah7 U2.length ch7) := ⟨_, rfl⟩
        obtain ⟨gF, hgF⟩ : ∃ g, g = w18.heap.size := ⟨_, rfl⟩
        rw [← hWF] at hF hR1 hR2 hSF ⊢
        rw [← hgF] at hF hgB ⊢
        clear hWF hgF
        have hglH : gF < WF.heap.size := (Array.getElem?_eq_some_iff.1 hF).1
        have hbF17 : Below WFX.heap.size WFX WF := HTF.out _ _ hbF16 hSF
        obtain ⟨hW17, hA17, hU17, _⟩ := HWF.out _ hbF17
        obtain ⟨c0, c1, c2, c3⟩ := dif4 hW17
        obtain ⟨h0, h1, h2, h3⟩ := dif4 hF
        have HO17 : Hid (OwnQ WF (w7.heap.size + 1) (.slice ag6 A2.length cg6) (mrks 1 A2.length)) := HO16.out.kept hSF
        have HU17 : Hid (OwnQ WF (w7.heap.size + 1) (.slice ag7 U2.length cg7) (mrks (1 + 4 * A2.length) U2.length)) := HU16.out.kept hSF
        have HG17 : Hid (WF.heap[w8.heap.size]? = some (.cells #[.int .i64 f2, .int .i64 t2, .slice ag6 A2.length cg6, .slice ag7 U2.length cg7] 28)) := (hSF.block _ (by omega)).trans HG16.out
        have hzz : w16.heap.size ≤ WF.heap.size := hSF.size
        have HR1 : Hid (RRow WF (.slice ah6 A2.length ch6) A2) := hR1
        have HR2 : Hid (RRow WF (.slice ah7 U2.length ch7) U2) := hR2
        clear hW17 hF hR1 hR2 hSS
        go_wp2_with fail
        refine (HEG.out _ _ _ _ _ HR1.out HR2.out hA17 hU17).mono ?_
        rintro e w18 ⟨rfl, hb18⟩
        clear c0 c1 c2 c3 h0 h1 h2 h3 hA17 hU17
        have hbF18 := HTF.out _ _ hbF17 hb18
        have HG18 : Hid (w18.heap[w8.heap.size]? = some (.cells #[.int .i64 f2, .int .i64 t2, .slice ag6 A2.length cg6, .slice ag7 U2.length cg7] 28)) := (hb18.block _ (by omega)).trans HG17.out
        obtain ⟨d0, d1, d2, d3⟩ := dif4 HG18.out
        have HO18 := HO17.out.kept hb18
        have HU18 := HU17.out.kept hb18
        clear HG17
        go_wp2_with fail
        refine (HHG.out _ _ _ _ HO18 HU18).mono ?_
        rintro e w19 ⟨rfl, hb19⟩
        have hbF19 := HTF.out _ _ hbF18 hb19
        have hbw19 := (HX.out _ (HWF.out _ hbF19).2.2.2).2.1
        clear d0 d1 d2 d3
        go_wp2_with fail
        go_ret
        exact ⟨rfl, hbw19⟩
    · rw [if_pos (by rfl)]
      go_simp
      have hS8x := Below.alloc hS17 (Below.size hS17) (.cells #[.int .i64 0, .int .i64 0, .slice none 0 0, .slice none 0 0] 28)
      refine hK.out _ _ hS8x (fun hSS => ?_)
      clear hK
      refine wpAnyH_ready (rs := [3]) (by kernel_rfl) (by simp) ?_
      refine AllReadyH.cons rfl (fun K hK => ?_) AllReadyH.nil
      rw [if_pos (by rfl)]
      go_simp
      refine (HT2.out _ (HBW16.out _ hS8x)).mono ?_
      rintro e w18 ⟨⟨g18b, rfl, _, hq18⟩, hb18⟩
      go_simp
      have hS18 := HTS16.out _ _ hS8x hb18
      have hq17a := (hq17.kept ((Below.refl _ _).alloc (Nat.le_refl _) _)).kept hb18
      refine hK.out _ _ hS18 (fun hSS => ?_)
      clear hK
      refine wpAnyH_ready (rs := [4]) (by kernel_rfl) (by simp) ?_
      refine AllReadyH.cons rfl (fun K hK => ?_) AllReadyH.nil
      rw [if_pos (by rfl)]
      go_simp
      refine (HI.out g17a g18b _ (hE.below (HBW16.out _ hS18)) (hq17a) (hq18)).mono ?_
      rintro e w19 ⟨⟨vh6, vh7, rfl, hoa, hou, _⟩, hb19⟩
      obtain ⟨ah6, ch6, hvh6, hch6⟩ := hoa.shape
      obtain ⟨ah7, ch7, hvh7, hch7⟩ := hou.shape
      subst hvh6
      subst hvh7
      have hra := hoa.row
      have hru := hou.row
      go_simp
      have hS19 := HTS16.out _ _ hS18 hb19
      refine hK.out _ _ hS19 (fun hSS => ?_)
      clear hK
      refine wpAnyH_take (i := 5) (v := .tuple #[.agg #[.int .i64 f2, .int .i64 t2, .slice ah6 A2.length ch6, .slice ah7 U2.length ch7], .bool ok]) rfl (by kernel_rfl) (by kernel_rfl) (by kernel_rfl) (fun _ _ _ h => h) (Or.inl ⟨by rfl, ?_⟩) (by assumption) ?_
      · intro W hSW
        go_simp
      simp only [Act.put]
      refine wpAnyH_take (i := 6) (v := .agg #[.int .i64 f2, .int .i64 t2, .slice ah6 A2.length ch6, .slice ah7 U2.length ch7]) rfl (by kernel_rfl) (by kernel_rfl) (by kernel_rfl) (fun _ _ _ h => h) (Or.inl ⟨by rfl, ?_⟩) (by assumption) ?_
      · intro W hSW
        go_simp
      simp only [Act.put]
      refine wpAnyH_take (i := 7) (v := .bool ok) rfl (by kernel_rfl) (by kernel_rfl) (by kernel_rfl) (fun _ _ _ h => h) (Or.inl ⟨by rfl, ?_⟩) (by assumption) ?_
      · intro W hSW
        go_simp
      simp only [Act.put]
      refine wpAnyH_ready (rs := [9]) (by kernel_rfl) (by simp) ?_
      refine AllReadyH.cons rfl (fun K hK => ?_) AllReadyH.nil
      rw [if_pos (by rfl)]
      have hk4 : (w19).heap[w17.heap.size]? = some (.cells #[.int .i64 0, .int .i64 0, .slice none 0 0, .slice none 0 0] 28) := (hb19.block w17.heap.size (by have h := hb18.size; simp at h; omega)).trans ((hb18.block w17.heap.size (by simp)).trans (blk_new _ _))
      have hgB : w16.heap.size ≤ w17.heap.size := hS17.size
      have hgk := kpt_put4v (w19) (w17.heap.size) (.int .i64 f2) (.int .i64 t2) (.slice ah6 A2.length ch6) (.slice ah7 U2.length ch7) (S := fun k => k = w17.heap.size) rfl
      have hF := put4v_heap (v0 := .int .i64 f2) (v1 := .int .i64 t2) (v2 := .slice ah6 A2.length ch6) (v3 := .slice ah7 U2.length ch7) hk4
      have hR1 := hra.apart4 hk4 hgk
      have hR2 := hru.apart4 hk4 hgk
      have hSF := put4v_below hS19 (g := w17.heap.size) hgB (.int .i64 f2) (.int .i64 t2) (.slice ah6 A2.length ch6) (.slice ah7 U2.length ch7)
      obtain ⟨⟨r0, r1, r2, r3⟩, ⟨f0, f1, f2', f3⟩⟩ := dif_cells hk4
      go_simp
      unfold put4v at hF hR1 hR2 hSF
      refine hK.out _ _ hSF (fun hSS => ?_)
      clear hK r0 r1 r2 r3 f0 f1 f2' f3 hgk hk4
      refine wpAnyH_take (i := 10) (v := .bool ok) rfl (by kernel_rfl) (by kernel_rfl) (by kernel_rfl) (fun _ _ _ h => h) (Or.inl ⟨by rfl, ?_⟩) (by assumption) ?_
      · intro W hSW
        go_simp
      simp only [Act.put]
      refine wpAnyH_done (by kernel_rfl) ?_ _
      obtain ⟨WF, hWF⟩ : ∃ WF, WF = ((((w19).setCell ⟨w17.heap.size, 0, none⟩ (.int .i64 f2)).setCell ⟨w17.heap.size, 1, none⟩ (.int .i64 t2)).setCell ⟨w17.heap.size, 2, none⟩ (.slice ah6 A2.length ch6)).setCell ⟨w17.heap.size, 3, none⟩ (.slice ah7 U2.length ch7) := ⟨_, rfl⟩
      obtain ⟨gF, hgF⟩ : ∃ g, g = w17.heap.size := ⟨_, rfl⟩
      rw [← hWF] at hF hR1 hR2 hSF ⊢
      rw [← hgF] at hF hgB ⊢
      clear hWF hgF
      have hglH : gF < WF.heap.size := (Array.getElem?_eq_some_iff.1 hF).1
      have hbF17 : Below WFX.heap.size WFX WF := HTF.out _ _ hbF16 hSF
      obtain ⟨hW17, hA17, hU17, _⟩ := HWF.out _ hbF17
      obtain ⟨c0, c1, c2, c3⟩ := dif4 hW17
      obtain ⟨h0, h1, h2, h3⟩ := dif4 hF
      have HO17 : Hid (OwnQ WF (w7.heap.size + 1) (.slice ag6 A2.length cg6) (mrks 1 A2.length)) := HO16.out.kept hSF
      have HU17 : Hid (OwnQ WF (w7.heap.size + 1) (.slice ag7 U2.length cg7) (mrks (1 + 4 * A2.length) U2.length)) := HU16.out.kept hSF
      have HG17 : Hid (WF.heap[w8.heap.size]? = some (.cells #[.int .i64 f2, .int .i64 t2, .slice ag6 A2.length cg6, .slice ag7 U2.length cg7] 28)) := (hSF.block _ (by omega)).trans HG16.out
      have hzz : w16.heap.size ≤ WF.heap.size := hSF.size
      have HR1 : Hid (RRow WF (.slice ah6 A2.length ch6) A2) := hR1
      have HR2 : Hid (RRow WF (.slice ah7 U2.length ch7) U2) := hR2
      clear hW17 hF hR1 hR2 hSS
      go_wp2_with fail
      refine (HEG.out _ _ _ _ _ HR1.out HR2.out hA17 hU17).mono ?_
      rintro e w18 ⟨rfl, hb18⟩
      clear c0 c1 c2 c3 h0 h1 h2 h3 hA17 hU17
      have hbF18 := HTF.out _ _ hbF17 hb18
      have HG18 : Hid (w18.heap[w8.heap.size]? = some (.cells #[.int .i64 f2, .int .i64 t2, .slice ag6 A2.length cg6, .slice ag7 U2.length cg7] 28)) := (hb18.block _ (by omega)).trans HG17.out
      obtain ⟨d0, d1, d2, d3⟩ := dif4 HG18.out
      have HO18 := HO17.out.kept hb18
      have HU18 := HU17.out.kept hb18
      clear HG17
      go_wp2_with fail
      refine (HHG.out _ _ _ _ HO18 HU18).mono ?_
      rintro e w19 ⟨rfl, hb19⟩
      have hbF19 := HTF.out _ _ hbF18 hb19
      have hbw19 := (HX.out _ (HWF.out _ hbF19).2.2.2).2.1
      clear d0 d1 d2 d3
      go_wp2_with fail
      go_ret
      exact ⟨rfl, hbw19⟩
  · rw [if_pos (by rfl)]
    go_simp
    have hS8x := Below.alloc hS16 (Below.size hS16) (.cells #[.int .i64 0, .int .i64 0, .slice none 0 0, .slice none 0 0] 28)
    refine hK.out _ _ hS8x (fun hSS => ?_)
    clear hK
    refine wpAnyH_ready (rs := [1]) (by kernel_rfl) (by simp) ?_
    refine AllReadyH.cons rfl (fun K hK => ?_) AllReadyH.nil
    rw [if_pos (by rfl)]
    go_simp
    refine (HT1.out _ (HBW16.out _ hS8x)).mono ?_
    rintro e w17 ⟨⟨g17a, rfl, _, hq17⟩, hb17⟩
    go_simp
    have hS17 := HTS16.out _ _ hS8x hb17
    refine hK.out _ _ hS17 (fun hSS => ?_)
    clear hK
    refine wpAnyH_ready (rs := [3]) (by kernel_rfl) (by simp) ?_
    refine AllReadyH.cons rfl (fun K hK => ?_) AllReadyH.nil
    rw [if_pos (by rfl)]
    go_simp
    refine (HT2.out _ (HBW16.out _ hS17)).mono ?_
    rintro e w18 ⟨⟨g18b, rfl, _, hq18⟩, hb18⟩
    go_simp
    have hS18 := HTS16.out _ _ hS17 hb18
    have hq17a := hq17.kept hb18
    refine hK.out _ _ hS18 (fun hSS => ?_)
    clear hK
    refine wpAnyH_ready (rs := [4]) (by kernel_rfl) (by simp) ?_
    refine AllReadyH.cons rfl (fun K hK => ?_) AllReadyH.nil
    rw [if_pos (by rfl)]
    go_simp
    refine (HI.out g17a g18b _ (hE.below (HBW16.out _ hS18)) (hq17a) (hq18)).mono ?_
    rintro e w19 ⟨⟨vh6, vh7, rfl, hoa, hou, _⟩, hb19⟩
    obtain ⟨ah6, ch6, hvh6, hch6⟩ := hoa.shape
    obtain ⟨ah7, ch7, hvh7, hch7⟩ := hou.shape
    subst hvh6
    subst hvh7
    have hra := hoa.row
    have hru := hou.row
    go_simp
    have hS19 := HTS16.out _ _ hS18 hb19
    refine hK.out _ _ hS19 (fun hSS => ?_)
    clear hK
    refine wpAnyH_take (i := 5) (v := .tuple #[.agg #[.int .i64 f2, .int .i64 t2, .slice ah6 A2.length ch6, .slice ah7 U2.length ch7], .bool ok]) rfl (by kernel_rfl) (by kernel_rfl) (by kernel_rfl) (fun _ _ _ h => h) (Or.inl ⟨by rfl, ?_⟩) (by assumption) ?_
    · intro W hSW
      go_simp
    simp only [Act.put]
    refine wpAnyH_take (i := 6) (v := .agg #[.int .i64 f2, .int .i64 t2, .slice ah6 A2.length ch6, .slice ah7 U2.length ch7]) rfl (by kernel_rfl) (by kernel_rfl) (by kernel_rfl) (fun _ _ _ h => h) (Or.inl ⟨by rfl, ?_⟩) (by assumption) ?_
    · intro W hSW
      go_simp
    simp only [Act.put]
    refine wpAnyH_take (i := 7) (v := .bool ok) rfl (by kernel_rfl) (by kernel_rfl) (by kernel_rfl) (fun _ _ _ h => h) (Or.inl ⟨by rfl, ?_⟩) (by assumption) ?_
    · intro W hSW
      go_simp
    simp only [Act.put]
    refine wpAnyH_ready (rs := [9]) (by kernel_rfl) (by simp) ?_
    refine AllReadyH.cons rfl (fun K hK => ?_) AllReadyH.nil
    rw [if_pos (by rfl)]
    have hk4 : (w19).heap[w16.heap.size]? = some (.cells #[.int .i64 0, .int .i64 0, .slice none 0 0, .slice none 0 0] 28) := (hb19.block w16.heap.size (by have h := hb18.size; have h' := hb17.size; simp at h'; omega)).trans ((hb18.block w16.heap.size (by have h' := hb17.size; simp at h'; omega)).trans ((hb17.block w16.heap.size (by simp)).trans (blk_new w16.drew _)))
    have hgB : w16.heap.size ≤ w16.heap.size := Nat.le_refl _
    have hgk := kpt_put4v (w19) (w16.heap.size) (.int .i64 f2) (.int .i64 t2) (.slice ah6 A2.length ch6) (.slice ah7 U2.length ch7) (S := fun k => k = w16.heap.size) rfl
    have hF := put4v_heap (v0 := .int .i64 f2) (v1 := .int .i64 t2) (v2 := .slice ah6 A2.length ch6) (v3 := .slice ah7 U2.length ch7) hk4
    have hR1 := hra.apart4 hk4 hgk
    have hR2 := hru.apart4 hk4 hgk
    have hSF := put4v_below hS19 (g := w16.heap.size) hgB (.int .i64 f2) (.int .i64 t2) (.slice ah6 A2.length ch6) (.slice ah7 U2.length ch7)
    obtain ⟨⟨r0, r1, r2, r3⟩, ⟨f0, f1, f2', f3⟩⟩ := dif_cells hk4
    go_simp
    unfold put4v at hF hR1 hR2 hSF
    refine hK.out _ _ hSF (fun hSS => ?_)
    clear hK r0 r1 r2 r3 f0 f1 f2' f3 hgk hk4
    refine wpAnyH_take (i := 10) (v := .bool ok) rfl (by kernel_rfl) (by kernel_rfl) (by kernel_rfl) (fun _ _ _ h => h) (Or.inl ⟨by rfl, ?_⟩) (by assumption) ?_
    · intro W hSW
      go_simp
    simp only [Act.put]
    refine wpAnyH_done (by kernel_rfl) ?_ _
    obtain ⟨WF, hWF⟩ : ∃ WF, WF = ((((w19).setCell ⟨w16.heap.size, 0, none⟩ (.int .i64 f2)).setCell ⟨w16.heap.size, 1, none⟩ (.int .i64 t2)).setCell ⟨w16.heap.size, 2, none⟩ (.slice ah6 A2.length ch6)).setCell ⟨w16.heap.size, 3, none⟩ (.slice ah7 U2.length ch7) := ⟨_, rfl⟩
    obtain ⟨gF, hgF⟩ : ∃ g, g = w16.heap.size := ⟨_, rfl⟩
    rw [← hWF] at hF hR1 hR2 hSF ⊢
    rw [← hgF] at hF hgB ⊢
    clear hWF hgF
    have hglH : gF < WF.heap.size := (Array.getElem?_eq_some_iff.1 hF).1
    have hbF17 : Below WFX.heap.size WFX WF := HTF.out _ _ hbF16 hSF
    obtain ⟨hW17, hA17, hU17, _⟩ := HWF.out _ hbF17
    obtain ⟨c0, c1, c2, c3⟩ := dif4 hW17
    obtain ⟨h0, h1, h2, h3⟩ := dif4 hF
    have HO17 : Hid (OwnQ WF (w7.heap.size + 1) (.slice ag6 A2.length cg6) (mrks 1 A2.length)) := HO16.out.kept hSF
    have HU17 : Hid (OwnQ WF (w7.heap.size + 1) (.slice ag7 U2.length cg7) (mrks (1 + 4 * A2.length) U2.length)) := HU16.out.kept hSF
    have HG17 : Hid (WF.heap[w8.heap.size]? = some (.cells #[.int .i64 f2, .int .i64 t2, .slice ag6 A2.length cg6, .slice ag7 U2.length cg7] 28)) := (hSF.block _ (by omega)).trans HG16.out
    have hzz : w16.heap.size ≤ WF.heap.size := hSF.size
    have HR1 : Hid (RRow WF (.slice ah6 A2.length ch6) A2) := hR1
    have HR2 : Hid (RRow WF (.slice ah7 U2.length ch7) U2) := hR2
    clear hW17 hF hR1 hR2 hSS
    go_wp2_with fail
    refine (HEG.out _ _ _ _ _ HR1.out HR2.out hA17 hU17).mono ?_
    rintro e w18 ⟨rfl, hb18⟩
    clear c0 c1 c2 c3 h0 h1 h2 h3 hA17 hU17
    have hbF18 := HTF.out _ _ hbF17 hb18
    have HG18 : Hid (w18.heap[w8.heap.size]? = some (.cells #[.int .i64 f2, .int .i64 t2, .slice ag6 A2.length cg6, .slice ag7 U2.length cg7] 28)) := (hb18.block _ (by omega)).trans HG17.out
    obtain ⟨d0, d1, d2, d3⟩ := dif4 HG18.out
    have HO18 := HO17.out.kept hb18
    have HU18 := HU17.out.kept hb18
    clear HG17
    go_wp2_with fail
    refine (HHG.out _ _ _ _ HO18 HU18).mono ?_
    rintro e w19 ⟨rfl, hb19⟩
    have hbF19 := HTF.out _ _ hbF18 hb19
    have hbw19 := (HX.out _ (HWF.out _ hbF19).2.2.2).2.1
    clear d0 d1 d2 d3
    go_wp2_with fail
    go_ret
    exact ⟨rfl, hbw19⟩

theorem walk (nm1 : ByteArray) (ct1 : Int) (va : Value) (L1 : List (List UInt8 × Int × Int × List UInt8)) (nm2 : ByteArray) (ct2 : Int) (vb : Value) (L2 : List (List UInt8 × Int × Int × List UInt8)) (w : World)
    (hn1 : nm1.size ≤ maxLen) (ha : RRow w va L1) (hxa : Hid (∀ x ∈ L1, x.1.length ≤ maxLen ∧ x.2.2.2.length ≤ maxLen)) (_hc1 : -9223372036854775808 ≤ ct1 ∧ ct1 ≤ 9223372036854775807) (hn2 : nm2.size ≤ maxLen) (hb : RRow w vb L2) (hxb : Hid (∀ x ∈ L2, x.1.length ≤ maxLen ∧ x.2.2.2.length ≤ maxLen)) (_hc2 : -9223372036854775808 ≤ ct2 ∧ ct2 ≤ 9223372036854775807) (hE : EnvZ w) :
    Calls Tryz.prog 3 #[ZonV nm1 ct1 va, ZonV nm2 ct2 vb] w fun e w' => e = .returned (.bool true) ∧ Below w.heap.size w w' := by
  have la : L1.length ≤ maxLen := by obtain ⟨_, cap, _, h1, h2, _⟩ := ha; omega
  have lb : L2.length ≤ maxLen := by obtain ⟨_, cap, _, h1, h2, _⟩ := hb; omega
  cases hB : offB nm1.data.toList ct1 L1 nm2.data.toList ct2 L2 with
  | false =>
    refine core nm1 ct1 va L1 nm2 ct2 vb L2 false 0 0 [] [] w hn1 ha hxa hn2 hb hxb hE (fun _ => by simp) (fun _ => by simp) (fun h1 h2 h3 h4 h5 h6 g1 g2 W q1 q2 => ?_) (fun h1 h2 h3 h4 h5 h6 g1 g2 W hW q1 q2 => ?_)
    · exact (sDiffOf_any nm1 ct1 _ L1 nm2 ct2 _ L2 W (q1.row (Nat.le_refl _) la) (q2.row (Nat.le_refl _) lb) h1 h2 h3 h4 h5 h6).mono (fun e w' h' => ⟨h'.1.1 hB, h'.2⟩)
    · exact (iDiffOf_any nm1 ct1 _ L1 nm2 ct2 _ L2 W (q1.row (Nat.le_refl _) la) (q2.row (Nat.le_refl _) lb) h1 h2 h3 h4 h5 h6 hW).mono (fun e w' h' => ⟨h'.1.1 hB, h'.2⟩)
  | true =>
    refine core nm1 ct1 va L1 nm2 ct2 vb L2 true ct1 ct2 (wthR L1 L2) (wthR L2 L1) w hn1 ha hxa hn2 hb hxb hE (fun h => Nat.le_trans (wthR_le _ _) h) (fun h => Nat.le_trans (wthR_le _ _) h) (fun h1 h2 h3 h4 h5 h6 g1 g2 W q1 q2 => ?_) (fun h1 h2 h3 h4 h5 h6 g1 g2 W hW q1 q2 => ?_)
    · exact (sDiffOf_any nm1 ct1 _ L1 nm2 ct2 _ L2 W (q1.row (Nat.le_refl _) la) (q2.row (Nat.le_refl _) lb) h1 h2 h3 h4 h5 h6).mono (fun e w' h' => ⟨h'.1.2 hB, h'.2⟩)
    · exact (iDiffOf_any nm1 ct1 _ L1 nm2 ct2 _ L2 W (q1.row (Nat.le_refl _) la) (q2.row (Nat.le_refl _) lb) h1 h2 h3 h4 h5 h6 hW).mono (fun e w' h' => ⟨h'.1.2 hB, h'.2⟩)
end Go.Proofs.YtbcgalhegkhmbaaGreatDoor.diffOf
