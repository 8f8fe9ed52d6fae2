import Derived.Test.YtjocegnhhhfbeaaGreatDoorZ39
import Derived.Test.YtjocegnhhhfbeaaGreatDoorZ14
import Derived.Test.YtjocegnhhhfbeaaGreatDoorZ26
import Derived.Test.YtjocegnhhhfbeaaGreatDoorZ12
namespace Go.Proofs.YtjocegnhhhfbeaaGreatDoor.setsOf
open Go.RowKit

/-- Sets that are told, or none. -/
def SetsT (w' : World) (base : Nat) (T : List SetT) (ok : Bool) (e : Ending) : Prop := ∃ u DS, DS.map (fun x : SetT × Value => x.1) = T ∧ e = .returned (.tuple #[u, .bool ok]) ∧ Bld w' base u DS
theorem sets_t {w' : World} {base : Nat} {o : Option (List SetT)} {e : Ending} (h : SetsR w' base o e) : SetsT w' base (o.getD []) o.isSome e := by
  cases o with
  | none => exact ⟨_, [], rfl, h, Bld.nil _ _⟩
  | some S => obtain ⟨u, DS, h1, h2, h3⟩ := h; exact ⟨u, DS, h1, h2, h3⟩
theorem own_q {w : World} {base g : Nat} {L : List (List UInt8 × Int × Int × List UInt8)} (h : QRow w g L) (hb : base ≤ g) (hl : L.length ≤ 1048576) : OwnQ w base (.slice (some ⟨g, 0, none⟩) L.length L.length) L :=
  .inr ⟨g, L.length, rfl, Nat.le_refl _, by unfold maxLen; omega, hb, h⟩
theorem data_of {D : List (SetT × Value)} {T : List SetT} (h : D.map (fun x => x.1) = T) (hT : T.length ≤ 100 ∧ ∀ s ∈ T, s.2.2.2.length ≤ 1000) : D.length ≤ 100 ∧ ∀ x ∈ D, x.1.2.2.2.length ≤ 1000 := by
  refine ⟨by rw [← h, List.length_map] at hT; exact hT.1, fun x hx => hT.2 x.1 (by rw [← h]; exact List.mem_map.2 ⟨x, hx, rfl⟩)⟩

set_option maxRecDepth 20000 in
set_option maxHeartbeats 8000000 in
theorem core (v : Value) (L : List (List UInt8 × Int × Int × List UInt8)) (T : List SetT) (ok : Bool) (w : World) (hr : RRow w v L) (hx : Hid (∀ x ∈ L, x.1.length ≤ maxLen ∧ x.2.2.2.length ≤ maxLen)) (hE : EnvR w) (HT : Hid (T.length ≤ 100 ∧ ∀ s ∈ T, s.2.2.2.length ≤ 1000))
    (HS0 : Hid (∀ g W, L.length ≤ 1048576 → Hid (∀ x ∈ L, x.1.length ≤ 1048576 ∧ x.2.2.2.length ≤ 1048576) → QRow W g L → Calls Tryz.prog 6 #[.slice (some ⟨g, 0, none⟩) L.length L.length] W fun e w' => SetsT w' W.heap.size T ok e ∧ Below W.heap.size W w'))
    (HI0 : Hid (∀ g W, EnvR W → L.length ≤ 1048576 → Hid (∀ x ∈ L, x.1.length ≤ 1048576 ∧ x.2.2.2.length ≤ 1048576) → QRow W g L → Calls Tryz.prog 8 #[.slice (some ⟨g, 0, none⟩) L.length L.length] W fun e w' => SetsT w' W.heap.size T ok e ∧ Below W.heap.size W w')) :
    Calls Tryz.prog 3 #[v] w fun e w' => e = .returned (.bool true) ∧ Below w.heap.size w w' := by
  have HSZ : Hid (Calls Tryz.prog 5 #[v, .int .i64 1048576] w fun e w' => (∃ q : Int, e = .returned (.int .i64 q) ∧ ((q = -1 ∧ (1048576 : Int) < (L.length : Int) + (wtR L : Int)) ∨ (q = 1048576 - (L.length : Int) - (wtR L : Int) ∧ 0 ≤ q))) ∧ Below w.heap.size w w') := szRecordS_any v L 1048576 w hr hx (by omega) (by omega)
  have HTO : Hid (L.length ≤ 1048576 → ∀ W, Below w.heap.size w W → Calls Tryz.prog 7 #[v] W fun e w' => e = .returned (.slice (some ⟨W.heap.size, 0, none⟩) L.length L.length) ∧ QRow w' W.heap.size L ∧ Below W.heap.size W w') := fun h1 W hW => toRecordS_any v L W (hr.kept hW) h1
  obtain ⟨aa, ca, hva, _, hca, _⟩ := id hr
  subst hva
  clear hr
  have e1 : (ok != ok) = false := by simp
  go_enter Tryz.func3, Tryz.ntmps3
  go_wp2_with fail
  refine HSZ.out.mono ?_
  rintro e w1 ⟨⟨q, rfl, hq⟩, hb1⟩
  rcases hq with ⟨rfl, _⟩ | ⟨hqe, hq0⟩
  · go_wp2_with fail
    go_ret
    exact ⟨rfl, hb1⟩
  have hL : L.length ≤ 1048576 := by omega
  have HX : Hid (∀ x ∈ L, x.1.length ≤ 1048576 ∧ x.2.2.2.length ≤ 1048576) := fun x hm => by have := wtR_mem hm; omega
  have HTR : Hid (∀ W, Below w.heap.size w W → Calls Tryz.prog 7 #[.slice aa L.length ca] W fun e w' => e = .returned (.slice (some ⟨W.heap.size, 0, none⟩) L.length L.length) ∧ QRow w' W.heap.size L ∧ Below W.heap.size W w') := HTO.out hL
  have HS : Hid (∀ g W, QRow W g L → Calls Tryz.prog 6 #[.slice (some ⟨g, 0, none⟩) L.length L.length] W fun e w' => SetsT w' W.heap.size T ok e ∧ Below W.heap.size W w') := fun g W h => HS0.out g W hL HX h
  have HI : Hid (∀ g W, Below w.heap.size w W → QRow W g L → Calls Tryz.prog 8 #[.slice (some ⟨g, 0, none⟩) L.length L.length] W fun e w' => SetsT w' W.heap.size T ok e ∧ Below W.heap.size W w') := fun g W hW h => HI0.out g W (hE.below hW) hL HX h
  clear hqe HTO HS0 HI0 HSZ hx hE
  go_wp2_with fail
  refine (HTR.out _ hb1).mono ?_
  rintro e w2 ⟨rfl, hq2, hb2⟩
  have hbw2 : Below w.heap.size w w2 := hb1.trans (hb2.mono hb1.size)
  have HC2 : Hid (Calls Tryz.prog 6 #[.slice (some ⟨w1.heap.size, 0, none⟩) L.length L.length] w2 fun e w' => SetsT w' w2.heap.size T ok e ∧ Below w2.heap.size w2 w') := HS.out _ _ hq2
  clear hq2 hb2 HS
  go_wp2_with fail
  refine HC2.out.mono ?_
  rintro e w3 ⟨⟨u0, D0, hD0, rfl, hB0⟩, hb3⟩
  have hbw3 : Below w.heap.size w w3 := hbw2.trans (hb3.mono hbw2.size)
  have HD0 : Hid (D0.map (fun x => x.1) = T) := hD0
  have HB03 : Hid (Bld w3 w2.heap.size u0 D0) := hB0
  have HL0 : Hid (∀ k, u0.ownBlock = some k → k < w3.heap.size) := fun k hk => (hB0.1.lt k hk).2
  have HLD : Hid (∀ x ∈ D0, ∀ k, x.2.ownBlock = some k → k < w3.heap.size) := fun x hx k hk => ((hB0.2.1 x hx).1.lt k hk).2
  obtain ⟨a0, n0, c0, hu0⟩ : ∃ a n c, u0 = .slice a n c := by obtain ⟨a, c, h, _⟩ := hB0.shape; exact ⟨a, _, c, h⟩
  subst hu0
  clear hD0 hB0 hb3 HC2
  go_wp2_with fail
  refine (HTR.out _ hbw3).mono ?_
  rintro e w4 ⟨rfl, hq4, hb4⟩
  have hbw4 : Below w.heap.size w w4 := hbw3.trans (hb4.mono hbw3.size)
  have hz34 : w3.heap.size < w4.heap.size := hq4.1
  have HB04 : Hid (Bld w4 w2.heap.size (.slice a0 n0 c0) D0) := HB03.out.kept hb4
  have HQ4 : Hid (QRow w4 w3.heap.size L) := hq4
  have HC4 : Hid (Calls Tryz.prog 8 #[.slice (some ⟨w3.heap.size, 0, none⟩) L.length L.length] w4 fun e w' => SetsT w' w4.heap.size T ok e ∧ Below w4.heap.size w4 w') := HI.out _ _ hbw4 hq4
  clear hq4 hb4 HB03
  go_wp2_with fail
  refine HC4.out.mono ?_
  rintro e w5 ⟨⟨u1, D1, hD1, rfl, hB1⟩, hb5⟩
  have hbw5 : Below w.heap.size w w5 := hbw4.trans (hb5.mono hbw4.size)
  have HD1 : Hid (D1.map (fun x => x.1) = T) := hD1
  have HB15 : Hid (Bld w5 w4.heap.size u1 D1) := hB1
  have HB05 : Hid (Bld w5 w2.heap.size (.slice a0 n0 c0) D0) := HB04.out.kept hb5
  have HQ5 : Hid (QRow w5 w3.heap.size L) := HQ4.out.kept hb5
  have hz45 : w4.heap.size ≤ w5.heap.size := hb5.size
  obtain ⟨a1, n1, c1, hu1⟩ : ∃ a n c, u1 = .slice a n c := by obtain ⟨a, c, h, _⟩ := hB1.shape; exact ⟨a, _, c, h⟩
  subst hu1
  have HC5 : Hid (Calls Tryz.prog 9 #[.slice a1 n1 c1, .slice a0 n0 c0] w5 fun e w' => e = .returned (.bool true) ∧ Below w5.heap.size w5 w') := eqSetS_same _ _ D1 D0 _ _ w5 HB15.out HB05.out (HD1.out.trans HD0.out.symm)
  clear hD1 hB1 hb5 HB04 HQ4 HC4
  go_wp2_with fail
  refine HC5.out.mono ?_
  rintro e w6 ⟨rfl, hb6⟩
  have hbw6 : Below w.heap.size w w6 := hbw5.trans (hb6.mono hbw5.size)
  clear HC5
  go_wp2_with fail
  refine (HTR.out _ hbw6).mono ?_
  rintro e w7 ⟨rfl, hq7, hb7⟩
  have hb57 : Below w5.heap.size w5 w7 := hb6.trans (hb7.mono hb6.size)
  have hbw7 : Below w.heap.size w w7 := hbw6.trans (hb7.mono hbw6.size)
  have HC7 : Hid (Calls Tryz.prog 10 #[.slice (some ⟨w3.heap.size, 0, none⟩) L.length L.length, .slice (some ⟨w6.heap.size, 0, none⟩) L.length L.length] w7 fun e w' => e = .returned (.bool true) ∧ Below w7.heap.size w7 w') := eqRecordS_same _ _ L w7 ((HQ5.out.kept hb57).row (Nat.le_refl _) (by unfold maxLen; omega)) (hq7.row (Nat.le_refl _) (by unfold maxLen; omega))
  clear hq7 hb6 hb7
  go_wp2_with fail
  refine HC7.out.mono ?_
  rintro e w8 ⟨rfl, hb8⟩
  have hb58 : Below w5.heap.size w5 w8 := hb57.trans (hb8.mono hb57.size)
  have hbw8 : Below w.heap.size w w8 := hbw7.trans (hb8.mono hbw7.size)
  have hz58 : w5.heap.size ≤ w8.heap.size := hb58.size
  have HB18 : Hid (Bld w8 w4.heap.size (.slice a1 n1 c1) D1) := HB15.out.kept hb58
  have HB08 : Hid (Bld w8 w2.heap.size (.slice a0 n0 c0) D0) := HB05.out.kept hb58
  have HMR : Hid (Calls Tryz.prog 11 #[.slice (some ⟨w3.heap.size, 0, none⟩) L.length L.length, .int .i64 1] w8 fun e w' => e = .returned (.int .i64 (1 + 4 * (L.length : Int))) ∧ w8.grownBy w' (some w3.heap.size)) := (markRecordS_any _ L w3.heap.size 1 w8 (own_q (HQ5.out.kept hb58) (Nat.le_refl _) hL) hL (by omega) (by omega)).mono fun e w' h => ⟨h.1, h.2.2⟩
  clear hb57 hb8 hb58 HB15 HB05 HQ5 HC7
  go_wp2_with fail
  refine HMR.out.mono ?_
  rintro e w9 ⟨rfl, hg9⟩
  have hz9 : w8.heap.size ≤ w9.heap.size := hg9.size
  have hbw9 : Below w.heap.size w w9 := hbw8.grown hg9 hbw8.size (fun k hk => by cases hk; exact hbw3.size)
  have hb39 : Below w3.heap.size w8 w9 := (Below.refl _ _).grown hg9 (by omega) (fun k hk => by cases hk; exact Nat.le_refl _)
  have HB19 : Hid (Bld w9 w4.heap.size (.slice a1 n1 c1) D1) := HB18.out.grown hg9 (fun k hk => by cases hk; exact hz34)
  have HB09 : Hid (Bld w9 w2.heap.size (.slice a0 n0 c0) D0) := HB08.out.low hb39 HL0.out HLD.out
  have HC9 : Hid (Calls Tryz.prog 9 #[.slice a1 n1 c1, .slice a0 n0 c0] w9 fun e w' => e = .returned (.bool true) ∧ Below w9.heap.size w9 w') := eqSetS_same _ _ D1 D0 _ _ w9 HB19.out HB09.out (HD1.out.trans HD0.out.symm)
  have hk0 : ¬ (1 + 4 * (L.length : Int)) < 0 := by omega
  clear hg9 hb39 HB18 HB08 HMR
  go_wp2_with fail
  refine HC9.out.mono ?_
  rintro e w10 ⟨rfl, hb10⟩
  have hbw10 : Below w.heap.size w w10 := hbw9.trans (hb10.mono hbw9.size)
  have HB110 : Hid (Bld w10 w4.heap.size (.slice a1 n1 c1) D1) := HB19.out.kept hb10
  have HB010 : Hid (Bld w10 w2.heap.size (.slice a0 n0 c0) D0) := HB09.out.kept hb10
  have hz10 : w9.heap.size ≤ w10.heap.size := hb10.size
  have hdd := data_of HD1.out HT.out
  have HDD : Hid (∀ x ∈ D1, x.1.2.2.2.length ≤ 1000) := hdd.2
  have hdl : D1.length ≤ 100 := hdd.1
  have HMS : Hid (Calls Tryz.prog 12 #[.slice a1 n1 c1, .int .i64 1] w10 fun e w' => e = .returned (.int .i64 (1 + (totD D1 : Int))) ∧ Bld w' w4.heap.size (.slice a1 n1 c1) (markD 1 D1) ∧ Below w4.heap.size w10 w') := markSetS_any _ D1 w4.heap.size w10 HB110.out (by omega) hdl HDD
  have HHS : Hid (∀ W, Bld W w4.heap.size (.slice a1 n1 c1) (markD 1 D1) → Calls Tryz.prog 13 #[.slice a1 n1 c1, .int .i64 1] W fun e w' => e = .returned (.int .i64 (1 + (totD D1 : Int))) ∧ Below W.heap.size W w') := fun W h => heldSetS_any _ D1 w4.heap.size W h hdl HDD
  obtain ⟨m, hm⟩ : ∃ m : Int, m = 1 + (totD D1 : Int) := ⟨_, rfl⟩
  rw [← hm] at HMS HHS
  have hm0 : ¬ m < 0 := by omega
  have em : (m != m) = false := by simp
  clear hb10 HB19 HB09 HC9 hdd hm
  go_wp2_with fail
  refine HMS.out.mono ?_
  rintro e w11 ⟨rfl, hB11, hb11⟩
  have hz11 : w4.heap.size ≤ w11.heap.size := by have := (hB11.shape); have h := hb11.size; omega
  have hbw11 : Below w.heap.size w w11 := hbw10.trans (hb11.mono hbw4.size)
  have HB111 : Hid (Bld w11 w4.heap.size (.slice a1 n1 c1) (markD 1 D1)) := hB11
  have HB011 : Hid (Bld w11 w2.heap.size (.slice a0 n0 c0) D0) := HB010.out.low hb11 (fun k hk => Nat.lt_trans (HL0.out k hk) hz34) (fun x hx k hk => Nat.lt_trans (HLD.out x hx k hk) hz34)
  clear hB11 hb11 HB110 HB010 HMS
  go_wp2_with fail
  refine (HHS.out _ HB111.out).mono ?_
  rintro e w12 ⟨rfl, hb12⟩
  have hbw12 : Below w.heap.size w w12 := hbw11.trans (hb12.mono hbw11.size)
  have HB112 : Hid (Bld w12 w4.heap.size (.slice a1 n1 c1) (markD 1 D1)) := HB111.out.kept hb12
  have HB012 : Hid (Bld w12 w2.heap.size (.slice a0 n0 c0) D0) := HB011.out.kept hb12
  clear hb12 HB111 HB011
  go_wp2_with fail
  refine (HTR.out _ hbw12).mono ?_
  rintro e w13 ⟨rfl, hq13, hb13⟩
  have hbw13 : Below w.heap.size w w13 := hbw12.trans (hb13.mono hbw12.size)
  have HC13 : Hid (Calls Tryz.prog 8 #[.slice (some ⟨w12.heap.size, 0, none⟩) L.length L.length] w13 fun e w' => SetsT w' w13.heap.size T ok e ∧ Below w13.heap.size w13 w') := HI.out _ _ hbw13 hq13
  have HB113 : Hid (Bld w13 w4.heap.size (.slice a1 n1 c1) (markD 1 D1)) := HB112.out.kept hb13
  have HB013 : Hid (Bld w13 w2.heap.size (.slice a0 n0 c0) D0) := HB012.out.kept hb13
  clear hq13 hb13 HB112 HB012
  go_wp2_with fail
  refine HC13.out.mono ?_
  rintro e w14 ⟨⟨u2, D2, hD2, rfl, hB2⟩, hb14⟩
  have hbw14 : Below w.heap.size w w14 := hbw13.trans (hb14.mono hbw13.size)
  have HB114 : Hid (Bld w14 w4.heap.size (.slice a1 n1 c1) (markD 1 D1)) := HB113.out.kept hb14
  have HB014 : Hid (Bld w14 w2.heap.size (.slice a0 n0 c0) D0) := HB013.out.kept hb14
  obtain ⟨a2, n2, c2, hu2⟩ : ∃ a n c, u2 = .slice a n c := by obtain ⟨a, c, h, _⟩ := hB2.shape; exact ⟨a, _, c, h⟩
  subst hu2
  have HC14 : Hid (Calls Tryz.prog 9 #[.slice a2 n2 c2, .slice a0 n0 c0] w14 fun e w' => e = .returned (.bool true) ∧ Below w14.heap.size w14 w') := eqSetS_same _ _ D2 D0 _ _ w14 hB2 HB014.out (hD2.trans HD0.out.symm)
  clear hD2 hB2 hb14 HB113 HB013 HC13
  go_wp2_with fail
  refine HC14.out.mono ?_
  rintro e w15 ⟨rfl, hb15⟩
  have hbw15 : Below w.heap.size w w15 := hbw14.trans (hb15.mono hbw14.size)
  have HB115 : Hid (Bld w15 w4.heap.size (.slice a1 n1 c1) (markD 1 D1)) := HB114.out.kept hb15
  clear hb15 HB114 HB014 HC14
  go_wp2_with fail
  refine (HHS.out _ HB115.out).mono ?_
  rintro e w16 ⟨rfl, hb16⟩
  have hbw16 : Below w.heap.size w w16 := hbw15.trans (hb16.mono hbw15.size)
  clear hb16 HB115
  go_wp2_with fail
  go_ret
  exact ⟨rfl, hbw16⟩
end Go.Proofs.YtjocegnhhhfbeaaGreatDoor.setsOf
