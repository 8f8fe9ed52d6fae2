import Derived.Test.YtjocegnhhhfbeaaGreatDoorZ60
import Derived.Test.YtjocegnhhhfbeaaGreatDoorZ62
import Derived.Test.YtjocegnhhhfbeaaGreatDoorZ63
import Derived.Test.YtjocegnhhhfbeaaGreatDoorZ26
import Derived.Test.YtjocegnhhhfbeaaGreatDoorZ12
namespace Go.Proofs.YtjocegnhhhfbeaaGreatDoor.recordsOf
open Go.RowKit

theorem tot_wt (D : List (SetT × Value)) : totD D ≤ 3 * D.length + wtS (D.map (fun x => x.1)) := by
  induction D with
  | nil => exact Nat.zero_le _
  | cons x r ih =>
    rw [totD_cons, List.length_cons, List.map_cons]
    have e : wtS (x.1 :: r.map (fun x => x.1)) = wtS1 x.1 + wtS (r.map (fun x => x.1)) := by unfold wtS; rw [List.map_cons, List.sum_cons]
    rw [e]
    unfold wtS1
    omega

set_option maxRecDepth 20000 in
set_option maxHeartbeats 8000000 in
theorem walk (v : Value) (L : List SetT) (w : World) (hr : SSRow w v L) (hx : Hid (∀ x ∈ L, SFit x)) (hE : EnvR w) :
    Calls Tryz.prog 4 #[v] w fun e w' => e = .returned (.bool true) ∧ Below w.heap.size w w' := by
  have HSZ : Hid (Calls Tryz.prog 14 #[v, .int .i64 1048576] w fun e w' => (∃ q : Int, e = .returned (.int .i64 q) ∧ (q = -1 ∨ (0 ≤ q ∧ q = 1048576 - (L.length : Int) - (wtS L : Int)))) ∧ Below w.heap.size w w') := szSetS_any v L 1048576 w hr hx (by omega) (by omega)
  have HTO : Hid (L.length ≤ 1048576 → Hid (∀ x ∈ L, SBig x) → ∀ W, Below w.heap.size w W → Calls Tryz.prog 16 #[v] W fun e w' => ∃ D, D.map (fun x : SetT × Value => x.1) = L ∧ e = .returned (.slice (some ⟨W.heap.size, 0, none⟩) L.length L.length) ∧ Bld w' W.heap.size (.slice (some ⟨W.heap.size, 0, none⟩) L.length L.length) D ∧ Below W.heap.size W w') := fun h1 h2 W hW => toSetS_any v L W (hr.kept hW) h1 h2
  obtain ⟨aa, ca, hva, _, hca, _⟩ := id hr
  subst hva
  clear hr
  obtain ⟨ok, hok⟩ : ∃ ok, ok = rcoB L := ⟨_, rfl⟩
  have e1 : (ok != ok) = false := by simp
  go_enter Tryz.func4, Tryz.ntmps4
  go_wp2_with fail
  refine HSZ.out.mono ?_
  rintro e w1 ⟨⟨q, rfl, hq⟩, hb1⟩
  rcases hq with rfl | ⟨hq0, hqe⟩
  · go_wp2_with fail
    go_ret
    exact ⟨rfl, hb1⟩
  have hL : L.length ≤ 1048576 := by omega
  have hWT : wtS L ≤ 1048576 := by omega
  have HXB : Hid (∀ x ∈ L, SBig x) := fun x hm => sbig_of (Nat.le_trans (wtS_one hm) hWT)
  have HTR : Hid (∀ W, Below w.heap.size w W → Calls Tryz.prog 16 #[.slice aa L.length ca] W fun e w' => ∃ D, D.map (fun x : SetT × Value => x.1) = L ∧ e = .returned (.slice (some ⟨W.heap.size, 0, none⟩) L.length L.length) ∧ Bld w' W.heap.size (.slice (some ⟨W.heap.size, 0, none⟩) L.length L.length) D ∧ Below W.heap.size W w') := HTO.out hL HXB
  have HTD : Hid (∀ D : List (SetT × Value), D.map (fun x : SetT × Value => x.1) = L → D.length ≤ 1048576 ∧ (∀ x ∈ D, x.1.2.2.2.length ≤ 1048576) ∧ totD D ≤ 200000000) := fun D h => by
    have hl : D.length = L.length := by rw [← h, List.length_map]
    refine ⟨by omega, fun x hx => (HXB.out x.1 (by rw [← h]; exact List.mem_map.2 ⟨x, hx, rfl⟩)).2.1, ?_⟩
    have := tot_wt D
    rw [h] at this
    omega
  have HS : Hid (∀ vv W, SSRow W vv L → Calls Tryz.prog 15 #[vv] W fun e w' => (∃ u, e = .returned (.tuple #[u, .bool ok]) ∧ RRow w' u (rcoX L)) ∧ Below W.heap.size W w') := fun vv W h => by rw [hok]; exact sRecordsOf_any vv L W h HXB hL hWT
  have HI : Hid (∀ vv W, Below w.heap.size w W → SSRow W vv L → Calls Tryz.prog 17 #[vv] W fun e w' => (∃ u, e = .returned (.tuple #[u, .bool ok]) ∧ OwnQ w' W.heap.size u (rcoX L)) ∧ Below W.heap.size W w') := fun vv W hW h => by rw [hok]; exact iRecordsOf_any vv L W h HXB hL (hE.below hW)
  have hX := rcoX_len L
  obtain ⟨X, hXe⟩ : ∃ X, X = rcoX L := ⟨_, rfl⟩
  rw [← hXe] at HS HI hX
  have HMR : Hid (∀ v base W, OwnQ W base v X → Calls Tryz.prog 11 #[v, .int .i64 1] W fun e w' => e = .returned (.int .i64 (1 + 4 * (X.length : Int))) ∧ OwnQ w' base v (mrks 1 X.length) ∧ W.grownBy w' v.ownBlock) := fun v base W h1 => markRecordS_any v X base 1 W h1 (by omega) (by omega) (by omega)
  have HHD : Hid (∀ v base W, OwnQ W base v (mrks 1 X.length) → Calls Tryz.prog 18 #[v, .int .i64 1] W fun e w' => e = .returned (.int .i64 (1 + 4 * (X.length : Int))) ∧ Below W.heap.size W w') := fun v base W h1 => heldRecordS_any v X.length 1 W h1.row (by omega) (by omega) (by omega)
  obtain ⟨m, hm⟩ : ∃ m : Int, m = 1 + 4 * (X.length : Int) := ⟨_, rfl⟩
  rw [← hm] at HMR HHD
  have hm0 : ¬ m < 0 := by omega
  have em : (m != m) = false := by simp
  clear hqe HTO HSZ hx hE hXe hok hm hX
  go_wp2_with fail
  refine (HTR.out _ hb1).mono ?_
  rintro e w2 ⟨D2, hD2, rfl, hB2, hb2⟩
  have hbw2 : Below w.heap.size w w2 := hb1.trans (hb2.mono hb1.size)
  have HC2 : Hid (Calls Tryz.prog 15 #[.slice (some ⟨w1.heap.size, 0, none⟩) L.length L.length] w2 fun e w' => (∃ u, e = .returned (.tuple #[u, .bool ok]) ∧ RRow w' u X) ∧ Below w2.heap.size w2 w') := HS.out _ _ (by have h := bld_row hB2; rw [hD2] at h; exact h)
  clear hD2 hB2 hb2 HS
  go_wp2_with fail
  refine HC2.out.mono ?_
  rintro e w3 ⟨⟨u0, rfl, hr0⟩, hb3⟩
  have hbw3 : Below w.heap.size w w3 := hbw2.trans (hb3.mono hbw2.size)
  obtain ⟨a0, c0, hu0, _⟩ := rrow_value hr0
  subst hu0
  have HR0 : Hid (∀ W, Below w3.heap.size w3 W → RRow W (.slice a0 X.length c0) X) := fun W hW => hr0.kept hW
  clear hr0 hb3 HC2
  go_wp2_with fail
  refine (HTR.out _ hbw3).mono ?_
  rintro e w4 ⟨D4, hD4, rfl, hB4, hb4⟩
  have hbw4 : Below w.heap.size w w4 := hbw3.trans (hb4.mono hbw3.size)
  have HD4 : Hid (D4.map (fun x => x.1) = L) := hD4
  have HB4 : Hid (Bld w4 w3.heap.size (.slice (some ⟨w3.heap.size, 0, none⟩) L.length L.length) D4) := hB4
  have HT1 : Hid (∀ k, (Value.slice (some ⟨w3.heap.size, 0, none⟩) L.length L.length).ownBlock = some k → k < w4.heap.size) := fun k hk => (hB4.1.lt k hk).2
  have HT2 : Hid (∀ x ∈ D4, ∀ k, x.2.ownBlock = some k → k < w4.heap.size) := fun x hx k hk => ((hB4.2.1 x hx).1.lt k hk).2
  have HC4 : Hid (Calls Tryz.prog 17 #[.slice (some ⟨w3.heap.size, 0, none⟩) L.length L.length] w4 fun e w' => (∃ u, e = .returned (.tuple #[u, .bool ok]) ∧ OwnQ w' w4.heap.size u X) ∧ Below w4.heap.size w4 w') := HI.out _ _ hbw4 (by have h := bld_row hB4; rw [hD4] at h; exact h)
  have h34 : Below w3.heap.size w3 w4 := hb4
  clear hD4 hB4 hb4
  go_wp2_with fail
  refine HC4.out.mono ?_
  rintro e w5 ⟨⟨u1, rfl, ho1⟩, hb5⟩
  have hbw5 : Below w.heap.size w w5 := hbw4.trans (hb5.mono hbw4.size)
  have h35 : Below w3.heap.size w3 w5 := h34.trans (hb5.mono h34.size)
  have HB5 : Hid (Bld w5 w3.heap.size (.slice (some ⟨w3.heap.size, 0, none⟩) L.length L.length) D4) := HB4.out.kept hb5
  obtain ⟨a1, c1, hu1, _⟩ := ho1.shape
  subst hu1
  have HO5 : Hid (OwnQ w5 w4.heap.size (.slice a1 X.length c1) X) := ho1
  have HC5 : Hid (Calls Tryz.prog 10 #[.slice a1 X.length c1, .slice a0 X.length c0] w5 fun e w' => e = .returned (.bool true) ∧ Below w5.heap.size w5 w') := eqRecordS_same _ _ X w5 ho1.row (HR0.out _ h35)
  have hz34 : w3.heap.size ≤ w4.heap.size := h34.size
  clear ho1 hb5 HB4 HC4 h34
  go_wp2_with fail
  refine HC5.out.mono ?_
  rintro e w6 ⟨rfl, hb6⟩
  have hbw6 : Below w.heap.size w w6 := hbw5.trans (hb6.mono hbw5.size)
  clear HC5
  go_wp2_with fail
  refine (HTR.out _ hbw6).mono ?_
  rintro e w7 ⟨D7, hD7, rfl, hB7, hb7⟩
  have hb57 : Below w5.heap.size w5 w7 := hb6.trans (hb7.mono hb6.size)
  have hbw7 : Below w.heap.size w w7 := hbw6.trans (hb7.mono hbw6.size)
  have HC7 : Hid (Calls Tryz.prog 9 #[.slice (some ⟨w3.heap.size, 0, none⟩) L.length L.length, .slice (some ⟨w6.heap.size, 0, none⟩) L.length L.length] w7 fun e w' => e = .returned (.bool true) ∧ Below w7.heap.size w7 w') := eqSetS_same _ _ D4 D7 _ _ w7 (HB5.out.kept hb57) hB7 (HD4.out.trans hD7.symm)
  clear hD7 hB7 hb6 hb7
  go_wp2_with fail
  refine HC7.out.mono ?_
  rintro e w8 ⟨rfl, hb8⟩
  have hb58 : Below w5.heap.size w5 w8 := hb57.trans (hb8.mono hb57.size)
  have hbw8 : Below w.heap.size w w8 := hbw7.trans (hb8.mono hbw7.size)
  have h38 : Below w3.heap.size w3 w8 := h35.trans (hb58.mono h35.size)
  have HO8 : Hid (OwnQ w8 w4.heap.size (.slice a1 X.length c1) X) := HO5.out.kept hb58
  obtain ⟨ht1, ht2, ht3⟩ := HTD.out D4 HD4.out
  have HMS : Hid (Calls Tryz.prog 12 #[.slice (some ⟨w3.heap.size, 0, none⟩) L.length L.length, .int .i64 1] w8 fun e w' => e = .returned (.int .i64 (1 + (totD D4 : Int))) ∧ Bld w' w3.heap.size (.slice (some ⟨w3.heap.size, 0, none⟩) L.length L.length) (markD 1 D4) ∧ Below w3.heap.size w8 w' ∧ Kpt w8 w' (fun k => k < w4.heap.size)) := markSetW_any _ D4 w3.heap.size w4.heap.size w8 (HB5.out.kept hb58) h38.size ht1 ht2 ht3 HT1.out HT2
  obtain ⟨d, hd⟩ : ∃ d : Int, d = 1 + (totD D4 : Int) := ⟨_, rfl⟩
  rw [← hd] at HMS
  have hd0 : ¬ d < 0 := by omega
  clear hb57 hb8 hb58 HO5 HB5 HC7 h35 ht1 ht2 ht3 hd HT1 HT2 HTD
  go_wp2_with fail
  refine HMS.out.mono ?_
  rintro e w9 ⟨rfl, _, hb9, hk9⟩
  have hbw9 : Below w.heap.size w w9 := hbw8.trans (hb9.mono hbw3.size)
  have h39 : Below w3.heap.size w3 w9 := h38.trans hb9
  have HO9 : Hid (OwnQ w9 w4.heap.size (.slice a1 X.length c1) X) := HO8.out.kpt hk9 (fun g hg h => by have := (HO8.out.lt g hg).1; omega)
  have HC9 : Hid (Calls Tryz.prog 10 #[.slice a1 X.length c1, .slice a0 X.length c0] w9 fun e w' => e = .returned (.bool true) ∧ Below w9.heap.size w9 w') := eqRecordS_same _ _ X w9 HO9.out.row (HR0.out _ h39)
  clear hb9 hk9 HO8 HMS h38
  go_wp2_with fail
  refine HC9.out.mono ?_
  rintro e w10 ⟨rfl, hb10⟩
  have hbw10 : Below w.heap.size w w10 := hbw9.trans (hb10.mono hbw9.size)
  have h310 : Below w3.heap.size w3 w10 := h39.trans (hb10.mono h39.size)
  have HO10 : Hid (OwnQ w10 w4.heap.size (.slice a1 X.length c1) X) := HO9.out.kept hb10
  clear hb10 HO9 HC9 h39
  go_wp2_with fail
  refine (HMR.out _ _ _ HO10.out).mono ?_
  rintro e w11 ⟨rfl, ho11, hg11⟩
  have hbw11 : Below w.heap.size w w11 := hbw10.grown hg11 hbw10.size (fun k hk => Nat.le_trans hbw4.size (HO10.out.lt k hk).1)
  have h311 : Below w3.heap.size w3 w11 := h310.grown hg11 h310.size (fun k hk => Nat.le_trans hz34 (HO10.out.lt k hk).1)
  have HO11 : Hid (OwnQ w11 w4.heap.size (.slice a1 X.length c1) (mrks 1 X.length)) := ho11
  clear ho11 hg11 HO10 h310
  go_wp2_with fail
  refine (HHD.out _ _ _ HO11.out).mono ?_
  rintro e w12 ⟨rfl, hb12⟩
  have hbw12 : Below w.heap.size w w12 := hbw11.trans (hb12.mono hbw11.size)
  have h312 : Below w3.heap.size w3 w12 := h311.trans (hb12.mono h311.size)
  have HO12 : Hid (OwnQ w12 w4.heap.size (.slice a1 X.length c1) (mrks 1 X.length)) := HO11.out.kept hb12
  clear hb12 HO11 h311
  go_wp2_with fail
  refine (HTR.out _ hbw12).mono ?_
  rintro e w13 ⟨D13, hD13, rfl, hB13, hb13⟩
  have hbw13 : Below w.heap.size w w13 := hbw12.trans (hb13.mono hbw12.size)
  have h313 : Below w3.heap.size w3 w13 := h312.trans (hb13.mono h312.size)
  have HC13 : Hid (Calls Tryz.prog 17 #[.slice (some ⟨w12.heap.size, 0, none⟩) L.length L.length] w13 fun e w' => (∃ u, e = .returned (.tuple #[u, .bool ok]) ∧ OwnQ w' w13.heap.size u X) ∧ Below w13.heap.size w13 w') := HI.out _ _ hbw13 (by have h := bld_row hB13; rw [hD13] at h; exact h)
  have HO13 : Hid (OwnQ w13 w4.heap.size (.slice a1 X.length c1) (mrks 1 X.length)) := HO12.out.kept hb13
  clear hD13 hB13 hb13 HO12 h312
  go_wp2_with fail
  refine HC13.out.mono ?_
  rintro e w14 ⟨⟨u2, rfl, ho2⟩, hb14⟩
  have hbw14 : Below w.heap.size w w14 := hbw13.trans (hb14.mono hbw13.size)
  have h314 : Below w3.heap.size w3 w14 := h313.trans (hb14.mono h313.size)
  have HO14 : Hid (OwnQ w14 w4.heap.size (.slice a1 X.length c1) (mrks 1 X.length)) := HO13.out.kept hb14
  obtain ⟨a2, c2, hu2, _⟩ := ho2.shape
  subst hu2
  have HC14 : Hid (Calls Tryz.prog 10 #[.slice a2 X.length c2, .slice a0 X.length c0] w14 fun e w' => e = .returned (.bool true) ∧ Below w14.heap.size w14 w') := eqRecordS_same _ _ X w14 ho2.row (HR0.out _ h314)
  clear ho2 hb14 HO13 HC13 h313
  go_wp2_with fail
  refine HC14.out.mono ?_
  rintro e w15 ⟨rfl, hb15⟩
  have hbw15 : Below w.heap.size w w15 := hbw14.trans (hb15.mono hbw14.size)
  have HO15 : Hid (OwnQ w15 w4.heap.size (.slice a1 X.length c1) (mrks 1 X.length)) := HO14.out.kept hb15
  clear hb15 HO14 HC14
  go_wp2_with fail
  refine (HHD.out _ _ _ HO15.out).mono ?_
  rintro e w16 ⟨rfl, hb16⟩
  have hbw16 : Below w.heap.size w w16 := hbw15.trans (hb16.mono hbw15.size)
  clear hb16 HO15
  go_wp2_with fail
  go_ret
  exact ⟨rfl, hbw16⟩
end Go.Proofs.YtjocegnhhhfbeaaGreatDoor.recordsOf
