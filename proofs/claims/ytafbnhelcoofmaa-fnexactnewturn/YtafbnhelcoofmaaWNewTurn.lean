import Derived.Test.YtafbnhelcoofmaaNtR
import Derived.Test.YtafbnhelcoofmaaTrO
namespace Go.Proofs.Ytafbnhelcoofmaa
open Go.RowKit
theorem ZSRow.kpt {w w' : World} {g : Nat} {S : Nat → Prop} {L : List Int} (h : ZSRow w g L) (hk : Kpt w w' S) (hn : ¬ S g) : ZSRow w' g L := h.apart hk hn
theorem ntans_own {w' : World} {base : Nat} {P : List Int} {e : Ending} (h : NTAns w' base P e) : ∃ va vu, e = .returned (.tuple #[TrnV va vu, .bool (goodW P)]) ∧ OwnT w' base va vu (if goodW P then P else []) (if goodW P then zrs P.length else []) := by
  have hz : (zrs P.length).length = P.length := by simp [zrs]
  rcases h with ⟨h1, rfl⟩ | ⟨h1, t, ch, gr, rfl, h2, h3, h4, h5, h6, s1, s2⟩
  · rw [h1]; exact ⟨_, _, rfl, .inl ⟨rfl, rfl, rfl, rfl⟩⟩
  · rw [h1]
    refine ⟨_, _, rfl, ?_⟩
    show OwnT w' base _ _ P (zrs P.length)
    exact .inr ⟨t, ch, gr, P.length, rfl, by rw [hz], h2, h3, by rw [hz]; exact Nat.le_refl _, by omega, h4, h5, h6, s1, s2⟩
end Go.Proofs.Ytafbnhelcoofmaa
namespace Go.Proofs.Ytafbnhelcoofmaa.newTurn
open Go.RowKit

set_option maxRecDepth 20000 in
set_option maxHeartbeats 8000000 in
theorem core (v : Value) (P A U : List Int) (ok : Bool) (w0 : World) (hr : ZRow .i64 w0 v P) (hAl : P.length ≤ 1048576 → A.length ≤ 1048576 ∧ U.length ≤ 1048576)
    (HS0 : Hid (P.length ≤ 1048576 → ∀ g W, ZSRow W g P → Calls Try.prog 15 #[.slice (some ⟨g, 0, none⟩) P.length P.length] W fun e w' => (∃ va vu, e = .returned (.tuple #[TrnV va vu, .bool ok]) ∧ OwnT w' W.heap.size va vu A U) ∧ Below W.heap.size W w'))
    (HI0 : Hid (P.length ≤ 1048576 → ∀ g W, ZSRow W g P → Calls Try.prog 16 #[.slice (some ⟨g, 0, none⟩) P.length P.length] W fun e w' => (∃ va vu, e = .returned (.tuple #[TrnV va vu, .bool ok]) ∧ OwnT w' W.heap.size va vu A U) ∧ Below W.heap.size W w')) :
    Calls Try.prog 4 #[v] w0 fun e w' => e = .returned (.bool true) ∧ Below w0.heap.size w0 w' := by
  obtain ⟨pa, pc, hpv, hpc, hpm, _⟩ := zrow_value hr
  subst hpv
  by_cases hl : P.length ≤ 1048576
  · have HTO : Hid (∀ W, Below w0.heap.size w0 W → Calls Try.prog 8 #[.slice pa P.length pc] W fun e w' => e = .returned (.slice (some ⟨W.heap.size, 0, none⟩) P.length P.length) ∧ ZSRow w' W.heap.size P ∧ Below W.heap.size W w') := fun W hW => toIntS_any _ P W (hr.kept hW) hl
    have hAU := hAl hl
    have HSP := HS0.out hl
    have HS : Hid (∀ g W, ZSRow W g P → Calls Try.prog 15 #[.slice (some ⟨g, 0, none⟩) P.length P.length] W fun e w' => (∃ va vu, e = .returned (.tuple #[TrnV va vu, .bool ok]) ∧ OwnT w' W.heap.size va vu A U) ∧ Below W.heap.size W w') := HSP
    have HIP := HI0.out hl
    have HI : Hid (∀ g W, ZSRow W g P → Calls Try.prog 16 #[.slice (some ⟨g, 0, none⟩) P.length P.length] W fun e w' => (∃ va vu, e = .returned (.tuple #[TrnV va vu, .bool ok]) ∧ OwnT w' W.heap.size va vu A U) ∧ Below W.heap.size W w') := HIP
    have HEQ : Hid (∀ va vu va2 vu2 b1 b2 W, OwnT W b1 va vu A U → OwnT W b2 va2 vu2 A U → Calls Try.prog 17 #[TrnV va vu, TrnV va2 vu2] W fun e w' => e = .returned (.bool true) ∧ Below W.heap.size W w') := fun va vu va2 vu2 b1 b2 W h1 h2 => eqTurn_same va vu va2 vu2 A U W h1.rows.1 h1.rows.2 h2.rows.1 h2.rows.2
    have HMK : Hid (∀ va vu base W, OwnT W base va vu A U → Calls Try.prog 18 #[TrnV va vu, .int .i64 1] W fun e w' => e = .returned (.int .i64 (1 + (A.length : Int) + (U.length : Int))) ∧ OwnT w' base va vu (mksZ 1 A.length) (mksZ (1 + A.length) U.length) ∧ Kpt W w' (inT va vu)) := fun va vu base W h => markTurnO_any va vu A U base W h hAU.1 hAU.2
    have HHD : Hid (∀ va vu base W, OwnT W base va vu (mksZ 1 A.length) (mksZ (1 + A.length) U.length) → Calls Try.prog 19 #[TrnV va vu, .int .i64 1] W fun e w' => e = .returned (.int .i64 (1 + (A.length : Int) + (U.length : Int))) ∧ Below W.heap.size W w') := fun va vu base W h => heldTurnO_any va vu A.length U.length base W h hAU.1 hAU.2
    have HMX : Hid (∀ g W, ZSRow W g P → Calls Try.prog 12 #[.slice (some ⟨g, 0, none⟩) P.length P.length, .int .i64 1] W fun e w' => e = .returned (.int .i64 (((1 : Nat) : Int) + (P.length : Int))) ∧ ZSRow w' g (mksZ 1 P.length) ∧ W.grownBy w' (some g)) := fun g W h => markIntZ_any g P.length 1 P W h hl (Nat.le_refl _) (by omega) (by omega)
    have HEX : Hid (∀ v1 v2 W, ZRow .i64 W v1 P → ZRow .i64 W v2 P → Calls Try.prog 11 #[v1, v2] W fun e w' => e = .returned (.bool true) ∧ Below W.heap.size W w') := fun v1 v2 W h1 h2 => by
      have h := eqIntS_any v1 v2 P P W h1 h2
      rw [show (P == P) = true by simp] at h
      exact h
    obtain ⟨m, hm⟩ : ∃ m : Int, m = 1 + (A.length : Int) + (U.length : Int) := ⟨_, rfl⟩
    rw [← hm] at HMK HHD
    obtain ⟨x, hx⟩ : ∃ x : Int, x = ((1 : Nat) : Int) + (P.length : Int) := ⟨_, rfl⟩
    rw [← hx] at HMX
    have hm0 : ¬ m < 0 := by omega
    have em : (m != m) = false := by simp
    have hx0 : ¬ x < 0 := by omega
    have e2 : (ok != ok) = false := by simp
    have hbw_w0 : Below w0.heap.size w0 w0 := Below.refl _ _
    have hlp : P.length ≤ 1048576 := hl
    unfold TrnV at HS HI HEQ HMK HHD
    clear hm hx HS0 HI0 HSP HIP hAl hr hAU
    go_enter Try.func4, Try.ntmps4
    go_wp2_with fail
    refine (HTO.out _ hbw_w0).mono ?_
    rintro e w1 ⟨rfl, hs1, hb1⟩
    have HX_w1 : Hid (ZSRow w1 w0.heap.size P) := hs1
    have hbw_w1 : Below w0.heap.size w0 w1 := hbw_w0.trans (hb1.mono hbw_w0.size)
    have hz_w1 : w0.heap.size ≤ w1.heap.size := hb1.size
    clear hs1 hb1
    go_wp2_with fail
    refine (HS.out _ _ HX_w1.out).mono ?_
    rintro e w2 ⟨⟨va1, vu1, rfl, ho1⟩, hb2⟩
    obtain ⟨a1, c1, b1, d1, rfl, rfl⟩ := ho1.shape
    have HL1 : Hid (∀ k, inT (Value.slice a1 A.length c1) (Value.slice b1 U.length d1) k → w1.heap.size ≤ k ∧ k < w2.heap.size) := fun k h => ho1.lt k h
    have hbw_w2 : Below w0.heap.size w0 w2 := hbw_w1.trans (hb2.mono hbw_w1.size)
    have hz_w2 : w1.heap.size ≤ w2.heap.size := hb2.size
    have OA_w2 : Hid (OwnT w2 w1.heap.size (.slice a1 A.length c1) (.slice b1 U.length d1) A U) := ho1
    clear ho1 hb2 HX_w1 hbw_w1
    have hbA : Below w2.heap.size w2 (w2.alloc (.cells #[.slice a1 A.length c1, .slice b1 U.length d1] 33)) := (Below.refl _ _).alloc (Nat.le_refl _) _
    go_wp2_with fail
    refine (HTO.out _ (hbw_w2.trans (hbA.mono hbw_w2.size))).mono ?_
    rintro e w3 ⟨rfl, hs3, hb3⟩
    have hsz3 : (w2.alloc (.cells #[.slice a1 A.length c1, .slice b1 U.length d1] 33)).heap.size = w2.heap.size + 1 := by simp
    rw [hsz3] at hs3
    have hb23 : Below w2.heap.size w2 w3 := hbA.trans (hb3.mono (by simp))
    have hx3 : w3.heap[w2.heap.size]? = some (.cells #[.slice a1 A.length c1, .slice b1 U.length d1] 33) := (hb3.block w2.heap.size (by simp)).trans (trn_new _ _)
    clear hb3 hbA
    have hbw_w3 : Below w0.heap.size w0 w3 := hbw_w2.trans (hb23.mono hbw_w2.size)
    have hz_w3 : w2.heap.size ≤ w3.heap.size := hb23.size
    have OA_w3 : Hid (OwnT w3 w1.heap.size (.slice a1 A.length c1) (.slice b1 U.length d1) A U) := OA_w2.out.kept hb23
    clear OA_w2 hb23 hbw_w2 
    have B3_w3 : Hid (w3.heap[w2.heap.size]? = some (.cells #[.slice a1 A.length c1, .slice b1 U.length d1] 33)) := hx3
    have SX_w3 : Hid (ZSRow w3 (w2.heap.size + 1) P) := hs3
    have hg3 : w2.heap.size + 1 < w3.heap.size := hs3.1
    clear hx3 hs3 hsz3
    go_wp2_with fail
    refine (HI.out _ _ SX_w3.out).mono ?_
    rintro e w4 ⟨⟨va2, vu2, rfl, ho2⟩, hb4⟩
    obtain ⟨a2, c2, b2, d2, rfl, rfl⟩ := ho2.shape
    have HL2 : Hid (∀ k, inT (Value.slice a2 A.length c2) (Value.slice b2 U.length d2) k → w3.heap.size ≤ k ∧ k < w4.heap.size) := fun k h => ho2.lt k h
    have HO_w4 : Hid (OwnT w4 w3.heap.size (.slice a2 A.length c2) (.slice b2 U.length d2) A U) := ho2
    clear ho2
    have hbw_w4 : Below w0.heap.size w0 w4 := hbw_w3.trans (hb4.mono hbw_w3.size)
    have hz_w4 : w3.heap.size ≤ w4.heap.size := hb4.size
    have OA_w4 : Hid (OwnT w4 w1.heap.size (.slice a1 A.length c1) (.slice b1 U.length d1) A U) := OA_w3.out.kept hb4
    have B3_w4 : Hid (w4.heap[w2.heap.size]? = some (.cells #[.slice a1 A.length c1, .slice b1 U.length d1] 33)) := (hb4.block w2.heap.size (by omega)).trans B3_w3.out
    have SX_w4 : Hid (ZSRow w4 (w2.heap.size + 1) P) := SX_w3.out.kept hb4
    clear OA_w3 B3_w3 SX_w3 hb4 hbw_w3 
    have hbA : Below w4.heap.size w4 (w4.alloc (.cells #[.slice a2 A.length c2, .slice b2 U.length d2] 33)) := (Below.refl _ _).alloc (Nat.le_refl _) _
    have hlt4 : w2.heap.size < w4.heap.size := by omega
    obtain ⟨⟨d0, d1⟩, _⟩ := trn_cells B3_w4.out
    go_wp2_with fail
    refine (HEQ.out _ _ _ _ _ _ _ (HO_w4.out.kept hbA) (OA_w4.out.kept hbA)).mono ?_
    rintro e w5 ⟨rfl, hb5⟩
    clear d0 d1
    have hb45 : Below w4.heap.size w4 w5 := hbA.trans (hb5.mono (by simp))
    have hx5 : w5.heap[w4.heap.size]? = some (.cells #[.slice a2 A.length c2, .slice b2 U.length d2] 33) := (hb5.block w4.heap.size (by simp)).trans (trn_new _ _)
    have hz45 : w4.heap.size < w5.heap.size := Nat.lt_of_lt_of_le (by simp) hb5.size
    clear hb5 hbA
    have hbw_w5 : Below w0.heap.size w0 w5 := hbw_w4.trans (hb45.mono hbw_w4.size)
    have hz_w5 : w4.heap.size ≤ w5.heap.size := hb45.size
    have OA_w5 : Hid (OwnT w5 w1.heap.size (.slice a1 A.length c1) (.slice b1 U.length d1) A U) := OA_w4.out.kept hb45
    have B3_w5 : Hid (w5.heap[w2.heap.size]? = some (.cells #[.slice a1 A.length c1, .slice b1 U.length d1] 33)) := (hb45.block w2.heap.size (by omega)).trans B3_w4.out
    have SX_w5 : Hid (ZSRow w5 (w2.heap.size + 1) P) := SX_w4.out.kept hb45
    have HO_w5 : Hid (OwnT w5 w3.heap.size (.slice a2 A.length c2) (.slice b2 U.length d2) A U) := HO_w4.out.kept hb45
    clear OA_w4 B3_w4 SX_w4 HO_w4 hb45 hbw_w4 
    have B6_w5 : Hid (w5.heap[w4.heap.size]? = some (.cells #[.slice a2 A.length c2, .slice b2 U.length d2] 33)) := hx5
    clear hx5
    go_wp2_with fail
    refine (HTO.out _ hbw_w5).mono ?_
    rintro e w6 ⟨rfl, hs6, hb6⟩
    have HT_w6 : Hid (ZSRow w6 w5.heap.size P) := hs6
    clear hs6
    have hbw_w6 : Below w0.heap.size w0 w6 := hbw_w5.trans (hb6.mono hbw_w5.size)
    have hz_w6 : w5.heap.size ≤ w6.heap.size := hb6.size
    have OA_w6 : Hid (OwnT w6 w1.heap.size (.slice a1 A.length c1) (.slice b1 U.length d1) A U) := OA_w5.out.kept hb6
    have B3_w6 : Hid (w6.heap[w2.heap.size]? = some (.cells #[.slice a1 A.length c1, .slice b1 U.length d1] 33)) := (hb6.block w2.heap.size (by omega)).trans B3_w5.out
    have SX_w6 : Hid (ZSRow w6 (w2.heap.size + 1) P) := SX_w5.out.kept hb6
    have HO_w6 : Hid (OwnT w6 w3.heap.size (.slice a2 A.length c2) (.slice b2 U.length d2) A U) := HO_w5.out.kept hb6
    have B6_w6 : Hid (w6.heap[w4.heap.size]? = some (.cells #[.slice a2 A.length c2, .slice b2 U.length d2] 33)) := (hb6.block w4.heap.size (by omega)).trans B6_w5.out
    clear OA_w5 B3_w5 SX_w5 HO_w5 B6_w5 hb6 hbw_w5 
    go_wp2_with fail
    refine (HEX.out _ _ _ (SX_w6.out.row hlp) (HT_w6.out.row hlp)).mono ?_
    rintro e w7 ⟨rfl, hb7⟩
    clear HT_w6
    have hbw_w7 : Below w0.heap.size w0 w7 := hbw_w6.trans (hb7.mono hbw_w6.size)
    have hz_w7 : w6.heap.size ≤ w7.heap.size := hb7.size
    have OA_w7 : Hid (OwnT w7 w1.heap.size (.slice a1 A.length c1) (.slice b1 U.length d1) A U) := OA_w6.out.kept hb7
    have B3_w7 : Hid (w7.heap[w2.heap.size]? = some (.cells #[.slice a1 A.length c1, .slice b1 U.length d1] 33)) := (hb7.block w2.heap.size (by omega)).trans B3_w6.out
    have SX_w7 : Hid (ZSRow w7 (w2.heap.size + 1) P) := SX_w6.out.kept hb7
    have HO_w7 : Hid (OwnT w7 w3.heap.size (.slice a2 A.length c2) (.slice b2 U.length d2) A U) := HO_w6.out.kept hb7
    have B6_w7 : Hid (w7.heap[w4.heap.size]? = some (.cells #[.slice a2 A.length c2, .slice b2 U.length d2] 33)) := (hb7.block w4.heap.size (by omega)).trans B6_w6.out
    clear OA_w6 B3_w6 SX_w6 HO_w6 B6_w6 hb7 hbw_w6 
    go_wp2_with fail
    refine (HMX.out _ _ SX_w7.out).mono ?_
    rintro e w8 ⟨rfl, _, hg8⟩
    have hk8 := grown_kpt hg8
    clear hg8
    have hbw_w8 : Below w0.heap.size w0 w8 := hbw_w7.trans (hk8.below hbw_w7.size (fun k hk0 h => by have q2 : w2.heap.size + 1 = _ := Option.some.inj h; omega))
    have hz_w8 : w7.heap.size ≤ w8.heap.size := hk8.size
    have OA_w8 : Hid (OwnT w8 w1.heap.size (.slice a1 A.length c1) (.slice b1 U.length d1) A U) := OA_w7.out.kpt hk8 (fun g hg h => by have q := HL1.out g hg; have q2 : w2.heap.size + 1 = _ := Option.some.inj h; omega)
    have B3_w8 : Hid (w8.heap[w2.heap.size]? = some (.cells #[.slice a1 A.length c1, .slice b1 U.length d1] 33)) := (hk8.block w2.heap.size (by omega) (fun h => by have q2 : w2.heap.size + 1 = _ := Option.some.inj h; omega)).trans B3_w7.out
    have HO_w8 : Hid (OwnT w8 w3.heap.size (.slice a2 A.length c2) (.slice b2 U.length d2) A U) := HO_w7.out.kpt hk8 (fun g hg h => by have q := HL2.out g hg; have q2 : w2.heap.size + 1 = _ := Option.some.inj h; omega)
    have B6_w8 : Hid (w8.heap[w4.heap.size]? = some (.cells #[.slice a2 A.length c2, .slice b2 U.length d2] 33)) := (hk8.block w4.heap.size (by omega) (fun h => by have q2 : w2.heap.size + 1 = _ := Option.some.inj h; omega)).trans B6_w7.out
    clear OA_w7 B3_w7 SX_w7 HO_w7 B6_w7 hk8 hbw_w7 
    obtain ⟨⟨d0, d1⟩, _⟩ := trn_cells B3_w8.out
    obtain ⟨⟨f0, f1⟩, _⟩ := trn_cells B6_w8.out
    go_wp2_with fail
    refine (HEQ.out _ _ _ _ _ _ _ HO_w8.out OA_w8.out).mono ?_
    rintro e w9 ⟨rfl, hb9⟩
    clear d0 d1 f0 f1
    have hbw_w9 : Below w0.heap.size w0 w9 := hbw_w8.trans (hb9.mono hbw_w8.size)
    have hz_w9 : w8.heap.size ≤ w9.heap.size := hb9.size
    have OA_w9 : Hid (OwnT w9 w1.heap.size (.slice a1 A.length c1) (.slice b1 U.length d1) A U) := OA_w8.out.kept hb9
    have B3_w9 : Hid (w9.heap[w2.heap.size]? = some (.cells #[.slice a1 A.length c1, .slice b1 U.length d1] 33)) := (hb9.block w2.heap.size (by omega)).trans B3_w8.out
    have HO_w9 : Hid (OwnT w9 w3.heap.size (.slice a2 A.length c2) (.slice b2 U.length d2) A U) := HO_w8.out.kept hb9
    have B6_w9 : Hid (w9.heap[w4.heap.size]? = some (.cells #[.slice a2 A.length c2, .slice b2 U.length d2] 33)) := (hb9.block w4.heap.size (by omega)).trans B6_w8.out
    clear OA_w8 B3_w8 HO_w8 B6_w8 hb9 hbw_w8 
    obtain ⟨⟨f0, f1⟩, _⟩ := trn_cells B6_w9.out
    go_wp2_with fail
    refine (HMK.out _ _ _ _ HO_w9.out).mono ?_
    rintro e w10 ⟨rfl, ho10, hk10⟩
    clear f0 f1
    have HM_w10 : Hid (OwnT w10 w3.heap.size (.slice a2 A.length c2) (.slice b2 U.length d2) (mksZ 1 A.length) (mksZ (1 + A.length) U.length)) := ho10
    clear ho10
    have hbw_w10 : Below w0.heap.size w0 w10 := hbw_w9.trans (hk10.below hbw_w9.size (fun k hk0 h => by have q2 := HL2.out _ h; omega))
    have hz_w10 : w9.heap.size ≤ w10.heap.size := hk10.size
    have OA_w10 : Hid (OwnT w10 w1.heap.size (.slice a1 A.length c1) (.slice b1 U.length d1) A U) := OA_w9.out.kpt hk10 (fun g hg h => by have q := HL1.out g hg; have q2 := HL2.out _ h; omega)
    have B3_w10 : Hid (w10.heap[w2.heap.size]? = some (.cells #[.slice a1 A.length c1, .slice b1 U.length d1] 33)) := (hk10.block w2.heap.size (by omega) (fun h => by have q2 := HL2.out _ h; omega)).trans B3_w9.out
    have B6_w10 : Hid (w10.heap[w4.heap.size]? = some (.cells #[.slice a2 A.length c2, .slice b2 U.length d2] 33)) := (hk10.block w4.heap.size (by omega) (fun h => by have q2 := HL2.out _ h; omega)).trans B6_w9.out
    clear OA_w9 B3_w9 HO_w9 B6_w9 hk10 hbw_w9 
    obtain ⟨⟨f0, f1⟩, _⟩ := trn_cells B6_w10.out
    go_wp2_with fail
    refine (HHD.out _ _ _ _ HM_w10.out).mono ?_
    rintro e w11 ⟨rfl, hb11⟩
    clear f0 f1
    have hbw_w11 : Below w0.heap.size w0 w11 := hbw_w10.trans (hb11.mono hbw_w10.size)
    have hz_w11 : w10.heap.size ≤ w11.heap.size := hb11.size
    have OA_w11 : Hid (OwnT w11 w1.heap.size (.slice a1 A.length c1) (.slice b1 U.length d1) A U) := OA_w10.out.kept hb11
    have B3_w11 : Hid (w11.heap[w2.heap.size]? = some (.cells #[.slice a1 A.length c1, .slice b1 U.length d1] 33)) := (hb11.block w2.heap.size (by omega)).trans B3_w10.out
    have B6_w11 : Hid (w11.heap[w4.heap.size]? = some (.cells #[.slice a2 A.length c2, .slice b2 U.length d2] 33)) := (hb11.block w4.heap.size (by omega)).trans B6_w10.out
    have HM_w11 : Hid (OwnT w11 w3.heap.size (.slice a2 A.length c2) (.slice b2 U.length d2) (mksZ 1 A.length) (mksZ (1 + A.length) U.length)) := HM_w10.out.kept hb11
    clear OA_w10 B3_w10 B6_w10 HM_w10 hb11 hbw_w10 
    go_wp2_with fail
    refine (HTO.out _ hbw_w11).mono ?_
    rintro e w12 ⟨rfl, hs12, hb12⟩
    have HT_w12 : Hid (ZSRow w12 w11.heap.size P) := hs12
    clear hs12
    have hbw_w12 : Below w0.heap.size w0 w12 := hbw_w11.trans (hb12.mono hbw_w11.size)
    have hz_w12 : w11.heap.size ≤ w12.heap.size := hb12.size
    have OA_w12 : Hid (OwnT w12 w1.heap.size (.slice a1 A.length c1) (.slice b1 U.length d1) A U) := OA_w11.out.kept hb12
    have B3_w12 : Hid (w12.heap[w2.heap.size]? = some (.cells #[.slice a1 A.length c1, .slice b1 U.length d1] 33)) := (hb12.block w2.heap.size (by omega)).trans B3_w11.out
    have B6_w12 : Hid (w12.heap[w4.heap.size]? = some (.cells #[.slice a2 A.length c2, .slice b2 U.length d2] 33)) := (hb12.block w4.heap.size (by omega)).trans B6_w11.out
    have HM_w12 : Hid (OwnT w12 w3.heap.size (.slice a2 A.length c2) (.slice b2 U.length d2) (mksZ 1 A.length) (mksZ (1 + A.length) U.length)) := HM_w11.out.kept hb12
    clear OA_w11 B3_w11 B6_w11 HM_w11 hb12 hbw_w11 
    go_wp2_with fail
    refine (HI.out _ _ HT_w12.out).mono ?_
    rintro e w13 ⟨⟨va3, vu3, rfl, ho3⟩, hb13⟩
    obtain ⟨a3, c3, b3, d3, rfl, rfl⟩ := ho3.shape
    have HR_w13 : Hid (OwnT w13 w12.heap.size (.slice a3 A.length c3) (.slice b3 U.length d3) A U) := ho3
    clear ho3 HT_w12
    have hbw_w13 : Below w0.heap.size w0 w13 := hbw_w12.trans (hb13.mono hbw_w12.size)
    have hz_w13 : w12.heap.size ≤ w13.heap.size := hb13.size
    have OA_w13 : Hid (OwnT w13 w1.heap.size (.slice a1 A.length c1) (.slice b1 U.length d1) A U) := OA_w12.out.kept hb13
    have B3_w13 : Hid (w13.heap[w2.heap.size]? = some (.cells #[.slice a1 A.length c1, .slice b1 U.length d1] 33)) := (hb13.block w2.heap.size (by omega)).trans B3_w12.out
    have B6_w13 : Hid (w13.heap[w4.heap.size]? = some (.cells #[.slice a2 A.length c2, .slice b2 U.length d2] 33)) := (hb13.block w4.heap.size (by omega)).trans B6_w12.out
    have HM_w13 : Hid (OwnT w13 w3.heap.size (.slice a2 A.length c2) (.slice b2 U.length d2) (mksZ 1 A.length) (mksZ (1 + A.length) U.length)) := HM_w12.out.kept hb13
    clear OA_w12 B3_w12 B6_w12 HM_w12 hb13 hbw_w12 
    have hbA : Below w13.heap.size w13 (w13.alloc (.cells #[.slice a3 A.length c3, .slice b3 U.length d3] 33)) := (Below.refl _ _).alloc (Nat.le_refl _) _
    have hlt13 : w2.heap.size < w13.heap.size := by omega
    obtain ⟨⟨d0, d1⟩, _⟩ := trn_cells B3_w13.out
    go_wp2_with fail
    refine (HEQ.out _ _ _ _ _ _ _ (HR_w13.out.kept hbA) (OA_w13.out.kept hbA)).mono ?_
    rintro e w14 ⟨rfl, hb14⟩
    clear d0 d1
    have hbB : Below w13.heap.size w13 w14 := hbA.trans (hb14.mono (by simp))
    clear hb14 hbA HR_w13
    have hbw_w14 : Below w0.heap.size w0 w14 := hbw_w13.trans (hbB.mono hbw_w13.size)
    have hz_w14 : w13.heap.size ≤ w14.heap.size := hbB.size
    have OA_w14 : Hid (OwnT w14 w1.heap.size (.slice a1 A.length c1) (.slice b1 U.length d1) A U) := OA_w13.out.kept hbB
    have B3_w14 : Hid (w14.heap[w2.heap.size]? = some (.cells #[.slice a1 A.length c1, .slice b1 U.length d1] 33)) := (hbB.block w2.heap.size (by omega)).trans B3_w13.out
    have B6_w14 : Hid (w14.heap[w4.heap.size]? = some (.cells #[.slice a2 A.length c2, .slice b2 U.length d2] 33)) := (hbB.block w4.heap.size (by omega)).trans B6_w13.out
    have HM_w14 : Hid (OwnT w14 w3.heap.size (.slice a2 A.length c2) (.slice b2 U.length d2) (mksZ 1 A.length) (mksZ (1 + A.length) U.length)) := HM_w13.out.kept hbB
    clear OA_w13 B3_w13 B6_w13 HM_w13 hbB hbw_w13 
    obtain ⟨⟨f0, f1⟩, _⟩ := trn_cells B6_w14.out
    go_wp2_with fail
    refine (HHD.out _ _ _ _ HM_w14.out).mono ?_
    rintro e w15 ⟨rfl, hb15⟩
    clear f0 f1
    have hbw_w15 : Below w0.heap.size w0 w15 := hbw_w14.trans (hb15.mono hbw_w14.size)
    have hz_w15 : w14.heap.size ≤ w15.heap.size := hb15.size
    have OA_w15 : Hid (OwnT w15 w1.heap.size (.slice a1 A.length c1) (.slice b1 U.length d1) A U) := OA_w14.out.kept hb15
    have B3_w15 : Hid (w15.heap[w2.heap.size]? = some (.cells #[.slice a1 A.length c1, .slice b1 U.length d1] 33)) := (hb15.block w2.heap.size (by omega)).trans B3_w14.out
    have B6_w15 : Hid (w15.heap[w4.heap.size]? = some (.cells #[.slice a2 A.length c2, .slice b2 U.length d2] 33)) := (hb15.block w4.heap.size (by omega)).trans B6_w14.out
    have HM_w15 : Hid (OwnT w15 w3.heap.size (.slice a2 A.length c2) (.slice b2 U.length d2) (mksZ 1 A.length) (mksZ (1 + A.length) U.length)) := HM_w14.out.kept hb15
    clear OA_w14 B3_w14 B6_w14 HM_w14 hb15 hbw_w14 
    go_wp2_with fail
    go_ret
    exact ⟨rfl, hbw_w15⟩
  · go_enter Try.func4, Try.ntmps4
    go_wp2_with fail
    go_ret
    exact ⟨rfl, Below.refl _ _⟩
theorem walk (v : Value) (P : List Int) (w : World) (hr : ZRow .i64 w v P) (_ : ∀ x ∈ P, -9223372036854775808 ≤ x ∧ x ≤ 9223372036854775807) :
    Calls Try.prog 4 #[v] w fun e w' => e = .returned (.bool true) ∧ Below w.heap.size w w' :=
  core v P _ _ _ w hr (fun h => by constructor <;> (split <;> first | (simp [zrs]; done) | (simp [zrs]; omega) | exact h)) (fun hl _ W hs => (sNewTurn_any _ P W (hs.row hl) hl).mono fun _ _ h => ⟨ntans_own h.1, h.2⟩) (fun hl _ W hs => (iNewTurn_any _ P W (hs.row hl) hl).mono fun _ _ h => ⟨ntans_own h.1, h.2⟩)
end Go.Proofs.Ytafbnhelcoofmaa.newTurn
