import Derived.Test.YtafbnhelcoofmaaAlH
import Derived.Test.YtafbnhelcoofmaaAlK
import Derived.Test.YtafbnhelcoofmaaTuI
namespace Go.Proofs.Ytafbnhelcoofmaa
open Go.RowKit
theorem ZSRow.kpt {w w' : World} {g : Nat} {S : Nat → Prop} {L : List Int} (h : ZSRow w g L) (hk : Kpt w w' S) (hn : ¬ S g) : ZSRow w' g L := h.apart hk hn
end Go.Proofs.Ytafbnhelcoofmaa
namespace Go.Proofs.Ytafbnhelcoofmaa.aliasOf
open Go.RowKit

set_option maxRecDepth 20000 in
set_option maxHeartbeats 8000000 in
theorem core (v : Value) (P : List Int) (O : List ColT) (ok : Bool) (w0 : World) (hr : ZRow .i64 w0 v P) (hol : O.length ≤ 1048576)
    (HS0 : Hid (P.length ≤ 1048576 → ∀ g W, ZSRow W g P → Calls Try.prog 7 #[.slice (some ⟨g, 0, none⟩) P.length P.length] W fun e w' => (∃ u, e = .returned (.tuple #[u, .bool ok]) ∧ OwnC w' W.heap.size u O) ∧ Below W.heap.size W w'))
    (HI0 : Hid (P.length ≤ 1048576 → ∀ g W, ZSRow W g P → Calls Try.prog 9 #[.slice (some ⟨g, 0, none⟩) P.length P.length] W fun e w' => (∃ u, e = .returned (.tuple #[u, .bool ok]) ∧ OwnC w' W.heap.size u O) ∧ Below W.heap.size W w')) :
    Calls Try.prog 3 #[v] w0 fun e w' => e = .returned (.bool true) ∧ Below w0.heap.size w0 w' := by
  obtain ⟨pa, pc, hpv, hpc, hpm, _⟩ := zrow_value hr
  subst hpv
  by_cases hl : P.length ≤ 1048576
  · have HTO : Hid (∀ W, Below w0.heap.size w0 W → Calls Try.prog 8 #[.slice pa P.length pc] W fun e w' => e = .returned (.slice (some ⟨W.heap.size, 0, none⟩) P.length P.length) ∧ ZSRow w' W.heap.size P ∧ Below W.heap.size W w') := fun W hW => toIntS_any _ P W (hr.kept hW) hl
    have HSP := HS0.out hl
    have HS : Hid (∀ g W, ZSRow W g P → Calls Try.prog 7 #[.slice (some ⟨g, 0, none⟩) P.length P.length] W fun e w' => (∃ u, e = .returned (.tuple #[u, .bool ok]) ∧ OwnC w' W.heap.size u O) ∧ Below W.heap.size W w') := HSP
    have HIP := HI0.out hl
    have HI : Hid (∀ g W, ZSRow W g P → Calls Try.prog 9 #[.slice (some ⟨g, 0, none⟩) P.length P.length] W fun e w' => (∃ u, e = .returned (.tuple #[u, .bool ok]) ∧ OwnC w' W.heap.size u O) ∧ Below W.heap.size W w') := HIP
    have HEQ : Hid (∀ v1 v2 b1 b2 W, OwnC W b1 v1 O → OwnC W b2 v2 O → Calls Try.prog 10 #[v1, v2] W fun e w' => e = .returned (.bool true) ∧ Below W.heap.size W w') := fun v1 v2 b1 b2 W h1 h2 => eqColumnS_same v1 v2 O W h1.row h2.row
    have HMK : Hid (∀ u base W, OwnC W base u O → Calls Try.prog 13 #[u, .int .i64 1] W fun e w' => e = .returned (.int .i64 (1 + 2 * (O.length : Int))) ∧ OwnC w' base u (mksC O.length) ∧ Kpt W w' (fun k => u.ownBlock = some k)) := fun u base W h => markOwnC_any u O base W h (by omega)
    have HHD : Hid (∀ u base W, OwnC W base u (mksC O.length) → Calls Try.prog 14 #[u, .int .i64 1] W fun e w' => e = .returned (.int .i64 (1 + 2 * (O.length : Int))) ∧ Below W.heap.size W w') := fun u base W h => (heldOwnC_any u O.length base W h (by omega)).mono fun e w' h => ⟨h.1, by rw [h.2]; exact Below.refl _ _⟩
    have HMX : Hid (∀ g W, ZSRow W g P → Calls Try.prog 12 #[.slice (some ⟨g, 0, none⟩) P.length P.length, .int .i64 1] W fun e w' => e = .returned (.int .i64 (((1 : Nat) : Int) + (P.length : Int))) ∧ ZSRow w' g (mksZ 1 P.length) ∧ W.grownBy w' (some g)) := fun g W h => markIntZ_any g P.length 1 P W h hl (Nat.le_refl _) (by omega) (by omega)
    have HEX : Hid (∀ v1 v2 W, ZRow .i64 W v1 P → ZRow .i64 W v2 P → Calls Try.prog 11 #[v1, v2] W fun e w' => e = .returned (.bool true) ∧ Below W.heap.size W w') := fun v1 v2 W h1 h2 => by
      have h := eqIntS_any v1 v2 P P W h1 h2
      rw [show (P == P) = true by simp] at h
      exact h
    obtain ⟨m, hm⟩ : ∃ m : Int, m = 1 + 2 * (O.length : Int) := ⟨_, rfl⟩
    rw [← hm] at HMK HHD
    obtain ⟨x, hx⟩ : ∃ x : Int, x = ((1 : Nat) : Int) + (P.length : Int) := ⟨_, rfl⟩
    rw [← hx] at HMX
    have hm0 : ¬ m < 0 := by omega
    have em : (m != m) = false := by simp
    have hx0 : ¬ x < 0 := by omega
    have e2 : (ok != ok) = false := by simp
    have hbw_w0 : Below w0.heap.size w0 w0 := Below.refl _ _
    have hlp : P.length ≤ 1048576 := hl
    clear hm hx HS0 HI0 HSP HIP hr
    go_enter Try.func3, Try.ntmps3
    go_wp2_with fail
    refine (HTO.out _ hbw_w0).mono ?_
    rintro e w1 ⟨rfl, hs1, hb1⟩
    have HX_w1 : Hid (ZSRow w1 w0.heap.size P) := hs1
    clear hs1
    have hbw_w1 : Below w0.heap.size w0 w1 := hbw_w0.trans (hb1.mono hbw_w0.size)
    have hz_w1 : w0.heap.size ≤ w1.heap.size := hb1.size
    clear hb1 hbw_w0 
    go_wp2_with fail
    refine (HS.out _ _ HX_w1.out).mono ?_
    rintro e w2 ⟨⟨u1, rfl, ho1⟩, hb2⟩
    have HL1 : Hid (∀ k, u1.ownBlock = some k → w1.heap.size ≤ k ∧ k < w2.heap.size) := fun k h => ho1.lt2 k h
    have OA_w2 : Hid (OwnC w2 w1.heap.size u1 O) := ho1
    clear ho1 HX_w1
    have hbw_w2 : Below w0.heap.size w0 w2 := hbw_w1.trans (hb2.mono hbw_w1.size)
    have hz_w2 : w1.heap.size ≤ w2.heap.size := hb2.size
    clear hb2 hbw_w1 
    go_wp2_with fail
    refine (HTO.out _ hbw_w2).mono ?_
    rintro e w3 ⟨rfl, hs3, hb3⟩
    have hbw_w3 : Below w0.heap.size w0 w3 := hbw_w2.trans (hb3.mono hbw_w2.size)
    have hz_w3 : w2.heap.size ≤ w3.heap.size := hb3.size
    have OA_w3 : Hid (OwnC w3 w1.heap.size u1 O) := OA_w2.out.kept hb3
    clear OA_w2 hb3 hbw_w2 
    have SX_w3 : Hid (ZSRow w3 w2.heap.size P) := hs3
    have hg3 : w2.heap.size < w3.heap.size := hs3.1
    clear hs3
    go_wp2_with fail
    refine (HI.out _ _ SX_w3.out).mono ?_
    rintro e w4 ⟨⟨u2, rfl, ho2⟩, hb4⟩
    have HL2 : Hid (∀ k, u2.ownBlock = some k → w3.heap.size ≤ k ∧ k < w4.heap.size) := fun k h => ho2.lt2 k h
    have HO_w4 : Hid (OwnC w4 w3.heap.size u2 O) := ho2
    clear ho2
    have hbw_w4 : Below w0.heap.size w0 w4 := hbw_w3.trans (hb4.mono hbw_w3.size)
    have hz_w4 : w3.heap.size ≤ w4.heap.size := hb4.size
    have OA_w4 : Hid (OwnC w4 w1.heap.size u1 O) := OA_w3.out.kept hb4
    have SX_w4 : Hid (ZSRow w4 w2.heap.size P) := SX_w3.out.kept hb4
    clear OA_w3 SX_w3 hb4 hbw_w3 
    go_wp2_with fail
    refine (HEQ.out _ _ _ _ _ HO_w4.out OA_w4.out).mono ?_
    rintro e w5 ⟨rfl, hb5⟩
    have hbw_w5 : Below w0.heap.size w0 w5 := hbw_w4.trans (hb5.mono hbw_w4.size)
    have hz_w5 : w4.heap.size ≤ w5.heap.size := hb5.size
    have OA_w5 : Hid (OwnC w5 w1.heap.size u1 O) := OA_w4.out.kept hb5
    have SX_w5 : Hid (ZSRow w5 w2.heap.size P) := SX_w4.out.kept hb5
    have HO_w5 : Hid (OwnC w5 w3.heap.size u2 O) := HO_w4.out.kept hb5
    clear OA_w4 SX_w4 HO_w4 hb5 hbw_w4 
    go_wp2_with fail
    refine (HTO.out _ hbw_w5).mono ?_
    rintro e w6 ⟨rfl, hs6, hb6⟩
    have HT_w6 : Hid (ZSRow w6 w5.heap.size P) := hs6
    clear hs6
    have hbw_w6 : Below w0.heap.size w0 w6 := hbw_w5.trans (hb6.mono hbw_w5.size)
    have hz_w6 : w5.heap.size ≤ w6.heap.size := hb6.size
    have OA_w6 : Hid (OwnC w6 w1.heap.size u1 O) := OA_w5.out.kept hb6
    have SX_w6 : Hid (ZSRow w6 w2.heap.size P) := SX_w5.out.kept hb6
    have HO_w6 : Hid (OwnC w6 w3.heap.size u2 O) := HO_w5.out.kept hb6
    clear OA_w5 SX_w5 HO_w5 hb6 hbw_w5 
    go_wp2_with fail
    refine (HEX.out _ _ _ (SX_w6.out.row hlp) (HT_w6.out.row hlp)).mono ?_
    rintro e w7 ⟨rfl, hb7⟩
    clear HT_w6
    have hbw_w7 : Below w0.heap.size w0 w7 := hbw_w6.trans (hb7.mono hbw_w6.size)
    have hz_w7 : w6.heap.size ≤ w7.heap.size := hb7.size
    have OA_w7 : Hid (OwnC w7 w1.heap.size u1 O) := OA_w6.out.kept hb7
    have SX_w7 : Hid (ZSRow w7 w2.heap.size P) := SX_w6.out.kept hb7
    have HO_w7 : Hid (OwnC w7 w3.heap.size u2 O) := HO_w6.out.kept hb7
    clear OA_w6 SX_w6 HO_w6 hb7 hbw_w6 
    go_wp2_with fail
    refine (HMX.out _ _ SX_w7.out).mono ?_
    rintro e w8 ⟨rfl, _, hg8⟩
    have hk8 := grown_kpt hg8
    clear hg8
    have hbw_w8 : Below w0.heap.size w0 w8 := hbw_w7.trans (hk8.below hbw_w7.size (fun k hk0 h => by have q2 : w2.heap.size = _ := Option.some.inj h; omega))
    have hz_w8 : w7.heap.size ≤ w8.heap.size := hk8.size
    have OA_w8 : Hid (OwnC w8 w1.heap.size u1 O) := OA_w7.out.kpt hk8 (fun g hg h => by have q := HL1.out g hg; have q2 : w2.heap.size = _ := Option.some.inj h; omega)
    have HO_w8 : Hid (OwnC w8 w3.heap.size u2 O) := HO_w7.out.kpt hk8 (fun g hg h => by have q := HL2.out g hg; have q2 : w2.heap.size = _ := Option.some.inj h; omega)
    clear OA_w7 SX_w7 HO_w7 hk8 hbw_w7 
    go_wp2_with fail
    refine (HEQ.out _ _ _ _ _ HO_w8.out OA_w8.out).mono ?_
    rintro e w9 ⟨rfl, hb9⟩
    have hbw_w9 : Below w0.heap.size w0 w9 := hbw_w8.trans (hb9.mono hbw_w8.size)
    have hz_w9 : w8.heap.size ≤ w9.heap.size := hb9.size
    have OA_w9 : Hid (OwnC w9 w1.heap.size u1 O) := OA_w8.out.kept hb9
    have HO_w9 : Hid (OwnC w9 w3.heap.size u2 O) := HO_w8.out.kept hb9
    clear OA_w8 HO_w8 hb9 hbw_w8 
    go_wp2_with fail
    refine (HMK.out _ _ _ HO_w9.out).mono ?_
    rintro e w10 ⟨rfl, ho10, hk10⟩
    have HM_w10 : Hid (OwnC w10 w3.heap.size u2 (mksC O.length)) := ho10
    clear ho10
    have hbw_w10 : Below w0.heap.size w0 w10 := hbw_w9.trans (hk10.below hbw_w9.size (fun k hk0 h => by have q2 := HL2.out _ h; omega))
    have hz_w10 : w9.heap.size ≤ w10.heap.size := hk10.size
    have OA_w10 : Hid (OwnC w10 w1.heap.size u1 O) := OA_w9.out.kpt hk10 (fun g hg h => by have q := HL1.out g hg; have q2 := HL2.out _ h; omega)
    clear OA_w9 HO_w9 hk10 hbw_w9 
    go_wp2_with fail
    refine (HHD.out _ _ _ HM_w10.out).mono ?_
    rintro e w11 ⟨rfl, hb11⟩
    have hbw_w11 : Below w0.heap.size w0 w11 := hbw_w10.trans (hb11.mono hbw_w10.size)
    have hz_w11 : w10.heap.size ≤ w11.heap.size := hb11.size
    have OA_w11 : Hid (OwnC w11 w1.heap.size u1 O) := OA_w10.out.kept hb11
    have HM_w11 : Hid (OwnC w11 w3.heap.size u2 (mksC O.length)) := HM_w10.out.kept hb11
    clear OA_w10 HM_w10 hb11 hbw_w10 
    go_wp2_with fail
    refine (HTO.out _ hbw_w11).mono ?_
    rintro e w12 ⟨rfl, hs12, hb12⟩
    have HT_w12 : Hid (ZSRow w12 w11.heap.size P) := hs12
    clear hs12
    have hbw_w12 : Below w0.heap.size w0 w12 := hbw_w11.trans (hb12.mono hbw_w11.size)
    have hz_w12 : w11.heap.size ≤ w12.heap.size := hb12.size
    have OA_w12 : Hid (OwnC w12 w1.heap.size u1 O) := OA_w11.out.kept hb12
    have HM_w12 : Hid (OwnC w12 w3.heap.size u2 (mksC O.length)) := HM_w11.out.kept hb12
    clear OA_w11 HM_w11 hb12 hbw_w11 
    go_wp2_with fail
    refine (HI.out _ _ HT_w12.out).mono ?_
    rintro e w13 ⟨⟨u3, rfl, ho3⟩, hb13⟩
    have HR_w13 : Hid (OwnC w13 w12.heap.size u3 O) := ho3
    clear ho3 HT_w12
    have hbw_w13 : Below w0.heap.size w0 w13 := hbw_w12.trans (hb13.mono hbw_w12.size)
    have hz_w13 : w12.heap.size ≤ w13.heap.size := hb13.size
    have OA_w13 : Hid (OwnC w13 w1.heap.size u1 O) := OA_w12.out.kept hb13
    have HM_w13 : Hid (OwnC w13 w3.heap.size u2 (mksC O.length)) := HM_w12.out.kept hb13
    clear OA_w12 HM_w12 hb13 hbw_w12 
    go_wp2_with fail
    refine (HEQ.out _ _ _ _ _ HR_w13.out OA_w13.out).mono ?_
    rintro e w14 ⟨rfl, hb14⟩
    clear HR_w13
    have hbw_w14 : Below w0.heap.size w0 w14 := hbw_w13.trans (hb14.mono hbw_w13.size)
    have hz_w14 : w13.heap.size ≤ w14.heap.size := hb14.size
    have OA_w14 : Hid (OwnC w14 w1.heap.size u1 O) := OA_w13.out.kept hb14
    have HM_w14 : Hid (OwnC w14 w3.heap.size u2 (mksC O.length)) := HM_w13.out.kept hb14
    clear OA_w13 HM_w13 hb14 hbw_w13 
    go_wp2_with fail
    refine (HHD.out _ _ _ HM_w14.out).mono ?_
    rintro e w15 ⟨rfl, hb15⟩
    have hbw_w15 : Below w0.heap.size w0 w15 := hbw_w14.trans (hb15.mono hbw_w14.size)
    have hz_w15 : w14.heap.size ≤ w15.heap.size := hb15.size
    have OA_w15 : Hid (OwnC w15 w1.heap.size u1 O) := OA_w14.out.kept hb15
    have HM_w15 : Hid (OwnC w15 w3.heap.size u2 (mksC O.length)) := HM_w14.out.kept hb15
    clear OA_w14 HM_w14 hb15 hbw_w14 
    go_wp2_with fail
    go_ret
    exact ⟨rfl, hbw_w15⟩
  · go_enter Try.func3, Try.ntmps3
    go_wp2_with fail
    go_ret
    exact ⟨rfl, Below.refl _ _⟩
theorem aliL_len {A : List Int} (h : goodW A = true) : (if goodW A then aliL A else []).length ≤ 1048576 := by
  rw [if_pos h]
  obtain ⟨⟨_, h12⟩, _, _⟩ := goodW_parts h
  have e : (aliL A).length = A.length := by show (itR A.sum (begR A) A.length).length = _; rw [itR_length, begR_length]
  omega
theorem aliL_len2 (A : List Int) : (if goodW A then aliL A else []).length ≤ 1048576 := by
  cases h : goodW A with
  | true => have := aliL_len h; rw [h] at this; exact this
  | false => simp
theorem walk (v : Value) (P : List Int) (w : World) (hr : ZRow .i64 w v P) (_ : ∀ x ∈ P, -9223372036854775808 ≤ x ∧ x ≤ 9223372036854775807) :
    Calls Try.prog 3 #[v] w fun e w' => e = .returned (.bool true) ∧ Below w.heap.size w w' :=
  core v P (if goodW P then aliL P else []) (goodW P) w hr (aliL_len2 P)
    (fun hl _ W hs => (sAliasOf_any _ P W (hs.row hl) hl).mono fun e w' h => ⟨by obtain ⟨u, h1, h2⟩ := h.1; exact ⟨u, h1, h2⟩, h.2⟩)
    (fun hl _ W hs => (iAliasOf_any _ P W (hs.row hl) hl).mono fun e w' h => ⟨by obtain ⟨u, h1, h2⟩ := h.1; exact ⟨u, h1, h2⟩, h.2⟩)
end Go.Proofs.Ytafbnhelcoofmaa.aliasOf
