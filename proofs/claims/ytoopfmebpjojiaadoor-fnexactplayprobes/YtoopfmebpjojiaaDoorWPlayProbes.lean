import Derived.Test.YtoopfmebpjojiaaDoorPlI
import Derived.Test.YtoopfmebpjojiaaDoorWNewHealth
namespace Go.Proofs.YtoopfmebpjojiaaDoor.playProbes
open Go.RowKit

theorem _root_.Go.Proofs.YtoopfmebpjojiaaDoor.PoRow.kpt {a b : World} {T : Nat → Prop} {g : Nat} {L : List PrbT} (hs : PoRow a g L) (h : Kpt a b T) (hne : ¬ T g) : PoRow b g L := by
  have hb : b.heap[g]? = a.heap[g]? := h.block g hs.1 hne
  refine ⟨Nat.lt_of_lt_of_le hs.1 h.size, fun j hj => ?_⟩
  have h0 := hs.2 j hj
  unfold PrbAt FzP at h0 ⊢
  rw [World.cell?_of_block (a := ⟨g, j * 2, none⟩) hb, World.cell?_of_block (a := ⟨g, j * 2 + 1, none⟩) hb, World.frozen?_of_block (a := ⟨g, j * 2, none⟩) hb, World.frozen?_of_block (a := ⟨g, j * 2 + 1, none⟩) hb]
  exact h0
theorem pl_length (ri fa : Int) (P : List (List UInt8)) (Q : List PrbT) : (plV ri fa P Q).1.length ≤ P.length := by
  unfold plV
  cases h : plF ri fa (newL P) 0 Q with
  | none => simp
  | some x =>
    obtain ⟨M, c⟩ := x
    have := (plF_length Q _ _ M c h).1
    rw [newL_length] at this
    simp only [Option.getD_some]; omega

set_option maxRecDepth 20000 in
set_option maxHeartbeats 1000000 in
theorem szStringS_le (v : Value) (P : List (List UInt8)) (w : World) (hr : Row w v P) (hl : Hid (∀ p ∈ P, p.length ≤ maxLen)) :
    Calls Tryd.prog 10 #[v, .int .i64 1048576] w fun e w' => ∃ r : Int, e = .returned (.int .i64 r) ∧ (0 ≤ r → P.length + tot P ≤ 1048576) ∧ r ≤ 1048576 ∧ w' = w := by
  obtain ⟨a, cap, rfl, hcap, hmax, HROW⟩ := row_value hr
  clear hr
  by_cases h0 : (1048576 : Int) - (P.length : Int) < 0
  · go_enter Tryd.func10, Tryd.ntmps10
    go_wp2_with fail
    go_ret
    refine ⟨_, rfl, ?_, by first | decide | omega, rfl⟩
    intro h; exact absurd h (by decide)
  · go_enter Tryd.func10, Tryd.ntmps10
    go_wp2_with fail
    go_loop [1, 5] (fun l i => ∃ (k : Nat) (x : Int), k ≤ P.length ∧ i = .int .i64 k ∧ l = .int .i64 x ∧ 0 ≤ x ∧ x ≤ 1048576 ∧ Hid (x = 1048576 - P.length - tot (P.take k))) (fun _ i => P.length - (intOf i).toNat)
    case atStart => exact ⟨0, _, Nat.zero_le _, rfl, rfl, by omega, by omega, by show _ = _; simp [tot]⟩
    case round =>
      obtain ⟨k, x, hk, rfl, rfl, hx0, hx1, HX⟩ := hrel
      by_cases hlt : k < P.length
      · obtain ⟨b, o, ha, hbl, hc⟩ := HROW.out (by omega)
        rw [ha]
        have hcx := hc k hlt
        have hpl := hl.out (P[k]'hlt) (List.getElem_mem _)
        have HT := tot_snoc P k hlt
        obtain ⟨y, hy⟩ : ∃ y, y = P[k]'hlt := ⟨_, rfl⟩
        rw [← hy] at hcx hpl HT
        have HTT : Hid (tot (P.take (k + 1)) = tot (P.take k) + y.length) := HT
        unfold S at hcx
        unfold maxLen at hpl
        clear hc hy HT
        by_cases hneg : x - (y.length : Int) < 0
        · go_wp2_with fail
          go_ret
          refine ⟨_, rfl, ?_, by first | decide | omega, rfl⟩
          intro h; exact absurd h (by decide)
        · go_wp2_with fail
          go_round
          case rel => exact ⟨k + 1, x - y.length, by omega, by go_num, by go_num, by omega, by omega, by show _ = _; rw [HTT.out, HX.out]; omega⟩
          case measure => simp [intOf]; omega
      · have HF := tot_full P k hlt
        have HFF : Hid (tot (P.take k) = tot P) := HF
        clear HF
        go_wp2_with fail
        go_ret
        refine ⟨_, rfl, ?_, by first | decide | omega, rfl⟩
        intro h
        have h1 := HX.out
        have h2 := HFF.out
        omega

set_option maxRecDepth 20000 in
set_option maxHeartbeats 16000000 in
theorem core (ri fa : Int) (v vq : Value) (P : List (List UInt8)) (Q : List PrbT) (ok : Bool) (R F C : Int) (L : List HosT) (w : World) (hr : Row w v P) (hp : Hid (∀ x ∈ P, x.length ≤ maxLen)) (hq : PrbRow w vq Q) (hE : Env w) (hL : P.length ≤ 1048576 → L.length ≤ 1048576)
    (HS0 : Hid (P.length ≤ 1048576 → Q.length ≤ 1048576 → Hid (∀ x ∈ P, x.length ≤ 1048576) → ∀ g g2 W, SRow W g P → PoRow W g2 Q → Calls Tryd.prog 27 #[.int .i64 ri, .int .i64 fa, .slice (some ⟨g, 0, none⟩) P.length P.length, .slice (some ⟨g2, 0, none⟩) Q.length Q.length] W fun e w' => (∃ u, e = .returned (.tuple #[HeaV R F u, .int .i64 C, .bool ok]) ∧ OwnH w' W.heap.size u L) ∧ Below W.heap.size W w'))
    (HI0 : Hid (P.length ≤ 1048576 → Q.length ≤ 1048576 → Hid (∀ x ∈ P, x.length ≤ 1048576) → ∀ g g2 W, Env W → SRow W g P → PoRow W g2 Q → Calls Tryd.prog 29 #[.int .i64 ri, .int .i64 fa, .slice (some ⟨g, 0, none⟩) P.length P.length, .slice (some ⟨g2, 0, none⟩) Q.length Q.length] W fun e w' => (∃ u, e = .returned (.tuple #[HeaV R F u, .int .i64 C, .bool ok]) ∧ OwnH w' W.heap.size u L) ∧ Below W.heap.size W w')) :
    Calls Tryd.prog 6 #[.int .i64 ri, .int .i64 fa, v, vq] w fun e w' => e = .returned (.bool true) ∧ Below w.heap.size w w' := by
  obtain ⟨pa, pc, hpv, hpc, hpm, _⟩ := row_value hr
  subst hpv
  obtain ⟨qa, qc, hqv, hqc, hqm, _⟩ := prb_value hq
  subst hqv
  go_enter Tryd.func6, Tryd.ntmps6
  go_wp2_with fail
  refine (szStringS_le _ P w hr hp).mono ?_
  rintro e w0 ⟨r, rfl, hsz, hrl, rfl⟩
  by_cases hneg : r < 0
  · clear hsz
    go_wp2_with fail
    go_ret
    exact ⟨rfl, Below.refl _ _⟩
  · have htot : P.length + tot P ≤ 1048576 := hsz (by omega)
    have hl : P.length ≤ 1048576 := by omega
    clear hsz
    go_wp2_with fail
    refine (szProbeS_any _ Q r w0 hq (by omega) hrl).mono ?_
    rintro e w00 ⟨⟨r2, rfl, hsz2⟩, rfl⟩
    by_cases hneg2 : r2 < 0
    · clear hsz2
      go_wp2_with fail
      go_ret
      exact ⟨rfl, Below.refl _ _⟩
    have hql : Q.length ≤ 1048576 := hsz2 (by omega)
    clear hsz2
    have HPX : Hid (∀ x ∈ P, x.length ≤ 1048576) := fun x hxm => by have := newHealth.tot_mem hxm; omega
    have hLl := hL hl
    have HTO : Hid (∀ W, Below w00.heap.size w00 W → Calls Tryd.prog 12 #[.slice pa P.length pc] W fun e w' => e = .returned (.slice (some ⟨W.heap.size, 0, none⟩) P.length P.length) ∧ SRow w' W.heap.size P ∧ Below W.heap.size W w') := fun W hW => toStringS_any _ P W (hr.kept hW) hl
    have HTP : Hid (∀ W, Below w00.heap.size w00 W → Calls Tryd.prog 28 #[.slice qa Q.length qc] W fun e w' => e = .returned (.slice (some ⟨W.heap.size, 0, none⟩) Q.length Q.length) ∧ PoRow w' W.heap.size Q ∧ Below W.heap.size W w') := fun W hW => toProbeS_any _ Q W (hq.kept hW) hql
    have HSP := HS0.out hl hql HPX
    have HS : Hid (∀ g g2 W, SRow W g P → PoRow W g2 Q → Calls Tryd.prog 27 #[.int .i64 ri, .int .i64 fa, .slice (some ⟨g, 0, none⟩) P.length P.length, .slice (some ⟨g2, 0, none⟩) Q.length Q.length] W fun e w' => (∃ u, e = .returned (.tuple #[HeaV R F u, .int .i64 C, .bool ok]) ∧ OwnH w' W.heap.size u L) ∧ Below W.heap.size W w') := HSP
    have HIP := HI0.out hl hql HPX
    have HI : Hid (∀ g g2 W, Env W → SRow W g P → PoRow W g2 Q → Calls Tryd.prog 29 #[.int .i64 ri, .int .i64 fa, .slice (some ⟨g, 0, none⟩) P.length P.length, .slice (some ⟨g2, 0, none⟩) Q.length Q.length] W fun e w' => (∃ u, e = .returned (.tuple #[HeaV R F u, .int .i64 C, .bool ok]) ∧ OwnH w' W.heap.size u L) ∧ Below W.heap.size W w') := HIP
    have HEQ : Hid (∀ u1 u2 W, HstRow W u1 L → HstRow W u2 L → Calls Tryd.prog 14 #[HeaV R F u1, HeaV R F u2] W fun e w' => e = .returned (.bool true) ∧ Below W.heap.size W w') := fun u1 u2 W h1 h2 => eqHealth_same R F u1 u2 L W h1 h2
    have HMK : Hid (∀ u base W, OwnH W base u L → Calls Tryd.prog 17 #[HeaV R F u, .int .i64 1] W fun e w' => e = .returned (.int .i64 (1 + 3 * (L.length : Int))) ∧ OwnH w' base u (mrksH 1 L.length) ∧ Kpt W w' (fun k => u.ownBlock = some k)) := fun u base W h1 => markHealth_any R F u L base 1 W h1 hLl (by omega) (by omega)
    have HHD : Hid (∀ u base W, OwnH W base u (mrksH 1 L.length) → Calls Tryd.prog 18 #[HeaV R F u, .int .i64 1] W fun e w' => e = .returned (.int .i64 (1 + 3 * (L.length : Int))) ∧ Below W.heap.size W w') := fun u base W h1 => heldHealth_any R F u L.length 1 W h1.row hLl (by omega) (by omega)
    have HMS : Hid (∀ u base W, OwnS W base u P → Calls Tryd.prog 16 #[u, .int .i64 1] W fun e w' => e = .returned (.int .i64 ((P.length : Int) + 1)) ∧ OwnS w' base u (marks P.length) ∧ W.grownBy w' u.ownBlock) := fun u base W h1 => markStringS_any u P base W h1 hl
    have HMP : Hid (∀ g W, PoRow W g Q → Calls Tryd.prog 31 #[.slice (some ⟨g, 0, none⟩) Q.length Q.length, .int .i64 ((P.length : Int) + 1)] W fun e w' => e = .returned (.int .i64 ((P.length : Int) + 1 + 2 * (Q.length : Int))) ∧ Kpt W w' (fun b => b = g)) := fun g W h1 => markProbeS_any Q g ((P.length : Int) + 1) W h1 hql (by omega) (by omega)
    have HES : Hid (∀ v1 v2 W, Row W v1 P → Row W v2 P → Calls Tryd.prog 15 #[v1, v2] W fun e w' => e = .returned (.bool true) ∧ Below W.heap.size W w') := fun v1 v2 W h1 h2 => by
      have h := eqStringS_any v1 v2 P P W h1 h2
      rw [show (P == P) = true by simp] at h
      exact h
    have HEP : Hid (∀ v1 v2 W, PrbRow W v1 Q → PrbRow W v2 Q → Calls Tryd.prog 30 #[v1, v2] W fun e w' => e = .returned (.bool true) ∧ Below W.heap.size W w') := fun v1 v2 W h1 h2 => eqProbeS_same v1 v2 Q W h1 h2
    obtain ⟨q, hq1⟩ : ∃ q : Int, q = 1 + 3 * (L.length : Int) := ⟨_, rfl⟩
    rw [← hq1] at HMK HHD
    obtain ⟨qs, hqs⟩ : ∃ qs : Int, qs = (P.length : Int) + 1 := ⟨_, rfl⟩
    rw [← hqs] at HMS HMP
    obtain ⟨qp, hqp⟩ : ∃ qp : Int, qp = qs + 2 * (Q.length : Int) := ⟨_, rfl⟩
    rw [← hqp] at HMP
    have hq0 : decide (q < 0) = false := by simp; omega
    have hqq : (q != q) = false := by simp
    have hs0 : decide (qp < 0) = false := by simp; omega
    have e2 : (ok != ok) = false := by simp
    have e3 : (C != C) = false := by simp
    have hbw0 : Below w00.heap.size w00 w00 := Below.refl _ _
    unfold HeaV at HS HI HEQ HMK HHD
    clear hq1 hqs hqp HS0 HI0 HSP HIP htot hr hq
    go_wp2_with fail
    refine (HTO.out _ hbw0).mono ?_
    rintro e w1 ⟨rfl, hs1, hb1⟩
    have HX1 : Hid (SRow w1 w00.heap.size P) := hs1
    have hbw1 : Below w00.heap.size w00 w1 := hbw0.trans (hb1.mono hbw0.size)
    have hz1 : w00.heap.size < w1.heap.size := hs1.1
    clear hs1 hb1
    go_wp2_with fail
    refine (HTP.out _ hbw1).mono ?_
    rintro e w2 ⟨rfl, hs2, hb2⟩
    have HX2 : Hid (SRow w2 w00.heap.size P) := HX1.out.kept hb2
    have HY2 : Hid (PoRow w2 w1.heap.size Q) := hs2
    have hbw2 : Below w00.heap.size w00 w2 := hbw1.trans (hb2.mono hbw1.size)
    have hz2 : w1.heap.size ≤ w2.heap.size := hb2.size
    clear hs2 hb2 HX1 hbw1
    go_wp2_with fail
    refine (HS.out _ _ _ HX2.out HY2.out).mono ?_
    rintro e w3 ⟨⟨u1, rfl, ho1⟩, hb3⟩
    obtain ⟨a1, c1, hu1, hc1⟩ := ho1.shape
    subst hu1
    have HL1 : Hid (∀ k, (Value.slice a1 L.length c1).ownBlock = some k → w2.heap.size ≤ k ∧ k < w3.heap.size) := fun k h => ho1.lt k h
    have hbw3 : Below w00.heap.size w00 w3 := hbw2.trans (hb3.mono hbw2.size)
    have hz3 : w2.heap.size ≤ w3.heap.size := hb3.size
    have OA3 : Hid (OwnH w3 w2.heap.size (.slice a1 L.length c1) L) := ho1
    clear ho1 hb3 HX2 HY2 hbw2
    have hbA : Below w3.heap.size w3 (w3.alloc (.cells #[.int .i64 R, .int .i64 F, .slice a1 L.length c1] 26)) := (Below.refl _ _).alloc (Nat.le_refl _) _
    go_wp2_with fail
    refine (HTO.out _ (hbw3.trans (hbA.mono hbw3.size))).mono ?_
    rintro e w4 ⟨rfl, hs4, hb4⟩
    have hsz4 : (w3.alloc (.cells #[.int .i64 R, .int .i64 F, .slice a1 L.length c1] 26)).heap.size = w3.heap.size + 1 := by simp
    rw [hsz4] at hs4
    have hb34 : Below w3.heap.size w3 w4 := hbA.trans (hb4.mono (by simp))
    have hx4 : w4.heap[w3.heap.size]? = some (.cells #[.int .i64 R, .int .i64 F, .slice a1 L.length c1] 26) := (hb4.block w3.heap.size (by simp)).trans (hst_new _ _)
    clear hb4 hbA
    have hbw4 : Below w00.heap.size w00 w4 := hbw3.trans (hb34.mono hbw3.size)
    have hz4 : w3.heap.size ≤ w4.heap.size := hb34.size
    have OA4 : Hid (OwnH w4 w2.heap.size (.slice a1 L.length c1) L) := OA3.out.kept hb34
    clear OA3 hb34 hbw3
    have B84 : Hid (w4.heap[w3.heap.size]? = some (.cells #[.int .i64 R, .int .i64 F, .slice a1 L.length c1] 26)) := hx4
    have hg4 : w3.heap.size + 1 < w4.heap.size := hs4.1
    have SX4 : Hid (OwnS w4 (w3.heap.size + 1) (.slice (some ⟨w3.heap.size + 1, 0, none⟩) P.length P.length) P) := .inr ⟨w3.heap.size + 1, P.length, rfl, Nat.le_refl _, by unfold maxLen; omega, Nat.le_refl _, hs4⟩
    have HSA4 : Hid (SRow w4 (w3.heap.size + 1) P) := hs4
    clear hx4 hs4 hsz4
    go_wp2_with fail
    refine (HTP.out _ hbw4).mono ?_
    rintro e w5 ⟨rfl, hs5, hb5⟩
    have HSA5 : Hid (SRow w5 (w3.heap.size + 1) P) := HSA4.out.kept hb5
    have hg5 : w4.heap.size < w5.heap.size := hs5.1
    clear HSA4
    have hbw5 : Below w00.heap.size w00 w5 := hbw4.trans (hb5.mono hbw4.size)
    have hz5 : w4.heap.size ≤ w5.heap.size := hb5.size
    have OA5 : Hid (OwnH w5 w2.heap.size (.slice a1 L.length c1) L) := OA4.out.kept hb5
    have B85 : Hid (w5.heap[w3.heap.size]? = some (.cells #[.int .i64 R, .int .i64 F, .slice a1 L.length c1] 26)) := (hb5.block w3.heap.size (by omega)).trans B84.out
    have SX5 : Hid (OwnS w5 (w3.heap.size + 1) (.slice (some ⟨w3.heap.size + 1, 0, none⟩) P.length P.length) P) := SX4.out.kept hb5
    clear OA4 B84 SX4 hb5 hbw4
    have SP5 : Hid (PoRow w5 w4.heap.size Q) := hs5
    clear hs5
    have HE5 : Env w5 := hE.below hbw5
    go_wp2_with fail
    refine (HI.out _ _ _ HE5 HSA5.out SP5.out).mono ?_
    rintro e w6 ⟨⟨u2, rfl, ho2⟩, hb6⟩
    obtain ⟨a2, c2, hu2, hc2⟩ := ho2.shape
    subst hu2
    have HL2 : Hid (∀ k, (Value.slice a2 L.length c2).ownBlock = some k → w5.heap.size ≤ k ∧ k < w6.heap.size) := fun k h => ho2.lt k h
    have HO6 : Hid (OwnH w6 w5.heap.size (.slice a2 L.length c2) L) := ho2
    clear ho2 HSA5 HE5
    have hbw6 : Below w00.heap.size w00 w6 := hbw5.trans (hb6.mono hbw5.size)
    have hz6 : w5.heap.size ≤ w6.heap.size := hb6.size
    have OA6 : Hid (OwnH w6 w2.heap.size (.slice a1 L.length c1) L) := OA5.out.kept hb6
    have B86 : Hid (w6.heap[w3.heap.size]? = some (.cells #[.int .i64 R, .int .i64 F, .slice a1 L.length c1] 26)) := (hb6.block w3.heap.size (by omega)).trans B85.out
    have SX6 : Hid (OwnS w6 (w3.heap.size + 1) (.slice (some ⟨w3.heap.size + 1, 0, none⟩) P.length P.length) P) := SX5.out.kept hb6
    have SP6 : Hid (PoRow w6 w4.heap.size Q) := SP5.out.kept hb6
    clear OA5 B85 SX5 SP5 hb6 hbw5
    have hbA : Below w6.heap.size w6 (w6.alloc (.cells #[.int .i64 R, .int .i64 F, .slice a2 L.length c2] 26)) := (Below.refl _ _).alloc (Nat.le_refl _) _
    have hlt6 : w3.heap.size < w6.heap.size := by omega
    obtain ⟨⟨d0, d1, d2⟩, _⟩ := hst_cells B86.out
    go_wp2_with fail
    refine (HEQ.out _ _ _ (HO6.out.row.kept hbA) (OA6.out.row.kept hbA)).mono ?_
    rintro e w7 ⟨rfl, hb7⟩
    clear d0 d1 d2
    have hb67 : Below w6.heap.size w6 w7 := hbA.trans (hb7.mono (by simp))
    have hx7 : w7.heap[w6.heap.size]? = some (.cells #[.int .i64 R, .int .i64 F, .slice a2 L.length c2] 26) := (hb7.block w6.heap.size (by simp)).trans (hst_new _ _)
    have hz67 : w6.heap.size < w7.heap.size := Nat.lt_of_lt_of_le (by simp) hb7.size
    clear hb7 hbA
    have hbw7 : Below w00.heap.size w00 w7 := hbw6.trans (hb67.mono hbw6.size)
    have hz7 : w6.heap.size ≤ w7.heap.size := hb67.size
    have OA7 : Hid (OwnH w7 w2.heap.size (.slice a1 L.length c1) L) := OA6.out.kept hb67
    have B87 : Hid (w7.heap[w3.heap.size]? = some (.cells #[.int .i64 R, .int .i64 F, .slice a1 L.length c1] 26)) := (hb67.block w3.heap.size (by omega)).trans B86.out
    have SX7 : Hid (OwnS w7 (w3.heap.size + 1) (.slice (some ⟨w3.heap.size + 1, 0, none⟩) P.length P.length) P) := SX6.out.kept hb67
    have SP7 : Hid (PoRow w7 w4.heap.size Q) := SP6.out.kept hb67
    have HO7 : Hid (OwnH w7 w5.heap.size (.slice a2 L.length c2) L) := HO6.out.kept hb67
    clear OA6 B86 SX6 SP6 HO6 hb67 hbw6
    have B17 : Hid (w7.heap[w6.heap.size]? = some (.cells #[.int .i64 R, .int .i64 F, .slice a2 L.length c2] 26)) := hx7
    clear hx7
    go_wp2_with fail
    refine (HTO.out _ hbw7).mono ?_
    rintro e w8 ⟨rfl, hs8, hb8⟩
    have HT8 : Hid (SRow w8 w7.heap.size P) := hs8
    clear hs8
    have hbw8 : Below w00.heap.size w00 w8 := hbw7.trans (hb8.mono hbw7.size)
    have hz8 : w7.heap.size ≤ w8.heap.size := hb8.size
    have OA8 : Hid (OwnH w8 w2.heap.size (.slice a1 L.length c1) L) := OA7.out.kept hb8
    have B88 : Hid (w8.heap[w3.heap.size]? = some (.cells #[.int .i64 R, .int .i64 F, .slice a1 L.length c1] 26)) := (hb8.block w3.heap.size (by omega)).trans B87.out
    have SX8 : Hid (OwnS w8 (w3.heap.size + 1) (.slice (some ⟨w3.heap.size + 1, 0, none⟩) P.length P.length) P) := SX7.out.kept hb8
    have SP8 : Hid (PoRow w8 w4.heap.size Q) := SP7.out.kept hb8
    have HO8 : Hid (OwnH w8 w5.heap.size (.slice a2 L.length c2) L) := HO7.out.kept hb8
    have B18 : Hid (w8.heap[w6.heap.size]? = some (.cells #[.int .i64 R, .int .i64 F, .slice a2 L.length c2] 26)) := (hb8.block w6.heap.size (by omega)).trans B17.out
    clear OA7 B87 SX7 SP7 HO7 B17 hb8 hbw7
    go_wp2_with fail
    refine (HES.out _ _ _ SX8.out.row (HT8.out.row (Nat.le_refl _) (by unfold maxLen; omega))).mono ?_
    rintro e w9 ⟨rfl, hb9⟩
    clear HT8
    have hbw9 : Below w00.heap.size w00 w9 := hbw8.trans (hb9.mono hbw8.size)
    have hz9 : w8.heap.size ≤ w9.heap.size := hb9.size
    have OA9 : Hid (OwnH w9 w2.heap.size (.slice a1 L.length c1) L) := OA8.out.kept hb9
    have B89 : Hid (w9.heap[w3.heap.size]? = some (.cells #[.int .i64 R, .int .i64 F, .slice a1 L.length c1] 26)) := (hb9.block w3.heap.size (by omega)).trans B88.out
    have SX9 : Hid (OwnS w9 (w3.heap.size + 1) (.slice (some ⟨w3.heap.size + 1, 0, none⟩) P.length P.length) P) := SX8.out.kept hb9
    have SP9 : Hid (PoRow w9 w4.heap.size Q) := SP8.out.kept hb9
    have HO9 : Hid (OwnH w9 w5.heap.size (.slice a2 L.length c2) L) := HO8.out.kept hb9
    have B19 : Hid (w9.heap[w6.heap.size]? = some (.cells #[.int .i64 R, .int .i64 F, .slice a2 L.length c2] 26)) := (hb9.block w6.heap.size (by omega)).trans B18.out
    clear OA8 B88 SX8 SP8 HO8 B18 hb9 hbw8
    go_wp2_with fail
    refine (HTP.out _ hbw9).mono ?_
    rintro e w10 ⟨rfl, hs10, hb10⟩
    have HT10 : Hid (PoRow w10 w9.heap.size Q) := hs10
    clear hs10
    have hbw10 : Below w00.heap.size w00 w10 := hbw9.trans (hb10.mono hbw9.size)
    have hz10 : w9.heap.size ≤ w10.heap.size := hb10.size
    have OA10 : Hid (OwnH w10 w2.heap.size (.slice a1 L.length c1) L) := OA9.out.kept hb10
    have B810 : Hid (w10.heap[w3.heap.size]? = some (.cells #[.int .i64 R, .int .i64 F, .slice a1 L.length c1] 26)) := (hb10.block w3.heap.size (by omega)).trans B89.out
    have SX10 : Hid (OwnS w10 (w3.heap.size + 1) (.slice (some ⟨w3.heap.size + 1, 0, none⟩) P.length P.length) P) := SX9.out.kept hb10
    have SP10 : Hid (PoRow w10 w4.heap.size Q) := SP9.out.kept hb10
    have HO10 : Hid (OwnH w10 w5.heap.size (.slice a2 L.length c2) L) := HO9.out.kept hb10
    have B110 : Hid (w10.heap[w6.heap.size]? = some (.cells #[.int .i64 R, .int .i64 F, .slice a2 L.length c2] 26)) := (hb10.block w6.heap.size (by omega)).trans B19.out
    clear OA9 B89 SX9 SP9 HO9 B19 hb10 hbw9
    go_wp2_with fail
    refine (HEP.out _ _ _ (SP10.out.row (Nat.le_refl _) (by unfold maxLen; omega)) (HT10.out.row (Nat.le_refl _) (by unfold maxLen; omega))).mono ?_
    rintro e w11 ⟨rfl, hb11⟩
    clear HT10
    have hbw11 : Below w00.heap.size w00 w11 := hbw10.trans (hb11.mono hbw10.size)
    have hz11 : w10.heap.size ≤ w11.heap.size := hb11.size
    have OA11 : Hid (OwnH w11 w2.heap.size (.slice a1 L.length c1) L) := OA10.out.kept hb11
    have B811 : Hid (w11.heap[w3.heap.size]? = some (.cells #[.int .i64 R, .int .i64 F, .slice a1 L.length c1] 26)) := (hb11.block w3.heap.size (by omega)).trans B810.out
    have SX11 : Hid (OwnS w11 (w3.heap.size + 1) (.slice (some ⟨w3.heap.size + 1, 0, none⟩) P.length P.length) P) := SX10.out.kept hb11
    have SP11 : Hid (PoRow w11 w4.heap.size Q) := SP10.out.kept hb11
    have HO11 : Hid (OwnH w11 w5.heap.size (.slice a2 L.length c2) L) := HO10.out.kept hb11
    have B111 : Hid (w11.heap[w6.heap.size]? = some (.cells #[.int .i64 R, .int .i64 F, .slice a2 L.length c2] 26)) := (hb11.block w6.heap.size (by omega)).trans B110.out
    clear OA10 B810 SX10 SP10 HO10 B110 hb11 hbw10
    go_wp2_with fail
    refine (HMS.out _ _ _ SX11.out).mono ?_
    rintro e w12 ⟨rfl, _, hg12⟩
    have hk12 := grown_kpt hg12
    clear hg12
    have hbw12 : Below w00.heap.size w00 w12 := hbw11.trans (hk12.below hbw11.size (fun k hk0 h => by have q2 : w3.heap.size + 1 = _ := Option.some.inj h; omega))
    have hz12 : w11.heap.size ≤ w12.heap.size := hk12.size
    have OA12 : Hid (OwnH w12 w2.heap.size (.slice a1 L.length c1) L) := OA11.out.kpt hk12 (fun g hg h => by have q := HL1.out g hg; have q2 : w3.heap.size + 1 = _ := Option.some.inj h; omega)
    have B812 : Hid (w12.heap[w3.heap.size]? = some (.cells #[.int .i64 R, .int .i64 F, .slice a1 L.length c1] 26)) := (hk12.block w3.heap.size (by omega) (fun h => by have q2 : w3.heap.size + 1 = _ := Option.some.inj h; omega)).trans B811.out
    have SP12 : Hid (PoRow w12 w4.heap.size Q) := SP11.out.kpt hk12 (fun h => by have q2 : w3.heap.size + 1 = _ := Option.some.inj h; omega)
    have HO12 : Hid (OwnH w12 w5.heap.size (.slice a2 L.length c2) L) := HO11.out.kpt hk12 (fun g hg h => by have q := HL2.out g hg; have q2 : w3.heap.size + 1 = _ := Option.some.inj h; omega)
    have B112 : Hid (w12.heap[w6.heap.size]? = some (.cells #[.int .i64 R, .int .i64 F, .slice a2 L.length c2] 26)) := (hk12.block w6.heap.size (by omega) (fun h => by have q2 : w3.heap.size + 1 = _ := Option.some.inj h; omega)).trans B111.out
    clear OA11 B811 SX11 SP11 HO11 B111 hk12 hbw11
    go_wp2_with fail
    refine (HMP.out _ _ SP12.out).mono ?_
    rintro e w13 ⟨rfl, hk13⟩
    have hbw13 : Below w00.heap.size w00 w13 := hbw12.trans (hk13.below hbw12.size (fun k hk0 h => by omega))
    have hz13 : w12.heap.size ≤ w13.heap.size := hk13.size
    have OA13 : Hid (OwnH w13 w2.heap.size (.slice a1 L.length c1) L) := OA12.out.kpt hk13 (fun g hg h => by have q := HL1.out g hg; omega)
    have B813 : Hid (w13.heap[w3.heap.size]? = some (.cells #[.int .i64 R, .int .i64 F, .slice a1 L.length c1] 26)) := (hk13.block w3.heap.size (by omega) (fun h => by omega)).trans B812.out
    have HO13 : Hid (OwnH w13 w5.heap.size (.slice a2 L.length c2) L) := HO12.out.kpt hk13 (fun g hg h => by have q := HL2.out g hg; omega)
    have B113 : Hid (w13.heap[w6.heap.size]? = some (.cells #[.int .i64 R, .int .i64 F, .slice a2 L.length c2] 26)) := (hk13.block w6.heap.size (by omega) (fun h => by omega)).trans B112.out
    clear OA12 B812 SP12 HO12 B112 hk13 hbw12
    obtain ⟨⟨d0, d1, d2⟩, _⟩ := hst_cells B813.out
    obtain ⟨⟨f0, f1, f2⟩, _⟩ := hst_cells B113.out
    go_wp2_with fail
    refine (HEQ.out _ _ _ HO13.out.row OA13.out.row).mono ?_
    rintro e w14 ⟨rfl, hb14⟩
    clear d0 d1 d2 f0 f1 f2
    have hbw14 : Below w00.heap.size w00 w14 := hbw13.trans (hb14.mono hbw13.size)
    have hz14 : w13.heap.size ≤ w14.heap.size := hb14.size
    have OA14 : Hid (OwnH w14 w2.heap.size (.slice a1 L.length c1) L) := OA13.out.kept hb14
    have B814 : Hid (w14.heap[w3.heap.size]? = some (.cells #[.int .i64 R, .int .i64 F, .slice a1 L.length c1] 26)) := (hb14.block w3.heap.size (by omega)).trans B813.out
    have HO14 : Hid (OwnH w14 w5.heap.size (.slice a2 L.length c2) L) := HO13.out.kept hb14
    have B114 : Hid (w14.heap[w6.heap.size]? = some (.cells #[.int .i64 R, .int .i64 F, .slice a2 L.length c2] 26)) := (hb14.block w6.heap.size (by omega)).trans B113.out
    clear OA13 B813 HO13 B113 hb14 hbw13
    obtain ⟨⟨f0, f1, f2⟩, _⟩ := hst_cells B114.out
    go_wp2_with fail
    refine (HMK.out _ _ _ HO14.out).mono ?_
    rintro e w15 ⟨rfl, ho15, hk15⟩
    clear f0 f1 f2
    have HM15 : Hid (OwnH w15 w5.heap.size (.slice a2 L.length c2) (mrksH 1 L.length)) := ho15
    clear ho15
    have hbw15 : Below w00.heap.size w00 w15 := hbw14.trans (hk15.below hbw14.size (fun k hk0 h => by have q2 := HL2.out _ h; omega))
    have hz15 : w14.heap.size ≤ w15.heap.size := hk15.size
    have OA15 : Hid (OwnH w15 w2.heap.size (.slice a1 L.length c1) L) := OA14.out.kpt hk15 (fun g hg h => by have q := HL1.out g hg; have q2 := HL2.out _ h; omega)
    have B815 : Hid (w15.heap[w3.heap.size]? = some (.cells #[.int .i64 R, .int .i64 F, .slice a1 L.length c1] 26)) := (hk15.block w3.heap.size (by omega) (fun h => by have q2 := HL2.out _ h; omega)).trans B814.out
    have B115 : Hid (w15.heap[w6.heap.size]? = some (.cells #[.int .i64 R, .int .i64 F, .slice a2 L.length c2] 26)) := (hk15.block w6.heap.size (by omega) (fun h => by have q2 := HL2.out _ h; omega)).trans B114.out
    clear OA14 B814 HO14 B114 hk15 hbw14
    obtain ⟨⟨f0, f1, f2⟩, _⟩ := hst_cells B115.out
    go_wp2_with fail
    refine (HHD.out _ _ _ HM15.out).mono ?_
    rintro e w16 ⟨rfl, hb16⟩
    clear f0 f1 f2
    have hbw16 : Below w00.heap.size w00 w16 := hbw15.trans (hb16.mono hbw15.size)
    have hz16 : w15.heap.size ≤ w16.heap.size := hb16.size
    have OA16 : Hid (OwnH w16 w2.heap.size (.slice a1 L.length c1) L) := OA15.out.kept hb16
    have B816 : Hid (w16.heap[w3.heap.size]? = some (.cells #[.int .i64 R, .int .i64 F, .slice a1 L.length c1] 26)) := (hb16.block w3.heap.size (by omega)).trans B815.out
    have B116 : Hid (w16.heap[w6.heap.size]? = some (.cells #[.int .i64 R, .int .i64 F, .slice a2 L.length c2] 26)) := (hb16.block w6.heap.size (by omega)).trans B115.out
    have HM16 : Hid (OwnH w16 w5.heap.size (.slice a2 L.length c2) (mrksH 1 L.length)) := HM15.out.kept hb16
    clear OA15 B815 B115 HM15 hb16 hbw15
    go_wp2_with fail
    refine (HTO.out _ hbw16).mono ?_
    rintro e w17 ⟨rfl, hs17, hb17⟩
    have HT17 : Hid (SRow w17 w16.heap.size P) := hs17
    clear hs17
    have hbw17 : Below w00.heap.size w00 w17 := hbw16.trans (hb17.mono hbw16.size)
    have hz17 : w16.heap.size ≤ w17.heap.size := hb17.size
    have OA17 : Hid (OwnH w17 w2.heap.size (.slice a1 L.length c1) L) := OA16.out.kept hb17
    have B817 : Hid (w17.heap[w3.heap.size]? = some (.cells #[.int .i64 R, .int .i64 F, .slice a1 L.length c1] 26)) := (hb17.block w3.heap.size (by omega)).trans B816.out
    have B117 : Hid (w17.heap[w6.heap.size]? = some (.cells #[.int .i64 R, .int .i64 F, .slice a2 L.length c2] 26)) := (hb17.block w6.heap.size (by omega)).trans B116.out
    have HM17 : Hid (OwnH w17 w5.heap.size (.slice a2 L.length c2) (mrksH 1 L.length)) := HM16.out.kept hb17
    clear OA16 B816 B116 HM16 hb17 hbw16
    go_wp2_with fail
    refine (HTP.out _ hbw17).mono ?_
    rintro e w18 ⟨rfl, hs18, hb18⟩
    have HT18 : Hid (SRow w18 w16.heap.size P) := HT17.out.kept hb18
    have HU18 : Hid (PoRow w18 w17.heap.size Q) := hs18
    clear hs18 HT17
    have hbw18 : Below w00.heap.size w00 w18 := hbw17.trans (hb18.mono hbw17.size)
    have hz18 : w17.heap.size ≤ w18.heap.size := hb18.size
    have OA18 : Hid (OwnH w18 w2.heap.size (.slice a1 L.length c1) L) := OA17.out.kept hb18
    have B818 : Hid (w18.heap[w3.heap.size]? = some (.cells #[.int .i64 R, .int .i64 F, .slice a1 L.length c1] 26)) := (hb18.block w3.heap.size (by omega)).trans B817.out
    have B118 : Hid (w18.heap[w6.heap.size]? = some (.cells #[.int .i64 R, .int .i64 F, .slice a2 L.length c2] 26)) := (hb18.block w6.heap.size (by omega)).trans B117.out
    have HM18 : Hid (OwnH w18 w5.heap.size (.slice a2 L.length c2) (mrksH 1 L.length)) := HM17.out.kept hb18
    clear OA17 B817 B117 HM17 hb18 hbw17
    have HE18 : Env w18 := hE.below hbw18
    go_wp2_with fail
    refine (HI.out _ _ _ HE18 HT18.out HU18.out).mono ?_
    rintro e w19 ⟨⟨u3, rfl, ho3⟩, hb19⟩
    obtain ⟨a3, c3, hu3, hc3⟩ := ho3.shape
    subst hu3
    have HR19 : Hid (HstRow w19 (.slice a3 L.length c3) L) := ho3.row
    clear ho3 HT18 HU18 HE18
    have hbw19 : Below w00.heap.size w00 w19 := hbw18.trans (hb19.mono hbw18.size)
    have hz19 : w18.heap.size ≤ w19.heap.size := hb19.size
    have OA19 : Hid (OwnH w19 w2.heap.size (.slice a1 L.length c1) L) := OA18.out.kept hb19
    have B819 : Hid (w19.heap[w3.heap.size]? = some (.cells #[.int .i64 R, .int .i64 F, .slice a1 L.length c1] 26)) := (hb19.block w3.heap.size (by omega)).trans B818.out
    have B119 : Hid (w19.heap[w6.heap.size]? = some (.cells #[.int .i64 R, .int .i64 F, .slice a2 L.length c2] 26)) := (hb19.block w6.heap.size (by omega)).trans B118.out
    have HM19 : Hid (OwnH w19 w5.heap.size (.slice a2 L.length c2) (mrksH 1 L.length)) := HM18.out.kept hb19
    clear OA18 B818 B118 HM18 hb19 hbw18
    have hbA : Below w19.heap.size w19 (w19.alloc (.cells #[.int .i64 R, .int .i64 F, .slice a3 L.length c3] 26)) := (Below.refl _ _).alloc (Nat.le_refl _) _
    have hlt19 : w3.heap.size < w19.heap.size := by omega
    obtain ⟨⟨d0, d1, d2⟩, _⟩ := hst_cells B819.out
    go_wp2_with fail
    refine (HEQ.out _ _ _ (HR19.out.kept hbA) (OA19.out.row.kept hbA)).mono ?_
    rintro e w20 ⟨rfl, hb20⟩
    clear d0 d1 d2
    have hbB : Below w19.heap.size w19 w20 := hbA.trans (hb20.mono (by simp))
    clear hb20 hbA HR19
    have hbw20 : Below w00.heap.size w00 w20 := hbw19.trans (hbB.mono hbw19.size)
    have hz20 : w19.heap.size ≤ w20.heap.size := hbB.size
    have OA20 : Hid (OwnH w20 w2.heap.size (.slice a1 L.length c1) L) := OA19.out.kept hbB
    have B820 : Hid (w20.heap[w3.heap.size]? = some (.cells #[.int .i64 R, .int .i64 F, .slice a1 L.length c1] 26)) := (hbB.block w3.heap.size (by omega)).trans B819.out
    have B120 : Hid (w20.heap[w6.heap.size]? = some (.cells #[.int .i64 R, .int .i64 F, .slice a2 L.length c2] 26)) := (hbB.block w6.heap.size (by omega)).trans B119.out
    have HM20 : Hid (OwnH w20 w5.heap.size (.slice a2 L.length c2) (mrksH 1 L.length)) := HM19.out.kept hbB
    clear OA19 B819 B119 HM19 hbB hbw19
    obtain ⟨⟨f0, f1, f2⟩, _⟩ := hst_cells B120.out
    go_wp2_with fail
    refine (HHD.out _ _ _ HM20.out).mono ?_
    rintro e w21 ⟨rfl, hb21⟩
    clear f0 f1 f2
    have hbw21 : Below w00.heap.size w00 w21 := hbw20.trans (hb21.mono hbw20.size)
    have hz21 : w20.heap.size ≤ w21.heap.size := hb21.size
    have OA21 : Hid (OwnH w21 w2.heap.size (.slice a1 L.length c1) L) := OA20.out.kept hb21
    have B821 : Hid (w21.heap[w3.heap.size]? = some (.cells #[.int .i64 R, .int .i64 F, .slice a1 L.length c1] 26)) := (hb21.block w3.heap.size (by omega)).trans B820.out
    have B121 : Hid (w21.heap[w6.heap.size]? = some (.cells #[.int .i64 R, .int .i64 F, .slice a2 L.length c2] 26)) := (hb21.block w6.heap.size (by omega)).trans B120.out
    have HM21 : Hid (OwnH w21 w5.heap.size (.slice a2 L.length c2) (mrksH 1 L.length)) := HM20.out.kept hb21
    clear OA20 B820 B120 HM20 hb21 hbw20
    go_wp2_with fail
    go_ret
    exact ⟨rfl, hbw21⟩

theorem walk (ri fa : Int) (v : Value) (P : List (List UInt8)) (vq : Value) (Q : List PrbT) (w : World) (_ : -9223372036854775808 ≤ ri ∧ ri ≤ 9223372036854775807) (_ : -9223372036854775808 ≤ fa ∧ fa ≤ 9223372036854775807) (hr : Row w v P) (hp : Hid (∀ x ∈ P, x.length ≤ maxLen)) (hq : PrbRow w vq Q) (hE : Env w) :
    Calls Tryd.prog 6 #[.int .i64 ri, .int .i64 fa, v, vq] w fun e w' => e = .returned (.bool true) ∧ Below w.heap.size w w' :=
  core ri fa v vq P Q _ _ _ _ _ w hr hp hq hE (fun h => by have := pl_length ri fa P Q; split <;> simp; omega) (fun hl hql hx _ _ W hs hq2 => sPlayProbes_any ri fa _ _ P Q W (hs.row (Nat.le_refl _) (by unfold maxLen; omega)) (hq2.row (Nat.le_refl _) (by unfold maxLen; omega)) hl hx) (fun hl hql hx _ _ W hW hs hq2 => iPlayProbes_any ri fa _ _ P Q W (hs.row (Nat.le_refl _) (by unfold maxLen; omega)) (hq2.row (Nat.le_refl _) (by unfold maxLen; omega)) hl hx hW)
end Go.Proofs.YtoopfmebpjojiaaDoor.playProbes
