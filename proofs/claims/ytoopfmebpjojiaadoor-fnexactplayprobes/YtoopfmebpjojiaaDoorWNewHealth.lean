import Derived.Test.YtoopfmebpjojiaaDoorHeN
namespace Go.Proofs.YtoopfmebpjojiaaDoor.newHealth
open Go.RowKit

theorem _root_.Go.Proofs.YtoopfmebpjojiaaDoor.OwnS.kpt {a b : World} {T : Nat → Prop} {base : Nat} {v : Value} {P : List (List UInt8)} (ho : OwnS a base v P) (h : Kpt a b T) (hne : ∀ g, v.ownBlock = some g → ¬ T g) : OwnS b base v P := by
  rcases ho with ho | ⟨g, cap, rfl, h1, h2, h3, hs⟩
  · exact .inl ho
  · have hb : b.heap[g]? = a.heap[g]? := h.block g hs.1 (hne g rfl)
    refine .inr ⟨g, cap, rfl, h1, h2, h3, Nat.lt_of_lt_of_le hs.1 h.size, fun j hj => ?_⟩
    rw [World.cell?_of_block (a := ⟨g, j, none⟩) hb, World.frozen?_of_block (a := ⟨g, j, none⟩) hb]
    exact hs.2 j hj

theorem tot_mem {P : List (List UInt8)} {x : List UInt8} (h : x ∈ P) : x.length ≤ tot P := by
  unfold tot
  induction P with
  | nil => cases h
  | cons y r ih =>
    rcases List.mem_cons.1 h with rfl | h
    · simp
    · have := ih h; simp only [List.map_cons, List.sum_cons]; omega

set_option maxRecDepth 20000 in
set_option maxHeartbeats 16000000 in
theorem core (ri fa : Int) (v : Value) (P : List (List UInt8)) (ok : Bool) (R F : Int) (L : List HosT) (w : World) (hr : Row w v P) (hp : Hid (∀ x ∈ P, x.length ≤ maxLen)) (hE : Env w) (hL : P.length ≤ 1048576 → L.length ≤ 1048576)
    (HS0 : Hid (P.length ≤ 1048576 → Hid (∀ x ∈ P, x.length ≤ 1048576) → ∀ g W, SRow W g P → Calls Tryd.prog 11 #[.int .i64 ri, .int .i64 fa, .slice (some ⟨g, 0, none⟩) P.length P.length] W fun e w' => (∃ u, e = .returned (.tuple #[HeaV R F u, .bool ok]) ∧ OwnH w' W.heap.size u L) ∧ Below W.heap.size W w'))
    (HI0 : Hid (P.length ≤ 1048576 → Hid (∀ x ∈ P, x.length ≤ 1048576) → ∀ g W, Env W → SRow W g P → Calls Tryd.prog 13 #[.int .i64 ri, .int .i64 fa, .slice (some ⟨g, 0, none⟩) P.length P.length] W fun e w' => (∃ u, e = .returned (.tuple #[HeaV R F u, .bool ok]) ∧ OwnH w' W.heap.size u L) ∧ Below W.heap.size W w')) :
    Calls Tryd.prog 3 #[.int .i64 ri, .int .i64 fa, v] w fun e w' => e = .returned (.bool true) ∧ Below w.heap.size w w' := by
  obtain ⟨pa, pc, hpv, hpc, hpm, _⟩ := row_value hr
  subst hpv
  go_enter Tryd.func3, Tryd.ntmps3
  go_wp2_with fail
  refine (szStringS_any _ P w hr hp).mono ?_
  rintro e w0 ⟨r, rfl, hsz, rfl⟩
  by_cases hneg : r < 0
  · clear hsz
    go_wp2_with fail
    go_ret
    exact ⟨rfl, Below.refl _ _⟩
  · have htot : P.length + tot P ≤ 1048576 := hsz (by omega)
    have hl : P.length ≤ 1048576 := by omega
    have HPX : Hid (∀ x ∈ P, x.length ≤ 1048576) := fun x hxm => by have := tot_mem hxm; omega
    have hLl := hL hl
    have HTO : Hid (∀ W, Below w0.heap.size w0 W → Calls Tryd.prog 12 #[.slice pa P.length pc] W fun e w' => e = .returned (.slice (some ⟨W.heap.size, 0, none⟩) P.length P.length) ∧ SRow w' W.heap.size P ∧ Below W.heap.size W w') := fun W hW => toStringS_any _ P W (hr.kept hW) hl
    have HSP := HS0.out hl HPX
    have HS : Hid (∀ g W, SRow W g P → Calls Tryd.prog 11 #[.int .i64 ri, .int .i64 fa, .slice (some ⟨g, 0, none⟩) P.length P.length] W fun e w' => (∃ u, e = .returned (.tuple #[HeaV R F u, .bool ok]) ∧ OwnH w' W.heap.size u L) ∧ Below W.heap.size W w') := HSP
    have HIP := HI0.out hl HPX
    have HI : Hid (∀ g W, Env W → SRow W g P → Calls Tryd.prog 13 #[.int .i64 ri, .int .i64 fa, .slice (some ⟨g, 0, none⟩) P.length P.length] W fun e w' => (∃ u, e = .returned (.tuple #[HeaV R F u, .bool ok]) ∧ OwnH w' W.heap.size u L) ∧ Below W.heap.size W w') := HIP
    have HEQ : Hid (∀ u1 u2 W, HstRow W u1 L → HstRow W u2 L → Calls Tryd.prog 14 #[HeaV R F u1, HeaV R F u2] W fun e w' => e = .returned (.bool true) ∧ Below W.heap.size W w') := fun u1 u2 W h1 h2 => eqHealth_same R F u1 u2 L W h1 h2
    have HMK : Hid (∀ u base W, OwnH W base u L → Calls Tryd.prog 17 #[HeaV R F u, .int .i64 1] W fun e w' => e = .returned (.int .i64 (1 + 3 * (L.length : Int))) ∧ OwnH w' base u (mrksH 1 L.length) ∧ Kpt W w' (fun k => u.ownBlock = some k)) := fun u base W h1 => markHealth_any R F u L base 1 W h1 hLl (by omega) (by omega)
    have HHD : Hid (∀ u base W, OwnH W base u (mrksH 1 L.length) → Calls Tryd.prog 18 #[HeaV R F u, .int .i64 1] W fun e w' => e = .returned (.int .i64 (1 + 3 * (L.length : Int))) ∧ Below W.heap.size W w') := fun u base W h1 => heldHealth_any R F u L.length 1 W h1.row hLl (by omega) (by omega)
    have HMS : Hid (∀ u base W, OwnS W base u P → Calls Tryd.prog 16 #[u, .int .i64 1] W fun e w' => e = .returned (.int .i64 ((P.length : Int) + 1)) ∧ OwnS w' base u (marks P.length) ∧ W.grownBy w' u.ownBlock) := fun u base W h1 => markStringS_any u P base W h1 hl
    have HES : Hid (∀ v1 v2 W, Row W v1 P → Row W v2 P → Calls Tryd.prog 15 #[v1, v2] W fun e w' => e = .returned (.bool true) ∧ Below W.heap.size W w') := fun v1 v2 W h1 h2 => by
      have h := eqStringS_any v1 v2 P P W h1 h2
      rw [show (P == P) = true by simp] at h
      exact h
    obtain ⟨q, hq⟩ : ∃ q : Int, q = 1 + 3 * (L.length : Int) := ⟨_, rfl⟩
    rw [← hq] at HMK HHD
    obtain ⟨qs, hqs⟩ : ∃ qs : Int, qs = (P.length : Int) + 1 := ⟨_, rfl⟩
    rw [← hqs] at HMS
    have hq0 : decide (q < 0) = false := by simp; omega
    have hqq : (q != q) = false := by simp
    have hs0 : decide (qs < 0) = false := by simp; omega
    have e2 : (ok != ok) = false := by simp
    have hbw0 : Below w0.heap.size w0 w0 := Below.refl _ _
    unfold HeaV at HS HI HEQ HMK HHD
    clear hq hqs hsz HS0 HI0 HSP HIP htot hr
    go_wp2_with fail
    refine (HTO.out _ hbw0).mono ?_
    rintro e w1 ⟨rfl, hs1, hb1⟩
    have HX1 : Hid (SRow w1 w0.heap.size P) := hs1
    have hbw1 := hbw0.trans (hb1.mono hbw0.size)
    have hz1 : w0.heap.size < w1.heap.size := hs1.1
    clear hs1 hb1
    go_wp2_with fail
    refine (HS.out _ _ HX1.out).mono ?_
    rintro e w2 ⟨⟨u1, rfl, ho1⟩, hb2⟩
    obtain ⟨a1, c1, hu1, hc1⟩ := ho1.shape
    subst hu1
    have HL1 : Hid (∀ k, (Value.slice a1 L.length c1).ownBlock = some k → w1.heap.size ≤ k ∧ k < w2.heap.size) := fun k h => ho1.lt k h
    have hbw2 := hbw1.trans (hb2.mono hbw1.size)
    have hz2 : w1.heap.size ≤ w2.heap.size := hb2.size
    have OA2 : Hid (OwnH w2 w1.heap.size (.slice a1 L.length c1) L) := ho1
    clear ho1 hb2 HX1 hbw1
    have hbA : Below w2.heap.size w2 (w2.alloc (.cells #[.int .i64 R, .int .i64 F, .slice a1 L.length c1] 26)) := (Below.refl _ _).alloc (Nat.le_refl _) _
    go_wp2_with fail
    refine (HTO.out _ (hbw2.trans (hbA.mono hbw2.size))).mono ?_
    rintro e w3 ⟨rfl, hs3, hb3⟩
    have hsz3 : (w2.alloc (.cells #[.int .i64 R, .int .i64 F, .slice a1 L.length c1] 26)).heap.size = w2.heap.size + 1 := by simp
    rw [hsz3] at hs3
    have hb23 : Below w2.heap.size w2 w3 := hbA.trans (hb3.mono (by simp))
    have hx3 : w3.heap[w2.heap.size]? = some (.cells #[.int .i64 R, .int .i64 F, .slice a1 L.length c1] 26) := (hb3.block w2.heap.size (by simp)).trans (hst_new _ _)
    clear hb3 hbA
    have hbw3 : Below w0.heap.size w0 w3 := hbw2.trans (hb23.mono hbw2.size)
    have hz3 : w2.heap.size ≤ w3.heap.size := hb23.size
    have OA3 : Hid (OwnH w3 w1.heap.size (.slice a1 L.length c1) L) := OA2.out.kept hb23
    clear OA2 hb23 hbw2
    have B83 : Hid (w3.heap[w2.heap.size]? = some (.cells #[.int .i64 R, .int .i64 F, .slice a1 L.length c1] 26)) := hx3
    have hg2 : w2.heap.size + 1 < w3.heap.size := hs3.1
    have SX3 : Hid (OwnS w3 (w2.heap.size + 1) (.slice (some ⟨w2.heap.size + 1, 0, none⟩) P.length P.length) P) := .inr ⟨w2.heap.size + 1, P.length, rfl, Nat.le_refl _, by unfold maxLen; omega, Nat.le_refl _, hs3⟩
    have HS3 : Hid (SRow w3 (w2.heap.size + 1) P) := hs3
    clear hx3 hs3 hsz3
    have HE3 : Env w3 := hE.below hbw3
    go_wp2_with fail
    refine (HI.out _ _ HE3 HS3.out).mono ?_
    rintro e w4 ⟨⟨u2, rfl, ho2⟩, hb4⟩
    obtain ⟨a2, c2, hu2, hc2⟩ := ho2.shape
    subst hu2
    have HL2 : Hid (∀ k, (Value.slice a2 L.length c2).ownBlock = some k → w3.heap.size ≤ k ∧ k < w4.heap.size) := fun k h => ho2.lt k h
    have HO4 : Hid (OwnH w4 w3.heap.size (.slice a2 L.length c2) L) := ho2
    clear ho2 HS3 HE3
    have hbw4 : Below w0.heap.size w0 w4 := hbw3.trans (hb4.mono hbw3.size)
    have hz4 : w3.heap.size ≤ w4.heap.size := hb4.size
    have OA4 : Hid (OwnH w4 w1.heap.size (.slice a1 L.length c1) L) := OA3.out.kept hb4
    have B84 : Hid (w4.heap[w2.heap.size]? = some (.cells #[.int .i64 R, .int .i64 F, .slice a1 L.length c1] 26)) := (hb4.block w2.heap.size (by omega)).trans B83.out
    have SX4 : Hid (OwnS w4 (w2.heap.size + 1) (.slice (some ⟨w2.heap.size + 1, 0, none⟩) P.length P.length) P) := SX3.out.kept hb4
    clear OA3 B83 SX3 hb4 hbw3
    have hbA : Below w4.heap.size w4 (w4.alloc (.cells #[.int .i64 R, .int .i64 F, .slice a2 L.length c2] 26)) := (Below.refl _ _).alloc (Nat.le_refl _) _
    have hlt4 : w2.heap.size < w4.heap.size := by omega
    obtain ⟨⟨d0, d1, d2⟩, _⟩ := hst_cells B84.out
    go_wp2_with fail
    refine (HEQ.out _ _ _ (HO4.out.row.kept hbA) (OA4.out.row.kept hbA)).mono ?_
    rintro e w5 ⟨rfl, hb5⟩
    clear d0 d1 d2
    have hb45 : Below w4.heap.size w4 w5 := hbA.trans (hb5.mono (by simp))
    have hx5 : w5.heap[w4.heap.size]? = some (.cells #[.int .i64 R, .int .i64 F, .slice a2 L.length c2] 26) := (hb5.block w4.heap.size (by simp)).trans (hst_new _ _)
    have hz45 : w4.heap.size < w5.heap.size := Nat.lt_of_lt_of_le (by simp) hb5.size
    clear hb5 hbA
    have hbw5 : Below w0.heap.size w0 w5 := hbw4.trans (hb45.mono hbw4.size)
    have hz5 : w4.heap.size ≤ w5.heap.size := hb45.size
    have OA5 : Hid (OwnH w5 w1.heap.size (.slice a1 L.length c1) L) := OA4.out.kept hb45
    have B85 : Hid (w5.heap[w2.heap.size]? = some (.cells #[.int .i64 R, .int .i64 F, .slice a1 L.length c1] 26)) := (hb45.block w2.heap.size (by omega)).trans B84.out
    have SX5 : Hid (OwnS w5 (w2.heap.size + 1) (.slice (some ⟨w2.heap.size + 1, 0, none⟩) P.length P.length) P) := SX4.out.kept hb45
    have HO5 : Hid (OwnH w5 w3.heap.size (.slice a2 L.length c2) L) := HO4.out.kept hb45
    clear OA4 B84 SX4 HO4 hb45 hbw4
    have B15 : Hid (w5.heap[w4.heap.size]? = some (.cells #[.int .i64 R, .int .i64 F, .slice a2 L.length c2] 26)) := hx5
    clear hx5
    go_wp2_with fail
    refine (HTO.out _ hbw5).mono ?_
    rintro e w6 ⟨rfl, hs6, hb6⟩
    have HT6 : Hid (SRow w6 w5.heap.size P) := hs6
    clear hs6
    have hbw6 : Below w0.heap.size w0 w6 := hbw5.trans (hb6.mono hbw5.size)
    have hz6 : w5.heap.size ≤ w6.heap.size := hb6.size
    have OA6 : Hid (OwnH w6 w1.heap.size (.slice a1 L.length c1) L) := OA5.out.kept hb6
    have B86 : Hid (w6.heap[w2.heap.size]? = some (.cells #[.int .i64 R, .int .i64 F, .slice a1 L.length c1] 26)) := (hb6.block w2.heap.size (by omega)).trans B85.out
    have SX6 : Hid (OwnS w6 (w2.heap.size + 1) (.slice (some ⟨w2.heap.size + 1, 0, none⟩) P.length P.length) P) := SX5.out.kept hb6
    have HO6 : Hid (OwnH w6 w3.heap.size (.slice a2 L.length c2) L) := HO5.out.kept hb6
    have B16 : Hid (w6.heap[w4.heap.size]? = some (.cells #[.int .i64 R, .int .i64 F, .slice a2 L.length c2] 26)) := (hb6.block w4.heap.size (by omega)).trans B15.out
    clear OA5 B85 SX5 HO5 B15 hb6 hbw5
    go_wp2_with fail
    refine (HES.out _ _ _ SX6.out.row (HT6.out.row (Nat.le_refl _) (by unfold maxLen; omega))).mono ?_
    rintro e w7 ⟨rfl, hb7⟩
    clear HT6
    have hbw7 : Below w0.heap.size w0 w7 := hbw6.trans (hb7.mono hbw6.size)
    have hz7 : w6.heap.size ≤ w7.heap.size := hb7.size
    have OA7 : Hid (OwnH w7 w1.heap.size (.slice a1 L.length c1) L) := OA6.out.kept hb7
    have B87 : Hid (w7.heap[w2.heap.size]? = some (.cells #[.int .i64 R, .int .i64 F, .slice a1 L.length c1] 26)) := (hb7.block w2.heap.size (by omega)).trans B86.out
    have SX7 : Hid (OwnS w7 (w2.heap.size + 1) (.slice (some ⟨w2.heap.size + 1, 0, none⟩) P.length P.length) P) := SX6.out.kept hb7
    have HO7 : Hid (OwnH w7 w3.heap.size (.slice a2 L.length c2) L) := HO6.out.kept hb7
    have B17 : Hid (w7.heap[w4.heap.size]? = some (.cells #[.int .i64 R, .int .i64 F, .slice a2 L.length c2] 26)) := (hb7.block w4.heap.size (by omega)).trans B16.out
    clear OA6 B86 SX6 HO6 B16 hb7 hbw6
    go_wp2_with fail
    refine (HMS.out _ _ _ SX7.out).mono ?_
    rintro e w8 ⟨rfl, _, hg8⟩
    have hk8 := grown_kpt hg8
    clear hg8
    have hbw8 : Below w0.heap.size w0 w8 := hbw7.trans (hk8.below hbw7.size (fun k hk0 h => by have q2 : w2.heap.size + 1 = _ := Option.some.inj h; omega))
    have hz8 : w7.heap.size ≤ w8.heap.size := hk8.size
    have OA8 : Hid (OwnH w8 w1.heap.size (.slice a1 L.length c1) L) := OA7.out.kpt hk8 (fun g hg h => by have q := HL1.out g hg; have q2 : w2.heap.size + 1 = _ := Option.some.inj h; omega)
    have B88 : Hid (w8.heap[w2.heap.size]? = some (.cells #[.int .i64 R, .int .i64 F, .slice a1 L.length c1] 26)) := (hk8.block w2.heap.size (by omega) (fun h => by have q2 : w2.heap.size + 1 = _ := Option.some.inj h; omega)).trans B87.out
    have HO8 : Hid (OwnH w8 w3.heap.size (.slice a2 L.length c2) L) := HO7.out.kpt hk8 (fun g hg h => by have q := HL2.out g hg; have q2 : w2.heap.size + 1 = _ := Option.some.inj h; omega)
    have B18 : Hid (w8.heap[w4.heap.size]? = some (.cells #[.int .i64 R, .int .i64 F, .slice a2 L.length c2] 26)) := (hk8.block w4.heap.size (by omega) (fun h => by have q2 : w2.heap.size + 1 = _ := Option.some.inj h; omega)).trans B17.out
    clear OA7 B87 SX7 HO7 B17 hk8 hbw7
    obtain ⟨⟨d0, d1, d2⟩, _⟩ := hst_cells B88.out
    obtain ⟨⟨f0, f1, f2⟩, _⟩ := hst_cells B18.out
    go_wp2_with fail
    refine (HEQ.out _ _ _ HO8.out.row OA8.out.row).mono ?_
    rintro e w9 ⟨rfl, hb9⟩
    clear d0 d1 d2 f0 f1 f2
    have hbw9 : Below w0.heap.size w0 w9 := hbw8.trans (hb9.mono hbw8.size)
    have hz9 : w8.heap.size ≤ w9.heap.size := hb9.size
    have OA9 : Hid (OwnH w9 w1.heap.size (.slice a1 L.length c1) L) := OA8.out.kept hb9
    have B89 : Hid (w9.heap[w2.heap.size]? = some (.cells #[.int .i64 R, .int .i64 F, .slice a1 L.length c1] 26)) := (hb9.block w2.heap.size (by omega)).trans B88.out
    have HO9 : Hid (OwnH w9 w3.heap.size (.slice a2 L.length c2) L) := HO8.out.kept hb9
    have B19 : Hid (w9.heap[w4.heap.size]? = some (.cells #[.int .i64 R, .int .i64 F, .slice a2 L.length c2] 26)) := (hb9.block w4.heap.size (by omega)).trans B18.out
    clear OA8 B88 HO8 B18 hb9 hbw8
    obtain ⟨⟨f0, f1, f2⟩, _⟩ := hst_cells B19.out
    go_wp2_with fail
    refine (HMK.out _ _ _ HO9.out).mono ?_
    rintro e w10 ⟨rfl, ho10, hk10⟩
    clear f0 f1 f2
    have HM10 : Hid (OwnH w10 w3.heap.size (.slice a2 L.length c2) (mrksH 1 L.length)) := ho10
    clear ho10
    have hbw10 : Below w0.heap.size w0 w10 := hbw9.trans (hk10.below hbw9.size (fun k hk0 h => by have q2 := HL2.out _ h; omega))
    have hz10 : w9.heap.size ≤ w10.heap.size := hk10.size
    have OA10 : Hid (OwnH w10 w1.heap.size (.slice a1 L.length c1) L) := OA9.out.kpt hk10 (fun g hg h => by have q := HL1.out g hg; have q2 := HL2.out _ h; omega)
    have B810 : Hid (w10.heap[w2.heap.size]? = some (.cells #[.int .i64 R, .int .i64 F, .slice a1 L.length c1] 26)) := (hk10.block w2.heap.size (by omega) (fun h => by have q2 := HL2.out _ h; omega)).trans B89.out
    have B110 : Hid (w10.heap[w4.heap.size]? = some (.cells #[.int .i64 R, .int .i64 F, .slice a2 L.length c2] 26)) := (hk10.block w4.heap.size (by omega) (fun h => by have q2 := HL2.out _ h; omega)).trans B19.out
    clear OA9 B89 HO9 B19 hk10 hbw9
    obtain ⟨⟨f0, f1, f2⟩, _⟩ := hst_cells B110.out
    go_wp2_with fail
    refine (HHD.out _ _ _ HM10.out).mono ?_
    rintro e w11 ⟨rfl, hb11⟩
    clear f0 f1 f2
    have hbw11 : Below w0.heap.size w0 w11 := hbw10.trans (hb11.mono hbw10.size)
    have hz11 : w10.heap.size ≤ w11.heap.size := hb11.size
    have OA11 : Hid (OwnH w11 w1.heap.size (.slice a1 L.length c1) L) := OA10.out.kept hb11
    have B811 : Hid (w11.heap[w2.heap.size]? = some (.cells #[.int .i64 R, .int .i64 F, .slice a1 L.length c1] 26)) := (hb11.block w2.heap.size (by omega)).trans B810.out
    have B111 : Hid (w11.heap[w4.heap.size]? = some (.cells #[.int .i64 R, .int .i64 F, .slice a2 L.length c2] 26)) := (hb11.block w4.heap.size (by omega)).trans B110.out
    have HM11 : Hid (OwnH w11 w3.heap.size (.slice a2 L.length c2) (mrksH 1 L.length)) := HM10.out.kept hb11
    clear OA10 B810 B110 HM10 hb11 hbw10
    go_wp2_with fail
    refine (HTO.out _ hbw11).mono ?_
    rintro e w12 ⟨rfl, hs12, hb12⟩
    have HT12 : Hid (SRow w12 w11.heap.size P) := hs12
    clear hs12
    have hbw12 : Below w0.heap.size w0 w12 := hbw11.trans (hb12.mono hbw11.size)
    have hz12 : w11.heap.size ≤ w12.heap.size := hb12.size
    have OA12 : Hid (OwnH w12 w1.heap.size (.slice a1 L.length c1) L) := OA11.out.kept hb12
    have B812 : Hid (w12.heap[w2.heap.size]? = some (.cells #[.int .i64 R, .int .i64 F, .slice a1 L.length c1] 26)) := (hb12.block w2.heap.size (by omega)).trans B811.out
    have B112 : Hid (w12.heap[w4.heap.size]? = some (.cells #[.int .i64 R, .int .i64 F, .slice a2 L.length c2] 26)) := (hb12.block w4.heap.size (by omega)).trans B111.out
    have HM12 : Hid (OwnH w12 w3.heap.size (.slice a2 L.length c2) (mrksH 1 L.length)) := HM11.out.kept hb12
    clear OA11 B811 B111 HM11 hb12 hbw11
    have HE12 : Env w12 := hE.below hbw12
    go_wp2_with fail
    refine (HI.out _ _ HE12 HT12.out).mono ?_
    rintro e w13 ⟨⟨u3, rfl, ho3⟩, hb13⟩
    obtain ⟨a3, c3, hu3, hc3⟩ := ho3.shape
    subst hu3
    have HR13 : Hid (HstRow w13 (.slice a3 L.length c3) L) := ho3.row
    clear ho3 HT12 HE12
    have hbw13 : Below w0.heap.size w0 w13 := hbw12.trans (hb13.mono hbw12.size)
    have hz13 : w12.heap.size ≤ w13.heap.size := hb13.size
    have OA13 : Hid (OwnH w13 w1.heap.size (.slice a1 L.length c1) L) := OA12.out.kept hb13
    have B813 : Hid (w13.heap[w2.heap.size]? = some (.cells #[.int .i64 R, .int .i64 F, .slice a1 L.length c1] 26)) := (hb13.block w2.heap.size (by omega)).trans B812.out
    have B113 : Hid (w13.heap[w4.heap.size]? = some (.cells #[.int .i64 R, .int .i64 F, .slice a2 L.length c2] 26)) := (hb13.block w4.heap.size (by omega)).trans B112.out
    have HM13 : Hid (OwnH w13 w3.heap.size (.slice a2 L.length c2) (mrksH 1 L.length)) := HM12.out.kept hb13
    clear OA12 B812 B112 HM12 hb13 hbw12
    have hbA : Below w13.heap.size w13 (w13.alloc (.cells #[.int .i64 R, .int .i64 F, .slice a3 L.length c3] 26)) := (Below.refl _ _).alloc (Nat.le_refl _) _
    have hlt13 : w2.heap.size < w13.heap.size := by omega
    obtain ⟨⟨d0, d1, d2⟩, _⟩ := hst_cells B813.out
    go_wp2_with fail
    refine (HEQ.out _ _ _ (HR13.out.kept hbA) (OA13.out.row.kept hbA)).mono ?_
    rintro e w14 ⟨rfl, hb14⟩
    clear d0 d1 d2
    have hbB : Below w13.heap.size w13 w14 := hbA.trans (hb14.mono (by simp))
    clear hb14 hbA HR13
    have hbw14 : Below w0.heap.size w0 w14 := hbw13.trans (hbB.mono hbw13.size)
    have hz14 : w13.heap.size ≤ w14.heap.size := hbB.size
    have OA14 : Hid (OwnH w14 w1.heap.size (.slice a1 L.length c1) L) := OA13.out.kept hbB
    have B814 : Hid (w14.heap[w2.heap.size]? = some (.cells #[.int .i64 R, .int .i64 F, .slice a1 L.length c1] 26)) := (hbB.block w2.heap.size (by omega)).trans B813.out
    have B114 : Hid (w14.heap[w4.heap.size]? = some (.cells #[.int .i64 R, .int .i64 F, .slice a2 L.length c2] 26)) := (hbB.block w4.heap.size (by omega)).trans B113.out
    have HM14 : Hid (OwnH w14 w3.heap.size (.slice a2 L.length c2) (mrksH 1 L.length)) := HM13.out.kept hbB
    clear OA13 B813 B113 HM13 hbB hbw13
    obtain ⟨⟨f0, f1, f2⟩, _⟩ := hst_cells B114.out
    go_wp2_with fail
    refine (HHD.out _ _ _ HM14.out).mono ?_
    rintro e w15 ⟨rfl, hb15⟩
    clear f0 f1 f2
    have hbw15 : Below w0.heap.size w0 w15 := hbw14.trans (hb15.mono hbw14.size)
    have hz15 : w14.heap.size ≤ w15.heap.size := hb15.size
    have OA15 : Hid (OwnH w15 w1.heap.size (.slice a1 L.length c1) L) := OA14.out.kept hb15
    have B815 : Hid (w15.heap[w2.heap.size]? = some (.cells #[.int .i64 R, .int .i64 F, .slice a1 L.length c1] 26)) := (hb15.block w2.heap.size (by omega)).trans B814.out
    have B115 : Hid (w15.heap[w4.heap.size]? = some (.cells #[.int .i64 R, .int .i64 F, .slice a2 L.length c2] 26)) := (hb15.block w4.heap.size (by omega)).trans B114.out
    have HM15 : Hid (OwnH w15 w3.heap.size (.slice a2 L.length c2) (mrksH 1 L.length)) := HM14.out.kept hb15
    clear OA14 B814 B114 HM14 hb15 hbw14
    go_wp2_with fail
    go_ret
    exact ⟨rfl, hbw15⟩

theorem walk (ri fa : Int) (v : Value) (P : List (List UInt8)) (w : World) (_ : -9223372036854775808 ≤ ri ∧ ri ≤ 9223372036854775807) (_ : -9223372036854775808 ≤ fa ∧ fa ≤ 9223372036854775807) (hr : Row w v P) (hp : Hid (∀ x ∈ P, x.length ≤ maxLen)) (hE : Env w) :
    Calls Tryd.prog 3 #[.int .i64 ri, .int .i64 fa, v] w fun e w' => e = .returned (.bool true) ∧ Below w.heap.size w w' :=
  core ri fa v P _ _ _ _ w hr hp hE (fun h => by split <;> simp [newL_length]; omega) (fun hl hx _ W hs => sNewHealth_any ri fa _ P W (hs.row (Nat.le_refl _) (by unfold maxLen; omega)) hl hx) (fun hl hx _ W hW hs => iNewHealth_any ri fa _ P W (hs.row (Nat.le_refl _) (by unfold maxLen; omega)) hx hW)
end Go.Proofs.YtoopfmebpjojiaaDoor.newHealth
