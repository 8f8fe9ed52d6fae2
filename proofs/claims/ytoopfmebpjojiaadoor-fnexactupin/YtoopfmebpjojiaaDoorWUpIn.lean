import Derived.Test.YtoopfmebpjojiaaDoorUpI
import Derived.Test.YtoopfmebpjojiaaDoorLHstM
import Derived.Deep.RegionHeld3
namespace Go.Proofs.YtoopfmebpjojiaaDoor.upIn
open Go.RowKit

theorem row_kpt {a b : World} {T : Nat → Prop} {v : Value} {P : List (List UInt8)} (hr : Row a v P) (h : Kpt a b T) (hne : ∀ g o n c, v = .slice (some ⟨g, o, none⟩) n c → P ≠ [] → ¬ T g) : Row b v P := by
  obtain ⟨x, cap, rfl, h1, h2, h3⟩ := hr
  refine ⟨x, cap, rfl, h1, h2, ?_⟩
  rcases h3 with h3 | ⟨g, o, rfl, hb1, hc⟩
  · exact .inl h3
  · by_cases hp : P = []
    · exact .inl hp
    · exact .inr ⟨g, o, rfl, Nat.lt_of_lt_of_le hb1 h.size, fun j hj => h.cell (hc j hj) (hne g o _ _ rfl hp)⟩
theorem owns_kpt {a b : World} {T : Nat → Prop} {base : Nat} {v : Value} {P : List (List UInt8)} (ho : OwnS a base v P) (h : Kpt a b T) (hne : ∀ g, v.ownBlock = some g → ¬ T g) : OwnS b base v P := by
  rcases ho with ho | ⟨g, cap, rfl, h1, h2, h3, hs⟩
  · exact .inl ho
  · have hb : b.heap[g]? = a.heap[g]? := h.block g hs.1 (hne g rfl)
    refine .inr ⟨g, cap, rfl, h1, h2, h3, Nat.lt_of_lt_of_le hs.1 h.size, fun j hj => ?_⟩
    rw [World.cell?_of_block (a := ⟨g, j, none⟩) hb, World.frozen?_of_block (a := ⟨g, j, none⟩) hb]
    exact hs.2 j hj
theorem owns_lt {w : World} {base : Nat} {v : Value} {L : List (List UInt8)} (h : OwnS w base v L) : ∀ g, v.ownBlock = some g → base ≤ g ∧ g < w.heap.size := by
  rcases h with ⟨rfl, _⟩ | ⟨g, cap, rfl, _, _, hb, hs⟩
  · intro k hk; cases hk
  · intro k hk; cases hk; exact ⟨hb, hs.1⟩
theorem owns_shape {w : World} {base : Nat} {v : Value} {L : List (List UInt8)} (h : OwnS w base v L) : ∃ a cap, v = .slice a L.length cap ∧ cap ≤ maxLen := by
  rcases h with ⟨rfl, rfl⟩ | ⟨g, cap, rfl, _, hm, _, _⟩
  · exact ⟨none, 0, rfl, Nat.zero_le _⟩
  · exact ⟨_, cap, rfl, hm⟩

set_option maxRecDepth 20000 in
set_option maxHeartbeats 16000000 in
theorem core (ri fa : Int) (va : Value) (L : List HosT) (ok : Bool) (N : List (List UInt8)) (w : World) (ha : HstRow w va L) (hxa : Hid (∀ x ∈ L, x.1.length ≤ maxLen)) (hE : Env w) (hNL : N.length ≤ L.length)
    (HS0 : Hid (∀ g W, L.length ≤ 1048576 → Hid (∀ x ∈ L, x.1.length ≤ 1048576) → HoRow W g L → Calls Tryd.prog 32 #[HeaV ri fa (.slice (some ⟨g, 0, none⟩) L.length L.length)] W fun e w' => (∃ u, e = .returned (.tuple #[u, .bool ok]) ∧ Row w' u N) ∧ Below W.heap.size W w'))
    (HI0 : Hid (∀ g W, Env W → L.length ≤ 1048576 → Hid (∀ x ∈ L, x.1.length ≤ 1048576) → HoRow W g L → Calls Tryd.prog 33 #[HeaV ri fa (.slice (some ⟨g, 0, none⟩) L.length L.length)] W fun e w' => (∃ u, e = .returned (.tuple #[u, .bool ok]) ∧ OwnS w' W.heap.size u N) ∧ Below W.heap.size W w')) :
    Calls Tryd.prog 7 #[HeaV ri fa va] w fun e w' => e = .returned (.bool true) ∧ Below w.heap.size w w' := by
  obtain ⟨aa, ca, hva, _, hca, _⟩ := id ha
  have HSZ : Hid (∀ W, Below w.heap.size w W → Calls Tryd.prog 19 #[HeaV ri fa va, .int .i64 1048576] W fun e w' => (∃ q : Int, e = .returned (.int .i64 q) ∧ (q = -1 ∨ (0 ≤ q ∧ q = 1048576 - (L.length : Int) - (wtH L : Int)))) ∧ Below W.heap.size W w') := fun W hW => szHealth_any ri fa va L W (ha.kept hW) hxa
  have HTO : Hid (L.length ≤ 1048576 → ∀ W, Below w.heap.size w W → Calls Tryd.prog 21 #[HeaV ri fa va] W fun e w' => (∃ g, e = .returned (HeaV ri fa (.slice (some ⟨g, 0, none⟩) L.length L.length)) ∧ W.heap.size ≤ g ∧ HoRow w' g L) ∧ Below W.heap.size W w') := fun h1 W hW => toHealth_any ri fa va L W (ha.kept hW) h1
  subst hva
  clear ha
  unfold HeaV at HSZ HTO ⊢
  go_enter Tryd.func7, Tryd.ntmps7
  go_wp2_with fail
  refine (HSZ.out _ ((Below.refl w.heap.size w).alloc (Nat.le_refl _) _)).mono ?_
  rintro e w1 ⟨⟨q, rfl, hq⟩, hb1⟩
  have hbw1 : Below w.heap.size w w1 := ((Below.refl w.heap.size w).alloc (Nat.le_refl _) _).trans (hb1.mono (by simp))
  have HP1 : Hid (w1.heap[w.heap.size]? = some (.cells #[.int .i64 ri, .int .i64 fa, .slice aa L.length ca] 36)) := (hb1.block w.heap.size (by simp)).trans (hst_new _ _)
  have hz1 : w.heap.size < w1.heap.size := Nat.lt_of_lt_of_le (by simp) hb1.size
  clear hb1
  rcases hq with rfl | ⟨hq0, hqe⟩
  · go_wp2_with fail
    go_ret
    exact ⟨rfl, hbw1⟩
  · have hL : L.length ≤ 1048576 := by omega
    have hL2 : ∀ x ∈ L, x.1.length ≤ 1048576 := fun x hxm => by have := wtH_mem hxm; omega
    have HL2 : Hid (∀ x ∈ L, x.1.length ≤ 1048576) := hL2
    have HT : Hid (∀ W, Below w.heap.size w W → Calls Tryd.prog 21 #[(.agg #[.int .i64 ri, .int .i64 fa, .slice aa L.length ca])] W fun e w' => (∃ g, e = .returned ((.agg #[.int .i64 ri, .int .i64 fa, .slice (some ⟨g, 0, none⟩) L.length L.length])) ∧ W.heap.size ≤ g ∧ HoRow w' g L) ∧ Below W.heap.size W w') := HTO.out hL
    have HSP : Hid (∀ g W, HoRow W g L → Calls Tryd.prog 32 #[HeaV ri fa (.slice (some ⟨g, 0, none⟩) L.length L.length)] W fun e w' => (∃ u, e = .returned (.tuple #[u, .bool ok]) ∧ Row w' u N) ∧ Below W.heap.size W w') := fun g W h1 => HS0.out g W hL HL2 h1
    have HI : Hid (∀ g W, Env W → HoRow W g L → Calls Tryd.prog 33 #[HeaV ri fa (.slice (some ⟨g, 0, none⟩) L.length L.length)] W fun e w' => (∃ u, e = .returned (.tuple #[u, .bool ok]) ∧ OwnS w' W.heap.size u N) ∧ Below W.heap.size W w') := fun g W hW h1 => HI0.out g W hW hL HL2 h1
    have HEQ : Hid (∀ g1 g2 W, HoRow W g1 L → HoRow W g2 L → Calls Tryd.prog 14 #[HeaV ri fa (.slice (some ⟨g1, 0, none⟩) L.length L.length), HeaV ri fa (.slice (some ⟨g2, 0, none⟩) L.length L.length)] W fun e w' => e = .returned (.bool true) ∧ Below W.heap.size W w') := fun g1 g2 W h1 h2 => eqHealth_same ri fa _ _ L W (h1.row (Nat.le_refl _) (by unfold maxLen; omega)) (h2.row (Nat.le_refl _) (by unfold maxLen; omega))
    have HMZ : Hid (∀ g base W, base ≤ g → HoRow W g L → Calls Tryd.prog 17 #[HeaV ri fa (.slice (some ⟨g, 0, none⟩) L.length L.length), .int .i64 1] W fun e w' => e = .returned (.int .i64 (1 + 3 * (L.length : Int))) ∧ Kpt W w' (fun k => k = g)) := fun g base W hbg h1 => (markHealth_any ri fa _ L base 1 W (.inr ⟨g, L.length, rfl, Nat.le_refl _, by unfold maxLen; omega, hbg, h1⟩) hL (by omega) (by omega)).mono fun e w' h => ⟨h.1, h.2.2.mono (fun k _ hk => by injection hk with hk; exact hk.symm)⟩
    have HMR : Hid (∀ v base W, OwnS W base v N → Calls Tryd.prog 16 #[v, .int .i64 1] W fun e w' => e = .returned (.int .i64 ((N.length : Int) + 1)) ∧ OwnS w' base v (marks N.length) ∧ W.grownBy w' v.ownBlock) := fun v base W h1 => markStringS_any v N base W h1 (by omega)
    have HHD : Hid (∀ v base W, OwnS W base v (marks N.length) → Calls Tryd.prog 34 #[v, .int .i64 1] W fun e w' => e = .returned (.int .i64 ((N.length : Int) + 1)) ∧ Below W.heap.size W w') := fun v base W h1 => heldStringS_any v N.length W h1.row (by omega)
    have HES : Hid (∀ v1 v2 W, Row W v1 N → Row W v2 N → Calls Tryd.prog 15 #[v1, v2] W fun e w' => e = .returned (.bool true) ∧ Below W.heap.size W w') := fun v1 v2 W h1 h2 => by
      have h := eqStringS_any v1 v2 N N W h1 h2
      rw [show (N == N) = true by simp] at h
      exact h
    obtain ⟨p, hp⟩ : ∃ p : Int, p = (N.length : Int) + 1 := ⟨_, rfl⟩
    rw [← hp] at HMR HHD
    obtain ⟨pz, hpz⟩ : ∃ pz : Int, pz = 1 + 3 * (L.length : Int) := ⟨_, rfl⟩
    rw [← hpz] at HMZ
    have hp0 : decide (p < 0) = false := by simp; omega
    have hpp : (p != p) = false := by simp
    have hz0 : decide (pz < 0) = false := by simp; omega
    have e2 : (ok != ok) = false := by simp
    clear hp hpz
    unfold HeaV at HSP HI HEQ HMZ
    obtain ⟨⟨p0, p1, p2⟩, _⟩ := hst_cells HP1.out
    clear hqe hL2 HTO HI0 HS0 HSZ
    go_wp2_with fail
    refine (HT.out _ hbw1).mono ?_
    rintro e w2 ⟨⟨g1, rfl, hg1, hqa⟩, hb2⟩
    clear p0 p1 p2
    have hbw2 : Below w.heap.size w w2 := hbw1.trans (hb2.mono hbw1.size)
    have HP2 : Hid (w2.heap[w.heap.size]? = some (.cells #[.int .i64 ri, .int .i64 fa, .slice aa L.length ca] 36)) := (hb2.block w.heap.size hz1).trans HP1.out
    have hz2 : w.heap.size < w2.heap.size := Nat.lt_of_lt_of_le hz1 hb2.size
    have HQA : Hid (HoRow w2 g1 L) := hqa
    clear hqa hg1 hb2 HP1 hbw1
    go_wp2_with fail
    refine (HSP.out g1 _ HQA.out).mono ?_
    rintro e w3 ⟨⟨u0, rfl, hr0⟩, hb3⟩
    have hbw3 : Below w.heap.size w w3 := hbw2.trans (hb3.mono hbw2.size)
    have HP3 : Hid (w3.heap[w.heap.size]? = some (.cells #[.int .i64 ri, .int .i64 fa, .slice aa L.length ca] 36)) := (hb3.block w.heap.size hz2).trans HP2.out
    have hz3 : w.heap.size < w3.heap.size := Nat.lt_of_lt_of_le hz2 hb3.size
    obtain ⟨a0, k0, hu0, _, hk0, hrow0⟩ := id hr0
    have HBL0 : Hid (∀ g o n c, u0 = .slice (some ⟨g, o, none⟩) n c → N ≠ [] → g < w3.heap.size) := fun g o n c he hne => by
      rcases hrow0 with h | ⟨b, o', hb', hbl, _⟩
      · exact absurd h hne
      · rw [hu0, hb'] at he; injection he with he _ _; injection he with he; injection he with he; omega
    have HR0 : Hid (Row w3 u0 N) := hr0
    subst hu0
    obtain ⟨⟨p0, p1, p2⟩, _⟩ := hst_cells HP3.out
    clear HQA hb3 HP2 hbw2 hr0 hrow0
    go_wp2_with fail
    refine (HT.out _ hbw3).mono ?_
    rintro e w4 ⟨⟨g3, rfl, hg3, hqa⟩, hb4⟩
    clear p0 p1 p2
    have hbw4 : Below w.heap.size w w4 := hbw3.trans (hb4.mono hbw3.size)
    have HP4 : Hid (w4.heap[w.heap.size]? = some (.cells #[.int .i64 ri, .int .i64 fa, .slice aa L.length ca] 36)) := (hb4.block w.heap.size hz3).trans HP3.out
    have hz4 : w.heap.size < w4.heap.size := Nat.lt_of_lt_of_le hz3 hb4.size
    have hz34 : w3.heap.size ≤ w4.heap.size := hb4.size
    have HQ4 : Hid (HoRow w4 g3 L) := hqa
    have hg3l : g3 < w4.heap.size := hqa.1
    have HR4 : Hid (Row w4 (.slice a0 N.length k0) N) := HR0.out.kept hb4
    have hbA : Below w4.heap.size w4 (w4.alloc (.cells #[.int .i64 ri, .int .i64 fa, .slice (some ⟨g3, 0, none⟩) L.length L.length] 26)) := (Below.refl _ _).alloc (Nat.le_refl _) _
    clear hqa hb4 HP3 hbw3
    go_wp2_with fail
    refine (HI.out g3 _ (hE.below (hbw4.alloc hbw4.size _)) (HQ4.out.kept hbA)).mono ?_
    rintro e w5 ⟨⟨u1, rfl, ho1⟩, hb5⟩
    obtain ⟨a1, k1, hu1, hk1⟩ := owns_shape ho1
    subst hu1
    have hb45 : Below w4.heap.size w4 w5 := hbA.trans (hb5.mono (by simp))
    have hbw5 : Below w.heap.size w w5 := hbw4.trans (hb45.mono hbw4.size)
    have hz45 : w4.heap.size < w5.heap.size := Nat.lt_of_lt_of_le (by simp) hb5.size
    have HX5 : Hid (w5.heap[w4.heap.size]? = some (.cells #[.int .i64 ri, .int .i64 fa, .slice (some ⟨g3, 0, none⟩) L.length L.length] 26)) := (hb5.block w4.heap.size (by simp)).trans (hst_new _ _)
    have HP5 : Hid (w5.heap[w.heap.size]? = some (.cells #[.int .i64 ri, .int .i64 fa, .slice aa L.length ca] 36)) := (hb45.block w.heap.size hz4).trans HP4.out
    have HO5 : Hid (OwnS w5 (w4.heap.size + 1) (.slice a1 N.length k1) N) := by
      have h : OwnS w5 (w4.heap.size + 1) (.slice a1 N.length k1) N := by simpa using ho1
      exact h
    have HLT : Hid (∀ g, (Value.slice a1 N.length k1).ownBlock = some g → w4.heap.size + 1 ≤ g ∧ g < w5.heap.size) := owns_lt HO5.out
    have HR5 : Hid (Row w5 (.slice a0 N.length k0) N) := HR4.out.kept hb45
    have HQ5 : Hid (HoRow w5 g3 L) := HQ4.out.kept hb45
    clear ho1 hb5 hb45 HP4 HQ4 HR4 hbw4 hbA
    go_wp2_with fail
    refine (HES.out _ _ _ HO5.out.row HR5.out).mono ?_
    rintro e w6 ⟨rfl, hb6⟩
    have hbw6 : Below w.heap.size w w6 := hbw5.trans (hb6.mono hbw5.size)
    have hz6 : w5.heap.size ≤ w6.heap.size := hb6.size
    have HP6 : Hid (w6.heap[w.heap.size]? = some (.cells #[.int .i64 ri, .int .i64 fa, .slice aa L.length ca] 36)) := (hb6.block w.heap.size (by omega)).trans HP5.out
    have HX6 : Hid (w6.heap[w4.heap.size]? = some (.cells #[.int .i64 ri, .int .i64 fa, .slice (some ⟨g3, 0, none⟩) L.length L.length] 26)) := (hb6.block w4.heap.size (by omega)).trans HX5.out
    have HO6 : Hid (OwnS w6 (w4.heap.size + 1) (.slice a1 N.length k1) N) := HO5.out.kept hb6
    have HR6 : Hid (Row w6 (.slice a0 N.length k0) N) := HR5.out.kept hb6
    have HQ6 : Hid (HoRow w6 g3 L) := HQ5.out.kept hb6
    clear hb6 HP5 HX5 HO5 HR5 HQ5
    have HC : Hid (∀ W, Below w6.heap.size w6 W → (W.cell? ⟨w.heap.size, 0, none⟩ = some (.int .i64 ri) ∧ W.cell? ⟨w.heap.size, 1, none⟩ = some (.int .i64 fa) ∧ W.cell? ⟨w.heap.size, 2, none⟩ = some (.slice aa L.length ca)) ∧ (W.cell? ⟨w4.heap.size, 0, none⟩ = some (.int .i64 ri) ∧ W.cell? ⟨w4.heap.size, 1, none⟩ = some (.int .i64 fa) ∧ W.cell? ⟨w4.heap.size, 2, none⟩ = some (.slice (some ⟨g3, 0, none⟩) L.length L.length)) ∧ Below w6.heap.size w6 W) := fun W hW =>
      ⟨(hst_cells ((hW.block w.heap.size (by omega)).trans HP6.out)).1, (hst_cells ((hW.block w4.heap.size (by omega)).trans HX6.out)).1, hW⟩
    have HT6 : Hid (∀ W, Below w6.heap.size w6 W → Calls Tryd.prog 21 #[(.agg #[.int .i64 ri, .int .i64 fa, .slice aa L.length ca])] W fun e w' => (∃ g, e = .returned ((.agg #[.int .i64 ri, .int .i64 fa, .slice (some ⟨g, 0, none⟩) L.length L.length])) ∧ W.heap.size ≤ g ∧ HoRow w' g L) ∧ Below W.heap.size W w') := fun W hW => HT.out W (hbw6.trans (hW.mono hbw6.size))
    have HEQ6 : Hid (∀ g W, Below w6.heap.size w6 W → HoRow W g L → Calls Tryd.prog 14 #[(.agg #[.int .i64 ri, .int .i64 fa, .slice (some ⟨g3, 0, none⟩) L.length L.length]), (.agg #[.int .i64 ri, .int .i64 fa, .slice (some ⟨g, 0, none⟩) L.length L.length])] W fun e w' => e = .returned (.bool true) ∧ Below W.heap.size W w') := fun g W hW h1 => HEQ.out g3 g W (HQ6.out.kept hW) h1
    have HTRN : Hid (∀ W W', Below w6.heap.size w6 W → Below W.heap.size W W' → Below w6.heap.size w6 W') := fun W W' h1 h2 => h1.trans (h2.mono h1.size)
    have hbz : Below w6.heap.size w6 w6 := Below.refl _ _
    have hbd : Below w6.heap.size w6 w6.drew := (Below.refl _ _).drew
    go_wp2_with fail
    go_region_held3 (fun W => (W.cell? ⟨w.heap.size, 0, none⟩ = some (.int .i64 ri) ∧ W.cell? ⟨w.heap.size, 1, none⟩ = some (.int .i64 fa) ∧ W.cell? ⟨w.heap.size, 2, none⟩ = some (.slice aa L.length ca)) ∧ (W.cell? ⟨w4.heap.size, 0, none⟩ = some (.int .i64 ri) ∧ W.cell? ⟨w4.heap.size, 1, none⟩ = some (.int .i64 fa) ∧ W.cell? ⟨w4.heap.size, 2, none⟩ = some (.slice (some ⟨g3, 0, none⟩) L.length L.length)) ∧ Below w6.heap.size w6 W) (first | exact HC.out _ (by assumption) | exact HC.out _ (Below.drew (by assumption)))
      (first
      | (go_at_call 21; refine (HT6.out _ (by assumption)).mono ?_; rintro e w7 ⟨⟨g5, rfl, _, hqa6⟩, hb7⟩; have hb67 := HTRN.out _ _ (by assumption) hb7)
      | (go_at_call 14; refine (HEQ6.out _ _ (by assumption) (by assumption)).mono ?_; rintro e w8 ⟨rfl, hb8⟩; have hb68 := HTRN.out _ _ (by assumption) hb8))
    clear hb8 HC HT6 HEQ6 HTRN hbz hbd
    (try clear hb7 hb67 hqa6)
    have hbw8 : Below w.heap.size w w8 := hbw6.trans (hb68.mono hbw6.size)
    have hz8 : w6.heap.size ≤ w8.heap.size := hb68.size
    have HP8 : Hid (w8.heap[w.heap.size]? = some (.cells #[.int .i64 ri, .int .i64 fa, .slice aa L.length ca] 36)) := (hb68.block w.heap.size (by omega)).trans HP6.out
    have HX8 : Hid (w8.heap[w4.heap.size]? = some (.cells #[.int .i64 ri, .int .i64 fa, .slice (some ⟨g3, 0, none⟩) L.length L.length] 26)) := (hb68.block w4.heap.size (by omega)).trans HX6.out
    have HO8 : Hid (OwnS w8 (w4.heap.size + 1) (.slice a1 N.length k1) N) := HO6.out.kept hb68
    have HR8 : Hid (Row w8 (.slice a0 N.length k0) N) := HR6.out.kept hb68
    have HQ8 : Hid (HoRow w8 g3 L) := HQ6.out.kept hb68
    clear hb68 HP6 HX6 HO6 HR6 HQ6
    obtain ⟨⟨x0, x1, x2⟩, _⟩ := hst_cells HX8.out
    go_wp2_with fail
    refine (HMZ.out g3 w3.heap.size _ hg3 HQ8.out).mono ?_
    rintro e w9 ⟨rfl, hk9⟩
    clear x0 x1 x2
    have hz9 : w8.heap.size ≤ w9.heap.size := hk9.size
    have hbw9 : Below w.heap.size w w9 := hbw8.trans (hk9.below hbw8.size (fun k hk h => by omega))
    have HP9 : Hid (w9.heap[w.heap.size]? = some (.cells #[.int .i64 ri, .int .i64 fa, .slice aa L.length ca] 36)) := (hk9.block w.heap.size (by omega) (fun h => by omega)).trans HP8.out
    have HO9 : Hid (OwnS w9 (w4.heap.size + 1) (.slice a1 N.length k1) N) := owns_kpt HO8.out hk9 (fun g hg h => by have h1 := HLT.out g hg; omega)
    have HR9 : Hid (Row w9 (.slice a0 N.length k0) N) := row_kpt HR8.out hk9 (fun g o n c he hne h => by have h1 := HBL0.out g o n c he hne; omega)
    clear hk9 HP8 HO8 HR8 HX8 HQ8
    go_wp2_with fail
    refine (HES.out _ _ _ HO9.out.row HR9.out).mono ?_
    rintro e w10 ⟨rfl, hb10⟩
    have hbw10 : Below w.heap.size w w10 := hbw9.trans (hb10.mono hbw9.size)
    have hz10 : w9.heap.size ≤ w10.heap.size := hb10.size
    have HP10 : Hid (w10.heap[w.heap.size]? = some (.cells #[.int .i64 ri, .int .i64 fa, .slice aa L.length ca] 36)) := (hb10.block w.heap.size (by omega)).trans HP9.out
    have HO10 : Hid (OwnS w10 (w4.heap.size + 1) (.slice a1 N.length k1) N) := HO9.out.kept hb10
    have HR10 : Hid (Row w10 (.slice a0 N.length k0) N) := HR9.out.kept hb10
    clear hb10 HP9 HO9 HR9
    go_wp2_with fail
    refine (HMR.out _ _ _ HO10.out).mono ?_
    rintro e w11 ⟨rfl, ho11, hg11⟩
    have hk11 := grown_kpt hg11
    have HM11 : Hid (OwnS w11 (w4.heap.size + 1) (.slice a1 N.length k1) (marks N.length)) := ho11
    clear ho11 hg11
    have hz11 : w10.heap.size ≤ w11.heap.size := hk11.size
    have hbw11 : Below w.heap.size w w11 := hbw10.trans (hk11.below hbw10.size (fun k hk h => by have h2 := HLT.out _ h; omega))
    have HP11 : Hid (w11.heap[w.heap.size]? = some (.cells #[.int .i64 ri, .int .i64 fa, .slice aa L.length ca] 36)) := (hk11.block w.heap.size (by omega) (fun h => by have h2 := HLT.out _ h; omega)).trans HP10.out
    have HR11 : Hid (Row w11 (.slice a0 N.length k0) N) := row_kpt HR10.out hk11 (fun g o n c he hne h => by have h1 := HBL0.out g o n c he hne; have h2 := HLT.out _ h; omega)
    clear hk11 HP10 HR10 HO10
    go_wp2_with fail
    refine (HHD.out _ _ _ HM11.out).mono ?_
    rintro e w12 ⟨rfl, hb12⟩
    have hbw12 : Below w.heap.size w w12 := hbw11.trans (hb12.mono hbw11.size)
    have hz12 : w11.heap.size ≤ w12.heap.size := hb12.size
    have HP12 : Hid (w12.heap[w.heap.size]? = some (.cells #[.int .i64 ri, .int .i64 fa, .slice aa L.length ca] 36)) := (hb12.block w.heap.size (by omega)).trans HP11.out
    have HM12 : Hid (OwnS w12 (w4.heap.size + 1) (.slice a1 N.length k1) (marks N.length)) := HM11.out.kept hb12
    have HR12 : Hid (Row w12 (.slice a0 N.length k0) N) := HR11.out.kept hb12
    clear hb12 HP11 HM11 HR11
    obtain ⟨⟨p0, p1, p2⟩, _⟩ := hst_cells HP12.out
    go_wp2_with fail
    refine (HT.out _ hbw12).mono ?_
    rintro e w13 ⟨⟨g7, rfl, hg7, hqa⟩, hb13⟩
    clear p0 p1 p2
    have HQ13 : Hid (HoRow w13 g7 L) := hqa
    clear hqa hg7
    have hbw13 : Below w.heap.size w w13 := hbw12.trans (hb13.mono hbw12.size)
    have hz13 : w12.heap.size ≤ w13.heap.size := hb13.size
    have HP13 : Hid (w13.heap[w.heap.size]? = some (.cells #[.int .i64 ri, .int .i64 fa, .slice aa L.length ca] 36)) := (hb13.block w.heap.size (by omega)).trans HP12.out
    have HM13 : Hid (OwnS w13 (w4.heap.size + 1) (.slice a1 N.length k1) (marks N.length)) := HM12.out.kept hb13
    have HR13 : Hid (Row w13 (.slice a0 N.length k0) N) := HR12.out.kept hb13
    clear hb13 HP12 HM12 HR12
    go_wp2_with fail
    refine (HI.out g7 _ (hE.below hbw13) HQ13.out).mono ?_
    rintro e w14 ⟨⟨u2, rfl, ho2⟩, hb14⟩
    obtain ⟨a2, k2, hu2, hk2⟩ := owns_shape ho2
    subst hu2
    have HRR2 : Hid (Row w14 (.slice a2 N.length k2) N) := ho2.row
    clear ho2 HQ13
    have hbw14 : Below w.heap.size w w14 := hbw13.trans (hb14.mono hbw13.size)
    have hz14 : w13.heap.size ≤ w14.heap.size := hb14.size
    have HP14 : Hid (w14.heap[w.heap.size]? = some (.cells #[.int .i64 ri, .int .i64 fa, .slice aa L.length ca] 36)) := (hb14.block w.heap.size (by omega)).trans HP13.out
    have HM14 : Hid (OwnS w14 (w4.heap.size + 1) (.slice a1 N.length k1) (marks N.length)) := HM13.out.kept hb14
    have HR14 : Hid (Row w14 (.slice a0 N.length k0) N) := HR13.out.kept hb14
    clear hb14 HP13 HM13 HR13
    go_wp2_with fail
    refine (HES.out _ _ _ HRR2.out HR14.out).mono ?_
    rintro e w15 ⟨rfl, hb15⟩
    have hbw15 : Below w.heap.size w w15 := hbw14.trans (hb15.mono hbw14.size)
    have hz15 : w14.heap.size ≤ w15.heap.size := hb15.size
    have HP15 : Hid (w15.heap[w.heap.size]? = some (.cells #[.int .i64 ri, .int .i64 fa, .slice aa L.length ca] 36)) := (hb15.block w.heap.size (by omega)).trans HP14.out
    have HM15 : Hid (OwnS w15 (w4.heap.size + 1) (.slice a1 N.length k1) (marks N.length)) := HM14.out.kept hb15
    have HR15 : Hid (Row w15 (.slice a0 N.length k0) N) := HR14.out.kept hb15
    clear hb15 HP14 HM14 HR14
    go_wp2_with fail
    refine (HHD.out _ _ _ HM15.out).mono ?_
    rintro e w16 ⟨rfl, hb16⟩
    have hbw16 : Below w.heap.size w w16 := hbw15.trans (hb16.mono hbw15.size)
    go_wp2_with fail
    go_ret
    exact ⟨rfl, hbw16⟩

theorem walk (ri fa : Int) (va : Value) (L : List HosT) (w : World) (ha : HstRow w va L) (hxa : Hid (∀ x ∈ L, x.1.length ≤ maxLen)) (hE : Env w) :
    Calls Tryd.prog 7 #[HeaV ri fa va] w fun e w' => e = .returned (.bool true) ∧ Below w.heap.size w w' :=
  core ri fa va L _ _ w ha hxa hE (upT_length ri fa L) (fun _ W h2 h3 q => (sUpIn_any ri fa _ L W (q.row1 h2) h2 h3).mono fun _ _ ⟨⟨u, e, ho⟩, hb⟩ => ⟨⟨u, e, ho.row⟩, hb⟩) (fun _ W hW h2 h3 q => iUpIn_any ri fa _ L W (q.row1 h2) h2 h3 hW)
end Go.Proofs.YtoopfmebpjojiaaDoor.upIn
