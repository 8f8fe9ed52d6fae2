import Derived.Test.YtgfldenhhogpbaaGreatDoorZ35
import Derived.Test.YtgfldenhhogpbaaGreatDoorZ49
import Derived.Test.YtgfldenhhogpbaaGreatDoorZ50
import Derived.Deep.RegionHeld3
namespace Go.Proofs.YtgfldenhhogpbaaGreatDoor.isDelegated
open Go.RowKit

/-- Zones in a block of the call's own. -/
def ZQR (w : World) (g : Nat) (L : List ZonT) : Prop := ∃ T, ZnOwn w g T L
theorem ZQR.kept {w w' : World} {g : Nat} {L : List ZonT} (h : ZQR w g L) (hb : Below w.heap.size w w') : ZQR w' g L := by
  obtain ⟨T, hT⟩ := h; exact ⟨T, hT.kept hb⟩
theorem ZQR.row {w : World} {g : Nat} {L : List ZonT} (h : ZQR w g L) (hx : ∀ x ∈ L, ZBig x) (hl : L.length ≤ 1048576) : ZnRow w (.slice (some ⟨g, 0, none⟩) L.length L.length) L := by
  obtain ⟨T, hT⟩ := h; exact hT.row (fun x hx2 => (hx x hx2).2.1) (Nat.le_refl _) (by unfold maxLen; omega)

set_option maxRecDepth 20000 in
set_option maxHeartbeats 8000000 in
theorem core (va : Value) (L : List ZonT) (n : ByteArray) (nn : Bool) (ok : Bool) (w : World) (ha : ZnRow w va L) (hxa : Hid (∀ x ∈ L, ZFit x)) (hE : EnvZ w) (hnn : n.size ≤ 1048576)
    (HS0 : Hid (∀ g W, L.length ≤ 1048576 → Hid (∀ x ∈ L, ZBig x) → ZQR W g L → Calls Tryz.prog 21 #[.agg #[.slice (some ⟨g, 0, none⟩) L.length L.length], .string n] W fun e w' => e = .returned (.tuple #[.bool nn, .bool ok]) ∧ Below W.heap.size W w'))
    (HI0 : Hid (∀ g W, EnvZ W → L.length ≤ 1048576 → Hid (∀ x ∈ L, ZBig x) → ZQR W g L → Calls Tryz.prog 22 #[.agg #[.slice (some ⟨g, 0, none⟩) L.length L.length], .string n] W fun e w' => e = .returned (.tuple #[.bool nn, .bool ok]) ∧ Below W.heap.size W w')) :
    Calls Tryz.prog 6 #[WldV va, .string n] w fun e w' => e = .returned (.bool true) ∧ Below w.heap.size w w' := by
  obtain ⟨aa, ca, hva, _, hca, _⟩ := id ha
  have gN : ¬ (1048576 : Int) < (n.size : Int) := by omega
  have HSZ : Hid (∀ W, Below w.heap.size w W → Calls Tryz.prog 8 #[WldV va, .int .i64 1048576] W fun e w' => (∃ q : Int, e = .returned (.int .i64 q) ∧ (q = -1 ∨ (0 ≤ q ∧ q = 1048576 - (L.length : Int) - (wtZ L : Int)))) ∧ Below W.heap.size W w') := fun W hW => szWorld_any va L 1048576 W (ha.kept hW) hxa (by omega) (by omega)
  have HTO : Hid (L.length ≤ 1048576 → Hid (∀ x ∈ L, ZBig x) → ∀ W, Below w.heap.size w W → Calls Tryz.prog 10 #[WldV va] W fun e w' => (∃ g, e = .returned (WldV (.slice (some ⟨g, 0, none⟩) L.length L.length)) ∧ W.heap.size ≤ g ∧ ZQR w' g L) ∧ Below W.heap.size W w') := fun h1 h2 W hW => (toWorld_any va L W (ha.kept hW) h1 h2).mono fun e w' ⟨⟨g, T, e1, e2, e3⟩, e4⟩ => ⟨⟨g, e1, e2, T, e3⟩, e4⟩
  subst hva
  clear ha
  unfold WldV at HSZ HTO ⊢
  go_enter Tryz.func6, Tryz.ntmps6
  go_wp2_with fail
  refine (HSZ.out _ ((Below.refl w.heap.size w).alloc (Nat.le_refl _) _)).mono ?_
  rintro e w1 ⟨⟨q, rfl, hq⟩, hb1⟩
  have hbw1 : Below w.heap.size w w1 := ((Below.refl w.heap.size w).alloc (Nat.le_refl _) _).trans (hb1.mono (by simp))
  have HP1 : Hid (w1.heap[w.heap.size]? = some (.cells #[.slice aa L.length ca] 24)) := (hb1.block w.heap.size (by simp)).trans (blk_new _ _)
  have hz1 : w.heap.size < w1.heap.size := Nat.lt_of_lt_of_le (by simp) hb1.size
  clear hb1
  rcases hq with rfl | ⟨hq0, hqe⟩
  · go_wp2_with fail
    go_ret
    exact ⟨rfl, hbw1⟩
  · obtain ⟨hL, hL2⟩ := sz_world hq0 hqe
    have HL2 : Hid (∀ x ∈ L, ZBig x) := hL2
    have HT : Hid (∀ W, Below w.heap.size w W → Calls Tryz.prog 10 #[.agg #[.slice aa L.length ca]] W fun e w' => (∃ g, e = .returned (.agg #[.slice (some ⟨g, 0, none⟩) L.length L.length]) ∧ W.heap.size ≤ g ∧ ZQR w' g L) ∧ Below W.heap.size W w') := HTO.out hL HL2
    have HSP : Hid (∀ g W, ZQR W g L → Calls Tryz.prog 21 #[.agg #[.slice (some ⟨g, 0, none⟩) L.length L.length], .string n] W fun e w' => e = .returned (.tuple #[.bool nn, .bool ok]) ∧ Below W.heap.size W w') := fun g W h1 => HS0.out g W hL HL2 h1
    have HI : Hid (∀ g W, EnvZ W → ZQR W g L → Calls Tryz.prog 22 #[.agg #[.slice (some ⟨g, 0, none⟩) L.length L.length], .string n] W fun e w' => e = .returned (.tuple #[.bool nn, .bool ok]) ∧ Below W.heap.size W w') := fun g W hW h1 => HI0.out g W hW hL HL2 h1
    have HEQ : Hid (∀ g1 g2 W, ZQR W g1 L → ZQR W g2 L → Calls Tryz.prog 12 #[.agg #[.slice (some ⟨g1, 0, none⟩) L.length L.length], .agg #[.slice (some ⟨g2, 0, none⟩) L.length L.length]] W fun e w' => e = .returned (.bool true) ∧ Below W.heap.size W w') := fun g1 g2 W h1 h2 => eqWorld_same _ _ L W (h1.row HL2.out hL) (h2.row HL2.out hL)
    have e1 : (nn != nn) = false := by simp
    have e2 : (ok != ok) = false := by simp
    have p0 := wld_cell HP1.out
    clear hqe hL2 HTO HI0 HS0 HSZ
    go_wp2_with fail
    refine (HT.out _ hbw1).mono ?_
    rintro e w2 ⟨⟨g1, rfl, hg1, hqa⟩, hb2⟩
    clear p0
    have hbw2 : Below w.heap.size w w2 := hbw1.trans (hb2.mono hbw1.size)
    have HP2 : Hid (w2.heap[w.heap.size]? = some (.cells #[.slice aa L.length ca] 24)) := (hb2.block w.heap.size hz1).trans HP1.out
    have hz2 : w.heap.size < w2.heap.size := Nat.lt_of_lt_of_le hz1 hb2.size
    have HQA : Hid (ZQR w2 g1 L) := hqa
    clear hqa hg1 hb2 HP1 hbw1
    go_wp2_with fail
    refine (HSP.out g1 _ HQA.out).mono ?_
    rintro e w3 ⟨rfl, hb3⟩
    have hbw3 : Below w.heap.size w w3 := hbw2.trans (hb3.mono hbw2.size)
    have HP3 : Hid (w3.heap[w.heap.size]? = some (.cells #[.slice aa L.length ca] 24)) := (hb3.block w.heap.size hz2).trans HP2.out
    have hz3 : w.heap.size < w3.heap.size := Nat.lt_of_lt_of_le hz2 hb3.size
    have p0 := wld_cell HP3.out
    clear HQA hb3 HP2 hbw2
    go_wp2_with fail
    refine (HT.out _ hbw3).mono ?_
    rintro e w4 ⟨⟨g3, rfl, hg3, hqa⟩, hb4⟩
    clear p0
    have hbw4 : Below w.heap.size w w4 := hbw3.trans (hb4.mono hbw3.size)
    have HP4 : Hid (w4.heap[w.heap.size]? = some (.cells #[.slice aa L.length ca] 24)) := (hb4.block w.heap.size hz3).trans HP3.out
    have hz4 : w.heap.size < w4.heap.size := Nat.lt_of_lt_of_le hz3 hb4.size
    have HQA : Hid (ZQR w4 g3 L) := hqa
    clear hqa hg3 hb4 HP3 hbw3
    go_wp2_with fail
    refine (HI.out g3 _ (hE.below (hbw4.alloc hbw4.size _)) (HQA.out.kept ((Below.refl w4.heap.size w4).alloc (Nat.le_refl _) _))).mono ?_
    rintro e w5 ⟨rfl, hb5⟩
    have hb45 : Below w4.heap.size w4 w5 := ((Below.refl w4.heap.size w4).alloc (Nat.le_refl _) _).trans (hb5.mono (by simp))
    have hbw5 : Below w.heap.size w w5 := hbw4.trans (hb45.mono hbw4.size)
    have hz5 : w.heap.size < w5.heap.size := Nat.lt_of_lt_of_le hz4 hb45.size
    have hz45 : w4.heap.size < w5.heap.size := Nat.lt_of_lt_of_le (by simp) hb5.size
    have HC : Hid (∀ W, Below w5.heap.size w5 W → (W.cell? ⟨w.heap.size, 0, none⟩ = some (.slice aa L.length ca)) ∧ (W.cell? ⟨w4.heap.size, 0, none⟩ = some (.slice (some ⟨g3, 0, none⟩) L.length L.length)) ∧ Below w5.heap.size w5 W) := fun W hW =>
      ⟨wld_cell ((hW.block w.heap.size hz5).trans ((hb45.block w.heap.size hz4).trans HP4.out)), wld_cell ((hW.block w4.heap.size hz45).trans ((hb5.block w4.heap.size (by simp)).trans (blk_new _ _))), hW⟩
    have HT5 : Hid (∀ W, Below w5.heap.size w5 W → Calls Tryz.prog 10 #[.agg #[.slice aa L.length ca]] W fun e w' => (∃ g, e = .returned (.agg #[.slice (some ⟨g, 0, none⟩) L.length L.length]) ∧ W.heap.size ≤ g ∧ ZQR w' g L) ∧ Below W.heap.size W w') := fun W hW => HT.out W (hbw5.trans (hW.mono hbw5.size))
    have HEQ5 : Hid (∀ g W, Below w5.heap.size w5 W → ZQR W g L → Calls Tryz.prog 12 #[.agg #[.slice (some ⟨g3, 0, none⟩) L.length L.length], .agg #[.slice (some ⟨g, 0, none⟩) L.length L.length]] W fun e w' => e = .returned (.bool true) ∧ Below W.heap.size W w') := fun g W hW h1 => HEQ.out g3 g W ((HQA.out.kept hb45).kept hW) h1
    have HTR : Hid (∀ W W', Below w5.heap.size w5 W → Below W.heap.size W W' → Below w5.heap.size w5 W') := fun W W' h1 h2 => h1.trans (h2.mono h1.size)
    have hbz : Below w5.heap.size w5 w5 := Below.refl _ _
    have hbd : Below w5.heap.size w5 w5.drew := (Below.refl _ _).drew
    clear hb5 hb45 hbw4 HP4 HQA HT HI HSP HEQ
    go_wp2_with fail
    go_region_held3 (fun W => (W.cell? ⟨w.heap.size, 0, none⟩ = some (.slice aa L.length ca)) ∧ (W.cell? ⟨w4.heap.size, 0, none⟩ = some (.slice (some ⟨g3, 0, none⟩) L.length L.length)) ∧ Below w5.heap.size w5 W) (first | exact HC.out _ (by assumption) | exact HC.out _ (Below.drew (by assumption)))
      (first
      | (go_at_call 10; refine (HT5.out _ (by assumption)).mono ?_; rintro e w6 ⟨⟨g5, rfl, _, hqa6⟩, hb6⟩; have hb56 := HTR.out _ _ (by assumption) hb6)
      | (go_at_call 12; refine (HEQ5.out _ _ (by assumption) (by assumption)).mono ?_; rintro e w7 ⟨rfl, hb7⟩; have hb57 := HTR.out _ _ (by assumption) hb7))
    have hbw7 := hbw5.trans (hb57.mono hbw5.size)
    go_wp2_with fail
    go_ret
    exact ⟨rfl, hbw7⟩

set_option maxRecDepth 20000 in
set_option maxHeartbeats 1000000 in
theorem walk (va : Value) (L : List ZonT) (n : ByteArray) (w : World) (ha : ZnRow w va L) (hxa : Hid (∀ x ∈ L, ZFit x)) (hs : n.size ≤ maxLen) (hE : EnvZ w) :
    Calls Tryz.prog 6 #[WldV va, .string n] w fun e w' => e = .returned (.bool true) ∧ Below w.heap.size w w' := by
  have hs2 := hs
  unfold maxLen at hs2
  by_cases h : (1048576 : Int) < (n.size : Int)
  · obtain ⟨aa, ca, rfl, _⟩ := id ha
    unfold WldV
    go_enter Tryz.func6, Tryz.ntmps6
    go_wp2_with fail
    go_ret
    exact ⟨rfl, (Below.refl w.heap.size w).alloc (Nat.le_refl _) _⟩
  · have hnn : n.size ≤ 1048576 := by omega
    exact core va L n _ _ w ha hxa hE hnn (fun _ W h1 h2 q => sIsDelegated_any _ L n W (q.row h2.out h1) h2 hnn h1) (fun _ W hW h1 h2 q => iIsDelegated_any _ L n W (q.row h2.out h1) h2 hnn hW h1)
end Go.Proofs.YtgfldenhhogpbaaGreatDoor.isDelegated
