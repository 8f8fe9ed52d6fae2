import Derived.Test.YtpkceelmnfgdkaaGreatDoorZ49
import Derived.Test.YtpkceelmnfgdkaaGreatDoorZ44
import Derived.Deep.RegionHeld3
namespace Go.Proofs.YtpkceelmnfgdkaaGreatDoor.cutAbove
open Go.RowKit

set_option maxRecDepth 20000 in
set_option maxHeartbeats 8000000 in
theorem core (nm : ByteArray) (ct : Int) (va : Value) (L : List (List UInt8 × Int × Int × List UInt8)) (n : ByteArray) (t : List UInt8) (ok : Bool) (w : World) (hn : nm.size ≤ maxLen) (ha : RRow w va L) (hxa : Hid (∀ x ∈ L, x.1.length ≤ maxLen ∧ x.2.2.2.length ≤ maxLen)) (hE : EnvZ w) (hnn : n.size ≤ 1048576)
    (HS0 : Hid (∀ g W, nm.size ≤ 1048576 → L.length ≤ 1048576 → Hid (∀ x ∈ L, x.1.length ≤ 1048576 ∧ x.2.2.2.length ≤ 1048576) → QRow W g L → Calls Tryz.prog 11 #[ZonV nm ct (.slice (some ⟨g, 0, none⟩) L.length L.length), .string n] W fun e w' => e = .returned (.tuple #[.string ⟨t.toArray⟩, .bool ok]) ∧ Below W.heap.size W w'))
    (HI0 : Hid (∀ g W, EnvZ W → nm.size ≤ 1048576 → L.length ≤ 1048576 → Hid (∀ x ∈ L, x.1.length ≤ 1048576 ∧ x.2.2.2.length ≤ 1048576) → QRow W g L → Calls Tryz.prog 12 #[ZonV nm ct (.slice (some ⟨g, 0, none⟩) L.length L.length), .string n] W fun e w' => e = .returned (.tuple #[.string ⟨t.toArray⟩, .bool ok]) ∧ Below W.heap.size W w')) :
    Calls Tryz.prog 4 #[ZonV nm ct va, .string n] w fun e w' => e = .returned (.bool true) ∧ Below w.heap.size w w' := by
  obtain ⟨aa, ca, hva, _, hca, _⟩ := id ha
  have gN : ¬ (1048576 : Int) < (n.size : Int) := by omega
  have HSZ : Hid (∀ W, Below w.heap.size w W → Calls Tryz.prog 6 #[ZonV nm ct va, .int .i64 1048576] W fun e w' => (∃ q : Int, e = .returned (.int .i64 q) ∧ (q = -1 ∨ (0 ≤ q ∧ q = 1048576 - (nm.size : Int) - (L.length : Int) - (wtR L : Int)))) ∧ Below W.heap.size W w') := fun W hW => szZone_any nm ct va L 1048576 W hn (ha.kept hW) hxa (by omega) (by omega)
  have HTO : Hid (L.length ≤ 1048576 → ∀ W, Below w.heap.size w W → Calls Tryz.prog 8 #[ZonV nm ct va] W fun e w' => (∃ g, e = .returned (ZonV nm ct (.slice (some ⟨g, 0, none⟩) L.length L.length)) ∧ W.heap.size ≤ g ∧ QRow w' g L) ∧ Below W.heap.size W w') := fun h1 W hW => toZone_any nm ct va L W (ha.kept hW) h1
  subst hva
  clear ha
  unfold ZonV at HSZ HTO ⊢
  go_enter Tryz.func4, Tryz.ntmps4
  go_wp2_with fail
  refine (HSZ.out _ ((Below.refl w.heap.size w).alloc (Nat.le_refl _) _)).mono ?_
  rintro e w1 ⟨⟨q, rfl, hq⟩, hb1⟩
  have hbw1 : Below w.heap.size w w1 := ((Below.refl w.heap.size w).alloc (Nat.le_refl _) _).trans (hb1.mono (by simp))
  have HP1 : Hid (w1.heap[w.heap.size]? = some (.cells #[.string nm, .int .i64 ct, .slice aa L.length ca] 24)) := (hb1.block w.heap.size (by simp)).trans (blk_new _ _)
  have hz1 : w.heap.size < w1.heap.size := Nat.lt_of_lt_of_le (by simp) hb1.size
  clear hb1
  rcases hq with rfl | ⟨hq0, hqe⟩
  · go_wp2_with fail
    go_ret
    exact ⟨rfl, hbw1⟩
  · obtain ⟨hn', hL, hL2⟩ := sz_zone hq0 hqe
    have HL2 : Hid (∀ x ∈ L, x.1.length ≤ 1048576 ∧ x.2.2.2.length ≤ 1048576) := hL2
    have HT : Hid (∀ W, Below w.heap.size w W → Calls Tryz.prog 8 #[.agg #[.string nm, .int .i64 ct, .slice aa L.length ca]] W fun e w' => (∃ g, e = .returned (.agg #[.string nm, .int .i64 ct, .slice (some ⟨g, 0, none⟩) L.length L.length]) ∧ W.heap.size ≤ g ∧ QRow w' g L) ∧ Below W.heap.size W w') := HTO.out hL
    have HSP : Hid (∀ g W, QRow W g L → Calls Tryz.prog 11 #[ZonV nm ct (.slice (some ⟨g, 0, none⟩) L.length L.length), .string n] W fun e w' => e = .returned (.tuple #[.string ⟨t.toArray⟩, .bool ok]) ∧ Below W.heap.size W w') := fun g W h1 => HS0.out g W hn' hL HL2 h1
    have HI : Hid (∀ g W, EnvZ W → QRow W g L → Calls Tryz.prog 12 #[ZonV nm ct (.slice (some ⟨g, 0, none⟩) L.length L.length), .string n] W fun e w' => e = .returned (.tuple #[.string ⟨t.toArray⟩, .bool ok]) ∧ Below W.heap.size W w') := fun g W hW h1 => HI0.out g W hW hn' hL HL2 h1
    have HEQ : Hid (∀ g1 g2 W, QRow W g1 L → QRow W g2 L → Calls Tryz.prog 10 #[ZonV nm ct (.slice (some ⟨g1, 0, none⟩) L.length L.length), ZonV nm ct (.slice (some ⟨g2, 0, none⟩) L.length L.length)] W fun e w' => e = .returned (.bool true) ∧ Below W.heap.size W w') := fun g1 g2 W h1 h2 => eqZone_same nm ct _ _ L W (h1.row (Nat.le_refl _) (by unfold maxLen; omega)) (h2.row (Nat.le_refl _) (by unfold maxLen; omega))
    have e2 : (ok != ok) = false := by simp
    have e3 : (t != t) = false := by simp
    unfold ZonV at HSP HI HEQ
    obtain ⟨⟨p0, p1, p2⟩, _⟩ := zon_cells HP1.out
    clear hqe hL2 HTO HI0 HS0 HSZ
    go_wp2_with fail
    refine (HT.out _ hbw1).mono ?_
    rintro e w2 ⟨⟨g1, rfl, hg1, hqa⟩, hb2⟩
    clear p0 p1 p2
    have hbw2 : Below w.heap.size w w2 := hbw1.trans (hb2.mono hbw1.size)
    have HP2 : Hid (w2.heap[w.heap.size]? = some (.cells #[.string nm, .int .i64 ct, .slice aa L.length ca] 24)) := (hb2.block w.heap.size hz1).trans HP1.out
    have hz2 : w.heap.size < w2.heap.size := Nat.lt_of_lt_of_le hz1 hb2.size
    have HQA : Hid (QRow w2 g1 L) := hqa
    clear hqa hg1 hb2 HP1 hbw1
    go_wp2_with fail
    refine (HSP.out g1 _ HQA.out).mono ?_
    rintro e w3 ⟨rfl, hb3⟩
    have hbw3 : Below w.heap.size w w3 := hbw2.trans (hb3.mono hbw2.size)
    have HP3 : Hid (w3.heap[w.heap.size]? = some (.cells #[.string nm, .int .i64 ct, .slice aa L.length ca] 24)) := (hb3.block w.heap.size hz2).trans HP2.out
    have hz3 : w.heap.size < w3.heap.size := Nat.lt_of_lt_of_le hz2 hb3.size
    obtain ⟨⟨p0, p1, p2⟩, _⟩ := zon_cells HP3.out
    clear HQA hb3 HP2 hbw2
    go_wp2_with fail
    refine (HT.out _ hbw3).mono ?_
    rintro e w4 ⟨⟨g3, rfl, hg3, hqa⟩, hb4⟩
    clear p0 p1 p2
    have hbw4 : Below w.heap.size w w4 := hbw3.trans (hb4.mono hbw3.size)
    have HP4 : Hid (w4.heap[w.heap.size]? = some (.cells #[.string nm, .int .i64 ct, .slice aa L.length ca] 24)) := (hb4.block w.heap.size hz3).trans HP3.out
    have hz4 : w.heap.size < w4.heap.size := Nat.lt_of_lt_of_le hz3 hb4.size
    have HQA : Hid (QRow w4 g3 L) := hqa
    clear hqa hg3 hb4 HP3 hbw3
    go_wp2_with fail
    refine (HI.out g3 _ (hE.below (hbw4.alloc hbw4.size _)) (HQA.out.kept ((Below.refl w4.heap.size w4).alloc (Nat.le_refl _) _))).mono ?_
    rintro e w5 ⟨rfl, hb5⟩
    have hb45 : Below w4.heap.size w4 w5 := ((Below.refl w4.heap.size w4).alloc (Nat.le_refl _) _).trans (hb5.mono (by simp))
    have hbw5 : Below w.heap.size w w5 := hbw4.trans (hb45.mono hbw4.size)
    have hz5 : w.heap.size < w5.heap.size := Nat.lt_of_lt_of_le hz4 hb45.size
    have hz45 : w4.heap.size < w5.heap.size := Nat.lt_of_lt_of_le (by simp) hb5.size
    have HC : Hid (∀ W, Below w5.heap.size w5 W → (W.cell? ⟨w.heap.size, 0, none⟩ = some (.string nm) ∧ W.cell? ⟨w.heap.size, 1, none⟩ = some (.int .i64 ct) ∧ W.cell? ⟨w.heap.size, 2, none⟩ = some (.slice aa L.length ca)) ∧ (W.cell? ⟨w4.heap.size, 0, none⟩ = some (.string nm) ∧ W.cell? ⟨w4.heap.size, 1, none⟩ = some (.int .i64 ct) ∧ W.cell? ⟨w4.heap.size, 2, none⟩ = some (.slice (some ⟨g3, 0, none⟩) L.length L.length)) ∧ Below w5.heap.size w5 W) := fun W hW =>
      ⟨(zon_cells ((hW.block w.heap.size hz5).trans ((hb45.block w.heap.size hz4).trans HP4.out))).1, (zon_cells ((hW.block w4.heap.size hz45).trans ((hb5.block w4.heap.size (by simp)).trans (blk_new _ _)))).1, hW⟩
    have HT5 : Hid (∀ W, Below w5.heap.size w5 W → Calls Tryz.prog 8 #[.agg #[.string nm, .int .i64 ct, .slice aa L.length ca]] W fun e w' => (∃ g, e = .returned (.agg #[.string nm, .int .i64 ct, .slice (some ⟨g, 0, none⟩) L.length L.length]) ∧ W.heap.size ≤ g ∧ QRow w' g L) ∧ Below W.heap.size W w') := fun W hW => HT.out W (hbw5.trans (hW.mono hbw5.size))
    have HEQ5 : Hid (∀ g W, Below w5.heap.size w5 W → QRow W g L → Calls Tryz.prog 10 #[.agg #[.string nm, .int .i64 ct, .slice (some ⟨g3, 0, none⟩) L.length L.length], .agg #[.string nm, .int .i64 ct, .slice (some ⟨g, 0, none⟩) L.length L.length]] W fun e w' => e = .returned (.bool true) ∧ Below W.heap.size W w') := fun g W hW h1 => HEQ.out g3 g W ((HQA.out.kept hb45).kept hW) h1
    have HTR : Hid (∀ W W', Below w5.heap.size w5 W → Below W.heap.size W W' → Below w5.heap.size w5 W') := fun W W' h1 h2 => h1.trans (h2.mono h1.size)
    have hbz : Below w5.heap.size w5 w5 := Below.refl _ _
    have hbd : Below w5.heap.size w5 w5.drew := (Below.refl _ _).drew
    clear hb5 hb45 hbw4 HP4 HQA HT HI HSP HEQ
    go_wp2_with fail
    go_region_held3 (fun W => (W.cell? ⟨w.heap.size, 0, none⟩ = some (.string nm) ∧ W.cell? ⟨w.heap.size, 1, none⟩ = some (.int .i64 ct) ∧ W.cell? ⟨w.heap.size, 2, none⟩ = some (.slice aa L.length ca)) ∧ (W.cell? ⟨w4.heap.size, 0, none⟩ = some (.string nm) ∧ W.cell? ⟨w4.heap.size, 1, none⟩ = some (.int .i64 ct) ∧ W.cell? ⟨w4.heap.size, 2, none⟩ = some (.slice (some ⟨g3, 0, none⟩) L.length L.length)) ∧ Below w5.heap.size w5 W) (first | exact HC.out _ (by assumption) | exact HC.out _ (Below.drew (by assumption)))
      (first
      | (go_at_call 8; refine (HT5.out _ (by assumption)).mono ?_; rintro e w6 ⟨⟨g5, rfl, _, hqa6⟩, hb6⟩; have hb56 := HTR.out _ _ (by assumption) hb6)
      | (go_at_call 10; refine (HEQ5.out _ _ (by assumption) (by assumption)).mono ?_; rintro e w7 ⟨rfl, hb7⟩; have hb57 := HTR.out _ _ (by assumption) hb7))
    have hbw7 := hbw5.trans (hb57.mono hbw5.size)
    go_wp2_with fail
    go_ret
    exact ⟨rfl, hbw7⟩

set_option maxRecDepth 20000 in
set_option maxHeartbeats 1000000 in
theorem walk (nm : ByteArray) (ct : Int) (va : Value) (L : List (List UInt8 × Int × Int × List UInt8)) (n : ByteArray) (w : World) (hn : nm.size ≤ maxLen) (ha : RRow w va L) (hxa : Hid (∀ x ∈ L, x.1.length ≤ maxLen ∧ x.2.2.2.length ≤ maxLen)) (_hc : -9223372036854775808 ≤ ct ∧ ct ≤ 9223372036854775807) (hs : n.size ≤ maxLen) (hE : EnvZ w) :
    Calls Tryz.prog 4 #[ZonV nm ct va, .string n] w fun e w' => e = .returned (.bool true) ∧ Below w.heap.size w w' := by
  have la : L.length ≤ maxLen := by obtain ⟨_, cap, _, h1, h2, _⟩ := ha; omega
  have hs2 := hs
  unfold maxLen at hs2
  by_cases h : (1048576 : Int) < (n.size : Int)
  · obtain ⟨aa, ca, rfl, _⟩ := id ha
    unfold ZonV
    go_enter Tryz.func4, Tryz.ntmps4
    go_wp2_with fail
    go_ret
    exact ⟨rfl, (Below.refl w.heap.size w).alloc (Nat.le_refl _) _⟩
  · have hnn : n.size ≤ 1048576 := by omega
    exact core nm ct va L n _ _ w hn ha hxa hE hnn (fun g W h1 h2 h3 q => sCutAbove_any nm ct _ L n W (q.row (Nat.le_refl _) la) h1 hnn h2 h3) (fun g W hW h1 _ h3 q => iCutAbove_any nm ct _ L n W (q.row (Nat.le_refl _) la) h1 hnn h3 hW)
end Go.Proofs.YtpkceelmnfgdkaaGreatDoor.cutAbove
