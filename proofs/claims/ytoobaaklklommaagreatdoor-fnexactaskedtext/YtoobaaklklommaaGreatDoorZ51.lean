import Derived.Test.YtoobaaklklommaaGreatDoorZ50
import Derived.Test.YtoobaaklklommaaGreatDoorZ49
import Derived.Deep.RegionHeld3
namespace Go.Proofs.YtoobaaklklommaaGreatDoor.askedText
open Go.RowKit

set_option maxRecDepth 20000 in
set_option maxHeartbeats 8000000 in
theorem walk (c n : Int) (va : Value) (L : List ChgT) (w : World) (ha : ChgRow w va L) (hxa : Hid (∀ x ∈ L, x.2.1.length ≤ maxLen ∧ x.2.2.2.2.length ≤ maxLen)) (hE : EnvR w) :
    Calls Tryz.prog 7 #[AskV c n va] w fun e w' => e = .returned (.bool true) ∧ Below w.heap.size w w' := by
  obtain ⟨aa, ca, hva, _, hca, _⟩ := id ha
  obtain ⟨ok, hok⟩ : ∃ ok, ok = askB c n L := ⟨_, rfl⟩
  have HOK : Hid (ok = askB c n L) := hok
  obtain ⟨tx, htx⟩ : ∃ tx : ByteArray, tx = ⟨(askX c n L).toArray⟩ := ⟨_, rfl⟩
  have HTX : Hid (tx = ⟨(askX c n L).toArray⟩) := htx
  have HSZ : Hid (∀ W, Below w.heap.size w W → Calls Tryz.prog 14 #[AskV c n va, .int .i64 1048576] W fun e w' => (∃ q : Int, e = .returned (.int .i64 q) ∧ (q = -1 ∨ (0 ≤ q ∧ L.length ≤ 1048576 ∧ ∀ x ∈ L, x.2.1.length ≤ 1048576 ∧ x.2.2.2.2.length ≤ 1048576))) ∧ Below W.heap.size W w') := fun W hW => szAsked_any c n va L W (ha.kept hW) hxa
  have HTO : Hid (L.length ≤ 1048576 → ∀ W, Below w.heap.size w W → Calls Tryz.prog 16 #[AskV c n va] W fun e w' => (∃ g, e = .returned (.agg #[.int .i64 c, .int .i64 n, .slice (some ⟨g, 0, none⟩) L.length L.length]) ∧ W.heap.size ≤ g ∧ ChR5 w' g L) ∧ Below W.heap.size W w') := fun h1 W hW => toAsked_any c n va L W (ha.kept hW) h1
  subst hva
  clear ha hok htx
  unfold AskV at HSZ HTO ⊢
  go_enter Tryz.func7, Tryz.ntmps7
  go_wp2_with fail
  refine (HSZ.out _ ((Below.refl w.heap.size w).alloc (Nat.le_refl _) _)).mono ?_
  rintro e w1 ⟨⟨q, rfl, hq⟩, hb1⟩
  have hbw1 : Below w.heap.size w w1 := ((Below.refl w.heap.size w).alloc (Nat.le_refl _) _).trans (hb1.mono (by simp))
  have HP1 : Hid (w1.heap[w.heap.size]? = some (.cells #[.int .i64 c, .int .i64 n, .slice aa L.length ca] 41)) := (hb1.block w.heap.size (by simp)).trans (blk_new _ _)
  have hz1 : w.heap.size < w1.heap.size := Nat.lt_of_lt_of_le (by simp) hb1.size
  clear hb1
  rcases hq with rfl | ⟨hq0, hL, hQ2⟩
  · go_wp2_with fail
    go_ret
    exact ⟨rfl, hbw1⟩
  · have HQ2 : Hid (∀ x ∈ L, x.2.1.length ≤ 1048576 ∧ x.2.2.2.2.length ≤ 1048576) := hQ2
    have HT : Hid (∀ W, Below w.heap.size w W → Calls Tryz.prog 16 #[.agg #[.int .i64 c, .int .i64 n, .slice aa L.length ca]] W fun e w' => (∃ g, e = .returned (.agg #[.int .i64 c, .int .i64 n, .slice (some ⟨g, 0, none⟩) L.length L.length]) ∧ W.heap.size ≤ g ∧ ChR5 w' g L) ∧ Below W.heap.size W w') := HTO.out hL
    have HSP : Hid (∀ g W, ChR5 W g L → Calls Tryz.prog 34 #[(.agg #[.int .i64 c, .int .i64 n, .slice (some ⟨g, 0, none⟩) L.length L.length])] W fun e w' => e = .returned (.tuple #[.string tx, .bool ok]) ∧ Below W.heap.size W w') := fun g W h1 => by
      rw [HOK.out, HTX.out]; exact sAskedText_any c n _ L W (h1.row1 hL) hL HQ2
    have HI : Hid (∀ g W, EnvR W → ChR5 W g L → Calls Tryz.prog 35 #[(.agg #[.int .i64 c, .int .i64 n, .slice (some ⟨g, 0, none⟩) L.length L.length])] W fun e w' => e = .returned (.tuple #[.string tx, .bool ok]) ∧ Below W.heap.size W w') := fun g W hW h1 => by
      rw [HOK.out, HTX.out]; exact iAskedText_any c n _ L W (h1.row1 hL) HQ2 hW
    have HEQ : Hid (∀ g1 g2 W, ChR5 W g1 L → ChR5 W g2 L → Calls Tryz.prog 19 #[(.agg #[.int .i64 c, .int .i64 n, .slice (some ⟨g1, 0, none⟩) L.length L.length]), (.agg #[.int .i64 c, .int .i64 n, .slice (some ⟨g2, 0, none⟩) L.length L.length])] W fun e w' => e = .returned (.bool true) ∧ Below W.heap.size W w') := fun g1 g2 W h1 h2 => eqAsked_same c n _ _ L W (h1.row1 hL) (h2.row1 hL)
    have e2 : (ok != ok) = false := by simp
    obtain ⟨⟨p0, p1, p2⟩, _⟩ := zon3_cells HP1.out
    clear hQ2 HTO HSZ HOK HTX
    go_wp2_with fail
    refine (HT.out _ hbw1).mono ?_
    rintro e w2 ⟨⟨g1, rfl, _, hqa⟩, hb2⟩
    clear p0 p1 p2
    have hbw2 : Below w.heap.size w w2 := hbw1.trans (hb2.mono hbw1.size)
    have HP2 : Hid (w2.heap[w.heap.size]? = some (.cells #[.int .i64 c, .int .i64 n, .slice aa L.length ca] 41)) := (hb2.block w.heap.size hz1).trans HP1.out
    have hz2 : w.heap.size < w2.heap.size := Nat.lt_of_lt_of_le hz1 hb2.size
    have HQA : Hid (ChR5 w2 g1 L) := hqa
    clear hqa hb2 HP1 hbw1
    go_wp2_with fail
    refine (HSP.out g1 _ HQA.out).mono ?_
    rintro e w3 ⟨rfl, hb3⟩
    have hbw3 : Below w.heap.size w w3 := hbw2.trans (hb3.mono hbw2.size)
    have HP3 : Hid (w3.heap[w.heap.size]? = some (.cells #[.int .i64 c, .int .i64 n, .slice aa L.length ca] 41)) := (hb3.block w.heap.size hz2).trans HP2.out
    have hz3 : w.heap.size < w3.heap.size := Nat.lt_of_lt_of_le hz2 hb3.size
    obtain ⟨⟨p0, p1, p2⟩, _⟩ := zon3_cells HP3.out
    clear HQA hb3 HP2 hbw2
    go_wp2_with fail
    refine (HT.out _ hbw3).mono ?_
    rintro e w4' ⟨⟨g3, rfl, _, hqa⟩, hb4'⟩
    clear p0 p1 p2
    obtain ⟨w4, hw4⟩ : ∃ w4, w4 = w4'.alloc (.cells #[.int .i64 c, .int .i64 n, .slice (some ⟨g3, 0, none⟩) L.length L.length] 49) := ⟨_, rfl⟩
    have HW4 : Hid (w4'.alloc (.cells #[.int .i64 c, .int .i64 n, .slice (some ⟨g3, 0, none⟩) L.length L.length] 49) = w4) := hw4.symm
    obtain ⟨bx, hbx⟩ : ∃ bx, bx = w4'.heap.size := ⟨_, rfl⟩
    have HBX : Hid (bx = w4'.heap.size) := hbx
    have hb44 : Below w4'.heap.size w4' w4 := by rw [hw4]; exact (Below.refl _ _).alloc (Nat.le_refl _) _
    have hb4 : Below w3.heap.size w3 w4 := hb4'.trans (hb44.mono hb4'.size)
    have HX4 : Hid (w4.heap[bx]? = some (.cells #[.int .i64 c, .int .i64 n, .slice (some ⟨g3, 0, none⟩) L.length L.length] 49)) := by show _ = _; rw [hw4, hbx]; exact blk_new _ _
    have hzx : bx < w4.heap.size := (Array.getElem?_eq_some_iff.1 HX4.out).1
    have hbw4 : Below w.heap.size w w4 := hbw3.trans (hb4.mono hbw3.size)
    have HP4 : Hid (w4.heap[w.heap.size]? = some (.cells #[.int .i64 c, .int .i64 n, .slice aa L.length ca] 41)) := (hb4.block w.heap.size hz3).trans HP3.out
    have hz4 : w.heap.size < w4.heap.size := Nat.lt_of_lt_of_le hz3 hb4.size
    have HQA : Hid (ChR5 w4 g3 L) := hqa.kept hb44
    obtain ⟨⟨x0, x1, x2⟩, _⟩ := zon3_cells HX4.out
    clear hqa hb4 hb4' hb44 HP3 hbw3 hw4 hbx
    go_wp2_with (rw [HW4.out, ← HBX.out])
    refine (HI.out g3 _ (hE.below hbw4) HQA.out).mono ?_
    rintro e w6 ⟨rfl, hb6⟩
    clear x0 x1 x2
    have hbw6 : Below w.heap.size w w6 := hbw4.trans (hb6.mono hbw4.size)
    have HC : Hid (∀ W, Below w6.heap.size w6 W → (W.cell? ⟨w.heap.size, 0, none⟩ = some (.int .i64 c) ∧ W.cell? ⟨w.heap.size, 1, none⟩ = some (.int .i64 n) ∧ W.cell? ⟨w.heap.size, 2, none⟩ = some (.slice aa L.length ca)) ∧ (W.cell? ⟨bx, 0, none⟩ = some (.int .i64 c) ∧ W.cell? ⟨bx, 1, none⟩ = some (.int .i64 n) ∧ W.cell? ⟨bx, 2, none⟩ = some (.slice (some ⟨g3, 0, none⟩) L.length L.length)) ∧ Below w6.heap.size w6 W) := fun W hW =>
      ⟨(zon3_cells ((hW.block w.heap.size (Nat.lt_of_lt_of_le hz4 hb6.size)).trans ((hb6.block w.heap.size hz4).trans HP4.out))).1, (zon3_cells ((hW.block bx (Nat.lt_of_lt_of_le hzx hb6.size)).trans ((hb6.block bx hzx).trans HX4.out))).1, hW⟩
    have HT5 : Hid (∀ W, Below w6.heap.size w6 W → Calls Tryz.prog 16 #[.agg #[.int .i64 c, .int .i64 n, .slice aa L.length ca]] W fun e w' => (∃ g, e = .returned (.agg #[.int .i64 c, .int .i64 n, .slice (some ⟨g, 0, none⟩) L.length L.length]) ∧ W.heap.size ≤ g ∧ ChR5 w' g L) ∧ Below W.heap.size W w') := fun W hW => HT.out W (hbw6.trans (hW.mono hbw6.size))
    have HEQ5 : Hid (∀ g W, Below w6.heap.size w6 W → ChR5 W g L → Calls Tryz.prog 19 #[(.agg #[.int .i64 c, .int .i64 n, .slice (some ⟨g3, 0, none⟩) L.length L.length]), (.agg #[.int .i64 c, .int .i64 n, .slice (some ⟨g, 0, none⟩) L.length L.length])] W fun e w' => e = .returned (.bool true) ∧ Below W.heap.size W w') := fun g W hW h1 => HEQ.out g3 g W ((HQA.out.kept hb6).kept hW) h1
    have HTR : Hid (∀ W W', Below w6.heap.size w6 W → Below W.heap.size W W' → Below w6.heap.size w6 W') := fun W W' h1 h2 => h1.trans (h2.mono h1.size)
    have hbz : Below w6.heap.size w6 w6 := Below.refl _ _
    have hbd : Below w6.heap.size w6 w6.drew := (Below.refl _ _).drew
    clear hb6 hbw4 HP4 HX4 HQA HT HI HSP HEQ
    go_wp2_with fail
    go_region_held3 (fun W => (W.cell? ⟨w.heap.size, 0, none⟩ = some (.int .i64 c) ∧ W.cell? ⟨w.heap.size, 1, none⟩ = some (.int .i64 n) ∧ W.cell? ⟨w.heap.size, 2, none⟩ = some (.slice aa L.length ca)) ∧ (W.cell? ⟨bx, 0, none⟩ = some (.int .i64 c) ∧ W.cell? ⟨bx, 1, none⟩ = some (.int .i64 n) ∧ W.cell? ⟨bx, 2, none⟩ = some (.slice (some ⟨g3, 0, none⟩) L.length L.length)) ∧ Below w6.heap.size w6 W) (first | exact HC.out _ (by assumption) | exact HC.out _ (Below.drew (by assumption)))
      (first
      | (go_at_call 16; refine (HT5.out _ (by assumption)).mono ?_; rintro e w7 ⟨⟨g5, rfl, _, hqa6⟩, hb7⟩; have hb67 := HTR.out _ _ (by assumption) hb7)
      | (go_at_call 19; refine (HEQ5.out _ _ (by assumption) (by assumption)).mono ?_; rintro e w8 ⟨rfl, hb8⟩; have hb68 := HTR.out _ _ (by assumption) hb8))
    have hbw8 := hbw6.trans (hb68.mono hbw6.size)
    go_wp2_with fail
    go_ret
    exact ⟨rfl, hbw8⟩
end Go.Proofs.YtoobaaklklommaaGreatDoor.askedText
