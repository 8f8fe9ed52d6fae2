import Derived.Test.YtoobaaklklommaaDoorZ29
import Derived.Test.YtoobaaklklommaaDoorZ23
namespace Go.Proofs.YtoobaaklklommaaDoor.newControl
open Go.RowKit

set_option maxRecDepth 20000 in
set_option maxHeartbeats 4000000 in
theorem core (b0 : ByteArray) (ok : Bool) (nm : ByteArray) (ct : Int) (L : List (List UInt8 × Int × Int × List UInt8)) (w : World) (hs0 : b0.size ≤ 1048576) (hE : EnvT w) (hL : L.length ≤ 1048576)
    (HS : Hid (∀ W, Calls Tryd.prog 4 #[.string b0] W fun e w' => CRes w' ok nm ct L e ∧ Below W.heap.size W w'))
    (HI : Hid (∀ W, EnvT W → Calls Tryd.prog 5 #[.string b0] W fun e w' => COwn w' W.heap.size ok nm ct L e ∧ Below W.heap.size W w')) :
    Calls Tryd.prog 3 #[.string b0] w fun e w' => e = .returned (.bool true) ∧ Below w.heap.size w w' := by
  have g : ¬ (1048576 : Int) < (b0.size : Int) := by omega
  have e2 : (ok != ok) = false := by simp
  have HMK : Hid (∀ v base W, OwnQ W base v L → Calls Tryd.prog 7 #[CtlV nm ct v (.slice none 0 0) 0, .int .i64 1] W fun e w' => e = .returned (.int .i64 (1 + 4 * (L.length : Int))) ∧ OwnQ w' base v (mrks 1 L.length) ∧ Kpt W w' (fun k => v.ownBlock = some k)) := fun v base W h1 => markCtl_nil nm ct 0 v L base 1 W h1 hL (by omega) (by omega)
  have HHD : Hid (∀ v base W, OwnQ W base v (mrks 1 L.length) → Calls Tryd.prog 8 #[CtlV nm ct v (.slice none 0 0) 0, .int .i64 1] W fun e w' => e = .returned (.int .i64 (1 + 4 * (L.length : Int))) ∧ Below W.heap.size W w') := fun v base W h1 => heldCtl_nil nm ct 0 v L.length 1 W h1.row hL (by omega) (by omega)
  obtain ⟨q, hq⟩ : ∃ q : Int, q = 1 + 4 * (L.length : Int) := ⟨_, rfl⟩
  rw [← hq] at HMK HHD
  have hq0 : decide (q < 0) = false := by simp; omega
  have hqq : (q != q) = false := by simp
  clear hq
  unfold CtlV at HMK HHD
  go_enter Tryd.func3, Tryd.ntmps3
  go_wp2_with fail
  refine (HS.out _).mono ?_
  rintro e w1 ⟨⟨v1, rfl, hra⟩, hb1⟩
  obtain ⟨aa1, ca1, hva1, _, hca1, _⟩ := id hra
  have HRA : Hid (∀ W, Below w1.heap.size w1 W → RRow W v1 L) := fun W hW => hra.kept hW
  subst hva1
  clear hra
  unfold CtlV
  go_wp2_with fail
  refine (HI.out _ (hE.below (hb1.trans (((Below.refl w1.heap.size w1).alloc (Nat.le_refl _) _).mono hb1.size)))).mono ?_
  rintro e w2 ⟨⟨v2, rfl, hoa⟩, hb2⟩
  obtain ⟨aa2, ca2, hva2, hca2⟩ := hoa.shape
  subst hva2
  unfold CtlV
  have hb12 : Below w1.heap.size w1 w2 := ((Below.refl w1.heap.size w1).alloc (Nat.le_refl _) _).trans (hb2.mono (by simp))
  have HW2 : Hid (w2.heap[w1.heap.size]? = some (.cells #[.string nm, .int .i64 ct, .slice aa1 L.length ca1, .slice none 0 0, .int .i64 0] 27)) := (hb2.block w1.heap.size (by simp)).trans (blk_new _ _)
  have hz2 : w1.heap.size < w2.heap.size := Nat.lt_of_lt_of_le (by simp) hb2.size
  have HOA : Hid (OwnQ w2 (w1.heap.size + 1) (.slice aa2 L.length ca2) L) := by
    have h : OwnQ w2 (w1.heap.size + 1) (.slice aa2 L.length ca2) L := by simpa using hoa
    exact h
  obtain ⟨⟨c0, c1, c2, c3, c4⟩, _⟩ := ctl_cells HW2.out
  clear hoa hb2
  go_wp2_with fail
  refine (eqControl_same nm ct _ _ _ _ 0 L [] _ (HOA.out.row.kept ((Below.refl w2.heap.size w2).alloc (Nat.le_refl _) _)) (HRA.out _ (hb12.alloc hb12.size _)) (DonRow.nil _) (DonRow.nil _)).mono ?_
  rintro e w3 ⟨rfl, hb3⟩
  clear c0 c1 c2 c3 c4
  have hb23 : Below w2.heap.size w2 w3 := ((Below.refl w2.heap.size w2).alloc (Nat.le_refl _) _).trans (hb3.mono (by simp))
  have HW3 : Hid (w3.heap[w1.heap.size]? = some (.cells #[.string nm, .int .i64 ct, .slice aa1 L.length ca1, .slice none 0 0, .int .i64 0] 27)) := (hb23.block w1.heap.size hz2).trans HW2.out
  have HG3 : Hid (w3.heap[w2.heap.size]? = some (.cells #[.string nm, .int .i64 ct, .slice aa2 L.length ca2, .slice none 0 0, .int .i64 0] 27)) := (hb3.block w2.heap.size (by simp)).trans (blk_new _ _)
  have hz3 : w2.heap.size < w3.heap.size := Nat.lt_of_lt_of_le (by simp) hb3.size
  have hb13 : Below w1.heap.size w1 w3 := hb12.trans (hb23.mono hb12.size)
  obtain ⟨⟨d0, d1, d2, d3, d4⟩, _⟩ := ctl_cells HG3.out
  clear hb3 HW2
  go_wp2_with fail
  refine (HMK.out _ (w1.heap.size + 1) _ (HOA.out.kept hb23)).mono ?_
  rintro e w4 ⟨rfl, ho4, hk4⟩
  clear d0 d1 d2 d3 d4
  have HLA : Hid (∀ k, (Value.slice aa2 L.length ca2).ownBlock = some k → w1.heap.size + 1 ≤ k ∧ k < w2.heap.size) := fun k h => HOA.out.lt k h
  have HW4 : Hid (w4.heap[w1.heap.size]? = some (.cells #[.string nm, .int .i64 ct, .slice aa1 L.length ca1, .slice none 0 0, .int .i64 0] 27)) := (hk4.block w1.heap.size (by omega) (fun h => by have h1 := HLA.out _ h; omega)).trans HW3.out
  have HG4 : Hid (w4.heap[w2.heap.size]? = some (.cells #[.string nm, .int .i64 ct, .slice aa2 L.length ca2, .slice none 0 0, .int .i64 0] 27)) := (hk4.block w2.heap.size (by omega) (fun h => by have h1 := HLA.out _ h; omega)).trans HG3.out
  have hb14 : Below w1.heap.size w1 w4 := hb13.trans (hk4.below hb13.size (fun k hk h => by have h1 := HLA.out _ h; omega))
  have hz4 : w3.heap.size ≤ w4.heap.size := hk4.size
  have HO4 : Hid (OwnQ w4 (w1.heap.size + 1) (.slice aa2 L.length ca2) (mrks 1 L.length)) := ho4
  obtain ⟨⟨d0, d1, d2, d3, d4⟩, _⟩ := ctl_cells HG4.out
  clear ho4 hk4 HW3 HG3 hb13 hb23 HLA
  go_wp2_with fail
  refine (HHD.out _ _ _ HO4.out).mono ?_
  rintro e w5 ⟨rfl, hb5⟩
  clear d0 d1 d2 d3 d4
  have hb15 : Below w1.heap.size w1 w5 := hb14.trans (hb5.mono hb14.size)
  have hbw5 : Below w.heap.size w w5 := hb1.trans (hb15.mono hb1.size)
  have HW5 : Hid (w5.heap[w1.heap.size]? = some (.cells #[.string nm, .int .i64 ct, .slice aa1 L.length ca1, .slice none 0 0, .int .i64 0] 27)) := (hb5.block w1.heap.size (by omega)).trans HW4.out
  have HG5 : Hid (w5.heap[w2.heap.size]? = some (.cells #[.string nm, .int .i64 ct, .slice aa2 L.length ca2, .slice none 0 0, .int .i64 0] 27)) := (hb5.block w2.heap.size (by omega)).trans HG4.out
  have hz5 : w4.heap.size ≤ w5.heap.size := hb5.size
  have HO5 : Hid (OwnQ w5 (w1.heap.size + 1) (.slice aa2 L.length ca2) (mrks 1 L.length)) := HO4.out.kept hb5
  have HE5 : Hid (EnvT w5) := hE.below hbw5
  clear hb5 HW4 HG4 HO4 hb14
  go_wp2_with fail
  refine (HI.out _ HE5.out).mono ?_
  rintro e w6 ⟨⟨v3, rfl, hoa3⟩, hb6⟩
  obtain ⟨aa3, ca3, hva3, hca3⟩ := hoa3.shape
  subst hva3
  unfold CtlV
  have HRA3 : Hid (RRow w6 (.slice aa3 L.length ca3) L) := hoa3.row
  have hz6 : w5.heap.size ≤ w6.heap.size := hb6.size
  have hb16 : Below w1.heap.size w1 w6 := hb15.trans (hb6.mono hb15.size)
  have HW6 : Hid (w6.heap[w1.heap.size]? = some (.cells #[.string nm, .int .i64 ct, .slice aa1 L.length ca1, .slice none 0 0, .int .i64 0] 27)) := (hb6.block w1.heap.size (by omega)).trans HW5.out
  have HG6 : Hid (w6.heap[w2.heap.size]? = some (.cells #[.string nm, .int .i64 ct, .slice aa2 L.length ca2, .slice none 0 0, .int .i64 0] 27)) := (hb6.block w2.heap.size (by omega)).trans HG5.out
  have HO6 : Hid (OwnQ w6 (w1.heap.size + 1) (.slice aa2 L.length ca2) (mrks 1 L.length)) := HO5.out.kept hb6
  obtain ⟨⟨c0, c1, c2, c3, c4⟩, _⟩ := ctl_cells HW6.out
  have hlt6 : w1.heap.size < w6.heap.size := by omega
  clear hoa3 hb6 hb15 hbw5 HO5 HW5 HG5
  go_wp2_with fail
  refine (eqControl_same nm ct _ _ _ _ 0 L [] _ (HRA3.out.kept ((Below.refl w6.heap.size w6).alloc (Nat.le_refl _) _)) (HRA.out _ (hb16.alloc hb16.size _)) (DonRow.nil _) (DonRow.nil _)).mono ?_
  rintro e w7 ⟨rfl, hb7⟩
  clear c0 c1 c2 c3 c4
  have hb67 : Below w6.heap.size w6 w7 := ((Below.refl w6.heap.size w6).alloc (Nat.le_refl _) _).trans (hb7.mono (by simp))
  have HG7 : Hid (w7.heap[w2.heap.size]? = some (.cells #[.string nm, .int .i64 ct, .slice aa2 L.length ca2, .slice none 0 0, .int .i64 0] 27)) := (hb67.block w2.heap.size (by omega)).trans HG6.out
  have HO7 : Hid (OwnQ w7 (w1.heap.size + 1) (.slice aa2 L.length ca2) (mrks 1 L.length)) := HO6.out.kept hb67
  have hb17 : Below w1.heap.size w1 w7 := hb16.trans (hb67.mono hb16.size)
  obtain ⟨⟨d0, d1, d2, d3, d4⟩, _⟩ := ctl_cells HG7.out
  clear hb7 hb67 hb16 HO6 HW6 HG6
  go_wp2_with fail
  refine (HHD.out _ _ _ HO7.out).mono ?_
  rintro e w8 ⟨rfl, hb8⟩
  have hb18 : Below w1.heap.size w1 w8 := hb17.trans (hb8.mono hb17.size)
  have hbw8 : Below w.heap.size w w8 := hb1.trans (hb18.mono hb1.size)
  clear d0 d1 d2 d3 d4 hb8 hb17
  go_wp2_with fail
  go_ret
  exact ⟨rfl, hbw8⟩

set_option maxRecDepth 20000 in
set_option maxHeartbeats 1000000 in
theorem walk (b0 : ByteArray) (w : World) (hs0 : b0.size ≤ maxLen) (hE : EnvT w) :
    Calls Tryd.prog 3 #[.string b0] w fun e w' => e = .returned (.bool true) ∧ Below w.heap.size w w' := by
  have hs := hs0
  unfold maxLen at hs
  by_cases h : (1048576 : Int) < (b0.size : Int)
  · go_enter Tryd.func3, Tryd.ntmps3
    go_wp2_with fail
    go_ret
    exact ⟨rfl, Below.refl _ _⟩
  · have hsz : b0.size ≤ 1048576 := by omega
    exact core b0 _ _ 0 _ w hsz hE (by unfold newR; split <;> simp) (fun W => sNewControl_any b0 W hsz) (fun W hW => iNewControl_any b0 W hsz hW)
end Go.Proofs.YtoobaaklklommaaDoor.newControl
