import Derived.Test.YtoanloballaclaaDoorPoG
import Derived.Deep.RegionHeld3
namespace Go.Proofs.YtoanloballaclaaDoor.goodPolicy
open Go.RowKit

set_option maxRecDepth 20000 in
set_option maxHeartbeats 8000000 in
theorem walk (n : List UInt8) (v : Value) (L : List TgtT) (w : World) (hr : TgtRow w v L) (hn : n.length ≤ maxLen) (hx : Hid (∀ x ∈ L, x.1.length ≤ maxLen ∧ x.2.1.length ≤ maxLen)) (hE : EnvR w) :
    Calls Tryd.prog 3 #[PolV ⟨n.toArray⟩ v] w fun e w' => e = .returned (.bool true) ∧ Below w.heap.size w w' := by
  obtain ⟨aa, ca, hva, _, hca, _⟩ := id hr
  have HSZ : Hid (∀ W, Below w.heap.size w W → Calls Tryd.prog 4 #[PolV ⟨n.toArray⟩ v, .int .i64 1048576] W fun e w' => (∃ q : Int, e = .returned (.int .i64 q) ∧ (q = -1 ∨ (0 ≤ q ∧ q = 1048576 - (n.length : Int) - (L.length : Int) - (wtG L : Int)))) ∧ Below W.heap.size W w') := fun W hW => by
    have h := szPolicy_any ⟨n.toArray⟩ v L W (hr.kept hW) hx (by rw [size_list]; exact hn)
    rw [size_list] at h; exact h
  have HTO : Hid (L.length ≤ 1048576 → ∀ W, Below w.heap.size w W → Calls Tryd.prog 6 #[PolV ⟨n.toArray⟩ v] W fun e w' => (∃ g, e = .returned (PolV ⟨n.toArray⟩ (.slice (some ⟨g, 0, none⟩) L.length L.length)) ∧ W.heap.size ≤ g ∧ TgoRow w' g L) ∧ Below W.heap.size W w') := fun h1 W hW => toPolicy_any ⟨n.toArray⟩ v L W (hr.kept hW) h1
  subst hva
  clear hr hx hn
  unfold PolV at HSZ HTO ⊢
  go_enter Tryd.func3, Tryd.ntmps3
  go_wp2_with fail
  refine (HSZ.out _ ((Below.refl w.heap.size w).alloc (Nat.le_refl _) _)).mono ?_
  rintro e w1 ⟨⟨q, rfl, hq⟩, hb1⟩
  have hbw1 : Below w.heap.size w w1 := ((Below.refl w.heap.size w).alloc (Nat.le_refl _) _).trans (hb1.mono (by simp))
  have HP1 : Hid (w1.heap[w.heap.size]? = some (.cells #[.string ⟨n.toArray⟩, .slice aa L.length ca] 24)) := (hb1.block w.heap.size (by simp)).trans (tgt_new _ _)
  have hz1 : w.heap.size < w1.heap.size := Nat.lt_of_lt_of_le (by simp) hb1.size
  clear hb1
  rcases hq with rfl | ⟨hq0, hqe⟩
  · go_wp2_with fail
    go_ret
    exact ⟨rfl, hbw1⟩
  · have hL : L.length ≤ 1048576 := by omega
    have hnl : n.length ≤ 1048576 := by omega
    have HX : Hid (∀ x ∈ L, x.1.length ≤ 1048576 ∧ x.2.1.length ≤ 1048576) := fun x hxm => by have := wtG_mem hxm; omega
    have HT : Hid (∀ W, Below w.heap.size w W → Calls Tryd.prog 6 #[.agg #[.string ⟨n.toArray⟩, .slice aa L.length ca]] W fun e w' => (∃ g, e = .returned (.agg #[.string ⟨n.toArray⟩, .slice (some ⟨g, 0, none⟩) L.length L.length]) ∧ W.heap.size ≤ g ∧ TgoRow w' g L) ∧ Below W.heap.size W w') := HTO.out hL
    have HSP : Hid (∀ g W, TgoRow W g L → Calls Tryd.prog 5 #[PolV ⟨n.toArray⟩ (.slice (some ⟨g, 0, none⟩) L.length L.length)] W fun e w' => e = .returned (.bool (polB n L)) ∧ Below W.heap.size W w') := fun g W h1 => sGoodPolicy_any n _ L W (h1.row1 hL) hL hnl HX
    have HI : Hid (∀ g W, Below w.heap.size w W → TgoRow W g L → Calls Tryd.prog 7 #[PolV ⟨n.toArray⟩ (.slice (some ⟨g, 0, none⟩) L.length L.length)] W fun e w' => e = .returned (.bool (polB n L)) ∧ Below W.heap.size W w') := fun g W hW h1 => iGoodPolicy_any n _ L W (h1.row1 hL) hL HX (hE.below hW)
    have HEQ : Hid (∀ g1 g2 W, TgoRow W g1 L → TgoRow W g2 L → Calls Tryd.prog 8 #[PolV ⟨n.toArray⟩ (.slice (some ⟨g1, 0, none⟩) L.length L.length), PolV ⟨n.toArray⟩ (.slice (some ⟨g2, 0, none⟩) L.length L.length)] W fun e w' => e = .returned (.bool true) ∧ Below W.heap.size W w') := fun g1 g2 W h1 h2 => eqPolicy_same ⟨n.toArray⟩ _ _ L W (h1.row1 hL) (h2.row1 hL)
    obtain ⟨ok, hok⟩ : ∃ ok, ok = polB n L := ⟨_, rfl⟩
    rw [← hok] at HSP HI
    have e2 : (ok != ok) = false := by simp
    unfold PolV at HSP HI HEQ
    obtain ⟨p0, p1⟩ := (pol_cells HP1.out).1
    clear hok hqe HTO HSZ
    go_wp2_with fail
    refine (HT.out _ hbw1).mono ?_
    rintro e w2 ⟨⟨g1, rfl, hg1, hqa⟩, hb2⟩
    clear p0 p1
    have hbw2 : Below w.heap.size w w2 := hbw1.trans (hb2.mono hbw1.size)
    have HP2 : Hid (w2.heap[w.heap.size]? = some (.cells #[.string ⟨n.toArray⟩, .slice aa L.length ca] 24)) := (hb2.block w.heap.size hz1).trans HP1.out
    have hz2 : w.heap.size < w2.heap.size := Nat.lt_of_lt_of_le hz1 hb2.size
    have HQA : Hid (TgoRow w2 g1 L) := hqa
    clear hqa hg1 hb2 HP1 hbw1
    go_wp2_with fail
    refine (HSP.out g1 _ HQA.out).mono ?_
    rintro e w3 ⟨rfl, hb3⟩
    have hbw3 : Below w.heap.size w w3 := hbw2.trans (hb3.mono hbw2.size)
    have HP3 : Hid (w3.heap[w.heap.size]? = some (.cells #[.string ⟨n.toArray⟩, .slice aa L.length ca] 24)) := (hb3.block w.heap.size hz2).trans HP2.out
    have hz3 : w.heap.size < w3.heap.size := Nat.lt_of_lt_of_le hz2 hb3.size
    obtain ⟨p0, p1⟩ := (pol_cells HP3.out).1
    clear HQA hb3 HP2 hbw2
    go_wp2_with fail
    refine (HT.out _ hbw3).mono ?_
    rintro e w4 ⟨⟨g3, rfl, hg3, hqa⟩, hb4⟩
    clear p0 p1
    have hbw4 : Below w.heap.size w w4 := hbw3.trans (hb4.mono hbw3.size)
    have HP4 : Hid (w4.heap[w.heap.size]? = some (.cells #[.string ⟨n.toArray⟩, .slice aa L.length ca] 24)) := (hb4.block w.heap.size hz3).trans HP3.out
    have hz4 : w.heap.size < w4.heap.size := Nat.lt_of_lt_of_le hz3 hb4.size
    have HQA : Hid (TgoRow w4 g3 L) := hqa
    clear hqa hg3 hb4 HP3 hbw3
    go_wp2_with fail
    refine (HI.out g3 _ (hbw4.alloc hbw4.size _) (HQA.out.kept ((Below.refl w4.heap.size w4).alloc (Nat.le_refl _) _))).mono ?_
    rintro e w5 ⟨rfl, hb5⟩
    have hb45 : Below w4.heap.size w4 w5 := ((Below.refl w4.heap.size w4).alloc (Nat.le_refl _) _).trans (hb5.mono (by simp))
    have hbw5 : Below w.heap.size w w5 := hbw4.trans (hb45.mono hbw4.size)
    have hz5 : w.heap.size < w5.heap.size := Nat.lt_of_lt_of_le hz4 hb45.size
    have hz45 : w4.heap.size < w5.heap.size := Nat.lt_of_lt_of_le (by simp) hb5.size
    have HC : Hid (∀ W, Below w5.heap.size w5 W → (W.cell? ⟨w.heap.size, 0, none⟩ = some (.string ⟨n.toArray⟩) ∧ W.cell? ⟨w.heap.size, 1, none⟩ = some (.slice aa L.length ca)) ∧
        (W.cell? ⟨w4.heap.size, 0, none⟩ = some (.string ⟨n.toArray⟩) ∧ W.cell? ⟨w4.heap.size, 1, none⟩ = some (.slice (some ⟨g3, 0, none⟩) L.length L.length)) ∧ Below w5.heap.size w5 W) := fun W hW =>
      ⟨(pol_cells ((hW.block w.heap.size hz5).trans ((hb45.block w.heap.size hz4).trans HP4.out))).1, (pol_cells ((hW.block w4.heap.size hz45).trans ((hb5.block w4.heap.size (by simp)).trans (tgt_new _ _)))).1, hW⟩
    have HT5 : Hid (∀ W, Below w5.heap.size w5 W → Calls Tryd.prog 6 #[.agg #[.string ⟨n.toArray⟩, .slice aa L.length ca]] W fun e w' => (∃ g, e = .returned (.agg #[.string ⟨n.toArray⟩, .slice (some ⟨g, 0, none⟩) L.length L.length]) ∧ W.heap.size ≤ g ∧ TgoRow w' g L) ∧ Below W.heap.size W w') := fun W hW => HT.out W (hbw5.trans (hW.mono hbw5.size))
    have HEQ5 : Hid (∀ g1 W, Below w5.heap.size w5 W → TgoRow W g1 L → Calls Tryd.prog 8 #[.agg #[.string ⟨n.toArray⟩, .slice (some ⟨g3, 0, none⟩) L.length L.length], .agg #[.string ⟨n.toArray⟩, .slice (some ⟨g1, 0, none⟩) L.length L.length]] W fun e w' => e = .returned (.bool true) ∧ Below W.heap.size W w') := fun g1 W hW h1 => HEQ.out g3 g1 W ((HQA.out.kept hb45).kept hW) h1
    have HTR : Hid (∀ W W', Below w5.heap.size w5 W → Below W.heap.size W W' → Below w5.heap.size w5 W') := fun W W' h1 h2 => h1.trans (h2.mono h1.size)
    have hbz : Below w5.heap.size w5 w5 := Below.refl _ _
    have hbd : Below w5.heap.size w5 w5.drew := (Below.refl _ _).drew
    clear hb5 hb45 hbw4 HP4 HQA HT HI HSP HEQ
    go_wp2_with fail
    go_region_held3 (fun W => (W.cell? ⟨w.heap.size, 0, none⟩ = some (.string ⟨n.toArray⟩) ∧ W.cell? ⟨w.heap.size, 1, none⟩ = some (.slice aa L.length ca)) ∧
        (W.cell? ⟨w4.heap.size, 0, none⟩ = some (.string ⟨n.toArray⟩) ∧ W.cell? ⟨w4.heap.size, 1, none⟩ = some (.slice (some ⟨g3, 0, none⟩) L.length L.length)) ∧ Below w5.heap.size w5 W) (first | exact HC.out _ (by assumption) | exact HC.out _ (Below.drew (by assumption)))
      (first
      | (go_at_call 6; refine (HT5.out _ (by assumption)).mono ?_; rintro e w6 ⟨⟨g5, rfl, _, hqa6⟩, hb6⟩; have hb56 := HTR.out _ _ (by assumption) hb6)
      | (go_at_call 8; refine (HEQ5.out _ _ (by assumption) (by assumption)).mono ?_; rintro e w7 ⟨rfl, hb7⟩; have hb57 := HTR.out _ _ (by assumption) hb7))
    have hbw7 := hbw5.trans (hb57.mono hbw5.size)
    go_wp2_with fail
    go_ret
    exact ⟨rfl, hbw7⟩
end Go.Proofs.YtoanloballaclaaDoor.goodPolicy
