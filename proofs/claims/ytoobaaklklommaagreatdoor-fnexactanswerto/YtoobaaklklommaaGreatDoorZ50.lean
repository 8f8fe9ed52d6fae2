import Derived.Test.YtoobaaklklommaaGreatDoorZ42
import Derived.Test.YtoobaaklklommaaGreatDoorZ49
import Derived.Test.YtoobaaklklommaaGreatDoorZ38
import Derived.Deep.RegionHeld3
namespace Go.Proofs.YtoobaaklklommaaGreatDoor
open Go.RowKit

/-! spec.AnswerTo. -/
def mtD (x : DonT) (c n : Int) : Bool := decide (x.1 = c) && decide (x.2.1 = n)
theorem has_found {L : List DonT} {c n : Int} {k : Nat} (hk : k < L.length) (h : ∀ j, (hj : j < L.length) → j < k → mtD (L[j]'hj) c n = false) (hm : mtD (L[k]'hk) c n = true) : hasD L c n = some (L[k]'hk) := by
  unfold hasD
  rw [List.find?_eq_some_iff_getElem]
  refine ⟨hm, k, hk, rfl, fun j hj => ?_⟩
  have := h j (by omega) hj
  unfold mtD at this
  rw [this]; rfl
theorem has_none {L : List DonT} {c n : Int} (h : ∀ j, (hj : j < L.length) → mtD (L[j]'hj) c n = false) : hasD L c n = none := by
  unfold hasD
  rw [List.find?_eq_none]
  intro x hx
  obtain ⟨j, hj, rfl⟩ := List.getElem_of_mem hx
  have := h j hj
  unfold mtD at this
  rw [this]; simp
set_option maxRecDepth 20000 in
set_option maxHeartbeats 4000000 in
theorem sAnswerTo_any (nm : ByteArray) (ct : Int) (v vl : Value) (many c n : Int) (Q : List (List UInt8 × Int × Int × List UInt8)) (L : List DonT) (w : World) (hr : RRow w v Q) (hd : DonRow w vl L) (hap : nm.size ≤ 1048576) (hq : Q.length ≤ 1048576) (hx : Hid (∀ x ∈ Q, x.1.length ≤ 1048576 ∧ x.2.2.2.length ≤ 1048576)) :
    Calls Tryz.prog 32 #[CtlV nm ct v vl many, .int .i64 c, .int .i64 n] w fun e w' => e = .returned (.tuple #[donV ((ansD nm.data.toList ct Q L many c n).getD zD), .bool (ansD nm.data.toList ct Q L many c n).isSome]) ∧ Below w.heap.size w w' := by
  unfold CtlV
  have HG : Hid (∀ W, Below w.heap.size w W → Calls Tryz.prog 10 #[CtlV nm ct v vl many] W fun e w' => e = .returned (.bool (ctlB nm.data.toList ct Q L many)) ∧ Below W.heap.size W w') := fun W hW => sGoodControl_any nm ct v vl many Q L W (hr.kept hW) (hd.kept hW) hap hq hx
  obtain ⟨aq, capq, rfl, _⟩ := id hr
  obtain ⟨a, cap, rfl, hcap, hmax, HROW⟩ := don_value hd
  unfold CtlV at HG
  obtain ⟨W0, hW0⟩ : ∃ W0, W0 = (w.alloc (.cells #[.string nm, .int .i64 ct, .slice aq Q.length capq, .slice a L.length cap, .int .i64 many] 35)).alloc (.cells #[.int .i64 0, .int .i64 0, .int .i64 0, .int .i64 0] 44) := ⟨_, rfl⟩
  have HW0 : Hid ((w.alloc (.cells #[.string nm, .int .i64 ct, .slice aq Q.length capq, .slice a L.length cap, .int .i64 many] 35)).alloc (.cells #[.int .i64 0, .int .i64 0, .int .i64 0, .int .i64 0] 44) = W0) := hW0.symm
  have hs1 : (w.alloc (.cells #[.string nm, .int .i64 ct, .slice aq Q.length capq, .slice a L.length cap, .int .i64 many] 35)).heap.size = w.heap.size + 1 := by simp
  have hb0 : Below w.heap.size w W0 := by rw [hW0]; exact ((Below.refl _ _).alloc (Nat.le_refl _) _).alloc (by simp) _
  have hz0 : W0.heap.size = w.heap.size + 1 + 1 := by rw [hW0]; simp
  have hx0 : W0.heap[w.heap.size]? = some (.cells #[.string nm, .int .i64 ct, .slice aq Q.length capq, .slice a L.length cap, .int .i64 many] 35) := by rw [hW0, Below.heap_alloc _ _ _ (by omega)]; exact blk_new _ _
  have hy0 : W0.heap[w.heap.size + 1]? = some (.cells #[.int .i64 0, .int .i64 0, .int .i64 0, .int .i64 0] 44) := by rw [hW0, ← hs1]; exact blk_new _ _
  have HC : Hid (∀ W, Below W0.heap.size W0 W → (W.cell? ⟨w.heap.size, 0, none⟩ = some (.string nm) ∧ W.cell? ⟨w.heap.size, 1, none⟩ = some (.int .i64 ct) ∧ W.cell? ⟨w.heap.size, 2, none⟩ = some (.slice aq Q.length capq) ∧ W.cell? ⟨w.heap.size, 3, none⟩ = some (.slice a L.length cap) ∧ W.cell? ⟨w.heap.size, 4, none⟩ = some (.int .i64 many))) := fun W hW => (ctl_cells ((hW.block _ (by omega)).trans hx0)).1
  have HY : Hid (∀ W, Below W0.heap.size W0 W → W.heap[w.heap.size + 1]? = some (.cells #[.int .i64 0, .int .i64 0, .int .i64 0, .int .i64 0] 44) ∧ (W.cell? ⟨w.heap.size + 1, 0, none⟩ = some (.int .i64 0) ∧ W.cell? ⟨w.heap.size + 1, 1, none⟩ = some (.int .i64 0) ∧ W.cell? ⟨w.heap.size + 1, 2, none⟩ = some (.int .i64 0) ∧ W.cell? ⟨w.heap.size + 1, 3, none⟩ = some (.int .i64 0)) ∧ W.frozen? ⟨w.heap.size + 1, 0, none⟩ = false ∧ W.frozen? ⟨w.heap.size + 1, 1, none⟩ = false ∧ W.frozen? ⟨w.heap.size + 1, 2, none⟩ = false ∧ W.frozen? ⟨w.heap.size + 1, 3, none⟩ = false) := fun W hW => by
    have h9 : W.heap[w.heap.size + 1]? = some (.cells #[.int .i64 0, .int .i64 0, .int .i64 0, .int .i64 0] 44) := (hW.block _ (by omega)).trans hy0
    refine ⟨h9, don_cells h9, ?_, ?_, ?_, ?_⟩
    all_goals (unfold World.frozen?; rw [h9]; simp)
  have HB0 : Hid (Below w.heap.size w W0) := hb0
  obtain ⟨A, hA⟩ : ∃ A, A = ansD nm.data.toList ct Q L many c n := ⟨_, rfl⟩
  have HA : Hid (A = if ctlB nm.data.toList ct Q L many then hasD L c n else none) := hA
  rw [← hA]
  clear hr hd hW0 hx0 hy0 hz0 hs1 hA hx hap hq
  obtain ⟨k0, k1, k2, k3, k4⟩ := HC.out W0 (Below.refl _ _)
  go_enter Tryz.func32, Tryz.ntmps32
  go_wp2_with (rw [HW0.out])
  refine (HG.out _ HB0.out).mono ?_
  rintro e w1 ⟨rfl, hb1⟩
  clear k0 k1 k2 k3 k4
  have hbw1 := HB0.out.trans (hb1.mono HB0.out.size)
  cases hg : ctlB nm.data.toList ct Q L many with
  | false =>
    have HA2 : Hid (A = none) := by have h := HA.out; rw [hg] at h; exact h
    obtain ⟨hy, ⟨y0, y1, y2, y3⟩, f0, f1, f2, f3⟩ := HY.out w1 hb1
    have HYY : Hid (w1.heap[w.heap.size + 1]? = some (.cells #[.int .i64 0, .int .i64 0, .int .i64 0, .int .i64 0] 44)) := hy
    clear HA hg hy
    go_wp2_with fail
    (try simp only [Exit.inBlock, Exit.then])
    refine bodyPost_ret (results_row_tmp rfl _ _ (w.heap.size + 1) 44 #[.int .i64 0, .int .i64 0, .int .i64 0, .int .i64 0] (0, 0) _ (.bool false) rfl rfl ?_ Tryz.underlying44 rfl (by kernel_rfl)) rfl ⟨by rw [HA2.out]; rfl, ?_⟩
    · exact putD4_heap (x := zD) HYY.out
    · exact putD4_below (o := 0) hbw1 (by omega) zD
  | true =>
    have HA2 : Hid (A = hasD L c n) := by have h := HA.out; rw [hg] at h; exact h
    obtain ⟨k0, k1, k2, k3, k4⟩ := HC.out w1 hb1
    clear HA hg HG
    go_wp2_with fail
    clear k0 k1 k2 k3 k4
    go_loopw [17] (fun i wr => ∃ k : Nat, k ≤ L.length ∧ i = .int .i64 (k : Int) ∧ Hid (∀ j, (hj : j < L.length) → j < k → mtD (L[j]'hj) c n = false) ∧ (Below w.heap.size w wr ∧ Below W0.heap.size W0 wr)) (fun i _ => L.length - (intOf i).toNat)
    case atStart => exact ⟨0, Nat.zero_le _, rfl, fun j _ h => absurd h (Nat.not_lt_zero j), hbw1, hb1⟩
    case round =>
      obtain ⟨k, hk, rfl, HN, hb⟩ := hrel
      obtain ⟨hy, ⟨y0, y1, y2, y3⟩, f0, f1, f2, f3⟩ := HY.out wr hb.2
      have HYY : Hid (wr.heap[w.heap.size + 1]? = some (.cells #[.int .i64 0, .int .i64 0, .int .i64 0, .int .i64 0] 44)) := hy
      clear hbw1 hb1
      by_cases hlt : k < L.length
      · obtain ⟨b, o, ha, hbl, hcel⟩ := HROW.out (by omega)
        subst ha
        have hx1 := (hcel k hlt).kept hb.1
        have HF : Hid (mtD (L[k]'hlt) c n = true → hasD L c n = some (L[k]'hlt)) := fun h => has_found hlt HN.out h
        have HNX : Hid (mtD (L[k]'hlt) c n = false → ∀ j, (hj : j < L.length) → j < k + 1 → mtD (L[j]'hj) c n = false) := fun h j hj hjk => by
          rcases Nat.lt_or_ge j k with h1 | h1
          · exact HN.out j hj h1
          · obtain rfl : j = k := by omega
            exact h
        obtain ⟨x, hxe⟩ : ∃ x, x = L[k]'hlt := ⟨_, rfl⟩
        rw [← hxe] at hx1 HF HNX
        obtain ⟨c0, c1, c2, c3⟩ := hx1.cells
        have hki : (k : Int) < (L.length : Int) := by omega
        obtain ⟨W1, hW1⟩ : ∃ W1, W1 = wr.alloc (.cells #[.int .i64 x.1, .int .i64 x.2.1, .int .i64 x.2.2.1, .int .i64 x.2.2.2] 44) := ⟨_, rfl⟩
        have HW1 : Hid (wr.alloc (.cells #[.int .i64 x.1, .int .i64 x.2.1, .int .i64 x.2.2.1, .int .i64 x.2.2.2] 44) = W1) := hW1.symm
        have hb1 : Below wr.heap.size wr W1 := by rw [hW1]; exact (Below.refl _ _).alloc (Nat.le_refl _) _
        have hxb : W1.heap[wr.heap.size]? = some (.cells #[.int .i64 x.1, .int .i64 x.2.1, .int .i64 x.2.2.1, .int .i64 x.2.2.2] 44) := by rw [hW1]; exact blk_new _ _
        obtain ⟨d0, d1, d2, d3⟩ := don_cells hxb
        have hbw : Below w.heap.size w W1 ∧ Below W0.heap.size W0 W1 := ⟨hb.1.trans (hb1.mono hb.1.size), hb.2.trans (hb1.mono hb.2.size)⟩
        obtain ⟨hy1, ⟨q0, q1, q2, q3⟩, g0, g1, g2, g3⟩ := HY.out W1 hbw.2
        have HYW : Hid (W1.heap[w.heap.size + 1]? = some (.cells #[.int .i64 0, .int .i64 0, .int .i64 0, .int .i64 0] 44)) := hy1
        have HBW : Hid (Below w.heap.size w W1 ∧ Below W0.heap.size W0 W1) := hbw
        clear hcel hxe hx1 hW1 hxb hb1 hbw hy hy1
        by_cases hc : x.1 = c
        · have ec : (x.1 == c) = true := by simp [hc]
          by_cases hn : x.2.1 = n
          · have en : (x.2.1 == n) = true := by simp [hn]
            have HA3 : Hid (A = some x) := HA2.out.trans (HF.out (by unfold mtD; simp [hc, hn]))
            clear hc hn HF HNX
            go_wp2_with (rw [HW1.out])
            (try simp only [Exit.inBlock, Exit.then])
            refine bodyPost_ret (results_row_tmp rfl _ _ (w.heap.size + 1) 44 #[.int .i64 x.1, .int .i64 x.2.1, .int .i64 x.2.2.1, .int .i64 x.2.2.2] (0, 0) _ (.bool true) rfl rfl ?_ Tryz.underlying44 rfl (by kernel_rfl)) rfl ⟨by rw [HA3.out]; rfl, ?_⟩
            · exact putD4_heap HYW.out
            · exact putD4_below (o := 0) HBW.out.1 (by omega) x
          · have en : (x.2.1 == n) = false := by simp [hn]
            have HN2 : Hid (∀ j, (hj : j < L.length) → j < k + 1 → mtD (L[j]'hj) c n = false) := HNX.out (by unfold mtD; simp [hn])
            clear hc hn HF HNX
            go_wp2_with (rw [HW1.out])
            go_roundw
            case rel => exact ⟨k + 1, by omega, by go_num, HN2, HBW.out⟩
            case measure => simp [intOf]; omega
        · have ec : (x.1 == c) = false := by simp [hc]
          have HN2 : Hid (∀ j, (hj : j < L.length) → j < k + 1 → mtD (L[j]'hj) c n = false) := HNX.out (by unfold mtD; simp [hc])
          clear hc HF HNX
          go_wp2_with (rw [HW1.out])
          go_roundw
          case rel => exact ⟨k + 1, by omega, by go_num, HN2, HBW.out⟩
          case measure => simp [intOf]; omega
      · have HA3 : Hid (A = none) := HA2.out.trans (has_none (fun j hj => HN.out j hj (by omega)))
        have hbx := hb.1
        clear hy
        go_wp2_with fail
        (try simp only [Exit.inBlock, Exit.then])
        refine bodyPost_ret (results_row_tmp rfl _ _ (w.heap.size + 1) 44 #[.int .i64 0, .int .i64 0, .int .i64 0, .int .i64 0] (0, 0) _ (.bool false) rfl rfl ?_ Tryz.underlying44 rfl (by kernel_rfl)) rfl ⟨by rw [HA3.out]; rfl, ?_⟩
        · exact putD4_heap (x := zD) HYY.out
        · exact putD4_below (o := 0) hbx (by omega) zD
end Go.Proofs.YtoobaaklklommaaGreatDoor

namespace Go.Proofs.YtoobaaklklommaaGreatDoor.answerTo
open Go.RowKit

set_option maxRecDepth 20000 in
set_option maxHeartbeats 8000000 in
theorem walk (nm : ByteArray) (ct : Int) (va vl : Value) (many : Int) (Q : List (List UInt8 × Int × Int × List UInt8)) (L : List DonT) (cl2 no2 : Int) (w : World) (hn : nm.size ≤ maxLen) (ha : RRow w va Q) (hxa : Hid (∀ x ∈ Q, x.1.length ≤ maxLen ∧ x.2.2.2.length ≤ maxLen)) (hd : DonRow w vl L) (_ : -9223372036854775808 ≤ cl2 ∧ cl2 ≤ 9223372036854775807) (_ : -9223372036854775808 ≤ no2 ∧ no2 ≤ 9223372036854775807) (hE : EnvZ w) :
    Calls Tryz.prog 6 #[CtlV nm ct va vl many, .int .i64 cl2, .int .i64 no2] w fun e w' => e = .returned (.bool true) ∧ Below w.heap.size w w' := by
  obtain ⟨aa, ca, hva, _, hca, _⟩ := id ha
  obtain ⟨al, cl, hvl, _, hcl, _⟩ := id hd
  obtain ⟨ok, hok⟩ : ∃ ok, ok = (ansD nm.data.toList ct Q L many cl2 no2).isSome := ⟨_, rfl⟩
  have HOK : Hid (ok = (ansD nm.data.toList ct Q L many cl2 no2).isSome) := hok
  obtain ⟨d, hdd⟩ : ∃ d, d = (ansD nm.data.toList ct Q L many cl2 no2).getD zD := ⟨_, rfl⟩
  have HDD : Hid (d = (ansD nm.data.toList ct Q L many cl2 no2).getD zD) := hdd
  have HSZ : Hid (∀ W, Below w.heap.size w W → Calls Tryz.prog 9 #[CtlV nm ct va vl many, .int .i64 1048576] W fun e w' => (∃ q : Int, e = .returned (.int .i64 q) ∧ (q = -1 ∨ (0 ≤ q ∧ nm.size ≤ 1048576 ∧ Q.length ≤ 1048576 ∧ (∀ x ∈ Q, x.1.length ≤ 1048576 ∧ x.2.2.2.length ≤ 1048576) ∧ L.length ≤ 1048576))) ∧ Below W.heap.size W w') := fun W hW => szControl_any nm ct va vl many Q L W hn (ha.kept hW) (hd.kept hW) hxa
  have HTO : Hid (Q.length ≤ 1048576 → L.length ≤ 1048576 → ∀ W, Below w.heap.size w W → Calls Tryz.prog 11 #[CtlV nm ct va vl many] W fun e w' => (∃ g gd, e = .returned (CtlV nm ct (.slice (some ⟨g, 0, none⟩) Q.length Q.length) (.slice (some ⟨gd, 0, none⟩) L.length L.length) many) ∧ W.heap.size ≤ g ∧ W.heap.size ≤ gd ∧ g ≠ gd ∧ QRow w' g Q ∧ DoR w' gd L) ∧ Below W.heap.size W w') := fun h1 h2 W hW => toControl_any nm ct va vl many Q L W (ha.kept hW) (hd.kept hW) h1 h2
  subst hva hvl
  clear ha hd hok hdd
  unfold CtlV at HSZ HTO ⊢
  go_enter Tryz.func6, Tryz.ntmps6
  go_wp2_with fail
  refine (HSZ.out _ ((Below.refl w.heap.size w).alloc (Nat.le_refl _) _)).mono ?_
  rintro e w1 ⟨⟨q, rfl, hq⟩, hb1⟩
  have hbw1 : Below w.heap.size w w1 := ((Below.refl w.heap.size w).alloc (Nat.le_refl _) _).trans (hb1.mono (by simp))
  have HP1 : Hid (w1.heap[w.heap.size]? = some (.cells #[.string nm, .int .i64 ct, .slice aa Q.length ca, .slice al L.length cl, .int .i64 many] 27)) := (hb1.block w.heap.size (by simp)).trans (blk_new _ _)
  have hz1 : w.heap.size < w1.heap.size := Nat.lt_of_lt_of_le (by simp) hb1.size
  clear hb1
  rcases hq with rfl | ⟨hq0, hn', hQ, hQ2, hL⟩
  · go_wp2_with fail
    go_ret
    exact ⟨rfl, hbw1⟩
  · have HQ2 : Hid (∀ x ∈ Q, x.1.length ≤ 1048576 ∧ x.2.2.2.length ≤ 1048576) := hQ2
    have HT : Hid (∀ W, Below w.heap.size w W → Calls Tryz.prog 11 #[.agg #[.string nm, .int .i64 ct, .slice aa Q.length ca, .slice al L.length cl, .int .i64 many]] W fun e w' => (∃ g gd, e = .returned (.agg #[.string nm, .int .i64 ct, .slice (some ⟨g, 0, none⟩) Q.length Q.length, .slice (some ⟨gd, 0, none⟩) L.length L.length, .int .i64 many]) ∧ W.heap.size ≤ g ∧ W.heap.size ≤ gd ∧ g ≠ gd ∧ QRow w' g Q ∧ DoR w' gd L) ∧ Below W.heap.size W w') := HTO.out hQ hL
    have HSP : Hid (∀ g gd W, QRow W g Q → DoR W gd L → Calls Tryz.prog 32 #[.agg #[.string nm, .int .i64 ct, .slice (some ⟨g, 0, none⟩) Q.length Q.length, .slice (some ⟨gd, 0, none⟩) L.length L.length, .int .i64 many], .int .i64 cl2, .int .i64 no2] W fun e w' => e = .returned (.tuple #[.agg #[.int .i64 d.1, .int .i64 d.2.1, .int .i64 d.2.2.1, .int .i64 d.2.2.2], .bool ok]) ∧ Below W.heap.size W w') := fun g gd W h1 h2 => by
      rw [HOK.out, HDD.out]; exact sAnswerTo_any nm ct _ _ many cl2 no2 Q L W (h1.row (Nat.le_refl _) (by unfold maxLen; omega)) (h2.row1 hL) hn' hQ HQ2
    have HI : Hid (∀ g gd W, EnvZ W → QRow W g Q → DoR W gd L → Calls Tryz.prog 33 #[.agg #[.string nm, .int .i64 ct, .slice (some ⟨g, 0, none⟩) Q.length Q.length, .slice (some ⟨gd, 0, none⟩) L.length L.length, .int .i64 many], .int .i64 cl2, .int .i64 no2] W fun e w' => e = .returned (.tuple #[.agg #[.int .i64 d.1, .int .i64 d.2.1, .int .i64 d.2.2.1, .int .i64 d.2.2.2], .bool ok]) ∧ Below W.heap.size W w') := fun g gd W hW h1 h2 => by
      rw [HOK.out, HDD.out]; exact iAnswerTo_any nm ct _ _ many cl2 no2 Q L W (h1.row (Nat.le_refl _) (by unfold maxLen; omega)) (h2.row1 hL) hn' HQ2 hW hL
    have HEQ : Hid (∀ g1 d1 g2 d2 W, QRow W g1 Q → DoR W d1 L → QRow W g2 Q → DoR W d2 L → Calls Tryz.prog 13 #[.agg #[.string nm, .int .i64 ct, .slice (some ⟨g1, 0, none⟩) Q.length Q.length, .slice (some ⟨d1, 0, none⟩) L.length L.length, .int .i64 many], .agg #[.string nm, .int .i64 ct, .slice (some ⟨g2, 0, none⟩) Q.length Q.length, .slice (some ⟨d2, 0, none⟩) L.length L.length, .int .i64 many]] W fun e w' => e = .returned (.bool true) ∧ Below W.heap.size W w') := fun g1 d1 g2 d2 W h1 h2 h3 h4 => eqControl_same nm ct _ _ _ _ many Q L W (h1.row (Nat.le_refl _) (by unfold maxLen; omega)) (h3.row (Nat.le_refl _) (by unfold maxLen; omega)) (h2.row1 hL) (h4.row1 hL)
    have HED : Hid (∀ W, Calls Tryz.prog 18 #[.agg #[.int .i64 d.1, .int .i64 d.2.1, .int .i64 d.2.2.1, .int .i64 d.2.2.2], .agg #[.int .i64 d.1, .int .i64 d.2.1, .int .i64 d.2.2.1, .int .i64 d.2.2.2]] W fun e w' => e = .returned (.bool true) ∧ Below W.heap.size W w') := fun W => eqDone_same d W
    have e2 : (ok != ok) = false := by simp
    obtain ⟨⟨p0, p1, p2, p3, p4⟩, _⟩ := ctl_cells HP1.out
    clear hQ2 HTO HSZ HOK HDD
    go_wp2_with fail
    refine (HT.out _ hbw1).mono ?_
    rintro e w2 ⟨⟨g1, d1, rfl, _, _, _, hqa, hda⟩, hb2⟩
    clear p0 p1 p2 p3 p4
    have hbw2 : Below w.heap.size w w2 := hbw1.trans (hb2.mono hbw1.size)
    have HP2 : Hid (w2.heap[w.heap.size]? = some (.cells #[.string nm, .int .i64 ct, .slice aa Q.length ca, .slice al L.length cl, .int .i64 many] 27)) := (hb2.block w.heap.size hz1).trans HP1.out
    have hz2 : w.heap.size < w2.heap.size := Nat.lt_of_lt_of_le hz1 hb2.size
    have HQA : Hid (QRow w2 g1 Q) := hqa
    have HDA : Hid (DoR w2 d1 L) := hda
    clear hqa hda hb2 HP1 hbw1
    go_wp2_with fail
    refine (HSP.out g1 d1 _ HQA.out HDA.out).mono ?_
    rintro e w3' ⟨rfl, hb3'⟩
    -- the specification's answer in its box
    obtain ⟨w3, hw3⟩ : ∃ w3, w3 = w3'.alloc (.cells #[.int .i64 d.1, .int .i64 d.2.1, .int .i64 d.2.2.1, .int .i64 d.2.2.2] 44) := ⟨_, rfl⟩
    have HW3 : Hid (w3'.alloc (.cells #[.int .i64 d.1, .int .i64 d.2.1, .int .i64 d.2.2.1, .int .i64 d.2.2.2] 44) = w3) := hw3.symm
    obtain ⟨ba, hba⟩ : ∃ ba, ba = w3'.heap.size := ⟨_, rfl⟩
    have HBA : Hid (ba = w3'.heap.size) := hba
    have hb3 : Below w2.heap.size w2 w3 := by rw [hw3]; exact hb3'.trans (((Below.refl w3'.heap.size w3').alloc (Nat.le_refl _) _).mono hb3'.size)
    have HD3 : Hid (w3.heap[ba]? = some (.cells #[.int .i64 d.1, .int .i64 d.2.1, .int .i64 d.2.2.1, .int .i64 d.2.2.2] 44)) := by show _ = _; rw [hw3, hba]; exact blk_new _ _
    have hza : ba < w3.heap.size := (Array.getElem?_eq_some_iff.1 HD3.out).1
    have hbw3 : Below w.heap.size w w3 := hbw2.trans (hb3.mono hbw2.size)
    have HP3 : Hid (w3.heap[w.heap.size]? = some (.cells #[.string nm, .int .i64 ct, .slice aa Q.length ca, .slice al L.length cl, .int .i64 many] 27)) := (hb3.block w.heap.size hz2).trans HP2.out
    have hz3 : w.heap.size < w3.heap.size := Nat.lt_of_lt_of_le hz2 hb3.size
    obtain ⟨⟨p0, p1, p2, p3, p4⟩, _⟩ := ctl_cells HP3.out
    clear HQA HDA hb3 hb3' HP2 hbw2 hw3 hba
    go_wp2_with (rw [HW3.out, ← HBA.out])
    refine (HT.out _ hbw3).mono ?_
    rintro e w4' ⟨⟨g3, d3, rfl, _, _, _, hqa, hda⟩, hb4'⟩
    clear p0 p1 p2 p3 p4
    obtain ⟨w4, hw4⟩ : ∃ w4, w4 = w4'.alloc (.cells #[.string nm, .int .i64 ct, .slice (some ⟨g3, 0, none⟩) Q.length Q.length, .slice (some ⟨d3, 0, none⟩) L.length L.length, .int .i64 many] 35) := ⟨_, rfl⟩
    have HW4 : Hid (w4'.alloc (.cells #[.string nm, .int .i64 ct, .slice (some ⟨g3, 0, none⟩) Q.length Q.length, .slice (some ⟨d3, 0, none⟩) L.length L.length, .int .i64 many] 35) = w4) := hw4.symm
    obtain ⟨bx, hbx⟩ : ∃ bx, bx = w4'.heap.size := ⟨_, rfl⟩
    have HBX : Hid (bx = w4'.heap.size) := hbx
    have hb44 : Below w4'.heap.size w4' w4 := by rw [hw4]; exact (Below.refl _ _).alloc (Nat.le_refl _) _
    have hb4 : Below w3.heap.size w3 w4 := hb4'.trans (hb44.mono hb4'.size)
    have HX4 : Hid (w4.heap[bx]? = some (.cells #[.string nm, .int .i64 ct, .slice (some ⟨g3, 0, none⟩) Q.length Q.length, .slice (some ⟨d3, 0, none⟩) L.length L.length, .int .i64 many] 35)) := by show _ = _; rw [hw4, hbx]; exact blk_new _ _
    have hzx : bx < w4.heap.size := (Array.getElem?_eq_some_iff.1 HX4.out).1
    have hbw4 : Below w.heap.size w w4 := hbw3.trans (hb4.mono hbw3.size)
    have HP4 : Hid (w4.heap[w.heap.size]? = some (.cells #[.string nm, .int .i64 ct, .slice aa Q.length ca, .slice al L.length cl, .int .i64 many] 27)) := (hb4.block w.heap.size hz3).trans HP3.out
    have HD4 : Hid (w4.heap[ba]? = some (.cells #[.int .i64 d.1, .int .i64 d.2.1, .int .i64 d.2.2.1, .int .i64 d.2.2.2] 44)) := (hb4.block ba hza).trans HD3.out
    have hz4 : w.heap.size < w4.heap.size := Nat.lt_of_lt_of_le hz3 hb4.size
    have hza4 : ba < w4.heap.size := Nat.lt_of_lt_of_le hza hb4.size
    have HQA : Hid (QRow w4 g3 Q) := hqa.kept hb44
    have HDA : Hid (DoR w4 d3 L) := hda.kept hb44
    obtain ⟨⟨x0, x1, x2, x3, x4⟩, _⟩ := ctl_cells HX4.out
    clear hqa hda hb4 hb4' hb44 HP3 HD3 hbw3 hw4 hbx
    go_wp2_with (rw [HW4.out, ← HBX.out])
    refine (HI.out g3 d3 _ (hE.below hbw4) HQA.out HDA.out).mono ?_
    rintro e w5' ⟨rfl, hb5'⟩
    clear x0 x1 x2 x3 x4
    obtain ⟨w5, hw5⟩ : ∃ w5, w5 = w5'.alloc (.cells #[.int .i64 d.1, .int .i64 d.2.1, .int .i64 d.2.2.1, .int .i64 d.2.2.2] 44) := ⟨_, rfl⟩
    have HW5 : Hid (w5'.alloc (.cells #[.int .i64 d.1, .int .i64 d.2.1, .int .i64 d.2.2.1, .int .i64 d.2.2.2] 44) = w5) := hw5.symm
    obtain ⟨bg, hbg⟩ : ∃ bg, bg = w5'.heap.size := ⟨_, rfl⟩
    have HBG : Hid (bg = w5'.heap.size) := hbg
    have hb5 : Below w4.heap.size w4 w5 := by rw [hw5]; exact hb5'.trans (((Below.refl w5'.heap.size w5').alloc (Nat.le_refl _) _).mono hb5'.size)
    have HG5 : Hid (w5.heap[bg]? = some (.cells #[.int .i64 d.1, .int .i64 d.2.1, .int .i64 d.2.2.1, .int .i64 d.2.2.2] 44)) := by show _ = _; rw [hw5, hbg]; exact blk_new _ _
    have hbw5 : Below w.heap.size w w5 := hbw4.trans (hb5.mono hbw4.size)
    have HP5 : Hid (w5.heap[w.heap.size]? = some (.cells #[.string nm, .int .i64 ct, .slice aa Q.length ca, .slice al L.length cl, .int .i64 many] 27)) := (hb5.block w.heap.size hz4).trans HP4.out
    have HD5 : Hid (w5.heap[ba]? = some (.cells #[.int .i64 d.1, .int .i64 d.2.1, .int .i64 d.2.2.1, .int .i64 d.2.2.2] 44)) := (hb5.block ba hza4).trans HD4.out
    have HX5 : Hid (w5.heap[bx]? = some (.cells #[.string nm, .int .i64 ct, .slice (some ⟨g3, 0, none⟩) Q.length Q.length, .slice (some ⟨d3, 0, none⟩) L.length L.length, .int .i64 many] 35)) := (hb5.block bx hzx).trans HX4.out
    have HQ5 : Hid (QRow w5 g3 Q) := HQA.out.kept hb5
    have HA5 : Hid (DoR w5 d3 L) := HDA.out.kept hb5
    have hz5 : w.heap.size < w5.heap.size := Nat.lt_of_lt_of_le hz4 hb5.size
    have hzx5 : bx < w5.heap.size := Nat.lt_of_lt_of_le hzx hb5.size
    obtain ⟨s0, s1, s2, s3⟩ := don_cells HD5.out
    obtain ⟨r0, r1, r2, r3⟩ := don_cells HG5.out
    clear hb5 hb5' HQA HDA HP4 HD4 HX4 hbw4 hw5 hbg
    go_wp2_with (rw [HW5.out, ← HBG.out])
    refine (HED.out _).mono ?_
    rintro e w6 ⟨rfl, hb6⟩
    clear s0 s1 s2 s3 r0 r1 r2 r3
    have hbw6 : Below w.heap.size w w6 := hbw5.trans (hb6.mono hbw5.size)
    have HC : Hid (∀ W, Below w6.heap.size w6 W → (W.cell? ⟨w.heap.size, 0, none⟩ = some (.string nm) ∧ W.cell? ⟨w.heap.size, 1, none⟩ = some (.int .i64 ct) ∧ W.cell? ⟨w.heap.size, 2, none⟩ = some (.slice aa Q.length ca) ∧ W.cell? ⟨w.heap.size, 3, none⟩ = some (.slice al L.length cl) ∧ W.cell? ⟨w.heap.size, 4, none⟩ = some (.int .i64 many)) ∧ (W.cell? ⟨bx, 0, none⟩ = some (.string nm) ∧ W.cell? ⟨bx, 1, none⟩ = some (.int .i64 ct) ∧ W.cell? ⟨bx, 2, none⟩ = some (.slice (some ⟨g3, 0, none⟩) Q.length Q.length) ∧ W.cell? ⟨bx, 3, none⟩ = some (.slice (some ⟨d3, 0, none⟩) L.length L.length) ∧ W.cell? ⟨bx, 4, none⟩ = some (.int .i64 many)) ∧ Below w6.heap.size w6 W) := fun W hW =>
      ⟨(ctl_cells ((hW.block w.heap.size (Nat.lt_of_lt_of_le hz5 hb6.size)).trans ((hb6.block w.heap.size hz5).trans HP5.out))).1, (ctl_cells ((hW.block bx (Nat.lt_of_lt_of_le hzx5 hb6.size)).trans ((hb6.block bx hzx5).trans HX5.out))).1, hW⟩
    have HT5 : Hid (∀ W, Below w6.heap.size w6 W → Calls Tryz.prog 11 #[.agg #[.string nm, .int .i64 ct, .slice aa Q.length ca, .slice al L.length cl, .int .i64 many]] W fun e w' => (∃ g gd, e = .returned (.agg #[.string nm, .int .i64 ct, .slice (some ⟨g, 0, none⟩) Q.length Q.length, .slice (some ⟨gd, 0, none⟩) L.length L.length, .int .i64 many]) ∧ W.heap.size ≤ g ∧ W.heap.size ≤ gd ∧ g ≠ gd ∧ QRow w' g Q ∧ DoR w' gd L) ∧ Below W.heap.size W w') := fun W hW => HT.out W (hbw6.trans (hW.mono hbw6.size))
    have HEQ5 : Hid (∀ g gd W, Below w6.heap.size w6 W → QRow W g Q → DoR W gd L → Calls Tryz.prog 13 #[.agg #[.string nm, .int .i64 ct, .slice (some ⟨g3, 0, none⟩) Q.length Q.length, .slice (some ⟨d3, 0, none⟩) L.length L.length, .int .i64 many], .agg #[.string nm, .int .i64 ct, .slice (some ⟨g, 0, none⟩) Q.length Q.length, .slice (some ⟨gd, 0, none⟩) L.length L.length, .int .i64 many]] W fun e w' => e = .returned (.bool true) ∧ Below W.heap.size W w') := fun g gd W hW h1 h2 => HEQ.out g3 d3 g gd W ((HQ5.out.kept hb6).kept hW) ((HA5.out.kept hb6).kept hW) h1 h2
    have HTR : Hid (∀ W W', Below w6.heap.size w6 W → Below W.heap.size W W' → Below w6.heap.size w6 W') := fun W W' h1 h2 => h1.trans (h2.mono h1.size)
    have hbz : Below w6.heap.size w6 w6 := Below.refl _ _
    have hbd : Below w6.heap.size w6 w6.drew := (Below.refl _ _).drew
    clear hb6 hbw5 HP5 HD5 HX5 HG5 HQ5 HA5 HT HI HSP HEQ HED
    go_wp2_with fail
    go_region_held3 (fun W => (W.cell? ⟨w.heap.size, 0, none⟩ = some (.string nm) ∧ W.cell? ⟨w.heap.size, 1, none⟩ = some (.int .i64 ct) ∧ W.cell? ⟨w.heap.size, 2, none⟩ = some (.slice aa Q.length ca) ∧ W.cell? ⟨w.heap.size, 3, none⟩ = some (.slice al L.length cl) ∧ W.cell? ⟨w.heap.size, 4, none⟩ = some (.int .i64 many)) ∧ (W.cell? ⟨bx, 0, none⟩ = some (.string nm) ∧ W.cell? ⟨bx, 1, none⟩ = some (.int .i64 ct) ∧ W.cell? ⟨bx, 2, none⟩ = some (.slice (some ⟨g3, 0, none⟩) Q.length Q.length) ∧ W.cell? ⟨bx, 3, none⟩ = some (.slice (some ⟨d3, 0, none⟩) L.length L.length) ∧ W.cell? ⟨bx, 4, none⟩ = some (.int .i64 many)) ∧ Below w6.heap.size w6 W) (first | exact HC.out _ (by assumption) | exact HC.out _ (Below.drew (by assumption)))
      (first
      | (go_at_call 11; refine (HT5.out _ (by assumption)).mono ?_; rintro e w7 ⟨⟨g5, d5, rfl, _, _, _, hqa6, hda6⟩, hb7⟩; have hb67 := HTR.out _ _ (by assumption) hb7)
      | (go_at_call 13; refine (HEQ5.out _ _ _ (by assumption) (by assumption) (by assumption)).mono ?_; rintro e w8 ⟨rfl, hb8⟩; have hb68 := HTR.out _ _ (by assumption) hb8))
    have hbw8 := hbw6.trans (hb68.mono hbw6.size)
    go_wp2_with fail
    go_ret
    exact ⟨rfl, hbw8⟩
end Go.Proofs.YtoobaaklklommaaGreatDoor.answerTo
