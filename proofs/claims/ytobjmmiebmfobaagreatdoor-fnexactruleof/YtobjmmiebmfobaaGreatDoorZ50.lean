import Derived.Test.YtobjmmiebmfobaaGreatDoorZ41
import Derived.Test.YtobjmmiebmfobaaGreatDoorZ49
import Derived.Test.YtobjmmiebmfobaaGreatDoorZ26
namespace Go.Proofs.YtobjmmiebmfobaaGreatDoor.ruleOf
open Go.RowKit

set_option maxRecDepth 20000 in
set_option maxHeartbeats 4000000 in
theorem walk (ap : ByteArray) (vp : Value) (P : List (List UInt8 × Int × Int × List UInt8)) (w : World) (hs : ap.size ≤ maxLen) (hpp : RRow w vp P) (hxp : Hid (∀ x ∈ P, x.1.length ≤ maxLen ∧ x.2.2.2.length ≤ maxLen)) (hE : EnvA w) :
    Calls Tryz.prog 3 #[.string ap, vp] w fun e w' => e = .returned (.bool true) ∧ Below w.heap.size w w' := by
  have lp : P.length ≤ maxLen := by obtain ⟨_, cap, _, h1, h2, _⟩ := hpp; omega
  have hs2 := hs
  unfold maxLen at hs2
  have HSR : Hid (∀ W, Below w.heap.size w W → Calls Tryz.prog 4 #[vp, .int .i64 1048576] W fun e w' => (∃ q : Int, e = .returned (.int .i64 q) ∧ ((q = -1 ∧ (1048576 : Int) < (P.length : Int) + (wtR P : Int)) ∨ (q = 1048576 - (P.length : Int) - (wtR P : Int) ∧ 0 ≤ q))) ∧ Below W.heap.size W w') := fun W hW => szRecordS_any vp P 1048576 W (hpp.kept hW) hxp (by omega) (by omega)
  have HTR0 : Hid (P.length ≤ 1048576 → ∀ W, Below w.heap.size w W → Calls Tryz.prog 6 #[vp] W fun e w' => (∃ g, e = .returned (.slice (some ⟨g, 0, none⟩) P.length P.length) ∧ QRow w' g P) ∧ Below W.heap.size W w') := fun h W hW => (toRecordS_any vp P W (hpp.kept hW) h).mono fun e w' h => ⟨⟨_, h.1, h.2.1⟩, h.2.2⟩
  obtain ⟨pa, pc, rfl, _, hpc, _⟩ := hpp
  by_cases h : (1048576 : Int) < (ap.size : Int)
  · go_enter Tryz.func3, Tryz.ntmps3
    go_wp2_with fail
    go_ret
    exact ⟨rfl, Below.refl _ _⟩
  · have hap : ap.size ≤ 1048576 := by omega
    go_enter Tryz.func3, Tryz.ntmps3
    go_wp2_with fail
    refine (HSR.out _ (Below.refl _ _)).mono ?_
    rintro e w1 ⟨⟨q, rfl, hq⟩, hb1⟩
    rcases hq with ⟨rfl, _⟩ | ⟨hqe, hq0⟩
    · go_wp2_with fail
      go_ret
      exact ⟨rfl, hb1⟩
    · have hP : P.length ≤ 1048576 := by omega
      have HP2 : Hid (∀ x ∈ P, x.1.length ≤ 1048576 ∧ x.2.2.2.length ≤ 1048576) := fun x hx => by
        have h := wtR_mem hx
        exact ⟨by omega, by omega⟩
      have g20 : decide (q < 0) = false := by simp; omega
      have HTR : Hid (∀ W, Below w.heap.size w W → Calls Tryz.prog 6 #[.slice pa P.length pc] W fun e w' => (∃ g, e = .returned (.slice (some ⟨g, 0, none⟩) P.length P.length) ∧ QRow w' g P) ∧ Below W.heap.size W w') := HTR0.out hP
      have HSP : Hid (∀ g W, QRow W g P → Calls Tryz.prog 5 #[.string ap, (.slice (some ⟨g, 0, none⟩) P.length P.length)] W fun e w' => e = .returned (.int .i64 (ruleB ap.data.toList P)) ∧ Below W.heap.size W w') := fun g W h1 => sRuleOf_any ap _ P W (h1.row (Nat.le_refl _) lp) hap hP HP2
      have HI : Hid (∀ g W, EnvA W → QRow W g P → Calls Tryz.prog 7 #[.string ap, (.slice (some ⟨g, 0, none⟩) P.length P.length)] W fun e w' => e = .returned (.int .i64 (ruleB ap.data.toList P)) ∧ Below W.heap.size W w') := fun g W hW h1 => iRuleOf_any ap _ P W (h1.row (Nat.le_refl _) lp) hap HP2 hW
      have HEP : Hid (∀ g1 g2 W, QRow W g1 P → QRow W g2 P → Calls Tryz.prog 8 #[(.slice (some ⟨g1, 0, none⟩) P.length P.length), (.slice (some ⟨g2, 0, none⟩) P.length P.length)] W fun e w' => e = .returned (.bool true) ∧ Below W.heap.size W w') := fun g1 g2 W h1 h2 => eqRecordS_same _ _ P W (h1.row (Nat.le_refl _) (by unfold maxLen; omega)) (h2.row (Nat.le_refl _) (by unfold maxLen; omega))
      obtain ⟨rr, hrr⟩ : ∃ rr, rr = ruleB ap.data.toList P := ⟨_, rfl⟩
      rw [← hrr] at HSP HI
      have e2 : (rr != rr) = false := by simp
      clear hrr HTR0 HSR hqe
      go_wp2_with fail
      refine (HTR.out _ hb1).mono ?_
      rintro e w2 ⟨⟨g1, rfl, hq1⟩, hb2⟩
      have hbw2 := hb1.trans (hb2.mono hb1.size)
      go_wp2_with fail
      refine (HSP.out g1 _ hq1).mono ?_
      rintro e w3 ⟨rfl, hb3⟩
      have hbw3 := hbw2.trans (hb3.mono hbw2.size)
      clear hq1 hb2 hb3 hbw2
      go_wp2_with fail
      refine (HTR.out _ hbw3).mono ?_
      rintro e w4 ⟨⟨g3, rfl, hq3⟩, hb4⟩
      have hbw4 := hbw3.trans (hb4.mono hbw3.size)
      clear hb4 hbw3
      go_wp2_with fail
      refine (HI.out g3 _ (hE.below hbw4) hq3).mono ?_
      rintro e w5 ⟨rfl, hb5⟩
      have hbw5 := hbw4.trans (hb5.mono hbw4.size)
      have hq5 := hq3.kept hb5
      clear hq3 hb5 hbw4
      go_wp2_with fail
      refine (HTR.out _ hbw5).mono ?_
      rintro e w6 ⟨⟨g5, rfl, hq6⟩, hb6⟩
      have hbw6 := hbw5.trans (hb6.mono hbw5.size)
      have hq56 := hq5.kept hb6
      clear hq5 hb6 hbw5
      go_wp2_with fail
      refine (HEP.out g3 g5 _ hq56 hq6).mono ?_
      rintro e w7 ⟨rfl, hb7⟩
      go_wp2_with fail
      go_ret
      exact ⟨rfl, hbw6.trans (hb7.mono hbw6.size)⟩
end Go.Proofs.YtobjmmiebmfobaaGreatDoor.ruleOf
