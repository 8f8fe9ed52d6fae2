import Derived.Test.YtoeffplfkdogdaaDoorLGapT
import Derived.Test.YtoeffplfkdogdaaDoorG8M
namespace Go.Proofs.YtoeffplfkdogdaaDoor.checkAbsent
open Go.RowKit

set_option maxRecDepth 20000 in
set_option maxHeartbeats 4000000 in
theorem walk (s : ByteArray) (v : Value) (L : List (List UInt8 × List UInt8 × List Int)) (u : ByteArray) (w : World) (hs : s.size ≤ maxLen) (hr : GRow w v L) (hxa : Hid (∀ x ∈ L, x.1.length ≤ maxLen ∧ x.2.1.length ≤ maxLen)) (hu : u.size ≤ maxLen) (hE : Env w) :
    Calls Tryd.prog 4 #[.string s, v, .string u] w fun e w' => e = .returned (.bool true) ∧ Below w.heap.size w w' := by
  obtain ⟨a, cap, rfl, hcap, hmax, _⟩ := grow_value hr
  have hs2 := hs
  have hu2 := hu
  unfold maxLen at hs2 hu2
  by_cases hbig : (1048576 : Int) < (s.size : Int)
  · clear hr
    go_enter Tryd.func4, Tryd.ntmps4
    go_wp2_with fail
    go_ret
    exact ⟨rfl, Below.refl _ _⟩
  by_cases hbig2 : (1048576 : Int) < (u.size : Int)
  · clear hr
    go_enter Tryd.func4, Tryd.ntmps4
    go_wp2_with fail
    go_ret
    exact ⟨rfl, Below.refl _ _⟩
  have huz : u.size = u.data.toList.length := by rw [Array.length_toList]; rfl
  obtain ⟨n, hn⟩ : ∃ n, n = u.data.toList := ⟨_, rfl⟩
  rw [← hn] at huz
  obtain rfl : u = ⟨n.toArray⟩ := data_eq hn.symm
  have hnl : n.length ≤ 1048576 := by omega
  have gN2 : ¬ (1048576 : Int) < (n.length : Int) := by omega
  clear hn hbig2 hu hu2 huz
  have hsz : s.size = s.data.toList.length := by rw [Array.length_toList]; rfl
  obtain ⟨ap, hap⟩ : ∃ ap, ap = s.data.toList := ⟨_, rfl⟩
  rw [← hap] at hsz
  obtain rfl : s = ⟨ap.toArray⟩ := data_eq hap.symm
  have hal : ap.length ≤ 1048576 := by omega
  have gN : ¬ (1048576 : Int) < (ap.length : Int) := by omega
  clear hap hbig hs hs2 hsz
  have HSZ : Hid (Calls Tryd.prog 5 #[.slice a L.length cap, .int .i64 1048576] w fun e w' => (∃ q : Int, e = .returned (.int .i64 q) ∧ (q = -1 ∨ (0 ≤ q ∧ q = 1048576 - (L.length : Int) - (wtG L : Int)))) ∧ Below w.heap.size w w') := szGapS_any _ L 1048576 w hr hxa (by omega) (by omega)
  have HRO : Hid (∀ W, Below w.heap.size w W → GRow W (.slice a L.length cap) L) := fun W hW => hr.kept hW
  clear hr
  go_enter Tryd.func4, Tryd.ntmps4
  go_wp2_with fail
  refine HSZ.out.mono ?_
  rintro e w1 ⟨⟨q, rfl, hq⟩, hb1⟩
  rcases hq with rfl | ⟨hq0, hqe⟩
  · go_wp2_with fail
    go_ret
    exact ⟨rfl, hb1⟩
  · have hL : L.length ≤ 1048576 := by omega
    have HX : Hid (∀ x ∈ L, x.1.length ≤ 1048576 ∧ x.2.1.length ≤ 1048576) := fun x hx => by have := wtG_one hx; omega
    have HXT : Hid (∀ x ∈ L, x.2.2.length ≤ 1048576) := fun x hx => by have := wtG_one hx; omega
    have HT : Hid (∀ W, Below w.heap.size w W → Calls Tryd.prog 7 #[.slice a L.length cap] W fun e w' => ∃ T, e = .returned (.slice (some ⟨W.heap.size, 0, none⟩) L.length L.length) ∧ GOwn w' W.heap.size T L ∧ Below W.heap.size W w') := fun W hW => toGapS_any _ L W (HRO.out W hW) hL HXT
    have HS : Hid (∀ g T W, GOwn W g T L → Calls Tryd.prog 14 #[.string ⟨ap.toArray⟩, .slice (some ⟨g, 0, none⟩) L.length L.length, .string ⟨n.toArray⟩] W fun e w' => e = .returned (.tuple #[.bool (chkB ap L n && prfB L n), .bool (chkB ap L n)]) ∧ Below W.heap.size W w') := fun g T W h => sCheckAbsent_any ap n _ L W (h.row HXT.out (Nat.le_refl _) (by unfold maxLen; omega)) HX hal hnl
    have HI : Hid (∀ g T W, Below w.heap.size w W → GOwn W g T L → Calls Tryd.prog 15 #[.string ⟨ap.toArray⟩, .slice (some ⟨g, 0, none⟩) L.length L.length, .string ⟨n.toArray⟩] W fun e w' => e = .returned (.tuple #[.bool (chkB ap L n && prfB L n), .bool (chkB ap L n)]) ∧ Below W.heap.size W w') := fun g T W hW h => iCheckAbsent_any ap n _ L W (h.row HXT.out (Nat.le_refl _) (by unfold maxLen; omega)) hal hnl (hE.below hW)
    have HEQ : Hid (∀ g1 T1 g2 T2 W, GOwn W g1 T1 L → GOwn W g2 T2 L → Calls Tryd.prog 10 #[.slice (some ⟨g1, 0, none⟩) L.length L.length, .slice (some ⟨g2, 0, none⟩) L.length L.length] W fun e w' => e = .returned (.bool true) ∧ Below W.heap.size W w') := fun g1 T1 g2 T2 W h1 h2 => eqGapS_same _ _ L W (h1.row HXT.out (Nat.le_refl _) (by unfold maxLen; omega)) (h2.row HXT.out (Nat.le_refl _) (by unfold maxLen; omega))
    obtain ⟨r, hrr⟩ : ∃ r, r = (chkB ap L n && prfB L n) := ⟨_, rfl⟩
    obtain ⟨ck, hck⟩ : ∃ ck, ck = chkB ap L n := ⟨_, rfl⟩
    rw [← hrr, ← hck] at HS HI
    have e1 : (r != r) = false := by simp
    have e2 : (ck != ck) = false := by simp
    clear hck
    clear hqe HSZ HRO hrr
    go_wp2_with fail
    refine (HT.out _ hb1).mono ?_
    rintro e w2 ⟨T2, rfl, ho2, hb2⟩
    have hbw2 := hb1.trans (hb2.mono hb1.size)
    have HC2 : Hid (Calls Tryd.prog 14 #[.string ⟨ap.toArray⟩, .slice (some ⟨w1.heap.size, 0, none⟩) L.length L.length, .string ⟨n.toArray⟩] w2 fun e w' => e = .returned (.tuple #[.bool r, .bool ck]) ∧ Below w2.heap.size w2 w') := HS.out _ T2 _ ho2
    clear ho2
    go_wp2_with fail
    refine HC2.out.mono ?_
    rintro e w3 ⟨rfl, hb3⟩
    have hbw3 := hbw2.trans (hb3.mono hbw2.size)
    clear HC2
    go_wp2_with fail
    refine (HT.out _ hbw3).mono ?_
    rintro e w4 ⟨T4, rfl, ho4, hb4⟩
    have hbw4 := hbw3.trans (hb4.mono hbw3.size)
    have HC4 : Hid (Calls Tryd.prog 15 #[.string ⟨ap.toArray⟩, .slice (some ⟨w3.heap.size, 0, none⟩) L.length L.length, .string ⟨n.toArray⟩] w4 fun e w' => e = .returned (.tuple #[.bool r, .bool ck]) ∧ Below w4.heap.size w4 w') := HI.out _ T4 _ hbw4 ho4
    have HO4 : Hid (GOwn w4 w3.heap.size T4 L) := ho4
    clear ho4
    go_wp2_with fail
    refine HC4.out.mono ?_
    rintro e w5 ⟨rfl, hb5⟩
    have hbw5 := hbw4.trans (hb5.mono hbw4.size)
    clear HC4
    go_wp2_with fail
    refine (HT.out _ hbw5).mono ?_
    rintro e w6 ⟨T6, rfl, ho6, hb6⟩
    have hbw6 := hbw5.trans (hb6.mono hbw5.size)
    have HC6 : Hid (Calls Tryd.prog 10 #[.slice (some ⟨w3.heap.size, 0, none⟩) L.length L.length, .slice (some ⟨w5.heap.size, 0, none⟩) L.length L.length] w6 fun e w' => e = .returned (.bool true) ∧ Below w6.heap.size w6 w') := HEQ.out _ T4 _ T6 _ ((HO4.out.kept hb5).kept hb6) ho6
    clear ho6
    go_wp2_with fail
    refine HC6.out.mono ?_
    rintro e w7 ⟨rfl, hb7⟩
    have hbw7 := hbw6.trans (hb7.mono hbw6.size)
    go_wp2_with fail
    go_ret
    exact ⟨rfl, hbw7⟩
end Go.Proofs.YtoeffplfkdogdaaDoor.checkAbsent
