import Derived.Test.YtjocdpffmfnjnaaDoorRText
namespace Go.Proofs.YtjocdpffmfnjnaaDoor.recordText
open Go.RowKit

set_option maxRecDepth 20000 in
set_option maxHeartbeats 400000 in
theorem walk (nm d : ByteArray) (ty ttl : Int) (w : World) (hn : nm.size ≤ maxLen) (hd : d.size ≤ maxLen) (hE : EnvR w) :
    Calls Tryd.prog 3 #[RecV nm ty ttl d] w fun e w' => e = .returned (.bool true) ∧ Below w.heap.size w w' := by
  have HSZ : Hid (∀ W, Calls Tryd.prog 4 #[RecV nm ty ttl d, .int .i64 1048576] W fun e w' => e = .returned (.int .i64 (szR (nm.size : Int) (d.size : Int) 1048576)) ∧ Below W.heap.size W w') := fun W => szRecord_any nm d ty ttl 1048576 W hn hd (by omega) (by omega)
  have HTO : Hid (∀ W, Calls Tryd.prog 6 #[RecV nm ty ttl d] W fun e w' => e = .returned (RecV nm ty ttl d) ∧ Below W.heap.size W w') := fun W => toRecord_any nm d ty ttl W
  rcases sz_cases (a := nm.size) (b := d.size) with ⟨hz, _⟩ | ⟨hz, hle⟩
  · rw [hz] at HSZ
    clear hz
    unfold RecV at HSZ ⊢
    go_enter Tryd.func3, Tryd.ntmps3
    go_wp2_with fail
    refine (HSZ.out _).mono ?_
    rintro e w1 ⟨rfl, hb1⟩
    have hbw := (box4 hb1).2.2.2.2
    clear hb1
    go_wp2_with fail
    go_ret
    exact ⟨rfl, hbw⟩
  · obtain ⟨q, hq⟩ : ∃ q : Int, q = 1048576 - (nm.size : Int) - (d.size : Int) := ⟨_, rfl⟩
    have hq0 : 0 ≤ q := by omega
    rw [hz, ← hq] at HSZ
    have HS : Hid (∀ W, Calls Tryd.prog 5 #[RecV nm ty ttl d] W fun e w' => e = .returned (.tuple #[.string ⟨(recX nm.data.toList ty ttl d.data.toList).toArray⟩, .bool (recB nm.data.toList ty ttl d.data.toList)]) ∧ Below W.heap.size W w') := fun W => sRecordText_any nm d ty ttl W (by omega) (by omega)
    have HI : Hid (∀ W, EnvR W → Calls Tryd.prog 7 #[RecV nm ty ttl d] W fun e w' => e = .returned (.tuple #[.string ⟨(recX nm.data.toList ty ttl d.data.toList).toArray⟩, .bool (recB nm.data.toList ty ttl d.data.toList)]) ∧ Below W.heap.size W w') := fun W hW => iRecordText_any nm d ty ttl W (by omega) (by omega) hW
    obtain ⟨x, hx⟩ : ∃ x : ByteArray, x = ⟨(recX nm.data.toList ty ttl d.data.toList).toArray⟩ := ⟨_, rfl⟩
    obtain ⟨b, hbb⟩ : ∃ b, b = recB nm.data.toList ty ttl d.data.toList := ⟨_, rfl⟩
    rw [← hx, ← hbb] at HS HI
    have HBX : Hid (∀ w1 W, Below (w.alloc (.cells #[.string nm, .int .i64 ty, .int .i64 ttl, .string d] 23)).heap.size (w.alloc (.cells #[.string nm, .int .i64 ty, .int .i64 ttl, .string d] 23)) w1 → Below w1.heap.size w1 W → Below (w.alloc (.cells #[.string nm, .int .i64 ty, .int .i64 ttl, .string d] 23)).heap.size (w.alloc (.cells #[.string nm, .int .i64 ty, .int .i64 ttl, .string d] 23)) W) := fun w1 W h1 h2 => h1.trans (h2.mono h1.size)
    clear hz hq hbb hle hx
    unfold RecV at HSZ HTO HS HI ⊢
    have e1 : (x.toList != x.toList) = false := by simp
    have e2 : (b != b) = false := by simp
    go_enter Tryd.func3, Tryd.ntmps3
    go_wp2_with fail
    refine (HSZ.out _).mono ?_
    rintro e w1 ⟨rfl, hb1⟩
    obtain ⟨c0, c1, c2, c3, _⟩ := box4 hb1
    go_wp2_with fail
    refine (HTO.out _).mono ?_
    rintro e w2 ⟨rfl, hb2⟩
    have hb12 := HBX.out _ _ hb1 hb2
    clear hb1 hb2 c0 c1 c2 c3
    go_wp2_with fail
    refine (HS.out _).mono ?_
    rintro e w3 ⟨rfl, hb3⟩
    have hb13 := HBX.out _ _ hb12 hb3
    obtain ⟨c0, c1, c2, c3, _⟩ := box4 hb13
    clear hb12 hb3
    go_wp2_with fail
    refine (HTO.out _).mono ?_
    rintro e w4 ⟨rfl, hb4⟩
    have hb14 := HBX.out _ _ hb13 hb4
    have hbw4 := (box4 hb14).2.2.2.2
    clear hb13 hb4 c0 c1 c2 c3
    go_wp2_with fail
    refine (HI.out _ (hE.below hbw4)).mono ?_
    rintro e w5 ⟨rfl, hb5⟩
    have hbw5 := (box4 (HBX.out _ _ hb14 hb5)).2.2.2.2
    clear hb14 hb5
    go_wp2_with fail
    go_ret
    exact ⟨rfl, hbw5⟩
end Go.Proofs.YtjocdpffmfnjnaaDoor.recordText
