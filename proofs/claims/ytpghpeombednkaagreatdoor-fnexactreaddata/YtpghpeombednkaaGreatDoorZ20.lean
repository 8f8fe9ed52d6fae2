import Derived.Test.YtpghpeombednkaaGreatDoorZ19
import Derived.Test.YtpghpeombednkaaGreatDoorZ18
namespace Go.Proofs.YtpghpeombednkaaGreatDoor.readData
open Go.RowKit

set_option maxRecDepth 20000 in
set_option maxHeartbeats 400000 in
theorem walk (k : Int) (s : ByteArray) (w : World) (_hk : -9223372036854775808 ≤ k ∧ k ≤ 9223372036854775807) (hs0 : s.size ≤ maxLen) (hE : EnvR w) :
    Calls Tryz.prog 4 #[.int .i64 k, .string s] w fun e w' => e = .returned (.bool true) ∧ Below w.heap.size w w' := by
  have hs := hs0
  unfold maxLen at hs
  by_cases h : (1048576 : Int) < (s.size : Int)
  · go_enter Tryz.func4, Tryz.ntmps4
    go_wp2_with fail
    go_ret
    exact ⟨rfl, Below.refl _ _⟩
  · have HS : Hid (∀ W, Calls Tryz.prog 13 #[.int .i64 k, .string s] W fun e w' => e = .returned (.tuple #[.string ⟨((readR k s.data.toList).getD []).toArray⟩, .bool (readR k s.data.toList).isSome]) ∧ Below W.heap.size W w') := fun W => sReadData_any k s W
    have HI : Hid (∀ W, EnvR W → Calls Tryz.prog 14 #[.int .i64 k, .string s] W fun e w' => e = .returned (.tuple #[.string ⟨((readR k s.data.toList).getD []).toArray⟩, .bool (readR k s.data.toList).isSome]) ∧ Below W.heap.size W w') := fun W hW => iReadData_any k s W (by omega) hW
    obtain ⟨x, hx⟩ : ∃ x : ByteArray, x = ⟨((readR k s.data.toList).getD []).toArray⟩ := ⟨_, rfl⟩
    obtain ⟨b, hbb⟩ : ∃ b : Bool, b = (readR k s.data.toList).isSome := ⟨_, rfl⟩
    rw [← hx, ← hbb] at HS HI
    clear hx hbb
    have e1 : (x.toList != x.toList) = false := by simp
    have e2 : (b != b) = false := by simp
    go_enter Tryz.func4, Tryz.ntmps4
    go_wp2_with fail
    refine (HS.out w).mono ?_
    rintro e w1 ⟨rfl, hb1⟩
    go_wp2_with fail
    refine (HI.out w1 (hE.below hb1)).mono ?_
    rintro e w2 ⟨rfl, hb2⟩
    go_wp2_with fail
    go_ret
    exact ⟨rfl, hb1.trans (hb2.mono hb1.size)⟩
end Go.Proofs.YtpghpeombednkaaGreatDoor.readData
