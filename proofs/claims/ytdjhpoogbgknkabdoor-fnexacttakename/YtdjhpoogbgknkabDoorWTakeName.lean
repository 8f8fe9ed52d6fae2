import Derived.Test.YtdjhpoogbgknkabDoorTakeN
namespace Go.Proofs.YtdjhpoogbgknkabDoor.takeName
open Go.RowKit

set_option maxRecDepth 20000 in
set_option maxHeartbeats 400000 in
theorem walk (s : ByteArray) (a : Int) (w : World) (hs0 : s.size ≤ maxLen) (ha : -9223372036854775808 ≤ a ∧ a ≤ 9223372036854775807) (hE : Env w) :
    Calls Tryd.prog 8 #[.string s, .int .i64 a] w fun e w' => e = .returned (.bool true) ∧ Below w.heap.size w w' := by
  have hs := hs0
  unfold maxLen at hs
  by_cases h : (1048576 : Int) < (s.size : Int)
  · go_enter Tryd.func8, Tryd.ntmps8
    go_wp2_with fail
    go_ret
    exact ⟨rfl, Below.refl _ _⟩
  · go_enter Tryd.func8, Tryd.ntmps8
    go_wp2_with fail
    refine (sTakeName_any s a w ha.1 ha.2).mono ?_
    rintro e w1 ⟨rfl, hb1⟩
    unfold tkVal
    obtain ⟨x, hx⟩ : ∃ x : ByteArray, x = ⟨(nmT (tkI s.data.toList a)).toArray⟩ := ⟨_, rfl⟩
    obtain ⟨n, hn⟩ : ∃ n : Int, n = ((nmE (tkI s.data.toList a) : Nat) : Int) := ⟨_, rfl⟩
    obtain ⟨b, hbb⟩ : ∃ b : Bool, b = (tkI s.data.toList a).isSome := ⟨_, rfl⟩
    rw [← hx, ← hn, ← hbb]
    have HX : Hid (x = ⟨(nmT (tkI s.data.toList a)).toArray⟩ ∧ n = ((nmE (tkI s.data.toList a) : Nat) : Int) ∧ b = (tkI s.data.toList a).isSome) := ⟨hx, hn, hbb⟩
    clear hx hn hbb
    go_wp2_with fail
    refine (iTakeName_any s a w1 ha.1 ha.2 (hE.below hb1)).mono ?_
    rintro e w2 ⟨rfl, hb2⟩
    unfold tkVal
    rw [← HX.out.1, ← HX.out.2.1, ← HX.out.2.2]
    have e1 : (x.toList != x.toList) = false := by simp
    have e2 : (b != b) = false := by simp
    have e3 : (n != n) = false := by simp
    go_wp2_with fail
    go_ret
    exact ⟨rfl, hb1.trans (hb2.mono hb1.size)⟩
end Go.Proofs.YtdjhpoogbgknkabDoor.takeName
