import Derived.Test.YtdjhpoogbgknkabDoorFold
namespace Go.Proofs.YtdjhpoogbgknkabDoor.foldName
open Go.RowKit

set_option maxRecDepth 20000 in
set_option maxHeartbeats 400000 in
theorem walk (s : ByteArray) (w : World) (hs : s.size ≤ maxLen) (hE : Env w) :
    Calls Tryd.prog 4 #[.string s] w fun e w' => e = .returned (.bool true) ∧ Below w.heap.size w w' := by
  unfold maxLen at hs
  by_cases h : (1048576 : Int) < (s.size : Int)
  · go_enter Tryd.func4, Tryd.ntmps4
    go_wp2_with fail
    go_ret
    exact ⟨rfl, Below.refl _ _⟩
  · go_enter Tryd.func4, Tryd.ntmps4
    go_wp2_with fail
    refine (sFoldName_any s w (by omega)).mono ?_
    rintro e w1 ⟨rfl, hb1⟩
    go_wp2_with fail
    refine (iFoldName_any s w1 (hE.below hb1)).mono ?_
    rintro e w2 ⟨rfl, hb2⟩
    obtain ⟨x, hx⟩ : ∃ x : ByteArray, x = ⟨(foldT s.data.toList).toArray⟩ := ⟨_, rfl⟩
    obtain ⟨b, hbb⟩ : ∃ b : Bool, b = foldB s.data.toList := ⟨_, rfl⟩
    rw [← hx, ← hbb]
    clear hx hbb
    have e1 : (x.toList != x.toList) = false := by simp
    have e2 : (b != b) = false := by simp
    go_wp2_with fail
    go_ret
    exact ⟨rfl, hb1.trans (hb2.mono hb1.size)⟩
end Go.Proofs.YtdjhpoogbgknkabDoor.foldName
