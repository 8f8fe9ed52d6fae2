import Derived.Test.YtdjhpoogbgknkacDoorPutX
namespace Go.Proofs.YtdjhpoogbgknkacDoor.putName
open Go.RowKit

set_option maxRecDepth 20000 in
set_option maxHeartbeats 400000 in
theorem walk (b s : ByteArray) (w : World) (hb1 : b.size ≤ maxLen) (hs : s.size ≤ maxLen) (hE : Env w) :
    Calls Tryd.prog 5 #[.string b, .string s] w fun e w' => e = .returned (.bool true) ∧ Below w.heap.size w w' := by
  have hb0 := hb1
  clear hb1
  unfold maxLen at hs hb0
  by_cases h1 : (1048576 : Int) < (b.size : Int)
  · go_enter Tryd.func5, Tryd.ntmps5
    go_wp2_with fail
    go_ret
    exact ⟨rfl, Below.refl _ _⟩
  · by_cases h : (1048576 : Int) < (s.size : Int)
    · go_enter Tryd.func5, Tryd.ntmps5
      go_wp2_with fail
      go_ret
      exact ⟨rfl, Below.refl _ _⟩
    · go_enter Tryd.func5, Tryd.ntmps5
      go_wp2_with fail
      refine (sPutName_any b s w (by omega)).mono ?_
      rintro e w1 ⟨rfl, hb1⟩
      unfold putVal
      obtain ⟨x, hx⟩ : ∃ x : ByteArray, x = ⟨((putR b.data.toList s.data.toList).getD []).toArray⟩ := ⟨_, rfl⟩
      obtain ⟨c, hc⟩ : ∃ c : Bool, c = (putR b.data.toList s.data.toList).isSome := ⟨_, rfl⟩
      rw [← hx, ← hc]
      have HX : Hid (x = ⟨((putR b.data.toList s.data.toList).getD []).toArray⟩ ∧ c = (putR b.data.toList s.data.toList).isSome) := ⟨hx, hc⟩
      clear hx hc
      go_wp2_with fail
      refine (iPutName_any b s w1 (hE.below hb1)).mono ?_
      rintro e w2 ⟨rfl, hb2⟩
      unfold putVal
      rw [← HX.out.1, ← HX.out.2]
      have e1 : (x.toList != x.toList) = false := by simp
      have e2 : (c != c) = false := by simp
      go_wp2_with fail
      go_ret
      exact ⟨rfl, hb1.trans (hb2.mono hb1.size)⟩
end Go.Proofs.YtdjhpoogbgknkacDoor.putName
