import Derived.Test.YtmhiopkpjdnddaaDoorIsBelow
namespace Go.Proofs.YtmhiopkpjdnddaaDoor.isBelow
open Go.RowKit

set_option maxRecDepth 20000 in
set_option maxHeartbeats 1000000 in
theorem walk (a b : ByteArray) (w : World) (ha : a.size ≤ maxLen) (hb : b.size ≤ maxLen) (hE : Env w) :
    Calls Tryd.prog 6 #[.string a, .string b] w fun e w' => e = .returned (.bool true) ∧ Below w.heap.size w w' := by
  unfold maxLen at ha hb
  by_cases h : (1048576 : Int) < (a.size : Int)
  · go_enter Tryd.func6, Tryd.ntmps6
    go_wp2_with fail
    go_ret
    exact ⟨rfl, Below.refl _ _⟩
  · by_cases h2 : (1048576 : Int) < (b.size : Int)
    · go_enter Tryd.func6, Tryd.ntmps6
      go_wp2_with fail
      go_ret
      exact ⟨rfl, Below.refl _ _⟩
    · go_enter Tryd.func6, Tryd.ntmps6
      go_wp2_with fail
      refine (sIsBelow_any a b w (by omega) (by omega)).mono ?_
      rintro e w1 ⟨rfl, hb1⟩
      go_wp2_with fail
      refine (iIsBelow_any a b w1 (by omega) (by omega) (hE.below hb1)).mono ?_
      rintro e w2 ⟨rfl, hb2⟩
      obtain ⟨x, hx⟩ : ∃ x : Bool, x = belowT a.data.toList b.data.toList := ⟨_, rfl⟩
      obtain ⟨y, hy⟩ : ∃ y : Bool, y = bothB a.data.toList b.data.toList := ⟨_, rfl⟩
      rw [← hx, ← hy]
      clear hx hy
      have e1 : (x != x) = false := by simp
      have e2 : (y != y) = false := by simp
      go_wp2_with fail
      go_ret
      exact ⟨rfl, hb1.trans (hb2.mono hb1.size)⟩
end Go.Proofs.YtmhiopkpjdnddaaDoor.isBelow
