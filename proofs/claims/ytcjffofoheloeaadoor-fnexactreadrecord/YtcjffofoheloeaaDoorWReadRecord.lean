import Derived.Test.YtcjffofoheloeaaDoorRRecA
import Derived.Test.YtcjffofoheloeaaDoorRRecI
namespace Go.Proofs.YtcjffofoheloeaaDoor.readRecord
open Go.RowKit

theorem rrVal_form (R : Option (List UInt8 × Int × Int × List UInt8)) : ∃ (nm : ByteArray) (ty ttl : Int) (d : ByteArray) (b : Bool), rrVal R = .tuple #[RecV nm ty ttl d, .bool b] := by
  match R with
  | none => exact ⟨_, _, _, _, _, rfl⟩
  | some (nm, ty, ttl, d) => exact ⟨_, _, _, _, _, rfl⟩
set_option maxRecDepth 20000 in
set_option maxHeartbeats 400000 in
theorem eqRecord_same (nm d : ByteArray) (ty ttl : Int) (w : World) :
    Calls Tryd.prog 6 #[RecV nm ty ttl d, RecV nm ty ttl d] w fun e w' => e = .returned (.bool true) ∧ Below w.heap.size w w' := by
  unfold RecV
  have e1 : (nm.toList != nm.toList) = false := by simp
  have e2 : (d.toList != d.toList) = false := by simp
  have e3 : (ty != ty) = false := by simp
  have e4 : (ttl != ttl) = false := by simp
  go_enter Tryd.func6, Tryd.ntmps6
  go_wp2_with fail
  go_ret
  exact ⟨rfl, ((Below.refl _ _).alloc (Nat.le_refl _) _).alloc (by simp) _⟩

set_option maxRecDepth 20000 in
set_option maxHeartbeats 1000000 in
theorem walk (s : ByteArray) (w : World) (hs0 : s.size ≤ maxLen) (hE : EnvR w) :
    Calls Tryd.prog 3 #[.string s] w fun e w' => e = .returned (.bool true) ∧ Below w.heap.size w w' := by
  have hs := hs0
  unfold maxLen at hs
  by_cases h : (1048576 : Int) < (s.size : Int)
  · go_enter Tryd.func3, Tryd.ntmps3
    go_wp2_with fail
    go_ret
    exact ⟨rfl, Below.refl _ _⟩
  · have HS0 : ∀ W, Calls Tryd.prog 4 #[.string s] W fun e w' => e = .returned (rrVal (rrO s.data.toList)) ∧ Below W.heap.size W w' := fun W => sReadRecord_any s W (by omega)
    have HI0 : ∀ W, EnvR W → Calls Tryd.prog 5 #[.string s] W fun e w' => e = .returned (rrVal (rrO s.data.toList)) ∧ Below W.heap.size W w' := fun W hW => iReadRecord_any s W (by omega) hW
    obtain ⟨nm, ty, ttl, d, b, hv⟩ := rrVal_form (rrO s.data.toList)
    rw [hv] at HS0 HI0
    have HS : Hid (∀ W, Calls Tryd.prog 4 #[.string s] W fun e w' => e = .returned (.tuple #[RecV nm ty ttl d, .bool b]) ∧ Below W.heap.size W w') := HS0
    have HI : Hid (∀ W, EnvR W → Calls Tryd.prog 5 #[.string s] W fun e w' => e = .returned (.tuple #[RecV nm ty ttl d, .bool b]) ∧ Below W.heap.size W w') := HI0
    have HQ : Hid (∀ W, Calls Tryd.prog 6 #[RecV nm ty ttl d, RecV nm ty ttl d] W fun e w' => e = .returned (.bool true) ∧ Below W.heap.size W w') := fun W => eqRecord_same nm d ty ttl W
    have eb : (b != b) = false := by simp
    clear HS0 HI0 hv
    unfold RecV at HS HI HQ
    go_enter Tryd.func3, Tryd.ntmps3
    go_wp2_with fail
    refine (HS.out w).mono ?_
    rintro e w1 ⟨rfl, hb1⟩
    have hbA : Below w.heap.size w (w1.alloc (.cells #[.string nm, .int .i64 ty, .int .i64 ttl, .string d] 23)) := hb1.alloc hb1.size _
    go_wp2_with fail
    refine (HI.out _ (hE.below hbA)).mono ?_
    rintro e w2 ⟨rfl, hb2⟩
    obtain ⟨c0, c1, c2, c3, hb12⟩ := box4 hb2
    have hbB := hbA.trans (hb2.mono hbA.size)
    have hlt : w1.heap.size < w2.heap.size := World.block_lt_of_cell? _ _ c0
    have hbC : Below w.heap.size w (w2.alloc (.cells #[.string nm, .int .i64 ty, .int .i64 ttl, .string d] 23)) := hbB.alloc hbB.size _
    clear hb1 hb2 hbA hb12 hbB
    go_wp2_with fail
    refine (HQ.out _).mono ?_
    rintro e w3 ⟨rfl, hb3⟩
    have hbw := hbC.trans (hb3.mono hbC.size)
    clear hb3 hbC
    go_wp2_with fail
    go_ret
    exact ⟨rfl, hbw⟩
end Go.Proofs.YtcjffofoheloeaaDoor.readRecord
