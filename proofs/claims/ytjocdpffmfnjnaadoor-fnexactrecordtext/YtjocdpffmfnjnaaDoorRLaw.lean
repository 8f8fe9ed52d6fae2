import Derived.Test.YtjocdpffmfnjnaaDoorRGood
namespace Go.Proofs.YtjocdpffmfnjnaaDoor
open Go.RowKit

/-- What szRecord tells. -/
def szR (a b left : Int) : Int := if left - a < 0 then -1 else if left - a - b < 0 then -1 else left - a - b

set_option maxRecDepth 20000 in
set_option maxHeartbeats 400000 in
theorem szRecord_any (nm d : ByteArray) (ty ttl left : Int) (w : World) (hn : nm.size ≤ maxLen) (hd : d.size ≤ maxLen) (h0 : 0 ≤ left) (h1 : left ≤ 1048576) :
    Calls Tryd.prog 4 #[RecV nm ty ttl d, .int .i64 left] w fun e w' => e = .returned (.int .i64 (szR (nm.size : Int) (d.size : Int) left)) ∧ Below w.heap.size w w' := by
  unfold RecV
  unfold maxLen at hn hd
  by_cases g1 : left - (nm.size : Int) < 0
  · have HR : Hid (szR (nm.size : Int) (d.size : Int) left = -1) := if_pos g1
    go_enter Tryd.func4, Tryd.ntmps4
    go_wp2_with fail
    go_ret
    exact ⟨ret_int HR.out.symm, (Below.refl _ _).alloc (Nat.le_refl _) _⟩
  · have g1' : 0 ≤ left - (nm.size : Int) := by omega
    by_cases g2 : left - (nm.size : Int) - (d.size : Int) < 0
    · have HR : Hid (szR (nm.size : Int) (d.size : Int) left = -1) := by unfold szR; rw [if_neg g1]; exact if_pos g2
      clear g1
      go_enter Tryd.func4, Tryd.ntmps4
      go_wp2_with fail
      go_ret
      exact ⟨ret_int HR.out.symm, (Below.refl _ _).alloc (Nat.le_refl _) _⟩
    · have g2' : 0 ≤ left - (nm.size : Int) - (d.size : Int) := by omega
      have HR : Hid (szR (nm.size : Int) (d.size : Int) left = left - (nm.size : Int) - (d.size : Int)) := by unfold szR; rw [if_neg g1]; exact if_neg g2
      clear g1 g2
      go_enter Tryd.func4, Tryd.ntmps4
      go_wp2_with fail
      go_ret
      exact ⟨ret_int HR.out.symm, (Below.refl _ _).alloc (Nat.le_refl _) _⟩

set_option maxRecDepth 20000 in
set_option maxHeartbeats 400000 in
theorem toRecord_any (nm d : ByteArray) (ty ttl : Int) (w : World) :
    Calls Tryd.prog 6 #[RecV nm ty ttl d] w fun e w' => e = .returned (RecV nm ty ttl d) ∧ Below w.heap.size w w' := by
  unfold RecV
  go_enter Tryd.func6, Tryd.ntmps6
  go_wp2_with fail
  (try simp only [Exit.inBlock, Exit.then])
  refine bodyPost_ret (results_cell_row rfl _ _ (w.heap.size + 1) 27 #[.string nm, .int .i64 ty, .int .i64 ttl, .string d] (0, 0) _ rfl ?_ Tryd.underlying27 rfl (by kernel_rfl)) rfl ⟨rfl, ?_⟩
  · rw [Below.heap_alloc _ _ _ (by simp), heap_alloc2_new]
  · exact (((Below.refl _ _).alloc (Nat.le_refl _) _).alloc (by simp) _).alloc (by simp; omega) _
theorem sz_cases {a b : Nat} : szR (a : Int) (b : Int) 1048576 = -1 ∧ ¬ a + b ≤ 1048576 ∨ szR (a : Int) (b : Int) 1048576 = 1048576 - (a : Int) - (b : Int) ∧ a + b ≤ 1048576 := by
  unfold szR
  split
  · exact .inl ⟨rfl, by omega⟩
  · split
    · exact .inl ⟨rfl, by omega⟩
    · exact .inr ⟨rfl, by omega⟩
end Go.Proofs.YtjocdpffmfnjnaaDoor
