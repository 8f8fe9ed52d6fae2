import Derived.Test.YtbcgalhegkhmbaaGreatDoorZ26
import Derived.Test.YtbcgalhegkhmbaaGreatDoorZ13
import Derived.Test.YtbcgalhegkhmbaaGreatDoorZ05
namespace Go.Proofs.YtbcgalhegkhmbaaGreatDoor
open Go.RowKit

theorem two_below {w W : World} {a b : Value} {t : TypeId} (hb : Below (w.alloc (.cells #[a, b] t)).heap.size (w.alloc (.cells #[a, b] t)) W) :
    W.cell? ⟨w.heap.size, 0, none⟩ = some a ∧ W.cell? ⟨w.heap.size, 1, none⟩ = some b ∧ Below w.heap.size w W := by
  have hz : w.heap.size < (w.alloc (.cells #[a, b] t)).heap.size := by simp
  refine ⟨?_, ?_, ((Below.refl w.heap.size w).alloc (Nat.le_refl _) _).trans (hb.mono (Nat.le_of_lt hz))⟩
  all_goals (rw [hb.cell (p := ⟨w.heap.size, _, none⟩) hz]; simp)

set_option maxRecDepth 20000 in
set_option maxHeartbeats 400000 in
theorem ownerOf_any (nm d : ByteArray) (ty ttl : Int) (w : World) :
    Calls Tryz.prog 80 #[RecV nm ty ttl d] w fun e w' => e = .returned (.agg #[.string nm, .int .i64 ty]) ∧ Below w.heap.size w w' := by
  unfold RecV
  go_enter Tryz.func80, Tryz.ntmps80
  go_wp2_with fail
  (try simp only [Exit.inBlock, Exit.then])
  refine bodyPost_ret (results_cell_row rfl _ _ (w.heap.size + 1) 82 _ (0, 0) _ rfl ?_ Tryz.underlying82 rfl (by kernel_rfl)) rfl ⟨rfl, ((Below.refl w.heap.size w).alloc (Nat.le_refl _) _).alloc (by simp) _⟩
  rw [heap_alloc2_new]



end Go.Proofs.YtbcgalhegkhmbaaGreatDoor
