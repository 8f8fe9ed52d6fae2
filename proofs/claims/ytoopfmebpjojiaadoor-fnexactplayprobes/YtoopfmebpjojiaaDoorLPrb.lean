import Derived.Test.YtoopfmebpjojiaaDoorHeY
namespace Go.Proofs.YtoopfmebpjojiaaDoor
open Go.RowKit

theorem put2p_heap {w : World} {g : Nat} {t : TypeId} {v0 v1 u0 u1 : Value} (h : w.heap[g]? = some (.cells #[u0, u1] t)) : ((w.setCell ⟨g, 0, none⟩ v0).setCell ⟨g, 1, none⟩ v1).heap[g]? = some (.cells #[v0, v1] t) := by
  have e0 := heap_setCell_same _ _ 0 _ _ v0 h
  have e1 := heap_setCell_same _ _ 1 _ _ v1 e0
  simpa using e1
set_option maxRecDepth 20000 in
set_option maxHeartbeats 400000 in
theorem toProbe_any (n : Int) (fi : Bool) (w : World) :
    Calls Tryd.prog 24 #[.agg #[.int .i64 n, .bool fi]] w fun e w' => e = .returned (.agg #[.int .i64 n, .bool fi]) ∧ Below w.heap.size w w' := by
  go_enter Tryd.func24, Tryd.ntmps24
  go_wp2_with fail
  (try simp only [Exit.inBlock, Exit.then])
  refine bodyPost_ret (results_cell_row rfl _ _ (w.heap.size + 1) 45 #[.int .i64 n, .bool fi] (0, 0) _ rfl ?_ Tryd.underlying45 rfl (by kernel_rfl)) rfl ⟨rfl, ?_⟩
  · rw [Below.heap_alloc _ _ _ (by simp), hst_new2]
  · exact (((Below.refl _ _).alloc (Nat.le_refl _) _).alloc (by simp) _).alloc (by simp; omega) _
end Go.Proofs.YtoopfmebpjojiaaDoor
