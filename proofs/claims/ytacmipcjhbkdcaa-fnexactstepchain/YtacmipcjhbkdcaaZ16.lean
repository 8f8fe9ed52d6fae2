import Derived.Test.YtacmipcjhbkdcaaZ11
import Derived.Test.YtacmipcjhbkdcaaZ14
import Derived.Test.YtacmipcjhbkdcaaZ15
namespace Go.Proofs.Ytacmipcjhbkdcaa
open Go.RowKit

/-! A step of a chain, in the laws. -/
theorem len_wrapC {n : Nat} (h : n ≤ maxLen) {q : Int} (h1 : 0 ≤ q) (h2 : q ≤ 1048576) : IntKind.i64.wrap (q - (n : Int)) = q - (n : Int) := by
  unfold maxLen at h
  exact i64_wrapC (by omega) (by omega)
set_option maxRecDepth 20000 in
set_option maxHeartbeats 800000 in
theorem szStep_any (kd k : Int) (s : List UInt8) (q : Int) (w : World) (hs : s.length ≤ maxLen) (h1 : 0 ≤ q) (h2 : q ≤ 1048576) :
    Calls Try.prog 6 #[.agg #[.int .i64 kd, .int .i64 k, .string ⟨s.toArray⟩], .int .i64 q] w fun e w' => (∃ p : Int, e = .returned (.int .i64 p) ∧ (p = -1 ∨ (0 ≤ p ∧ p = q - (s.length : Int)))) ∧ Below w.heap.size w w' := by
  have hw := len_wrapC hs h1 h2
  have hbw : Below w.heap.size w (w.alloc (.cells #[.int .i64 kd, .int .i64 k, .string ⟨s.toArray⟩] 26)) := (Below.refl _ _).alloc (Nat.le_refl _) _
  by_cases hlt : q - (s.length : Int) < 0
  · go_enter Try.func6, Try.ntmps6
    go_wp2_with fail
    go_ret
    exact ⟨⟨-1, rfl, .inl rfl⟩, hbw⟩
  · go_enter Try.func6, Try.ntmps6
    go_wp2_with fail
    go_ret
    exact ⟨⟨_, rfl, .inr ⟨by omega, rfl⟩⟩, hbw⟩
set_option maxRecDepth 20000 in
set_option maxHeartbeats 800000 in
theorem toStep_any (kd k : Int) (s : List UInt8) (w : World) :
    Calls Try.prog 9 #[.agg #[.int .i64 kd, .int .i64 k, .string ⟨s.toArray⟩]] w fun e w' => e = .returned (.agg #[.int .i64 kd, .int .i64 k, .string ⟨s.toArray⟩]) ∧ Below w.heap.size w w' := by
  go_enter Try.func9, Try.ntmps9
  go_wp2_with fail
  (try simp only [Exit.inBlock, Exit.then])
  refine bodyPost_ret (results_cell_row rfl _ _ (w.heap.size + 1) 35 #[.int .i64 kd, .int .i64 k, .string ⟨s.toArray⟩] (0, 0) _ rfl ?_ Try.underlying35 rfl (by kernel_rfl)) rfl ⟨rfl, ?_⟩
  · rw [heap_alloc_old _ _ (by simp), show w.heap.size + 1 = (w.alloc (.cells #[.int .i64 kd, .int .i64 k, .string ⟨s.toArray⟩] 26)).heap.size by simp]
    exact heap_alloc_new _ _
  · exact (((Below.refl _ _).alloc (Nat.le_refl _) _).alloc (by simp) _).alloc (by simp; omega) _
end Go.Proofs.Ytacmipcjhbkdcaa
