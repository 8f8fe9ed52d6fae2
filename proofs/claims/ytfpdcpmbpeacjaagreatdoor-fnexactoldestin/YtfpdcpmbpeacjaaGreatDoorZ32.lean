import Derived.Test.YtfpdcpmbpeacjaaGreatDoorZ16
import Derived.Test.YtfpdcpmbpeacjaaGreatDoorZ13
import Derived.Test.YtfpdcpmbpeacjaaGreatDoorZ05
namespace Go.Proofs.YtfpdcpmbpeacjaaGreatDoor
open Go.RowKit

theorem two_below {w W : World} {a b : Value} {t : TypeId} (hb : Below (w.alloc (.cells #[a, b] t)).heap.size (w.alloc (.cells #[a, b] t)) W) :
    W.cell? ⟨w.heap.size, 0, none⟩ = some a ∧ W.cell? ⟨w.heap.size, 1, none⟩ = some b ∧ Below w.heap.size w W := by
  have hz : w.heap.size < (w.alloc (.cells #[a, b] t)).heap.size := by simp
  refine ⟨?_, ?_, ((Below.refl w.heap.size w).alloc (Nat.le_refl _) _).trans (hb.mono (Nat.le_of_lt hz))⟩
  all_goals (rw [hb.cell (p := ⟨w.heap.size, _, none⟩) hz]; simp)

set_option maxRecDepth 20000 in
set_option maxHeartbeats 400000 in
theorem ownerOf_any (nm d : ByteArray) (ty ttl : Int) (w : World) :
    Calls Tryz.prog 47 #[RecV nm ty ttl d] w fun e w' => e = .returned (.agg #[.string nm, .int .i64 ty]) ∧ Below w.heap.size w w' := by
  unfold RecV
  go_enter Tryz.func47, Tryz.ntmps47
  go_wp2_with fail
  (try simp only [Exit.inBlock, Exit.then])
  refine bodyPost_ret (results_cell_row rfl _ _ (w.heap.size + 1) 65 _ (0, 0) _ rfl ?_ Tryz.underlying65 rfl (by kernel_rfl)) rfl ⟨rfl, ((Below.refl w.heap.size w).alloc (Nat.le_refl _) _).alloc (by simp) _⟩
  rw [heap_alloc2_new]

set_option maxRecDepth 20000 in
set_option maxHeartbeats 400000 in
theorem isType_any (n : Int) (w : World) : Calls Tryz.prog 45 #[.int .i64 n] w fun e w' => e = .returned (.bool (typB n)) ∧ w' = w := by
  by_cases h : n = 1 ∨ n = 2 ∨ n = 5 ∨ n = 6 ∨ n = 15 ∨ n = 16
  · have HR : Hid (typB n = true) := by rcases h with rfl | rfl | rfl | rfl | rfl | rfl <;> rfl
    rcases h with rfl | rfl | rfl | rfl | rfl | rfl <;> (go_enter Tryz.func45, Tryz.ntmps45; go_wp2_with fail; go_ret; exact ⟨ret_bool HR.out.symm, rfl⟩)
  · have HR : Hid (typB n = false) := by
      cases hc : typB n with
      | false => exact rfl
      | true => exfalso; unfold typB hasB at hc; simp at hc; omega
    have h1 : ¬ n = 1 := by omega
    have h2 : ¬ n = 2 := by omega
    have h5 : ¬ n = 5 := by omega
    have h6 : ¬ n = 6 := by omega
    have h15 : ¬ n = 15 := by omega
    have h16 : ¬ n = 16 := by omega
    clear h
    go_enter Tryz.func45, Tryz.ntmps45
    go_wp2_with fail
    go_ret
    exact ⟨ret_bool HR.out.symm, rfl⟩

set_option maxRecDepth 20000 in
set_option maxHeartbeats 400000 in
theorem ownerGood_any (nm : ByteArray) (ty : Int) (w : World) (hE : EnvR w) :
    Calls Tryz.prog 32 #[.agg #[.string nm, .int .i64 ty]] w fun e w' => e = .returned (.bool (nameB nm.data.toList && typB ty)) ∧ Below w.heap.size w w' := by
  have HB : Hid (∀ (t : TypeId) W, Below (w.alloc (.cells #[.string nm, .int .i64 ty] t)).heap.size (w.alloc (.cells #[.string nm, .int .i64 ty] t)) W → W.cell? ⟨w.heap.size, 0, none⟩ = some (.string nm) ∧ W.cell? ⟨w.heap.size, 1, none⟩ = some (.int .i64 ty) ∧ Below w.heap.size w W) := fun t W hb => by
    have hz : w.heap.size < (w.alloc (.cells #[.string nm, .int .i64 ty] t)).heap.size := by simp
    refine ⟨?_, ?_, ((Below.refl w.heap.size w).alloc (Nat.le_refl _) _).trans (hb.mono (Nat.le_of_lt hz))⟩
    all_goals (rw [hb.cell (p := ⟨w.heap.size, _, none⟩) hz]; simp)
  go_enter Tryz.func32, Tryz.ntmps32
  go_wp2_with fail
  refine (iGoodName_any nm _ (hE.1.below ((Below.refl _ _).alloc (Nat.le_refl _) _))).mono ?_
  rintro e w1 ⟨rfl, hb1⟩
  obtain ⟨c0, c1, hbw⟩ := HB.out _ _ hb1
  clear hb1
  cases hN : nameB nm.data.toList with
  | false =>
    go_wp2_with fail
    go_ret
    exact ⟨ret_bool (by rw [hN]; rfl), hbw⟩
  | true =>
    go_wp2_with fail
    refine (isType_any ty _).mono ?_
    rintro e w2 ⟨rfl, rfl⟩
    go_wp2_with fail
    go_ret
    exact ⟨ret_bool (by rw [hN]; rfl), hbw⟩

end Go.Proofs.YtfpdcpmbpeacjaaGreatDoor
