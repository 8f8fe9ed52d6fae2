import Derived.Test.YtgfiahfoghnpkaaGreatDoorZ16
import Derived.Test.YtgfiahfoghnpkaaGreatDoorZ13
import Derived.Test.YtgfiahfoghnpkaaGreatDoorZ05
import Derived.Test.YtgfiahfoghnpkaaGreatDoorZ29
import Derived.BigQuiet
import Derived.Deep.QuietTactic
namespace Go.Proofs.YtgfiahfoghnpkaaGreatDoor
open Go.RowKit

set_option maxRecDepth 20000 in
set_option maxHeartbeats 400000 in
theorem ownerOf_any (nm d : ByteArray) (ty ttl : Int) (w : World) :
    Calls Tryz.prog 70 #[RecV nm ty ttl d] w fun e w' => e = .returned (.agg #[.string nm, .int .i64 ty]) ∧ Below w.heap.size w w' := by
  unfold RecV
  go_enter Tryz.func70, Tryz.ntmps70
  go_wp2_with fail
  (try simp only [Exit.inBlock, Exit.then])
  refine bodyPost_ret (results_cell_row rfl _ _ (w.heap.size + 1) 75 _ (0, 0) _ rfl ?_ Tryz.underlying75 rfl (by kernel_rfl)) rfl ⟨rfl, ((Below.refl w.heap.size w).alloc (Nat.le_refl _) _).alloc (by simp) _⟩
  rw [heap_alloc2_new]

set_option maxRecDepth 20000 in
set_option maxHeartbeats 400000 in
theorem isType_any (n : Int) (w : World) : Calls Tryz.prog 77 #[.int .i64 n] w fun e w' => e = .returned (.bool (typB n)) ∧ w' = w := by
  by_cases h : n = 1 ∨ n = 2 ∨ n = 5 ∨ n = 6 ∨ n = 15 ∨ n = 16
  · have HR : Hid (typB n = true) := by rcases h with rfl | rfl | rfl | rfl | rfl | rfl <;> rfl
    rcases h with rfl | rfl | rfl | rfl | rfl | rfl <;> (go_enter Tryz.func77, Tryz.ntmps77; go_wp2_with fail; go_ret; exact ⟨ret_bool HR.out.symm, rfl⟩)
  · have HR : Hid (typB n = false) := by
      cases hc : typB n with
      | false => exact rfl
      | true => exfalso; unfold typB hasB at hc; simp at hc; omega
    have h1 : ¬ n = 1 := by omega
    have h2 : ¬ n = 2 := by omega
    have h5 : ¬ n = 5 := by omega
    have h6 : ¬ n = 6 := by omega
    have h15 : ¬ n = 15 := by omega
    have h16 : ¬ n = 16 := by omega
    clear h
    go_enter Tryz.func77, Tryz.ntmps77
    go_wp2_with fail
    go_ret
    exact ⟨ret_bool HR.out.symm, rfl⟩

set_option maxRecDepth 20000 in
set_option maxHeartbeats 400000 in
theorem ownerGood_any (nm : ByteArray) (ty : Int) (w : World) (hE : EnvR w) :
    Calls Tryz.prog 50 #[.agg #[.string nm, .int .i64 ty]] w fun e w' => e = .returned (.bool (nameB nm.data.toList && typB ty)) ∧ Below w.heap.size w w' := by
  have HB : Hid (∀ (t : TypeId) W, Below (w.alloc (.cells #[.string nm, .int .i64 ty] t)).heap.size (w.alloc (.cells #[.string nm, .int .i64 ty] t)) W → W.cell? ⟨w.heap.size, 0, none⟩ = some (.string nm) ∧ W.cell? ⟨w.heap.size, 1, none⟩ = some (.int .i64 ty) ∧ Below w.heap.size w W) := fun t W hb => by
    have hz : w.heap.size < (w.alloc (.cells #[.string nm, .int .i64 ty] t)).heap.size := by simp
    refine ⟨?_, ?_, ((Below.refl w.heap.size w).alloc (Nat.le_refl _) _).trans (hb.mono (Nat.le_of_lt hz))⟩
    all_goals (rw [hb.cell (p := ⟨w.heap.size, _, none⟩) hz]; simp)
  go_enter Tryz.func50, Tryz.ntmps50
  go_wp2_with fail
  refine (iGoodName_any nm _ (hE.1.below ((Below.refl _ _).alloc (Nat.le_refl _) _))).mono ?_
  rintro e w1 ⟨rfl, hb1⟩
  obtain ⟨c0, c1, hbw⟩ := HB.out _ _ hb1
  clear hb1
  cases hN : nameB nm.data.toList with
  | false =>
    go_wp2_with fail
    go_ret
    exact ⟨ret_bool (by rw [hN]; rfl), hbw⟩
  | true =>
    go_wp2_with fail
    refine (isType_any ty _).mono ?_
    rintro e w2 ⟨rfl, rfl⟩
    go_wp2_with fail
    go_ret
    exact ⟨ret_bool (by rw [hN]; rfl), hbw⟩

end Go.Proofs.YtgfiahfoghnpkaaGreatDoor

namespace Go.Proofs.YtgfiahfoghnpkaaGreatDoor
open Go.RowKit

theorem own_on {xn yn : List UInt8} {xt yt : Int} (h1 : xn = yn) (h2 : xt = yt) : true = (xn == yn && xt == yt) := by simp [h1, h2]
theorem own_off {xn yn : List UInt8} {xt yt : Int} (h : ¬ (xn = yn ∧ xt = yt)) : false = (xn == yn && xt == yt) := by
  by_cases h1 : xn = yn
  · have h2 : ¬ xt = yt := fun e => h ⟨h1, e⟩
    simp [h1, h2]
  · simp [h1]
theorem own_if {xn yn : List UInt8} {xt yt : Int} {same : Bool} {β : Type} (f : Bool → β) (h : same = (xn == yn && xt == yt)) : (if xn = yn then if xt = yt then f true else f false else f false) = f same := by
  rw [h]
  by_cases h1 : xn = yn
  · by_cases h2 : xt = yt
    · rw [if_pos h1, if_pos h2, h1, h2]; simp
    · rw [if_pos h1, if_neg h2, h1, show (xt == yt) = false by simpa using h2]; simp
  · rw [if_neg h1, show (xn == yn) = false by simpa using h1]; simp

end Go.Proofs.YtgfiahfoghnpkaaGreatDoor
