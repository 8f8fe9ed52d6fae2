import Derived.Test.YtfpdcpmbpeacjaaRows
import Derived.ProofKit
import Derived.OpenShut
import Derived.WalkKit
import Derived.WalkSpells
import Derived.WalkLawsBesides
import Derived.Handy
import Derived.Below
import Derived.Laws.ResultCell
namespace Go.Proofs.Ytfpdcpmbpeacjaa.newCache
open Go.RowKit

set_option maxRecDepth 20000 in
set_option maxHeartbeats 400000 in
theorem eqEntryS_nil (w : World) : Calls Try.prog 9 #[.slice none 0 0, .slice none 0 0] w fun e w' => e = .returned (.bool true) ∧ w' = w := by
  go_enter Try.func9, Try.ntmps9
  go_wp2_with fail
  go_loopw [5] (fun i wr => i = .int .i64 0 ∧ wr = w) (fun _ _ => 0)
  case atStart => exact ⟨rfl, rfl⟩
  case round =>
    obtain ⟨rfl, rfl⟩ := hrel
    go_wp2_with fail
    go_ret
    exact ⟨rfl, rfl⟩
set_option maxRecDepth 20000 in
set_option maxHeartbeats 400000 in
theorem markEntryS_nil (k : Int) (w : World) : Calls Try.prog 10 #[.slice none 0 0, .int .i64 k] w fun e w' => e = .returned (.int .i64 k) ∧ w' = w := by
  go_enter Try.func10, Try.ntmps10
  go_wp2_with fail
  go_loopw [1, 5] (fun kk i wr => (kk = .int .i64 k ∧ i = .int .i64 0) ∧ wr = w) (fun _ _ _ => 0)
  case atStart => exact ⟨⟨rfl, rfl⟩, rfl⟩
  case round =>
    obtain ⟨⟨rfl, rfl⟩, rfl⟩ := hrel
    go_wp2_with fail
    go_ret
    exact ⟨rfl, rfl⟩
set_option maxRecDepth 20000 in
set_option maxHeartbeats 400000 in
theorem heldEntryS_nil (k : Int) (w : World) : Calls Try.prog 11 #[.slice none 0 0, .int .i64 k] w fun e w' => e = .returned (.int .i64 k) ∧ w' = w := by
  go_enter Try.func11, Try.ntmps11
  go_wp2_with fail
  go_loopw [1, 5] (fun kk i wr => (kk = .int .i64 k ∧ i = .int .i64 0) ∧ wr = w) (fun _ _ _ => 0)
  case atStart => exact ⟨⟨rfl, rfl⟩, rfl⟩
  case round =>
    obtain ⟨⟨rfl, rfl⟩, rfl⟩ := hrel
    go_wp2_with fail
    go_ret
    exact ⟨rfl, rfl⟩
set_option maxRecDepth 20000 in
set_option maxHeartbeats 400000 in
theorem eqCache_nil (w : World) : Calls Try.prog 6 #[.agg #[.int .i64 1, .slice none 0 0], .agg #[.int .i64 1, .slice none 0 0]] w fun e w' => e = .returned (.bool true) ∧ w' = (w.alloc (.cells #[.int .i64 1, .slice none 0 0] 24)).alloc (.cells #[.int .i64 1, .slice none 0 0] 24) := by
  go_enter Try.func6, Try.ntmps6
  go_wp2_with fail
  refine (eqEntryS_nil _).mono ?_
  rintro e w1 ⟨rfl, rfl⟩
  go_wp2_with fail
  go_ret
  exact ⟨rfl, rfl⟩
set_option maxRecDepth 20000 in
set_option maxHeartbeats 400000 in
theorem markCache_nil (w : World) : Calls Try.prog 7 #[.agg #[.int .i64 1, .slice none 0 0], .int .i64 1] w fun e w' => e = .returned (.int .i64 1) ∧ w' = w.alloc (.cells #[.int .i64 1, .slice none 0 0] 24) := by
  go_enter Try.func7, Try.ntmps7
  go_wp2_with fail
  refine (markEntryS_nil 1 _).mono ?_
  rintro e w1 ⟨rfl, rfl⟩
  go_wp2_with fail
  go_ret
  exact ⟨rfl, rfl⟩
set_option maxRecDepth 20000 in
set_option maxHeartbeats 400000 in
theorem heldCache_nil (w : World) : Calls Try.prog 8 #[.agg #[.int .i64 1, .slice none 0 0], .int .i64 1] w fun e w' => e = .returned (.int .i64 1) ∧ w' = w.alloc (.cells #[.int .i64 1, .slice none 0 0] 24) := by
  go_enter Try.func8, Try.ntmps8
  go_wp2_with fail
  refine (heldEntryS_nil 1 _).mono ?_
  rintro e w1 ⟨rfl, rfl⟩
  go_wp2_with fail
  go_ret
  exact ⟨rfl, rfl⟩
theorem new_heap (w : World) (a : Obj) : (w.alloc a).heap[w.heap.size]? = some a := by
  show (w.heap.push a)[w.heap.size]? = some a
  simp
set_option maxRecDepth 20000 in
set_option maxHeartbeats 400000 in
theorem sNew (w : World) : Calls Try.prog 4 #[] w fun e w' => e = .returned (.agg #[.int .i64 1, .slice none 0 0]) ∧ w' = w.alloc (.cells #[.int .i64 1, .slice none 0 0] 24) := by
  go_enter Try.func4, Try.ntmps4
  go_wp2_with fail
  (try simp only [Exit.inBlock, Exit.then])
  refine bodyPost_ret (results_cell_row rfl _ _ w.heap.size 24 _ (0, 0) _ rfl (new_heap _ _) Try.underlying24 rfl (by kernel_rfl)) rfl ⟨rfl, rfl⟩
set_option maxRecDepth 20000 in
set_option maxHeartbeats 400000 in
theorem iNew (w : World) : Calls Try.prog 5 #[] w fun e w' => e = .returned (.agg #[.int .i64 1, .slice none 0 0]) ∧ w' = w.alloc (.cells #[.int .i64 1, .slice none 0 0] 24) := by
  go_enter Try.func5, Try.ntmps5
  go_wp2_with fail
  (try simp only [Exit.inBlock, Exit.then])
  refine bodyPost_ret (results_cell_row rfl _ _ w.heap.size 24 _ (0, 0) _ rfl (new_heap _ _) Try.underlying24 rfl (by kernel_rfl)) rfl ⟨rfl, rfl⟩

theorem two {W : World} {b : Nat} {v0 v1 : Value} {t : TypeId} (h : W.heap[b]? = some (.cells #[v0, v1] t)) :
    W.cell? ⟨b, 0, none⟩ = some v0 ∧ W.cell? ⟨b, 1, none⟩ = some v1 := by
  refine ⟨?_, ?_⟩ <;> (unfold World.cell?; rw [h]; rfl)
theorem lt_of {W : World} {b : Nat} {o : Obj} (h : W.heap[b]? = some o) : b < W.heap.size := by
  rw [Array.getElem?_eq_some_iff] at h; exact h.1
theorem Calls.one {f : Nat} {args : Array Value} {w : World} {v : Value} {o : Obj} (h : Calls Try.prog f args w fun e w' => e = .returned v ∧ w' = w.alloc o) : Calls Try.prog f args w fun e w' => e = .returned v ∧ Below w.heap.size w w' :=
  h.mono fun _ _ ⟨h1, h2⟩ => ⟨h1, by rw [h2]; exact (Below.refl _ _).alloc (Nat.le_refl _) _⟩
theorem Calls.twice {f : Nat} {args : Array Value} {w : World} {v : Value} {o p : Obj} (h : Calls Try.prog f args w fun e w' => e = .returned v ∧ w' = (w.alloc o).alloc p) : Calls Try.prog f args w fun e w' => e = .returned v ∧ Below w.heap.size w w' :=
  h.mono fun _ _ ⟨h1, h2⟩ => ⟨h1, by rw [h2]; exact ((Below.refl _ _).alloc (Nat.le_refl _) _).alloc (by simp) _⟩

set_option maxRecDepth 20000 in
set_option maxHeartbeats 2000000 in
theorem walk (w : World) : Calls Try.prog 3 #[] w fun e w' => e = .returned (.bool true) ∧ Below w.heap.size w w' := by
  go_enter Try.func3, Try.ntmps3
  go_wp2_with fail
  refine (Calls.one (sNew _)).mono ?_
  rintro e w1 ⟨rfl, hb1⟩
  go_wp2_with fail
  refine (Calls.one (iNew _)).mono ?_
  rintro e w2 ⟨rfl, hb2⟩
  have HP2 : Hid (w2.heap[w1.heap.size]? = some (.cells #[.int .i64 1, .slice none 0 0] 24)) := (hb2.block w1.heap.size (by simp)).trans (new_heap _ _)
  have hb12 : Below w1.heap.size w1 w2 := ((Below.refl w1.heap.size w1).alloc (Nat.le_refl _) _).trans (hb2.mono (by simp))
  have hbw2 : Below w.heap.size w w2 := hb1.trans (hb12.mono hb1.size)
  have hz12 : w1.heap.size < w2.heap.size := lt_of HP2.out
  obtain ⟨c0, c1⟩ := two HP2.out
  clear hb2 hb1 hb12
  go_wp2_with fail
  refine (Calls.twice (eqCache_nil _)).mono ?_
  rintro e w3 ⟨rfl, hb3⟩
  have hb23 : Below w2.heap.size w2 w3 := ((Below.refl w2.heap.size w2).alloc (Nat.le_refl _) _).trans (hb3.mono (by simp))
  have HP3 : Hid (w3.heap[w1.heap.size]? = some (.cells #[.int .i64 1, .slice none 0 0] 24)) := (hb23.block w1.heap.size hz12).trans HP2.out
  have HQ3 : Hid (w3.heap[w2.heap.size]? = some (.cells #[.int .i64 1, .slice none 0 0] 24)) := (hb3.block w2.heap.size (by simp)).trans (new_heap _ _)
  have hbw3 : Below w.heap.size w w3 := hbw2.trans (hb23.mono hbw2.size)
  clear c0 c1
  obtain ⟨c0, c1⟩ := two HQ3.out
  clear hb3 hb23 hbw2 HP2
  go_wp2_with fail
  refine (Calls.one (markCache_nil _)).mono ?_
  rintro e w4 ⟨rfl, hb4⟩
  have HP4 : Hid (w4.heap[w1.heap.size]? = some (.cells #[.int .i64 1, .slice none 0 0] 24)) := (hb4.block _ (lt_of HP3.out)).trans HP3.out
  have HQ4 : Hid (w4.heap[w2.heap.size]? = some (.cells #[.int .i64 1, .slice none 0 0] 24)) := (hb4.block _ (lt_of HQ3.out)).trans HQ3.out
  have hbw4 : Below w.heap.size w w4 := hbw3.trans (hb4.mono hbw3.size)
  clear c0 c1
  obtain ⟨c0, c1⟩ := two HQ4.out
  clear hb4 hbw3 HP3 HQ3
  go_wp2_with fail
  refine (Calls.one (heldCache_nil _)).mono ?_
  rintro e w5 ⟨rfl, hb5⟩
  have HP5 : Hid (w5.heap[w1.heap.size]? = some (.cells #[.int .i64 1, .slice none 0 0] 24)) := (hb5.block _ (lt_of HP4.out)).trans HP4.out
  have HQ5 : Hid (w5.heap[w2.heap.size]? = some (.cells #[.int .i64 1, .slice none 0 0] 24)) := (hb5.block _ (lt_of HQ4.out)).trans HQ4.out
  have hbw5 : Below w.heap.size w w5 := hbw4.trans (hb5.mono hbw4.size)
  clear c0 c1 hb5 hbw4 HP4 HQ4
  go_wp2_with fail
  refine (Calls.one (iNew _)).mono ?_
  rintro e w6 ⟨rfl, hb6⟩
  have HP6 : Hid (w6.heap[w1.heap.size]? = some (.cells #[.int .i64 1, .slice none 0 0] 24)) := (hb6.block _ (lt_of HP5.out)).trans HP5.out
  have HQ6 : Hid (w6.heap[w2.heap.size]? = some (.cells #[.int .i64 1, .slice none 0 0] 24)) := (hb6.block _ (lt_of HQ5.out)).trans HQ5.out
  have hbw6 : Below w.heap.size w w6 := hbw5.trans (hb6.mono hbw5.size)
  have hz16 : w1.heap.size < w6.heap.size := lt_of HP6.out
  have hz26 : w2.heap.size < w6.heap.size := lt_of HQ6.out
  obtain ⟨c0, c1⟩ := two HP6.out
  clear hb6 hbw5 HP5 HQ5
  go_wp2_with fail
  refine (Calls.twice (eqCache_nil _)).mono ?_
  rintro e w7 ⟨rfl, hb7⟩
  have hb67 : Below w6.heap.size w6 w7 := ((Below.refl w6.heap.size w6).alloc (Nat.le_refl _) _).trans (hb7.mono (by simp))
  have HQ7 : Hid (w7.heap[w2.heap.size]? = some (.cells #[.int .i64 1, .slice none 0 0] 24)) := (hb67.block w2.heap.size hz26).trans HQ6.out
  have hbw7 : Below w.heap.size w w7 := hbw6.trans (hb67.mono hbw6.size)
  clear c0 c1
  obtain ⟨c0, c1⟩ := two HQ7.out
  clear hb7 hb67 hbw6 HP6 HQ6
  go_wp2_with fail
  refine (Calls.one (heldCache_nil _)).mono ?_
  rintro e w8 ⟨rfl, hb8⟩
  have hbw8 : Below w.heap.size w w8 := hbw7.trans (hb8.mono hbw7.size)
  clear c0 c1 hb8 hbw7 HQ7
  go_wp2_with fail
  go_ret
  exact ⟨rfl, hbw8⟩
end Go.Proofs.Ytfpdcpmbpeacjaa.newCache
