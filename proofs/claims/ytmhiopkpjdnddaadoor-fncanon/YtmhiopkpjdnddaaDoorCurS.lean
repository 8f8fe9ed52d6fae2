import Derived.Test.YtmhiopkpjdnddaaDoorCurP
namespace Go.Proofs.YtmhiopkpjdnddaaDoor
open Go.RowKit

set_option maxRecDepth 20000 in
set_option maxHeartbeats 1000000 in
theorem one_any (n : Int) (g : Nat) (v : Value) (P : List Int) (B : Nat) (w : World) (hc : CurB w g v P B) (hB : B ≤ 1000000000000) (hl : P.length ≤ 9223372036854775807) (hn : 1 ≤ n ∧ n ≤ 65536) :
    Calls Tryd.prog 69 #[.pointer (some ⟨g, 0, none⟩), .int .i64 n] w fun e w' => ∃ x : Bool, e = .returned (.bool x) ∧ CurB w' g v P (B + 2) ∧ Kpt w w' (· = g) := by
  go_enter Tryd.func69, Tryd.ntmps69
  go_wp2_with fail
  refine (pick_any n g v P B _ hc hB hl hn).mono ?_
  rintro e w1 ⟨x, rfl, hx, hc1, hk1⟩
  go_wp2_with fail
  go_ret
  exact ⟨_, rfl, hc1, hk1⟩

theorem lit_row {w : World} {L : List Int} (hL : L.length ≤ 65536) : ZRow .i64 (w.alloc (.cells (L.map (Value.int .i64)).toArray 3)) (.slice (some ⟨w.heap.size, 0, none⟩) L.length L.length) L := by
  refine ⟨_, L.length, rfl, Nat.le_refl _, by unfold maxLen; omega, .inr ⟨w.heap.size, 0, rfl, by simp, fun j hj => ?_⟩⟩
  simp [hj]

theorem alloc_cur {w : World} {g : Nat} {v : Value} {P : List Int} {B : Nat} (h : CurB w g v P B) (o : Obj) : CurB (w.alloc o) g v P B := h.kpt (kpt_alloc w o (fun _ => False)) id (fun _ _ _ => id)
theorem lit_ne {w : World} {g : Nat} {v : Value} {P : List Int} {B n : Nat} (h : CurB w g v P B) : (Value.slice (some ⟨w.heap.size, 0, none⟩) n n).ownBlock ≠ some g := by
  intro e
  have e2 : w.heap.size = g := Option.some.inj e
  have := h.lt; omega

end Go.Proofs.YtmhiopkpjdnddaaDoor
