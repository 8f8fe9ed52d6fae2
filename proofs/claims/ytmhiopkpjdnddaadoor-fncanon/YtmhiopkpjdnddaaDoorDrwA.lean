import Derived.Test.YtmhiopkpjdnddaaDoorCurN
import Derived.Test.YtmhiopkpjdnddaaDoorParent
import Derived.Test.YtmhiopkpjdnddaaDoorListS
import Derived.OwnWalk
namespace Go.Proofs.YtmhiopkpjdnddaaDoor
open Go.RowKit

theorem parentL_le : ∀ l : List UInt8, (parentL l).length ≤ l.length
  | [] => Nat.le_refl _
  | c :: l => by
    unfold parentL
    split
    · simp
    · have := parentL_le l; simp; omega
theorem new_cur {w : World} {v : Value} {P : List Int} (hr : ZRow .u8 w v P) (hb : ∀ x ∈ P, 0 ≤ x ∧ x ≤ 255) :
    CurB (w.alloc (.cells #[v, .int .i64 0, .int .u64 0] 50)) w.heap.size v P 0 := by
  refine ⟨0, Nat.le_refl _, ⟨0, by omega, (MapKept.heap_alloc w _).1⟩, hr.kpt (kpt_alloc w _ (fun _ => False)) (fun _ _ _ => id), fun h0 e => ?_, hb⟩
  obtain ⟨a, cap, rfl, _, _, h⟩ := hr
  rcases h with h | ⟨b, o, rfl, hlt, _⟩
  · rw [h] at h0; simp at h0
  · have e2 : b = w.heap.size := Option.some.inj e
    omega
theorem cur_below {w w' : World} {o : Obj} (hk : Kpt (w.alloc o) w' (· = w.heap.size)) : Below w.heap.size w w' :=
  ((kpt_alloc w o (· = w.heap.size)).trans hk).below (Nat.le_refl _) (fun k hk e => by omega)
theorem code_lt {w : World} {v : Value} {P : List Int} (hr : ZRow .u8 w v P) (h0 : 0 < P.length) (k : Nat) (hk : v.ownBlock = some k) : k < w.heap.size := by
  obtain ⟨a, cap, rfl, _, _, h⟩ := hr
  rcases h with h | ⟨b, o, rfl, hlt, _⟩
  · rw [h] at h0; simp at h0
  · cases hk; exact hlt

set_option maxRecDepth 20000 in
set_option maxHeartbeats 1000000 in
theorem drawGoodName_any (v : Value) (P : List Int) (w : World) (hr : ZRow .u8 w v P) (hb : Hid (∀ x ∈ P, 0 ≤ x ∧ x ≤ 255)) (hl : P.length ≤ 9223372036854775807) :
    Calls Tryd.prog 33 #[v] w fun e w' => ∃ s : ByteArray, (e = .returned (.string s) ∧ s.size ≤ 30) ∧ Below w.heap.size w w' := by
  have HC0 : Hid (CurB (w.alloc (.cells #[v, .int .i64 0, .int .u64 0] 50)) w.heap.size v P 0) := new_cur hr hb.out
  obtain ⟨a, cap, rfl, hcap, hmax, _⟩ := zrow_value hr
  clear hr
  go_enter Tryd.func33, Tryd.ntmps33
  go_wp2_with fail
  refine (name_any w.heap.size _ P 0 _ HC0.out (by omega) hl).mono ?_
  rintro e w1 ⟨s, rfl, hs, hc, hk⟩
  go_wp2_with fail
  go_ret
  exact ⟨s, ⟨rfl, hs⟩, cur_below hk⟩
set_option maxRecDepth 20000 in
set_option maxHeartbeats 1000000 in
theorem drawLabelsOf_any (v : Value) (P : List Int) (w : World) (hr : ZRow .u8 w v P) (hb : Hid (∀ x ∈ P, 0 ≤ x ∧ x ≤ 255)) (hl : P.length ≤ 9223372036854775807) :
    Calls Tryd.prog 7 #[v] w fun e w' => ∃ s : ByteArray, (e = .returned (.string s) ∧ s.size ≤ 30) ∧ Below w.heap.size w w' := by
  have HR : Hid (ZRow .u8 w v P) := hr
  obtain ⟨a, cap, rfl, hcap, hmax, _⟩ := zrow_value hr
  clear hr
  go_enter Tryd.func7, Tryd.ntmps7
  go_wp2_with fail
  refine (drawGoodName_any _ P _ HR.out hb hl).mono ?_
  rintro e w1 ⟨s, ⟨rfl, hs⟩, hb1⟩
  go_wp2_with fail
  go_ret
  exact ⟨s, ⟨rfl, hs⟩, hb1⟩
set_option maxRecDepth 20000 in
set_option maxHeartbeats 1000000 in
theorem drawFoldName_any (v : Value) (P : List Int) (w : World) (hr : ZRow .u8 w v P) (hb : Hid (∀ x ∈ P, 0 ≤ x ∧ x ≤ 255)) (hl : P.length ≤ 9223372036854775807) :
    Calls Tryd.prog 20 #[v] w fun e w' => ∃ s : ByteArray, (e = .returned (.string s) ∧ s.size ≤ 30) ∧ Below w.heap.size w w' := by
  have HC0 : Hid (CurB (w.alloc (.cells #[v, .int .i64 0, .int .u64 0] 50)) w.heap.size v P 0) := new_cur hr hb.out
  obtain ⟨a, cap, rfl, hcap, hmax, _⟩ := zrow_value hr
  clear hr
  go_enter Tryd.func20, Tryd.ntmps20
  go_wp2_with fail
  have hsz : w.heap.size + 1 = (w.alloc (.cells #[.slice a P.length cap, .int .i64 0, .int .u64 0] 50)).heap.size := by simp
  have HB0 : Hid (∀ w' o, Kpt ((w.alloc (.cells #[.slice a P.length cap, .int .i64 0, .int .u64 0] 50)).alloc o) w' (· = w.heap.size) → Below w.heap.size w w') := fun w' o hk => cur_below ((kpt_alloc _ _ _).trans hk)
  obtain ⟨W, hW⟩ : ∃ W, W = w.alloc (.cells #[.slice a P.length cap, .int .i64 0, .int .u64 0] 50) := ⟨_, rfl⟩
  rw [← hW] at HC0 hsz HB0
  rw [← hW, hsz]
  clear hW
  refine (of_any _ [[87, 119, 87, 46, 69, 120, 46, 67, 79, 77], [97, 46, 66], [], [65, 95], [195, 169], [65, 46, 46, 66], [42, 46, 69, 88], [97, 66, 49, 45]] w.heap.size _ P 0 _ (alloc_cur HC0.out _) (by omega) hl (lit_rowS (L := [[87, 119, 87, 46, 69, 120, 46, 67, 79, 77], [97, 46, 66], [], [65, 95], [195, 169], [65, 46, 46, 66], [42, 46, 69, 88], [97, 66, 49, 45]]) (by decide)) (by decide) (lit_ne HC0.out)).mono ?_
  rintro e w1 ⟨y, rfl, hm, hc, hk⟩
  have hz : (⟨y.toArray⟩ : ByteArray).size ≤ 21 := by rw [size_of]; exact all_le (n := 21) (by decide) hm
  go_wp2_with fail
  go_ret
  exact ⟨_, ⟨rfl, by omega⟩, HB0.out _ _ hk⟩
set_option maxRecDepth 20000 in
set_option maxHeartbeats 1000000 in
theorem drawIsBelow_any (v : Value) (P : List Int) (w : World) (hr : ZRow .u8 w v P) (hb : Hid (∀ x ∈ P, 0 ≤ x ∧ x ≤ 255)) (hl : P.length ≤ 9223372036854775807) :
    Calls Tryd.prog 48 #[v] w fun e w' => ∃ s t : ByteArray, (e = .returned (.tuple #[.string s, .string t]) ∧ s.size ≤ 30 ∧ t.size ≤ 30) ∧ Below w.heap.size w w' := by
  have HC0 : Hid (CurB (w.alloc (.cells #[v, .int .i64 0, .int .u64 0] 50)) w.heap.size v P 0) := new_cur hr hb.out
  obtain ⟨a, cap, rfl, hcap, hmax, _⟩ := zrow_value hr
  clear hr
  go_enter Tryd.func48, Tryd.ntmps48
  go_wp2_with fail
  refine (name_any w.heap.size _ P 0 _ HC0.out (by omega) hl).mono ?_
  rintro e w1 ⟨s, rfl, hs, hc1, hk1⟩
  go_wp2_with fail
  refine (one_any _ w.heap.size _ P 20 _ hc1 (by omega) hl (by omega)).mono ?_
  rintro e w2 ⟨q, rfl, hc2, hk2⟩
  cases q with
  | true =>
    go_wp2_with fail
    refine (l1Parent_any s _ (by omega)).mono ?_
    rintro e w3 ⟨rfl, rfl⟩
    have hp : (⟨(parentL s.data.toList).toArray⟩ : ByteArray).size ≤ 30 := by
      rw [size_of]
      have h := parentL_le s.data.toList
      rw [show s.data.toList.length = s.size by simp] at h
      omega
    go_wp2_with fail
    go_ret2
    exact ⟨_, _, ⟨rfl, hs, hp⟩, cur_below (hk1.trans hk2)⟩
  | false =>
    go_wp2_with fail
    refine (name_any w.heap.size _ P 22 _ hc2 (by omega) hl).mono ?_
    rintro e w3 ⟨s2, rfl, hs2, hc3, hk3⟩
    go_wp2_with fail
    go_ret2
    exact ⟨_, _, ⟨rfl, hs, hs2⟩, cur_below ((hk1.trans hk2).trans hk3)⟩
set_option maxRecDepth 20000 in
set_option maxHeartbeats 1000000 in
theorem drawCompareNames_any (v : Value) (P : List Int) (w : World) (hr : ZRow .u8 w v P) (hb : Hid (∀ x ∈ P, 0 ≤ x ∧ x ≤ 255)) (hl : P.length ≤ 9223372036854775807) :
    Calls Tryd.prog 23 #[v] w fun e w' => ∃ s t : ByteArray, (e = .returned (.tuple #[.string s, .string t]) ∧ s.size ≤ 30 ∧ t.size ≤ 30) ∧ Below w.heap.size w w' := by
  have HR : Hid (ZRow .u8 w v P) := hr
  obtain ⟨a, cap, rfl, hcap, hmax, _⟩ := zrow_value hr
  clear hr
  go_enter Tryd.func23, Tryd.ntmps23
  go_wp2_with fail
  refine (drawIsBelow_any _ P _ HR.out hb hl).mono ?_
  rintro e w1 ⟨s, t, ⟨rfl, hs, ht⟩, hb1⟩
  go_wp2_with fail
  go_ret2
  exact ⟨s, t, ⟨rfl, hs, ht⟩, hb1⟩
set_option maxRecDepth 20000 in
set_option maxHeartbeats 1000000 in
theorem drawCommonOf_any (v : Value) (P : List Int) (w : World) (hr : ZRow .u8 w v P) (hb : Hid (∀ x ∈ P, 0 ≤ x ∧ x ≤ 255)) (hl : P.length ≤ 9223372036854775807) :
    Calls Tryd.prog 29 #[v] w fun e w' => ∃ s t : ByteArray, (e = .returned (.tuple #[.string s, .string t]) ∧ s.size ≤ 30 ∧ t.size ≤ 30) ∧ Below w.heap.size w w' := by
  have HR : Hid (ZRow .u8 w v P) := hr
  obtain ⟨a, cap, rfl, hcap, hmax, _⟩ := zrow_value hr
  clear hr
  go_enter Tryd.func29, Tryd.ntmps29
  go_wp2_with fail
  refine (drawIsBelow_any _ P _ HR.out hb hl).mono ?_
  rintro e w1 ⟨s, t, ⟨rfl, hs, ht⟩, hb1⟩
  go_wp2_with fail
  go_ret2
  exact ⟨s, t, ⟨rfl, hs, ht⟩, hb1⟩
end Go.Proofs.YtmhiopkpjdnddaaDoor
