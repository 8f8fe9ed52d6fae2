import Derived.Test.YtjbmnghcfmbjeaaCurS
namespace Go.Proofs.Ytjbmnghcfmbjeaa
open Go.RowKit

theorem new_cur {w : World} {v : Value} {P : List Int} (hr : ZRow .u8 w v P) (hb : ∀ x ∈ P, 0 ≤ x ∧ x ≤ 255) :
    CurB (w.alloc (.cells #[v, .int .i64 0, .int .u64 0] 43)) w.heap.size v P 0 := by
  refine ⟨0, Nat.le_refl _, ⟨0, by omega, (MapKept.heap_alloc w _).1⟩, hr.kpt (kpt_alloc w _ (fun _ => False)) (fun _ _ _ => id), fun h0 e => ?_, hb⟩
  obtain ⟨a, cap, rfl, _, _, h⟩ := hr
  rcases h with h | ⟨b, o, rfl, hlt, _⟩
  · rw [h] at h0; simp at h0
  · have e2 : b = w.heap.size := Option.some.inj e
    omega
theorem cur_below {w w' : World} {o : Obj} (hk : Kpt (w.alloc o) w' (· = w.heap.size)) : Below w.heap.size w w' :=
  ((kpt_alloc w o (· = w.heap.size)).trans hk).below (Nat.le_refl _) (fun k hk e => by omega)

set_option maxRecDepth 20000 in
set_option maxHeartbeats 1000000 in
theorem drawSerialAdd_any (v : Value) (P : List Int) (w : World) (hr : ZRow .u8 w v P) (hb : Hid (∀ x ∈ P, 0 ≤ x ∧ x ≤ 255)) (hl : P.length ≤ 9223372036854775807) :
    Calls Try.prog 11 #[v] w fun e w' => ∃ x y : Int, (e = .returned (.tuple #[.int .i64 x, .int .i64 y]) ∧ (-1 ≤ x ∧ x ≤ 4294967296) ∧ (-1 ≤ y ∧ y ≤ 2147483648)) ∧ Below w.heap.size w w' := by
  have HC0 : Hid (CurB (w.alloc (.cells #[v, .int .i64 0, .int .u64 0] 43)) w.heap.size v P 0) := new_cur hr hb.out
  have HK0 : Hid (Kpt (w.alloc (.cells #[v, .int .i64 0, .int .u64 0] 43)) (w.alloc (.cells #[v, .int .i64 0, .int .u64 0] 43)) (· = w.heap.size)) := Kpt.refl _ _
  obtain ⟨a, cap, rfl, hcap, hmax, _⟩ := zrow_value hr
  clear hr
  go_enter Try.func11, Try.ntmps11
  go_wp2_with fail
  refine (serial_any w.heap.size _ P 0 _ HC0.out (by omega) hl).mono ?_
  rintro e w1 ⟨x1, rfl, hx1, hc, hk⟩
  have HK1 : Hid (Kpt (w.alloc (.cells #[.slice a P.length cap, .int .i64 0, .int .u64 0] 43)) w1 (· = w.heap.size)) := HK0.out.trans hk
  have HC1 : Hid (CurB w1 w.heap.size (.slice a P.length cap) P 4) := hc
  clear hc hk
  go_wp2_with fail
  refine (among_any _ [-1, 0, 1, 5, 100, 2147483647, 2147483648] w.heap.size _ P 4 _ (alloc_cur HC1.out _) (by omega) hl (lit_row (L := [-1, 0, 1, 5, 100, 2147483647, 2147483648]) (by decide)) (by decide) (lit_ne HC1.out)).mono ?_
  rintro e w2 ⟨x2, rfl, hy, hc, hk⟩
  have hx2 : -1 ≤ x2 ∧ x2 ≤ 2147483648 := by simp only [List.mem_cons, List.not_mem_nil, or_false] at hy; omega
  clear hy
  have HK2 : Hid (Kpt (w.alloc (.cells #[.slice a P.length cap, .int .i64 0, .int .u64 0] 43)) w2 (· = w.heap.size)) := (HK1.out.trans (kpt_alloc _ _ _)).trans hk
  have HC2 : Hid (CurB w2 w.heap.size (.slice a P.length cap) P 6) := hc
  clear hc hk
  go_wp2_with fail
  go_ret2
  exact ⟨x1, x2, ⟨rfl, hx1, hx2⟩, cur_below HK2.out⟩

set_option maxRecDepth 20000 in
set_option maxHeartbeats 1000000 in
theorem drawSerialLess_any (v : Value) (P : List Int) (w : World) (hr : ZRow .u8 w v P) (hb : Hid (∀ x ∈ P, 0 ≤ x ∧ x ≤ 255)) (hl : P.length ≤ 9223372036854775807) :
    Calls Try.prog 16 #[v] w fun e w' => ∃ x y : Int, (e = .returned (.tuple #[.int .i64 x, .int .i64 y]) ∧ (-1 ≤ x ∧ x ≤ 4294967296) ∧ (-1 ≤ y ∧ y ≤ 4294967296)) ∧ Below w.heap.size w w' := by
  have HC0 : Hid (CurB (w.alloc (.cells #[v, .int .i64 0, .int .u64 0] 43)) w.heap.size v P 0) := new_cur hr hb.out
  have HK0 : Hid (Kpt (w.alloc (.cells #[v, .int .i64 0, .int .u64 0] 43)) (w.alloc (.cells #[v, .int .i64 0, .int .u64 0] 43)) (· = w.heap.size)) := Kpt.refl _ _
  obtain ⟨a, cap, rfl, hcap, hmax, _⟩ := zrow_value hr
  clear hr
  go_enter Try.func16, Try.ntmps16
  go_wp2_with fail
  refine (serial_any w.heap.size _ P 0 _ HC0.out (by omega) hl).mono ?_
  rintro e w1 ⟨x1, rfl, hx1, hc, hk⟩
  have HK1 : Hid (Kpt (w.alloc (.cells #[.slice a P.length cap, .int .i64 0, .int .u64 0] 43)) w1 (· = w.heap.size)) := HK0.out.trans hk
  have HC1 : Hid (CurB w1 w.heap.size (.slice a P.length cap) P 4) := hc
  clear hc hk
  go_wp2_with fail
  refine (serial_any w.heap.size _ P 4 _ HC1.out (by omega) hl).mono ?_
  rintro e w2 ⟨x2, rfl, hx2, hc, hk⟩
  have HK2 : Hid (Kpt (w.alloc (.cells #[.slice a P.length cap, .int .i64 0, .int .u64 0] 43)) w2 (· = w.heap.size)) := HK1.out.trans hk
  have HC2 : Hid (CurB w2 w.heap.size (.slice a P.length cap) P 8) := hc
  clear hc hk
  go_wp2_with fail
  go_ret2
  exact ⟨x1, x2, ⟨rfl, hx1, hx2⟩, cur_below HK2.out⟩

set_option maxRecDepth 20000 in
set_option maxHeartbeats 1000000 in
theorem drawSerialOf_any (v : Value) (P : List Int) (w : World) (hr : ZRow .u8 w v P) (hb : Hid (∀ x ∈ P, 0 ≤ x ∧ x ≤ 255)) (hl : P.length ≤ 9223372036854775807) :
    Calls Try.prog 19 #[v] w fun e w' => ∃ x : Int, (e = .returned (.int .i64 x) ∧ (-1 ≤ x ∧ x ≤ 1152921504606846977)) ∧ Below w.heap.size w w' := by
  have HC0 : Hid (CurB (w.alloc (.cells #[v, .int .i64 0, .int .u64 0] 43)) w.heap.size v P 0) := new_cur hr hb.out
  have HK0 : Hid (Kpt (w.alloc (.cells #[v, .int .i64 0, .int .u64 0] 43)) (w.alloc (.cells #[v, .int .i64 0, .int .u64 0] 43)) (· = w.heap.size)) := Kpt.refl _ _
  obtain ⟨a, cap, rfl, hcap, hmax, _⟩ := zrow_value hr
  clear hr
  go_enter Try.func19, Try.ntmps19
  go_wp2_with fail
  refine (counter_any w.heap.size _ P 0 _ HC0.out (by omega) hl).mono ?_
  rintro e w1 ⟨x1, rfl, hx1, hc, hk⟩
  have HK1 : Hid (Kpt (w.alloc (.cells #[.slice a P.length cap, .int .i64 0, .int .u64 0] 43)) w1 (· = w.heap.size)) := HK0.out.trans hk
  have HC1 : Hid (CurB w1 w.heap.size (.slice a P.length cap) P 4) := hc
  clear hc hk
  go_wp2_with fail
  go_ret
  exact ⟨x1, ⟨rfl, hx1⟩, cur_below HK1.out⟩

set_option maxRecDepth 20000 in
set_option maxHeartbeats 1000000 in
theorem drawCounterFor_any (v : Value) (P : List Int) (w : World) (hr : ZRow .u8 w v P) (hb : Hid (∀ x ∈ P, 0 ≤ x ∧ x ≤ 255)) (hl : P.length ≤ 9223372036854775807) :
    Calls Try.prog 24 #[v] w fun e w' => ∃ x y : Int, (e = .returned (.tuple #[.int .i64 x, .int .i64 y]) ∧ (-1 ≤ x ∧ x ≤ 4294967296) ∧ (-1 ≤ y ∧ y ≤ 1152921504606846977)) ∧ Below w.heap.size w w' := by
  have HC0 : Hid (CurB (w.alloc (.cells #[v, .int .i64 0, .int .u64 0] 43)) w.heap.size v P 0) := new_cur hr hb.out
  have HK0 : Hid (Kpt (w.alloc (.cells #[v, .int .i64 0, .int .u64 0] 43)) (w.alloc (.cells #[v, .int .i64 0, .int .u64 0] 43)) (· = w.heap.size)) := Kpt.refl _ _
  obtain ⟨a, cap, rfl, hcap, hmax, _⟩ := zrow_value hr
  clear hr
  go_enter Try.func24, Try.ntmps24
  go_wp2_with fail
  refine (serial_any w.heap.size _ P 0 _ HC0.out (by omega) hl).mono ?_
  rintro e w1 ⟨x1, rfl, hx1, hc, hk⟩
  have HK1 : Hid (Kpt (w.alloc (.cells #[.slice a P.length cap, .int .i64 0, .int .u64 0] 43)) w1 (· = w.heap.size)) := HK0.out.trans hk
  have HC1 : Hid (CurB w1 w.heap.size (.slice a P.length cap) P 4) := hc
  clear hc hk
  go_wp2_with fail
  refine (counter_any w.heap.size _ P 4 _ HC1.out (by omega) hl).mono ?_
  rintro e w2 ⟨x2, rfl, hx2, hc, hk⟩
  have HK2 : Hid (Kpt (w.alloc (.cells #[.slice a P.length cap, .int .i64 0, .int .u64 0] 43)) w2 (· = w.heap.size)) := HK1.out.trans hk
  have HC2 : Hid (CurB w2 w.heap.size (.slice a P.length cap) P 8) := hc
  clear hc hk
  go_wp2_with fail
  go_ret2
  exact ⟨x1, x2, ⟨rfl, hx1, hx2⟩, cur_below HK2.out⟩

end Go.Proofs.Ytjbmnghcfmbjeaa
