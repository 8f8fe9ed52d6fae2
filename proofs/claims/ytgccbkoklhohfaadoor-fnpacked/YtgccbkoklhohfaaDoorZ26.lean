import Derived.Test.YtgccbkoklhohfaaDoorZ17
import Derived.Test.YtgccbkoklhohfaaDoorZ25
namespace Go.Proofs.YtgccbkoklhohfaaDoor
open Go.RowKit

set_option maxRecDepth 20000 in
set_option maxHeartbeats 2000000 in
theorem packedC_any (g : Nat) (v : Value) (P : List Int) (B : Nat) (w : World) (hc : CurB w g v P B) (hB : B ≤ 800000000) (hl : P.length ≤ 9223372036854775807) (HCL : Hid (0 < P.length → ∀ k, v.ownBlock = some k → k < w.heap.size)) :
    Calls Tryd.prog 72 #[.pointer (some ⟨g, 0, none⟩)] w fun e w' => ∃ (x : ByteArray) (n : Nat), e = .returned (.tuple #[.string x, .int .i64 (n : Int)]) ∧ (x.size ≤ 700 ∧ n ≤ 100) ∧ CurB w' g v P (B + 4000) ∧ Kpt w w' (· = g) := by
  go_enter Tryd.func72, Tryd.ntmps72
  go_wp2_with fail
  refine (goodNames_any g v P B _ hc (by omega) hl HCL).mono ?_
  rintro e w1 ⟨u, L, rfl, ho, hs, hc1, hk1⟩
  have HR1 : Hid (Row w1 u L) := row_own ho
  have HT : Hid (L.length + tot L ≤ 1048576) := by have h1 := hs.tot; have h2 := hs.1; show _ ≤ _; omega
  have hn := hs.1
  obtain ⟨a, cap, rfl, hcap, hmax, _⟩ := row_value HR1.out
  have HC1 : Hid (CurB w1 g v P (B + 3000)) := hc1
  have HK1 : Hid (Kpt w w1 (· = g)) := hk1
  obtain ⟨z, o, hzo⟩ : ∃ (z : List UInt8) (o : Bool), putVal (packR L) = .returned (.tuple #[.string ⟨z.toArray⟩, .bool o]) ∧ z.length ≤ 600 := by
    unfold putVal
    refine ⟨_, _, rfl, ?_⟩
    cases hp : packR L with
    | none => simp
    | some y => exact (pack_back hp).2.2.2
  have HZ : Hid (putVal (packR L) = .returned (.tuple #[.string ⟨z.toArray⟩, .bool o])) := hzo.1
  have hz : (⟨z.toArray⟩ : ByteArray).size ≤ 600 := by rw [size_of]; exact hzo.2
  clear ho hs hc1 hk1 hzo
  go_wp2_with fail
  refine (sPackNames_any _ L _ HR1.out HT).mono ?_
  rw [HZ.out]
  rintro e w2 ⟨rfl, hb2⟩
  have HC2 : Hid (CurB w2 g v P (B + 3000)) := HC1.out.kpt (below_kpt0 hb2 (fun _ => False)) id (fun _ _ _ => id)
  have HK2 : Hid (Kpt w w2 (· = g)) := HK1.out.trans (below_kpt0 hb2 _)
  clear hb2
  go_wp2_with fail
  refine (one_any _ g _ P (B + 3000) _ HC2.out (by omega) hl (by omega)).mono ?_
  rintro e w3 ⟨q, rfl, hc3, hk3⟩
  have HK3 : Hid (Kpt w w3 (· = g)) := HK2.out.trans hk3
  have HC3 : Hid (CurB w3 g v P (B + 3002)) := hc3
  clear hc3 hk3
  cases q with
  | false =>
    go_wp2_with fail
    go_ret2
    exact ⟨_, L.length, rfl, ⟨by omega, hn⟩, HC3.out.mono (by omega), HK3.out⟩
  | true =>
    go_wp2_with fail
    refine (spoilt_any _ _ g _ P (B + 3002) _ HC3.out (by omega) hl (by omega) (by decide)).mono ?_
    rintro e w4 ⟨y, rfl, hy, hc4, hk4⟩
    have HK4 : Hid (Kpt w w4 (· = g)) := HK3.out.trans hk4
    have HC4 : Hid (CurB w4 g v P (B + 3022)) := hc4
    clear hc4 hk4
    go_wp2_with fail
    go_ret2
    exact ⟨_, L.length, rfl, ⟨by omega, hn⟩, HC4.out.mono (by omega), HK4.out⟩

set_option maxRecDepth 20000 in
set_option maxHeartbeats 1000000 in
theorem drawPackNames_any (v : Value) (P : List Int) (w : World) (hr : ZRow .u8 w v P) (hb : Hid (∀ x ∈ P, 0 ≤ x ∧ x ≤ 255)) (hl : P.length ≤ 9223372036854775807) :
    Calls Tryd.prog 33 #[v] w fun e w' => ∃ (u : Value) (L : List (List UInt8)), (e = .returned u ∧ Row w' u L ∧ Small L) ∧ Below w.heap.size w w' := by
  have HCL : Hid (0 < P.length → ∀ k, v.ownBlock = some k → k < (w.alloc (.cells #[v, .int .i64 0, .int .u64 0] 55)).heap.size) := fun h0 k hk => by have := code_lt hr h0 k hk; simp; omega
  have HC0 : Hid (CurB (w.alloc (.cells #[v, .int .i64 0, .int .u64 0] 55)) w.heap.size v P 0) := new_cur hr hb.out
  obtain ⟨a, cap, rfl, hcap, hmax, _⟩ := zrow_value hr
  clear hr
  go_enter Tryd.func33, Tryd.ntmps33
  go_wp2_with fail
  refine (goodNames_any w.heap.size _ P 0 _ HC0.out (by omega) hl HCL).mono ?_
  rintro e w1 ⟨u, L, rfl, ho, hs, hc, hk⟩
  have HF : Hid (Row w1 u L) := row_own ho
  clear ho
  go_wp2_with fail
  go_ret
  exact ⟨_, L, ⟨rfl, HF.out, hs⟩, cur_below hk⟩

set_option maxRecDepth 20000 in
set_option maxHeartbeats 1000000 in
theorem drawUnpackNames_any (v : Value) (P : List Int) (w : World) (hr : ZRow .u8 w v P) (hb : Hid (∀ x ∈ P, 0 ≤ x ∧ x ≤ 255)) (hl : P.length ≤ 9223372036854775807) :
    Calls Tryd.prog 38 #[v] w fun e w' => ∃ (x : ByteArray) (n : Int), (e = .returned (.tuple #[.string x, .int .i64 n]) ∧ x.size ≤ 700 ∧ (-1 ≤ n ∧ n ≤ 102)) ∧ Below w.heap.size w w' := by
  have HCL : Hid (0 < P.length → ∀ k, v.ownBlock = some k → k < (w.alloc (.cells #[v, .int .i64 0, .int .u64 0] 55)).heap.size) := fun h0 k hk => by have := code_lt hr h0 k hk; simp; omega
  have HC0 : Hid (CurB (w.alloc (.cells #[v, .int .i64 0, .int .u64 0] 55)) w.heap.size v P 0) := new_cur hr hb.out
  obtain ⟨a, cap, rfl, hcap, hmax, _⟩ := zrow_value hr
  clear hr
  go_enter Tryd.func38, Tryd.ntmps38
  go_wp2_with fail
  refine (packedC_any w.heap.size _ P 0 _ HC0.out (by omega) hl HCL).mono ?_
  rintro e w1 ⟨x, n, rfl, ⟨hx, hn⟩, hc1, hk1⟩
  have HC1 : Hid (CurB w1 w.heap.size (.slice a P.length cap) P (0 + 4000)) := hc1
  have HK1 : Hid (Kpt (w.alloc (.cells #[.slice a P.length cap, .int .i64 0, .int .u64 0] 55)) w1 (· = w.heap.size)) := hk1
  clear hc1 hk1
  go_wp2_with fail
  refine (one_any _ w.heap.size _ P (0 + 4000) _ HC1.out (by omega) hl (by omega)).mono ?_
  rintro e w2 ⟨q, rfl, hc2, hk2⟩
  cases q with
  | false =>
    go_wp2_with fail
    go_ret2
    exact ⟨_, _, ⟨rfl, hx, by omega⟩, cur_below (HK1.out.trans hk2)⟩
  | true =>
    go_wp2_with fail
    refine (pick_any _ w.heap.size _ P (0 + 4000 + 2) _ hc2 (by omega) hl (by omega)).mono ?_
    rintro e w3 ⟨y, rfl, hy, hc3, hk3⟩
    go_wp2_with fail
    go_ret2
    exact ⟨_, _, ⟨rfl, hx, by omega⟩, cur_below ((HK1.out.trans hk2).trans hk3)⟩
end Go.Proofs.YtgccbkoklhohfaaDoor
