import Derived.Test.YtjbhhllfbonaiaaZ02
import Derived.Test.YtjbhhllfbonaiaaZ00
import Derived.WalkSmall
import Derived.Deep.QuietTactic
import Derived.BigQuiet
import Derived.Laws.Bits64b
namespace Go.Proofs.Ytjbhhllfbonaiaa
open Go.RowKit

/-- A cursor over drawn bytes, in a block of its own, at the p-th one. -/
def CurAt (w : World) (g : Nat) (v : Value) (p : Nat) : Prop :=
  ∃ s : Int, (0 ≤ s ∧ s ≤ 18446744073709551615) ∧ w.heap[g]? = some (.cells #[v, .int .i64 (p : Int), .int .u64 s] 52)
/-- The cursor and the bytes that it reads, which lie elsewhere. -/
def CurOk (w : World) (g : Nat) (v : Value) (P : List Int) (p : Nat) : Prop :=
  CurAt w g v p ∧ ZRow .u8 w v P ∧ (0 < P.length → v.ownBlock ≠ some g) ∧ ∀ x ∈ P, 0 ≤ x ∧ x ≤ 255

theorem cells_3 {W : World} {b : Nat} {v0 v1 v2 : Value} {t : TypeId} (h : W.heap[b]? = some (.cells #[v0, v1, v2] t)) :
    W.cell? ⟨b, 0, none⟩ = some v0 ∧ W.cell? ⟨b, 1, none⟩ = some v1 ∧ W.cell? ⟨b, 2, none⟩ = some v2 := by
  refine ⟨?_, ?_, ?_⟩ <;> (unfold World.cell?; rw [h]; rfl)
theorem frozen_3 {W : World} {b : Nat} {cs : Array Value} {t : TypeId} (h : W.heap[b]? = some (.cells cs t)) :
    W.frozen? ⟨b, 0, none⟩ = false ∧ W.frozen? ⟨b, 1, none⟩ = false ∧ W.frozen? ⟨b, 2, none⟩ = false := by
  refine ⟨?_, ?_, ?_⟩ <;> (unfold World.frozen?; rw [h]; simp)

theorem heap_set {W : World} {b k : Nat} {cs : Array Value} {t : TypeId} {u : Value} (h : W.heap[b]? = some (.cells cs t)) : (W.setCell ⟨b, k, none⟩ u).heap[b]? = some (.cells (cs.setIfInBounds k u) t) := by
  unfold World.setCell
  simp only [Array.getElem?_modify, if_true, h, Option.map_some]
  rfl
theorem ZRow.kpt {k : IntKind} {w w' : World} {S : Nat → Prop} {v : Value} {zs : List Int} (h : ZRow k w v zs) (hk : Kpt w w' S) (hn : 0 < zs.length → ∀ g, v.ownBlock = some g → ¬ S g) : ZRow k w' v zs := by
  obtain ⟨a, cap, rfl, h1, h2, h3⟩ := h
  refine ⟨a, cap, rfl, h1, h2, ?_⟩
  rcases h3 with h3 | ⟨b, o, rfl, hb1, hc⟩
  · exact .inl h3
  · exact .inr ⟨b, o, rfl, Nat.lt_of_lt_of_le hb1 hk.size, fun j hj => hk.cell (hc j hj) (hn (by omega) b rfl)⟩
theorem kpt_drew {w w' : World} {S : Nat → Prop} (h : Kpt w w' S) (n : Nat) : Kpt w (w'.drewN n) S := ⟨h.os, h.tape, h.output, h.size, h.block⟩
theorem u64_in (n : Int) : 0 ≤ IntKind.u64.wrap n ∧ IntKind.u64.wrap n < 18446744073709551616 := by
  simp only [IntKind.wrap, IntKind.signed, IntKind.bits]; simp; omega
/-- The cursor behind a step, and all else as it was. -/
theorem cur_next {w : World} {g : Nat} {v : Value} {P : List Int} {p : Nat} (hc : CurOk w g v P p) (n m : Nat) (s : Int) :
    CurOk ((((w.drewN n).setCell ⟨g, 1, none⟩ (.int .i64 ((p : Int) + 1))).setCell ⟨g, 2, none⟩ (.int .u64 (IntKind.u64.wrap s))).drewN m) g v P (p + 1) ∧
      Kpt w ((((w.drewN n).setCell ⟨g, 1, none⟩ (.int .i64 ((p : Int) + 1))).setCell ⟨g, 2, none⟩ (.int .u64 (IntKind.u64.wrap s))).drewN m) (· = g) := by
  obtain ⟨⟨s0, hs0, hblk⟩, hr, hne, hby⟩ := hc
  have hk : Kpt w ((((w.drewN n).setCell ⟨g, 1, none⟩ (.int .i64 ((p : Int) + 1))).setCell ⟨g, 2, none⟩ (.int .u64 (IntKind.u64.wrap s))).drewN m) (· = g) :=
    kpt_drew (((kpt_drew (Kpt.refl w (· = g)) n).trans (kpt_set _ g 1 _ rfl)).trans (kpt_set _ g 2 _ rfl)) m
  refine ⟨⟨⟨IntKind.u64.wrap s, ?_, ?_⟩, hr.kpt hk (fun h0 g' h' e => hne h0 (by rw [h', e])), hne, hby⟩, hk⟩
  · have := u64_in s; omega
  · have h1 := heap_set (k := 1) (u := .int .i64 ((p : Int) + 1)) (show (w.drewN n).heap[g]? = _ from hblk)
    have h2 := heap_set (k := 2) (u := .int .u64 (IntKind.u64.wrap s)) h1
    exact h2
theorem low_byte (n : Int) (h0 : 0 ≤ n) (h1 : n < 18446744073709551616) : 0 ≤ wrap64 (bits BinOp.and IntKind.u64 n 255) ∧ wrap64 (bits BinOp.and IntKind.u64 n 255) ≤ 255 := by
  obtain ⟨m, rfl⟩ := Int.eq_ofNat_of_zero_le h0
  have e := bits_and_u64_nat m 255 (by omega) (by omega)
  have e2 : bits BinOp.and IntKind.u64 (m : Int) 255 = ((m &&& 255 : Nat) : Int) := e
  have hle : m &&& 255 ≤ 255 := Nat.and_le_right
  rw [e2]
  rw [IntWalk.wrap64_in _ ⟨by omega, by omega⟩]
  omega

set_option maxRecDepth 20000 in
set_option maxHeartbeats 1000000 in
theorem next_any (g : Nat) (v : Value) (P : List Int) (p : Nat) (w : World) (hc : CurOk w g v P p) (hp : p ≤ 1099511627776) (hl : P.length ≤ 9223372036854775807) :
    Calls Try.prog 31 #[.pointer (some ⟨g, 0, none⟩)] w fun e w' => ∃ x : Int, e = .returned (.int .i64 x) ∧ (0 ≤ x ∧ x ≤ 255) ∧ CurOk w' g v P (p + 1) ∧ Kpt w w' (· = g) := by
  have HC : Hid (CurOk w g v P p) := hc
  obtain ⟨⟨s, hs, hblk⟩, hr, hne, hby⟩ := hc
  have HR0 : Hid (ZRow .u8 w v P) := hr
  have HBY : Hid (∀ x ∈ P, 0 ≤ x ∧ x ≤ 255) := hby
  have HB : Hid (w.heap[g]? = some (.cells #[v, .int .i64 (p : Int), .int .u64 s] 52)) := hblk
  obtain ⟨c0, c1, c2⟩ := cells_3 hblk
  obtain ⟨f0, f1, f2⟩ := frozen_3 hblk
  obtain ⟨a, cap, rfl, hcap, hmax, HROW⟩ := zrow_value hr
  clear hr hblk hby
  by_cases hlt : p < P.length
  · obtain ⟨b, o, ha, hbl, hcel⟩ := HROW.out (by omega)
    subst ha
    have hne := hne (by omega)
    have hx := hcel p hlt
    have hxi := HBY.out _ (List.getElem_mem hlt)
    obtain ⟨x, hxe⟩ : ∃ x, x = P[p]'hlt := ⟨_, rfl⟩
    rw [← hxe] at hx hxi
    clear hcel hxe
    go_enter Try.func31, Try.ntmps31
    go_wp2_with fail
    go_quiet (fail)
    go_wp2_with fail
    go_quiet (fail)
    go_wp2_with fail
    go_quiet (fail)
    go_wp2_with fail
    go_ret
    exact ⟨x, rfl, hxi, (cur_next HC.out _ _ _).1, (cur_next HC.out _ _ _).2⟩
  · clear HROW
    go_enter Try.func31, Try.ntmps31
    go_wp2_with fail
    go_quiet (fail)
    go_wp2_with fail
    go_quiet (fail)
    go_wp2_with fail
    go_ret
    have hu := u64_in (IntKind.u64.wrap (IntKind.u64.wrap (s * 6364136223846793005)) + 1442695040888963407)
    exact ⟨_, rfl, low_byte _ (by omega) (by omega), (cur_next HC.out _ _ _).1, (cur_next HC.out _ _ _).2⟩
end Go.Proofs.Ytjbhhllfbonaiaa

namespace Go.Proofs.Ytjbhhllfbonaiaa
open Go.RowKit

/-- The cursor at the B-th byte at most. -/
def CurB (w : World) (g : Nat) (v : Value) (P : List Int) (B : Nat) : Prop := ∃ p, p ≤ B ∧ CurOk w g v P p
theorem CurB.mono {w : World} {g : Nat} {v : Value} {P : List Int} {B C : Nat} (h : CurB w g v P B) (hbc : B ≤ C) : CurB w g v P C := by
  obtain ⟨p, hp, h⟩ := h; exact ⟨p, by omega, h⟩
/-- What else is made or drawn leaves the cursor alone. -/
theorem CurB.kpt {w w' : World} {g : Nat} {v : Value} {P : List Int} {B : Nat} {S : Nat → Prop} (h : CurB w g v P B) (hk : Kpt w w' S) (hg : ¬ S g) (hn : 0 < P.length → ∀ k, v.ownBlock = some k → ¬ S k) : CurB w' g v P B := by
  obtain ⟨p, hp, ⟨s, hs, hb⟩, hr, hne, hby⟩ := h
  have hlt : g < w.heap.size := (Array.getElem?_eq_some_iff.1 hb).1
  exact ⟨p, hp, ⟨s, hs, (hk.block g hlt hg).trans hb⟩, hr.kpt hk hn, hne, hby⟩
theorem CurB.lt {w : World} {g : Nat} {v : Value} {P : List Int} {B : Nat} (h : CurB w g v P B) : g < w.heap.size := by
  obtain ⟨p, hp, ⟨s, hs, hb⟩, _⟩ := h
  exact (Array.getElem?_eq_some_iff.1 hb).1
theorem CurB.drew {w : World} {g : Nat} {v : Value} {P : List Int} {B : Nat} (h : CurB w g v P B) (n : Nat) : CurB (w.drewN n) g v P B := h.kpt (S := fun _ => False) (kpt_drew (Kpt.refl w _) n) id (fun _ _ _ => id)

theorem nextB_any (g : Nat) (v : Value) (P : List Int) (B : Nat) (w : World) (hc : CurB w g v P B) (hB : B ≤ 1099511627776) (hl : P.length ≤ 9223372036854775807) :
    Calls Try.prog 31 #[.pointer (some ⟨g, 0, none⟩)] w fun e w' => ∃ x : Int, e = .returned (.int .i64 x) ∧ (0 ≤ x ∧ x ≤ 255) ∧ CurB w' g v P (B + 1) ∧ Kpt w w' (· = g) := by
  obtain ⟨p, hp, hc⟩ := hc
  refine (next_any g v P p w hc (by omega) hl).mono ?_
  rintro e w' ⟨x, he, hx, hc', hk⟩
  exact ⟨x, he, hx, ⟨p + 1, by omega, hc'⟩, hk⟩

set_option maxRecDepth 20000 in
set_option maxHeartbeats 1000000 in
theorem pick_any (n : Int) (g : Nat) (v : Value) (P : List Int) (B : Nat) (w : World) (hc : CurB w g v P B) (hB : B ≤ 1000000000000) (hl : P.length ≤ 9223372036854775807) (hn : 1 ≤ n ∧ n ≤ 65536) :
    Calls Try.prog 24 #[.pointer (some ⟨g, 0, none⟩), .int .i64 n] w fun e w' => ∃ x : Int, e = .returned (.int .i64 x) ∧ (0 ≤ x ∧ x < n) ∧ CurB w' g v P (B + 2) ∧ Kpt w w' (· = g) := by
  have HC : Hid (CurB w g v P B) := hc
  clear hc
  by_cases h1 : n ≤ 1
  · go_enter Try.func24, Try.ntmps24
    go_wp2_with fail
    go_ret
    exact ⟨0, rfl, by omega, HC.out.mono (by omega), Kpt.refl _ _⟩
  · by_cases h2 : n ≤ 200
    · go_enter Try.func24, Try.ntmps24
      go_wp2_with fail
      refine (nextB_any g v P B _ HC.out (by omega) hl).mono ?_
      rintro e w1 ⟨x, rfl, hx, hc1, hk1⟩
      have HC1 : Hid (CurB w1 g v P (B + 1)) := hc1
      clear hc1
      have hn0 : ¬ n = 0 := by omega
      go_wp2_with fail
      go_ret
      exact ⟨_, rfl, ⟨Int.emod_nonneg _ (by omega), Int.emod_lt_of_pos _ (by omega)⟩, HC1.out.mono (by omega), hk1⟩
    · go_enter Try.func24, Try.ntmps24
      go_wp2_with fail
      refine (nextB_any g v P B _ HC.out (by omega) hl).mono ?_
      rintro e w1 ⟨x, rfl, hx, hc1, hk1⟩
      have HC1 : Hid (CurB w1 g v P (B + 1)) := hc1
      clear hc1
      have hn0 : ¬ n = 0 := by omega
      go_wp2_with fail
      refine (nextB_any g v P (B + 1) _ HC1.out (by omega) hl).mono ?_
      rintro e w2 ⟨y, rfl, hy, hc2, hk2⟩
      have HC2 : Hid (CurB w2 g v P (B + 2)) := hc2
      clear hc2
      go_wp2_with fail
      go_ret
      exact ⟨_, rfl, ⟨Int.emod_nonneg _ (by omega), Int.emod_lt_of_pos _ (by omega)⟩, HC2.out, hk1.trans hk2⟩
end Go.Proofs.Ytjbhhllfbonaiaa

namespace Go.Proofs.Ytjbhhllfbonaiaa
open Go.RowKit

set_option maxRecDepth 20000 in
set_option maxHeartbeats 1000000 in
theorem one_any (n : Int) (g : Nat) (v : Value) (P : List Int) (B : Nat) (w : World) (hc : CurB w g v P B) (hB : B ≤ 1000000000000) (hl : P.length ≤ 9223372036854775807) (hn : 1 ≤ n ∧ n ≤ 65536) :
    Calls Try.prog 30 #[.pointer (some ⟨g, 0, none⟩), .int .i64 n] w fun e w' => ∃ x : Bool, e = .returned (.bool x) ∧ CurB w' g v P (B + 2) ∧ Kpt w w' (· = g) := by
  go_enter Try.func30, Try.ntmps30
  go_wp2_with fail
  refine (pick_any n g v P B _ hc hB hl hn).mono ?_
  rintro e w1 ⟨x, rfl, hx, hc1, hk1⟩
  go_wp2_with fail
  go_ret
  exact ⟨_, rfl, hc1, hk1⟩

set_option maxRecDepth 20000 in
set_option maxHeartbeats 1000000 in
theorem among_any (u : Value) (L : List Int) (g : Nat) (v : Value) (P : List Int) (B : Nat) (w : World) (hc : CurB w g v P B) (hB : B ≤ 1000000000000) (hl : P.length ≤ 9223372036854775807) (hr : ZRow .i64 w u L) (hL : 1 ≤ L.length ∧ L.length ≤ 65536) (hu : u.ownBlock ≠ some g) :
    Calls Try.prog 33 #[.pointer (some ⟨g, 0, none⟩), u] w fun e w' => ∃ x : Int, e = .returned (.int .i64 x) ∧ x ∈ L ∧ CurB w' g v P (B + 2) ∧ Kpt w w' (· = g) := by
  have HC : Hid (CurB w g v P B) := hc
  obtain ⟨a, cap, rfl, hcap, hmax, HROW⟩ := zrow_value hr
  obtain ⟨b, o, rfl, hbl, hcel⟩ := HROW.out (by omega)
  have HNE : Hid (b ≠ g) := fun e => hu (by rw [e]; rfl)
  have HCEL : Hid (∀ j, (hj : j < L.length) → w.cell? ⟨b, o + j, none⟩ = some (.int .i64 L[j])) := hcel
  clear hr hc hu HROW hcel
  go_enter Try.func33, Try.ntmps33
  go_wp2_with fail
  refine (pick_any _ g v P B _ HC.out hB hl (by omega)).mono ?_
  rintro e w1 ⟨x, rfl, hx, hc1, hk1⟩
  have HC1 : Hid (CurB w1 g v P (B + 2)) := hc1
  have HK1 : Hid (Kpt w w1 (· = g)) := hk1
  obtain ⟨k, rfl⟩ := Int.eq_ofNat_of_zero_le hx.1
  have hk : k < L.length := by omega
  have hcx := hk1.cell (HCEL.out k hk) HNE.out
  have HM : Hid (L[k]'hk ∈ L) := List.getElem_mem hk
  obtain ⟨y, hy⟩ : ∃ y, y = L[k]'hk := ⟨_, rfl⟩
  rw [← hy] at hcx HM
  clear hc1 hk1 hy
  go_wp2_with fail
  go_ret
  exact ⟨y, rfl, HM.out, HC1.out, HK1.out⟩

theorem lit_row {w : World} {L : List Int} (hL : L.length ≤ 65536) : ZRow .i64 (w.alloc (.cells (L.map (Value.int .i64)).toArray 3)) (.slice (some ⟨w.heap.size, 0, none⟩) L.length L.length) L := by
  refine ⟨_, L.length, rfl, Nat.le_refl _, by unfold maxLen; omega, .inr ⟨w.heap.size, 0, rfl, by simp, fun j hj => ?_⟩⟩
  simp [hj]

theorem alloc_cur {w : World} {g : Nat} {v : Value} {P : List Int} {B : Nat} (h : CurB w g v P B) (o : Obj) : CurB (w.alloc o) g v P B := h.kpt (kpt_alloc w o (fun _ => False)) id (fun _ _ _ => id)
theorem lit_ne {w : World} {g : Nat} {v : Value} {P : List Int} {B n : Nat} (h : CurB w g v P B) : (Value.slice (some ⟨w.heap.size, 0, none⟩) n n).ownBlock ≠ some g := by
  intro e
  have e2 : w.heap.size = g := Option.some.inj e
  have := h.lt; omega

end Go.Proofs.Ytjbhhllfbonaiaa

namespace Go.Proofs.Ytjbhhllfbonaiaa
open Go.RowKit

theorem new_cur {w : World} {v : Value} {P : List Int} (hr : ZRow .u8 w v P) (hb : ∀ x ∈ P, 0 ≤ x ∧ x ≤ 255) :
    CurB (w.alloc (.cells #[v, .int .i64 0, .int .u64 0] 52)) w.heap.size v P 0 := by
  refine ⟨0, Nat.le_refl _, ⟨0, by omega, (MapKept.heap_alloc w _).1⟩, hr.kpt (kpt_alloc w _ (fun _ => False)) (fun _ _ _ => id), fun h0 e => ?_, hb⟩
  obtain ⟨a, cap, rfl, _, _, h⟩ := hr
  rcases h with h | ⟨b, o, rfl, hlt, _⟩
  · rw [h] at h0; simp at h0
  · have e2 : b = w.heap.size := Option.some.inj e
    omega
theorem cur_below {w w' : World} {o : Obj} (hk : Kpt (w.alloc o) w' (· = w.heap.size)) : Below w.heap.size w w' :=
  ((kpt_alloc w o (· = w.heap.size)).trans hk).below (Nat.le_refl _) (fun k hk e => by omega)

end Go.Proofs.Ytjbhhllfbonaiaa
