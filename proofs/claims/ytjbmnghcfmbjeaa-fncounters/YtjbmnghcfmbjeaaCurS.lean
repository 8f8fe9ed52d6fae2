import Derived.Test.YtjbmnghcfmbjeaaCurP
namespace Go.Proofs.Ytjbmnghcfmbjeaa
open Go.RowKit

set_option maxRecDepth 20000 in
set_option maxHeartbeats 1000000 in
theorem one_any (n : Int) (g : Nat) (v : Value) (P : List Int) (B : Nat) (w : World) (hc : CurB w g v P B) (hB : B ≤ 1000000000000) (hl : P.length ≤ 9223372036854775807) (hn : 1 ≤ n ∧ n ≤ 65536) :
    Calls Try.prog 45 #[.pointer (some ⟨g, 0, none⟩), .int .i64 n] w fun e w' => ∃ x : Bool, e = .returned (.bool x) ∧ CurB w' g v P (B + 2) ∧ Kpt w w' (· = g) := by
  go_enter Try.func45, Try.ntmps45
  go_wp2_with fail
  refine (pick_any n g v P B _ hc hB hl hn).mono ?_
  rintro e w1 ⟨x, rfl, hx, hc1, hk1⟩
  go_wp2_with fail
  go_ret
  exact ⟨_, rfl, hc1, hk1⟩

set_option maxRecDepth 20000 in
set_option maxHeartbeats 1000000 in
theorem among_any (u : Value) (L : List Int) (g : Nat) (v : Value) (P : List Int) (B : Nat) (w : World) (hc : CurB w g v P B) (hB : B ≤ 1000000000000) (hl : P.length ≤ 9223372036854775807) (hr : ZRow .i64 w u L) (hL : 1 ≤ L.length ∧ L.length ≤ 65536) (hu : u.ownBlock ≠ some g) :
    Calls Try.prog 32 #[.pointer (some ⟨g, 0, none⟩), u] w fun e w' => ∃ x : Int, e = .returned (.int .i64 x) ∧ x ∈ L ∧ CurB w' g v P (B + 2) ∧ Kpt w w' (· = g) := by
  have HC : Hid (CurB w g v P B) := hc
  obtain ⟨a, cap, rfl, hcap, hmax, HROW⟩ := zrow_value hr
  obtain ⟨b, o, rfl, hbl, hcel⟩ := HROW.out (by omega)
  have HNE : Hid (b ≠ g) := fun e => hu (by rw [e]; rfl)
  have HCEL : Hid (∀ j, (hj : j < L.length) → w.cell? ⟨b, o + j, none⟩ = some (.int .i64 L[j])) := hcel
  clear hr hc hu HROW hcel
  go_enter Try.func32, Try.ntmps32
  go_wp2_with fail
  refine (pick_any _ g v P B _ HC.out hB hl (by omega)).mono ?_
  rintro e w1 ⟨x, rfl, hx, hc1, hk1⟩
  have HC1 : Hid (CurB w1 g v P (B + 2)) := hc1
  have HK1 : Hid (Kpt w w1 (· = g)) := hk1
  obtain ⟨k, rfl⟩ := Int.eq_ofNat_of_zero_le hx.1
  have hk : k < L.length := by omega
  have hcx := hk1.cell (HCEL.out k hk) HNE.out
  have HM : Hid (L[k]'hk ∈ L) := List.getElem_mem hk
  obtain ⟨y, hy⟩ : ∃ y, y = L[k]'hk := ⟨_, rfl⟩
  rw [← hy] at hcx HM
  clear hc1 hk1 hy
  go_wp2_with fail
  go_ret
  exact ⟨y, rfl, HM.out, HC1.out, HK1.out⟩

theorem lit_row {w : World} {L : List Int} (hL : L.length ≤ 65536) : ZRow .i64 (w.alloc (.cells (L.map (Value.int .i64)).toArray 3)) (.slice (some ⟨w.heap.size, 0, none⟩) L.length L.length) L := by
  refine ⟨_, L.length, rfl, Nat.le_refl _, by unfold maxLen; omega, .inr ⟨w.heap.size, 0, rfl, by simp, fun j hj => ?_⟩⟩
  simp [hj]

theorem alloc_cur {w : World} {g : Nat} {v : Value} {P : List Int} {B : Nat} (h : CurB w g v P B) (o : Obj) : CurB (w.alloc o) g v P B := h.kpt (kpt_alloc w o (fun _ => False)) id (fun _ _ _ => id)
theorem lit_ne {w : World} {g : Nat} {v : Value} {P : List Int} {B n : Nat} (h : CurB w g v P B) : (Value.slice (some ⟨w.heap.size, 0, none⟩) n n).ownBlock ≠ some g := by
  intro e
  have e2 : w.heap.size = g := Option.some.inj e
  have := h.lt; omega

set_option maxRecDepth 20000 in
set_option maxHeartbeats 1000000 in
theorem serial_any (g : Nat) (v : Value) (P : List Int) (B : Nat) (w : World) (hc : CurB w g v P B) (hB : B ≤ 900000000000) (hl : P.length ≤ 9223372036854775807) :
    Calls Try.prog 31 #[.pointer (some ⟨g, 0, none⟩)] w fun e w' => ∃ x : Int, e = .returned (.int .i64 x) ∧ (-1 ≤ x ∧ x ≤ 4294967296) ∧ CurB w' g v P (B + 4) ∧ Kpt w w' (· = g) := by
  have HC : Hid (CurB w g v P B) := hc
  clear hc
  go_enter Try.func31, Try.ntmps31
  go_wp2_with fail
  refine (pick_any _ g v P B _ HC.out (by omega) hl (by omega)).mono ?_
  rintro e w1 ⟨x, rfl, hx, hc1, hk1⟩
  have HC1 : Hid (CurB w1 g v P (B + 2)) := hc1
  have HK1 : Hid (Kpt w w1 (· = g)) := hk1
  clear hc1 hk1
  by_cases h0 : x = 0
  · subst h0
    go_wp2_with fail
    refine (among_any _ [-1, 0, 1, 2147483647, 2147483648, 2147483649, 4294967295, 4294967296] g v P (B + 2) _ (alloc_cur HC1.out _) (by omega) hl (lit_row (w := w1) (L := [-1, 0, 1, 2147483647, 2147483648, 2147483649, 4294967295, 4294967296]) (by decide)) (by decide) (lit_ne HC1.out)).mono ?_
    rintro e w2 ⟨y, rfl, hy, hc2, hk2⟩
    have hyb : -1 ≤ y ∧ y ≤ 4294967296 := by simp only [List.mem_cons, List.not_mem_nil, or_false] at hy; omega
    clear hy
    have HC2 : Hid (CurB w2 g v P (B + 4)) := hc2
    have HK2 : Hid (Kpt w w2 (· = g)) := (HK1.out.trans (kpt_alloc w1 _ _)).trans hk2
    clear hc2 hk2
    go_wp2_with fail
    go_ret
    exact ⟨_, rfl, by omega, HC2.out, HK2.out⟩
  · by_cases h1 : x = 1
    · subst h1
      go_wp2_with fail
      refine (pick_any _ g v P (B + 2) _ HC1.out (by omega) hl (by omega)).mono ?_
      rintro e w2 ⟨y, rfl, hyb, hc2, hk2⟩
      have HC2 : Hid (CurB w2 g v P (B + 4)) := hc2
      have HK2 : Hid (Kpt w w2 (· = g)) := HK1.out.trans hk2
      clear hc2 hk2
      go_wp2_with fail
      go_ret
      exact ⟨_, rfl, by omega, HC2.out, HK2.out⟩
    · go_wp2_with fail
      refine (pick_any _ g v P (B + 2) _ HC1.out (by omega) hl (by omega)).mono ?_
      rintro e w2 ⟨y, rfl, hyb, hc2, hk2⟩
      have HC2 : Hid (CurB w2 g v P (B + 4)) := hc2
      have HK2 : Hid (Kpt w w2 (· = g)) := HK1.out.trans hk2
      clear hc2 hk2
      go_wp2_with fail
      go_ret
      exact ⟨_, rfl, by omega, HC2.out, HK2.out⟩

set_option maxRecDepth 20000 in
set_option maxHeartbeats 1000000 in
theorem counter_any (g : Nat) (v : Value) (P : List Int) (B : Nat) (w : World) (hc : CurB w g v P B) (hB : B ≤ 900000000000) (hl : P.length ≤ 9223372036854775807) :
    Calls Try.prog 40 #[.pointer (some ⟨g, 0, none⟩)] w fun e w' => ∃ x : Int, e = .returned (.int .i64 x) ∧ (-1 ≤ x ∧ x ≤ 1152921504606846977) ∧ CurB w' g v P (B + 4) ∧ Kpt w w' (· = g) := by
  have HC : Hid (CurB w g v P B) := hc
  clear hc
  go_enter Try.func40, Try.ntmps40
  go_wp2_with fail
  refine (pick_any _ g v P B _ HC.out (by omega) hl (by omega)).mono ?_
  rintro e w1 ⟨x, rfl, hx, hc1, hk1⟩
  have HC1 : Hid (CurB w1 g v P (B + 2)) := hc1
  have HK1 : Hid (Kpt w w1 (· = g)) := hk1
  clear hc1 hk1
  by_cases h0 : x = 0
  · subst h0
    go_wp2_with fail
    refine (among_any _ [-1, 0, 1152921504606846976, 1152921504606846977, 4294967296, 4294967295] g v P (B + 2) _ (alloc_cur HC1.out _) (by omega) hl (lit_row (w := w1) (L := [-1, 0, 1152921504606846976, 1152921504606846977, 4294967296, 4294967295]) (by decide)) (by decide) (lit_ne HC1.out)).mono ?_
    rintro e w2 ⟨y, rfl, hy, hc2, hk2⟩
    have hyb : -1 ≤ y ∧ y ≤ 1152921504606846977 := by simp only [List.mem_cons, List.not_mem_nil, or_false] at hy; omega
    clear hy
    have HC2 : Hid (CurB w2 g v P (B + 4)) := hc2
    have HK2 : Hid (Kpt w w2 (· = g)) := (HK1.out.trans (kpt_alloc w1 _ _)).trans hk2
    clear hc2 hk2
    go_wp2_with fail
    go_ret
    exact ⟨_, rfl, by omega, HC2.out, HK2.out⟩
  · by_cases h1 : x = 1
    · subst h1
      go_wp2_with fail
      refine (pick_any _ g v P (B + 2) _ HC1.out (by omega) hl (by omega)).mono ?_
      rintro e w2 ⟨y, rfl, hyb, hc2, hk2⟩
      have HC2 : Hid (CurB w2 g v P (B + 4)) := hc2
      have HK2 : Hid (Kpt w w2 (· = g)) := HK1.out.trans hk2
      clear hc2 hk2
      go_wp2_with fail
      go_ret
      exact ⟨_, rfl, by omega, HC2.out, HK2.out⟩
    · go_wp2_with fail
      refine (pick_any _ g v P (B + 2) _ HC1.out (by omega) hl (by omega)).mono ?_
      rintro e w2 ⟨y, rfl, hyb, hc2, hk2⟩
      have HC2 : Hid (CurB w2 g v P (B + 4)) := hc2
      have HK2 : Hid (Kpt w w2 (· = g)) := HK1.out.trans hk2
      clear hc2 hk2
      go_wp2_with fail
      go_ret
      exact ⟨_, rfl, by omega, HC2.out, HK2.out⟩

end Go.Proofs.Ytjbmnghcfmbjeaa
