import Derived.Test.YtdmellmmhipncaaGreatDoorZ15
import Derived.Test.YtdmellmmhipncaaGreatDoorZ05
namespace Go.Proofs.YtdmellmmhipncaaGreatDoor
open Go.RowKit

set_option maxRecDepth 20000 in
set_option maxHeartbeats 1000000 in
theorem of_any (u : Value) (L : List (List UInt8)) (g : Nat) (v : Value) (P : List Int) (B : Nat) (w : World) (hc : CurB w g v P B) (hB : B ≤ 1000000000000) (hl : P.length ≤ 9223372036854775807) (hr : Row w u L) (hL : 1 ≤ L.length ∧ L.length ≤ 65536) (hu : u.ownBlock ≠ some g) :
    Calls Tryz.prog 61 #[.pointer (some ⟨g, 0, none⟩), u] w fun e w' => ∃ x : List UInt8, e = .returned (.string ⟨x.toArray⟩) ∧ x ∈ L ∧ CurB w' g v P (B + 2) ∧ Kpt w w' (· = g) := by
  have HC : Hid (CurB w g v P B) := hc
  obtain ⟨a, cap, rfl, hcap, hmax, h3⟩ := hr
  rcases h3 with h3 | ⟨b, o, rfl, hbl, hcel⟩
  · rw [h3] at hL; simp at hL
  have HNE : Hid (b ≠ g) := fun e => hu (by rw [e]; rfl)
  have HCEL : Hid (∀ j, (hj : j < L.length) → w.cell? ⟨b, o + j, none⟩ = some (S L[j])) := hcel
  unfold maxLen at hmax
  clear hc hu hcel
  go_enter Tryz.func61, Tryz.ntmps61
  go_wp2_with fail
  refine (pick_any _ g v P B _ HC.out hB hl (by omega)).mono ?_
  rintro e w1 ⟨x, rfl, hx, hc1, hk1⟩
  have HC1 : Hid (CurB w1 g v P (B + 2)) := hc1
  have HK1 : Hid (Kpt w w1 (· = g)) := hk1
  obtain ⟨k, rfl⟩ := Int.eq_ofNat_of_zero_le hx.1
  have hk : k < L.length := by omega
  have hcx := hk1.cell (HCEL.out k hk) HNE.out
  have HM : Hid (L[k]'hk ∈ L) := List.getElem_mem hk
  obtain ⟨y, hy⟩ : ∃ y, y = L[k]'hk := ⟨_, rfl⟩
  rw [← hy] at hcx HM
  unfold S at hcx
  clear hc1 hk1 hy
  go_wp2_with fail
  go_ret
  exact ⟨y, rfl, HM.out, HC1.out, HK1.out⟩

theorem lit_rowS {w : World} {L : List (List UInt8)} (hL : L.length ≤ 65536) : Row (w.alloc (.cells (L.map S).toArray 9)) (.slice (some ⟨w.heap.size, 0, none⟩) L.length L.length) L := by
  refine ⟨_, L.length, rfl, Nat.le_refl _, by unfold maxLen; omega, .inr ⟨w.heap.size, 0, rfl, by simp, fun j hj => ?_⟩⟩
  simp [hj]
theorem all_le {L : List (List UInt8)} {n : Nat} (h : L.all (fun x => decide (x.length ≤ n)) = true) {x : List UInt8} (hx : x ∈ L) : x.length ≤ n := by
  have := List.all_eq_true.1 h x hx; simpa using this
theorem size_of (x : List UInt8) : (⟨x.toArray⟩ : ByteArray).size = x.length := by show x.toArray.size = _; simp

set_option maxRecDepth 20000 in
set_option maxHeartbeats 2000000 in
theorem name_any (g : Nat) (v : Value) (P : List Int) (B : Nat) (w : World) (hc : CurB w g v P B) (hB : B ≤ 900000000000) (hl : P.length ≤ 9223372036854775807) :
    Calls Tryz.prog 59 #[.pointer (some ⟨g, 0, none⟩)] w fun e w' => ∃ x : ByteArray, e = .returned (.string x) ∧ x.size ≤ 30 ∧ CurB w' g v P (B + 20) ∧ Kpt w w' (· = g) := by
  have HC : Hid (CurB w g v P B) := hc
  clear hc
  go_enter Tryz.func59, Tryz.ntmps59
  go_wp2_with fail
  refine (pick_any _ g v P B _ HC.out (by omega) hl (by omega)).mono ?_
  rintro e w1 ⟨x, rfl, hx, hc1, hk1⟩
  have HC1 : Hid (CurB w1 g v P (B + 2)) := hc1
  have HK1 : Hid (Kpt w w1 (· = g)) := hk1
  clear hc1 hk1
  by_cases h0 : x = 0
  · subst h0
    go_wp2_with fail
    refine (of_any _ [[], [46], [97, 46, 46, 98], [65], [97, 46], [97, 42], [97, 46, 98, 46, 99, 46, 100, 46, 101, 46, 102, 46, 103, 46, 104], [97, 46, 98, 46, 99, 46, 100, 46, 101, 46, 102, 46, 103, 46, 104, 46, 105], [97, 98, 99, 100, 101, 102, 103, 104, 105, 106, 107, 108, 109, 110, 111, 112, 113, 114, 115, 116], [97, 98, 99, 100, 101, 102, 103, 104, 105, 106, 107, 108, 109, 110, 111, 112, 113, 114, 115, 116, 117]] g v P (B + 2) _ (alloc_cur HC1.out _) (by omega) hl (lit_rowS (L := [[], [46], [97, 46, 46, 98], [65], [97, 46], [97, 42], [97, 46, 98, 46, 99, 46, 100, 46, 101, 46, 102, 46, 103, 46, 104], [97, 46, 98, 46, 99, 46, 100, 46, 101, 46, 102, 46, 103, 46, 104, 46, 105], [97, 98, 99, 100, 101, 102, 103, 104, 105, 106, 107, 108, 109, 110, 111, 112, 113, 114, 115, 116], [97, 98, 99, 100, 101, 102, 103, 104, 105, 106, 107, 108, 109, 110, 111, 112, 113, 114, 115, 116, 117]]) (by decide)) (by decide) (lit_ne HC1.out)).mono ?_
    rintro e w2 ⟨y, rfl, hm, hc, hk⟩
    have hz : (⟨y.toArray⟩ : ByteArray).size ≤ 21 := by rw [size_of]; exact all_le (n := 21) (by decide) hm
    have HC2 : Hid (CurB w2 g v P (B + 4)) := hc
    have HK2 : Hid (Kpt w w2 (· = g)) := (HK1.out.trans (kpt_alloc w1 _ _)).trans hk
    clear hc hk hm
    go_wp2_with fail
    go_ret
    exact ⟨_, rfl, by omega, HC2.out.mono (by omega), HK2.out⟩
  · by_cases h1 : x = 1
    · subst h1
      go_wp2_with fail
      refine (of_any _ [[], [99, 111, 109]] g v P (B + 2) _ (alloc_cur HC1.out _) (by omega) hl (lit_rowS (L := [[], [99, 111, 109]]) (by decide)) (by decide) (lit_ne HC1.out)).mono ?_
      rintro e w2 ⟨y, rfl, hm, hc, hk⟩
      have hz : (⟨y.toArray⟩ : ByteArray).size ≤ 21 := by rw [size_of]; exact all_le (n := 21) (by decide) hm
      have HC2 : Hid (CurB w2 g v P (B + 4)) := hc
      have HK2 : Hid (Kpt w w2 (· = g)) := (HK1.out.trans (kpt_alloc w1 _ _)).trans hk
      clear hc hk hm
      go_wp2_with fail
      go_ret
      exact ⟨_, rfl, by omega, HC2.out.mono (by omega), HK2.out⟩
    · go_wp2_with fail
      refine (of_any _ [[101, 120], [99, 111, 109], [101, 120, 46, 99, 111, 109], [101, 120, 46, 99, 111, 109], [101, 120, 46, 99, 111, 109]] g v P (B + 2) _ (alloc_cur HC1.out _) (by omega) hl (lit_rowS (L := [[101, 120], [99, 111, 109], [101, 120, 46, 99, 111, 109], [101, 120, 46, 99, 111, 109], [101, 120, 46, 99, 111, 109]]) (by decide)) (by decide) (lit_ne HC1.out)).mono ?_
      rintro e w2 ⟨y, rfl, hm, hc, hk⟩
      have hz : (⟨y.toArray⟩ : ByteArray).size ≤ 6 := by rw [size_of]; exact all_le (n := 6) (by decide) hm
      have HC2 : Hid (CurB w2 g v P (B + 4)) := hc
      have HK2 : Hid (Kpt w w2 (· = g)) := (HK1.out.trans (kpt_alloc w1 _ _)).trans hk
      clear hc hk hm
      obtain ⟨s0, hs0⟩ : ∃ s : ByteArray, s = ⟨y.toArray⟩ := ⟨_, rfl⟩
      rw [← hs0] at hz ⊢
      clear hs0
      go_wp2_with fail
      refine (pick_any _ g v P (B + 4) _ HC2.out (by omega) hl (by omega)).mono ?_
      rintro e w3 ⟨n0, rfl, hn0, hc3, hk3⟩
      have HC3 : Hid (CurB w3 g v P (B + 6)) := hc3
      have HK3 : Hid (Kpt w w3 (· = g)) := HK2.out.trans hk3
      clear hc3 hk3
      go_wp2_with fail
      obtain ⟨m0, rfl⟩ : ∃ m : Nat, n0 = (m : Int) := Int.eq_ofNat_of_zero_le hn0.1
      have hm0 : m0 ≤ 2 := by omega
      clear hn0 HC2 HK2 HC1 HK1 HC
      go_loopw [3, 4] (fun ss nn wr => ∃ (m : Nat) (s : ByteArray), nn = .int .i64 (m : Int) ∧ ss = .string s ∧ m ≤ 2 ∧ s.size + 4 * m ≤ 14 ∧ Hid (CurB wr g v P (B + 6 + 2 * (2 - m))) ∧ Hid (Kpt w wr (· = g))) (fun _ nn _ => (intOf nn).toNat)
      case atStart => exact ⟨m0, s0, rfl, rfl, hm0, by omega, HC3.out.mono (by omega), HK3⟩
      case round =>
        obtain ⟨m1, s, rfl, rfl, hm2, hsz, HC, HK⟩ := hrel
        by_cases hm : m1 = 0
        · subst hm
          go_wp2_with fail
          go_ret
          exact ⟨s, rfl, by omega, HC.out.mono (by omega), HK.out⟩
        · obtain ⟨m, rfl⟩ : ∃ m, m1 = m + 1 := ⟨m1 - 1, by omega⟩
          clear hm
          go_wp2_with fail
          refine (of_any _ [[97], [98], [119, 119, 119], [115, 117, 98], [42], [120, 49], [110, 115]] g v P (B + 6 + 2 * (2 - (m + 1))) _ (alloc_cur HC.out _) (by omega) hl (lit_rowS (L := [[97], [98], [119, 119, 119], [115, 117, 98], [42], [120, 49], [110, 115]]) (by decide)) (by decide) (lit_ne HC.out)).mono ?_
          rintro e w4 ⟨y, rfl, hm, hc4, hk4⟩
          have hy : (⟨y.toArray⟩ : ByteArray).size ≤ 3 := by rw [size_of]; exact all_le (n := 3) (by decide) hm
          have HC4 : Hid (CurB w4 g v P (B + 6 + 2 * (2 - m))) := hc4.mono (by omega)
          have HK4 : Hid (Kpt w w4 (· = g)) := (HK.out.trans (kpt_alloc wr _ _)).trans hk4
          clear hc4 hk4 hm
          obtain ⟨z, hz⟩ : ∃ s : ByteArray, s = ⟨y.toArray⟩ := ⟨_, rfl⟩
          rw [← hz] at hy ⊢
          clear hz
          go_wp2_with fail
          go_roundw
          case rel => exact ⟨m, _, by go_num, rfl, by omega, by rw [ByteArray.size_append, ByteArray.size_append, show (⟨#[46]⟩ : ByteArray).size = 1 from rfl]; omega, HC4, HK4⟩
          case measure => simp [intOf]
end Go.Proofs.YtdmellmmhipncaaGreatDoor
