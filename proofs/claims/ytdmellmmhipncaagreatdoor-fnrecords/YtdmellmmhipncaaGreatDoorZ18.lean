import Derived.Test.YtdmellmmhipncaaGreatDoorZ17
import Derived.Test.YtdmellmmhipncaaGreatDoorZ12
namespace Go.Proofs.YtdmellmmhipncaaGreatDoor
open Go.RowKit

theorem i64_succ (k : Nat) (h : k ≤ 9223372036854775) : IntKind.i64.wrap ((k : Int) + 1) = (k : Int) + 1 := by
  simp only [IntKind.wrap, IntKind.signed, IntKind.bits]; simp; omega
set_option maxRecDepth 20000 in
set_option maxHeartbeats 2000000 in
theorem spoilt_any (t0 wi : ByteArray) (g : Nat) (v : Value) (P : List Int) (B : Nat) (w : World) (hc : CurB w g v P B) (hB : B ≤ 900000000) (hl : P.length ≤ 9223372036854775807) (ht : t0.size ≤ 60000) (hw1 : 1 ≤ wi.size ∧ wi.size ≤ 100) :
    Calls Tryz.prog 35 #[.pointer (some ⟨g, 0, none⟩), .string t0, .string wi] w fun e w' => ∃ x : ByteArray, e = .returned (.string x) ∧ x.size ≤ t0.size + 2 ∧ CurB w' g v P (B + 20) ∧ Kpt w w' (· = g) := by
  have HC0 : Hid (CurB w g v P B) := hc
  clear hc
  go_enter Tryz.func35, Tryz.ntmps35
  go_wp2_with fail
  refine (pick_any _ g _ P B _ HC0.out (by omega) hl (by omega)).mono ?_
  rintro e w1 ⟨n0, rfl, hn0, hc1, hk1⟩
  have HC1 : Hid (CurB w1 g v P (B + 2)) := hc1
  have HK1 : Hid (Kpt w w1 (· = g)) := hk1
  clear hc1 hk1 HC0
  go_wp2_with fail
  obtain ⟨m0, rfl⟩ : ∃ m : Nat, n0 = (m : Int) := Int.eq_ofNat_of_zero_le hn0.1
  have hm0 : m0 ≤ 2 := by omega
  clear hn0
  go_loopw [1, 7] (fun tt nn wr => ∃ (m : Nat) (s : ByteArray), nn = .int .i64 (m : Int) ∧ tt = .string s ∧ m ≤ 2 ∧ s.size + m ≤ t0.size + 2 ∧ Hid (CurB wr g v P (B + 2 + 6 * (2 - m))) ∧ Hid (Kpt w wr (· = g))) (fun _ nn _ => (intOf nn).toNat)
  case atStart => exact ⟨m0, t0, rfl, rfl, hm0, by omega, HC1.out.mono (by omega), HK1⟩
  case round =>
    obtain ⟨m1, s, rfl, rfl, hm2, hsz, HC, HK⟩ := hrel
    by_cases hm : m1 = 0
    · subst hm
      go_wp2_with fail
      go_ret
      exact ⟨s, rfl, by omega, HC.out.mono (by omega), HK.out⟩
    · obtain ⟨m, rfl⟩ : ∃ m, m1 = m + 1 := ⟨m1 - 1, by omega⟩
      clear hm
      by_cases hs0 : s.size = 0
      · go_wp2_with fail
        go_ret
        exact ⟨s, rfl, by omega, HC.out.mono (by omega), HK.out⟩
      · have hs1 : 1 ≤ s.size := by omega
        clear hs0
        go_wp2_with fail
        refine (pick_any _ g _ P (B + 2 + 6 * (2 - (m + 1))) _ HC.out (by omega) hl (by omega)).mono ?_
        rintro e w2 ⟨i0, rfl, hi0, hc2, hk2⟩
        obtain ⟨i, rfl⟩ : ∃ i : Nat, i0 = (i : Int) := Int.eq_ofNat_of_zero_le hi0.1
        have hi : i < s.size := by omega
        clear hi0
        go_wp2_with fail
        refine (pick_any _ g _ P (B + 2 + 6 * (2 - (m + 1)) + 2) _ hc2 (by omega) hl (by omega)).mono ?_
        rintro e w3 ⟨j0, rfl, hj0, hc3, hk3⟩
        obtain ⟨j, rfl⟩ : ∃ j : Nat, j0 = (j : Int) := Int.eq_ofNat_of_zero_le hj0.1
        have hj : j < wi.size := by omega
        clear hj0
        have hby : (wi[j].toNat : Int) ≤ 255 := by have := wi[j].toNat_lt; omega
        have hconv := byte_new (w := w3) (n := (wi[j].toNat : Int)) (k := wi[j].toNat) rfl (by omega)
        obtain ⟨z, hz⟩ : ∃ z : ByteArray, z = ⟨#[UInt8.ofNat wi[j].toNat]⟩ := ⟨_, rfl⟩
        have hzs : z.size = 1 := by rw [hz]; rfl
        rw [← hz] at hconv
        clear hz
        go_wp2_with fail
        have hc3a : CurB (w3.alloc (.cells #[.int .u8 (wi[j].toNat : Int)] 5)) g v P (B + 2 + 6 * (2 - (m + 1)) + 2 + 2) := alloc_cur hc3 _
        have HK3 : Hid (Kpt w (w3.alloc (.cells #[.int .u8 (wi[j].toNat : Int)] 5)) (· = g)) := ((HK.out.trans hk2).trans hk3).trans (kpt_alloc w3 _ _)
        refine (pick_any _ g _ P (B + 2 + 6 * (2 - (m + 1)) + 2 + 2) _ hc3a (by omega) hl (by omega)).mono ?_
        rintro e w4 ⟨x, rfl, hx, hc4, hk4⟩
        have HC4 : Hid (CurB w4 g v P (B + 2 + 6 * (2 - m))) := hc4.mono (by omega)
        have HK4 : Hid (Kpt w w4 (· = g)) := HK3.out.trans hk4
        have b1 : (i : Int) ≤ (s.size : Int) := by omega
        have b2 : (i : Int) + 1 ≤ (s.size : Int) := by omega
        have b3 : (0 : Int) ≤ (i : Int) := by omega
        have b4 : IntKind.i64.wrap ((i : Int) + 1) = (i : Int) + 1 := i64_succ i (by omega)
        clear hc2 hk2 hc3 hk3 hc3a hc4 hk4 hconv
        by_cases h0 : x = 0
        · subst h0
          go_wp2_with fail
          go_quiet (fail)
          go_wp2_with fail
          go_roundw
          case rel => exact ⟨m, _, by go_num, rfl, by omega, by simp only [ByteArray.size_append, ByteArray.size_extract, hzs]; omega, HC4.out.drew _, kpt_drew HK4.out _⟩
          case measure => simp [intOf]
        · by_cases h1 : x = 1
          · subst h1
            go_wp2_with fail
            go_quiet (fail)
            go_wp2_with fail
            go_roundw
            case rel => exact ⟨m, _, by go_num, rfl, by omega, by simp only [ByteArray.size_append, ByteArray.size_extract, hzs]; omega, HC4.out.drew _, kpt_drew HK4.out _⟩
            case measure => simp [intOf]
          · go_wp2_with fail
            go_quiet (fail)
            go_wp2_with fail
            go_roundw
            case rel => exact ⟨m, _, by go_num, rfl, by omega, by simp only [ByteArray.size_append, ByteArray.size_extract]; omega, HC4.out.drew _, kpt_drew HK4.out _⟩
            case measure => simp [intOf]
end Go.Proofs.YtdmellmmhipncaaGreatDoor
