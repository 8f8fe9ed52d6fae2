import Derived.Test.YtpghpeombednkaaGreatDoorRNum
import Derived.Test.YtpghpeombednkaaGreatDoorHostP
namespace Go.Proofs.YtpghpeombednkaaGreatDoor
open Go.RowKit

set_option maxRecDepth 20000 in
set_option maxHeartbeats 400000 in
theorem hostBytes_any (s : ByteArray) (w : World) (hE : Env w) :
    Calls Tryz.prog 209 #[.string s] w fun e w' => e = .returned (.string ⟨(wireT s.data.toList).toArray⟩) ∧ Below w.heap.size w w' := by
  go_enter Tryz.func209, Tryz.ntmps209
  go_wp2_with fail
  refine (iNameBytes_any s w hE).mono ?_
  rintro e w1 ⟨rfl, hb⟩
  go_wp2_with fail
  go_ret
  exact ⟨rfl, hb⟩

set_option maxRecDepth 20000 in
set_option maxHeartbeats 1000000 in
theorem numberBytes_any (n : Int) (N : Nat) (w : World) (h1 : 0 ≤ n) (h2 : n ≤ 9223372036854775807) (hN : N ≤ 8) :
    Calls Tryz.prog 42 #[.int .i64 n, .int .i64 (N : Int)] w fun e w' => e = .returned (.string ⟨(beB n N).toArray⟩) ∧ Below w.heap.size w w' := by
  obtain ⟨i0, hi, hz0, hz1, hz2⟩ := info_parts info_byte
  go_enter Tryz.func42, Tryz.ntmps42
  go_wp2_with (at_make; refine wpList_make_full _ rfl _ _ 22 rfl w.heap.size 5 i0 (.int .u8 0) 1 Tryz.underlying22 hi hz0 hz1 _ _ _ _ N rfl rfl rfl rfl ?b2 ?b3 ?b4 ?_)
  case b2 => rw [hz2]; omega
  case b3 => unfold maxLen; omega
  case b4 => exact Nat.le_refl _
  intro w1 hown hgrow
  have hb1 : Below w.heap.size w w1 := (Below.refl _ _).grown hgrow (Nat.le_refl _) (fun k h => by cases h)
  have HB0 : Hid (BRow w1 w.heap.size (List.replicate N 0 ++ [])) := by rw [List.append_nil]; exact made_brow hown
  clear hown hgrow
  go_wp2_with fail
  go_loopw [0, 11] (fun vn i wr => ∃ (k j : Nat) (m : Int) (tl : List UInt8), k + j = N ∧ vn = .int .i64 m ∧ i = .int .i64 (k : Int) ∧ 0 ≤ m ∧ m ≤ 9223372036854775807 ∧ Hid (beB n N = beB m j ++ tl ∧ tl.length + j = N) ∧ Hid (BRow wr w.heap.size (List.replicate j 0 ++ tl)) ∧ Below w.heap.size w wr) (fun _ i _ => N - (intOf i).toNat)
  case atStart => exact ⟨0, N, n, [], by omega, rfl, rfl, h1, h2, ⟨by simp, by simp⟩, HB0, hb1⟩
  case round =>
    obtain ⟨k, j, m, tl, hkj, rfl, rfl, hm1, hm2, HS, HR, hb⟩ := hrel
    clear HB0 hb1
    cases j with
    | zero =>
      have hrow : BRow wr w.heap.size tl := by simpa using HR.out
      have hconv := string_of (cap := N) hrow N (by have := HS.out.2; omega)
      have he : beB n N = tl := by have := HS.out.1; simpa [beB] using this
      have HE : Hid (beB n N = tl) := he
      have hkN : (N : Int) ≤ (k : Int) := by omega
      clear he
      clear hrow
      go_wp2_with fail
      go_ret
      exact ⟨by rw [HE.out]; rfl, hb⟩
    | succ j =>
      have hkN : (k : Int) < (N : Int) := by omega
      have hidx2 : (N : Int) - 1 - (k : Int) = (j : Int) := by omega
      have hlen : j < (List.replicate (j + 1) (0 : UInt8) ++ tl).length := by rw [List.length_append, List.length_replicate]; omega
      have hcx := (HR.out.2 j hlen).1
      have hfx := (HR.out.2 j hlen).2
      obtain ⟨c, hc⟩ : ∃ c : UInt8, c = UInt8.ofNat (m % 256).toNat := ⟨_, rfl⟩
      have hcn : (c.toNat : Int) = m % 256 := by rw [hc, UInt8.toNat_ofNat']; omega
      have hset := HR.out.set j hlen c
      rw [hcn] at hset
      have hl2 : (List.replicate (j + 1) (0 : UInt8) ++ tl).set j c = List.replicate j 0 ++ (c :: tl) := by
        rw [List.replicate_succ', List.append_assoc, List.set_append_right _ _ (by simp)]
        simp
      rw [hl2] at hset
      have HSET : Hid (BRow (wr.setCell ⟨w.heap.size, j, none⟩ (.int .u8 (m % 256))) w.heap.size (List.replicate j 0 ++ (c :: tl))) := hset
      have HN : Hid (beB n N = beB (m / 256) j ++ (c :: tl) ∧ (c :: tl).length + j = N) := by
        refine ⟨?_, ?_⟩
        · rw [HS.out.1, beB, ← hc]; simp
        · have := HS.out.2; simp; omega
      obtain ⟨u, hu⟩ : ∃ u, u = (List.replicate (j + 1) (0 : UInt8) ++ tl)[j]'hlen := ⟨_, rfl⟩
      rw [← hu] at hcx
      have hjN : (j : Int) < (N : Int) := by omega
      clear hset hl2 hc hcn hu hlen
      go_wp2_with fail
      go_roundw
      case rel => exact ⟨k + 1, j, m / 256, c :: tl, by omega, rfl, by go_num, by omega, by omega, HN, HSET, hb.setCell (p := ⟨w.heap.size, j, none⟩) (Nat.le_refl _) _⟩
      case measure => simp [intOf]; omega

set_option maxRecDepth 20000 in
set_option maxHeartbeats 400000 in
theorem isHost_any (s : ByteArray) (w : World) (hE : Env w) :
    Calls Tryz.prog 110 #[.string s] w fun e w' => e = .returned (.bool (targB s.data.toList)) ∧ Below w.heap.size w w' := by
  have HT : Hid (targB s.data.toList = (!(s.data.toList == []) && (nameB s.data.toList && !decide (0 ≤ Lib.indexByte s.data.toList 42)))) := targ_host
  by_cases h0 : s.data.toList = []
  · obtain rfl : s = ⟨#[]⟩ := data_eq h0
    go_enter Tryz.func110, Tryz.ntmps110
    go_wp2_with fail
    go_ret
    exact ⟨ret_bool (by rw [HT.out]; rfl), Below.refl _ _⟩
  · have e0 : (s.toList == []) = false := by rw [ByteArray.toList_eq]; simpa using h0
    have e1 : (s.data.toList == []) = false := by simpa using h0
    rw [e1, Bool.not_false, Bool.true_and] at HT
    clear h0 e1
    cases hN : nameB s.data.toList with
    | false =>
      rw [hN] at HT
      have HN : Hid (nameB s.data.toList = false) := hN
      clear hN
      go_enter Tryz.func110, Tryz.ntmps110
      go_wp2_with fail
      refine (iGoodName_any s w hE).mono ?_
      rintro e w1 ⟨rfl, hb⟩
      rw [HN.out]
      go_wp2_with fail
      go_ret
      exact ⟨ret_bool (by rw [HT.out]; rfl), hb⟩
    | true =>
      rw [hN] at HT
      have HN : Hid (nameB s.data.toList = true) := hN
      clear hN
      go_enter Tryz.func110, Tryz.ntmps110
      go_wp2_with fail
      refine (iGoodName_any s w hE).mono ?_
      rintro e w1 ⟨rfl, hb⟩
      rw [HN.out]
      go_wp2_with fail
      refine (Tryz.strings_Contains_one s 42 w1).mono ?_
      rintro e w2 ⟨rfl, rfl⟩
      obtain ⟨b, hbb⟩ : ∃ b, b = decide (0 ≤ Lib.indexByte s.data.toList 42) := ⟨_, rfl⟩
      rw [← hbb] at HT ⊢
      clear hbb
      go_wp2_with fail
      go_ret
      exact ⟨ret_bool (by rw [HT.out]; rfl), hb⟩

def noteB (l : List UInt8) : Bool := decide (l.length ≤ 30) && l.all txtB
set_option maxRecDepth 20000 in
set_option maxHeartbeats 1000000 in
theorem isNote_any (s : ByteArray) (w : World) :
    Calls Tryz.prog 113 #[.string s] w fun e w' => e = .returned (.bool (noteB s.data.toList)) ∧ w' = w := by
  have HLEN : Hid (s.data.toList.length = s.size) := (by simp : s.data.toList.length = s.size)
  by_cases h30 : (30 : Int) < (s.size : Int)
  · have HR : Hid (noteB s.data.toList = false) := by unfold noteB; rw [HLEN.out, decide_eq_false (by omega)]; exact rfl
    go_enter Tryz.func113, Tryz.ntmps113
    go_wp2_with fail
    go_ret
    exact ⟨ret_bool HR.out.symm, rfl⟩
  · have HR : Hid (noteB s.data.toList = s.data.toList.all txtB) := by unfold noteB; rw [HLEN.out, decide_eq_true (by omega)]; exact Bool.true_and _
    go_enter Tryz.func113, Tryz.ntmps113
    go_wp2_with fail
    go_loop [9] (fun i => ∃ k : Nat, k ≤ s.size ∧ i = .int .i64 (k : Int) ∧ Hid ((s.data.toList.take k).all txtB = true)) (fun i => s.size - (intOf i).toNat)
    case atStart => exact ⟨0, Nat.zero_le _, rfl, rfl⟩
    case round =>
      obtain ⟨k, hk, rfl, HA⟩ := hrel
      by_cases hlt : k < s.size
      · have hkl : k < s.data.toList.length := by rw [HLEN.out]; exact hlt
        have hc255 : s[k].toNat < 256 := s[k].toNat_lt
        have HNO : Hid (txtB s[k] = false → noteB s.data.toList = false) := fun h => by rw [HR.out]; exact txt_not hkl h
        have HYES : Hid (txtB s[k] = true → (s.data.toList.take (k + 1)).all txtB = true) := fun h => txt_step HA.out hkl h
        rcases (show (s[k].toNat : Int) < 32 ∨ (126 : Int) < (s[k].toNat : Int) ∨ ((32 : Int) ≤ (s[k].toNat : Int) ∧ (s[k].toNat : Int) ≤ 126) by omega) with g | g | ⟨g1, g2⟩
        · have HF : Hid (noteB s.data.toList = false) := HNO.out (by unfold txtB; rw [decide_eq_false (by omega)]; rfl)
          go_wp2_with fail
          go_ret
          exact ⟨ret_bool HF.out.symm, rfl⟩
        · have HF : Hid (noteB s.data.toList = false) := HNO.out (by unfold txtB; rw [decide_eq_false (p := s[k].toNat ≤ 126) (by omega), Bool.and_false])
          go_wp2_with fail
          go_ret
          exact ⟨ret_bool HF.out.symm, rfl⟩
        · have HAN : Hid ((s.data.toList.take (k + 1)).all txtB = true) := HYES.out (by unfold txtB; rw [decide_eq_true (by omega), decide_eq_true (by omega)]; rfl)
          go_wp2_with fail
          go_round
          case rel => exact ⟨k + 1, by omega, by go_num, HAN⟩
          case measure => simp [intOf]; omega
      · have HF : Hid (noteB s.data.toList = true) := by rw [HR.out]; exact txt_full HA.out (by rw [HLEN.out]; exact hlt)
        go_wp2_with fail
        go_ret
        exact ⟨ret_bool HF.out.symm, rfl⟩
end Go.Proofs.YtpghpeombednkaaGreatDoor
