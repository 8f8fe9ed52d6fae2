import Derived.Test.YtpghpeombednkaaGreatDoorRWire
namespace Go.Proofs.YtpghpeombednkaaGreatDoor
open Go.RowKit

theorem wireT_name {l : List UInt8} (h : nameB l = true) : wireT l = wireL (labelsOf l) := if_pos h
theorem wireT_len (l : List UInt8) : (wireT l).length ≤ 1000 := by
  unfold wireT
  split
  · rename_i h
    obtain ⟨h1, h2⟩ := name_labels h
    have : ∀ P : List (List UInt8), (∀ p ∈ P, p.length ≤ 20) → (wireL P).length ≤ 21 * P.length + 1 := by
      intro P
      induction P with
      | nil => intro _; simp [wireL]
      | cons c r ih => intro hh; have a1 := hh c (by simp); have a2 := ih (fun q hq => hh q (by simp [hq])); unfold wireL; simp; omega
    have := this (labelsOf l) (fun p hp => (h1 p hp).1)
    omega
  · simp
theorem targ_nameB {l : List UInt8} (h : targB l = true) : nameB l = true := by unfold targB at h; simp only [Bool.and_eq_true] at h; exact h.1
def bytesVal (D : Option (List UInt8)) : Ending := .returned (.tuple #[.string ⟨(D.getD []).toArray⟩, .bool D.isSome])
theorem bytes_yes {D : Option (List UInt8)} {y : List UInt8} (h : D = some y) : Ending.returned (.tuple #[.string ⟨y.toArray⟩, .bool true]) = bytesVal D := by rw [h]; rfl
theorem bytes_no {D : Option (List UInt8)} (h : D = none) : Ending.returned (.tuple #[.string ⟨#[]⟩, .bool false]) = bytesVal D := by rw [h]; rfl

set_option maxRecDepth 20000 in
set_option maxHeartbeats 2000000 in
theorem iDataBytes_any (k : Int) (s : ByteArray) (w : World) (hs : s.size ≤ 1048576) (hE : EnvR w) :
    Calls Tryz.prog 37 #[.int .i64 k, .string s] w fun e w' => e = bytesVal (dataP k s.data.toList) ∧ Below w.heap.size w w' := by
  have HP : Hid (Calls Tryz.prog 77 #[.int .i64 k, .string s] w fun e w' => ParseRes w k s.data.toList e w') := parseData_any k s w hs hE
  cases hD : dataP k s.data.toList with
  | none =>
    have HD : Hid (dataP k s.data.toList = none) := hD
    clear hD
    go_enter Tryz.func37, Tryz.ntmps37
    go_wp2_with fail
    refine HP.out.mono ?_
    rintro e w1 ⟨v, rfl, _, hb⟩
    rw [HD.out]
    go_wp2_with fail
    go_ret2
    exact ⟨rfl, hb⟩
  | some y =>
    have HD : Hid (dataP k s.data.toList = some y) := hD
    clear hD
    go_enter Tryz.func37, Tryz.ntmps37
    go_wp2_with fail
    refine HP.out.mono ?_
    rintro e w1 ⟨v, rfl, hv, hb⟩
    have hv := hv (by rw [HD.out]; rfl)
    rw [HD.out]
    have hE1 := hE.below hb
    rcases hv with ⟨rfl, z, hz, rfl⟩ | ⟨hk, ht, rfl⟩ | ⟨rfl, hn, rfl⟩ | ⟨rfl, a, r, hl, ha, hn, ht, rfl⟩ | ⟨rfl, hn, rfl⟩
    · have hzy : z = y := by have := HD.out; rw [show dataP 1 s.data.toList = dataA s.data.toList from if_pos rfl, hz] at this; exact Option.some.inj this
      subst hzy
      obtain ⟨a, b, c, d, rfl⟩ := four_of (y := z) (by
        unfold dataA at hz; split at hz
        · rename_i hc; rw [← Option.some.inj hz, List.length_map]; exact hc.2
        · cases hz)
      clear hz
      unfold addrV
      simp only [List.map_cons, List.map_nil]
      go_wp2_with fail
      refine (addressWire a b c d w1).mono ?_
      rintro e w2 ⟨rfl, hb2⟩
      go_wp2_with fail
      go_ret2
      exact ⟨rfl, hb.trans (hb2.mono hb.size)⟩
    · have hy : wireT s.data.toList = y := by
        have := HD.out; rw [dataP_N hk, show dataN s.data.toList = some (wireL (labelsOf s.data.toList)) from if_pos ht] at this
        rw [wireT_name (targ_nameB ht)]; exact Option.some.inj this
      have HY : Hid (wireT s.data.toList = y) := hy
      clear hy hk ht
      unfold hostV
      go_wp2_with fail
      refine (hostWire _ w1 hE1).mono ?_
      rintro e w2 ⟨rfl, hb2⟩
      rw [show (⟨s.data.toList.toArray⟩ : ByteArray).data.toList = s.data.toList from rfl, HY.out]
      go_wp2_with fail
      go_ret2
      exact ⟨rfl, hb.trans (hb2.mono hb.size)⟩
    · have hy : beB (intV s.data.toList) 4 = y := by
        have := HD.out; rw [dataP_S, show dataS s.data.toList = some (beB (intV s.data.toList) 4) from if_pos hn] at this
        exact Option.some.inj this
      have HY : Hid (beB (intV s.data.toList) 4 = y) := hy
      have hr1 := (num_atoi hn).2.1
      have hr2 := (num_atoi hn).2.2.1
      obtain ⟨n, hnn⟩ : ∃ n, n = intV s.data.toList := ⟨_, rfl⟩
      rw [← hnn] at HY hr1 hr2
      clear hy hn
      unfold serV
      rw [← hnn]
      clear hnn
      go_wp2_with fail
      refine (serialWire n w1 hr1 (by omega)).mono ?_
      rintro e w2 ⟨rfl, hb2⟩
      rw [HY.out]
      go_wp2_with fail
      go_ret2
      exact ⟨rfl, hb.trans (hb2.mono hb.size)⟩
    · have hy : beB (intV a) 2 ++ wireT r = y := by
        have := HD.out; rw [dataP_M, hl, exch_at ha, if_pos ⟨hn, ht⟩] at this
        rw [wireT_name (targ_nameB ht)]; exact Option.some.inj this
      have HY : Hid (beB (intV a) 2 ++ wireT r = y) := hy
      have hr1 := (num_atoi hn).2.1
      have hr2 := (num_atoi hn).2.2.1
      have hwl := wireT_len r
      have HEX : Hid (∀ W, EnvR W → Calls Tryz.prog 226 #[.agg #[.int .i64 (intV a), .string ⟨r.toArray⟩]] W fun e w' => e = .returned (.string ⟨(beB (intV a) 2 ++ wireT r).toArray⟩) ∧ Below W.heap.size W w') := fun W hW => exchangeWire (intV a) ⟨r.toArray⟩ W hr1 (by omega) hwl hW
      obtain ⟨n, hnn⟩ : ∃ n, n = intV a := ⟨_, rfl⟩
      rw [← hnn] at HY HEX
      clear hy hn hl ht hr1 hr2 hwl
      unfold exV
      rw [← hnn]
      clear hnn
      go_wp2_with fail
      refine (HEX.out w1 hE1).mono ?_
      rintro e w2 ⟨rfl, hb2⟩
      rw [HY.out]
      go_wp2_with fail
      go_ret2
      exact ⟨rfl, hb.trans (hb2.mono hb.size)⟩
    · have h30 : s.data.toList.length ≤ 30 := by unfold noteB at hn; simp only [Bool.and_eq_true, decide_eq_true_eq] at hn; exact hn.1
      have hy : UInt8.ofNat s.data.toList.length :: s.data.toList = y := by
        have := HD.out
        rw [dataP_T, show dataT s.data.toList = some (UInt8.ofNat s.data.toList.length :: s.data.toList) from if_pos ⟨by unfold noteB at hn; simp only [Bool.and_eq_true] at hn; exact hn.2, h30⟩] at this
        exact Option.some.inj this
      have HY : Hid (UInt8.ofNat s.data.toList.length :: s.data.toList = y) := hy
      have h30' : s.size ≤ 30 := by have : s.data.toList.length = s.size := by simp
                                    omega
      clear hy hn h30
      unfold noteV
      go_wp2_with fail
      refine (noteWire _ w1 h30').mono ?_
      rintro e w2 ⟨rfl, hb2⟩
      rw [show (⟨s.data.toList.toArray⟩ : ByteArray).data.toList = s.data.toList from rfl, HY.out]
      go_wp2_with fail
      go_ret2
      exact ⟨rfl, hb.trans (hb2.mono hb.size)⟩
end Go.Proofs.YtpghpeombednkaaGreatDoor
