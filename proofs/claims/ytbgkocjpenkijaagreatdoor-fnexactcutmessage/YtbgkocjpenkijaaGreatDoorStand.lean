import Derived.Test.YtbgkocjpenkijaaGreatDoorRd
namespace Go.Proofs.YtbgkocjpenkijaaGreatDoor
open Go.RowKit

/-- What stands at a place: 0 nothing, 1 an end, 2 a label, 3 a pointer. -/
def stands (l : List UInt8) (a : Nat) : Int :=
  if h : a < l.length then
    if l[a].toNat = 0 then 1 else if l[a].toNat ≤ 20 then (if a + l[a].toNat < l.length then 2 else 0) else if 192 ≤ l[a].toNat then (if a + 1 < l.length then 3 else 0) else 0
  else 0
theorem ret_intK {a b : Int} (h : a = b) : Ending.returned (.int .i64 a) = .returned (.int .i64 b) := by rw [h]

set_option maxRecDepth 20000 in
set_option maxHeartbeats 1000000 in
theorem whatStands_low (s : ByteArray) (a : Int) (w : World) (ha : a < 0) :
    Calls Tryz.prog 151 #[.string s, .int .i64 a] w fun e w' => e = .returned (.int .i64 0) ∧ w' = w := by
  go_enter Tryz.func151, Tryz.ntmps151
  go_wp2_with fail
  go_ret
  exact ⟨rfl, rfl⟩

set_option maxRecDepth 20000 in
set_option maxHeartbeats 2000000 in
theorem whatStands_any (s : ByteArray) (a : Nat) (w : World) (hs : s.size ≤ 4000) (ha64 : a ≤ 9223372036854775807) :
    Calls Tryz.prog 151 #[.string s, .int .i64 (a : Int)] w fun e w' => e = .returned (.int .i64 (stands s.data.toList a)) ∧ w' = w := by
  by_cases ha : a < s.size
  · have hc255 : s[a].toNat < 256 := s[a].toNat_lt
    have hst : stands s.data.toList a = if s[a].toNat = 0 then 1 else if s[a].toNat ≤ 20 then (if a + s[a].toNat < s.size then 2 else 0) else if 192 ≤ s[a].toNat then (if a + 1 < s.size then 3 else 0) else 0 := by
      have hal : a < s.data.toList.length := by simpa using ha
      unfold stands; rw [dif_pos hal]
      have e : s.data.toList[a] = s[a] := rfl
      have e2 : s.data.toList.length = s.size := by simp
      rw [e, e2]
    obtain ⟨c, hc⟩ : ∃ c : Nat, c = s[a].toNat := ⟨_, rfl⟩
    have hsa : (s[a].toNat : Int) ≤ 255 := by omega
    rw [← hc] at hst hc255
    have HST : Hid (stands s.data.toList a = if c = 0 then 1 else if c ≤ 20 then (if a + c < s.size then 2 else 0) else if 192 ≤ c then (if a + 1 < s.size then 3 else 0) else 0) := hst
    have hci : (s[a].toNat : Int) = (c : Int) := by rw [hc]
    clear hst
    by_cases h0 : c = 0
    · have HR : Hid (stands s.data.toList a = 1) := by rw [HST.out, if_pos h0]; exact rfl
      have e0 : ((s[a].toNat : Int) == 0) = true := by rw [hci, h0]; rfl
      clear HST hc hci
      go_enter Tryz.func151, Tryz.ntmps151
      go_wp2_with fail
      go_ret
      exact ⟨ret_intK HR.out.symm, rfl⟩
    · have e0 : ((s[a].toNat : Int) == 0) = false := by rw [hci, beq_eq_false_iff_ne]; omega
      by_cases h20 : c ≤ 20
      · have g20 : (s[a].toNat : Int) ≤ 20 := by rw [hci]; omega
        by_cases hin : a + c < s.size
        · have gin : (a : Int) + (s[a].toNat : Int) < (s.size : Int) := by rw [hci]; omega
          have HR : Hid (stands s.data.toList a = 2) := by rw [HST.out, if_neg h0, if_pos h20, if_pos hin]; exact rfl
          clear HST hc hci
          go_enter Tryz.func151, Tryz.ntmps151
          go_wp2_with fail
          go_ret
          exact ⟨ret_intK HR.out.symm, rfl⟩
        · have gin : decide ((a : Int) + (s[a].toNat : Int) < (s.size : Int)) = false := by rw [hci]; simp; omega
          have HR : Hid (stands s.data.toList a = 0) := by rw [HST.out, if_neg h0, if_pos h20, if_neg hin]; exact rfl
          clear HST hc hci
          go_enter Tryz.func151, Tryz.ntmps151
          go_wp2_with fail
          go_ret
          exact ⟨ret_intK HR.out.symm, rfl⟩
      · have g20 : decide ((s[a].toNat : Int) ≤ 20) = false := by rw [hci]; simp; omega
        by_cases h192 : 192 ≤ c
        · have g192 : (192 : Int) ≤ (s[a].toNat : Int) := by rw [hci]; omega
          by_cases hin : a + 1 < s.size
          · have HR : Hid (stands s.data.toList a = 3) := by rw [HST.out, if_neg h0, if_neg h20, if_pos h192, if_pos hin]; exact rfl
            clear HST hc hci
            go_enter Tryz.func151, Tryz.ntmps151
            go_wp2_with fail
            go_ret
            exact ⟨ret_intK HR.out.symm, rfl⟩
          · have HR : Hid (stands s.data.toList a = 0) := by rw [HST.out, if_neg h0, if_neg h20, if_pos h192, if_neg hin]; exact rfl
            have gin : decide ((a : Int) + 1 < (s.size : Int)) = false := by simp; omega
            clear HST hc hci
            go_enter Tryz.func151, Tryz.ntmps151
            go_wp2_with fail
            go_ret
            exact ⟨ret_intK HR.out.symm, rfl⟩
        · have g192 : decide ((192 : Int) ≤ (s[a].toNat : Int)) = false := by rw [hci]; simp; omega
          have HR : Hid (stands s.data.toList a = 0) := by rw [HST.out, if_neg h0, if_neg h20, if_neg h192]; exact rfl
          clear HST hc hci
          go_enter Tryz.func151, Tryz.ntmps151
          go_wp2_with fail
          go_ret
          exact ⟨ret_intK HR.out.symm, rfl⟩
  · have HR : Hid (stands s.data.toList a = 0) := by unfold stands; rw [dif_neg (by simpa using ha)]; exact rfl
    go_enter Tryz.func151, Tryz.ntmps151
    go_wp2_with fail
    go_ret
    exact ⟨ret_intK HR.out.symm, rfl⟩

set_option maxRecDepth 20000 in
set_option maxHeartbeats 1000000 in
theorem labelAt_any (s : ByteArray) (a : Nat) (w : World) (hs : s.size ≤ 4000) (ha : a < s.size) (hin : a + s[a].toNat < s.size) (hE : Env w) :
    Calls Tryz.prog 152 #[.string s, .int .i64 (a : Int)] w fun e w' => e = .returned (.string ⟨(foldL (labAt s.data.toList a s[a].toNat)).toArray⟩) ∧ Below w.heap.size w w' := by
  have hx := extract_S s (a + 1) (a + 1 + s[a].toNat)
  have hsz : (s.extract (a + 1) (a + 1 + s[a].toNat)).size ≤ maxLen := by
    rw [ByteArray.size_extract]; unfold maxLen; omega
  have hlo : (s.extract (a + 1) (a + 1 + s[a].toNat)).data.toList = labAt s.data.toList a s[a].toNat := by
    unfold labAt; rw [Lib.extract_data, List.drop_take]
  have HLO : Hid ((s.extract (a + 1) (a + 1 + s[a].toNat)).data.toList = labAt s.data.toList a s[a].toNat) := hlo
  clear hx hlo
  go_enter Tryz.func152, Tryz.ntmps152
  go_wp2_with fail
  refine (foldBytes_any _ w hsz hE).mono ?_
  rintro e w1 ⟨rfl, hb⟩
  rw [HLO.out]
  go_wp2_with fail
  go_ret
  exact ⟨rfl, hb⟩

set_option maxRecDepth 20000 in
set_option maxHeartbeats 1000000 in
theorem pointerAt_any (s : ByteArray) (a : Nat) (w : World) (hs : s.size ≤ 4000) (ha : a + 1 < s.size) (h192 : 192 ≤ s[a].toNat) :
    Calls Tryz.prog 153 #[.string s, .int .i64 (a : Int)] w fun e w' => e = .returned (.int .i64 (((s[a].toNat - 192) * 256 + s[a + 1].toNat : Nat) : Int)) ∧ Below w.heap.size w w' := by
  have ha0 : a < s.size := by omega
  have h1 : s[a].toNat < 256 := s[a].toNat_lt
  have h2 : s[a + 1].toNat < 256 := s[a + 1].toNat_lt
  have hix : Sem.run Tryz.prog (Instr.index 9 (.string s) (.int .i64 ((a : Int) + 1))) w.drew = .ok (.int .u8 (s[a + 1].toNat : Int)) w.drew := by
    rw [run_index_string _ _ _ _ _ Tryz.underlying9, dif_pos ⟨by omega, by omega⟩]
    have e : ((a : Int) + 1).toNat = a + 1 := by omega
    simp only [e]
  go_enter Tryz.func153, Tryz.ntmps153
  go_wp2_with fail
  go_region
  all_goals
    go_wp2_with fail
    go_ret
    exact ⟨ret_intK (by omega), below_drewN (Below.refl _ _) _⟩
end Go.Proofs.YtbgkocjpenkijaaGreatDoor
