import Derived.Test.YtbgkocjpenkijaaGreatDoorSTarg
namespace Go.Proofs.YtbgkocjpenkijaaGreatDoor
open Go.RowKit

/-- Bytes as a number, the highest first. -/
def rdN (l : List UInt8) : Nat := l.foldl (fun n c => n * 256 + c.toNat) 0
theorem rdN_snoc (l : List UInt8) (k : Nat) (h : k < l.length) : rdN (l.take (k + 1)) = rdN (l.take k) * 256 + l[k].toNat := by
  unfold rdN; rw [List.take_succ_eq_append_getElem h, List.foldl_append]; rfl
theorem rdN_lt (l : List UInt8) : ∀ k, k ≤ l.length → rdN (l.take k) < 256 ^ k
  | 0, _ => by simp [rdN]
  | k + 1, h => by
    have ih := rdN_lt l k (by omega)
    rw [rdN_snoc l k (by omega), Nat.pow_succ]
    have := l[k].toNat_lt
    omega

theorem or_add {v c : Nat} (hv : v < 4294967296) (hc : c < 256) : bits .or .i64 ((v : Int) * 256) (c : Int) = ((v * 256 + c : Nat) : Int) := by
  have e1 : (v : Int) * 256 = ((v * 256 : Nat) : Int) := by omega
  have e2 : v * 256 ||| c = v * 256 + c := by
    have h := Nat.shiftLeft_add_eq_or_of_lt (i := 8) (b := c) (by omega) v
    rw [Nat.shiftLeft_eq, show 2 ^ 8 = 256 from rfl] at h
    exact h.symm
  rw [e1]
  show IntKind.i64.wrap ((BitVec.ofInt 64 ((v * 256 : Nat) : Int) ||| BitVec.ofInt 64 (c : Int)).toNat : Int) = _
  rw [BitVec.toNat_or, BitVec.ofInt_natCast, BitVec.ofInt_natCast, BitVec.toNat_ofNat, BitVec.toNat_ofNat, Nat.mod_eq_of_lt (by omega), Nat.mod_eq_of_lt (by omega), e2, wrap_small _ (by omega) (by omega)]

set_option maxRecDepth 20000 in
set_option maxHeartbeats 1000000 in
theorem l3Read_any (s : ByteArray) (w : World) (hs : s.size ≤ 4) :
    Calls Tryz.prog 59 #[.string s] w fun e w' => e = .returned (.int .i64 ((rdN s.data.toList : Nat) : Int)) ∧ w' = w := by
  have HLEN : Hid (s.data.toList.length = s.size) := (by simp : s.data.toList.length = s.size)
  go_enter Tryz.func59, Tryz.ntmps59
  go_wp2_with fail
  go_loop [3, 4] (fun n i => ∃ k : Nat, k ≤ s.size ∧ i = .int .i64 (k : Int) ∧ n = .int .i64 ((rdN (s.data.toList.take k) : Nat) : Int)) (fun _ i => s.size - (intOf i).toNat)
  case atStart => exact ⟨0, Nat.zero_le _, rfl, rfl⟩
  case round =>
    obtain ⟨k, hk, rfl, rfl⟩ := hrel
    have hlt4 := rdN_lt s.data.toList k (by rw [HLEN.out]; exact hk)
    have hp4 : 256 ^ k ≤ 4294967296 := Nat.le_trans (Nat.pow_le_pow_right (by omega) (show k ≤ 4 by omega)) (by decide)
    have hv4 : rdN (s.data.toList.take k) < 4294967296 := by omega
    clear hlt4 hp4
    by_cases hlt : k < s.size
    · have hkl : k < s.data.toList.length := by rw [HLEN.out]; exact hlt
      have hc255 : s[k].toNat < 256 := s[k].toNat_lt
      have HST : Hid (rdN (s.data.toList.take (k + 1)) = rdN (s.data.toList.take k) * 256 + s[k].toNat) := rdN_snoc s.data.toList k hkl
      obtain ⟨v, hv⟩ : ∃ v, v = rdN (s.data.toList.take k) := ⟨_, rfl⟩
      rw [← hv] at hv4 HST ⊢
      clear hv
      go_wp2_with fail
      go_round
      case rel => exact ⟨k + 1, by omega, by go_num, by rw [or_add (by omega) hc255, HST.out]⟩
      case measure => simp [intOf]; omega
    · have hfull : s.data.toList.take k = s.data.toList := List.take_of_length_le (by rw [HLEN.out]; omega)
      rw [hfull] at hv4 ⊢
      obtain ⟨v, hv⟩ : ∃ v, v = rdN s.data.toList := ⟨_, rfl⟩
      rw [← hv] at hv4 ⊢
      have HV : Hid (v = rdN s.data.toList) := hv
      clear hv hfull
      go_wp2_with fail
      go_ret
      exact ⟨ret_int (by rw [HV.out]), rfl⟩
end Go.Proofs.YtbgkocjpenkijaaGreatDoor
