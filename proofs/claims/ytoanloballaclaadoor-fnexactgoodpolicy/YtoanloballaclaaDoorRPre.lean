import Derived.Test.YtoanloballaclaaDoorRNum
import Derived.Test.YtoanloballaclaaDoorHostP
namespace Go.Proofs.YtoanloballaclaaDoor
open Go.RowKit



set_option maxRecDepth 20000 in
set_option maxHeartbeats 400000 in
theorem isHost_any (s : ByteArray) (w : World) (hE : Env w) :
    Calls Tryd.prog 33 #[.string s] w fun e w' => e = .returned (.bool (targB s.data.toList)) ∧ Below w.heap.size w w' := by
  have HT : Hid (targB s.data.toList = (!(s.data.toList == []) && (nameB s.data.toList && !decide (0 ≤ Lib.indexByte s.data.toList 42)))) := targ_host
  by_cases h0 : s.data.toList = []
  · obtain rfl : s = ⟨#[]⟩ := data_eq h0
    go_enter Tryd.func33, Tryd.ntmps33
    go_wp2_with fail
    go_ret
    exact ⟨ret_bool (by rw [HT.out]; rfl), Below.refl _ _⟩
  · have e0 : (s.toList == []) = false := by rw [ByteArray.toList_eq]; simpa using h0
    have e1 : (s.data.toList == []) = false := by simpa using h0
    rw [e1, Bool.not_false, Bool.true_and] at HT
    clear h0 e1
    cases hN : nameB s.data.toList with
    | false =>
      rw [hN] at HT
      have HN : Hid (nameB s.data.toList = false) := hN
      clear hN
      go_enter Tryd.func33, Tryd.ntmps33
      go_wp2_with fail
      refine (iGoodName_any s w hE).mono ?_
      rintro e w1 ⟨rfl, hb⟩
      rw [HN.out]
      go_wp2_with fail
      go_ret
      exact ⟨ret_bool (by rw [HT.out]; rfl), hb⟩
    | true =>
      rw [hN] at HT
      have HN : Hid (nameB s.data.toList = true) := hN
      clear hN
      go_enter Tryd.func33, Tryd.ntmps33
      go_wp2_with fail
      refine (iGoodName_any s w hE).mono ?_
      rintro e w1 ⟨rfl, hb⟩
      rw [HN.out]
      go_wp2_with fail
      refine (Tryd.strings_Contains_one s 42 w1).mono ?_
      rintro e w2 ⟨rfl, rfl⟩
      obtain ⟨b, hbb⟩ : ∃ b, b = decide (0 ≤ Lib.indexByte s.data.toList 42) := ⟨_, rfl⟩
      rw [← hbb] at HT ⊢
      clear hbb
      go_wp2_with fail
      go_ret
      exact ⟨ret_bool (by rw [HT.out]; rfl), hb⟩

def noteB (l : List UInt8) : Bool := decide (l.length ≤ 30) && l.all txtB
set_option maxRecDepth 20000 in
set_option maxHeartbeats 1000000 in
theorem isNote_any (s : ByteArray) (w : World) :
    Calls Tryd.prog 36 #[.string s] w fun e w' => e = .returned (.bool (noteB s.data.toList)) ∧ w' = w := by
  have HLEN : Hid (s.data.toList.length = s.size) := (by simp : s.data.toList.length = s.size)
  by_cases h30 : (30 : Int) < (s.size : Int)
  · have HR : Hid (noteB s.data.toList = false) := by unfold noteB; rw [HLEN.out, decide_eq_false (by omega)]; exact rfl
    go_enter Tryd.func36, Tryd.ntmps36
    go_wp2_with fail
    go_ret
    exact ⟨ret_bool HR.out.symm, rfl⟩
  · have HR : Hid (noteB s.data.toList = s.data.toList.all txtB) := by unfold noteB; rw [HLEN.out, decide_eq_true (by omega)]; exact Bool.true_and _
    go_enter Tryd.func36, Tryd.ntmps36
    go_wp2_with fail
    go_loop [9] (fun i => ∃ k : Nat, k ≤ s.size ∧ i = .int .i64 (k : Int) ∧ Hid ((s.data.toList.take k).all txtB = true)) (fun i => s.size - (intOf i).toNat)
    case atStart => exact ⟨0, Nat.zero_le _, rfl, rfl⟩
    case round =>
      obtain ⟨k, hk, rfl, HA⟩ := hrel
      by_cases hlt : k < s.size
      · have hkl : k < s.data.toList.length := by rw [HLEN.out]; exact hlt
        have hc255 : s[k].toNat < 256 := s[k].toNat_lt
        have HNO : Hid (txtB s[k] = false → noteB s.data.toList = false) := fun h => by rw [HR.out]; exact txt_not hkl h
        have HYES : Hid (txtB s[k] = true → (s.data.toList.take (k + 1)).all txtB = true) := fun h => txt_step HA.out hkl h
        rcases (show (s[k].toNat : Int) < 32 ∨ (126 : Int) < (s[k].toNat : Int) ∨ ((32 : Int) ≤ (s[k].toNat : Int) ∧ (s[k].toNat : Int) ≤ 126) by omega) with g | g | ⟨g1, g2⟩
        · have HF : Hid (noteB s.data.toList = false) := HNO.out (by unfold txtB; rw [decide_eq_false (by omega)]; rfl)
          go_wp2_with fail
          go_ret
          exact ⟨ret_bool HF.out.symm, rfl⟩
        · have HF : Hid (noteB s.data.toList = false) := HNO.out (by unfold txtB; rw [decide_eq_false (p := s[k].toNat ≤ 126) (by omega), Bool.and_false])
          go_wp2_with fail
          go_ret
          exact ⟨ret_bool HF.out.symm, rfl⟩
        · have HAN : Hid ((s.data.toList.take (k + 1)).all txtB = true) := HYES.out (by unfold txtB; rw [decide_eq_true (by omega), decide_eq_true (by omega)]; rfl)
          go_wp2_with fail
          go_round
          case rel => exact ⟨k + 1, by omega, by go_num, HAN⟩
          case measure => simp [intOf]; omega
      · have HF : Hid (noteB s.data.toList = true) := by rw [HR.out]; exact txt_full HA.out (by rw [HLEN.out]; exact hlt)
        go_wp2_with fail
        go_ret
        exact ⟨ret_bool HF.out.symm, rfl⟩
end Go.Proofs.YtoanloballaclaaDoor
