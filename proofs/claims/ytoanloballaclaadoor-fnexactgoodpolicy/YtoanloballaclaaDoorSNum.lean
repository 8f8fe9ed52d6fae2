import Derived.Test.YtoanloballaclaaDoorSLabels
import Derived.Test.YtoanloballaclaaDoorPackA
import Derived.Deep.RegionWith
import Derived.Test.YtoanloballaclaaDoorPlain
namespace Go.Proofs.YtoanloballaclaaDoor
open Go.RowKit

/-- A digit; a text of digits read as a number. -/
def digB (c : UInt8) : Bool := decide (48 ≤ c.toNat) && decide (c.toNat ≤ 57)
def decV (l : List UInt8) : Nat := l.foldl (fun n c => 10 * n + (c.toNat - 48)) 0
/-- What l1Int tells. -/
def intV (l : List UInt8) : Int := if 1 ≤ l.length ∧ l.length ≤ 10 ∧ ¬ (l.head? = some 48 ∧ 1 < l.length) ∧ l.all digB = true then (decV l : Int) else -1
theorem decV_snoc (l : List UInt8) (k : Nat) (h : k < l.length) : decV (l.take (k + 1)) = 10 * decV (l.take k) + (l[k].toNat - 48) := by
  unfold decV; rw [List.take_succ_eq_append_getElem h, List.foldl_append]; rfl
theorem decV_lt (l : List UInt8) : ∀ k, (l.take k).all digB = true → decV (l.take k) < 10 ^ k
  | 0, _ => by simp [decV]
  | k + 1, h => by
    by_cases hk : k < l.length
    · have hs := decV_snoc l k hk
      have ht := List.take_succ_eq_append_getElem hk
      rw [ht] at h
      simp only [List.all_append, Bool.and_eq_true] at h
      have ih := decV_lt l k h.1
      have hd : digB l[k] = true := by simpa using h.2
      unfold digB at hd
      simp only [Bool.and_eq_true, decide_eq_true_eq] at hd
      rw [hs, Nat.pow_succ]; omega
    · have e : l.take (k + 1) = l.take k := by rw [List.take_of_length_le (by omega), List.take_of_length_le (by omega)]
      rw [e] at h ⊢
      have ih := decV_lt l k h
      rw [Nat.pow_succ]; omega

/-- A number in digits. -/
def numL (n : Nat) : List UInt8 := if n < 10 then [UInt8.ofNat (48 + n)] else numL (n / 10) ++ [UInt8.ofNat (48 + n % 10)]
theorem numL_small {n : Nat} (h : n < 10) : numL n = [UInt8.ofNat (48 + n)] := by rw [numL, if_pos h]
theorem numL_big {n : Nat} (h : ¬ n < 10) : numL n = numL (n / 10) ++ [UInt8.ofNat (48 + n % 10)] := by rw [numL, if_neg h]
theorem numL_length : ∀ (k n : Nat), n < 10 ^ (k + 1) → (numL n).length ≤ k + 1
  | 0, n, h => by rw [numL_small (by simpa using h)]; simp
  | k + 1, n, h => by
    by_cases h10 : n < 10
    · rw [numL_small h10]; simp
    · rw [numL_big h10, List.length_append]
      have := numL_length k (n / 10) (by rw [Nat.pow_succ] at h; omega)
      simp; omega

theorem val_strM {x : ByteArray} {l : List UInt8} (h : x.data.toList = l) : Value.string x = .string ⟨l.toArray⟩ := by rw [data_eq h]
theorem byte_new {w : World} {n : Int} {k : Nat} (hn : n = (k : Int)) (hk : k ≤ 255) :
    Sem.run Tryd.prog (convert 50 9 (.slice (some ⟨w.heap.size, 0, none⟩) 1 1)) (w.alloc (.cells #[.int .u8 n] 5)) = .ok (.string ⟨#[UInt8.ofNat k]⟩) (w.alloc (.cells #[.int .u8 n] 5)) := by
  refine run_convert_bytes_back _ 50 9 5 ⟨w.heap.size, 0, none⟩ 1 [UInt8.ofNat k] Tryd.underlying50 Tryd.underlying5 Tryd.underlying9 (fun j hj => ?_)
  match j, hj with
  | 0, _ =>
    have := b8_ofNat hk
    unfold B8 at this
    rw [cell_new_one w (.int .u8 n) 5 0 (.int .u8 n) rfl, hn]
    exact congrArg some this.symm

theorem byte_kept {w W : World} {n : Int} {k : Nat} (hn : n = (k : Int)) (hk : k ≤ 255) (hb : Below (w.alloc (.cells #[.int .u8 n] 5)).drew.heap.size (w.alloc (.cells #[.int .u8 n] 5)).drew W) :
    Sem.run Tryd.prog (convert 50 9 (.slice (some ⟨w.heap.size, 0, none⟩) 1 1)) W = .ok (.string ⟨#[UInt8.ofNat k]⟩) W := by
  refine run_convert_bytes_back _ 50 9 5 ⟨w.heap.size, 0, none⟩ 1 [UInt8.ofNat k] Tryd.underlying50 Tryd.underlying5 Tryd.underlying9 (fun j hj => ?_)
  match j, hj with
  | 0, _ =>
    have := b8_ofNat hk
    unfold B8 at this
    have e : (w.alloc (.cells #[.int .u8 n] 5)).drew.cell? ((⟨w.heap.size, 0, none⟩ : Addr).add 0) = some (.int .u8 n) := cell_new_one w (.int .u8 n) 5 0 (.int .u8 n) rfl
    rw [hb.cell (p := (⟨w.heap.size, 0, none⟩ : Addr).add 0) (show w.heap.size < (w.alloc (.cells #[.int .u8 n] 5)).heap.size by simp), e, hn]
    exact congrArg some this.symm

theorem below_anyN {w wr w1 : World} (hb : Below w.heap.size w wr) (hb1 : Below wr.drew.heap.size wr.drew w1) : Below w.heap.size w w1 := hb.drew.trans (hb1.mono hb.size)


theorem dig_step {l : List UInt8} {k : Nat} (h : (l.take k).all digB = true) (hk : k < l.length) (ho : digB l[k] = true) : (l.take (k + 1)).all digB = true := by
  rw [List.take_succ_eq_append_getElem hk]; simp only [List.all_append, h, List.all_cons, ho, List.all_nil, Bool.and_true]
theorem dig_full {l : List UInt8} {k : Nat} (h : (l.take k).all digB = true) (hk : ¬ k < l.length) : l.all digB = true := by
  rwa [List.take_of_length_le (by omega)] at h
theorem dig_not {l : List UInt8} {k : Nat} (hk : k < l.length) (ho : digB l[k] = false) : l.all digB = false := by
  rw [Bool.eq_false_iff]; intro h
  have := List.all_eq_true.1 h l[k] (List.getElem_mem _)
  rw [ho] at this; cases this
theorem intV_bad {l : List UInt8} (h : l.all digB = false) : intV l = -1 := by unfold intV; rw [if_neg]; rintro ⟨_, _, _, h4⟩; rw [h] at h4; cases h4
theorem pow10 {k : Nat} (h : k ≤ 10) : 10 ^ k ≤ 10000000000 := Nat.le_trans (Nat.pow_le_pow_right (by omega) h) (by decide)

set_option maxRecDepth 20000 in
set_option maxHeartbeats 1000000 in
theorem l1Int_any (s : ByteArray) (w : World) (hs : s.size ≤ 4294967280) :
    Calls Tryd.prog 20 #[.string s] w fun e w' => e = .returned (.int .i64 (intV s.data.toList)) ∧ w' = w := by
  have HLEN : Hid (s.data.toList.length = s.size) := (by simp : s.data.toList.length = s.size)
  by_cases hin : 1 ≤ s.size ∧ s.size ≤ 10
  · have hin1 := hin.1
    have hin2 := hin.2
    have hd : (decide ((1 : Int) ≤ (s.size : Int)) && decide ((s.size : Int) ≤ 10)) = true := by
      rw [decide_eq_true (show (1 : Int) ≤ (s.size : Int) by omega), decide_eq_true (show (s.size : Int) ≤ 10 by omega)]; rfl
    have HD : Hid ((decide ((1 : Int) ≤ (s.size : Int)) && decide ((s.size : Int) ≤ 10)) = true) := hd
    clear hd hin
    have h0lt : 0 < s.size := by omega
    have HHEAD : Hid (s.data.toList.head? = some s[0]) := by
      rw [List.head?_eq_getElem?, List.getElem?_eq_getElem (by rw [HLEN.out]; exact h0lt)]; exact rfl
    by_cases hz : s[0] = 48 ∧ 1 < s.size
    · have HR : Hid (intV s.data.toList = -1) := by
        unfold intV; rw [if_neg]; exact rfl
        rintro ⟨_, _, h3, _⟩; exact h3 ⟨by rw [HHEAD.out, hz.1], by rw [HLEN.out]; exact hz.2⟩
      have e1 : ((s[0].toNat : Int) == 48) = true := by rw [hz.1]; rfl
      have hz2 := hz.2
      clear hz
      go_enter Tryd.func20, Tryd.ntmps20
      go_wp2_with fail
      refine (l1In_any _ _ _ _).mono ?_
      rintro e w1 ⟨rfl, rfl⟩
      rw [HD.out]
      go_wp2_with fail
      go_ret
      exact ⟨ret_int HR.out.symm, rfl⟩
    · have HZ : Hid (¬ (s.data.toList.head? = some 48 ∧ 1 < s.data.toList.length)) := by
        rintro ⟨h1, h2⟩
        rw [HHEAD.out] at h1
        rw [HLEN.out] at h2
        exact hz ⟨Option.some.inj h1, h2⟩
      by_cases h48 : s[0] = 48
      · have e1 : ((s[0].toNat : Int) == 48) = true := by rw [h48]; rfl
        have h1s : s.size ≤ 1 := by
          by_cases e : 1 < s.size
          · exact absurd ⟨h48, e⟩ hz
          · omega
        clear hz h48
        go_enter Tryd.func20, Tryd.ntmps20
        go_wp2_with fail
        refine (l1In_any _ _ _ _).mono ?_
        rintro e w1 ⟨rfl, rfl⟩
        rw [HD.out]
        go_wp2_with fail
        go_loop [3, 4] (fun n i => ∃ k : Nat, k ≤ s.size ∧ i = .int .i64 (k : Int) ∧ n = .int .i64 ((decV (s.data.toList.take k) : Nat) : Int) ∧ Hid ((s.data.toList.take k).all digB = true)) (fun _ i => s.size - (intOf i).toNat)
        case atStart => exact ⟨0, Nat.zero_le _, rfl, rfl, rfl⟩
        case round =>
          obtain ⟨k, hk, rfl, rfl, HA⟩ := hrel
          have hlt10 := decV_lt s.data.toList k HA.out
          have hp10 := pow10 (k := k) (by omega)
          have hdv : decV (s.data.toList.take k) < 10000000000 := by omega
          clear hlt10 hp10
          by_cases hlt : k < s.size
          · have hkl : k < s.data.toList.length := by rw [HLEN.out]; exact hlt
            have hc255 : s[k].toNat < 256 := s[k].toNat_lt
            have HST : Hid (decV (s.data.toList.take (k + 1)) = 10 * decV (s.data.toList.take k) + (s[k].toNat - 48)) := decV_snoc s.data.toList k hkl
            have HNO : Hid (digB s[k] = false → intV s.data.toList = -1) := fun h => intV_bad (dig_not hkl h)
            have HYES : Hid (digB s[k] = true → (s.data.toList.take (k + 1)).all digB = true) := fun h => dig_step HA.out hkl h
            obtain ⟨v, hv⟩ : ∃ v, v = decV (s.data.toList.take k) := ⟨_, rfl⟩
            rw [← hv] at hdv HST ⊢
            clear hv
            rcases (show (s[k].toNat : Int) < 48 ∨ (57 : Int) < (s[k].toNat : Int) ∨ ((48 : Int) ≤ (s[k].toNat : Int) ∧ (s[k].toNat : Int) ≤ 57) by omega) with g | g | ⟨g1, g2⟩
            · have HR : Hid (intV s.data.toList = -1) := HNO.out (by unfold digB; rw [decide_eq_false (by omega)]; rfl)
              go_wp2_with fail
              go_ret
              exact ⟨ret_int HR.out.symm, rfl⟩
            · have HR : Hid (intV s.data.toList = -1) := HNO.out (by unfold digB; rw [decide_eq_false (p := s[k].toNat ≤ 57) (by omega), Bool.and_false])
              go_wp2_with fail
              go_ret
              exact ⟨ret_int HR.out.symm, rfl⟩
            · have HAN : Hid ((s.data.toList.take (k + 1)).all digB = true) := HYES.out (by unfold digB; rw [decide_eq_true (by omega), decide_eq_true (by omega)]; rfl)
              have hsub : 48 ≤ s[k].toNat := by omega
              go_wp2_with fail
              go_round
              case rel => exact ⟨k + 1, by omega, by go_num, by rw [HST.out]; congr 1; omega, HAN⟩
              case measure => simp [intOf]; omega
          · have hfull : s.data.toList.take k = s.data.toList := List.take_of_length_le (by rw [HLEN.out]; omega)
            have HR : Hid (intV s.data.toList = ((decV (s.data.toList.take k) : Nat) : Int)) := by
              have h1 := dig_full HA.out (by rw [HLEN.out]; exact hlt)
              rw [hfull]
              exact if_pos ⟨by rw [HLEN.out]; exact hin1, by rw [HLEN.out]; exact hin2, HZ.out, h1⟩
            clear hfull
            obtain ⟨v, hv⟩ : ∃ v, v = decV (s.data.toList.take k) := ⟨_, rfl⟩
            rw [← hv] at hdv HR ⊢
            clear hv
            go_wp2_with fail
            go_ret
            exact ⟨ret_int HR.out.symm, rfl⟩
      · have e1 : ((s[0].toNat : Int) == 48) = false := by
          rw [beq_eq_false_iff_ne]; intro h; exact h48 (UInt8.toNat_inj.1 (by show s[0].toNat = 48; omega))
        clear hz h48
        go_enter Tryd.func20, Tryd.ntmps20
        go_wp2_with fail
        refine (l1In_any _ _ _ _).mono ?_
        rintro e w1 ⟨rfl, rfl⟩
        rw [HD.out]
        go_wp2_with fail
        go_loop [3, 4] (fun n i => ∃ k : Nat, k ≤ s.size ∧ i = .int .i64 (k : Int) ∧ n = .int .i64 ((decV (s.data.toList.take k) : Nat) : Int) ∧ Hid ((s.data.toList.take k).all digB = true)) (fun _ i => s.size - (intOf i).toNat)
        case atStart => exact ⟨0, Nat.zero_le _, rfl, rfl, rfl⟩
        case round =>
          obtain ⟨k, hk, rfl, rfl, HA⟩ := hrel
          have hlt10 := decV_lt s.data.toList k HA.out
          have hp10 := pow10 (k := k) (by omega)
          have hdv : decV (s.data.toList.take k) < 10000000000 := by omega
          clear hlt10 hp10
          by_cases hlt : k < s.size
          · have hkl : k < s.data.toList.length := by rw [HLEN.out]; exact hlt
            have hc255 : s[k].toNat < 256 := s[k].toNat_lt
            have HST : Hid (decV (s.data.toList.take (k + 1)) = 10 * decV (s.data.toList.take k) + (s[k].toNat - 48)) := decV_snoc s.data.toList k hkl
            have HNO : Hid (digB s[k] = false → intV s.data.toList = -1) := fun h => intV_bad (dig_not hkl h)
            have HYES : Hid (digB s[k] = true → (s.data.toList.take (k + 1)).all digB = true) := fun h => dig_step HA.out hkl h
            obtain ⟨v, hv⟩ : ∃ v, v = decV (s.data.toList.take k) := ⟨_, rfl⟩
            rw [← hv] at hdv HST ⊢
            clear hv
            rcases (show (s[k].toNat : Int) < 48 ∨ (57 : Int) < (s[k].toNat : Int) ∨ ((48 : Int) ≤ (s[k].toNat : Int) ∧ (s[k].toNat : Int) ≤ 57) by omega) with g | g | ⟨g1, g2⟩
            · have HR : Hid (intV s.data.toList = -1) := HNO.out (by unfold digB; rw [decide_eq_false (by omega)]; rfl)
              go_wp2_with fail
              go_ret
              exact ⟨ret_int HR.out.symm, rfl⟩
            · have HR : Hid (intV s.data.toList = -1) := HNO.out (by unfold digB; rw [decide_eq_false (p := s[k].toNat ≤ 57) (by omega), Bool.and_false])
              go_wp2_with fail
              go_ret
              exact ⟨ret_int HR.out.symm, rfl⟩
            · have HAN : Hid ((s.data.toList.take (k + 1)).all digB = true) := HYES.out (by unfold digB; rw [decide_eq_true (by omega), decide_eq_true (by omega)]; rfl)
              have hsub : 48 ≤ s[k].toNat := by omega
              go_wp2_with fail
              go_round
              case rel => exact ⟨k + 1, by omega, by go_num, by rw [HST.out]; congr 1; omega, HAN⟩
              case measure => simp [intOf]; omega
          · have hfull : s.data.toList.take k = s.data.toList := List.take_of_length_le (by rw [HLEN.out]; omega)
            have HR : Hid (intV s.data.toList = ((decV (s.data.toList.take k) : Nat) : Int)) := by
              have h1 := dig_full HA.out (by rw [HLEN.out]; exact hlt)
              rw [hfull]
              exact if_pos ⟨by rw [HLEN.out]; exact hin1, by rw [HLEN.out]; exact hin2, HZ.out, h1⟩
            clear hfull
            obtain ⟨v, hv⟩ : ∃ v, v = decV (s.data.toList.take k) := ⟨_, rfl⟩
            rw [← hv] at hdv HR ⊢
            clear hv
            go_wp2_with fail
            go_ret
            exact ⟨ret_int HR.out.symm, rfl⟩
  · have HR : Hid (intV s.data.toList = -1) := by
      unfold intV; rw [if_neg]; exact rfl
      rintro ⟨h1, h2, _⟩; rw [HLEN.out] at h1 h2; exact hin ⟨h1, h2⟩
    have hd : (decide ((1 : Int) ≤ (s.size : Int)) && decide ((s.size : Int) ≤ 10)) = false := by
      simp only [Bool.and_eq_false_iff, decide_eq_false_iff_not]; omega
    have HD : Hid ((decide ((1 : Int) ≤ (s.size : Int)) && decide ((s.size : Int) ≤ 10)) = false) := hd
    clear hd hin
    go_enter Tryd.func20, Tryd.ntmps20
    go_wp2_with fail
    refine (l1In_any _ _ _ _).mono ?_
    rintro e w1 ⟨rfl, rfl⟩
    rw [HD.out]
    go_wp2_with fail
    go_ret
    exact ⟨ret_int HR.out.symm, rfl⟩
end Go.Proofs.YtoanloballaclaaDoor
