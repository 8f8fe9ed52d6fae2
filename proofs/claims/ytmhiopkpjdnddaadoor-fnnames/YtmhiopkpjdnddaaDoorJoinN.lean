import Derived.Test.YtmhiopkpjdnddaaDoorPlain
namespace Go.Proofs.YtmhiopkpjdnddaaDoor
open Go.RowKit

set_option maxRecDepth 20000 in
set_option maxHeartbeats 1000000 in
theorem l1Join_any (v : Value) (P : List (List UInt8)) (w : World) (hr : Row w v P) (hl : Hid ((joinD P).length ≤ 1048576)) :
    Calls Tryd.prog 46 #[v] w fun e w' => e = .returned (.string ⟨(joinD P).toArray⟩) ∧ w' = w := by
  obtain ⟨a, cap, rfl, hcap, hmax, HROW⟩ := row_value hr
  clear hr
  go_enter Tryd.func46, Tryd.ntmps46
  go_wp2_with fail
  go_loop [3, 8] (fun v i => ∃ k : Nat, k ≤ P.length ∧ i = .int .i64 k ∧ v = .string ⟨(joinD (P.take k)).toArray⟩) (fun _ i => P.length - (intOf i).toNat)
  case atStart => exact ⟨0, Nat.zero_le _, rfl, rfl⟩
  case round =>
    obtain ⟨k, hk, rfl, rfl⟩ := hrel
    have hjl : (joinD (P.take k)).length ≤ 1048576 := Nat.le_trans (joinD_take_le P k) hl.out
    by_cases hlt : k < P.length
    · obtain ⟨b, o, ha, hbl, hc⟩ := HROW.out (by omega)
      rw [ha]
      have hcx := hc k hlt
      have hxl := joinD_take_le P (k + 1)
      have hlo := hl.out
      obtain ⟨x, hx⟩ : ∃ x, x = P[k]'hlt := ⟨_, rfl⟩
      rw [← hx] at hcx
      unfold S at hcx
      clear hc
      by_cases h0 : k = 0
      · subst h0
        rw [Nat.add_zero] at hcx
        have hJ := joinD_one P hlt
        rw [← hx] at hJ
        rw [show 0 + 1 = 1 from rfl, hJ] at hxl
        have HJ : Hid (joinD (P.take 1) = x) := hJ
        obtain ⟨z, hz⟩ : ∃ z, z = joinD (P.take 0) := ⟨_, rfl⟩
        rw [← hz] at hjl ⊢
        have HZ : Hid (z = []) := by rw [hz]; exact (by simp [joinD] : joinD (P.take 0) = [])
        clear hJ hx hz
        go_wp2_with fail
        go_round
        case rel => exact ⟨1, by omega, by go_num, val_strJ (by rw [HJ.out, HZ.out]; simp)⟩
        case measure => simp [intOf]; omega
      · have hJ := joinD_step P k (by omega) hlt
        rw [← hx] at hJ
        rw [hJ] at hxl
        have HJ : Hid (joinD (P.take (k + 1)) = joinD (P.take k) ++ [46] ++ x) := hJ
        simp only [List.length_append, List.length_cons, List.length_nil] at hxl
        have hk0 : (0 : Int) < (k : Int) := by omega
        obtain ⟨z, hz⟩ : ∃ z, z = joinD (P.take k) := ⟨_, rfl⟩
        rw [← hz] at hxl hjl HJ ⊢
        clear hJ hx hz
        go_wp2_with fail
        go_round
        case rel => exact ⟨k + 1, by omega, by go_num, val_strJ (by rw [HJ.out]; simp)⟩
        case measure => simp [intOf]; omega
    · have hfull : Hid (P.take k = P) := List.take_of_length_le (by omega)
      go_wp2_with fail
      go_ret
      exact ⟨ret_S (by rw [hfull.out]), rfl⟩

set_option maxRecDepth 20000 in
set_option maxHeartbeats 1000000 in
theorem iNameOf_any (v : Value) (P : List (List UInt8)) (w : World) (hr : Row w v P) (hl : Hid (P.length + tot P ≤ 68719476736)) (hE : Env w) :
    Calls Tryd.prog 14 #[v] w fun e w' => e = .returned (.tuple #[.string ⟨(nameOfT P).toArray⟩, .bool (nameOfB P)]) ∧ Below w.heap.size w w' := by
  have HPL : Hid (∀ p ∈ P, p.length ≤ maxLen) := fun p hp => by have := tot_one hp; have := hl.out; unfold maxLen; omega
  have hT := hE.1
  cases hA : areB P with
  | false =>
    have HA : Hid (areB P = false) := hA
    have HN : Hid (nameOfB P = false) := by rw [nameOf_eq, hA]; exact rfl
    clear hA
    go_enter Tryd.func14, Tryd.ntmps14
    go_wp2_with fail
    refine (areLabels_any v P w hT hr HPL).mono ?_
    rintro e w1 ⟨rfl, hb1⟩
    rw [HA.out]
    go_wp2_with fail
    go_ret2
    exact ⟨ret_two (by unfold nameOfT; rw [HN.out]; rfl) (val_bool HN.out.symm), hb1⟩
  | true =>
    have HA : Hid (areB P = true) := hA
    have HJL : Hid ((joinD P).length ≤ 1048576) := Nat.le_trans (are_small hA) (by decide)
    have HN : Hid (nameOfB P = decide ((joinD P).length ≤ 60)) := by rw [nameOf_eq, hA, Bool.true_and]; exact rfl
    clear hA
    go_enter Tryd.func14, Tryd.ntmps14
    go_wp2_with fail
    refine (areLabels_any v P w hT hr HPL).mono ?_
    rintro e w1 ⟨rfl, hb1⟩
    rw [HA.out]
    have hr1 := hr.kept hb1
    go_wp2_with fail
    refine (joinLabels_any v P w1 hr1 HJL).mono ?_
    rintro e w2 ⟨rfl, hb2⟩
    have hbb := hb1.trans (hb2.mono hb1.size)
    have hjl := HJL.out
    obtain ⟨x, hx⟩ : ∃ x, x = joinD P := ⟨_, rfl⟩
    rw [← hx] at HN hjl ⊢
    have HX : Hid (x = joinD P) := hx
    clear hx hb1 hb2 hr hr1
    by_cases h60 : (60 : Int) < (x.length : Int)
    · have HNN : Hid (nameOfB P = false) := by rw [HN.out]; exact decide_eq_false (by omega)
      go_wp2_with fail
      go_ret2
      exact ⟨ret_two (by unfold nameOfT; rw [HNN.out]; rfl) (val_bool HNN.out.symm), hbb⟩
    · have HNN : Hid (nameOfB P = true) := by rw [HN.out]; exact decide_eq_true (by omega)
      go_wp2_with fail
      go_ret2
      exact ⟨ret_two (by unfold nameOfT; rw [HNN.out, HX.out]; rfl) (val_bool HNN.out.symm), hbb⟩
end Go.Proofs.YtmhiopkpjdnddaaDoor
