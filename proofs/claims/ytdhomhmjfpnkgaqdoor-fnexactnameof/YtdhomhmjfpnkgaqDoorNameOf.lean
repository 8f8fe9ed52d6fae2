import Derived.Test.YtdhomhmjfpnkgaqDoorListT
import Derived.Test.YtdhomhmjfpnkgaqDoorCommonL
namespace Go.Proofs.YtdhomhmjfpnkgaqDoor
open Go.RowKit

theorem joinD_tot : ∀ P : List (List UInt8), (joinD P).length ≤ tot P + P.length
  | [] => by simp [joinD, tot]
  | p :: r => by
    have ih := joinD_tot r
    have e : tot (p :: r) = p.length + tot r := by simp [tot]
    unfold joinD
    split
    · rw [e]; simp; omega
    · rw [e]; simp; omega
theorem label_nodot {p : List UInt8} (h : labelB p = true) : 46 ∉ p := by
  intro hm
  unfold labelB at h
  rw [Bool.or_eq_true] at h
  rcases h with h | h
  · have : p = [42] := by simpa using h
    rw [this] at hm; revert hm; decide
  · simp only [Bool.and_eq_true, List.all_eq_true] at h
    have := h.2.2 46 hm
    revert this; decide

/-- What NameOf tells. -/
def nameOfB (P : List (List UInt8)) : Bool := P.all labelB && nameB (joinD P)
def nameOfT (P : List (List UInt8)) : List UInt8 := if nameOfB P = true then joinD P else []
theorem nameOf_eq {P : List (List UInt8)} : nameOfB P = (areB P && decide ((joinD P).length ≤ 60)) := by
  unfold nameOfB areB
  cases ha : P.all labelB with
  | false => simp
  | true =>
    have hp : Plain P := fun p hp => ⟨lab_ne (List.all_eq_true.1 ha p hp), label_nodot (List.all_eq_true.1 ha p hp)⟩
    have hl : labelsOf (joinD P) = P := by
      unfold labelsOf
      by_cases h0 : P = []
      · subst h0; simp [joinD]
      · rw [if_neg (plain_ne h0 hp), cut_joinD P h0 (fun p h => (hp p h).2)]
    unfold nameB; rw [hl, ha, Bool.true_and, Bool.true_and, Bool.and_true, Bool.and_comm]

theorem val_strJ {x : ByteArray} {l : List UInt8} (h : x.data.toList = l) : Value.string x = .string ⟨l.toArray⟩ := by rw [data_eq h]

set_option maxHeartbeats 1000000 in
theorem l1Join_any (v : Value) (P : List (List UInt8)) (w : World) (hr : Row w v P) (hl : Hid ((joinD P).length ≤ 1048576)) :
    Calls Tryd.prog 31 #[v] w fun e w' => e = .returned (.string ⟨(joinD P).toArray⟩) ∧ w' = w := by
  obtain ⟨a, cap, rfl, hcap, hmax, HROW⟩ := row_value hr
  clear hr
  go_enter Tryd.func31, Tryd.ntmps31
  go_wp2_with fail
  go_loop [3, 8] (fun v i => ∃ k : Nat, k ≤ P.length ∧ i = .int .i64 k ∧ v = .string ⟨(joinD (P.take k)).toArray⟩) (fun _ i => P.length - (intOf i).toNat)
  case atStart => exact ⟨0, Nat.zero_le _, rfl, rfl⟩
  case round =>
    obtain ⟨k, hk, rfl, rfl⟩ := hrel
    have hjl : (joinD (P.take k)).length ≤ 1048576 := Nat.le_trans (joinD_take_le P k) hl.out
    by_cases hlt : k < P.length
    · obtain ⟨b, o, ha, hbl, hc⟩ := HROW.out (by omega)
      rw [ha]
      have hcx := hc k hlt
      have hxl := joinD_take_le P (k + 1)
      have hlo := hl.out
      obtain ⟨x, hx⟩ : ∃ x, x = P[k]'hlt := ⟨_, rfl⟩
      rw [← hx] at hcx
      unfold S at hcx
      clear hc
      by_cases h0 : k = 0
      · subst h0
        rw [Nat.add_zero] at hcx
        have hJ := joinD_one P hlt
        rw [← hx] at hJ
        rw [show 0 + 1 = 1 from rfl, hJ] at hxl
        have HJ : Hid (joinD (P.take 1) = x) := hJ
        obtain ⟨z, hz⟩ : ∃ z, z = joinD (P.take 0) := ⟨_, rfl⟩
        rw [← hz] at hjl ⊢
        have HZ : Hid (z = []) := by rw [hz]; exact (by simp [joinD] : joinD (P.take 0) = [])
        clear hJ hx hz
        go_wp2_with fail
        go_round
        case rel => exact ⟨1, by omega, by go_num, val_strJ (by rw [HJ.out, HZ.out]; simp)⟩
        case measure => simp [intOf]; omega
      · have hJ := joinD_step P k (by omega) hlt
        rw [← hx] at hJ
        rw [hJ] at hxl
        have HJ : Hid (joinD (P.take (k + 1)) = joinD (P.take k) ++ [46] ++ x) := hJ
        simp only [List.length_append, List.length_cons, List.length_nil] at hxl
        have hk0 : (0 : Int) < (k : Int) := by omega
        obtain ⟨z, hz⟩ : ∃ z, z = joinD (P.take k) := ⟨_, rfl⟩
        rw [← hz] at hxl hjl HJ ⊢
        clear hJ hx hz
        go_wp2_with fail
        go_round
        case rel => exact ⟨k + 1, by omega, by go_num, val_strJ (by rw [HJ.out]; simp)⟩
        case measure => simp [intOf]; omega
    · have hfull : Hid (P.take k = P) := List.take_of_length_le (by omega)
      go_wp2_with fail
      go_ret
      exact ⟨ret_S (by rw [hfull.out]), rfl⟩

set_option maxHeartbeats 1000000 in
theorem sNameOf_any (v : Value) (P : List (List UInt8)) (w : World) (hr : Row w v P) (hl : Hid (P.length + tot P ≤ 1048576)) :
    Calls Tryd.prog 17 #[v] w fun e w' => e = .returned (.tuple #[.string ⟨(nameOfT P).toArray⟩, .bool (nameOfB P)]) ∧ Below w.heap.size w w' := by
  have hr0 := hr
  obtain ⟨a, cap, rfl, hcap, hmax, HROW⟩ := row_value hr
  have HJL : Hid ((joinD P).length ≤ 1048576) := by have := joinD_tot P; have := hl.out; exact (show (joinD P).length ≤ 1048576 by omega)
  have HR0 : Hid (Row w (.slice a P.length cap) P) := hr0
  clear hr hr0
  go_enter Tryd.func17, Tryd.ntmps17
  go_wp2_with fail
  go_loop [9] (fun i => ∃ k : Nat, k ≤ P.length ∧ i = .int .i64 k ∧ Hid ((P.take k).all labelB = true)) (fun i => P.length - (intOf i).toNat)
  case atStart => exact ⟨0, Nat.zero_le _, rfl, rfl⟩
  case round =>
    obtain ⟨k, hk, rfl, HA⟩ := hrel
    by_cases hlt : k < P.length
    · obtain ⟨b, o, ha, hbl, hc⟩ := HROW.out (by omega)
      rw [ha]
      have hcx := hc k hlt
      unfold S at hcx
      clear hc
      have hpl : (⟨(P[k]'hlt).toArray⟩ : ByteArray).size ≤ maxLen := by
        have h1 := tot_one (List.getElem_mem hlt)
        have h2 := hl.out
        rw [size_list]; unfold maxLen; omega
      cases ho : labelB (P[k]'hlt) with
      | true =>
        have HO : Hid (labelB (P[k]'hlt) = true) := ho
        clear ho
        go_wp2_with fail
        refine (l1Label_any _ _ hpl).mono ?_
        rintro e w2 ⟨rfl, rfl⟩
        rw [show (⟨(P[k]'hlt).toArray⟩ : ByteArray).data.toList = P[k]'hlt from rfl, HO.out]
        go_wp2_with fail
        go_round
        case rel => exact ⟨k + 1, by omega, by go_num, pieces_step HA.out hlt HO.out⟩
        case measure => simp [intOf]; omega
      | false =>
        have HO : Hid (labelB (P[k]'hlt) = false) := ho
        clear ho
        go_wp2_with fail
        refine (l1Label_any _ _ hpl).mono ?_
        rintro e w2 ⟨rfl, rfl⟩
        rw [show (⟨(P[k]'hlt).toArray⟩ : ByteArray).data.toList = P[k]'hlt from rfl, HO.out]
        go_wp2_with fail
        go_ret2
        have hN : nameOfB P = false := by unfold nameOfB; rw [pieces_not hlt HO.out]; rfl
        exact ⟨ret_two (by unfold nameOfT; rw [hN]; rfl) (val_bool hN.symm), Below.refl _ _⟩
    · have hall := pieces_full HA.out hlt
      have HN : Hid (nameOfB P = nameB (joinD P)) := by unfold nameOfB; rw [hall, Bool.true_and]; exact rfl
      have hjs : (⟨(joinD P).toArray⟩ : ByteArray).size ≤ 4294967280 := by rw [size_list]; have := HJL.out; omega
      clear hall
      go_wp2_with fail
      refine (l1Join_any _ P w HR0.out HJL).mono ?_
      rintro e w1 ⟨rfl, rfl⟩
      go_wp2_with fail
      refine (sGoodName_any _ _ hjs).mono ?_
      rintro e w2 ⟨rfl, hb2⟩
      rw [show (⟨(joinD P).toArray⟩ : ByteArray).data.toList = joinD P from rfl]
      cases hn : nameB (joinD P) with
      | false =>
        have HNN : Hid (nameOfB P = false) := by rw [HN.out]; exact hn
        clear hn
        go_wp2_with fail
        go_ret2
        exact ⟨ret_two (by unfold nameOfT; rw [HNN.out]; rfl) (val_bool HNN.out.symm), hb2⟩
      | true =>
        have HNN : Hid (nameOfB P = true) := by rw [HN.out]; exact hn
        clear hn
        go_wp2_with fail
        go_ret2
        exact ⟨ret_two (by unfold nameOfT; rw [HNN.out]; rfl) (val_bool HNN.out.symm), hb2⟩

set_option maxHeartbeats 1000000 in
theorem iNameOf_any (v : Value) (P : List (List UInt8)) (w : World) (hr : Row w v P) (hl : Hid (P.length + tot P ≤ 1048576)) (hE : Env w) :
    Calls Tryd.prog 19 #[v] w fun e w' => e = .returned (.tuple #[.string ⟨(nameOfT P).toArray⟩, .bool (nameOfB P)]) ∧ Below w.heap.size w w' := by
  have HJL : Hid ((joinD P).length ≤ 1048576) := by have := joinD_tot P; have := hl.out; exact (show (joinD P).length ≤ 1048576 by omega)
  have HPL : Hid (∀ p ∈ P, p.length ≤ maxLen) := fun p hp => by have := tot_one hp; have := hl.out; unfold maxLen; omega
  have hT := hE.1
  cases hA : areB P with
  | false =>
    have HA : Hid (areB P = false) := hA
    have HN : Hid (nameOfB P = false) := by rw [nameOf_eq, hA]; exact rfl
    clear hA
    go_enter Tryd.func19, Tryd.ntmps19
    go_wp2_with fail
    refine (areLabels_any v P w hT hr HPL).mono ?_
    rintro e w1 ⟨rfl, hb1⟩
    rw [HA.out]
    go_wp2_with fail
    go_ret2
    exact ⟨ret_two (by unfold nameOfT; rw [HN.out]; rfl) (val_bool HN.out.symm), hb1⟩
  | true =>
    have HA : Hid (areB P = true) := hA
    have HN : Hid (nameOfB P = decide ((joinD P).length ≤ 60)) := by rw [nameOf_eq, hA, Bool.true_and]; exact rfl
    clear hA
    go_enter Tryd.func19, Tryd.ntmps19
    go_wp2_with fail
    refine (areLabels_any v P w hT hr HPL).mono ?_
    rintro e w1 ⟨rfl, hb1⟩
    rw [HA.out]
    have hr1 := hr.kept hb1
    go_wp2_with fail
    refine (joinLabels_any v P w1 hr1 HJL).mono ?_
    rintro e w2 ⟨rfl, hb2⟩
    have hbb := hb1.trans (hb2.mono hb1.size)
    have hjl := HJL.out
    obtain ⟨x, hx⟩ : ∃ x, x = joinD P := ⟨_, rfl⟩
    rw [← hx] at HN hjl ⊢
    have HX : Hid (x = joinD P) := hx
    clear hx hb1 hb2 hr hr1
    by_cases h60 : (60 : Int) < (x.length : Int)
    · have HNN : Hid (nameOfB P = false) := by rw [HN.out]; exact decide_eq_false (by omega)
      go_wp2_with fail
      go_ret2
      exact ⟨ret_two (by unfold nameOfT; rw [HNN.out]; rfl) (val_bool HNN.out.symm), hbb⟩
    · have HNN : Hid (nameOfB P = true) := by rw [HN.out]; exact decide_eq_true (by omega)
      go_wp2_with fail
      go_ret2
      exact ⟨ret_two (by unfold nameOfT; rw [HNN.out, HX.out]; rfl) (val_bool HNN.out.symm), hbb⟩
end Go.Proofs.YtdhomhmjfpnkgaqDoor
