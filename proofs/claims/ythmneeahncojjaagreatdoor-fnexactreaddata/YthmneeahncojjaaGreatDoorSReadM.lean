import Derived.Test.YthmneeahncojjaaGreatDoorSReadD
namespace Go.Proofs.YthmneeahncojjaaGreatDoor
open Go.RowKit

set_option maxRecDepth 20000 in
set_option maxHeartbeats 2000000 in
theorem readM15 (s : ByteArray) (w : World) (hs : s.size ≤ 600) :
    Calls Tryz.prog 7 #[.int .i64 15, .string s] w fun e w' => e = readVal (readR 15 s.data.toList) ∧ Below w.heap.size w w' := by
  have hbl : s.data.toList.length ≤ 600 := by rw [data_len]; exact hs
  have hc0 : candP 15 s.data.toList = if 2 < s.data.toList.length then numL (rdN (s.data.toList.take 2)) ++ (32 :: nameP (s.data.toList.drop 2)) else [] := by unfold candP; rw [if_neg (by omega), if_neg (by omega), if_neg (by omega), if_pos rfl]
  by_cases h2 : 2 < s.size
  · have hc1 : candP 15 s.data.toList = numL (rdN (s.data.toList.take 2)) ++ (32 :: nameP (s.data.toList.drop 2)) := by rw [hc0]; exact if_pos (by rw [data_len]; exact h2)
    obtain ⟨p, hp⟩ : ∃ p, p = s.data.toList.take 2 := ⟨_, rfl⟩
    obtain ⟨r, hr⟩ : ∃ r, r = s.data.toList.drop 2 := ⟨_, rfl⟩
    have hpl : p.length ≤ 2 := by rw [hp, List.length_take]; omega
    have hrl : r.length ≤ 600 := by rw [hr, List.length_drop]; omega
    have HP : Hid (s.extract 0 2 = ⟨p.toArray⟩) := data_eq (by rw [Lib.extract_data, hp]; simp)
    have HRR : Hid (s.extract 2 s.size = ⟨r.toArray⟩) := data_eq (by rw [Lib.extract_data, hr, List.take_of_length_le (by rw [List.length_drop, data_len]; omega)])
    rw [← hp, ← hr] at hc1
    have hn4 : rdN p < 4294967296 := by
      have h1 := rdN_lt p p.length (Nat.le_refl _)
      rw [List.take_length] at h1
      have h3 : 256 ^ p.length ≤ 256 ^ 2 := Nat.pow_le_pow_right (by omega) hpl
      omega
    have hql0 := numL_length 10 (rdN p) (by omega)
    have hml0 := nameP_length r
    have HL30 : ∀ W, Calls Tryz.prog 29 #[.string ⟨p.toArray⟩] W fun e w' => e = .returned (.int .i64 ((rdN p : Nat) : Int)) ∧ Below W.heap.size W w' := fun W => (l3Read_any ⟨p.toArray⟩ W (by rw [size_list]; omega)).mono fun e w' h => ⟨h.1, by rw [h.2]; exact Below.refl _ _⟩
    have HNM0 : ∀ W, Calls Tryz.prog 28 #[.string ⟨r.toArray⟩] W fun e w' => e = .returned (.string ⟨(nameP r).toArray⟩) ∧ Below W.heap.size W w' := fun W => l3Name_any ⟨r.toArray⟩ W (by rw [size_list]; omega)
    obtain ⟨n, hn⟩ : ∃ n, n = rdN p := ⟨_, rfl⟩
    rw [← hn] at hc1 hn4 hql0 HL30
    have HNU0 : ∀ W, Calls Tryz.prog 27 #[.int .i64 (n : Int)] W fun e w' => e = .returned (.string ⟨(numL n).toArray⟩) ∧ Below W.heap.size W w' := fun W => l1Num_any n n W (Nat.le_refl _) (by omega)
    obtain ⟨q, hq⟩ : ∃ q, q = numL n := ⟨_, rfl⟩
    obtain ⟨m, hm⟩ : ∃ m, m = nameP r := ⟨_, rfl⟩
    rw [← hq, ← hm] at hc1
    rw [← hq] at hql0 HNU0
    rw [← hm] at hml0 HNM0
    have HL3 : Hid (∀ W, Calls Tryz.prog 29 #[.string ⟨p.toArray⟩] W fun e w' => e = .returned (.int .i64 (n : Int)) ∧ Below W.heap.size W w') := HL30
    have HNU : Hid (∀ W, Calls Tryz.prog 27 #[.int .i64 (n : Int)] W fun e w' => e = .returned (.string ⟨q.toArray⟩) ∧ Below W.heap.size W w') := HNU0
    have HNM : Hid (∀ W, Calls Tryz.prog 28 #[.string ⟨r.toArray⟩] W fun e w' => e = .returned (.string ⟨m.toArray⟩) ∧ Below W.heap.size W w') := HNM0
    obtain ⟨z, hz⟩ : ∃ z, z = q ++ (32 :: m) := ⟨_, rfl⟩
    have hc : candP 15 s.data.toList = z := by rw [hc1, hz]
    have HYES : Hid (dataP 15 z = some s.data.toList → readR 15 s.data.toList = some z) := fun h => read_yes hbl hc h
    have HNO : Hid (dataP 15 z ≠ some s.data.toList → readR 15 s.data.toList = none) := fun h => read_no hc h
    have hzs : (⟨z.toArray⟩ : ByteArray).size ≤ 1048576 := by rw [size_list, hz, List.length_append, List.length_cons]; omega
    have HZ : Hid ((⟨q.toArray⟩ : ByteArray) ++ ⟨#[32]⟩ ++ ⟨m.toArray⟩ = ⟨z.toArray⟩) := data_eq (by rw [hz]; simp)
    clear hc hc0 hc1 hz hbl hp hr hn hq hm HL30 HNU0 HNM0
    go_enter Tryz.func7, Tryz.ntmps7
    go_wp2_with fail
    refine wp_region_quiet (C := fun W => Below w.heap.size w W) (by kernel_rfl) (by kernel_rfl) ((Below.refl _ _).drew) ?_
    refine wpQuiet_step (fun K hK => ?_)
    rw [if_pos (by rfl)]
    refine ⟨.string s, fun W hW => quiet_ok ?_, hK _ ?_⟩
    · go_simp
      all_goals (try omega)
    clear hK K
    simp only [Act.put, List.setIfInBounds_toArray, List.set_cons_succ, List.set_cons_zero]
    refine wpQuiet_step (fun K hK => ?_)
    rw [if_pos (by rfl)]
    refine ⟨.string ⟨p.toArray⟩, fun W hW => quiet_ok ?_, hK _ ?_⟩
    · rw [← HP.out]
      go_simp
      all_goals (try omega)
    clear hK K
    simp only [Act.put, List.setIfInBounds_toArray, List.set_cons_succ, List.set_cons_zero]
    refine wpQuiet_step (fun K hK => ?_)
    rw [if_pos (by rfl)]
    refine ⟨.int .i64 (n : Int), fun W hW => quiet_call (f := 29) (args := #[.string ⟨p.toArray⟩]) ?_ ?_, hK _ ?_⟩
    · go_simp
    · exact (HL3.out W).mono fun e w'' h => ⟨h.1, hW.trans (h.2.mono hW.size)⟩
    clear hK K
    simp only [Act.put, List.setIfInBounds_toArray, List.set_cons_succ, List.set_cons_zero]
    refine wpQuiet_step (fun K hK => ?_)
    rw [if_pos (by rfl)]
    refine ⟨.string ⟨q.toArray⟩, fun W hW => quiet_call (f := 27) (args := #[.int .i64 (n : Int)]) ?_ ?_, hK _ ?_⟩
    · go_simp
    · exact (HNU.out W).mono fun e w'' h => ⟨h.1, hW.trans (h.2.mono hW.size)⟩
    clear hK K
    simp only [Act.put, List.setIfInBounds_toArray, List.set_cons_succ, List.set_cons_zero]
    refine wpQuiet_step (fun K hK => ?_)
    rw [if_pos (by rfl)]
    refine ⟨.string (⟨q.toArray⟩ ++ ⟨#[32]⟩), fun W hW => quiet_ok ?_, hK _ ?_⟩
    · go_simp
      all_goals (try omega)
    clear hK K
    simp only [Act.put, List.setIfInBounds_toArray, List.set_cons_succ, List.set_cons_zero]
    refine wpQuiet_step (fun K hK => ?_)
    rw [if_pos (by rfl)]
    refine ⟨.string s, fun W hW => quiet_ok ?_, hK _ ?_⟩
    · go_simp
      all_goals (try omega)
    clear hK K
    simp only [Act.put, List.setIfInBounds_toArray, List.set_cons_succ, List.set_cons_zero]
    refine wpQuiet_step (fun K hK => ?_)
    rw [if_pos (by rfl)]
    refine ⟨.string ⟨r.toArray⟩, fun W hW => quiet_ok ?_, hK _ ?_⟩
    · rw [← HRR.out]
      go_simp
      all_goals (try omega)
    clear hK K
    simp only [Act.put, List.setIfInBounds_toArray, List.set_cons_succ, List.set_cons_zero]
    refine wpQuiet_step (fun K hK => ?_)
    rw [if_pos (by rfl)]
    refine ⟨.string ⟨m.toArray⟩, fun W hW => quiet_call (f := 28) (args := #[.string ⟨r.toArray⟩]) ?_ ?_, hK _ ?_⟩
    · go_simp
    · exact (HNM.out W).mono fun e w'' h => ⟨h.1, hW.trans (h.2.mono hW.size)⟩
    clear hK K
    simp only [Act.put, List.setIfInBounds_toArray, List.set_cons_succ, List.set_cons_zero]
    refine wpQuiet_step (fun K hK => ?_)
    rw [if_pos (by rfl)]
    refine ⟨.string (⟨q.toArray⟩ ++ ⟨#[32]⟩ ++ ⟨m.toArray⟩), fun W hW => quiet_ok ?_, hK _ ?_⟩
    · go_simp
      all_goals (try omega)
    clear hK K
    simp only [Act.put, List.setIfInBounds_toArray, List.set_cons_succ, List.set_cons_zero]
    refine wpQuiet_step (fun K hK => ?_)
    rw [if_pos (by rfl)]
    refine ⟨.string (⟨q.toArray⟩ ++ ⟨#[32]⟩ ++ ⟨m.toArray⟩), fun W hW => quiet_ok ?_, hK _ ?_⟩
    · go_simp
      all_goals (try omega)
    clear hK K
    simp only [Act.put, List.setIfInBounds_toArray, List.set_cons_succ, List.set_cons_zero]
    refine wpQuiet_nil ?_
    intro W hb
    rw [HZ.out]
    go_wp2_with fail
    refine (l3Bytes_any 15 ⟨z.toArray⟩ _ hzs).mono ?_
    rintro e w9 ⟨⟨x, rfl, hx⟩, hb9⟩
    rw [show (⟨z.toArray⟩ : ByteArray).data.toList = z from rfl] at hx ⊢
    have hbq := hb.trans (hb9.mono hb.size)
    cases hD : dataP 15 z with
    | none =>
      have HR : Hid (readR 15 s.data.toList = none) := HNO.out (by rw [hD]; simp)
      clear hD hx
      go_wp2_with fail
      go_ret2
      exact ⟨put_noneR HR.out, hbq⟩
    | some y =>
      obtain rfl := hx y hD
      by_cases hyb : y = s.data.toList
      · have HR : Hid (readR 15 s.data.toList = some z) := HYES.out (by rw [hD, hyb])
        rw [show (⟨y.toArray⟩ : ByteArray) = s from data_eq hyb]
        have e9 : (s.toList != s.toList) = false := by simp
        clear hD hx hyb
        go_wp2_with fail
        go_ret2
        exact ⟨put_someR HR.out rfl, hbq⟩
      · have HR : Hid (readR 15 s.data.toList = none) := HNO.out (by rw [hD]; exact fun h => hyb (Option.some.inj h))
        have e5 : (y == s.toList) = false := by rw [ByteArray.toList_eq]; simpa using hyb
        clear hD hx hyb
        go_wp2_with fail
        go_ret2
        exact ⟨put_noneR HR.out, hbq⟩
  · have hc : candP 15 s.data.toList = [] := by rw [hc0]; exact if_neg (by rw [data_len]; exact h2)
    have HR : Hid (readR 15 s.data.toList = none) := read_no hc (by rw [show dataP 15 [] = none from rfl]; simp)
    have g2 : (s.size : Int) ≤ 2 := by omega
    clear hc hc0 hbl h2
    go_enter Tryz.func7, Tryz.ntmps7
    go_wp2_with fail
    refine (l3Bytes_any 15 ⟨#[]⟩ _ (by decide)).mono ?_
    rintro e w9 ⟨⟨x, rfl, _⟩, hb9⟩
    rw [show dataP 15 (⟨#[]⟩ : ByteArray).data.toList = none from rfl]
    go_wp2_with fail
    go_ret2
    exact ⟨put_noneR HR.out, hb9⟩

theorem sReadData_any (k : Int) (s : ByteArray) (w : World) :
    Calls Tryz.prog 7 #[.int .i64 k, .string s] w fun e w' => e = readVal (readR k s.data.toList) ∧ Below w.heap.size w w' := by
  by_cases hs : s.size ≤ 600
  · by_cases h1 : k = 1
    · subst h1; exact readA1 s w hs
    · by_cases h2 : k = 2
      · subst h2; exact readN2 s w hs
      · by_cases h5 : k = 5
        · subst h5; exact readN5 s w hs
        · by_cases h6 : k = 6
          · subst h6; exact readS6 s w hs
          · by_cases h15 : k = 15
            · subst h15; exact readM15 s w hs
            · by_cases h16 : k = 16
              · subst h16; exact readT16 s w hs
              · exact readO k s w hs (by simpa using h1) (by simpa using h2) (by simpa using h5) (by simpa using h6) (by simpa using h15) (by simpa using h16)
  · exact readBig k s w (by omega)
end Go.Proofs.YthmneeahncojjaaGreatDoor
