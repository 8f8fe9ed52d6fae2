import Derived.Test.YtoanloballaclaaDoorLabel
namespace Go.Proofs.YtoanloballaclaaDoor
open Go.RowKit

theorem okC_true {c : UInt8} (h : okC c = true) : (97 ≤ (c.toNat : Int) ∧ (c.toNat : Int) ≤ 122) ∨ (48 ≤ (c.toNat : Int) ∧ (c.toNat : Int) ≤ 57) ∨ (45 ≤ (c.toNat : Int) ∧ (c.toNat : Int) ≤ 45) ∨ (95 ≤ (c.toNat : Int) ∧ (c.toNat : Int) ≤ 95) := by
  unfold okC kindOf at h
  simp only [decide_eq_true_eq] at h
  revert h
  (repeat' split) <;> intro h <;> omega
theorem okC_false {c : UInt8} (h : okC c = false) : (c.toNat : Int) ≤ 44 ∨ (46 ≤ (c.toNat : Int) ∧ (c.toNat : Int) ≤ 47) ∨ (58 ≤ (c.toNat : Int) ∧ (c.toNat : Int) ≤ 94) ∨ (96 ≤ (c.toNat : Int) ∧ (c.toNat : Int) ≤ 96) ∨ 123 ≤ (c.toNat : Int) := by
  unfold okC kindOf at h
  simp only [decide_eq_false_iff_not] at h
  revert h
  (repeat' split) <;> intro h <;> omega

set_option maxRecDepth 20000 in
set_option maxHeartbeats 400000 in
theorem l1In_any (n lo hi : Int) (w : World) : Calls Tryd.prog 12 #[.int .i64 n, .int .i64 lo, .int .i64 hi] w fun e w' => e = .returned (.bool (decide (lo ≤ n) && decide (n ≤ hi))) ∧ w' = w := by
  by_cases h1 : lo ≤ n
  · go_enter Tryd.func12, Tryd.ntmps12
    go_wp2
    go_ret
    exact ⟨ret_bool (by simp [h1]), rfl⟩
  · go_enter Tryd.func12, Tryd.ntmps12
    go_wp2
    go_ret
    exact ⟨ret_bool (by simp; omega), rfl⟩

theorem label_in {s : ByteArray} (h : ¬ s = ⟨#[42]⟩) (h3 : s.data.toList.all okC = true) : labelB s.data.toList = (decide ((1 : Int) ≤ (s.size : Int)) && decide ((s.size : Int) ≤ 20)) := by
  unfold labelB; rw [label_star h, h3]
  have : s.data.toList.length = s.size := by simp
  rw [this, Bool.eq_iff_iff]; simp; omega

set_option maxRecDepth 20000 in
set_option maxHeartbeats 1000000 in
theorem l1Label_any (s : ByteArray) (w : World) (hs : s.size ≤ maxLen) :
    Calls Tryd.prog 29 #[.string s] w fun e w' => e = .returned (.bool (labelB s.data.toList)) ∧ w' = w := by
  unfold maxLen at hs
  by_cases h1 : s = ⟨#[42]⟩
  · subst h1
    go_enter Tryd.func29, Tryd.ntmps29
    go_wp2
    go_ret
    exact ⟨rfl, rfl⟩
  · have e1 : (s.toList == [42]) = false := by
      rw [Bool.eq_false_iff]; intro h; exact h1 (data_eq (by rw [← ByteArray.toList_eq]; simpa using h))
    have H1 : Hid (¬ s = ⟨#[42]⟩) := h1
    clear h1
    go_enter Tryd.func29, Tryd.ntmps29
    go_wp2_with fail
    go_loop [3] (fun i => ∃ k : Nat, k ≤ s.size ∧ i = .int .i64 k ∧ (s.data.toList.take k).all okC = true) (fun i => s.size - (intOf i).toNat)
    case atStart => exact ⟨0, Nat.zero_le _, rfl, rfl⟩
    case round =>
      obtain ⟨k, hk, rfl, hall⟩ := hrel
      have HA : Hid ((s.data.toList.take k).all okC = true) := hall
      clear hall
      by_cases hlt : k < s.size
      · cases ho : okC s[k] with
        | true =>
          have HO : Hid (okC s[k] = true) := ho
          have hcase := okC_true ho
          clear ho
          rcases hcase with ⟨a1, a2⟩ | ⟨a1, a2⟩ | ⟨a1, a2⟩ | ⟨a1, a2⟩
          all_goals
            try have q1 : decide ((97 : Int) ≤ (s[k].toNat : Int)) = true := by simp; omega
            try have q2 : decide ((97 : Int) ≤ (s[k].toNat : Int)) = false := by simp; omega
            try have q3 : decide ((s[k].toNat : Int) ≤ 122) = true := by simp; omega
            try have q4 : decide ((s[k].toNat : Int) ≤ 122) = false := by simp; omega
            try have q5 : decide ((48 : Int) ≤ (s[k].toNat : Int)) = true := by simp; omega
            try have q6 : decide ((48 : Int) ≤ (s[k].toNat : Int)) = false := by simp; omega
            try have q7 : decide ((s[k].toNat : Int) ≤ 57) = true := by simp; omega
            try have q8 : decide ((s[k].toNat : Int) ≤ 57) = false := by simp; omega
            try have q9 : ((s[k].toNat : Int) == 45) = true := by simp; omega
            try have q10 : ((s[k].toNat : Int) == 45) = false := by simp; omega
            try have q11 : ((s[k].toNat : Int) == 95) = true := by simp; omega
            try have q12 : ((s[k].toNat : Int) == 95) = false := by simp; omega
            go_wp2_with fail
            go_round
            case rel => exact ⟨k + 1, by omega, by go_num, all_step HA.out hlt HO.out⟩
            case measure => simp [intOf]; omega
        | false =>
          have HO : Hid (okC s[k] = false) := ho
          have hcase := okC_false ho
          clear ho
          rcases hcase with a1 | ⟨a1, a2⟩ | ⟨a1, a2⟩ | ⟨a1, a2⟩ | a1
          all_goals
            try have q1 : decide ((97 : Int) ≤ (s[k].toNat : Int)) = true := by simp; omega
            try have q2 : decide ((97 : Int) ≤ (s[k].toNat : Int)) = false := by simp; omega
            try have q3 : decide ((s[k].toNat : Int) ≤ 122) = true := by simp; omega
            try have q4 : decide ((s[k].toNat : Int) ≤ 122) = false := by simp; omega
            try have q5 : decide ((48 : Int) ≤ (s[k].toNat : Int)) = true := by simp; omega
            try have q6 : decide ((48 : Int) ≤ (s[k].toNat : Int)) = false := by simp; omega
            try have q7 : decide ((s[k].toNat : Int) ≤ 57) = true := by simp; omega
            try have q8 : decide ((s[k].toNat : Int) ≤ 57) = false := by simp; omega
            try have q9 : ((s[k].toNat : Int) == 45) = true := by simp; omega
            try have q10 : ((s[k].toNat : Int) == 45) = false := by simp; omega
            try have q11 : ((s[k].toNat : Int) == 95) = true := by simp; omega
            try have q12 : ((s[k].toNat : Int) == 95) = false := by simp; omega
            go_wp2_with fail
            go_ret
            exact ⟨ret_bool (by rw [label_false3 H1.out (all_not hlt HO.out)]), rfl⟩
      · go_wp2_with fail
        refine (l1In_any _ _ _ _).mono ?_
        rintro e w1 ⟨rfl, rfl⟩
        go_wp2_with fail
        go_ret
        exact ⟨ret_bool (by rw [label_in H1.out (all_full HA.out hlt)]), rfl⟩
end Go.Proofs.YtoanloballaclaaDoor
