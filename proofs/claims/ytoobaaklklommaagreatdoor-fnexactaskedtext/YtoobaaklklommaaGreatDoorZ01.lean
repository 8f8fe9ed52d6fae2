import Derived.Test.YtoobaaklklommaaGreatDoorProg
import Derived.WalkKit
import Derived.WalkSpells
import Derived.WalkLawsBesides
import Derived.Handy
namespace Go.Proofs.YtoobaaklklommaaGreatDoor
open Go.RowKit

theorem ret_int {k : IntKind} {a b : Int} (h : a = b) : Ending.returned (.int k a) = .returned (.int k b) := by rw [h]

/-- What kindOfByte tells. -/
def kindOf (c : Int) : Int := if c = 45 then 1 else if 48 ≤ c ∧ c ≤ 57 then 1 else if 65 ≤ c ∧ c ≤ 90 then 2 else if c = 95 then 1 else if 97 ≤ c ∧ c ≤ 122 then 1 else 0

/-- The table's cells. -/
def tab : List Value := [.int .u8 45, .int .u8 45, .int .i64 1, .int .u8 48, .int .u8 57, .int .i64 1, .int .u8 65, .int .u8 90, .int .i64 2, .int .u8 95, .int .u8 95, .int .i64 1, .int .u8 97, .int .u8 122, .int .i64 1]
def TabIn (w : World) : Prop := ∀ i, i < 15 → w.cell? ⟨12, i, none⟩ = tab[i]?

theorem ix0 (w : World) : Sem.run Tryz.prog (Instr.index 309 (.agg #[.int .u8 45, .int .u8 45, .int .i64 1, .int .u8 48, .int .u8 57, .int .i64 1, .int .u8 65, .int .u8 90, .int .i64 2, .int .u8 95, .int .u8 95, .int .i64 1, .int .u8 97, .int .u8 122, .int .i64 1]) (.int .i64 0)) w = .ok (.agg #[.int .u8 45, .int .u8 45, .int .i64 1]) w := by kernel_rfl
theorem ix1 (w : World) : Sem.run Tryz.prog (Instr.index 309 (.agg #[.int .u8 45, .int .u8 45, .int .i64 1, .int .u8 48, .int .u8 57, .int .i64 1, .int .u8 65, .int .u8 90, .int .i64 2, .int .u8 95, .int .u8 95, .int .i64 1, .int .u8 97, .int .u8 122, .int .i64 1]) (.int .i64 1)) w = .ok (.agg #[.int .u8 48, .int .u8 57, .int .i64 1]) w := by kernel_rfl
theorem ix2 (w : World) : Sem.run Tryz.prog (Instr.index 309 (.agg #[.int .u8 45, .int .u8 45, .int .i64 1, .int .u8 48, .int .u8 57, .int .i64 1, .int .u8 65, .int .u8 90, .int .i64 2, .int .u8 95, .int .u8 95, .int .i64 1, .int .u8 97, .int .u8 122, .int .i64 1]) (.int .i64 2)) w = .ok (.agg #[.int .u8 65, .int .u8 90, .int .i64 2]) w := by kernel_rfl
theorem ix3 (w : World) : Sem.run Tryz.prog (Instr.index 309 (.agg #[.int .u8 45, .int .u8 45, .int .i64 1, .int .u8 48, .int .u8 57, .int .i64 1, .int .u8 65, .int .u8 90, .int .i64 2, .int .u8 95, .int .u8 95, .int .i64 1, .int .u8 97, .int .u8 122, .int .i64 1]) (.int .i64 3)) w = .ok (.agg #[.int .u8 95, .int .u8 95, .int .i64 1]) w := by kernel_rfl
theorem ix4 (w : World) : Sem.run Tryz.prog (Instr.index 309 (.agg #[.int .u8 45, .int .u8 45, .int .i64 1, .int .u8 48, .int .u8 57, .int .i64 1, .int .u8 65, .int .u8 90, .int .i64 2, .int .u8 95, .int .u8 95, .int .i64 1, .int .u8 97, .int .u8 122, .int .i64 1]) (.int .i64 4)) w = .ok (.agg #[.int .u8 97, .int .u8 122, .int .i64 1]) w := by kernel_rfl
set_option maxRecDepth 20000 in
set_option maxHeartbeats 400000 in
theorem kind_any (c : Int) (w : World) (h0 : 0 ≤ c) (h1 : c ≤ 255) (hT : TabIn w) :
    Calls Tryz.prog 271 #[.int .u8 c] w fun e w' => e = .returned (.int .i64 (kindOf c)) ∧ Below w.heap.size w w' := by
  have t0 : w.cell? ⟨12, 0, none⟩ = some (.int .u8 45) := hT 0 (by decide)
  have t1 : w.cell? ⟨12, 1, none⟩ = some (.int .u8 45) := hT 1 (by decide)
  have t2 : w.cell? ⟨12, 2, none⟩ = some (.int .i64 1) := hT 2 (by decide)
  have t3 : w.cell? ⟨12, 3, none⟩ = some (.int .u8 48) := hT 3 (by decide)
  have t4 : w.cell? ⟨12, 4, none⟩ = some (.int .u8 57) := hT 4 (by decide)
  have t5 : w.cell? ⟨12, 5, none⟩ = some (.int .i64 1) := hT 5 (by decide)
  have t6 : w.cell? ⟨12, 6, none⟩ = some (.int .u8 65) := hT 6 (by decide)
  have t7 : w.cell? ⟨12, 7, none⟩ = some (.int .u8 90) := hT 7 (by decide)
  have t8 : w.cell? ⟨12, 8, none⟩ = some (.int .i64 2) := hT 8 (by decide)
  have t9 : w.cell? ⟨12, 9, none⟩ = some (.int .u8 95) := hT 9 (by decide)
  have t10 : w.cell? ⟨12, 10, none⟩ = some (.int .u8 95) := hT 10 (by decide)
  have t11 : w.cell? ⟨12, 11, none⟩ = some (.int .i64 1) := hT 11 (by decide)
  have t12 : w.cell? ⟨12, 12, none⟩ = some (.int .u8 97) := hT 12 (by decide)
  have t13 : w.cell? ⟨12, 13, none⟩ = some (.int .u8 122) := hT 13 (by decide)
  have t14 : w.cell? ⟨12, 14, none⟩ = some (.int .i64 1) := hT 14 (by decide)
  clear hT
  have x0 := ix0
  have x1 := ix1
  have x2 := ix2
  have x3 := ix3
  have x4 := ix4
  go_enter Tryz.func271, Tryz.ntmps271
  go_wp2
  go_rounds 6
  all_goals go_ret
  all_goals refine ⟨ret_int ?_, by go_grown⟩
  all_goals clear x0 x1 x2 x3 x4 t0 t1 t2 t3 t4 t5 t6 t7 t8 t9 t10 t11 t12 t13 t14
  all_goals (unfold kindOf; (repeat' split) <;> omega)
end Go.Proofs.YtoobaaklklommaaGreatDoor

namespace Go.Proofs.YtoobaaklklommaaGreatDoor
open Go.RowKit

theorem ret_bool {a b : Bool} (h : a = b) : Ending.returned (.bool a) = .returned (.bool b) := by rw [h]

/-- A byte that a label may hold. -/
def okC (c : UInt8) : Bool := decide (kindOf (c.toNat : Int) = 1)
/-- A label. -/
def labelB (l : List UInt8) : Bool := l == [42] || (decide (1 ≤ l.length) && (decide (l.length ≤ 20) && l.all okC))

theorem TabIn.below {w w' : World} (hT : TabIn w) (hb : Below w.heap.size w w') : TabIn w' := fun i hi => by
  have h0 : w.cell? ⟨12, 0, none⟩ = some (.int .u8 45) := hT 0 (by decide)
  have hlt := World.block_lt_of_cell? _ _ h0
  rw [hb.cell (p := ⟨12, i, none⟩) hlt]; exact hT i hi

theorem take_snoc (s : ByteArray) (k : Nat) (h : k < s.size) : s.data.toList.take (k + 1) = s.data.toList.take k ++ [s[k]] := by
  rw [List.take_succ_eq_append_getElem (by simpa using h)]; rfl

theorem data_eq {s : ByteArray} {l : List UInt8} (h : s.data.toList = l) : s = ⟨l.toArray⟩ := by
  cases s; simp at h; simp [← h]

theorem all_full {s : ByteArray} {k : Nat} (h : (s.data.toList.take k).all okC = true) (hk : ¬ k < s.size) : s.data.toList.all okC = true := by
  rw [List.take_of_length_le (by simp; omega)] at h; exact h

theorem all_step {s : ByteArray} {k : Nat} (h : (s.data.toList.take k).all okC = true) (hk : k < s.size) (ho : okC s[k] = true) : (s.data.toList.take (k + 1)).all okC = true := by
  rw [take_snoc s k hk]; simp [h, ho]

theorem all_not {s : ByteArray} {k : Nat} (hk : k < s.size) (ho : okC s[k] = false) : s.data.toList.all okC = false := by
  rw [Bool.eq_false_iff]; intro h
  rw [List.all_eq_true] at h
  have := h s[k] (by have : s[k] = s.data.toList[k]'(by simpa using hk) := rfl; rw [this]; exact List.getElem_mem _)
  rw [ho] at this; cases this

theorem label_star {s : ByteArray} (h : ¬ s = ⟨#[42]⟩) : (s.data.toList == [42]) = false := by
  rw [Bool.eq_false_iff]; intro e; exact h (data_eq (by simpa using e))
theorem label_false1 {s : ByteArray} (h : ¬ s = ⟨#[42]⟩) (h2 : s.size < 1) : labelB s.data.toList = false := by
  unfold labelB; rw [label_star h]; simp; omega
theorem label_false2 {s : ByteArray} (h : ¬ s = ⟨#[42]⟩) (h2 : 20 < s.size) : labelB s.data.toList = false := by
  unfold labelB; rw [label_star h]; simp; omega
theorem label_false3 {s : ByteArray} (h : ¬ s = ⟨#[42]⟩) (h2 : s.data.toList.all okC = false) : labelB s.data.toList = false := by
  unfold labelB; rw [label_star h, h2]; simp
theorem label_true {s : ByteArray} (h1 : 1 ≤ s.size) (h2 : s.size ≤ 20) (h3 : s.data.toList.all okC = true) : labelB s.data.toList = true := by
  unfold labelB; rw [h3]; simp; omega

set_option maxRecDepth 20000 in
set_option maxHeartbeats 400000 in
theorem isLabel_any (s : ByteArray) (w : World) (hs : s.size ≤ maxLen) (hT : TabIn w) :
    Calls Tryz.prog 256 #[.string s] w fun e w' => e = .returned (.bool (labelB s.data.toList)) ∧ Below w.heap.size w w' := by
  unfold maxLen at hs
  by_cases h1 : s = ⟨#[42]⟩
  · subst h1
    go_enter Tryz.func256, Tryz.ntmps256
    go_wp2
    go_ret
    exact ⟨rfl, Below.refl _ _⟩
  · have e1 : (s.toList == [42]) = false := by
      rw [Bool.eq_false_iff]; intro h; exact h1 (data_eq (by rw [← ByteArray.toList_eq]; simpa using h))
    have H1 : Hid (¬ s = ⟨#[42]⟩) := h1
    clear h1
    by_cases h2 : s.size < 1
    · go_enter Tryz.func256, Tryz.ntmps256
      go_wp2
      go_ret
      exact ⟨ret_bool (by rw [label_false1 H1.out h2]), Below.refl _ _⟩
    · by_cases h3 : 20 < s.size
      · go_enter Tryz.func256, Tryz.ntmps256
        go_wp2
        go_ret
        exact ⟨ret_bool (by rw [label_false2 H1.out h3]), Below.refl _ _⟩
      · have d2 : decide ((s.size : Int) < 1) = false := by simp; omega
        have d3 : decide ((20 : Int) < (s.size : Int)) = false := by simp; omega
        go_enter Tryz.func256, Tryz.ntmps256
        go_wp2_with fail
        go_loopw [3] (fun i wr => ∃ k : Nat, k ≤ s.size ∧ i = .int .i64 k ∧ (s.data.toList.take k).all okC = true ∧ Below w.heap.size w wr) (fun i _ => s.size - (intOf i).toNat)
        case atStart => exact ⟨0, Nat.zero_le _, rfl, rfl, Below.refl _ _⟩
        case round =>
          obtain ⟨k, hk, rfl, hall, hb⟩ := hrel
          have hTr := hT.below hb
          have HA : Hid ((s.data.toList.take k).all okC = true) := hall
          clear hall
          by_cases hlt : k < s.size
          · have hbd : (s[k].toNat : Int) ≤ 255 := by have := s[k].toNat_lt; omega
            by_cases ho : (kindOf (s[k].toNat : Int) != 1) = false
            · go_wp2_with fail
              refine (kind_any _ _ (by omega) hbd hTr).mono ?_
              rintro e w1 ⟨rfl, hb1⟩
              go_wp2_with fail
              go_roundw
              case rel => exact ⟨k + 1, by omega, by go_num, all_step HA.out hlt (by unfold okC; simpa using ho), hb.trans (hb1.mono hb.size)⟩
              case measure => simp [intOf]; omega
            · have ho' : (kindOf (s[k].toNat : Int) != 1) = true := by simpa using ho
              clear ho
              go_wp2_with fail
              refine (kind_any _ _ (by omega) hbd hTr).mono ?_
              rintro e w1 ⟨rfl, hb1⟩
              go_wp2_with fail
              go_ret
              exact ⟨ret_bool (by rw [label_false3 H1.out (all_not hlt (by unfold okC; simpa using ho'))]), hb.trans (hb1.mono hb.size)⟩
          · go_wp2_with fail
            go_ret
            exact ⟨ret_bool (by rw [label_true (by omega) (by omega) (all_full HA.out hlt)]), hb⟩
end Go.Proofs.YtoobaaklklommaaGreatDoor

namespace Go.Proofs.YtoobaaklklommaaGreatDoor
open Go.RowKit

theorem okC_true {c : UInt8} (h : okC c = true) : (97 ≤ (c.toNat : Int) ∧ (c.toNat : Int) ≤ 122) ∨ (48 ≤ (c.toNat : Int) ∧ (c.toNat : Int) ≤ 57) ∨ (45 ≤ (c.toNat : Int) ∧ (c.toNat : Int) ≤ 45) ∨ (95 ≤ (c.toNat : Int) ∧ (c.toNat : Int) ≤ 95) := by
  unfold okC kindOf at h
  simp only [decide_eq_true_eq] at h
  revert h
  (repeat' split) <;> intro h <;> omega
theorem okC_false {c : UInt8} (h : okC c = false) : (c.toNat : Int) ≤ 44 ∨ (46 ≤ (c.toNat : Int) ∧ (c.toNat : Int) ≤ 47) ∨ (58 ≤ (c.toNat : Int) ∧ (c.toNat : Int) ≤ 94) ∨ (96 ≤ (c.toNat : Int) ∧ (c.toNat : Int) ≤ 96) ∨ 123 ≤ (c.toNat : Int) := by
  unfold okC kindOf at h
  simp only [decide_eq_false_iff_not] at h
  revert h
  (repeat' split) <;> intro h <;> omega

set_option maxRecDepth 20000 in
set_option maxHeartbeats 400000 in
theorem l1In_any (n lo hi : Int) (w : World) : Calls Tryz.prog 42 #[.int .i64 n, .int .i64 lo, .int .i64 hi] w fun e w' => e = .returned (.bool (decide (lo ≤ n) && decide (n ≤ hi))) ∧ w' = w := by
  by_cases h1 : lo ≤ n
  · go_enter Tryz.func42, Tryz.ntmps42
    go_wp2
    go_ret
    exact ⟨ret_bool (by simp [h1]), rfl⟩
  · go_enter Tryz.func42, Tryz.ntmps42
    go_wp2
    go_ret
    exact ⟨ret_bool (by simp; omega), rfl⟩

theorem label_in {s : ByteArray} (h : ¬ s = ⟨#[42]⟩) (h3 : s.data.toList.all okC = true) : labelB s.data.toList = (decide ((1 : Int) ≤ (s.size : Int)) && decide ((s.size : Int) ≤ 20)) := by
  unfold labelB; rw [label_star h, h3]
  have : s.data.toList.length = s.size := by simp
  rw [this, Bool.eq_iff_iff]; simp; omega

set_option maxRecDepth 20000 in
set_option maxHeartbeats 1000000 in
theorem l1Label_any (s : ByteArray) (w : World) (hs : s.size ≤ maxLen) :
    Calls Tryz.prog 183 #[.string s] w fun e w' => e = .returned (.bool (labelB s.data.toList)) ∧ w' = w := by
  unfold maxLen at hs
  by_cases h1 : s = ⟨#[42]⟩
  · subst h1
    go_enter Tryz.func183, Tryz.ntmps183
    go_wp2
    go_ret
    exact ⟨rfl, rfl⟩
  · have e1 : (s.toList == [42]) = false := by
      rw [Bool.eq_false_iff]; intro h; exact h1 (data_eq (by rw [← ByteArray.toList_eq]; simpa using h))
    have H1 : Hid (¬ s = ⟨#[42]⟩) := h1
    clear h1
    go_enter Tryz.func183, Tryz.ntmps183
    go_wp2_with fail
    go_loop [3] (fun i => ∃ k : Nat, k ≤ s.size ∧ i = .int .i64 k ∧ (s.data.toList.take k).all okC = true) (fun i => s.size - (intOf i).toNat)
    case atStart => exact ⟨0, Nat.zero_le _, rfl, rfl⟩
    case round =>
      obtain ⟨k, hk, rfl, hall⟩ := hrel
      have HA : Hid ((s.data.toList.take k).all okC = true) := hall
      clear hall
      by_cases hlt : k < s.size
      · cases ho : okC s[k] with
        | true =>
          have HO : Hid (okC s[k] = true) := ho
          have hcase := okC_true ho
          clear ho
          rcases hcase with ⟨a1, a2⟩ | ⟨a1, a2⟩ | ⟨a1, a2⟩ | ⟨a1, a2⟩
          all_goals
            try have q1 : decide ((97 : Int) ≤ (s[k].toNat : Int)) = true := by simp; omega
            try have q2 : decide ((97 : Int) ≤ (s[k].toNat : Int)) = false := by simp; omega
            try have q3 : decide ((s[k].toNat : Int) ≤ 122) = true := by simp; omega
            try have q4 : decide ((s[k].toNat : Int) ≤ 122) = false := by simp; omega
            try have q5 : decide ((48 : Int) ≤ (s[k].toNat : Int)) = true := by simp; omega
            try have q6 : decide ((48 : Int) ≤ (s[k].toNat : Int)) = false := by simp; omega
            try have q7 : decide ((s[k].toNat : Int) ≤ 57) = true := by simp; omega
            try have q8 : decide ((s[k].toNat : Int) ≤ 57) = false := by simp; omega
            try have q9 : ((s[k].toNat : Int) == 45) = true := by simp; omega
            try have q10 : ((s[k].toNat : Int) == 45) = false := by simp; omega
            try have q11 : ((s[k].toNat : Int) == 95) = true := by simp; omega
            try have q12 : ((s[k].toNat : Int) == 95) = false := by simp; omega
            go_wp2_with fail
            go_round
            case rel => exact ⟨k + 1, by omega, by go_num, all_step HA.out hlt HO.out⟩
            case measure => simp [intOf]; omega
        | false =>
          have HO : Hid (okC s[k] = false) := ho
          have hcase := okC_false ho
          clear ho
          rcases hcase with a1 | ⟨a1, a2⟩ | ⟨a1, a2⟩ | ⟨a1, a2⟩ | a1
          all_goals
            try have q1 : decide ((97 : Int) ≤ (s[k].toNat : Int)) = true := by simp; omega
            try have q2 : decide ((97 : Int) ≤ (s[k].toNat : Int)) = false := by simp; omega
            try have q3 : decide ((s[k].toNat : Int) ≤ 122) = true := by simp; omega
            try have q4 : decide ((s[k].toNat : Int) ≤ 122) = false := by simp; omega
            try have q5 : decide ((48 : Int) ≤ (s[k].toNat : Int)) = true := by simp; omega
            try have q6 : decide ((48 : Int) ≤ (s[k].toNat : Int)) = false := by simp; omega
            try have q7 : decide ((s[k].toNat : Int) ≤ 57) = true := by simp; omega
            try have q8 : decide ((s[k].toNat : Int) ≤ 57) = false := by simp; omega
            try have q9 : ((s[k].toNat : Int) == 45) = true := by simp; omega
            try have q10 : ((s[k].toNat : Int) == 45) = false := by simp; omega
            try have q11 : ((s[k].toNat : Int) == 95) = true := by simp; omega
            try have q12 : ((s[k].toNat : Int) == 95) = false := by simp; omega
            go_wp2_with fail
            go_ret
            exact ⟨ret_bool (by rw [label_false3 H1.out (all_not hlt HO.out)]), rfl⟩
      · go_wp2_with fail
        refine (l1In_any _ _ _ _).mono ?_
        rintro e w1 ⟨rfl, rfl⟩
        go_wp2_with fail
        go_ret
        exact ⟨ret_bool (by rw [label_in H1.out (all_full HA.out hlt)]), rfl⟩
end Go.Proofs.YtoobaaklklommaaGreatDoor
