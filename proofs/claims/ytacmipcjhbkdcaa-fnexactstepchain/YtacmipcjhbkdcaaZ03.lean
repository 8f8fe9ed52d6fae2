import Derived.Test.YtacmipcjhbkdcaaProg
import Derived.WalkKit
import Derived.WalkSpells
import Derived.WalkLawsBesides
import Derived.Handy
namespace Go.Proofs.Ytacmipcjhbkdcaa
open Go.RowKit

theorem ret_int {k : IntKind} {a b : Int} (h : a = b) : Ending.returned (.int k a) = .returned (.int k b) := by rw [h]

/-- What kindOfByte tells. -/
def kindOf (c : Int) : Int := if c = 45 then 1 else if 48 ≤ c ∧ c ≤ 57 then 1 else if 65 ≤ c ∧ c ≤ 90 then 2 else if c = 95 then 1 else if 97 ≤ c ∧ c ≤ 122 then 1 else 0

/-- The table's cells. -/
def tab : List Value := [.int .u8 45, .int .u8 45, .int .i64 1, .int .u8 48, .int .u8 57, .int .i64 1, .int .u8 65, .int .u8 90, .int .i64 2, .int .u8 95, .int .u8 95, .int .i64 1, .int .u8 97, .int .u8 122, .int .i64 1]
end Go.Proofs.Ytacmipcjhbkdcaa

namespace Go.Proofs.Ytacmipcjhbkdcaa
open Go.RowKit

theorem ret_bool {a b : Bool} (h : a = b) : Ending.returned (.bool a) = .returned (.bool b) := by rw [h]

/-- A byte that a label may hold. -/
def okC (c : UInt8) : Bool := decide (kindOf (c.toNat : Int) = 1)
/-- A label. -/
def labelB (l : List UInt8) : Bool := l == [42] || (decide (1 ≤ l.length) && (decide (l.length ≤ 20) && l.all okC))

theorem take_snoc (s : ByteArray) (k : Nat) (h : k < s.size) : s.data.toList.take (k + 1) = s.data.toList.take k ++ [s[k]] := by
  rw [List.take_succ_eq_append_getElem (by simpa using h)]; rfl

theorem data_eq {s : ByteArray} {l : List UInt8} (h : s.data.toList = l) : s = ⟨l.toArray⟩ := by
  cases s; simp at h; simp [← h]

theorem all_full {s : ByteArray} {k : Nat} (h : (s.data.toList.take k).all okC = true) (hk : ¬ k < s.size) : s.data.toList.all okC = true := by
  rw [List.take_of_length_le (by simp; omega)] at h; exact h

theorem all_step {s : ByteArray} {k : Nat} (h : (s.data.toList.take k).all okC = true) (hk : k < s.size) (ho : okC s[k] = true) : (s.data.toList.take (k + 1)).all okC = true := by
  rw [take_snoc s k hk]; simp [h, ho]

theorem all_not {s : ByteArray} {k : Nat} (hk : k < s.size) (ho : okC s[k] = false) : s.data.toList.all okC = false := by
  rw [Bool.eq_false_iff]; intro h
  rw [List.all_eq_true] at h
  have := h s[k] (by have : s[k] = s.data.toList[k]'(by simpa using hk) := rfl; rw [this]; exact List.getElem_mem _)
  rw [ho] at this; cases this

theorem label_star {s : ByteArray} (h : ¬ s = ⟨#[42]⟩) : (s.data.toList == [42]) = false := by
  rw [Bool.eq_false_iff]; intro e; exact h (data_eq (by simpa using e))
theorem label_false1 {s : ByteArray} (h : ¬ s = ⟨#[42]⟩) (h2 : s.size < 1) : labelB s.data.toList = false := by
  unfold labelB; rw [label_star h]; simp; omega
theorem label_false2 {s : ByteArray} (h : ¬ s = ⟨#[42]⟩) (h2 : 20 < s.size) : labelB s.data.toList = false := by
  unfold labelB; rw [label_star h]; simp; omega
theorem label_false3 {s : ByteArray} (h : ¬ s = ⟨#[42]⟩) (h2 : s.data.toList.all okC = false) : labelB s.data.toList = false := by
  unfold labelB; rw [label_star h, h2]; simp
theorem label_true {s : ByteArray} (h1 : 1 ≤ s.size) (h2 : s.size ≤ 20) (h3 : s.data.toList.all okC = true) : labelB s.data.toList = true := by
  unfold labelB; rw [h3]; simp; omega

end Go.Proofs.Ytacmipcjhbkdcaa

namespace Go.Proofs.Ytacmipcjhbkdcaa
open Go.RowKit

theorem okC_true {c : UInt8} (h : okC c = true) : (97 ≤ (c.toNat : Int) ∧ (c.toNat : Int) ≤ 122) ∨ (48 ≤ (c.toNat : Int) ∧ (c.toNat : Int) ≤ 57) ∨ (45 ≤ (c.toNat : Int) ∧ (c.toNat : Int) ≤ 45) ∨ (95 ≤ (c.toNat : Int) ∧ (c.toNat : Int) ≤ 95) := by
  unfold okC kindOf at h
  simp only [decide_eq_true_eq] at h
  revert h
  (repeat' split) <;> intro h <;> omega
theorem okC_false {c : UInt8} (h : okC c = false) : (c.toNat : Int) ≤ 44 ∨ (46 ≤ (c.toNat : Int) ∧ (c.toNat : Int) ≤ 47) ∨ (58 ≤ (c.toNat : Int) ∧ (c.toNat : Int) ≤ 94) ∨ (96 ≤ (c.toNat : Int) ∧ (c.toNat : Int) ≤ 96) ∨ 123 ≤ (c.toNat : Int) := by
  unfold okC kindOf at h
  simp only [decide_eq_false_iff_not] at h
  revert h
  (repeat' split) <;> intro h <;> omega

set_option maxRecDepth 20000 in
set_option maxHeartbeats 400000 in
theorem l1In_any (n lo hi : Int) (w : World) : Calls Try.prog 40 #[.int .i64 n, .int .i64 lo, .int .i64 hi] w fun e w' => e = .returned (.bool (decide (lo ≤ n) && decide (n ≤ hi))) ∧ w' = w := by
  by_cases h1 : lo ≤ n
  · go_enter Try.func40, Try.ntmps40
    go_wp2
    go_ret
    exact ⟨ret_bool (by simp [h1]), rfl⟩
  · go_enter Try.func40, Try.ntmps40
    go_wp2
    go_ret
    exact ⟨ret_bool (by simp; omega), rfl⟩

theorem label_in {s : ByteArray} (h : ¬ s = ⟨#[42]⟩) (h3 : s.data.toList.all okC = true) : labelB s.data.toList = (decide ((1 : Int) ≤ (s.size : Int)) && decide ((s.size : Int) ≤ 20)) := by
  unfold labelB; rw [label_star h, h3]
  have : s.data.toList.length = s.size := by simp
  rw [this, Bool.eq_iff_iff]; simp; omega

end Go.Proofs.Ytacmipcjhbkdcaa
