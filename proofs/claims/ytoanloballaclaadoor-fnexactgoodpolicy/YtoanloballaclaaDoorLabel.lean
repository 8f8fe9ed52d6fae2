import Derived.Test.YtoanloballaclaaDoorKind
namespace Go.Proofs.YtoanloballaclaaDoor
open Go.RowKit

theorem ret_bool {a b : Bool} (h : a = b) : Ending.returned (.bool a) = .returned (.bool b) := by rw [h]

/-- A byte that a label may hold. -/
def okC (c : UInt8) : Bool := decide (kindOf (c.toNat : Int) = 1)
/-- A label. -/
def labelB (l : List UInt8) : Bool := l == [42] || (decide (1 ≤ l.length) && (decide (l.length ≤ 20) && l.all okC))

theorem TabIn.below {w w' : World} (hT : TabIn w) (hb : Below w.heap.size w w') : TabIn w' := fun i hi => by
  have h0 : w.cell? ⟨0, 0, none⟩ = some (.int .u8 45) := hT 0 (by decide)
  have hlt := World.block_lt_of_cell? _ _ h0
  rw [hb.cell (p := ⟨0, i, none⟩) hlt]; exact hT i hi

theorem take_snoc (s : ByteArray) (k : Nat) (h : k < s.size) : s.data.toList.take (k + 1) = s.data.toList.take k ++ [s[k]] := by
  rw [List.take_succ_eq_append_getElem (by simpa using h)]; rfl

theorem data_eq {s : ByteArray} {l : List UInt8} (h : s.data.toList = l) : s = ⟨l.toArray⟩ := by
  cases s; simp at h; simp [← h]

theorem all_full {s : ByteArray} {k : Nat} (h : (s.data.toList.take k).all okC = true) (hk : ¬ k < s.size) : s.data.toList.all okC = true := by
  rw [List.take_of_length_le (by simp; omega)] at h; exact h

theorem all_step {s : ByteArray} {k : Nat} (h : (s.data.toList.take k).all okC = true) (hk : k < s.size) (ho : okC s[k] = true) : (s.data.toList.take (k + 1)).all okC = true := by
  rw [take_snoc s k hk]; simp [h, ho]

theorem all_not {s : ByteArray} {k : Nat} (hk : k < s.size) (ho : okC s[k] = false) : s.data.toList.all okC = false := by
  rw [Bool.eq_false_iff]; intro h
  rw [List.all_eq_true] at h
  have := h s[k] (by have : s[k] = s.data.toList[k]'(by simpa using hk) := rfl; rw [this]; exact List.getElem_mem _)
  rw [ho] at this; cases this

theorem label_star {s : ByteArray} (h : ¬ s = ⟨#[42]⟩) : (s.data.toList == [42]) = false := by
  rw [Bool.eq_false_iff]; intro e; exact h (data_eq (by simpa using e))
theorem label_false1 {s : ByteArray} (h : ¬ s = ⟨#[42]⟩) (h2 : s.size < 1) : labelB s.data.toList = false := by
  unfold labelB; rw [label_star h]; simp; omega
theorem label_false2 {s : ByteArray} (h : ¬ s = ⟨#[42]⟩) (h2 : 20 < s.size) : labelB s.data.toList = false := by
  unfold labelB; rw [label_star h]; simp; omega
theorem label_false3 {s : ByteArray} (h : ¬ s = ⟨#[42]⟩) (h2 : s.data.toList.all okC = false) : labelB s.data.toList = false := by
  unfold labelB; rw [label_star h, h2]; simp
theorem label_true {s : ByteArray} (h1 : 1 ≤ s.size) (h2 : s.size ≤ 20) (h3 : s.data.toList.all okC = true) : labelB s.data.toList = true := by
  unfold labelB; rw [h3]; simp; omega

set_option maxRecDepth 20000 in
set_option maxHeartbeats 400000 in
theorem isLabel_any (s : ByteArray) (w : World) (hs : s.size ≤ maxLen) (hT : TabIn w) :
    Calls Tryd.prog 38 #[.string s] w fun e w' => e = .returned (.bool (labelB s.data.toList)) ∧ Below w.heap.size w w' := by
  unfold maxLen at hs
  by_cases h1 : s = ⟨#[42]⟩
  · subst h1
    go_enter Tryd.func38, Tryd.ntmps38
    go_wp2
    go_ret
    exact ⟨rfl, Below.refl _ _⟩
  · have e1 : (s.toList == [42]) = false := by
      rw [Bool.eq_false_iff]; intro h; exact h1 (data_eq (by rw [← ByteArray.toList_eq]; simpa using h))
    have H1 : Hid (¬ s = ⟨#[42]⟩) := h1
    clear h1
    by_cases h2 : s.size < 1
    · go_enter Tryd.func38, Tryd.ntmps38
      go_wp2
      go_ret
      exact ⟨ret_bool (by rw [label_false1 H1.out h2]), Below.refl _ _⟩
    · by_cases h3 : 20 < s.size
      · go_enter Tryd.func38, Tryd.ntmps38
        go_wp2
        go_ret
        exact ⟨ret_bool (by rw [label_false2 H1.out h3]), Below.refl _ _⟩
      · have d2 : decide ((s.size : Int) < 1) = false := by simp; omega
        have d3 : decide ((20 : Int) < (s.size : Int)) = false := by simp; omega
        go_enter Tryd.func38, Tryd.ntmps38
        go_wp2_with fail
        go_loopw [3] (fun i wr => ∃ k : Nat, k ≤ s.size ∧ i = .int .i64 k ∧ (s.data.toList.take k).all okC = true ∧ Below w.heap.size w wr) (fun i _ => s.size - (intOf i).toNat)
        case atStart => exact ⟨0, Nat.zero_le _, rfl, rfl, Below.refl _ _⟩
        case round =>
          obtain ⟨k, hk, rfl, hall, hb⟩ := hrel
          have hTr := hT.below hb
          have HA : Hid ((s.data.toList.take k).all okC = true) := hall
          clear hall
          by_cases hlt : k < s.size
          · have hbd : (s[k].toNat : Int) ≤ 255 := by have := s[k].toNat_lt; omega
            by_cases ho : (kindOf (s[k].toNat : Int) != 1) = false
            · go_wp2_with fail
              refine (kind_any _ _ (by omega) hbd hTr).mono ?_
              rintro e w1 ⟨rfl, hb1⟩
              go_wp2_with fail
              go_roundw
              case rel => exact ⟨k + 1, by omega, by go_num, all_step HA.out hlt (by unfold okC; simpa using ho), hb.trans (hb1.mono hb.size)⟩
              case measure => simp [intOf]; omega
            · have ho' : (kindOf (s[k].toNat : Int) != 1) = true := by simpa using ho
              clear ho
              go_wp2_with fail
              refine (kind_any _ _ (by omega) hbd hTr).mono ?_
              rintro e w1 ⟨rfl, hb1⟩
              go_wp2_with fail
              go_ret
              exact ⟨ret_bool (by rw [label_false3 H1.out (all_not hlt (by unfold okC; simpa using ho'))]), hb.trans (hb1.mono hb.size)⟩
          · go_wp2_with fail
            go_ret
            exact ⟨ret_bool (by rw [label_true (by omega) (by omega) (all_full HA.out hlt)]), hb⟩
end Go.Proofs.YtoanloballaclaaDoor
