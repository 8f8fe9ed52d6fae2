import Derived.Test.YtoanloballaclaaDoorPlain
namespace Go.Proofs.YtoanloballaclaaDoor
open Go.RowKit

theorem index_no {b : UInt8} : ∀ {l : List UInt8}, b ∉ l → Lib.index l [b] = -1
  | [], _ => by simp [Lib.index]
  | c :: l, h => by
    simp only [List.mem_cons, not_or] at h
    have hp : ([b] : List UInt8).isPrefixOf (c :: l) = false := by simp [List.isPrefixOf, h.1]
    rw [Lib.index, hp, index_no h.2]; simp
theorem index_at {b : UInt8} {r : List UInt8} : ∀ {a : List UInt8}, b ∉ a → Lib.index (a ++ b :: r) [b] = (a.length : Int)
  | [], _ => by rw [List.nil_append, Lib.index]; simp [List.isPrefixOf]
  | c :: a, h => by
    simp only [List.mem_cons, not_or] at h
    have hp : ([b] : List UInt8).isPrefixOf (c :: (a ++ b :: r)) = false := by simp [List.isPrefixOf, h.1]
    rw [List.cons_append, Lib.index, hp, index_at h.2]
    have : (((a.length : Int)) == -1) = false := by rw [beq_eq_false_iff_ne]; omega
    rw [this]; simp
theorem splitK_no {b : UInt8} {n : Nat} {l : List UInt8} (h : b ∉ l) : Lib.splitK [b] 0 n l = [l] := by
  cases n with
  | zero => rfl
  | succ n => rw [Lib.splitK, index_no h]; rfl
theorem splitK_at {b : UInt8} {n : Nat} {a r : List UInt8} (h : b ∉ a) : Lib.splitK [b] 0 (n + 1) (a ++ b :: r) = a :: Lib.splitK [b] 0 n r := by
  rw [Lib.splitK, index_at h]
  have : (((a.length : Int)) == -1) = false := by rw [beq_eq_false_iff_ne]; omega
  rw [this]
  simp only [Bool.false_eq_true, if_false, Int.toNat_natCast, Nat.add_zero, List.length_cons, List.length_nil, Nat.zero_add]
  rw [List.take_left', ← List.drop_drop, List.drop_left']
  · rfl
  · rfl
  · rfl
theorem cut_at {b : UInt8} {a r : List UInt8} (h : b ∉ a) : cut b (a ++ b :: r) = a :: cut b r := by
  rw [cut_append, cut_plain b a h]; rfl
theorem splitK_cut {b : UInt8} : ∀ (n : Nat) (l : List UInt8), (cut b l).length ≤ n + 1 → Lib.splitK [b] 0 n l = cut b l := by
  intro n
  induction n with
  | zero =>
    intro l h
    by_cases hm : b ∈ l
    · obtain ⟨a, r, rfl, ha⟩ := List.eq_append_cons_of_mem hm
      rw [cut_at ha] at h
      have := List.length_pos_iff.2 (cut_ne b r)
      simp only [List.length_cons] at h; omega
    · rw [splitK_no hm, cut_plain b l hm]
  | succ n ih =>
    intro l h
    by_cases hm : b ∈ l
    · obtain ⟨a, r, rfl, ha⟩ := List.eq_append_cons_of_mem hm
      rw [cut_at ha] at h ⊢
      rw [splitK_at ha, ih r (by simp only [List.length_cons] at h; omega)]
    · rw [splitK_no hm, cut_plain b l hm]
theorem splitK_long {b : UInt8} : ∀ (n : Nat) (l : List UInt8), n + 1 ≤ (cut b l).length → (Lib.splitK [b] 0 n l).length = n + 1 := by
  intro n
  induction n with
  | zero => intro l _; rfl
  | succ n ih =>
    intro l h
    by_cases hm : b ∈ l
    · obtain ⟨a, r, rfl, ha⟩ := List.eq_append_cons_of_mem hm
      rw [cut_at ha] at h
      rw [splitK_at ha, List.length_cons, ih r (by simp only [List.length_cons] at h; omega)]
    · rw [cut_plain b l hm] at h; simp at h
theorem split4 {b : UInt8} {l : List UInt8} {N : Nat} (hN : N = min 5 (l.length + 1) - 1) :
    ((Lib.splitK [b] 0 N l).length = 4 ↔ (cut b l).length = 4) ∧ ((cut b l).length = 4 → Lib.splitK [b] 0 N l = cut b l) := by
  have hc := cut_length_le b l
  by_cases h : (cut b l).length ≤ N + 1
  · have e := splitK_cut N l h
    rw [e]; exact ⟨Iff.rfl, fun _ => rfl⟩
  · have e := splitK_long (b := b) N l (by omega)
    rw [e]
    refine ⟨⟨fun h4 => ?_, fun h4 => ?_⟩, fun h4 => ?_⟩ <;> omega
theorem split_three {b : UInt8} {l : List UInt8} (h : 4 ≤ (cut b l).length) : ∃ p q t r, l = p ++ b :: (q ++ b :: (t ++ b :: r)) ∧ cut b l = p :: q :: t :: cut b r ∧ Lib.splitK [b] 0 3 l = [p, q, t, r] := by
  have step : ∀ {l : List UInt8}, 2 ≤ (cut b l).length → ∃ a r, l = a ++ b :: r ∧ b ∉ a ∧ cut b l = a :: cut b r := by
    intro l h
    by_cases hm : b ∈ l
    · obtain ⟨a, r, rfl, ha⟩ := List.eq_append_cons_of_mem hm
      exact ⟨a, r, rfl, ha, cut_at ha⟩
    · rw [cut_plain b l hm] at h; simp at h
  obtain ⟨p, r1, e1, hp, c1⟩ := step (l := l) (by omega)
  rw [c1, List.length_cons] at h
  obtain ⟨q, r2, e2, hq, c2⟩ := step (l := r1) (by omega)
  rw [c2, List.length_cons] at h
  obtain ⟨t, r3, e3, ht, c3⟩ := step (l := r2) (by omega)
  refine ⟨p, q, t, r3, by rw [e1, e2, e3], by rw [c1, c2, c3], ?_⟩
  rw [e1, splitK_at hp, e2, splitK_at hq, e3, splitK_at ht]; rfl
/-- What strings.Cut tells at one byte, by the cutting. -/
theorem libCut_no {b : UInt8} {l : List UInt8} (h : b ∉ l) : Lib.cut l [b] = (l, [], false) := by
  unfold Lib.cut; rw [index_no h]; rfl
theorem libCut_at {b : UInt8} {a r : List UInt8} (h : b ∉ a) : Lib.cut (a ++ b :: r) [b] = (a, r, true) := by
  unfold Lib.cut; rw [index_at h]
  have e1 : (a ++ b :: r).take a.length = a := List.take_left' rfl
  have e2 : (a ++ b :: r).drop (a.length + 1) = r := by rw [← List.drop_drop, List.drop_left' rfl]; rfl
  simp [e1, e2]
end Go.Proofs.YtoanloballaclaaDoor
