import Derived.Test.YtoeffplfkdogdaaDoorZ26
import Derived.Test.YtoeffplfkdogdaaDoorZ16
namespace Go.Proofs.YtoeffplfkdogdaaDoor
open Go.RowKit

/-- The star right below a name. -/
def starL (e : List UInt8) : List UInt8 := if e = [] then [42] else 42 :: 46 :: e
theorem star_join {Q : List (List UInt8)} (hQ : Plain Q) : starL (joinD Q) = joinD ([42] :: Q) := by
  unfold starL
  by_cases h : Q = []
  · subst h; rfl
  · rw [if_neg (plain_ne h hQ), joinD, if_neg h]; rfl
theorem star_label : labelB [42] = true := by decide
theorem star_plain {Q : List (List UInt8)} (hQ : Plain Q) : Plain ([42] :: Q) := fun p hp => by
  rcases List.mem_cons.1 hp with rfl | h
  · exact ⟨by simp, by decide⟩
  · exact hQ p h
theorem join_two {p : List UInt8} {Q : List (List UInt8)} (hp : p ≠ []) : (joinD ([42] :: Q)).length ≤ (joinD (p :: Q)).length := by
  have h1 : 1 ≤ p.length := by cases p with | nil => exact absurd rfl hp | cons a b => simp
  by_cases h : Q = []
  · subst h; simpa [joinD] using h1
  · rw [joinD, if_neg h, joinD, if_neg h]; simp; omega
theorem drop_mono (A : List (List UInt8)) : ∀ d i : Nat, (joinD (A.drop (i + d))).length ≤ (joinD (A.drop i)).length := fun d i => by
  rw [← List.drop_drop]; exact drop_le (A.drop i) d
/-- The star right below a name that another one lies below is a name, too. -/
theorem star_name {x : List UInt8} (hx : nameB x = true) (i : Nat) (h : joinD ((labelsOf x).drop i) ≠ x) : nameB (starL (joinD ((labelsOf x).drop i))) = true := by
  have hp := name_plain hx
  obtain ⟨h1, h2, h3⟩ := name_parts hx
  have hi : i ≠ 0 := fun e => h (by rw [e, List.drop_zero, joinD_labels])
  have hl : 0 < (labelsOf x).length := by
    rcases Nat.eq_zero_or_pos (labelsOf x).length with h0 | h0
    · exact absurd (by rw [List.length_eq_zero_iff.1 h0, List.drop_nil, ← List.length_eq_zero_iff.1 h0, joinD_labels]) h
    · exact h0
  rw [star_join (hp.drop i)]
  have hlab : labelsOf (joinD ([42] :: (labelsOf x).drop i)) = [42] :: (labelsOf x).drop i := labels_join (star_plain (hp.drop i))
  obtain ⟨j, hj⟩ : ∃ j, i = 1 + j := ⟨i - 1, by omega⟩
  refine name_mk ?_ ?_ ?_
  · rw [hlab]; intro p hp2
    rcases List.mem_cons.1 hp2 with rfl | h'
    · exact star_label
    · exact h1 p (List.mem_of_mem_drop h')
  · by_cases hlt : j < (labelsOf x).length
    · have e1 : (labelsOf x).drop j = (labelsOf x)[j] :: (labelsOf x).drop i := by rw [List.drop_eq_getElem_cons hlt, hj, Nat.add_comm]
      have h4 := join_two (Q := (labelsOf x).drop i) (hp _ (List.getElem_mem hlt)).1
      rw [← e1] at h4
      have h5 := drop_le (labelsOf x) j
      rw [joinD_labels] at h5
      omega
    · rw [List.drop_of_length_le (by omega)]; simp [joinD]
  · rw [hlab, List.length_cons, List.length_drop]; omega

set_option maxRecDepth 20000 in
set_option maxHeartbeats 1000000 in
theorem starBelow_any (s : List UInt8) (w : World) (hs : s.length ≤ 60) :
    Calls Tryd.prog 60 #[.string ⟨s.toArray⟩] w fun e w' => e = .returned (.string ⟨(starL s).toArray⟩) ∧ Below w.heap.size w w' := by
  by_cases h0 : s = []
  · subst h0
    go_enter Tryd.func60, Tryd.ntmps60
    go_wp2_with fail
    go_ret
    exact ⟨rfl, Below.refl _ _⟩
  · have e0 : (s == []) = false := by simpa using h0
    have HS : Hid (starL s = joinD [[42], s]) := (show starL s = joinD [[42], s] by unfold starL; rw [if_neg h0]; simp [joinD])
    have e1 : s.isEmpty = false := by simpa using h0
    clear h0
    go_enter Tryd.func60, Tryd.ntmps60
    go_wp2_with fail
    have hrow : Row (w.alloc (.cells #[.string ⟨#[42]⟩, .string ⟨s.toArray⟩] 9)) (.slice (some ⟨w.heap.size, 0, none⟩) 2 2) [[42], s] := by
      refine ⟨_, 2, rfl, Nat.le_refl _, by unfold maxLen; omega, .inr ⟨w.heap.size, 0, rfl, by simp, fun j hj => ?_⟩⟩
      match j, hj with
      | 0, _ => simp; rfl
      | 1, _ => simp; rfl
    have HJ1 : Hid ((joinD [[42], s]).length ≤ 1048576) := by
      rw [← HS.out]
      have h : (starL s).length ≤ s.length + 2 := by unfold starL; split <;> simp
      exact (show (starL s).length ≤ 1048576 by omega)
    refine (joinLabels_any _ [[42], s] _ hrow HJ1).mono ?_
    rintro e w1 ⟨rfl, hb1⟩
    go_wp2_with fail
    go_ret
    exact ⟨ret_S HS.out.symm, ((Below.refl w.heap.size w).alloc (Nat.le_refl _) _).trans (hb1.mono (by simp))⟩
set_option maxRecDepth 20000 in
set_option maxHeartbeats 1000000 in
theorem l8Star_any (s : List UInt8) (w : World) (hs : s.length ≤ 1048576) :
    Calls Tryd.prog 37 #[.string ⟨s.toArray⟩] w fun e w' => e = .returned (.string ⟨(starL s).toArray⟩) ∧ w' = w := by
  by_cases h0 : s = []
  · subst h0
    go_enter Tryd.func37, Tryd.ntmps37
    go_wp2_with fail
    go_ret
    exact ⟨rfl, rfl⟩
  · have e0 : (s == []) = false := by simpa using h0
    have HS : Hid (starL s = 42 :: 46 :: s) := if_neg h0
    have e1 : s.isEmpty = false := by simpa using h0
    clear h0
    go_enter Tryd.func37, Tryd.ntmps37
    go_wp2_with fail
    go_ret
    exact ⟨ret_S HS.out.symm, rfl⟩
end Go.Proofs.YtoeffplfkdogdaaDoor
