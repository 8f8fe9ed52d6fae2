import Derived.Test.YtoeffplfkdogdaaDoorCompareL
namespace Go.Proofs.YtoeffplfkdogdaaDoor
open Go.RowKit

set_option maxRecDepth 20000 in
set_option maxHeartbeats 1000000 in
theorem compareLabels_any (va vb : Value) (A B : List (List UInt8)) (w : World) (hra : Row w va A) (hrb : Row w vb B) :
    Calls Tryd.prog 78 #[va, vb] w fun e w' => e = .returned (.int .i64 (cmpR A.reverse B.reverse)) ∧ Below w.heap.size w w' := by
  have hra0 := hra
  have hrb0 := hrb
  obtain ⟨aa, ca, rfl, hca, hma, hrowa⟩ := hra
  obtain ⟨ab, cb, rfl, hcb, hmb, hrowb⟩ := hrb
  unfold maxLen at hma hmb
  have HA : Hid (A = [] ∨ ∃ b o, aa = some ⟨b, o, none⟩ ∧ b < w.heap.size ∧ ∀ j, (hj : j < A.length) → w.cell? ⟨b, o + j, none⟩ = some (S A[j])) := hrowa
  have HB : Hid (B = [] ∨ ∃ b o, ab = some ⟨b, o, none⟩ ∧ b < w.heap.size ∧ ∀ j, (hj : j < B.length) → w.cell? ⟨b, o + j, none⟩ = some (S B[j])) := hrowb
  clear hrowa hrowb
  have hle := alike_le A.reverse B.reverse
  obtain ⟨n, hn⟩ : ∃ n, n = alike A.reverse B.reverse := ⟨_, rfl⟩
  rw [← hn] at hle
  have hleA : n ≤ A.length := by simpa using hle.1
  have hleB : n ≤ B.length := by simpa using hle.2
  have HNN : Hid (n = alike A.reverse B.reverse) := hn
  clear hn hle
  by_cases h1 : n = A.length ∨ n = B.length
  · have HE : Hid (cmpR A.reverse B.reverse = Lib.compareInt A.length B.length) := by
      have := cmpR_end A.reverse B.reverse (by rw [← HNN.out]; simpa using h1)
      rw [this]; exact (by simp : Lib.compareInt A.reverse.length B.reverse.length = Lib.compareInt A.length B.length)
    rcases h1 with h1 | h1
    · have e1 : ((n : Int) == (A.length : Int)) = true := by simp; omega
      have H1 : Hid (n = A.length) := h1
      clear h1
      go_enter Tryd.func78, Tryd.ntmps78
      go_wp2_with fail
      refine (alikeFromRight_any _ _ A B w hra0 hrb0).mono ?_
      rintro e w1 ⟨rfl, hb⟩
      rw [← HNN.out]
      go_wp2_with fail
      refine (Tryd.cmp_Compare_int _ _ _).mono ?_
      rintro e w2 ⟨rfl, rfl⟩
      go_wp2_with fail
      go_ret
      exact ⟨ret_int HE.out.symm, hb⟩
    · by_cases h2 : n = A.length
      · have e1 : ((n : Int) == (A.length : Int)) = true := by simp; omega
        have H1 : Hid (n = B.length ∧ n = A.length) := ⟨h1, h2⟩
        clear h1 h2
        go_enter Tryd.func78, Tryd.ntmps78
        go_wp2_with fail
        refine (alikeFromRight_any _ _ A B w hra0 hrb0).mono ?_
        rintro e w1 ⟨rfl, hb⟩
        rw [← HNN.out]
        go_wp2_with fail
        refine (Tryd.cmp_Compare_int _ _ _).mono ?_
        rintro e w2 ⟨rfl, rfl⟩
        go_wp2_with fail
        go_ret
        exact ⟨ret_int HE.out.symm, hb⟩
      · have e1 : ((n : Int) == (A.length : Int)) = false := by simp; omega
        have e2 : ((n : Int) == (B.length : Int)) = true := by simp; omega
        have H1 : Hid (n = B.length) := h1
        clear h1 h2
        go_enter Tryd.func78, Tryd.ntmps78
        go_wp2_with fail
        refine (alikeFromRight_any _ _ A B w hra0 hrb0).mono ?_
        rintro e w1 ⟨rfl, hb⟩
        rw [← HNN.out]
        go_wp2_with fail
        refine (Tryd.cmp_Compare_int _ _ _).mono ?_
        rintro e w2 ⟨rfl, rfl⟩
        go_wp2_with fail
        go_ret
        exact ⟨ret_int HE.out.symm, hb⟩
  · have hA : n < A.length := by omega
    have hB : n < B.length := by omega
    have e1 : ((n : Int) == (A.length : Int)) = false := by simp; omega
    have e2 : ((n : Int) == (B.length : Int)) = false := by simp; omega
    clear h1
    rcases HA.out with hr | ⟨ba, oa, ha, hba, hcA⟩
    · rw [hr] at hA; simp at hA
    rcases HB.out with hr | ⟨bb, ob, hb', hbb, hcB⟩
    · rw [hr] at hB; simp at hB
    have hfin := cmpR_mid A.reverse B.reverse (by rw [← HNN.out]; simpa using hA) (by rw [← HNN.out]; simpa using hB)
    obtain ⟨x, hx⟩ : ∃ x, x = A[A.length - 1 - n]'(by omega) := ⟨_, rfl⟩
    obtain ⟨y, hy⟩ : ∃ y, y = B[B.length - 1 - n]'(by omega) := ⟨_, rfl⟩
    have hf0 : cmpR A.reverse B.reverse = Lib.compareBytes x y := by
      rw [hfin, hx, hy, ← rev_get hA, ← rev_get hB]
      simp only [← HNN.out]
    have HF : Hid (cmpR A.reverse B.reverse = Lib.compareBytes x y) := hf0
    have cA := hcA (A.length - 1 - n) (by omega)
    have cB := hcB (B.length - 1 - n) (by omega)
    rw [← hx] at cA
    rw [← hy] at cB
    unfold S at cA cB
    have HCA : Hid (w.cell? ⟨ba, oa + (A.length - 1 - n), none⟩ = some (.string ⟨x.toArray⟩)) := cA
    have HCB : Hid (w.cell? ⟨bb, ob + (B.length - 1 - n), none⟩ = some (.string ⟨y.toArray⟩)) := cB
    clear hcA hcB hx hy cA cB hfin hf0
    subst ha hb'
    go_enter Tryd.func78, Tryd.ntmps78
    go_wp2_with fail
    refine (alikeFromRight_any _ _ A B w hra0 hrb0).mono ?_
    rintro e w1 ⟨rfl, hb⟩
    rw [← HNN.out]
    have cA1 : w1.cell? ⟨ba, oa + (A.length - 1 - n), none⟩ = some (.string ⟨x.toArray⟩) := by rw [hb.cell (p := ⟨ba, oa + (A.length - 1 - n), none⟩) hba]; exact HCA.out
    have cB1 : w1.cell? ⟨bb, ob + (B.length - 1 - n), none⟩ = some (.string ⟨y.toArray⟩) := by rw [hb.cell (p := ⟨bb, ob + (B.length - 1 - n), none⟩) hbb]; exact HCB.out
    clear hra0 hrb0
    go_wp2_with fail
    go_quiet ((go_at_call 85; exact Calls.quiet_of_same (Tryd.strings_Compare _ _ _)))
    go_wp2_with fail
    go_ret
    exact ⟨ret_int HF.out.symm, below_drewN hb _⟩
end Go.Proofs.YtoeffplfkdogdaaDoor
