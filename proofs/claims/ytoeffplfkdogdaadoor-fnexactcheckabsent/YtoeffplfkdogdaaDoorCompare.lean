import Derived.Test.YtoeffplfkdogdaaDoorSplit
import Derived.Deep.QuietTactic
import Derived.BigQuiet
import Derived.WalkSmall
namespace Go.Proofs.YtoeffplfkdogdaaDoor
open Go.RowKit

/-- How many labels from the right are alike. -/
def alike : List (List UInt8) → List (List UInt8) → Nat
  | p :: a, q :: b => if p = q then alike a b + 1 else 0
  | _, _ => 0
theorem alike_le : ∀ a b : List (List UInt8), alike a b ≤ a.length ∧ alike a b ≤ b.length
  | [], b => by simp [alike]
  | _ :: _, [] => by simp [alike]
  | p :: a, q :: b => by
    have := alike_le a b
    unfold alike; split <;> simp <;> omega
theorem alike_step : ∀ (a b : List (List UInt8)) (k : Nat), k ≤ alike a b → (ha : k < a.length) → (hb : k < b.length) → a[k] = b[k] → k + 1 ≤ alike a b
  | [], _, _, _, ha, _, _ => by simp at ha
  | _ :: _, [], _, _, _, hb, _ => by simp at hb
  | p :: a, q :: b, 0, _, _, _, e => by simp at e; simp [alike, e]
  | p :: a, q :: b, k + 1, h, ha, hb, e => by
    by_cases hpq : p = q
    · simp only [alike, hpq, if_true] at h ⊢
      have := alike_step a b k (by omega) (by simpa using ha) (by simpa using hb) (by simpa using e)
      omega
    · simp [alike, hpq] at h
theorem alike_stop : ∀ (a b : List (List UInt8)) (k : Nat), k ≤ alike a b → (ha : k < a.length) → (hb : k < b.length) → a[k] ≠ b[k] → alike a b = k
  | [], _, _, _, ha, _, _ => by simp at ha
  | _ :: _, [], _, _, _, hb, _ => by simp at hb
  | p :: a, q :: b, 0, _, _, _, e => by simp at e; simp [alike, e]
  | p :: a, q :: b, k + 1, h, ha, hb, e => by
    by_cases hpq : p = q
    · simp only [alike, hpq, if_true] at h ⊢
      have := alike_stop a b k (by omega) (by simpa using ha) (by simpa using hb) (by simpa using e)
      omega
    · simp [alike, hpq] at h

/-- The cells of a list of texts that is not empty. -/
theorem Row.cells {w : World} {a : Option Addr} {n cap : Nat} {P : List (List UInt8)} (h : Row w (.slice a n cap) P) (hp : 0 < P.length) : n = P.length ∧ P.length ≤ cap ∧ cap ≤ maxLen ∧ ∃ b o, a = some ⟨b, o, none⟩ ∧ b < w.heap.size ∧ ∀ j, (hj : j < P.length) → w.cell? ⟨b, o + j, none⟩ = some (S P[j]) := by
  obtain ⟨a', cap', e, h1, h2, h3⟩ := h
  cases e
  refine ⟨rfl, h1, h2, ?_⟩
  rcases h3 with rfl | h3
  · simp at hp
  · exact h3

theorem rev_get {P : List (List UInt8)} {k : Nat} (hk : k < P.length) : P.reverse[k]'(by simpa using hk) = P[P.length - 1 - k]'(by omega) := by
  rw [List.getElem_reverse]

set_option maxRecDepth 20000 in
set_option maxHeartbeats 1000000 in
theorem alikeFromRight_any (va vb : Value) (A B : List (List UInt8)) (w : World) (hra : Row w va A) (hrb : Row w vb B) :
    Calls Tryd.prog 79 #[va, vb] w fun e w' => e = .returned (.int .i64 (alike A.reverse B.reverse : Nat)) ∧ Below w.heap.size w w' := by
  obtain ⟨aa, ca, rfl, hca, hma, hrowa⟩ := hra
  obtain ⟨ab, cb, rfl, hcb, hmb, hrowb⟩ := hrb
  unfold maxLen at hma hmb
  have HA : Hid (A = [] ∨ ∃ b o, aa = some ⟨b, o, none⟩ ∧ b < w.heap.size ∧ ∀ j, (hj : j < A.length) → w.cell? ⟨b, o + j, none⟩ = some (S A[j])) := hrowa
  have HB : Hid (B = [] ∨ ∃ b o, ab = some ⟨b, o, none⟩ ∧ b < w.heap.size ∧ ∀ j, (hj : j < B.length) → w.cell? ⟨b, o + j, none⟩ = some (S B[j])) := hrowb
  clear hrowa hrowb
  go_enter Tryd.func79, Tryd.ntmps79
  go_wp2_with fail
  go_loopw [5] (fun i wr => ∃ k : Nat, k ≤ A.length ∧ k ≤ B.length ∧ i = .int .i64 k ∧ Hid (k ≤ alike A.reverse B.reverse) ∧ Below w.heap.size w wr) (fun i _ => A.length - (intOf i).toNat)
  case atStart => exact ⟨0, Nat.zero_le _, Nat.zero_le _, rfl, Nat.zero_le _, Below.refl _ _⟩
  case round =>
    obtain ⟨k, hkA, hkB, rfl, HK, hb⟩ := hrel
    have hle := alike_le A.reverse B.reverse
    have hleA : alike A.reverse B.reverse ≤ A.length := by simpa using hle.1
    have hleB : alike A.reverse B.reverse ≤ B.length := by simpa using hle.2
    have HLA : Hid (alike A.reverse B.reverse ≤ A.length ∧ alike A.reverse B.reverse ≤ B.length) := ⟨hleA, hleB⟩
    clear hle hleA hleB
    by_cases hA : k < A.length
    · by_cases hB : k < B.length
      · have dA : decide ((k : Int) < (A.length : Int)) = true := by simp; omega
        have dB : decide ((k : Int) < (B.length : Int)) = true := by simp; omega
        rcases HA.out with hr | ⟨ba, oa, ha, hba, hcA⟩
        · rw [hr] at hA; simp at hA
        rcases HB.out with hr | ⟨bb, ob, hb', hbb, hcB⟩
        · rw [hr] at hB; simp at hB
        rw [ha, hb']
        have cA := hcA (A.length - 1 - k) (by omega)
        have cB := hcB (B.length - 1 - k) (by omega)
        rw [← hb.cell (p := ⟨ba, oa + (A.length - 1 - k), none⟩) hba] at cA
        rw [← hb.cell (p := ⟨bb, ob + (B.length - 1 - k), none⟩) hbb] at cB
        obtain ⟨x, hx⟩ : ∃ x, x = A[A.length - 1 - k]'(by omega) := ⟨_, rfl⟩
        obtain ⟨y, hy⟩ : ∃ y, y = B[B.length - 1 - k]'(by omega) := ⟨_, rfl⟩
        rw [← hx] at cA
        rw [← hy] at cB
        unfold S at cA cB
        have HX : Hid (A.reverse[k]'(by simpa using hA) = x ∧ B.reverse[k]'(by simpa using hB) = y) := ⟨by rw [rev_get hA, hx], by rw [rev_get hB, hy]⟩
        clear hcA hcB hx hy
        by_cases hxy : x = y
        · have HN : Hid (k + 1 ≤ alike A.reverse B.reverse) := alike_step _ _ k HK.out _ _ (by rw [HX.out.1, HX.out.2]; exact hxy)
          clear HX
          subst hxy
          go_wp2_with fail
          go_quiet (fail)
          go_wp2_with fail
          go_roundw
          case rel => exact ⟨k + 1, by omega, by omega, by go_num, HN, below_drewN hb _⟩
          case measure => simp [intOf]; omega
        · have e1 : (x == y) = false := by simpa using hxy
          have HN : Hid (alike A.reverse B.reverse = k) := alike_stop _ _ k HK.out _ _ (by rw [HX.out.1, HX.out.2]; exact hxy)
          clear HX hxy
          go_wp2_with fail
          go_quiet (fail)
          go_wp2_with fail
          go_ret
          exact ⟨ret_int (by rw [HN.out]), below_drewN hb _⟩
      · have dA : decide ((k : Int) < (A.length : Int)) = true := by simp; omega
        have dB : decide ((k : Int) < (B.length : Int)) = false := by simp; omega
        go_wp2_with fail
        go_quiet (fail)
        go_wp2_with fail
        go_ret
        exact ⟨ret_int (by have := HLA.out; have := HK.out; omega), below_drewN hb _⟩
    · have dA : decide ((k : Int) < (A.length : Int)) = false := by simp; omega
      go_wp2_with fail
      go_quiet (fail)
      go_wp2_with fail
      go_ret
      exact ⟨ret_int (by have := HLA.out; have := HK.out; omega), below_drewN hb _⟩
end Go.Proofs.YtoeffplfkdogdaaDoor
