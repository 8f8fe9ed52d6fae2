import Derived.Test.YtoobaaklklommaaGreatDoorZ04
import Derived.Deep.QuietTactic
import Derived.BigQuiet
import Derived.WalkSmall
import Derived.Lib.Small
import Derived.Lib.Bytealg
namespace Go.Proofs.YtoobaaklklommaaGreatDoor
open Go.RowKit

/-- How many labels from the right are alike. -/
def alike : List (List UInt8) → List (List UInt8) → Nat
  | p :: a, q :: b => if p = q then alike a b + 1 else 0
  | _, _ => 0
theorem alike_le : ∀ a b : List (List UInt8), alike a b ≤ a.length ∧ alike a b ≤ b.length
  | [], b => by simp [alike]
  | _ :: _, [] => by simp [alike]
  | p :: a, q :: b => by
    have := alike_le a b
    unfold alike; split <;> simp <;> omega
theorem alike_step : ∀ (a b : List (List UInt8)) (k : Nat), k ≤ alike a b → (ha : k < a.length) → (hb : k < b.length) → a[k] = b[k] → k + 1 ≤ alike a b
  | [], _, _, _, ha, _, _ => by simp at ha
  | _ :: _, [], _, _, _, hb, _ => by simp at hb
  | p :: a, q :: b, 0, _, _, _, e => by simp at e; simp [alike, e]
  | p :: a, q :: b, k + 1, h, ha, hb, e => by
    by_cases hpq : p = q
    · simp only [alike, hpq, if_true] at h ⊢
      have := alike_step a b k (by omega) (by simpa using ha) (by simpa using hb) (by simpa using e)
      omega
    · simp [alike, hpq] at h
theorem alike_stop : ∀ (a b : List (List UInt8)) (k : Nat), k ≤ alike a b → (ha : k < a.length) → (hb : k < b.length) → a[k] ≠ b[k] → alike a b = k
  | [], _, _, _, ha, _, _ => by simp at ha
  | _ :: _, [], _, _, _, hb, _ => by simp at hb
  | p :: a, q :: b, 0, _, _, _, e => by simp at e; simp [alike, e]
  | p :: a, q :: b, k + 1, h, ha, hb, e => by
    by_cases hpq : p = q
    · simp only [alike, hpq, if_true] at h ⊢
      have := alike_stop a b k (by omega) (by simpa using ha) (by simpa using hb) (by simpa using e)
      omega
    · simp [alike, hpq] at h

/-- The cells of a list of texts that is not empty. -/
theorem Row.cells {w : World} {a : Option Addr} {n cap : Nat} {P : List (List UInt8)} (h : Row w (.slice a n cap) P) (hp : 0 < P.length) : n = P.length ∧ P.length ≤ cap ∧ cap ≤ maxLen ∧ ∃ b o, a = some ⟨b, o, none⟩ ∧ b < w.heap.size ∧ ∀ j, (hj : j < P.length) → w.cell? ⟨b, o + j, none⟩ = some (S P[j]) := by
  obtain ⟨a', cap', e, h1, h2, h3⟩ := h
  cases e
  refine ⟨rfl, h1, h2, ?_⟩
  rcases h3 with rfl | h3
  · simp at hp
  · exact h3

theorem rev_get {P : List (List UInt8)} {k : Nat} (hk : k < P.length) : P.reverse[k]'(by simpa using hk) = P[P.length - 1 - k]'(by omega) := by
  rw [List.getElem_reverse]

set_option maxRecDepth 20000 in
set_option maxHeartbeats 1000000 in
theorem alikeFromRight_any (va vb : Value) (A B : List (List UInt8)) (w : World) (hra : Row w va A) (hrb : Row w vb B) :
    Calls Tryz.prog 272 #[va, vb] w fun e w' => e = .returned (.int .i64 (alike A.reverse B.reverse : Nat)) ∧ Below w.heap.size w w' := by
  obtain ⟨aa, ca, rfl, hca, hma, hrowa⟩ := hra
  obtain ⟨ab, cb, rfl, hcb, hmb, hrowb⟩ := hrb
  unfold maxLen at hma hmb
  have HA : Hid (A = [] ∨ ∃ b o, aa = some ⟨b, o, none⟩ ∧ b < w.heap.size ∧ ∀ j, (hj : j < A.length) → w.cell? ⟨b, o + j, none⟩ = some (S A[j])) := hrowa
  have HB : Hid (B = [] ∨ ∃ b o, ab = some ⟨b, o, none⟩ ∧ b < w.heap.size ∧ ∀ j, (hj : j < B.length) → w.cell? ⟨b, o + j, none⟩ = some (S B[j])) := hrowb
  clear hrowa hrowb
  go_enter Tryz.func272, Tryz.ntmps272
  go_wp2_with fail
  go_loopw [5] (fun i wr => ∃ k : Nat, k ≤ A.length ∧ k ≤ B.length ∧ i = .int .i64 k ∧ Hid (k ≤ alike A.reverse B.reverse) ∧ Below w.heap.size w wr) (fun i _ => A.length - (intOf i).toNat)
  case atStart => exact ⟨0, Nat.zero_le _, Nat.zero_le _, rfl, Nat.zero_le _, Below.refl _ _⟩
  case round =>
    obtain ⟨k, hkA, hkB, rfl, HK, hb⟩ := hrel
    have hle := alike_le A.reverse B.reverse
    have hleA : alike A.reverse B.reverse ≤ A.length := by simpa using hle.1
    have hleB : alike A.reverse B.reverse ≤ B.length := by simpa using hle.2
    have HLA : Hid (alike A.reverse B.reverse ≤ A.length ∧ alike A.reverse B.reverse ≤ B.length) := ⟨hleA, hleB⟩
    clear hle hleA hleB
    by_cases hA : k < A.length
    · by_cases hB : k < B.length
      · have dA : decide ((k : Int) < (A.length : Int)) = true := by simp; omega
        have dB : decide ((k : Int) < (B.length : Int)) = true := by simp; omega
        rcases HA.out with hr | ⟨ba, oa, ha, hba, hcA⟩
        · rw [hr] at hA; simp at hA
        rcases HB.out with hr | ⟨bb, ob, hb', hbb, hcB⟩
        · rw [hr] at hB; simp at hB
        rw [ha, hb']
        have cA := hcA (A.length - 1 - k) (by omega)
        have cB := hcB (B.length - 1 - k) (by omega)
        rw [← hb.cell (p := ⟨ba, oa + (A.length - 1 - k), none⟩) hba] at cA
        rw [← hb.cell (p := ⟨bb, ob + (B.length - 1 - k), none⟩) hbb] at cB
        obtain ⟨x, hx⟩ : ∃ x, x = A[A.length - 1 - k]'(by omega) := ⟨_, rfl⟩
        obtain ⟨y, hy⟩ : ∃ y, y = B[B.length - 1 - k]'(by omega) := ⟨_, rfl⟩
        rw [← hx] at cA
        rw [← hy] at cB
        unfold S at cA cB
        have HX : Hid (A.reverse[k]'(by simpa using hA) = x ∧ B.reverse[k]'(by simpa using hB) = y) := ⟨by rw [rev_get hA, hx], by rw [rev_get hB, hy]⟩
        clear hcA hcB hx hy
        by_cases hxy : x = y
        · have HN : Hid (k + 1 ≤ alike A.reverse B.reverse) := alike_step _ _ k HK.out _ _ (by rw [HX.out.1, HX.out.2]; exact hxy)
          clear HX
          subst hxy
          go_wp2_with fail
          go_quiet (fail)
          go_wp2_with fail
          go_roundw
          case rel => exact ⟨k + 1, by omega, by omega, by go_num, HN, below_drewN hb _⟩
          case measure => simp [intOf]; omega
        · have e1 : (x == y) = false := by simpa using hxy
          have HN : Hid (alike A.reverse B.reverse = k) := alike_stop _ _ k HK.out _ _ (by rw [HX.out.1, HX.out.2]; exact hxy)
          clear HX hxy
          go_wp2_with fail
          go_quiet (fail)
          go_wp2_with fail
          go_ret
          exact ⟨ret_int (by rw [HN.out]), below_drewN hb _⟩
      · have dA : decide ((k : Int) < (A.length : Int)) = true := by simp; omega
        have dB : decide ((k : Int) < (B.length : Int)) = false := by simp; omega
        go_wp2_with fail
        go_quiet (fail)
        go_wp2_with fail
        go_ret
        exact ⟨ret_int (by have := HLA.out; have := HK.out; omega), below_drewN hb _⟩
    · have dA : decide ((k : Int) < (A.length : Int)) = false := by simp; omega
      go_wp2_with fail
      go_quiet (fail)
      go_wp2_with fail
      go_ret
      exact ⟨ret_int (by have := HLA.out; have := HK.out; omega), below_drewN hb _⟩
end Go.Proofs.YtoobaaklklommaaGreatDoor

namespace Go.Proofs.YtoobaaklklommaaGreatDoor
open Go.RowKit

theorem less_cmp : ∀ a b : List UInt8, Op.bytesLess a b = decide (Lib.compareBytes a b = -1)
  | [], [] => by simp [Op.bytesLess, Lib.compareBytes]
  | [], _ :: _ => by simp [Op.bytesLess, Lib.compareBytes]
  | _ :: _, [] => by simp [Op.bytesLess, Lib.compareBytes]
  | a :: al, b :: bl => by
    have ih := less_cmp al bl
    by_cases h1 : a < b
    · simp [Op.bytesLess, Lib.compareBytes, h1]
    · by_cases h2 : b < a
      · simp [Op.bytesLess, Lib.compareBytes, h1, h2]
        intro h; subst h; exact absurd h2 h1
      · have : a = b := by
          apply UInt8.le_antisymm
          · exact UInt8.not_lt.1 h2
          · exact UInt8.not_lt.1 h1
        subst this
        simp [Op.bytesLess, Lib.compareBytes, ih]
theorem cmp_zero : ∀ a b : List UInt8, Lib.compareBytes a b = 0 → a = b
  | [], [], _ => rfl
  | [], _ :: _, h => by simp [Lib.compareBytes] at h
  | _ :: _, [], h => by simp [Lib.compareBytes] at h
  | a :: al, b :: bl, h => by
    unfold Lib.compareBytes at h
    by_cases h1 : a < b
    · rw [if_pos h1] at h; cases h
    · by_cases h2 : b < a
      · rw [if_neg h1, if_pos h2] at h; cases h
      · rw [if_neg h1, if_neg h2] at h
        have : a = b := UInt8.le_antisymm (UInt8.not_lt.1 h2) (UInt8.not_lt.1 h1)
        rw [this, cmp_zero al bl h]
theorem cmp_swap : ∀ a b : List UInt8, Lib.compareBytes b a = - Lib.compareBytes a b
  | [], [] => by simp [Lib.compareBytes]
  | [], _ :: _ => by simp [Lib.compareBytes]
  | _ :: _, [] => by simp [Lib.compareBytes]
  | a :: al, b :: bl => by
    have ih := cmp_swap al bl
    unfold Lib.compareBytes
    by_cases h1 : a < b
    · have h2 : ¬ b < a := fun h => absurd (UInt8.lt_trans h1 h) (UInt8.lt_irrefl a)
      simp [h1, h2]
    · by_cases h2 : b < a
      · simp [h1, h2]
      · simp [h1, h2, ih]
theorem cmp_self (a : List UInt8) : Lib.compareBytes a a = 0 := by have := cmp_swap a a; omega
theorem cmp_vals : ∀ a b : List UInt8, Lib.compareBytes a b = -1 ∨ Lib.compareBytes a b = 0 ∨ Lib.compareBytes a b = 1
  | [], [] => by simp [Lib.compareBytes]
  | [], _ :: _ => by simp [Lib.compareBytes]
  | _ :: _, [] => by simp [Lib.compareBytes]
  | a :: al, b :: bl => by
    have ih := cmp_vals al bl
    unfold Lib.compareBytes
    split
    · simp
    · split
      · simp
      · exact ih

/-- The order of two names, by their labels from the right. -/
def cmpR : List (List UInt8) → List (List UInt8) → Int
  | [], [] => 0
  | [], _ :: _ => -1
  | _ :: _, [] => 1
  | p :: a, q :: b => if p = q then cmpR a b else Lib.compareBytes p q
theorem cmpR_end : ∀ a b : List (List UInt8), (alike a b = a.length ∨ alike a b = b.length) → cmpR a b = Lib.compareInt a.length b.length
  | [], [], _ => by simp [cmpR, Lib.compareInt]
  | [], _ :: _, _ => by simp [cmpR, Lib.compareInt]; try omega
  | _ :: _, [], _ => by simp [cmpR, Lib.compareInt]; try omega
  | p :: a, q :: b, h => by
    by_cases hpq : p = q
    · simp only [alike, hpq, if_true, List.length_cons] at h
      have := cmpR_end a b (by omega)
      simp only [cmpR, hpq, if_true, this, Lib.compareInt, List.length_cons]
      (repeat' split) <;> omega
    · simp [alike, hpq] at h
theorem cmpR_mid : ∀ (a b : List (List UInt8)) (ha : alike a b < a.length) (hb : alike a b < b.length), cmpR a b = Lib.compareBytes (a[alike a b]) (b[alike a b])
  | [], _, ha, _ => by simp at ha
  | _ :: _, [], _, hb => by simp at hb
  | p :: a, q :: b, ha, hb => by
    by_cases hpq : p = q
    · have e : alike (p :: a) (q :: b) = alike a b + 1 := by simp [alike, hpq]
      have := cmpR_mid a b (by simp [e] at ha; omega) (by simp [e] at hb; omega)
      simp only [cmpR, hpq, if_true, this]
      congr 1 <;> (simp only [alike, if_true]; rfl)
    · have e : alike (p :: a) (q :: b) = 0 := by simp [alike, hpq]
      simp only [cmpR, hpq, if_false]
      congr 1 <;> simp [alike, hpq]
end Go.Proofs.YtoobaaklklommaaGreatDoor

namespace Go.Proofs.YtoobaaklklommaaGreatDoor
open Go.RowKit

set_option maxRecDepth 20000 in
set_option maxHeartbeats 1000000 in
theorem compareLabels_any (va vb : Value) (A B : List (List UInt8)) (w : World) (hra : Row w va A) (hrb : Row w vb B) :
    Calls Tryz.prog 258 #[va, vb] w fun e w' => e = .returned (.int .i64 (cmpR A.reverse B.reverse)) ∧ Below w.heap.size w w' := by
  have hra0 := hra
  have hrb0 := hrb
  obtain ⟨aa, ca, rfl, hca, hma, hrowa⟩ := hra
  obtain ⟨ab, cb, rfl, hcb, hmb, hrowb⟩ := hrb
  unfold maxLen at hma hmb
  have HA : Hid (A = [] ∨ ∃ b o, aa = some ⟨b, o, none⟩ ∧ b < w.heap.size ∧ ∀ j, (hj : j < A.length) → w.cell? ⟨b, o + j, none⟩ = some (S A[j])) := hrowa
  have HB : Hid (B = [] ∨ ∃ b o, ab = some ⟨b, o, none⟩ ∧ b < w.heap.size ∧ ∀ j, (hj : j < B.length) → w.cell? ⟨b, o + j, none⟩ = some (S B[j])) := hrowb
  clear hrowa hrowb
  have hle := alike_le A.reverse B.reverse
  obtain ⟨n, hn⟩ : ∃ n, n = alike A.reverse B.reverse := ⟨_, rfl⟩
  rw [← hn] at hle
  have hleA : n ≤ A.length := by simpa using hle.1
  have hleB : n ≤ B.length := by simpa using hle.2
  have HNN : Hid (n = alike A.reverse B.reverse) := hn
  clear hn hle
  by_cases h1 : n = A.length ∨ n = B.length
  · have HE : Hid (cmpR A.reverse B.reverse = Lib.compareInt A.length B.length) := by
      have := cmpR_end A.reverse B.reverse (by rw [← HNN.out]; simpa using h1)
      rw [this]; exact (by simp : Lib.compareInt A.reverse.length B.reverse.length = Lib.compareInt A.length B.length)
    rcases h1 with h1 | h1
    · have e1 : ((n : Int) == (A.length : Int)) = true := by simp; omega
      have H1 : Hid (n = A.length) := h1
      clear h1
      go_enter Tryz.func258, Tryz.ntmps258
      go_wp2_with fail
      refine (alikeFromRight_any _ _ A B w hra0 hrb0).mono ?_
      rintro e w1 ⟨rfl, hb⟩
      rw [← HNN.out]
      go_wp2_with fail
      refine (Tryz.cmp_Compare_int _ _ _).mono ?_
      rintro e w2 ⟨rfl, rfl⟩
      go_wp2_with fail
      go_ret
      exact ⟨ret_int HE.out.symm, hb⟩
    · by_cases h2 : n = A.length
      · have e1 : ((n : Int) == (A.length : Int)) = true := by simp; omega
        have H1 : Hid (n = B.length ∧ n = A.length) := ⟨h1, h2⟩
        clear h1 h2
        go_enter Tryz.func258, Tryz.ntmps258
        go_wp2_with fail
        refine (alikeFromRight_any _ _ A B w hra0 hrb0).mono ?_
        rintro e w1 ⟨rfl, hb⟩
        rw [← HNN.out]
        go_wp2_with fail
        refine (Tryz.cmp_Compare_int _ _ _).mono ?_
        rintro e w2 ⟨rfl, rfl⟩
        go_wp2_with fail
        go_ret
        exact ⟨ret_int HE.out.symm, hb⟩
      · have e1 : ((n : Int) == (A.length : Int)) = false := by simp; omega
        have e2 : ((n : Int) == (B.length : Int)) = true := by simp; omega
        have H1 : Hid (n = B.length) := h1
        clear h1 h2
        go_enter Tryz.func258, Tryz.ntmps258
        go_wp2_with fail
        refine (alikeFromRight_any _ _ A B w hra0 hrb0).mono ?_
        rintro e w1 ⟨rfl, hb⟩
        rw [← HNN.out]
        go_wp2_with fail
        refine (Tryz.cmp_Compare_int _ _ _).mono ?_
        rintro e w2 ⟨rfl, rfl⟩
        go_wp2_with fail
        go_ret
        exact ⟨ret_int HE.out.symm, hb⟩
  · have hA : n < A.length := by omega
    have hB : n < B.length := by omega
    have e1 : ((n : Int) == (A.length : Int)) = false := by simp; omega
    have e2 : ((n : Int) == (B.length : Int)) = false := by simp; omega
    clear h1
    rcases HA.out with hr | ⟨ba, oa, ha, hba, hcA⟩
    · rw [hr] at hA; simp at hA
    rcases HB.out with hr | ⟨bb, ob, hb', hbb, hcB⟩
    · rw [hr] at hB; simp at hB
    have hfin := cmpR_mid A.reverse B.reverse (by rw [← HNN.out]; simpa using hA) (by rw [← HNN.out]; simpa using hB)
    obtain ⟨x, hx⟩ : ∃ x, x = A[A.length - 1 - n]'(by omega) := ⟨_, rfl⟩
    obtain ⟨y, hy⟩ : ∃ y, y = B[B.length - 1 - n]'(by omega) := ⟨_, rfl⟩
    have hf0 : cmpR A.reverse B.reverse = Lib.compareBytes x y := by
      rw [hfin, hx, hy, ← rev_get hA, ← rev_get hB]
      simp only [← HNN.out]
    have HF : Hid (cmpR A.reverse B.reverse = Lib.compareBytes x y) := hf0
    have cA := hcA (A.length - 1 - n) (by omega)
    have cB := hcB (B.length - 1 - n) (by omega)
    rw [← hx] at cA
    rw [← hy] at cB
    unfold S at cA cB
    have HCA : Hid (w.cell? ⟨ba, oa + (A.length - 1 - n), none⟩ = some (.string ⟨x.toArray⟩)) := cA
    have HCB : Hid (w.cell? ⟨bb, ob + (B.length - 1 - n), none⟩ = some (.string ⟨y.toArray⟩)) := cB
    clear hcA hcB hx hy cA cB hfin hf0
    subst ha hb'
    go_enter Tryz.func258, Tryz.ntmps258
    go_wp2_with fail
    refine (alikeFromRight_any _ _ A B w hra0 hrb0).mono ?_
    rintro e w1 ⟨rfl, hb⟩
    rw [← HNN.out]
    have cA1 : w1.cell? ⟨ba, oa + (A.length - 1 - n), none⟩ = some (.string ⟨x.toArray⟩) := by rw [hb.cell (p := ⟨ba, oa + (A.length - 1 - n), none⟩) hba]; exact HCA.out
    have cB1 : w1.cell? ⟨bb, ob + (B.length - 1 - n), none⟩ = some (.string ⟨y.toArray⟩) := by rw [hb.cell (p := ⟨bb, ob + (B.length - 1 - n), none⟩) hbb]; exact HCB.out
    clear hra0 hrb0
    go_wp2_with fail
    go_quiet ((go_at_call 247; exact Calls.quiet_of_same (Tryz.strings_Compare _ _ _)))
    go_wp2_with fail
    go_ret
    exact ⟨ret_int HF.out.symm, below_drewN hb _⟩
end Go.Proofs.YtoobaaklklommaaGreatDoor
