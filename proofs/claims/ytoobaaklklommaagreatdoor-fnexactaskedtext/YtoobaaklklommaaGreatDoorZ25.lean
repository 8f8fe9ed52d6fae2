import Derived.Test.YtoobaaklklommaaGreatDoorZ24
import Derived.Test.YtoobaaklklommaaGreatDoorZ07
import Derived.Test.YtoobaaklklommaaGreatDoorZ10
namespace Go.Proofs.YtoobaaklklommaaGreatDoor
open Go.RowKit

set_option maxRecDepth 20000 in
set_option maxHeartbeats 2000000 in
theorem l1Compare_any (s t : ByteArray) (w : World) (hs : s.size ≤ 4294967280) (ht : t.size ≤ 4294967280) (hN : Hid (nameB s.data.toList = true ∧ nameB t.data.toList = true)) :
    Calls Tryz.prog 184 #[.string s, .string t] w fun e w' => e = .returned (.int .i64 (cmpR (labelsOf s.data.toList).reverse (labelsOf t.data.toList).reverse)) ∧ Below w.heap.size w w' := by
  go_enter Tryz.func184, Tryz.ntmps184
  go_wp2_with fail
  refine (l1Labels_any s w hs).mono ?_
  rintro e w1 ⟨va, rfl, hownA, hb1⟩
  have hrA := row_own (hownA hN.out.1)
  clear hownA
  go_wp2_with fail
  refine (l1Labels_any t w1 ht).mono ?_
  rintro e w2 ⟨vb, rfl, hownB, hb2⟩
  have hrB := row_own (hownB hN.out.2)
  have hrA2 := hrA.kept hb2
  have hbb := hb1.trans (hb2.mono hb1.size)
  clear hownB hrA hb1 hb2
  obtain ⟨A, hA⟩ : ∃ A, A = labelsOf s.data.toList := ⟨_, rfl⟩
  obtain ⟨B, hB⟩ : ∃ B, B = labelsOf t.data.toList := ⟨_, rfl⟩
  rw [← hA] at hrA2
  rw [← hB] at hrB
  have HAB : Hid (A = labelsOf s.data.toList ∧ B = labelsOf t.data.toList) := ⟨hA, hB⟩
  have h8 : A.length ≤ 8 := by rw [hA]; exact name_eight hN.out.1
  clear hA hB
  obtain ⟨aa, ca, hva, hca, hma, HCA⟩ := row_value hrA2
  obtain ⟨ab, cb, hvb, hcb, hmb, HCB⟩ := row_value hrB
  rw [hva, hvb]
  clear hva hvb hrA2 hrB
  go_wp2_with fail
  go_loop [9] (fun i => ∃ k : Nat, k ≤ A.length ∧ k ≤ B.length ∧ i = .int .i64 ((k : Int) + 1) ∧ Hid (k ≤ alike A.reverse B.reverse)) (fun i => A.length + 1 - (intOf i).toNat)
  case atStart => exact ⟨0, Nat.zero_le _, Nat.zero_le _, rfl, Nat.zero_le _⟩
  case round =>
    obtain ⟨k, hkA, hkB, rfl, HK⟩ := hrel
    by_cases hA : k < A.length
    · by_cases hB : k < B.length
      · obtain ⟨ba, oa, ha, hba, hcA⟩ := HCA.out (by omega)
        obtain ⟨bb, ob, hb', hbb', hcB⟩ := HCB.out (by omega)
        rw [ha, hb']
        have cA := hcA (A.length - (k + 1)) (by omega)
        have cB := hcB (B.length - (k + 1)) (by omega)
        obtain ⟨x, hx⟩ : ∃ x, x = A[A.length - (k + 1)]'(by omega) := ⟨_, rfl⟩
        obtain ⟨y, hy⟩ : ∃ y, y = B[B.length - (k + 1)]'(by omega) := ⟨_, rfl⟩
        rw [← hx] at cA
        rw [← hy] at cB
        unfold S at cA cB
        have HX : Hid (A.reverse[k]'(by simpa using hA) = x ∧ B.reverse[k]'(by simpa using hB) = y) := ⟨by rw [rev_get hA, hx]; congr 1; omega, by rw [rev_get hB, hy]; congr 1; omega⟩
        clear hcA hcB hx hy
        by_cases hxy : x = y
        · have HN : Hid (k + 1 ≤ alike A.reverse B.reverse) := alike_step _ _ k HK.out _ _ (by rw [HX.out.1, HX.out.2]; exact hxy)
          clear HX
          subst hxy
          have e1 : Op.bytesLess x x = false := by rw [less_cmp, cmp_self]; rfl
          go_wp2_with fail
          go_round
          case rel => exact ⟨k + 1, by omega, by omega, by go_num, HN⟩
          case measure => simp [intOf]; omega
        · have e0 : (x == y) = false := by simpa using hxy
          have hal : alike A.reverse B.reverse = k := alike_stop _ _ k HK.out _ _ (by rw [HX.out.1, HX.out.2]; exact hxy)
          have hcr : cmpR A.reverse B.reverse = Lib.compareBytes x y := by
            rw [cmpR_mid A.reverse B.reverse (by rw [hal]; simpa using hA) (by rw [hal]; simpa using hB)]
            simp only [hal, HX.out.1, HX.out.2]
          rcases cmp_vals x y with hc | hc | hc
          · have HF : Hid (cmpR A.reverse B.reverse = -1) := by rw [hcr, hc]; exact rfl
            have e1 : Op.bytesLess x y = true := by rw [less_cmp, hc]; rfl
            clear HX hxy hal hcr hc
            go_wp2_with fail
            go_ret
            exact ⟨ret_int (by rw [← HAB.out.1, ← HAB.out.2, HF.out]), hbb⟩
          · exact absurd (cmp_zero x y hc) hxy
          · have HF : Hid (cmpR A.reverse B.reverse = 1) := by rw [hcr, hc]; exact rfl
            have e1 : Op.bytesLess x y = false := by rw [less_cmp, hc]; rfl
            clear HX hxy hal hcr hc
            go_wp2_with fail
            go_ret
            exact ⟨ret_int (by rw [← HAB.out.1, ← HAB.out.2, HF.out]), hbb⟩
      · have hle := (alike_le A.reverse B.reverse).2
        have HE : Hid (cmpR A.reverse B.reverse = Lib.compareInt A.length B.length) := by
          have := cmpR_end A.reverse B.reverse (.inr (by have := HK.out; simp at hle ⊢; omega))
          rw [this]; exact (by simp : Lib.compareInt A.reverse.length B.reverse.length = Lib.compareInt A.length B.length)
        clear hle
        go_wp2_with fail
        all_goals go_ret
        all_goals refine ⟨ret_int ?_, hbb⟩
        all_goals rw [← HAB.out.1, ← HAB.out.2, HE.out]
        all_goals (unfold Lib.compareInt; (repeat' split) <;> omega)
    · have hle := (alike_le A.reverse B.reverse).1
      have HE : Hid (cmpR A.reverse B.reverse = Lib.compareInt A.length B.length) := by
        have := cmpR_end A.reverse B.reverse (.inl (by have := HK.out; simp at hle ⊢; omega))
        rw [this]; exact (by simp : Lib.compareInt A.reverse.length B.reverse.length = Lib.compareInt A.length B.length)
      clear hle
      go_wp2_with fail
      all_goals go_ret
      all_goals refine ⟨ret_int ?_, hbb⟩
      all_goals rw [← HAB.out.1, ← HAB.out.2, HE.out]
      all_goals (unfold Lib.compareInt; (repeat' split) <;> omega)

/-- What CompareNames tells. -/
def cmpT (a b : List UInt8) : Int := if nameB a && nameB b then cmpR (labelsOf a).reverse (labelsOf b).reverse else 0
def cmpB (a b : List UInt8) : Bool := nameB a && nameB b




set_option maxRecDepth 20000 in
set_option maxHeartbeats 1000000 in
theorem splitBoth_any (a b : ByteArray) (w : World) (hE : Env w) :
    Calls Tryz.prog 257 #[.string a, .string b] w fun e w' => ∃ va vb, e = .returned (.tuple #[va, vb, .bool (cmpB a.data.toList b.data.toList)]) ∧
      (cmpB a.data.toList b.data.toList = true → w'.ownsRow w.heap.size 9 1 va (labelsOf a.data.toList).length ((labelsOf a.data.toList).map S) ∧ w'.ownsRow w.heap.size 9 1 vb (labelsOf b.data.toList).length ((labelsOf b.data.toList).map S)) ∧ Below w.heap.size w w' := by
  go_enter Tryz.func257, Tryz.ntmps257
  go_wp2_with fail
  refine (splitName_any a w hE).mono ?_
  rintro e w1 ⟨va, rfl, hownA, hnA, hb1⟩
  have HOA : Hid (nameB a.data.toList = true → w1.ownsRow w.heap.size 9 1 va (labelsOf a.data.toList).length ((labelsOf a.data.toList).map S)) := hownA
  clear hownA hnA
  have hE1 := hE.below hb1
  go_wp2_with fail
  refine (splitName_any b w1 hE1).mono ?_
  rintro e w2 ⟨vb, rfl, hownB, hnB, hb2⟩
  have HOB : Hid (nameB b.data.toList = true → w2.ownsRow w1.heap.size 9 1 vb (labelsOf b.data.toList).length ((labelsOf b.data.toList).map S)) := hownB
  clear hownB hnB
  have hbb := hb1.trans (hb2.mono hb1.size)
  cases h1 : nameB a.data.toList with
  | false =>
    have HP : Hid (cmpB a.data.toList b.data.toList = false) := by unfold cmpB; rw [h1]; exact rfl
    clear h1
    go_wp2_with fail
    go_ret3
    refine ⟨_, _, ret_three rfl rfl (val_bool HP.out.symm), ?_, hbb⟩
    intro h; rw [HP.out] at h; cases h
  | true =>
    cases h2 : nameB b.data.toList with
    | false =>
      have HP : Hid (cmpB a.data.toList b.data.toList = false) := by unfold cmpB; rw [h2, Bool.and_false]; exact rfl
      clear h1 h2
      go_wp2_with fail
      go_ret3
      refine ⟨_, _, ret_three rfl rfl (val_bool HP.out.symm), ?_, hbb⟩
      intro h; rw [HP.out] at h; cases h
    | true =>
      have HP : Hid (cmpB a.data.toList b.data.toList = true) := by unfold cmpB; rw [h1, h2]; exact rfl
      have oA := own_below (HOA.out h1) hb2
      have oB := own_mono (HOB.out h2) hb1.size
      have HO : Hid (w2.ownsRow w.heap.size 9 1 va (labelsOf a.data.toList).length ((labelsOf a.data.toList).map S) ∧ w2.ownsRow w.heap.size 9 1 vb (labelsOf b.data.toList).length ((labelsOf b.data.toList).map S)) := ⟨oA, oB⟩
      clear h1 h2 oA oB
      go_wp2_with fail
      go_ret3
      exact ⟨_, _, ret_three rfl rfl (val_bool HP.out.symm), fun _ => HO.out, hbb⟩

set_option maxRecDepth 20000 in
set_option maxHeartbeats 1000000 in
theorem iCompareNames_any (a b : ByteArray) (w : World) (hE : Env w) :
    Calls Tryz.prog 245 #[.string a, .string b] w fun e w' => e = .returned (.tuple #[.int .i64 (cmpT a.data.toList b.data.toList), .bool (cmpB a.data.toList b.data.toList)]) ∧ Below w.heap.size w w' := by
  go_enter Tryz.func245, Tryz.ntmps245
  go_wp2_with fail
  refine (splitBoth_any a b w hE).mono ?_
  rintro e w1 ⟨va, vb, rfl, hown, hb1⟩
  cases h1 : cmpB a.data.toList b.data.toList with
  | false =>
    have HP : Hid (cmpT a.data.toList b.data.toList = 0 ∧ cmpB a.data.toList b.data.toList = false) := by
      refine ⟨?_, h1⟩; unfold cmpT; rw [show (nameB a.data.toList && nameB b.data.toList) = false from h1]; exact rfl
    clear h1 hown
    go_wp2_with fail
    go_ret2
    exact ⟨ret_two (val_int HP.out.1.symm) (val_bool HP.out.2.symm), hb1⟩
  | true =>
    have HP : Hid (cmpT a.data.toList b.data.toList = cmpR (labelsOf a.data.toList).reverse (labelsOf b.data.toList).reverse ∧ cmpB a.data.toList b.data.toList = true) := by
      refine ⟨?_, h1⟩; unfold cmpT; rw [show (nameB a.data.toList && nameB b.data.toList) = true from h1]; exact rfl
    have hrA := row_own (hown h1).1
    have hrB := row_own (hown h1).2
    clear h1 hown
    go_wp2_with fail
    refine (compareLabels_any va vb _ _ w1 hrA hrB).mono ?_
    rintro e w2 ⟨rfl, hb2⟩
    go_wp2_with fail
    go_ret2
    exact ⟨ret_two (val_int HP.out.1.symm) (val_bool HP.out.2.symm), hb1.trans (hb2.mono hb1.size)⟩
end Go.Proofs.YtoobaaklklommaaGreatDoor

namespace Go.Proofs.YtoobaaklklommaaGreatDoor
open Go.RowKit

def lessI (b : Bool) : Int := if b = true then -1 else 1
set_option maxRecDepth 20000 in
set_option maxHeartbeats 400000 in
theorem l3Less_any (b : Bool) (w : World) :
    Calls Tryz.prog 185 #[.bool b] w fun e w' => e = .returned (.int .i64 (lessI b)) ∧ w' = w := by
  cases b
  all_goals
    go_enter Tryz.func185, Tryz.ntmps185
    go_wp2_with fail
    go_ret
    exact ⟨rfl, rfl⟩

/-- The order of good records. -/
def cmpRec (n1 : List UInt8) (t1 l1 : Int) (d1 : List UInt8) (n2 : List UInt8) (t2 l2 : Int) (d2 : List UInt8) : Int :=
  if cmpR (labelsOf n1).reverse (labelsOf n2).reverse ≠ 0 then cmpR (labelsOf n1).reverse (labelsOf n2).reverse
  else if t1 ≠ t2 then lessI (decide (t1 < t2))
  else if (dataP t1 d1).getD [] ≠ (dataP t2 d2).getD [] then lessI (Op.bytesLess ((dataP t1 d1).getD []) ((dataP t2 d2).getD []))
  else if l1 ≠ l2 then lessI (decide (l1 < l2)) else 0
theorem recB_name {nm d : List UInt8} {ty ttl : Int} (h : recB nm ty ttl d = true) : nameB nm = true ∧ (dataP ty d).isSome = true := by
  unfold recB at h; simp only [Bool.and_eq_true] at h; exact ⟨h.2.1, h.1⟩
theorem some_of {D : Option (List UInt8)} (h : D.isSome = true) : D = some (D.getD []) := by
  cases D with
  | none => cases h
  | some y => rfl

end Go.Proofs.YtoobaaklklommaaGreatDoor
