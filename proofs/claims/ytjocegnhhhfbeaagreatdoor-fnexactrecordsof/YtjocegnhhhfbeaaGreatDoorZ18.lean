import Derived.Test.YtjocegnhhhfbeaaGreatDoorZ17
import Derived.Test.YtjocegnhhhfbeaaGreatDoorZ08
import Derived.Sort.Grow
namespace Go.Proofs.YtjocegnhhhfbeaaGreatDoor
open Go.RowKit

set_option maxRecDepth 20000 in
set_option maxHeartbeats 2000000 in
theorem l1Compare_any (s t : ByteArray) (w : World) (hs : s.size ≤ 4294967280) (ht : t.size ≤ 4294967280) (hN : Hid (nameB s.data.toList = true ∧ nameB t.data.toList = true)) :
    Calls Tryz.prog 53 #[.string s, .string t] w fun e w' => e = .returned (.int .i64 (cmpR (labelsOf s.data.toList).reverse (labelsOf t.data.toList).reverse)) ∧ Below w.heap.size w w' := by
  go_enter Tryz.func53, Tryz.ntmps53
  go_wp2_with fail
  refine (l1Labels_any s w hs).mono ?_
  rintro e w1 ⟨va, rfl, hownA, hb1⟩
  have hrA := row_own (hownA hN.out.1)
  clear hownA
  go_wp2_with fail
  refine (l1Labels_any t w1 ht).mono ?_
  rintro e w2 ⟨vb, rfl, hownB, hb2⟩
  have hrB := row_own (hownB hN.out.2)
  have hrA2 := hrA.kept hb2
  have hbb := hb1.trans (hb2.mono hb1.size)
  clear hownB hrA hb1 hb2
  obtain ⟨A, hA⟩ : ∃ A, A = labelsOf s.data.toList := ⟨_, rfl⟩
  obtain ⟨B, hB⟩ : ∃ B, B = labelsOf t.data.toList := ⟨_, rfl⟩
  rw [← hA] at hrA2
  rw [← hB] at hrB
  have HAB : Hid (A = labelsOf s.data.toList ∧ B = labelsOf t.data.toList) := ⟨hA, hB⟩
  have h8 : A.length ≤ 8 := by rw [hA]; exact name_eight hN.out.1
  clear hA hB
  obtain ⟨aa, ca, hva, hca, hma, HCA⟩ := row_value hrA2
  obtain ⟨ab, cb, hvb, hcb, hmb, HCB⟩ := row_value hrB
  rw [hva, hvb]
  clear hva hvb hrA2 hrB
  go_wp2_with fail
  go_loop [9] (fun i => ∃ k : Nat, k ≤ A.length ∧ k ≤ B.length ∧ i = .int .i64 ((k : Int) + 1) ∧ Hid (k ≤ alike A.reverse B.reverse)) (fun i => A.length + 1 - (intOf i).toNat)
  case atStart => exact ⟨0, Nat.zero_le _, Nat.zero_le _, rfl, Nat.zero_le _⟩
  case round =>
    obtain ⟨k, hkA, hkB, rfl, HK⟩ := hrel
    by_cases hA : k < A.length
    · by_cases hB : k < B.length
      · obtain ⟨ba, oa, ha, hba, hcA⟩ := HCA.out (by omega)
        obtain ⟨bb, ob, hb', hbb', hcB⟩ := HCB.out (by omega)
        rw [ha, hb']
        have cA := hcA (A.length - (k + 1)) (by omega)
        have cB := hcB (B.length - (k + 1)) (by omega)
        obtain ⟨x, hx⟩ : ∃ x, x = A[A.length - (k + 1)]'(by omega) := ⟨_, rfl⟩
        obtain ⟨y, hy⟩ : ∃ y, y = B[B.length - (k + 1)]'(by omega) := ⟨_, rfl⟩
        rw [← hx] at cA
        rw [← hy] at cB
        unfold S at cA cB
        have HX : Hid (A.reverse[k]'(by simpa using hA) = x ∧ B.reverse[k]'(by simpa using hB) = y) := ⟨by rw [rev_get hA, hx]; congr 1; omega, by rw [rev_get hB, hy]; congr 1; omega⟩
        clear hcA hcB hx hy
        by_cases hxy : x = y
        · have HN : Hid (k + 1 ≤ alike A.reverse B.reverse) := alike_step _ _ k HK.out _ _ (by rw [HX.out.1, HX.out.2]; exact hxy)
          clear HX
          subst hxy
          have e1 : Op.bytesLess x x = false := by rw [less_cmp, cmp_self]; rfl
          go_wp2_with fail
          go_round
          case rel => exact ⟨k + 1, by omega, by omega, by go_num, HN⟩
          case measure => simp [intOf]; omega
        · have e0 : (x == y) = false := by simpa using hxy
          have hal : alike A.reverse B.reverse = k := alike_stop _ _ k HK.out _ _ (by rw [HX.out.1, HX.out.2]; exact hxy)
          have hcr : cmpR A.reverse B.reverse = Lib.compareBytes x y := by
            rw [cmpR_mid A.reverse B.reverse (by rw [hal]; simpa using hA) (by rw [hal]; simpa using hB)]
            simp only [hal, HX.out.1, HX.out.2]
          rcases cmp_vals x y with hc | hc | hc
          · have HF : Hid (cmpR A.reverse B.reverse = -1) := by rw [hcr, hc]; exact rfl
            have e1 : Op.bytesLess x y = true := by rw [less_cmp, hc]; rfl
            clear HX hxy hal hcr hc
            go_wp2_with fail
            go_ret
            exact ⟨ret_int (by rw [← HAB.out.1, ← HAB.out.2, HF.out]), hbb⟩
          · exact absurd (cmp_zero x y hc) hxy
          · have HF : Hid (cmpR A.reverse B.reverse = 1) := by rw [hcr, hc]; exact rfl
            have e1 : Op.bytesLess x y = false := by rw [less_cmp, hc]; rfl
            clear HX hxy hal hcr hc
            go_wp2_with fail
            go_ret
            exact ⟨ret_int (by rw [← HAB.out.1, ← HAB.out.2, HF.out]), hbb⟩
      · have hle := (alike_le A.reverse B.reverse).2
        have HE : Hid (cmpR A.reverse B.reverse = Lib.compareInt A.length B.length) := by
          have := cmpR_end A.reverse B.reverse (.inr (by have := HK.out; simp at hle ⊢; omega))
          rw [this]; exact (by simp : Lib.compareInt A.reverse.length B.reverse.length = Lib.compareInt A.length B.length)
        clear hle
        go_wp2_with fail
        all_goals go_ret
        all_goals refine ⟨ret_int ?_, hbb⟩
        all_goals rw [← HAB.out.1, ← HAB.out.2, HE.out]
        all_goals (unfold Lib.compareInt; (repeat' split) <;> omega)
    · have hle := (alike_le A.reverse B.reverse).1
      have HE : Hid (cmpR A.reverse B.reverse = Lib.compareInt A.length B.length) := by
        have := cmpR_end A.reverse B.reverse (.inl (by have := HK.out; simp at hle ⊢; omega))
        rw [this]; exact (by simp : Lib.compareInt A.reverse.length B.reverse.length = Lib.compareInt A.length B.length)
      clear hle
      go_wp2_with fail
      all_goals go_ret
      all_goals refine ⟨ret_int ?_, hbb⟩
      all_goals rw [← HAB.out.1, ← HAB.out.2, HE.out]
      all_goals (unfold Lib.compareInt; (repeat' split) <;> omega)

/-- What CompareNames tells. -/
def cmpT (a b : List UInt8) : Int := if nameB a && nameB b then cmpR (labelsOf a).reverse (labelsOf b).reverse else 0
def cmpB (a b : List UInt8) : Bool := nameB a && nameB b




set_option maxRecDepth 20000 in
set_option maxHeartbeats 1000000 in
theorem splitBoth_any (a b : ByteArray) (w : World) (hE : Env w) :
    Calls Tryz.prog 87 #[.string a, .string b] w fun e w' => ∃ va vb, e = .returned (.tuple #[va, vb, .bool (cmpB a.data.toList b.data.toList)]) ∧
      (cmpB a.data.toList b.data.toList = true → w'.ownsRow w.heap.size 9 1 va (labelsOf a.data.toList).length ((labelsOf a.data.toList).map S) ∧ w'.ownsRow w.heap.size 9 1 vb (labelsOf b.data.toList).length ((labelsOf b.data.toList).map S)) ∧ Below w.heap.size w w' := by
  go_enter Tryz.func87, Tryz.ntmps87
  go_wp2_with fail
  refine (splitName_any a w hE).mono ?_
  rintro e w1 ⟨va, rfl, hownA, hnA, hb1⟩
  have HOA : Hid (nameB a.data.toList = true → w1.ownsRow w.heap.size 9 1 va (labelsOf a.data.toList).length ((labelsOf a.data.toList).map S)) := hownA
  clear hownA hnA
  have hE1 := hE.below hb1
  go_wp2_with fail
  refine (splitName_any b w1 hE1).mono ?_
  rintro e w2 ⟨vb, rfl, hownB, hnB, hb2⟩
  have HOB : Hid (nameB b.data.toList = true → w2.ownsRow w1.heap.size 9 1 vb (labelsOf b.data.toList).length ((labelsOf b.data.toList).map S)) := hownB
  clear hownB hnB
  have hbb := hb1.trans (hb2.mono hb1.size)
  cases h1 : nameB a.data.toList with
  | false =>
    have HP : Hid (cmpB a.data.toList b.data.toList = false) := by unfold cmpB; rw [h1]; exact rfl
    clear h1
    go_wp2_with fail
    go_ret3
    refine ⟨_, _, ret_three rfl rfl (val_bool HP.out.symm), ?_, hbb⟩
    intro h; rw [HP.out] at h; cases h
  | true =>
    cases h2 : nameB b.data.toList with
    | false =>
      have HP : Hid (cmpB a.data.toList b.data.toList = false) := by unfold cmpB; rw [h2, Bool.and_false]; exact rfl
      clear h1 h2
      go_wp2_with fail
      go_ret3
      refine ⟨_, _, ret_three rfl rfl (val_bool HP.out.symm), ?_, hbb⟩
      intro h; rw [HP.out] at h; cases h
    | true =>
      have HP : Hid (cmpB a.data.toList b.data.toList = true) := by unfold cmpB; rw [h1, h2]; exact rfl
      have oA := own_below (HOA.out h1) hb2
      have oB := own_mono (HOB.out h2) hb1.size
      have HO : Hid (w2.ownsRow w.heap.size 9 1 va (labelsOf a.data.toList).length ((labelsOf a.data.toList).map S) ∧ w2.ownsRow w.heap.size 9 1 vb (labelsOf b.data.toList).length ((labelsOf b.data.toList).map S)) := ⟨oA, oB⟩
      clear h1 h2 oA oB
      go_wp2_with fail
      go_ret3
      exact ⟨_, _, ret_three rfl rfl (val_bool HP.out.symm), fun _ => HO.out, hbb⟩

set_option maxRecDepth 20000 in
set_option maxHeartbeats 1000000 in
theorem iCompareNames_any (a b : ByteArray) (w : World) (hE : Env w) :
    Calls Tryz.prog 75 #[.string a, .string b] w fun e w' => e = .returned (.tuple #[.int .i64 (cmpT a.data.toList b.data.toList), .bool (cmpB a.data.toList b.data.toList)]) ∧ Below w.heap.size w w' := by
  go_enter Tryz.func75, Tryz.ntmps75
  go_wp2_with fail
  refine (splitBoth_any a b w hE).mono ?_
  rintro e w1 ⟨va, vb, rfl, hown, hb1⟩
  cases h1 : cmpB a.data.toList b.data.toList with
  | false =>
    have HP : Hid (cmpT a.data.toList b.data.toList = 0 ∧ cmpB a.data.toList b.data.toList = false) := by
      refine ⟨?_, h1⟩; unfold cmpT; rw [show (nameB a.data.toList && nameB b.data.toList) = false from h1]; exact rfl
    clear h1 hown
    go_wp2_with fail
    go_ret2
    exact ⟨ret_two (val_int HP.out.1.symm) (val_bool HP.out.2.symm), hb1⟩
  | true =>
    have HP : Hid (cmpT a.data.toList b.data.toList = cmpR (labelsOf a.data.toList).reverse (labelsOf b.data.toList).reverse ∧ cmpB a.data.toList b.data.toList = true) := by
      refine ⟨?_, h1⟩; unfold cmpT; rw [show (nameB a.data.toList && nameB b.data.toList) = true from h1]; exact rfl
    have hrA := row_own (hown h1).1
    have hrB := row_own (hown h1).2
    clear h1 hown
    go_wp2_with fail
    refine (compareLabels_any va vb _ _ w1 hrA hrB).mono ?_
    rintro e w2 ⟨rfl, hb2⟩
    go_wp2_with fail
    go_ret2
    exact ⟨ret_two (val_int HP.out.1.symm) (val_bool HP.out.2.symm), hb1.trans (hb2.mono hb1.size)⟩
end Go.Proofs.YtjocegnhhhfbeaaGreatDoor

namespace Go.Proofs.YtjocegnhhhfbeaaGreatDoor
open Go.RowKit

/-- As it was, but for new blocks behind and answers drawn. -/
def Gr (w w' : World) : Prop := Below w.heap.size w w' ∧ w.drawn ≤ w'.drawn
theorem Gr.refl (w : World) : Gr w w := ⟨Below.refl _ _, Nat.le_refl _⟩
theorem Gr.trans {a b c : World} (h : Gr a b) (k : Gr b c) : Gr a c := ⟨h.1.trans (k.1.mono h.1.size), Nat.le_trans h.2 k.2⟩
theorem Gr.alloc {a w : World} (h : Gr a w) (o : Obj) : Gr a (w.alloc o) := ⟨h.1.alloc h.1.size o, h.2⟩
theorem Gr.drewN {a w : World} (h : Gr a w) (n : Nat) : Gr a (w.drewN n) := ⟨below_drewN h.1 n, Nat.le_trans h.2 (by show w.drawn ≤ w.drawn + n; omega)⟩
theorem Gr.grow {w w' : World} (h : Gr w w') : ∃ q os, w' = Go.Sort.grow (w.drewN q) os := by
  refine ⟨w'.drawn - w.drawn, (w'.heap.toList.drop w.heap.size).toArray, ?_⟩
  have hd : w.drawn + (w'.drawn - w.drawn) = w'.drawn := by have := h.2; omega
  have hh : w'.heap = w.heap ++ (w'.heap.toList.drop w.heap.size).toArray := by
    apply Array.ext'
    rw [Array.toList_append]
    have : w'.heap.toList.take w.heap.size = w.heap.toList := by
      apply List.ext_getElem?
      intro i
      by_cases hi : i < w.heap.size
      · rw [List.getElem?_take_of_lt hi, Array.getElem?_toList, Array.getElem?_toList, h.1.block i hi]
      · rw [List.getElem?_eq_none (by simp; omega), List.getElem?_eq_none (by simpa using hi)]
    rw [← this]; simp
  obtain ⟨hp, tp, dr, os, out⟩ := w
  obtain ⟨hp', tp', dr', os', out'⟩ := w'
  have h1 := h.1.os; have h2 := h.1.tape; have h3 := h.1.output
  simp only at hd hh h1 h2 h3
  subst h1 h2 h3
  show (⟨hp', tp', dr', os', out'⟩ : World) = ⟨hp ++ _, tp', dr + (dr' - dr), os', out'⟩
  rw [hd, ← hh]

set_option maxRecDepth 20000 in
set_option maxHeartbeats 400000 in
theorem kind_gr (c : Int) (w : World) (h0 : 0 ≤ c) (h1 : c ≤ 255) (hT : TabIn w) :
    Calls Tryz.prog 115 #[.int .u8 c] w fun e w' => e = .returned (.int .i64 (kindOf c)) ∧ Gr w w' := by
  have t0 : w.cell? ⟨1, 0, none⟩ = some (.int .u8 45) := hT 0 (by decide)
  have t1 : w.cell? ⟨1, 1, none⟩ = some (.int .u8 45) := hT 1 (by decide)
  have t2 : w.cell? ⟨1, 2, none⟩ = some (.int .i64 1) := hT 2 (by decide)
  have t3 : w.cell? ⟨1, 3, none⟩ = some (.int .u8 48) := hT 3 (by decide)
  have t4 : w.cell? ⟨1, 4, none⟩ = some (.int .u8 57) := hT 4 (by decide)
  have t5 : w.cell? ⟨1, 5, none⟩ = some (.int .i64 1) := hT 5 (by decide)
  have t6 : w.cell? ⟨1, 6, none⟩ = some (.int .u8 65) := hT 6 (by decide)
  have t7 : w.cell? ⟨1, 7, none⟩ = some (.int .u8 90) := hT 7 (by decide)
  have t8 : w.cell? ⟨1, 8, none⟩ = some (.int .i64 2) := hT 8 (by decide)
  have t9 : w.cell? ⟨1, 9, none⟩ = some (.int .u8 95) := hT 9 (by decide)
  have t10 : w.cell? ⟨1, 10, none⟩ = some (.int .u8 95) := hT 10 (by decide)
  have t11 : w.cell? ⟨1, 11, none⟩ = some (.int .i64 1) := hT 11 (by decide)
  have t12 : w.cell? ⟨1, 12, none⟩ = some (.int .u8 97) := hT 12 (by decide)
  have t13 : w.cell? ⟨1, 13, none⟩ = some (.int .u8 122) := hT 13 (by decide)
  have t14 : w.cell? ⟨1, 14, none⟩ = some (.int .i64 1) := hT 14 (by decide)
  clear hT
  have x0 := ix0
  have x1 := ix1
  have x2 := ix2
  have x3 := ix3
  have x4 := ix4
  go_enter Tryz.func115, Tryz.ntmps115
  go_wp2
  go_rounds 6
  all_goals go_ret
  all_goals refine ⟨ret_int ?_, ⟨by go_grown, Nat.le_refl _⟩⟩
  all_goals clear x0 x1 x2 x3 x4 t0 t1 t2 t3 t4 t5 t6 t7 t8 t9 t10 t11 t12 t13 t14
  all_goals (unfold kindOf; (repeat' split) <;> omega)

set_option maxRecDepth 20000 in
set_option maxHeartbeats 400000 in
theorem isLabel_gr (s : ByteArray) (w : World) (hs : s.size ≤ maxLen) (hT : TabIn w) :
    Calls Tryz.prog 107 #[.string s] w fun e w' => e = .returned (.bool (labelB s.data.toList)) ∧ Gr w w' := by
  unfold maxLen at hs
  by_cases h1 : s = ⟨#[42]⟩
  · subst h1
    go_enter Tryz.func107, Tryz.ntmps107
    go_wp2
    go_ret
    exact ⟨rfl, Gr.refl _⟩
  · have e1 : (s.toList == [42]) = false := by
      rw [Bool.eq_false_iff]; intro h; exact h1 (data_eq (by rw [← ByteArray.toList_eq]; simpa using h))
    have H1 : Hid (¬ s = ⟨#[42]⟩) := h1
    clear h1
    by_cases h2 : s.size < 1
    · go_enter Tryz.func107, Tryz.ntmps107
      go_wp2
      go_ret
      exact ⟨ret_bool (by rw [label_false1 H1.out h2]), Gr.refl _⟩
    · by_cases h3 : 20 < s.size
      · go_enter Tryz.func107, Tryz.ntmps107
        go_wp2
        go_ret
        exact ⟨ret_bool (by rw [label_false2 H1.out h3]), Gr.refl _⟩
      · have d2 : decide ((s.size : Int) < 1) = false := by simp; omega
        have d3 : decide ((20 : Int) < (s.size : Int)) = false := by simp; omega
        go_enter Tryz.func107, Tryz.ntmps107
        go_wp2_with fail
        go_loopw [3] (fun i wr => ∃ k : Nat, k ≤ s.size ∧ i = .int .i64 k ∧ (s.data.toList.take k).all okC = true ∧ Gr w wr) (fun i _ => s.size - (intOf i).toNat)
        case atStart => exact ⟨0, Nat.zero_le _, rfl, rfl, Gr.refl _⟩
        case round =>
          obtain ⟨k, hk, rfl, hall, hb⟩ := hrel
          have hTr := hT.below hb.1
          have HA : Hid ((s.data.toList.take k).all okC = true) := hall
          clear hall
          by_cases hlt : k < s.size
          · have hbd : (s[k].toNat : Int) ≤ 255 := by have := s[k].toNat_lt; omega
            by_cases ho : (kindOf (s[k].toNat : Int) != 1) = false
            · go_wp2_with fail
              refine (kind_gr _ _ (by omega) hbd hTr).mono ?_
              rintro e w1 ⟨rfl, hb1⟩
              go_wp2_with fail
              go_roundw
              case rel => exact ⟨k + 1, by omega, by go_num, all_step HA.out hlt (by unfold okC; simpa using ho), hb.trans hb1⟩
              case measure => simp [intOf]; omega
            · have ho' : (kindOf (s[k].toNat : Int) != 1) = true := by simpa using ho
              clear ho
              go_wp2_with fail
              refine (kind_gr _ _ (by omega) hbd hTr).mono ?_
              rintro e w1 ⟨rfl, hb1⟩
              go_wp2_with fail
              go_ret
              exact ⟨ret_bool (by rw [label_false3 H1.out (all_not hlt (by unfold okC; simpa using ho'))]), hb.trans hb1⟩
          · go_wp2_with fail
            go_ret
            exact ⟨ret_bool (by rw [label_true (by omega) (by omega) (all_full HA.out hlt)]), hb⟩

set_option maxRecDepth 20000 in
set_option maxHeartbeats 1000000 in
theorem areLabels_gr (v : Value) (P : List (List UInt8)) (w : World) (hT : TabIn w) (hr : Row w v P) (hl : Hid (∀ p ∈ P, p.length ≤ maxLen)) :
    Calls Tryz.prog 100 #[v] w fun e w' => e = .returned (.bool (areB P)) ∧ Gr w w' := by
  obtain ⟨a, cap, rfl, hcap, hmax, hrow⟩ := hr
  unfold maxLen at hmax
  by_cases h8 : (8 : Int) < (P.length : Int)
  · clear hrow
    go_enter Tryz.func100, Tryz.ntmps100
    go_wp2_with fail
    go_ret
    exact ⟨ret_bool (by unfold areB; rw [decide_eq_false (by omega)]; rfl), Gr.refl _⟩
  · have HROW : Hid (P = [] ∨ ∃ b o, a = some ⟨b, o, none⟩ ∧ b < w.heap.size ∧ ∀ j, (hj : j < P.length) → w.cell? ⟨b, o + j, none⟩ = some (S P[j])) := hrow
    clear hrow
    go_enter Tryz.func100, Tryz.ntmps100
    go_wp2_with fail
    go_loopw [10] (fun i wr => ∃ k : Nat, k ≤ P.length ∧ i = .int .i64 k ∧ Hid ((P.take k).all labelB = true) ∧ Gr w wr) (fun i _ => P.length - (intOf i).toNat)
    case atStart => exact ⟨0, Nat.zero_le _, rfl, rfl, Gr.refl _⟩
    case round =>
      obtain ⟨k, hk, rfl, HA, hb⟩ := hrel
      have hTr := hT.below hb.1
      by_cases hlt : k < P.length
      · rcases HROW.out with hr | ⟨b, o, ha, hbl, hc⟩
        · rw [hr] at hlt; simp at hlt
        · rw [ha]
          have hcx : wr.cell? ⟨b, o + k, none⟩ = some (.string ⟨(P[k]'hlt).toArray⟩) := by rw [hb.1.cell (p := ⟨b, o + k, none⟩) hbl]; exact hc k hlt
          clear hc
          have hpl := piece_max (hl.out (P[k]'hlt) (List.getElem_mem _))
          cases ho : labelB (P[k]'hlt) with
          | true =>
            have HO : Hid (labelB (P[k]'hlt) = true) := ho
            clear ho
            go_wp2_with fail
            refine (isLabel_gr _ _ hpl hTr).mono ?_
            rintro e w2 ⟨rfl, hb2⟩
            rw [show (⟨(P[k]'hlt).toArray⟩ : ByteArray).data.toList = P[k]'hlt from rfl, HO.out]
            go_wp2_with fail
            go_roundw
            case rel => exact ⟨k + 1, by omega, by go_num, pieces_step HA.out hlt HO.out, hb.trans hb2⟩
            case measure => simp [intOf]; omega
          | false =>
            have HO : Hid (labelB (P[k]'hlt) = false) := ho
            clear ho
            go_wp2_with fail
            refine (isLabel_gr _ _ hpl hTr).mono ?_
            rintro e w2 ⟨rfl, hb2⟩
            rw [show (⟨(P[k]'hlt).toArray⟩ : ByteArray).data.toList = P[k]'hlt from rfl, HO.out]
            go_wp2_with fail
            go_ret
            exact ⟨ret_bool (by unfold areB; rw [pieces_not hlt HO.out, Bool.and_false]), hb.trans hb2⟩
      · go_wp2_with fail
        go_ret
        exact ⟨ret_bool (by unfold areB; rw [pieces_full HA.out hlt, decide_eq_true (by omega)]; rfl), hb⟩

set_option maxRecDepth 20000 in
set_option maxHeartbeats 1000000 in
theorem splitName_gr (s : ByteArray) (w : World) (hE : Env w) :
    Calls Tryz.prog 90 #[.string s] w fun e w' => ∃ v, e = .returned (.tuple #[v, .bool (nameB s.data.toList)]) ∧
      (nameB s.data.toList = true → w'.ownsRow w.heap.size 9 1 v (labelsOf s.data.toList).length ((labelsOf s.data.toList).map S)) ∧ (nameB s.data.toList = false → v = .slice none 0 0) ∧ Gr w w' := by
  have HSZ : Hid (s.data.toList.length = s.size) := (by simp : s.data.toList.length = s.size)
  by_cases h0 : s.data.toList = []
  · obtain rfl : s = ⟨#[]⟩ := data_eq h0
    go_enter Tryz.func90, Tryz.ntmps90
    go_wp2_with fail
    go_ret2
    exact ⟨_, rfl, fun _ => World.ownsRow_nil _ _ _ _, fun _ => rfl, Gr.refl _⟩
  · have H0 : Hid (¬ s.data.toList = []) := h0
    have e0 : (s.toList == []) = false := by rw [ByteArray.toList_eq]; simpa using h0
    clear h0
    by_cases h60 : (60 : Int) < (s.size : Int)
    · go_enter Tryz.func90, Tryz.ntmps90
      go_wp2_with fail
      go_ret2
      have hN := name_long (l := s.data.toList) (by rw [HSZ.out]; omega)
      refine ⟨_, ret_two rfl (val_bool hN.symm), ?_, fun _ => rfl, Gr.refl _⟩
      intro h; rw [hN] at h; cases h
    · have hN := name_are H0.out (by rw [HSZ.out]; omega)
      have HN : Hid (nameB s.data.toList = areB (cut 46 s.data.toList)) := hN
      clear hN
      obtain ⟨m, hm⟩ := hE.2
      have hT := hE.1
      have hown := split_owns s w (by omega)
      have HOWN : Hid ((w.alloc (.cells ((Lib.splitB ⟨#[46]⟩ 0 (Lib.countB s ⟨#[46]⟩) s).map Value.string).toArray 9)).ownsRow w.heap.size 9 1 (.slice (some ⟨w.heap.size, 0, none⟩) (Lib.countB s ⟨#[46]⟩ + 1) (Lib.countB s ⟨#[46]⟩ + 1)) (cut 46 s.data.toList).length ((cut 46 s.data.toList).map S)) := hown
      clear hown
      go_enter Tryz.func90, Tryz.ntmps90
      go_wp2_with fail
      refine (Tryz.strings_Split s ⟨#[46]⟩ m w (by omega) hm (by decide)).mono ?_
      rintro e w1 ⟨rfl, hw1⟩
      have hb1 : Gr w w1 := by rw [hw1]; exact (Gr.refl _).alloc _
      rw [← hw1] at HOWN
      clear hw1 hm
      have hT1 := hT.below hb1.1
      have hrow := row_own HOWN.out
      have hlen : Hid (∀ p ∈ cut 46 s.data.toList, p.length ≤ maxLen) := fun p hp => by
        have h1 := cut_piece_le 46 _ p hp
        have h2 := HSZ.out
        unfold maxLen; omega
      go_wp2_with fail
      refine (areLabels_gr _ _ _ hT1 hrow hlen).mono ?_
      rintro e w2 ⟨rfl, hb2⟩
      have hown2 := own_below HOWN.out hb2.1
      have hbb := hb1.trans hb2
      rw [← HN.out]
      have HL : Hid (labelsOf s.data.toList = cut 46 s.data.toList) := by unfold labelsOf; rw [if_neg H0.out]; exact rfl
      cases hN : nameB s.data.toList with
      | true =>
        have HNN : Hid (nameB s.data.toList = true) := hN
        have HO2 : Hid (w2.ownsRow w.heap.size 9 1 (.slice (some ⟨w.heap.size, 0, none⟩) (Lib.countB s ⟨#[46]⟩ + 1) (Lib.countB s ⟨#[46]⟩ + 1)) (cut 46 s.data.toList).length ((cut 46 s.data.toList).map S)) := hown2
        clear hN hown2 hrow
        go_wp2_with fail
        go_ret2
        refine ⟨_, ret_two rfl (val_bool HNN.out.symm), fun _ => ?_, ?_, hbb⟩
        · rw [HL.out]; exact HO2.out
        · intro h; rw [HNN.out] at h; cases h
      | false =>
        have HNN : Hid (nameB s.data.toList = false) := hN
        clear hN hown2 hrow
        go_wp2_with fail
        go_ret2
        refine ⟨_, ret_two rfl (val_bool HNN.out.symm), ?_, fun _ => rfl, hbb⟩
        intro h; rw [HNN.out] at h; cases h


set_option maxRecDepth 20000 in
set_option maxHeartbeats 1000000 in
theorem alikeFromRight_gr (va vb : Value) (A B : List (List UInt8)) (w : World) (hra : Row w va A) (hrb : Row w vb B) :
    Calls Tryz.prog 97 #[va, vb] w fun e w' => e = .returned (.int .i64 (alike A.reverse B.reverse : Nat)) ∧ Gr w w' := by
  obtain ⟨aa, ca, rfl, hca, hma, hrowa⟩ := hra
  obtain ⟨ab, cb, rfl, hcb, hmb, hrowb⟩ := hrb
  unfold maxLen at hma hmb
  have HA : Hid (A = [] ∨ ∃ b o, aa = some ⟨b, o, none⟩ ∧ b < w.heap.size ∧ ∀ j, (hj : j < A.length) → w.cell? ⟨b, o + j, none⟩ = some (S A[j])) := hrowa
  have HB : Hid (B = [] ∨ ∃ b o, ab = some ⟨b, o, none⟩ ∧ b < w.heap.size ∧ ∀ j, (hj : j < B.length) → w.cell? ⟨b, o + j, none⟩ = some (S B[j])) := hrowb
  clear hrowa hrowb
  go_enter Tryz.func97, Tryz.ntmps97
  go_wp2_with fail
  go_loopw [5] (fun i wr => ∃ k : Nat, k ≤ A.length ∧ k ≤ B.length ∧ i = .int .i64 k ∧ Hid (k ≤ alike A.reverse B.reverse) ∧ Gr w wr) (fun i _ => A.length - (intOf i).toNat)
  case atStart => exact ⟨0, Nat.zero_le _, Nat.zero_le _, rfl, Nat.zero_le _, Gr.refl _⟩
  case round =>
    obtain ⟨k, hkA, hkB, rfl, HK, hb⟩ := hrel
    have hle := alike_le A.reverse B.reverse
    have hleA : alike A.reverse B.reverse ≤ A.length := by simpa using hle.1
    have hleB : alike A.reverse B.reverse ≤ B.length := by simpa using hle.2
    have HLA : Hid (alike A.reverse B.reverse ≤ A.length ∧ alike A.reverse B.reverse ≤ B.length) := ⟨hleA, hleB⟩
    clear hle hleA hleB
    by_cases hA : k < A.length
    · by_cases hB : k < B.length
      · have dA : decide ((k : Int) < (A.length : Int)) = true := by simp; omega
        have dB : decide ((k : Int) < (B.length : Int)) = true := by simp; omega
        rcases HA.out with hr | ⟨ba, oa, ha, hba, hcA⟩
        · rw [hr] at hA; simp at hA
        rcases HB.out with hr | ⟨bb, ob, hb', hbb, hcB⟩
        · rw [hr] at hB; simp at hB
        rw [ha, hb']
        have cA := hcA (A.length - 1 - k) (by omega)
        have cB := hcB (B.length - 1 - k) (by omega)
        rw [← hb.1.cell (p := ⟨ba, oa + (A.length - 1 - k), none⟩) hba] at cA
        rw [← hb.1.cell (p := ⟨bb, ob + (B.length - 1 - k), none⟩) hbb] at cB
        obtain ⟨x, hx⟩ : ∃ x, x = A[A.length - 1 - k]'(by omega) := ⟨_, rfl⟩
        obtain ⟨y, hy⟩ : ∃ y, y = B[B.length - 1 - k]'(by omega) := ⟨_, rfl⟩
        rw [← hx] at cA
        rw [← hy] at cB
        unfold S at cA cB
        have HX : Hid (A.reverse[k]'(by simpa using hA) = x ∧ B.reverse[k]'(by simpa using hB) = y) := ⟨by rw [rev_get hA, hx], by rw [rev_get hB, hy]⟩
        clear hcA hcB hx hy
        by_cases hxy : x = y
        · have HN : Hid (k + 1 ≤ alike A.reverse B.reverse) := alike_step _ _ k HK.out _ _ (by rw [HX.out.1, HX.out.2]; exact hxy)
          clear HX
          subst hxy
          go_wp2_with fail
          go_quiet (fail)
          go_wp2_with fail
          go_roundw
          case rel => exact ⟨k + 1, by omega, by omega, by go_num, HN, hb.drewN _⟩
          case measure => simp [intOf]; omega
        · have e1 : (x == y) = false := by simpa using hxy
          have HN : Hid (alike A.reverse B.reverse = k) := alike_stop _ _ k HK.out _ _ (by rw [HX.out.1, HX.out.2]; exact hxy)
          clear HX hxy
          go_wp2_with fail
          go_quiet (fail)
          go_wp2_with fail
          go_ret
          exact ⟨ret_int (by rw [HN.out]), hb.drewN _⟩
      · have dA : decide ((k : Int) < (A.length : Int)) = true := by simp; omega
        have dB : decide ((k : Int) < (B.length : Int)) = false := by simp; omega
        go_wp2_with fail
        go_quiet (fail)
        go_wp2_with fail
        go_ret
        exact ⟨ret_int (by have := HLA.out; have := HK.out; omega), hb.drewN _⟩
    · have dA : decide ((k : Int) < (A.length : Int)) = false := by simp; omega
      go_wp2_with fail
      go_quiet (fail)
      go_wp2_with fail
      go_ret
      exact ⟨ret_int (by have := HLA.out; have := HK.out; omega), hb.drewN _⟩

set_option maxRecDepth 20000 in
set_option maxHeartbeats 1000000 in
theorem compareLabels_gr (va vb : Value) (A B : List (List UInt8)) (w : World) (hra : Row w va A) (hrb : Row w vb B) :
    Calls Tryz.prog 88 #[va, vb] w fun e w' => e = .returned (.int .i64 (cmpR A.reverse B.reverse)) ∧ Gr w w' := by
  have hra0 := hra
  have hrb0 := hrb
  obtain ⟨aa, ca, rfl, hca, hma, hrowa⟩ := hra
  obtain ⟨ab, cb, rfl, hcb, hmb, hrowb⟩ := hrb
  unfold maxLen at hma hmb
  have HA : Hid (A = [] ∨ ∃ b o, aa = some ⟨b, o, none⟩ ∧ b < w.heap.size ∧ ∀ j, (hj : j < A.length) → w.cell? ⟨b, o + j, none⟩ = some (S A[j])) := hrowa
  have HB : Hid (B = [] ∨ ∃ b o, ab = some ⟨b, o, none⟩ ∧ b < w.heap.size ∧ ∀ j, (hj : j < B.length) → w.cell? ⟨b, o + j, none⟩ = some (S B[j])) := hrowb
  clear hrowa hrowb
  have hle := alike_le A.reverse B.reverse
  obtain ⟨n, hn⟩ : ∃ n, n = alike A.reverse B.reverse := ⟨_, rfl⟩
  rw [← hn] at hle
  have hleA : n ≤ A.length := by simpa using hle.1
  have hleB : n ≤ B.length := by simpa using hle.2
  have HNN : Hid (n = alike A.reverse B.reverse) := hn
  clear hn hle
  by_cases h1 : n = A.length ∨ n = B.length
  · have HE : Hid (cmpR A.reverse B.reverse = Lib.compareInt A.length B.length) := by
      have := cmpR_end A.reverse B.reverse (by rw [← HNN.out]; simpa using h1)
      rw [this]; exact (by simp : Lib.compareInt A.reverse.length B.reverse.length = Lib.compareInt A.length B.length)
    rcases h1 with h1 | h1
    · have e1 : ((n : Int) == (A.length : Int)) = true := by simp; omega
      have H1 : Hid (n = A.length) := h1
      clear h1
      go_enter Tryz.func88, Tryz.ntmps88
      go_wp2_with fail
      refine (alikeFromRight_gr _ _ A B w hra0 hrb0).mono ?_
      rintro e w1 ⟨rfl, hb⟩
      rw [← HNN.out]
      go_wp2_with fail
      refine (Tryz.cmp_Compare_int _ _ _).mono ?_
      rintro e w2 ⟨rfl, rfl⟩
      go_wp2_with fail
      go_ret
      exact ⟨ret_int HE.out.symm, hb⟩
    · by_cases h2 : n = A.length
      · have e1 : ((n : Int) == (A.length : Int)) = true := by simp; omega
        have H1 : Hid (n = B.length ∧ n = A.length) := ⟨h1, h2⟩
        clear h1 h2
        go_enter Tryz.func88, Tryz.ntmps88
        go_wp2_with fail
        refine (alikeFromRight_gr _ _ A B w hra0 hrb0).mono ?_
        rintro e w1 ⟨rfl, hb⟩
        rw [← HNN.out]
        go_wp2_with fail
        refine (Tryz.cmp_Compare_int _ _ _).mono ?_
        rintro e w2 ⟨rfl, rfl⟩
        go_wp2_with fail
        go_ret
        exact ⟨ret_int HE.out.symm, hb⟩
      · have e1 : ((n : Int) == (A.length : Int)) = false := by simp; omega
        have e2 : ((n : Int) == (B.length : Int)) = true := by simp; omega
        have H1 : Hid (n = B.length) := h1
        clear h1 h2
        go_enter Tryz.func88, Tryz.ntmps88
        go_wp2_with fail
        refine (alikeFromRight_gr _ _ A B w hra0 hrb0).mono ?_
        rintro e w1 ⟨rfl, hb⟩
        rw [← HNN.out]
        go_wp2_with fail
        refine (Tryz.cmp_Compare_int _ _ _).mono ?_
        rintro e w2 ⟨rfl, rfl⟩
        go_wp2_with fail
        go_ret
        exact ⟨ret_int HE.out.symm, hb⟩
  · have hA : n < A.length := by omega
    have hB : n < B.length := by omega
    have e1 : ((n : Int) == (A.length : Int)) = false := by simp; omega
    have e2 : ((n : Int) == (B.length : Int)) = false := by simp; omega
    clear h1
    rcases HA.out with hr | ⟨ba, oa, ha, hba, hcA⟩
    · rw [hr] at hA; simp at hA
    rcases HB.out with hr | ⟨bb, ob, hb', hbb, hcB⟩
    · rw [hr] at hB; simp at hB
    have hfin := cmpR_mid A.reverse B.reverse (by rw [← HNN.out]; simpa using hA) (by rw [← HNN.out]; simpa using hB)
    obtain ⟨x, hx⟩ : ∃ x, x = A[A.length - 1 - n]'(by omega) := ⟨_, rfl⟩
    obtain ⟨y, hy⟩ : ∃ y, y = B[B.length - 1 - n]'(by omega) := ⟨_, rfl⟩
    have hf0 : cmpR A.reverse B.reverse = Lib.compareBytes x y := by
      rw [hfin, hx, hy, ← rev_get hA, ← rev_get hB]
      simp only [← HNN.out]
    have HF : Hid (cmpR A.reverse B.reverse = Lib.compareBytes x y) := hf0
    have cA := hcA (A.length - 1 - n) (by omega)
    have cB := hcB (B.length - 1 - n) (by omega)
    rw [← hx] at cA
    rw [← hy] at cB
    unfold S at cA cB
    have HCA : Hid (w.cell? ⟨ba, oa + (A.length - 1 - n), none⟩ = some (.string ⟨x.toArray⟩)) := cA
    have HCB : Hid (w.cell? ⟨bb, ob + (B.length - 1 - n), none⟩ = some (.string ⟨y.toArray⟩)) := cB
    clear hcA hcB hx hy cA cB hfin hf0
    subst ha hb'
    go_enter Tryz.func88, Tryz.ntmps88
    go_wp2_with fail
    refine (alikeFromRight_gr _ _ A B w hra0 hrb0).mono ?_
    rintro e w1 ⟨rfl, hb⟩
    rw [← HNN.out]
    have cA1 : w1.cell? ⟨ba, oa + (A.length - 1 - n), none⟩ = some (.string ⟨x.toArray⟩) := by rw [hb.1.cell (p := ⟨ba, oa + (A.length - 1 - n), none⟩) hba]; exact HCA.out
    have cB1 : w1.cell? ⟨bb, ob + (B.length - 1 - n), none⟩ = some (.string ⟨y.toArray⟩) := by rw [hb.1.cell (p := ⟨bb, ob + (B.length - 1 - n), none⟩) hbb]; exact HCB.out
    clear hra0 hrb0
    go_wp2_with fail
    go_quiet ((go_at_call 78; exact Calls.quiet_of_same (Tryz.strings_Compare _ _ _)))
    go_wp2_with fail
    go_ret
    exact ⟨ret_int HF.out.symm, hb.drewN _⟩

set_option maxRecDepth 20000 in
set_option maxHeartbeats 1000000 in
theorem splitBoth_gr (a b : ByteArray) (w : World) (hE : Env w) :
    Calls Tryz.prog 87 #[.string a, .string b] w fun e w' => ∃ va vb, e = .returned (.tuple #[va, vb, .bool (cmpB a.data.toList b.data.toList)]) ∧
      (cmpB a.data.toList b.data.toList = true → w'.ownsRow w.heap.size 9 1 va (labelsOf a.data.toList).length ((labelsOf a.data.toList).map S) ∧ w'.ownsRow w.heap.size 9 1 vb (labelsOf b.data.toList).length ((labelsOf b.data.toList).map S)) ∧ Gr w w' := by
  go_enter Tryz.func87, Tryz.ntmps87
  go_wp2_with fail
  refine (splitName_gr a w hE).mono ?_
  rintro e w1 ⟨va, rfl, hownA, hnA, hb1⟩
  have HOA : Hid (nameB a.data.toList = true → w1.ownsRow w.heap.size 9 1 va (labelsOf a.data.toList).length ((labelsOf a.data.toList).map S)) := hownA
  clear hownA hnA
  have hE1 := hE.below hb1.1
  go_wp2_with fail
  refine (splitName_gr b w1 hE1).mono ?_
  rintro e w2 ⟨vb, rfl, hownB, hnB, hb2⟩
  have HOB : Hid (nameB b.data.toList = true → w2.ownsRow w1.heap.size 9 1 vb (labelsOf b.data.toList).length ((labelsOf b.data.toList).map S)) := hownB
  clear hownB hnB
  have hbb := hb1.trans hb2
  cases h1 : nameB a.data.toList with
  | false =>
    have HP : Hid (cmpB a.data.toList b.data.toList = false) := by unfold cmpB; rw [h1]; exact rfl
    clear h1
    go_wp2_with fail
    go_ret3
    refine ⟨_, _, ret_three rfl rfl (val_bool HP.out.symm), ?_, hbb⟩
    intro h; rw [HP.out] at h; cases h
  | true =>
    cases h2 : nameB b.data.toList with
    | false =>
      have HP : Hid (cmpB a.data.toList b.data.toList = false) := by unfold cmpB; rw [h2, Bool.and_false]; exact rfl
      clear h1 h2
      go_wp2_with fail
      go_ret3
      refine ⟨_, _, ret_three rfl rfl (val_bool HP.out.symm), ?_, hbb⟩
      intro h; rw [HP.out] at h; cases h
    | true =>
      have HP : Hid (cmpB a.data.toList b.data.toList = true) := by unfold cmpB; rw [h1, h2]; exact rfl
      have oA := own_below (HOA.out h1) hb2.1
      have oB := own_mono (HOB.out h2) hb1.1.size
      have HO : Hid (w2.ownsRow w.heap.size 9 1 va (labelsOf a.data.toList).length ((labelsOf a.data.toList).map S) ∧ w2.ownsRow w.heap.size 9 1 vb (labelsOf b.data.toList).length ((labelsOf b.data.toList).map S)) := ⟨oA, oB⟩
      clear h1 h2 oA oB
      go_wp2_with fail
      go_ret3
      exact ⟨_, _, ret_three rfl rfl (val_bool HP.out.symm), fun _ => HO.out, hbb⟩

set_option maxRecDepth 20000 in
set_option maxHeartbeats 1000000 in
theorem iCompareNames_gr (a b : ByteArray) (w : World) (hE : Env w) :
    Calls Tryz.prog 75 #[.string a, .string b] w fun e w' => e = .returned (.tuple #[.int .i64 (cmpT a.data.toList b.data.toList), .bool (cmpB a.data.toList b.data.toList)]) ∧ Gr w w' := by
  go_enter Tryz.func75, Tryz.ntmps75
  go_wp2_with fail
  refine (splitBoth_gr a b w hE).mono ?_
  rintro e w1 ⟨va, vb, rfl, hown, hb1⟩
  cases h1 : cmpB a.data.toList b.data.toList with
  | false =>
    have HP : Hid (cmpT a.data.toList b.data.toList = 0 ∧ cmpB a.data.toList b.data.toList = false) := by
      refine ⟨?_, h1⟩; unfold cmpT; rw [show (nameB a.data.toList && nameB b.data.toList) = false from h1]; exact rfl
    clear h1 hown
    go_wp2_with fail
    go_ret2
    exact ⟨ret_two (val_int HP.out.1.symm) (val_bool HP.out.2.symm), hb1⟩
  | true =>
    have HP : Hid (cmpT a.data.toList b.data.toList = cmpR (labelsOf a.data.toList).reverse (labelsOf b.data.toList).reverse ∧ cmpB a.data.toList b.data.toList = true) := by
      refine ⟨?_, h1⟩; unfold cmpT; rw [show (nameB a.data.toList && nameB b.data.toList) = true from h1]; exact rfl
    have hrA := row_own (hown h1).1
    have hrB := row_own (hown h1).2
    clear h1 hown
    go_wp2_with fail
    refine (compareLabels_gr va vb _ _ w1 hrA hrB).mono ?_
    rintro e w2 ⟨rfl, hb2⟩
    go_wp2_with fail
    go_ret2
    exact ⟨ret_two (val_int HP.out.1.symm) (val_bool HP.out.2.symm), hb1.trans hb2⟩
end Go.Proofs.YtjocegnhhhfbeaaGreatDoor
