import Derived.Test.YtoobaaklklommaaGreatDoorZ42
import Derived.Test.YtoobaaklklommaaGreatDoorZ43
import Derived.Test.YtoobaaklklommaaGreatDoorZ36
import Derived.BigQuiet
import Derived.Deep.QuietTactic
namespace Go.Proofs.YtoobaaklklommaaGreatDoor
open Go.RowKit

theorem pair_bad {p : (List UInt8 × Int × Int × List UInt8) → (List UInt8 × Int × Int × List UInt8) → Bool} {L : List (List UInt8 × Int × Int × List UInt8)} (i j : Nat) (hij : i < j) (hj : j < L.length) (h : p (L[i]'(by omega)) L[j] = false) : pairB p L = false := by
  cases hc : pairB p L with
  | false => exact rfl
  | true => exact absurd ((pair_iff p L).1 hc i j hij hj) (by rw [h]; simp)
theorem zcutS_bad {ap : List UInt8} {L : List (List UInt8 × Int × Int × List UInt8)} (k : Nat) (hk : k < L.length) (h : okAt (zcutR ap L L[k].1) L[k] = false) : zcutS ap L = false := by
  unfold zcutS; rw [List.all_eq_false]; exact ⟨_, List.getElem_mem hk, by simpa using h⟩
theorem zcutS_all {ap : List UInt8} {L : List (List UInt8 × Int × Int × List UInt8)} (h : ∀ j, (hj : j < L.length) → okAt (zcutR ap L L[j].1) L[j] = true) : zcutS ap L = true := by
  unfold zcutS; rw [List.all_eq_true]; intro x hx
  obtain ⟨j, hj, rfl⟩ := List.getElem_of_mem hx
  exact h j hj
theorem okAt_none (ap : List UInt8) (L : List (List UInt8 × Int × Int × List UInt8)) (x : (List UInt8 × Int × Int × List UInt8)) (h : zcutJ L x.1 (upN ap x.1) = none) : okAt (zcutR ap L x.1) x = true := by unfold zcutR; rw [h]; rfl
theorem okAt_some (ap : List UInt8) (L : List (List UInt8 × Int × Int × List UInt8)) (x : (List UInt8 × Int × Int × List UInt8)) (j : Nat) (h : zcutJ L x.1 (upN ap x.1) = some j) : okAt (zcutR ap L x.1) x = (x.2.1 == 1 || (x.2.1 == 2 && x.1 == upAt x.1 j)) := by unfold zcutR; rw [h]; rfl
theorem ttlS_name {x y : (List UInt8 × Int × Int × List UInt8)} (h : ¬ y.1 = x.1) : ttlS y x = true := by unfold ttlS; simp [h]
theorem ttlS_type {x y : (List UInt8 × Int × Int × List UInt8)} (h : ¬ y.2.1 = x.2.1) : ttlS y x = true := by unfold ttlS; simp [h]
theorem ttlS_ttl {x y : (List UInt8 × Int × Int × List UInt8)} (h1 : y.1 = x.1) (h2 : y.2.1 = x.2.1) (h : ¬ y.2.2.1 = x.2.2.1) : ttlS y x = false := by unfold ttlS; simp [h1, h2, h]
theorem ttlS_data {x y : (List UInt8 × Int × Int × List UInt8)} (h1 : y.1 = x.1) (h2 : y.2.1 = x.2.1) (h : y.2.2.1 = x.2.2.1) : ttlS y x = !(y.2.2.2 == x.2.2.2) := by unfold ttlS; simp [h1, h2, h]

set_option maxRecDepth 20000 in
set_option maxHeartbeats 16000000 in
theorem l6Rule_any (ap : ByteArray) (v : Value) (L : List (List UInt8 × Int × Int × List UInt8)) (w : World) (hr : RRow w v L) (hx : Hid (∀ x ∈ L, x.1.length ≤ 1048576 ∧ x.2.2.2.length ≤ 1048576)) (hap : Hid (nameB ap.data.toList = true)) (hg : Hid (∀ x ∈ L, nameB x.1 = true)) (hl : L.length ≤ 1048576) :
    Calls Tryz.prog 119 #[.string ap, v] w fun e w' => e = .returned (.int .i64 (ruleS ap.data.toList L)) ∧ Below w.heap.size w w' := by
  have HRR : Hid (∀ W, Below w.heap.size w W → RRow W v L) := fun W hW => hr.kept hW
  obtain ⟨a, cap, rfl, hcap, hmax, hrow⟩ := hr
  have HROW : Hid (L = [] ∨ ∃ b o, a = some ⟨b, o, none⟩ ∧ b < w.heap.size ∧ ∀ j, (hj : j < L.length) → RecAt w b (o + j * 4) L[j]) := hrow
  clear hrow
  unfold maxLen at hmax
  have HRS : Hid (ruleS ap.data.toList L = if allB ap.data.toList L = false then 1 else if ¬ nAt ap.data.toList L + 2 * nOff ap.data.toList L = 1 then 2 else if adjB ttlS L = false then 3 else if pairB cnP L = false then 4 else if heldB L ap.data.toList 5 = true then 5 else if zcutS ap.data.toList L = false then 6 else 0) := rfl
  obtain ⟨rr, hrr⟩ : ∃ rr, rr = ruleS ap.data.toList L := ⟨_, rfl⟩
  rw [← hrr] at HRS ⊢
  clear hrr
  have HLB : Hid (∀ (x : (List UInt8 × Int × Int × List UInt8)) W, x.1.length ≤ 1048576 → Calls Tryz.prog 153 #[.string ⟨x.1.toArray⟩, .string ap] W fun e w' => e = .returned (.bool (belowB x.1 ap.data.toList)) ∧ w' = W) := fun x W h => by
    have hs := (name_parts hap.out).2.1
    have hz : ap.data.toList.length = ap.size := by simp
    exact l1Below_any ⟨x.1.toArray⟩ ap W (by rw [size_list]; omega) (by omega)
  have HCUT : Hid (allB ap.data.toList L = true → ∀ (x : (List UInt8 × Int × Int × List UInt8)) W, x ∈ L → Below w.heap.size w W → Calls Tryz.prog 154 #[.string ap, .slice a L.length cap, .string ⟨x.1.toArray⟩] W fun e w' => e = .returned (.tuple #[.string ⟨(cutV x.1 (zcutJ L x.1 (upN ap.data.toList x.1))).1.toArray⟩, .bool (cutV x.1 (zcutJ L x.1 (upN ap.data.toList x.1))).2]) ∧ Below W.heap.size W w') := fun hall x W hxm hW => l6Cut_any ap _ L ⟨x.1.toArray⟩ W (HRR.out W hW) ⟨hg.out x hxm, hap.out, List.all_eq_true.1 hall x hxm⟩
  have HHELD : Hid (∀ W, Below w.heap.size w W → Calls Tryz.prog 129 #[.slice a L.length cap, .string ap, .int .i64 5] W fun e w' => e = .returned (.bool (heldB L ap.data.toList 5)) ∧ Below W.heap.size W w') := fun W hW => l6Has_any _ L ap 5 W (HRR.out W hW)
  go_enter Tryz.func119, Tryz.ntmps119
  go_wp2_with fail
  go_loopw [5, 20] (fun m i wr => ∃ k n : Nat, k ≤ L.length ∧ i = .int .i64 (k : Int) ∧ m = .int .i64 (n : Int) ∧ n ≤ 2 * k ∧ Hid (n = nAt ap.data.toList (L.take k) + 2 * nOff ap.data.toList (L.take k) ∧ ∀ j, (hj : j < L.length) → j < k → belowB L[j].1 ap.data.toList = true) ∧ Below w.heap.size w wr) (fun _ i _ => L.length - (intOf i).toNat)
  case atStart => exact ⟨0, 0, Nat.zero_le _, rfl, rfl, Nat.le_refl _, ⟨rfl, fun j _ h => absurd h (Nat.not_lt_zero _)⟩, Below.refl _ _⟩
  case round =>
    obtain ⟨k, n, hk, rfl, rfl, hnk, HN, hb⟩ := hrel
    by_cases hlt : k < L.length
    · rcases HROW.out with hr | ⟨b, o, ha, hbl, hcel⟩
      · rw [hr] at hlt; simp at hlt
      · rw [ha]
        have hcx := (hcel k hlt).kept hb
        unfold RecAt at hcx
        obtain ⟨c0, c1, c2, c3⟩ := hcx
        have hxl := (hx.out _ (List.getElem_mem hlt)).1
        have HA := nAt_snoc ap.data.toList L k hlt
        have HO := nOff_snoc ap.data.toList L k hlt
        have HN1 := HN.out.1
        have HBAD : Hid (belowB (L[k]'hlt).1 ap.data.toList = false → allB ap.data.toList L = false) := allB_bad k hlt
        have HOK : Hid (belowB (L[k]'hlt).1 ap.data.toList = true → ∀ j, (hj : j < L.length) → j < k + 1 → belowB L[j].1 ap.data.toList = true) := fun h j hj h1 => by
          rcases Nat.lt_or_ge j k with h' | h'
          · exact HN.out.2 j hj h'
          · obtain rfl : j = k := by omega
            exact h
        have HCC0 := fun W => HLB.out (L[k]'hlt) W hxl
        obtain ⟨x, hxe⟩ : ∃ x, x = L[k]'hlt := ⟨_, rfl⟩
        rw [← hxe] at c0 c1 c2 c3 HA HO HBAD HOK HCC0
        obtain ⟨xn, xt, xl, xd⟩ := x
        simp only at c0 c1 c2 c3 HA HO HBAD HOK HCC0
        have HCC : Hid (∀ W, Calls Tryz.prog 153 #[.string ⟨xn.toArray⟩, .string ap] W fun e w' => e = .returned (.bool (belowB xn ap.data.toList)) ∧ w' = W) := HCC0
        have hbk := hb.alloc hb.size (.cells #[.string ⟨xn.toArray⟩, .int .i64 xt, .int .i64 xl, .string ⟨xd.toArray⟩] 108)
        clear hcel hxe HN HCC0 hxl
        cases hR : belowB xn ap.data.toList with
        | false =>
          have HR : Hid (rr = 1) := by rw [HRS.out, HBAD.out hR]; rfl
          rw [hR] at HCC
          clear hR HBAD HOK HA HO HN1
          go_wp2_with fail
          refine (HCC.out _).mono ?_
          rintro e w2 ⟨rfl, rfl⟩
          go_wp2_with fail
          go_ret
          exact ⟨ret_intI HR.out.symm, hbk⟩
        | true =>
          have HR0 : Hid (∀ j, (hj : j < L.length) → j < k + 1 → belowB L[j].1 ap.data.toList = true) := HOK.out hR
          rw [hR] at HCC
          clear hR HBAD HOK
          by_cases h6 : xt = 6
          · by_cases hn : xn = ap.data.toList
            · have HR : Hid (n + 1 = nAt ap.data.toList (L.take (k + 1)) + 2 * nOff ap.data.toList (L.take (k + 1))) := by
                rw [if_pos ⟨h6, hn⟩] at HA
                rw [if_neg (fun h => h.2 hn)] at HO
                show n + 1 = _; omega
              have e1 : (xn == ap.toList) = true := by rw [ByteArray.toList_eq]; simpa using hn
              clear HA HO HN1 hn
              subst h6
              go_wp2_with fail
              refine (HCC.out _).mono ?_
              rintro e w2 ⟨rfl, rfl⟩
              go_wp2_with fail
              go_roundw
              case rel => exact ⟨k + 1, n + 1, by omega, by go_num, by go_num, by omega, ⟨HR.out, HR0.out⟩, hbk⟩
              case measure => simp [intOf]; omega
            · have HR : Hid (n + 2 = nAt ap.data.toList (L.take (k + 1)) + 2 * nOff ap.data.toList (L.take (k + 1))) := by
                rw [if_neg (fun h => hn h.2)] at HA
                rw [if_pos ⟨h6, hn⟩] at HO
                show n + 2 = _; omega
              have e1 : (xn == ap.toList) = false := by rw [ByteArray.toList_eq]; simpa using hn
              clear HA HO HN1 hn
              subst h6
              go_wp2_with fail
              refine (HCC.out _).mono ?_
              rintro e w2 ⟨rfl, rfl⟩
              go_wp2_with fail
              go_roundw
              case rel => exact ⟨k + 1, n + 2, by omega, by go_num, by go_num, by omega, ⟨HR.out, HR0.out⟩, hbk⟩
              case measure => simp [intOf]; omega
          · have HR : Hid (n = nAt ap.data.toList (L.take (k + 1)) + 2 * nOff ap.data.toList (L.take (k + 1))) := by
              rw [if_neg (fun h => h6 h.1)] at HA
              rw [if_neg (fun h => h6 h.1)] at HO
              show n = _; omega
            clear HA HO HN1
            go_wp2_with fail
            refine (HCC.out _).mono ?_
            rintro e w2 ⟨rfl, rfl⟩
            go_wp2_with fail
            go_roundw
            case rel => exact ⟨k + 1, n, by omega, by go_num, rfl, by omega, ⟨HR.out, HR0.out⟩, hbk⟩
            case measure => simp [intOf]; omega
    · have HALL : Hid (allB ap.data.toList L = true) := allB_all (fun j hj => HN.out.2 j hj (by omega))
      have HSO : Hid (n = nAt ap.data.toList L + 2 * nOff ap.data.toList L) := by
        have h := HN.out.1
        rw [List.take_of_length_le (by omega)] at h
        exact h
      rw [HALL.out, ← HSO.out] at HRS
      clear HN HSO
      by_cases h1 : n = 1
      · subst h1
        have hb1 := hb
        clear hb
        go_wp2_with fail
        go_loopw [45] (fun i wr => ∃ k : Nat, k ≤ L.length ∧ i = .int .i64 (k : Int) ∧ Hid (∀ j, (hj : j + 1 < L.length) → j + 1 < k → ttlS (L[j]'(by omega)) L[j + 1] = true) ∧ Below w.heap.size w wr) (fun i _ => L.length - (intOf i).toNat)
        case atStart => exact ⟨0, Nat.zero_le _, rfl, fun j _ h => absurd h (Nat.not_lt_zero _), hb1⟩
        case round =>
          obtain ⟨k, hk, rfl, HA, hb⟩ := hrel
          by_cases hlt : k < L.length
          · rcases HROW.out with hr | ⟨b, o, ha, hbl, hcel⟩
            · rw [hr] at hlt; simp at hlt
            · rw [ha]
              have hcx := (hcel k hlt).kept hb
              unfold RecAt at hcx
              obtain ⟨c0, c1, c2, c3⟩ := hcx
              cases k with
              | zero =>
                obtain ⟨x, hxe⟩ : ∃ x, x = L[0]'hlt := ⟨_, rfl⟩
                rw [← hxe] at c0 c1 c2 c3
                obtain ⟨xn, xt, xl, xd⟩ := x
                simp only [Nat.zero_mul, Nat.add_zero] at c0 c1 c2 c3
                obtain ⟨W0, hW0⟩ : ∃ W0, W0 = wr.alloc (.cells #[.string ⟨xn.toArray⟩, .int .i64 xt, .int .i64 xl, .string ⟨xd.toArray⟩] 108) := ⟨_, rfl⟩
                have HW0 : Hid (wr.alloc (.cells #[.string ⟨xn.toArray⟩, .int .i64 xt, .int .i64 xl, .string ⟨xd.toArray⟩] 108) = W0) := hW0.symm
                have hbd : Below W0.heap.size W0 W0.drew := (Below.refl _ _).drew
                have HBW : Hid (∀ W, Below W0.heap.size W0 W → Below w.heap.size w W) := fun W hW => by
                  rw [hW0] at hW
                  exact hb.trans ((box4 hW).2.2.2.2.mono hb.size)
                have HR : Hid (∀ j, (hj : j + 1 < L.length) → j + 1 < 0 + 1 → ttlS (L[j]'(by omega)) L[j + 1] = true) := fun j hj h => by omega
                clear hcel hxe hW0
                obtain ⟨cb, hcb⟩ : ∃ cb, cb = false := ⟨_, rfl⟩
                have HCB : Hid (cb = false) := hcb
                clear hcb
                go_wp2_with fail
                rw [HW0.out]
                refine wp_region_quiet (C := fun W => Below W0.heap.size W0 W) (by kernel_rfl) (by kernel_rfl) hbd ?_
                refine wpQuiet_step (fun K hK => ?_)
                rw [if_pos (by rfl)]
                refine ⟨.int .i64 0, fun W hW => quiet_ok ?_, hK _ ?_⟩
                · have hcb := HCB.out
                  go_simp
                  all_goals (try omega)
                clear hK K
                simp only [Act.put, List.setIfInBounds_toArray, List.set_cons_succ, List.set_cons_zero]
                refine wpQuiet_step (fun K hK => ?_)
                rw [if_pos (by rfl)]
                refine ⟨.bool cb, fun W hW => quiet_ok ?_, hK _ ?_⟩
                · have hcb := HCB.out
                  go_simp
                  all_goals (try omega)
                clear hK K
                simp only [Act.put, List.setIfInBounds_toArray, List.set_cons_succ, List.set_cons_zero]
                refine wpQuiet_step (fun K hK => ?_)
                rw [if_pos (by rfl)]
                refine ⟨.bool cb, fun W hW => quiet_ok ?_, hK _ ?_⟩
                · have hcb := HCB.out
                  go_simp
                  all_goals (try omega)
                clear hK K
                simp only [Act.put, List.setIfInBounds_toArray, List.set_cons_succ, List.set_cons_zero]
                refine BigFrame.wpQuiet_skip (by show (some cb == some true) = false; rw [HCB.out]; rfl) ?_
                simp only [Act.put, List.setIfInBounds_toArray, List.set_cons_succ, List.set_cons_zero]
                refine BigFrame.wpQuiet_skip (by show (some cb == some true) = false; rw [HCB.out]; rfl) ?_
                simp only [Act.put, List.setIfInBounds_toArray, List.set_cons_succ, List.set_cons_zero]
                refine BigFrame.wpQuiet_skip (by show (some cb == some true) = false; rw [HCB.out]; rfl) ?_
                simp only [Act.put, List.setIfInBounds_toArray, List.set_cons_succ, List.set_cons_zero]
                refine BigFrame.wpQuiet_skip (by show (some cb == some true) = false; rw [HCB.out]; rfl) ?_
                simp only [Act.put, List.setIfInBounds_toArray, List.set_cons_succ, List.set_cons_zero]
                refine BigFrame.wpQuiet_skip (by show (some cb == some true) = false; rw [HCB.out]; rfl) ?_
                simp only [Act.put, List.setIfInBounds_toArray, List.set_cons_succ, List.set_cons_zero]
                refine BigFrame.wpQuiet_skip (by show (some cb == some true) = false; rw [HCB.out]; rfl) ?_
                simp only [Act.put, List.setIfInBounds_toArray, List.set_cons_succ, List.set_cons_zero]
                refine BigFrame.wpQuiet_skip (by show (some cb == some true) = false; rw [HCB.out]; rfl) ?_
                simp only [Act.put, List.setIfInBounds_toArray, List.set_cons_succ, List.set_cons_zero]
                refine BigFrame.wpQuiet_skip (by show (some cb == some true) = false; rw [HCB.out]; rfl) ?_
                simp only [Act.put, List.setIfInBounds_toArray, List.set_cons_succ, List.set_cons_zero]
                refine BigFrame.wpQuiet_skip (by show (some cb == some true) = false; rw [HCB.out]; rfl) ?_
                simp only [Act.put, List.setIfInBounds_toArray, List.set_cons_succ, List.set_cons_zero]
                refine wpQuiet_step (fun K hK => ?_)
                rw [if_pos (by rfl)]
                refine ⟨.bool cb, fun W hW => quiet_ok ?_, hK _ ?_⟩
                · have hcb := HCB.out
                  go_simp
                  all_goals (try omega)
                clear hK K
                simp only [Act.put, List.setIfInBounds_toArray, List.set_cons_succ, List.set_cons_zero]
                refine wpQuiet_step (fun K hK => ?_)
                rw [if_pos (by rfl)]
                refine ⟨.bool cb, fun W hW => quiet_ok ?_, hK _ ?_⟩
                · have hcb := HCB.out
                  go_simp
                  all_goals (try omega)
                clear hK K
                simp only [Act.put, List.setIfInBounds_toArray, List.set_cons_succ, List.set_cons_zero]
                refine BigFrame.wpQuiet_skip (by show (some cb == some true) = false; rw [HCB.out]; rfl) ?_
                simp only [Act.put, List.setIfInBounds_toArray, List.set_cons_succ, List.set_cons_zero]
                refine BigFrame.wpQuiet_skip (by show (some cb == some true) = false; rw [HCB.out]; rfl) ?_
                simp only [Act.put, List.setIfInBounds_toArray, List.set_cons_succ, List.set_cons_zero]
                refine BigFrame.wpQuiet_skip (by show (some cb == some true) = false; rw [HCB.out]; rfl) ?_
                simp only [Act.put, List.setIfInBounds_toArray, List.set_cons_succ, List.set_cons_zero]
                refine BigFrame.wpQuiet_skip (by show (some cb == some true) = false; rw [HCB.out]; rfl) ?_
                simp only [Act.put, List.setIfInBounds_toArray, List.set_cons_succ, List.set_cons_zero]
                refine BigFrame.wpQuiet_skip (by show (some cb == some true) = false; rw [HCB.out]; rfl) ?_
                simp only [Act.put, List.setIfInBounds_toArray, List.set_cons_succ, List.set_cons_zero]
                refine BigFrame.wpQuiet_skip (by show (some cb == some true) = false; rw [HCB.out]; rfl) ?_
                simp only [Act.put, List.setIfInBounds_toArray, List.set_cons_succ, List.set_cons_zero]
                refine BigFrame.wpQuiet_skip (by show (some cb == some true) = false; rw [HCB.out]; rfl) ?_
                simp only [Act.put, List.setIfInBounds_toArray, List.set_cons_succ, List.set_cons_zero]
                refine BigFrame.wpQuiet_skip (by show (some cb == some true) = false; rw [HCB.out]; rfl) ?_
                simp only [Act.put, List.setIfInBounds_toArray, List.set_cons_succ, List.set_cons_zero]
                refine BigFrame.wpQuiet_skip (by show (some cb == some true) = false; rw [HCB.out]; rfl) ?_
                simp only [Act.put, List.setIfInBounds_toArray, List.set_cons_succ, List.set_cons_zero]
                refine wpQuiet_step (fun K hK => ?_)
                rw [if_pos (by rfl)]
                refine ⟨.bool cb, fun W hW => quiet_ok ?_, hK _ ?_⟩
                · have hcb := HCB.out
                  go_simp
                  all_goals (try omega)
                clear hK K
                simp only [Act.put, List.setIfInBounds_toArray, List.set_cons_succ, List.set_cons_zero]
                refine wpQuiet_step (fun K hK => ?_)
                rw [if_pos (by rfl)]
                refine ⟨.bool cb, fun W hW => quiet_ok ?_, hK _ ?_⟩
                · have hcb := HCB.out
                  go_simp
                  all_goals (try omega)
                clear hK K
                simp only [Act.put, List.setIfInBounds_toArray, List.set_cons_succ, List.set_cons_zero]
                refine BigFrame.wpQuiet_skip (by show (some cb == some true) = false; rw [HCB.out]; rfl) ?_
                simp only [Act.put, List.setIfInBounds_toArray, List.set_cons_succ, List.set_cons_zero]
                refine BigFrame.wpQuiet_skip (by show (some cb == some true) = false; rw [HCB.out]; rfl) ?_
                simp only [Act.put, List.setIfInBounds_toArray, List.set_cons_succ, List.set_cons_zero]
                refine BigFrame.wpQuiet_skip (by show (some cb == some true) = false; rw [HCB.out]; rfl) ?_
                simp only [Act.put, List.setIfInBounds_toArray, List.set_cons_succ, List.set_cons_zero]
                refine BigFrame.wpQuiet_skip (by show (some cb == some true) = false; rw [HCB.out]; rfl) ?_
                simp only [Act.put, List.setIfInBounds_toArray, List.set_cons_succ, List.set_cons_zero]
                refine BigFrame.wpQuiet_skip (by show (some cb == some true) = false; rw [HCB.out]; rfl) ?_
                simp only [Act.put, List.setIfInBounds_toArray, List.set_cons_succ, List.set_cons_zero]
                refine BigFrame.wpQuiet_skip (by show (some cb == some true) = false; rw [HCB.out]; rfl) ?_
                simp only [Act.put, List.setIfInBounds_toArray, List.set_cons_succ, List.set_cons_zero]
                refine BigFrame.wpQuiet_skip (by show (some cb == some true) = false; rw [HCB.out]; rfl) ?_
                simp only [Act.put, List.setIfInBounds_toArray, List.set_cons_succ, List.set_cons_zero]
                refine BigFrame.wpQuiet_skip (by show (some cb == some true) = false; rw [HCB.out]; rfl) ?_
                simp only [Act.put, List.setIfInBounds_toArray, List.set_cons_succ, List.set_cons_zero]
                refine BigFrame.wpQuiet_skip (by show (some cb == some true) = false; rw [HCB.out]; rfl) ?_
                simp only [Act.put, List.setIfInBounds_toArray, List.set_cons_succ, List.set_cons_zero]
                refine BigFrame.wpQuiet_skip (by show (some cb == some true) = false; rw [HCB.out]; rfl) ?_
                simp only [Act.put, List.setIfInBounds_toArray, List.set_cons_succ, List.set_cons_zero]
                generalize hund : (undef : Value) = un
                refine BigFrame.wpQuiet_skip (by rw [← hund]; rfl) ?_
                simp only [Act.put, List.setIfInBounds_toArray, List.set_cons_succ, List.set_cons_zero]
                refine BigFrame.wpQuiet_skip (by rw [← hund]; rfl) ?_
                simp only [Act.put, List.setIfInBounds_toArray, List.set_cons_succ, List.set_cons_zero]
                refine BigFrame.wpQuiet_skip (by rw [← hund]; rfl) ?_
                simp only [Act.put, List.setIfInBounds_toArray, List.set_cons_succ, List.set_cons_zero]
                refine BigFrame.wpQuiet_skip (by rw [← hund]; rfl) ?_
                simp only [Act.put, List.setIfInBounds_toArray, List.set_cons_succ, List.set_cons_zero]
                refine BigFrame.wpQuiet_skip (by rw [← hund]; rfl) ?_
                simp only [Act.put, List.setIfInBounds_toArray, List.set_cons_succ, List.set_cons_zero]
                refine BigFrame.wpQuiet_skip (by rw [← hund]; rfl) ?_
                simp only [Act.put, List.setIfInBounds_toArray, List.set_cons_succ, List.set_cons_zero]
                refine BigFrame.wpQuiet_skip (by rw [← hund]; rfl) ?_
                simp only [Act.put, List.setIfInBounds_toArray, List.set_cons_succ, List.set_cons_zero]
                refine BigFrame.wpQuiet_skip (by rw [← hund]; rfl) ?_
                simp only [Act.put, List.setIfInBounds_toArray, List.set_cons_succ, List.set_cons_zero]
                refine BigFrame.wpQuiet_skip (by rw [← hund]; rfl) ?_
                simp only [Act.put, List.setIfInBounds_toArray, List.set_cons_succ, List.set_cons_zero]
                refine BigFrame.wpQuiet_skip (by show (some cb == some true) = false; rw [HCB.out]; rfl) ?_
                simp only [Act.put, List.setIfInBounds_toArray, List.set_cons_succ, List.set_cons_zero]
                subst hund
                refine wpQuiet_step (fun K hK => ?_)
                rw [if_pos (by rfl)]
                refine ⟨.bool cb, fun W hW => quiet_ok ?_, hK _ ?_⟩
                · have hcb := HCB.out
                  go_simp
                  all_goals (try omega)
                clear hK K
                simp only [Act.put, List.setIfInBounds_toArray, List.set_cons_succ, List.set_cons_zero]
                have hcb2 := HCB.out
                clear HCB
                subst hcb2
                refine wpQuiet_nil ?_
                intro W hW
                have hbW := HBW.out W hW
                go_wp2_with fail
                go_roundw
                case rel => exact ⟨1, by omega, by go_num, HR.out, hbW⟩
                case measure => simp [intOf]; omega
              | succ k =>
                have HBAD : Hid (ttlS (L[k]'(by omega)) (L[k + 1]'hlt) = false → adjB ttlS L = false) := adj_bad k hlt
                have HOK : Hid (ttlS (L[k]'(by omega)) (L[k + 1]'hlt) = true → ∀ j, (hj : j + 1 < L.length) → j + 1 < k + 1 + 1 → ttlS (L[j]'(by omega)) L[j + 1] = true) := fun h j hj h1 => by
                  rcases Nat.lt_or_ge j k with h' | h'
                  · exact HA.out j hj (by omega)
                  · obtain rfl : j = k := by omega
                    exact h
                have hcy := (hcel k (by omega)).kept hb
                obtain ⟨x, hxe⟩ : ∃ x, x = L[k + 1]'hlt := ⟨_, rfl⟩
                obtain ⟨y, hye⟩ : ∃ y, y = L[k]'(by omega) := ⟨_, rfl⟩
                rw [← hxe] at c0 c1 c2 c3
                rw [← hye] at hcy
                rw [← hxe, ← hye] at HBAD HOK
                obtain ⟨xn, xt, xl, xd⟩ := x
                obtain ⟨yn, yt, yl, yd⟩ := y
                simp only at c0 c1 c2 c3
                obtain ⟨W0, hW0⟩ : ∃ W0, W0 = wr.alloc (.cells #[.string ⟨xn.toArray⟩, .int .i64 xt, .int .i64 xl, .string ⟨xd.toArray⟩] 108) := ⟨_, rfl⟩
                have HW0 : Hid (wr.alloc (.cells #[.string ⟨xn.toArray⟩, .int .i64 xt, .int .i64 xl, .string ⟨xd.toArray⟩] 108) = W0) := hW0.symm
                have hbd : Below W0.heap.size W0 W0.drew := (Below.refl _ _).drew
                have HBW : Hid (∀ W, Below W0.heap.size W0 W → Below w.heap.size w W) := fun W hW => by
                  rw [hW0] at hW
                  exact hb.trans ((box4 hW).2.2.2.2.mono hb.size)
                have HX : Hid (∀ W, Below W0.heap.size W0 W → (W.cell? ⟨wr.heap.size, 0, none⟩ = some (.string ⟨xn.toArray⟩) ∧ W.cell? ⟨wr.heap.size, 1, none⟩ = some (.int .i64 xt) ∧ W.cell? ⟨wr.heap.size, 2, none⟩ = some (.int .i64 xl) ∧ W.cell? ⟨wr.heap.size, 3, none⟩ = some (.string ⟨xd.toArray⟩)) ∧ (W.cell? ⟨b, o + k * 4, none⟩ = some (.string ⟨yn.toArray⟩) ∧ W.cell? ⟨b, o + k * 4 + 1, none⟩ = some (.int .i64 yt) ∧ W.cell? ⟨b, o + k * 4 + 2, none⟩ = some (.int .i64 yl) ∧ W.cell? ⟨b, o + k * 4 + 3, none⟩ = some (.string ⟨yd.toArray⟩))) := fun W hW => by
                  rw [hW0] at hW
                  have h := box4 hW
                  have h2 := hcy.kept h.2.2.2.2
                  exact ⟨⟨h.1, h.2.1, h.2.2.1, h.2.2.2.1⟩, ⟨h2.1, h2.2.1, h2.2.2.1, h2.2.2.2⟩⟩
                have wk : IntKind.i64.wrap (k : Int) = (k : Int) := wrap_small _ (by omega) (by omega)
                have e1 : ((k : Int) + 1).toNat = k + 1 := by omega
                have hk1 : (k : Int) + 1 < (L.length : Int) := by omega
                clear hcel hxe hye hW0 hcy
                rw [show ((k + 1 : Nat) : Int) = (k : Int) + 1 by omega]
                by_cases hn : yn = xn
                · by_cases ht : yt = xt
                  · by_cases hq : yl = xl
                    · have HT : Hid (ttlS (yn, yt, yl, yd) (xn, xt, xl, xd) = !(yd == xd)) := ttlS_data hn ht hq
                      subst hn
                      subst ht
                      subst hq
                      go_wp2_with fail
                      rw [HW0.out]
                      refine wp_region_quiet (C := fun W => Below W0.heap.size W0 W) (by kernel_rfl) (by kernel_rfl) hbd ?_
                      refine wpQuiet_step (fun K hK => ?_)
                      rw [if_pos (by rfl)]
                      refine ⟨.int .i64 ((k : Int) + 1), fun W hW => quiet_ok ?_, hK _ ?_⟩
                      · have q := HX.out W hW
                        obtain ⟨⟨m0, m1, m2, m3⟩, ⟨z0, z1, z2, z3⟩⟩ := q
                        go_simp
                        all_goals (try omega)
                      clear hK K
                      simp only [Act.put, List.setIfInBounds_toArray, List.set_cons_succ, List.set_cons_zero]
                      refine wpQuiet_step (fun K hK => ?_)
                      rw [if_pos (by rfl)]
                      refine ⟨.bool true, fun W hW => quiet_ok ?_, hK _ ?_⟩
                      · have q := HX.out W hW
                        obtain ⟨⟨m0, m1, m2, m3⟩, ⟨z0, z1, z2, z3⟩⟩ := q
                        go_simp
                        all_goals (try omega)
                      clear hK K
                      simp only [Act.put, List.setIfInBounds_toArray, List.set_cons_succ, List.set_cons_zero]
                      refine wpQuiet_step (fun K hK => ?_)
                      rw [if_pos (by rfl)]
                      refine ⟨.bool true, fun W hW => quiet_ok ?_, hK _ ?_⟩
                      · have q := HX.out W hW
                        obtain ⟨⟨m0, m1, m2, m3⟩, ⟨z0, z1, z2, z3⟩⟩ := q
                        go_simp
                        all_goals (try omega)
                      clear hK K
                      simp only [Act.put, List.setIfInBounds_toArray, List.set_cons_succ, List.set_cons_zero]
                      refine wpQuiet_step (fun K hK => ?_)
                      rw [if_pos (by rfl)]
                      refine ⟨.slice (some ⟨b, o, none⟩) L.length cap, fun W hW => quiet_ok ?_, hK _ ?_⟩
                      · have q := HX.out W hW
                        obtain ⟨⟨m0, m1, m2, m3⟩, ⟨z0, z1, z2, z3⟩⟩ := q
                        go_simp
                        all_goals (try omega)
                      clear hK K
                      simp only [Act.put, List.setIfInBounds_toArray, List.set_cons_succ, List.set_cons_zero]
                      refine wpQuiet_step (fun K hK => ?_)
                      rw [if_pos (by rfl)]
                      refine ⟨.int .i64 ((k : Int) + 1), fun W hW => quiet_ok ?_, hK _ ?_⟩
                      · have q := HX.out W hW
                        obtain ⟨⟨m0, m1, m2, m3⟩, ⟨z0, z1, z2, z3⟩⟩ := q
                        go_simp
                        all_goals (try omega)
                      clear hK K
                      simp only [Act.put, List.setIfInBounds_toArray, List.set_cons_succ, List.set_cons_zero]
                      refine wpQuiet_step (fun K hK => ?_)
                      rw [if_pos (by rfl)]
                      refine ⟨.int .i64 (k : Int), fun W hW => quiet_ok ?_, hK _ ?_⟩
                      · have q := HX.out W hW
                        obtain ⟨⟨m0, m1, m2, m3⟩, ⟨z0, z1, z2, z3⟩⟩ := q
                        go_simp
                        all_goals (try omega)
                      clear hK K
                      simp only [Act.put, List.setIfInBounds_toArray, List.set_cons_succ, List.set_cons_zero]
                      refine wpQuiet_step (fun K hK => ?_)
                      rw [if_pos (by rfl)]
                      refine ⟨.pointer (some ⟨b, o + k * 4, none⟩), fun W hW => quiet_ok ?_, hK _ ?_⟩
                      · have q := HX.out W hW
                        obtain ⟨⟨m0, m1, m2, m3⟩, ⟨z0, z1, z2, z3⟩⟩ := q
                        go_simp
                        all_goals (try omega)
                      clear hK K
                      simp only [Act.put, List.setIfInBounds_toArray, List.set_cons_succ, List.set_cons_zero]
                      refine wpQuiet_step (fun K hK => ?_)
                      rw [if_pos (by rfl)]
                      refine ⟨.pointer (some ⟨b, o + k * 4, none⟩), fun W hW => quiet_ok ?_, hK _ ?_⟩
                      · have q := HX.out W hW
                        obtain ⟨⟨m0, m1, m2, m3⟩, ⟨z0, z1, z2, z3⟩⟩ := q
                        go_simp
                        all_goals (try omega)
                      clear hK K
                      simp only [Act.put, List.setIfInBounds_toArray, List.set_cons_succ, List.set_cons_zero]
                      refine wpQuiet_step (fun K hK => ?_)
                      rw [if_pos (by rfl)]
                      refine ⟨.string ⟨yn.toArray⟩, fun W hW => quiet_ok ?_, hK _ ?_⟩
                      · have q := HX.out W hW
                        obtain ⟨⟨m0, m1, m2, m3⟩, ⟨z0, z1, z2, z3⟩⟩ := q
                        go_simp
                        all_goals (try omega)
                      clear hK K
                      simp only [Act.put, List.setIfInBounds_toArray, List.set_cons_succ, List.set_cons_zero]
                      refine wpQuiet_step (fun K hK => ?_)
                      rw [if_pos (by rfl)]
                      refine ⟨.pointer (some ⟨wr.heap.size, 0, none⟩), fun W hW => quiet_ok ?_, hK _ ?_⟩
                      · have q := HX.out W hW
                        obtain ⟨⟨m0, m1, m2, m3⟩, ⟨z0, z1, z2, z3⟩⟩ := q
                        go_simp
                        all_goals (try omega)
                      clear hK K
                      simp only [Act.put, List.setIfInBounds_toArray, List.set_cons_succ, List.set_cons_zero]
                      refine wpQuiet_step (fun K hK => ?_)
                      rw [if_pos (by rfl)]
                      refine ⟨.string ⟨yn.toArray⟩, fun W hW => quiet_ok ?_, hK _ ?_⟩
                      · have q := HX.out W hW
                        obtain ⟨⟨m0, m1, m2, m3⟩, ⟨z0, z1, z2, z3⟩⟩ := q
                        go_simp
                        all_goals (try omega)
                      clear hK K
                      simp only [Act.put, List.setIfInBounds_toArray, List.set_cons_succ, List.set_cons_zero]
                      refine wpQuiet_step (fun K hK => ?_)
                      rw [if_pos (by rfl)]
                      refine ⟨.bool true, fun W hW => quiet_ok ?_, hK _ ?_⟩
                      · have q := HX.out W hW
                        obtain ⟨⟨m0, m1, m2, m3⟩, ⟨z0, z1, z2, z3⟩⟩ := q
                        go_simp
                        all_goals (try omega)
                      clear hK K
                      simp only [Act.put, List.setIfInBounds_toArray, List.set_cons_succ, List.set_cons_zero]
                      refine wpQuiet_step (fun K hK => ?_)
                      rw [if_pos (by rfl)]
                      refine ⟨.bool true, fun W hW => quiet_ok ?_, hK _ ?_⟩
                      · have q := HX.out W hW
                        obtain ⟨⟨m0, m1, m2, m3⟩, ⟨z0, z1, z2, z3⟩⟩ := q
                        go_simp
                        all_goals (try omega)
                      clear hK K
                      simp only [Act.put, List.setIfInBounds_toArray, List.set_cons_succ, List.set_cons_zero]
                      refine wpQuiet_step (fun K hK => ?_)
                      rw [if_pos (by rfl)]
                      refine ⟨.bool true, fun W hW => quiet_ok ?_, hK _ ?_⟩
                      · have q := HX.out W hW
                        obtain ⟨⟨m0, m1, m2, m3⟩, ⟨z0, z1, z2, z3⟩⟩ := q
                        go_simp
                        all_goals (try omega)
                      clear hK K
                      simp only [Act.put, List.setIfInBounds_toArray, List.set_cons_succ, List.set_cons_zero]
                      refine wpQuiet_step (fun K hK => ?_)
                      rw [if_pos (by rfl)]
                      refine ⟨.slice (some ⟨b, o, none⟩) L.length cap, fun W hW => quiet_ok ?_, hK _ ?_⟩
                      · have q := HX.out W hW
                        obtain ⟨⟨m0, m1, m2, m3⟩, ⟨z0, z1, z2, z3⟩⟩ := q
                        go_simp
                        all_goals (try omega)
                      clear hK K
                      simp only [Act.put, List.setIfInBounds_toArray, List.set_cons_succ, List.set_cons_zero]
                      refine wpQuiet_step (fun K hK => ?_)
                      rw [if_pos (by rfl)]
                      refine ⟨.int .i64 ((k : Int) + 1), fun W hW => quiet_ok ?_, hK _ ?_⟩
                      · have q := HX.out W hW
                        obtain ⟨⟨m0, m1, m2, m3⟩, ⟨z0, z1, z2, z3⟩⟩ := q
                        go_simp
                        all_goals (try omega)
                      clear hK K
                      simp only [Act.put, List.setIfInBounds_toArray, List.set_cons_succ, List.set_cons_zero]
                      refine wpQuiet_step (fun K hK => ?_)
                      rw [if_pos (by rfl)]
                      refine ⟨.int .i64 (k : Int), fun W hW => quiet_ok ?_, hK _ ?_⟩
                      · have q := HX.out W hW
                        obtain ⟨⟨m0, m1, m2, m3⟩, ⟨z0, z1, z2, z3⟩⟩ := q
                        go_simp
                        all_goals (try omega)
                      clear hK K
                      simp only [Act.put, List.setIfInBounds_toArray, List.set_cons_succ, List.set_cons_zero]
                      refine wpQuiet_step (fun K hK => ?_)
                      rw [if_pos (by rfl)]
                      refine ⟨.pointer (some ⟨b, o + k * 4, none⟩), fun W hW => quiet_ok ?_, hK _ ?_⟩
                      · have q := HX.out W hW
                        obtain ⟨⟨m0, m1, m2, m3⟩, ⟨z0, z1, z2, z3⟩⟩ := q
                        go_simp
                        all_goals (try omega)
                      clear hK K
                      simp only [Act.put, List.setIfInBounds_toArray, List.set_cons_succ, List.set_cons_zero]
                      refine wpQuiet_step (fun K hK => ?_)
                      rw [if_pos (by rfl)]
                      refine ⟨.pointer (some ⟨b, o + k * 4 + 1, none⟩), fun W hW => quiet_ok ?_, hK _ ?_⟩
                      · have q := HX.out W hW
                        obtain ⟨⟨m0, m1, m2, m3⟩, ⟨z0, z1, z2, z3⟩⟩ := q
                        go_simp
                        all_goals (try omega)
                      clear hK K
                      simp only [Act.put, List.setIfInBounds_toArray, List.set_cons_succ, List.set_cons_zero]
                      refine wpQuiet_step (fun K hK => ?_)
                      rw [if_pos (by rfl)]
                      refine ⟨.int .i64 yt, fun W hW => quiet_ok ?_, hK _ ?_⟩
                      · have q := HX.out W hW
                        obtain ⟨⟨m0, m1, m2, m3⟩, ⟨z0, z1, z2, z3⟩⟩ := q
                        go_simp
                        all_goals (try omega)
                      clear hK K
                      simp only [Act.put, List.setIfInBounds_toArray, List.set_cons_succ, List.set_cons_zero]
                      refine wpQuiet_step (fun K hK => ?_)
                      rw [if_pos (by rfl)]
                      refine ⟨.pointer (some ⟨wr.heap.size, 1, none⟩), fun W hW => quiet_ok ?_, hK _ ?_⟩
                      · have q := HX.out W hW
                        obtain ⟨⟨m0, m1, m2, m3⟩, ⟨z0, z1, z2, z3⟩⟩ := q
                        go_simp
                        all_goals (try omega)
                      clear hK K
                      simp only [Act.put, List.setIfInBounds_toArray, List.set_cons_succ, List.set_cons_zero]
                      refine wpQuiet_step (fun K hK => ?_)
                      rw [if_pos (by rfl)]
                      refine ⟨.int .i64 yt, fun W hW => quiet_ok ?_, hK _ ?_⟩
                      · have q := HX.out W hW
                        obtain ⟨⟨m0, m1, m2, m3⟩, ⟨z0, z1, z2, z3⟩⟩ := q
                        go_simp
                        all_goals (try omega)
                      clear hK K
                      simp only [Act.put, List.setIfInBounds_toArray, List.set_cons_succ, List.set_cons_zero]
                      refine wpQuiet_step (fun K hK => ?_)
                      rw [if_pos (by rfl)]
                      refine ⟨.bool true, fun W hW => quiet_ok ?_, hK _ ?_⟩
                      · have q := HX.out W hW
                        obtain ⟨⟨m0, m1, m2, m3⟩, ⟨z0, z1, z2, z3⟩⟩ := q
                        go_simp
                        all_goals (try omega)
                      clear hK K
                      simp only [Act.put, List.setIfInBounds_toArray, List.set_cons_succ, List.set_cons_zero]
                      refine wpQuiet_step (fun K hK => ?_)
                      rw [if_pos (by rfl)]
                      refine ⟨.bool true, fun W hW => quiet_ok ?_, hK _ ?_⟩
                      · have q := HX.out W hW
                        obtain ⟨⟨m0, m1, m2, m3⟩, ⟨z0, z1, z2, z3⟩⟩ := q
                        go_simp
                        all_goals (try omega)
                      clear hK K
                      simp only [Act.put, List.setIfInBounds_toArray, List.set_cons_succ, List.set_cons_zero]
                      refine wpQuiet_step (fun K hK => ?_)
                      rw [if_pos (by rfl)]
                      refine ⟨.bool true, fun W hW => quiet_ok ?_, hK _ ?_⟩
                      · have q := HX.out W hW
                        obtain ⟨⟨m0, m1, m2, m3⟩, ⟨z0, z1, z2, z3⟩⟩ := q
                        go_simp
                        all_goals (try omega)
                      clear hK K
                      simp only [Act.put, List.setIfInBounds_toArray, List.set_cons_succ, List.set_cons_zero]
                      refine wpQuiet_step (fun K hK => ?_)
                      rw [if_pos (by rfl)]
                      refine ⟨.slice (some ⟨b, o, none⟩) L.length cap, fun W hW => quiet_ok ?_, hK _ ?_⟩
                      · have q := HX.out W hW
                        obtain ⟨⟨m0, m1, m2, m3⟩, ⟨z0, z1, z2, z3⟩⟩ := q
                        go_simp
                        all_goals (try omega)
                      clear hK K
                      simp only [Act.put, List.setIfInBounds_toArray, List.set_cons_succ, List.set_cons_zero]
                      refine wpQuiet_step (fun K hK => ?_)
                      rw [if_pos (by rfl)]
                      refine ⟨.int .i64 ((k : Int) + 1), fun W hW => quiet_ok ?_, hK _ ?_⟩
                      · have q := HX.out W hW
                        obtain ⟨⟨m0, m1, m2, m3⟩, ⟨z0, z1, z2, z3⟩⟩ := q
                        go_simp
                        all_goals (try omega)
                      clear hK K
                      simp only [Act.put, List.setIfInBounds_toArray, List.set_cons_succ, List.set_cons_zero]
                      refine wpQuiet_step (fun K hK => ?_)
                      rw [if_pos (by rfl)]
                      refine ⟨.int .i64 (k : Int), fun W hW => quiet_ok ?_, hK _ ?_⟩
                      · have q := HX.out W hW
                        obtain ⟨⟨m0, m1, m2, m3⟩, ⟨z0, z1, z2, z3⟩⟩ := q
                        go_simp
                        all_goals (try omega)
                      clear hK K
                      simp only [Act.put, List.setIfInBounds_toArray, List.set_cons_succ, List.set_cons_zero]
                      refine wpQuiet_step (fun K hK => ?_)
                      rw [if_pos (by rfl)]
                      refine ⟨.pointer (some ⟨b, o + k * 4, none⟩), fun W hW => quiet_ok ?_, hK _ ?_⟩
                      · have q := HX.out W hW
                        obtain ⟨⟨m0, m1, m2, m3⟩, ⟨z0, z1, z2, z3⟩⟩ := q
                        go_simp
                        all_goals (try omega)
                      clear hK K
                      simp only [Act.put, List.setIfInBounds_toArray, List.set_cons_succ, List.set_cons_zero]
                      refine wpQuiet_step (fun K hK => ?_)
                      rw [if_pos (by rfl)]
                      refine ⟨.pointer (some ⟨b, o + k * 4 + 2, none⟩), fun W hW => quiet_ok ?_, hK _ ?_⟩
                      · have q := HX.out W hW
                        obtain ⟨⟨m0, m1, m2, m3⟩, ⟨z0, z1, z2, z3⟩⟩ := q
                        go_simp
                        all_goals (try omega)
                      clear hK K
                      simp only [Act.put, List.setIfInBounds_toArray, List.set_cons_succ, List.set_cons_zero]
                      refine wpQuiet_step (fun K hK => ?_)
                      rw [if_pos (by rfl)]
                      refine ⟨.int .i64 yl, fun W hW => quiet_ok ?_, hK _ ?_⟩
                      · have q := HX.out W hW
                        obtain ⟨⟨m0, m1, m2, m3⟩, ⟨z0, z1, z2, z3⟩⟩ := q
                        go_simp
                        all_goals (try omega)
                      clear hK K
                      simp only [Act.put, List.setIfInBounds_toArray, List.set_cons_succ, List.set_cons_zero]
                      refine wpQuiet_step (fun K hK => ?_)
                      rw [if_pos (by rfl)]
                      refine ⟨.pointer (some ⟨wr.heap.size, 2, none⟩), fun W hW => quiet_ok ?_, hK _ ?_⟩
                      · have q := HX.out W hW
                        obtain ⟨⟨m0, m1, m2, m3⟩, ⟨z0, z1, z2, z3⟩⟩ := q
                        go_simp
                        all_goals (try omega)
                      clear hK K
                      simp only [Act.put, List.setIfInBounds_toArray, List.set_cons_succ, List.set_cons_zero]
                      refine wpQuiet_step (fun K hK => ?_)
                      rw [if_pos (by rfl)]
                      refine ⟨.int .i64 yl, fun W hW => quiet_ok ?_, hK _ ?_⟩
                      · have q := HX.out W hW
                        obtain ⟨⟨m0, m1, m2, m3⟩, ⟨z0, z1, z2, z3⟩⟩ := q
                        go_simp
                        all_goals (try omega)
                      clear hK K
                      simp only [Act.put, List.setIfInBounds_toArray, List.set_cons_succ, List.set_cons_zero]
                      refine wpQuiet_step (fun K hK => ?_)
                      rw [if_pos (by rfl)]
                      refine ⟨.bool false, fun W hW => quiet_ok ?_, hK _ ?_⟩
                      · have q := HX.out W hW
                        obtain ⟨⟨m0, m1, m2, m3⟩, ⟨z0, z1, z2, z3⟩⟩ := q
                        go_simp
                        all_goals (try omega)
                      clear hK K
                      simp only [Act.put, List.setIfInBounds_toArray, List.set_cons_succ, List.set_cons_zero]
                      refine wpQuiet_step (fun K hK => ?_)
                      rw [if_pos (by rfl)]
                      refine ⟨.bool false, fun W hW => quiet_ok ?_, hK _ ?_⟩
                      · have q := HX.out W hW
                        obtain ⟨⟨m0, m1, m2, m3⟩, ⟨z0, z1, z2, z3⟩⟩ := q
                        go_simp
                        all_goals (try omega)
                      clear hK K
                      simp only [Act.put, List.setIfInBounds_toArray, List.set_cons_succ, List.set_cons_zero]
                      refine wpQuiet_step (fun K hK => ?_)
                      rw [if_pos (by rfl)]
                      refine ⟨.slice (some ⟨b, o, none⟩) L.length cap, fun W hW => quiet_ok ?_, hK _ ?_⟩
                      · have q := HX.out W hW
                        obtain ⟨⟨m0, m1, m2, m3⟩, ⟨z0, z1, z2, z3⟩⟩ := q
                        go_simp
                        all_goals (try omega)
                      clear hK K
                      simp only [Act.put, List.setIfInBounds_toArray, List.set_cons_succ, List.set_cons_zero]
                      refine wpQuiet_step (fun K hK => ?_)
                      rw [if_pos (by rfl)]
                      refine ⟨.int .i64 ((k : Int) + 1), fun W hW => quiet_ok ?_, hK _ ?_⟩
                      · have q := HX.out W hW
                        obtain ⟨⟨m0, m1, m2, m3⟩, ⟨z0, z1, z2, z3⟩⟩ := q
                        go_simp
                        all_goals (try omega)
                      clear hK K
                      simp only [Act.put, List.setIfInBounds_toArray, List.set_cons_succ, List.set_cons_zero]
                      refine wpQuiet_step (fun K hK => ?_)
                      rw [if_pos (by rfl)]
                      refine ⟨.int .i64 (k : Int), fun W hW => quiet_ok ?_, hK _ ?_⟩
                      · have q := HX.out W hW
                        obtain ⟨⟨m0, m1, m2, m3⟩, ⟨z0, z1, z2, z3⟩⟩ := q
                        go_simp
                        all_goals (try omega)
                      clear hK K
                      simp only [Act.put, List.setIfInBounds_toArray, List.set_cons_succ, List.set_cons_zero]
                      refine wpQuiet_step (fun K hK => ?_)
                      rw [if_pos (by rfl)]
                      refine ⟨.pointer (some ⟨b, o + k * 4, none⟩), fun W hW => quiet_ok ?_, hK _ ?_⟩
                      · have q := HX.out W hW
                        obtain ⟨⟨m0, m1, m2, m3⟩, ⟨z0, z1, z2, z3⟩⟩ := q
                        go_simp
                        all_goals (try omega)
                      clear hK K
                      simp only [Act.put, List.setIfInBounds_toArray, List.set_cons_succ, List.set_cons_zero]
                      refine wpQuiet_step (fun K hK => ?_)
                      rw [if_pos (by rfl)]
                      refine ⟨.pointer (some ⟨b, o + k * 4 + 3, none⟩), fun W hW => quiet_ok ?_, hK _ ?_⟩
                      · have q := HX.out W hW
                        obtain ⟨⟨m0, m1, m2, m3⟩, ⟨z0, z1, z2, z3⟩⟩ := q
                        go_simp
                        all_goals (try omega)
                      clear hK K
                      simp only [Act.put, List.setIfInBounds_toArray, List.set_cons_succ, List.set_cons_zero]
                      refine wpQuiet_step (fun K hK => ?_)
                      rw [if_pos (by rfl)]
                      refine ⟨.string ⟨yd.toArray⟩, fun W hW => quiet_ok ?_, hK _ ?_⟩
                      · have q := HX.out W hW
                        obtain ⟨⟨m0, m1, m2, m3⟩, ⟨z0, z1, z2, z3⟩⟩ := q
                        go_simp
                        all_goals (try omega)
                      clear hK K
                      simp only [Act.put, List.setIfInBounds_toArray, List.set_cons_succ, List.set_cons_zero]
                      refine wpQuiet_step (fun K hK => ?_)
                      rw [if_pos (by rfl)]
                      refine ⟨.pointer (some ⟨wr.heap.size, 3, none⟩), fun W hW => quiet_ok ?_, hK _ ?_⟩
                      · have q := HX.out W hW
                        obtain ⟨⟨m0, m1, m2, m3⟩, ⟨z0, z1, z2, z3⟩⟩ := q
                        go_simp
                        all_goals (try omega)
                      clear hK K
                      simp only [Act.put, List.setIfInBounds_toArray, List.set_cons_succ, List.set_cons_zero]
                      refine wpQuiet_step (fun K hK => ?_)
                      rw [if_pos (by rfl)]
                      refine ⟨.string ⟨xd.toArray⟩, fun W hW => quiet_ok ?_, hK _ ?_⟩
                      · have q := HX.out W hW
                        obtain ⟨⟨m0, m1, m2, m3⟩, ⟨z0, z1, z2, z3⟩⟩ := q
                        go_simp
                        all_goals (try omega)
                      clear hK K
                      simp only [Act.put, List.setIfInBounds_toArray, List.set_cons_succ, List.set_cons_zero]
                      refine wpQuiet_step (fun K hK => ?_)
                      rw [if_pos (by rfl)]
                      refine ⟨.bool (yd == xd), fun W hW => quiet_ok ?_, hK _ ?_⟩
                      · have q := HX.out W hW
                        obtain ⟨⟨m0, m1, m2, m3⟩, ⟨z0, z1, z2, z3⟩⟩ := q
                        go_simp
                        all_goals (try omega)
                      clear hK K
                      simp only [Act.put, List.setIfInBounds_toArray, List.set_cons_succ, List.set_cons_zero]
                      refine wpQuiet_step (fun K hK => ?_)
                      rw [if_pos (by rfl)]
                      refine ⟨.bool (yd == xd), fun W hW => quiet_ok ?_, hK _ ?_⟩
                      · have q := HX.out W hW
                        obtain ⟨⟨m0, m1, m2, m3⟩, ⟨z0, z1, z2, z3⟩⟩ := q
                        go_simp
                        all_goals (try omega)
                      clear hK K
                      simp only [Act.put, List.setIfInBounds_toArray, List.set_cons_succ, List.set_cons_zero]
                      refine wpQuiet_step (fun K hK => ?_)
                      rw [if_pos (by rfl)]
                      refine ⟨.bool (yd == xd), fun W hW => quiet_ok ?_, hK _ ?_⟩
                      · have q := HX.out W hW
                        obtain ⟨⟨m0, m1, m2, m3⟩, ⟨z0, z1, z2, z3⟩⟩ := q
                        go_simp
                        all_goals (try omega)
                      clear hK K
                      simp only [Act.put, List.setIfInBounds_toArray, List.set_cons_succ, List.set_cons_zero]
                      by_cases hd : yd = xd
                      · have HR : Hid (rr = 3) := by rw [HRS.out, HBAD.out (by rw [HT.out]; simp [hd])]; rfl
                        have ed : (yd == xd) = true := by simpa using hd
                        rw [ed]
                        refine wpQuiet_nil ?_
                        intro W hW
                        have hbW := HBW.out W hW
                        go_wp2_with fail
                        go_ret
                        exact ⟨ret_intI HR.out.symm, hbW⟩
                      · have HR : Hid _ := HOK.out (by rw [HT.out]; simp [hd])
                        have ed : (yd == xd) = false := by simpa using hd
                        rw [ed]
                        refine wpQuiet_nil ?_
                        intro W hW
                        have hbW := HBW.out W hW
                        go_wp2_with fail
                        go_roundw
                        case rel => exact ⟨k + 1 + 1, by omega, by go_num, HR.out, hbW⟩
                        case measure => simp [intOf]; omega
                    · have HR : Hid (rr = 3) := by rw [HRS.out, HBAD.out (ttlS_ttl hn ht hq)]; rfl
                      have eq : (yl != xl) = true := by simpa using hq
                      subst hn
                      subst ht
                      obtain ⟨tb, htb⟩ : ∃ tb, tb = true := ⟨_, rfl⟩
                      have HTB : Hid (tb = true) := htb
                      clear htb HBAD HOK
                      go_wp2_with fail
                      rw [HW0.out]
                      refine wp_region_quiet (C := fun W => Below W0.heap.size W0 W) (by kernel_rfl) (by kernel_rfl) hbd ?_
                      refine wpQuiet_step (fun K hK => ?_)
                      rw [if_pos (by rfl)]
                      refine ⟨.int .i64 ((k : Int) + 1), fun W hW => quiet_ok ?_, hK _ ?_⟩
                      · have q := HX.out W hW
                        obtain ⟨⟨m0, m1, m2, m3⟩, ⟨z0, z1, z2, z3⟩⟩ := q
                        go_simp
                        all_goals (try omega)
                      clear hK K
                      simp only [Act.put, List.setIfInBounds_toArray, List.set_cons_succ, List.set_cons_zero]
                      refine wpQuiet_step (fun K hK => ?_)
                      rw [if_pos (by rfl)]
                      refine ⟨.bool true, fun W hW => quiet_ok ?_, hK _ ?_⟩
                      · have q := HX.out W hW
                        obtain ⟨⟨m0, m1, m2, m3⟩, ⟨z0, z1, z2, z3⟩⟩ := q
                        go_simp
                        all_goals (try omega)
                      clear hK K
                      simp only [Act.put, List.setIfInBounds_toArray, List.set_cons_succ, List.set_cons_zero]
                      refine wpQuiet_step (fun K hK => ?_)
                      rw [if_pos (by rfl)]
                      refine ⟨.bool true, fun W hW => quiet_ok ?_, hK _ ?_⟩
                      · have q := HX.out W hW
                        obtain ⟨⟨m0, m1, m2, m3⟩, ⟨z0, z1, z2, z3⟩⟩ := q
                        go_simp
                        all_goals (try omega)
                      clear hK K
                      simp only [Act.put, List.setIfInBounds_toArray, List.set_cons_succ, List.set_cons_zero]
                      refine wpQuiet_step (fun K hK => ?_)
                      rw [if_pos (by rfl)]
                      refine ⟨.slice (some ⟨b, o, none⟩) L.length cap, fun W hW => quiet_ok ?_, hK _ ?_⟩
                      · have q := HX.out W hW
                        obtain ⟨⟨m0, m1, m2, m3⟩, ⟨z0, z1, z2, z3⟩⟩ := q
                        go_simp
                        all_goals (try omega)
                      clear hK K
                      simp only [Act.put, List.setIfInBounds_toArray, List.set_cons_succ, List.set_cons_zero]
                      refine wpQuiet_step (fun K hK => ?_)
                      rw [if_pos (by rfl)]
                      refine ⟨.int .i64 ((k : Int) + 1), fun W hW => quiet_ok ?_, hK _ ?_⟩
                      · have q := HX.out W hW
                        obtain ⟨⟨m0, m1, m2, m3⟩, ⟨z0, z1, z2, z3⟩⟩ := q
                        go_simp
                        all_goals (try omega)
                      clear hK K
                      simp only [Act.put, List.setIfInBounds_toArray, List.set_cons_succ, List.set_cons_zero]
                      refine wpQuiet_step (fun K hK => ?_)
                      rw [if_pos (by rfl)]
                      refine ⟨.int .i64 (k : Int), fun W hW => quiet_ok ?_, hK _ ?_⟩
                      · have q := HX.out W hW
                        obtain ⟨⟨m0, m1, m2, m3⟩, ⟨z0, z1, z2, z3⟩⟩ := q
                        go_simp
                        all_goals (try omega)
                      clear hK K
                      simp only [Act.put, List.setIfInBounds_toArray, List.set_cons_succ, List.set_cons_zero]
                      refine wpQuiet_step (fun K hK => ?_)
                      rw [if_pos (by rfl)]
                      refine ⟨.pointer (some ⟨b, o + k * 4, none⟩), fun W hW => quiet_ok ?_, hK _ ?_⟩
                      · have q := HX.out W hW
                        obtain ⟨⟨m0, m1, m2, m3⟩, ⟨z0, z1, z2, z3⟩⟩ := q
                        go_simp
                        all_goals (try omega)
                      clear hK K
                      simp only [Act.put, List.setIfInBounds_toArray, List.set_cons_succ, List.set_cons_zero]
                      refine wpQuiet_step (fun K hK => ?_)
                      rw [if_pos (by rfl)]
                      refine ⟨.pointer (some ⟨b, o + k * 4, none⟩), fun W hW => quiet_ok ?_, hK _ ?_⟩
                      · have q := HX.out W hW
                        obtain ⟨⟨m0, m1, m2, m3⟩, ⟨z0, z1, z2, z3⟩⟩ := q
                        go_simp
                        all_goals (try omega)
                      clear hK K
                      simp only [Act.put, List.setIfInBounds_toArray, List.set_cons_succ, List.set_cons_zero]
                      refine wpQuiet_step (fun K hK => ?_)
                      rw [if_pos (by rfl)]
                      refine ⟨.string ⟨yn.toArray⟩, fun W hW => quiet_ok ?_, hK _ ?_⟩
                      · have q := HX.out W hW
                        obtain ⟨⟨m0, m1, m2, m3⟩, ⟨z0, z1, z2, z3⟩⟩ := q
                        go_simp
                        all_goals (try omega)
                      clear hK K
                      simp only [Act.put, List.setIfInBounds_toArray, List.set_cons_succ, List.set_cons_zero]
                      refine wpQuiet_step (fun K hK => ?_)
                      rw [if_pos (by rfl)]
                      refine ⟨.pointer (some ⟨wr.heap.size, 0, none⟩), fun W hW => quiet_ok ?_, hK _ ?_⟩
                      · have q := HX.out W hW
                        obtain ⟨⟨m0, m1, m2, m3⟩, ⟨z0, z1, z2, z3⟩⟩ := q
                        go_simp
                        all_goals (try omega)
                      clear hK K
                      simp only [Act.put, List.setIfInBounds_toArray, List.set_cons_succ, List.set_cons_zero]
                      refine wpQuiet_step (fun K hK => ?_)
                      rw [if_pos (by rfl)]
                      refine ⟨.string ⟨yn.toArray⟩, fun W hW => quiet_ok ?_, hK _ ?_⟩
                      · have q := HX.out W hW
                        obtain ⟨⟨m0, m1, m2, m3⟩, ⟨z0, z1, z2, z3⟩⟩ := q
                        go_simp
                        all_goals (try omega)
                      clear hK K
                      simp only [Act.put, List.setIfInBounds_toArray, List.set_cons_succ, List.set_cons_zero]
                      refine wpQuiet_step (fun K hK => ?_)
                      rw [if_pos (by rfl)]
                      refine ⟨.bool true, fun W hW => quiet_ok ?_, hK _ ?_⟩
                      · have q := HX.out W hW
                        obtain ⟨⟨m0, m1, m2, m3⟩, ⟨z0, z1, z2, z3⟩⟩ := q
                        go_simp
                        all_goals (try omega)
                      clear hK K
                      simp only [Act.put, List.setIfInBounds_toArray, List.set_cons_succ, List.set_cons_zero]
                      refine wpQuiet_step (fun K hK => ?_)
                      rw [if_pos (by rfl)]
                      refine ⟨.bool true, fun W hW => quiet_ok ?_, hK _ ?_⟩
                      · have q := HX.out W hW
                        obtain ⟨⟨m0, m1, m2, m3⟩, ⟨z0, z1, z2, z3⟩⟩ := q
                        go_simp
                        all_goals (try omega)
                      clear hK K
                      simp only [Act.put, List.setIfInBounds_toArray, List.set_cons_succ, List.set_cons_zero]
                      refine wpQuiet_step (fun K hK => ?_)
                      rw [if_pos (by rfl)]
                      refine ⟨.bool true, fun W hW => quiet_ok ?_, hK _ ?_⟩
                      · have q := HX.out W hW
                        obtain ⟨⟨m0, m1, m2, m3⟩, ⟨z0, z1, z2, z3⟩⟩ := q
                        go_simp
                        all_goals (try omega)
                      clear hK K
                      simp only [Act.put, List.setIfInBounds_toArray, List.set_cons_succ, List.set_cons_zero]
                      refine wpQuiet_step (fun K hK => ?_)
                      rw [if_pos (by rfl)]
                      refine ⟨.slice (some ⟨b, o, none⟩) L.length cap, fun W hW => quiet_ok ?_, hK _ ?_⟩
                      · have q := HX.out W hW
                        obtain ⟨⟨m0, m1, m2, m3⟩, ⟨z0, z1, z2, z3⟩⟩ := q
                        go_simp
                        all_goals (try omega)
                      clear hK K
                      simp only [Act.put, List.setIfInBounds_toArray, List.set_cons_succ, List.set_cons_zero]
                      refine wpQuiet_step (fun K hK => ?_)
                      rw [if_pos (by rfl)]
                      refine ⟨.int .i64 ((k : Int) + 1), fun W hW => quiet_ok ?_, hK _ ?_⟩
                      · have q := HX.out W hW
                        obtain ⟨⟨m0, m1, m2, m3⟩, ⟨z0, z1, z2, z3⟩⟩ := q
                        go_simp
                        all_goals (try omega)
                      clear hK K
                      simp only [Act.put, List.setIfInBounds_toArray, List.set_cons_succ, List.set_cons_zero]
                      refine wpQuiet_step (fun K hK => ?_)
                      rw [if_pos (by rfl)]
                      refine ⟨.int .i64 (k : Int), fun W hW => quiet_ok ?_, hK _ ?_⟩
                      · have q := HX.out W hW
                        obtain ⟨⟨m0, m1, m2, m3⟩, ⟨z0, z1, z2, z3⟩⟩ := q
                        go_simp
                        all_goals (try omega)
                      clear hK K
                      simp only [Act.put, List.setIfInBounds_toArray, List.set_cons_succ, List.set_cons_zero]
                      refine wpQuiet_step (fun K hK => ?_)
                      rw [if_pos (by rfl)]
                      refine ⟨.pointer (some ⟨b, o + k * 4, none⟩), fun W hW => quiet_ok ?_, hK _ ?_⟩
                      · have q := HX.out W hW
                        obtain ⟨⟨m0, m1, m2, m3⟩, ⟨z0, z1, z2, z3⟩⟩ := q
                        go_simp
                        all_goals (try omega)
                      clear hK K
                      simp only [Act.put, List.setIfInBounds_toArray, List.set_cons_succ, List.set_cons_zero]
                      refine wpQuiet_step (fun K hK => ?_)
                      rw [if_pos (by rfl)]
                      refine ⟨.pointer (some ⟨b, o + k * 4 + 1, none⟩), fun W hW => quiet_ok ?_, hK _ ?_⟩
                      · have q := HX.out W hW
                        obtain ⟨⟨m0, m1, m2, m3⟩, ⟨z0, z1, z2, z3⟩⟩ := q
                        go_simp
                        all_goals (try omega)
                      clear hK K
                      simp only [Act.put, List.setIfInBounds_toArray, List.set_cons_succ, List.set_cons_zero]
                      refine wpQuiet_step (fun K hK => ?_)
                      rw [if_pos (by rfl)]
                      refine ⟨.int .i64 yt, fun W hW => quiet_ok ?_, hK _ ?_⟩
                      · have q := HX.out W hW
                        obtain ⟨⟨m0, m1, m2, m3⟩, ⟨z0, z1, z2, z3⟩⟩ := q
                        go_simp
                        all_goals (try omega)
                      clear hK K
                      simp only [Act.put, List.setIfInBounds_toArray, List.set_cons_succ, List.set_cons_zero]
                      refine wpQuiet_step (fun K hK => ?_)
                      rw [if_pos (by rfl)]
                      refine ⟨.pointer (some ⟨wr.heap.size, 1, none⟩), fun W hW => quiet_ok ?_, hK _ ?_⟩
                      · have q := HX.out W hW
                        obtain ⟨⟨m0, m1, m2, m3⟩, ⟨z0, z1, z2, z3⟩⟩ := q
                        go_simp
                        all_goals (try omega)
                      clear hK K
                      simp only [Act.put, List.setIfInBounds_toArray, List.set_cons_succ, List.set_cons_zero]
                      refine wpQuiet_step (fun K hK => ?_)
                      rw [if_pos (by rfl)]
                      refine ⟨.int .i64 yt, fun W hW => quiet_ok ?_, hK _ ?_⟩
                      · have q := HX.out W hW
                        obtain ⟨⟨m0, m1, m2, m3⟩, ⟨z0, z1, z2, z3⟩⟩ := q
                        go_simp
                        all_goals (try omega)
                      clear hK K
                      simp only [Act.put, List.setIfInBounds_toArray, List.set_cons_succ, List.set_cons_zero]
                      refine wpQuiet_step (fun K hK => ?_)
                      rw [if_pos (by rfl)]
                      refine ⟨.bool true, fun W hW => quiet_ok ?_, hK _ ?_⟩
                      · have q := HX.out W hW
                        obtain ⟨⟨m0, m1, m2, m3⟩, ⟨z0, z1, z2, z3⟩⟩ := q
                        go_simp
                        all_goals (try omega)
                      clear hK K
                      simp only [Act.put, List.setIfInBounds_toArray, List.set_cons_succ, List.set_cons_zero]
                      refine wpQuiet_step (fun K hK => ?_)
                      rw [if_pos (by rfl)]
                      refine ⟨.bool true, fun W hW => quiet_ok ?_, hK _ ?_⟩
                      · have q := HX.out W hW
                        obtain ⟨⟨m0, m1, m2, m3⟩, ⟨z0, z1, z2, z3⟩⟩ := q
                        go_simp
                        all_goals (try omega)
                      clear hK K
                      simp only [Act.put, List.setIfInBounds_toArray, List.set_cons_succ, List.set_cons_zero]
                      refine wpQuiet_step (fun K hK => ?_)
                      rw [if_pos (by rfl)]
                      refine ⟨.bool true, fun W hW => quiet_ok ?_, hK _ ?_⟩
                      · have q := HX.out W hW
                        obtain ⟨⟨m0, m1, m2, m3⟩, ⟨z0, z1, z2, z3⟩⟩ := q
                        go_simp
                        all_goals (try omega)
                      clear hK K
                      simp only [Act.put, List.setIfInBounds_toArray, List.set_cons_succ, List.set_cons_zero]
                      refine wpQuiet_step (fun K hK => ?_)
                      rw [if_pos (by rfl)]
                      refine ⟨.slice (some ⟨b, o, none⟩) L.length cap, fun W hW => quiet_ok ?_, hK _ ?_⟩
                      · have q := HX.out W hW
                        obtain ⟨⟨m0, m1, m2, m3⟩, ⟨z0, z1, z2, z3⟩⟩ := q
                        go_simp
                        all_goals (try omega)
                      clear hK K
                      simp only [Act.put, List.setIfInBounds_toArray, List.set_cons_succ, List.set_cons_zero]
                      refine wpQuiet_step (fun K hK => ?_)
                      rw [if_pos (by rfl)]
                      refine ⟨.int .i64 ((k : Int) + 1), fun W hW => quiet_ok ?_, hK _ ?_⟩
                      · have q := HX.out W hW
                        obtain ⟨⟨m0, m1, m2, m3⟩, ⟨z0, z1, z2, z3⟩⟩ := q
                        go_simp
                        all_goals (try omega)
                      clear hK K
                      simp only [Act.put, List.setIfInBounds_toArray, List.set_cons_succ, List.set_cons_zero]
                      refine wpQuiet_step (fun K hK => ?_)
                      rw [if_pos (by rfl)]
                      refine ⟨.int .i64 (k : Int), fun W hW => quiet_ok ?_, hK _ ?_⟩
                      · have q := HX.out W hW
                        obtain ⟨⟨m0, m1, m2, m3⟩, ⟨z0, z1, z2, z3⟩⟩ := q
                        go_simp
                        all_goals (try omega)
                      clear hK K
                      simp only [Act.put, List.setIfInBounds_toArray, List.set_cons_succ, List.set_cons_zero]
                      refine wpQuiet_step (fun K hK => ?_)
                      rw [if_pos (by rfl)]
                      refine ⟨.pointer (some ⟨b, o + k * 4, none⟩), fun W hW => quiet_ok ?_, hK _ ?_⟩
                      · have q := HX.out W hW
                        obtain ⟨⟨m0, m1, m2, m3⟩, ⟨z0, z1, z2, z3⟩⟩ := q
                        go_simp
                        all_goals (try omega)
                      clear hK K
                      simp only [Act.put, List.setIfInBounds_toArray, List.set_cons_succ, List.set_cons_zero]
                      refine wpQuiet_step (fun K hK => ?_)
                      rw [if_pos (by rfl)]
                      refine ⟨.pointer (some ⟨b, o + k * 4 + 2, none⟩), fun W hW => quiet_ok ?_, hK _ ?_⟩
                      · have q := HX.out W hW
                        obtain ⟨⟨m0, m1, m2, m3⟩, ⟨z0, z1, z2, z3⟩⟩ := q
                        go_simp
                        all_goals (try omega)
                      clear hK K
                      simp only [Act.put, List.setIfInBounds_toArray, List.set_cons_succ, List.set_cons_zero]
                      refine wpQuiet_step (fun K hK => ?_)
                      rw [if_pos (by rfl)]
                      refine ⟨.int .i64 yl, fun W hW => quiet_ok ?_, hK _ ?_⟩
                      · have q := HX.out W hW
                        obtain ⟨⟨m0, m1, m2, m3⟩, ⟨z0, z1, z2, z3⟩⟩ := q
                        go_simp
                        all_goals (try omega)
                      clear hK K
                      simp only [Act.put, List.setIfInBounds_toArray, List.set_cons_succ, List.set_cons_zero]
                      refine wpQuiet_step (fun K hK => ?_)
                      rw [if_pos (by rfl)]
                      refine ⟨.pointer (some ⟨wr.heap.size, 2, none⟩), fun W hW => quiet_ok ?_, hK _ ?_⟩
                      · have q := HX.out W hW
                        obtain ⟨⟨m0, m1, m2, m3⟩, ⟨z0, z1, z2, z3⟩⟩ := q
                        go_simp
                        all_goals (try omega)
                      clear hK K
                      simp only [Act.put, List.setIfInBounds_toArray, List.set_cons_succ, List.set_cons_zero]
                      refine wpQuiet_step (fun K hK => ?_)
                      rw [if_pos (by rfl)]
                      refine ⟨.int .i64 xl, fun W hW => quiet_ok ?_, hK _ ?_⟩
                      · have q := HX.out W hW
                        obtain ⟨⟨m0, m1, m2, m3⟩, ⟨z0, z1, z2, z3⟩⟩ := q
                        go_simp
                        all_goals (try omega)
                      clear hK K
                      simp only [Act.put, List.setIfInBounds_toArray, List.set_cons_succ, List.set_cons_zero]
                      refine wpQuiet_step (fun K hK => ?_)
                      rw [if_pos (by rfl)]
                      refine ⟨.bool tb, fun W hW => quiet_ok ?_, hK _ ?_⟩
                      · have htb := HTB.out
                        go_simp
                        all_goals (try omega)
                      clear hK K
                      simp only [Act.put, List.setIfInBounds_toArray, List.set_cons_succ, List.set_cons_zero]
                      refine wpQuiet_step (fun K hK => ?_)
                      rw [if_pos (by rfl)]
                      refine ⟨.bool tb, fun W hW => quiet_ok ?_, hK _ ?_⟩
                      · have htb := HTB.out
                        go_simp
                        all_goals (try omega)
                      clear hK K
                      simp only [Act.put, List.setIfInBounds_toArray, List.set_cons_succ, List.set_cons_zero]
                      refine BigFrame.wpQuiet_skip (by show (some tb == some false) = false; rw [HTB.out]; rfl) ?_
                      simp only [Act.put, List.setIfInBounds_toArray, List.set_cons_succ, List.set_cons_zero]
                      refine BigFrame.wpQuiet_skip (by show (some tb == some false) = false; rw [HTB.out]; rfl) ?_
                      simp only [Act.put, List.setIfInBounds_toArray, List.set_cons_succ, List.set_cons_zero]
                      refine BigFrame.wpQuiet_skip (by show (some tb == some false) = false; rw [HTB.out]; rfl) ?_
                      simp only [Act.put, List.setIfInBounds_toArray, List.set_cons_succ, List.set_cons_zero]
                      refine BigFrame.wpQuiet_skip (by show (some tb == some false) = false; rw [HTB.out]; rfl) ?_
                      simp only [Act.put, List.setIfInBounds_toArray, List.set_cons_succ, List.set_cons_zero]
                      refine BigFrame.wpQuiet_skip (by show (some tb == some false) = false; rw [HTB.out]; rfl) ?_
                      simp only [Act.put, List.setIfInBounds_toArray, List.set_cons_succ, List.set_cons_zero]
                      refine BigFrame.wpQuiet_skip (by show (some tb == some false) = false; rw [HTB.out]; rfl) ?_
                      simp only [Act.put, List.setIfInBounds_toArray, List.set_cons_succ, List.set_cons_zero]
                      refine BigFrame.wpQuiet_skip (by show (some tb == some false) = false; rw [HTB.out]; rfl) ?_
                      simp only [Act.put, List.setIfInBounds_toArray, List.set_cons_succ, List.set_cons_zero]
                      refine BigFrame.wpQuiet_skip (by show (some tb == some false) = false; rw [HTB.out]; rfl) ?_
                      simp only [Act.put, List.setIfInBounds_toArray, List.set_cons_succ, List.set_cons_zero]
                      refine BigFrame.wpQuiet_skip (by show (some tb == some false) = false; rw [HTB.out]; rfl) ?_
                      simp only [Act.put, List.setIfInBounds_toArray, List.set_cons_succ, List.set_cons_zero]
                      refine wpQuiet_step (fun K hK => ?_)
                      rw [if_pos (by rfl)]
                      refine ⟨.bool tb, fun W hW => quiet_ok ?_, hK _ ?_⟩
                      · have htb := HTB.out
                        go_simp
                        all_goals (try omega)
                      clear hK K
                      simp only [Act.put, List.setIfInBounds_toArray, List.set_cons_succ, List.set_cons_zero]
                      refine wpQuiet_step (fun K hK => ?_)
                      rw [if_pos (by rfl)]
                      refine ⟨.bool tb, fun W hW => quiet_ok ?_, hK _ ?_⟩
                      · have htb := HTB.out
                        go_simp
                        all_goals (try omega)
                      clear hK K
                      simp only [Act.put, List.setIfInBounds_toArray, List.set_cons_succ, List.set_cons_zero]
                      have htb2 := HTB.out
                      clear HTB
                      subst htb2
                      refine wpQuiet_nil ?_
                      intro W hW
                      have hbW := HBW.out W hW
                      go_wp2_with fail
                      go_ret
                      exact ⟨ret_intI HR.out.symm, hbW⟩
                  · have HR : Hid _ := HOK.out (ttlS_type ht)
                    have et : (yt == xt) = false := by simpa using ht
                    subst hn
                    clear HBAD HOK
                    obtain ⟨cb, hcb⟩ : ∃ cb, cb = false := ⟨_, rfl⟩
                    have HCB : Hid (cb = false) := hcb
                    clear hcb
                    go_wp2_with fail
                    rw [HW0.out]
                    refine wp_region_quiet (C := fun W => Below W0.heap.size W0 W) (by kernel_rfl) (by kernel_rfl) hbd ?_
                    refine wpQuiet_step (fun K hK => ?_)
                    rw [if_pos (by rfl)]
                    refine ⟨.int .i64 ((k : Int) + 1), fun W hW => quiet_ok ?_, hK _ ?_⟩
                    · have q := HX.out W hW
                      obtain ⟨⟨m0, m1, m2, m3⟩, ⟨z0, z1, z2, z3⟩⟩ := q
                      go_simp
                      all_goals (try omega)
                    clear hK K
                    simp only [Act.put, List.setIfInBounds_toArray, List.set_cons_succ, List.set_cons_zero]
                    refine wpQuiet_step (fun K hK => ?_)
                    rw [if_pos (by rfl)]
                    refine ⟨.bool true, fun W hW => quiet_ok ?_, hK _ ?_⟩
                    · have q := HX.out W hW
                      obtain ⟨⟨m0, m1, m2, m3⟩, ⟨z0, z1, z2, z3⟩⟩ := q
                      go_simp
                      all_goals (try omega)
                    clear hK K
                    simp only [Act.put, List.setIfInBounds_toArray, List.set_cons_succ, List.set_cons_zero]
                    refine wpQuiet_step (fun K hK => ?_)
                    rw [if_pos (by rfl)]
                    refine ⟨.bool true, fun W hW => quiet_ok ?_, hK _ ?_⟩
                    · have q := HX.out W hW
                      obtain ⟨⟨m0, m1, m2, m3⟩, ⟨z0, z1, z2, z3⟩⟩ := q
                      go_simp
                      all_goals (try omega)
                    clear hK K
                    simp only [Act.put, List.setIfInBounds_toArray, List.set_cons_succ, List.set_cons_zero]
                    refine wpQuiet_step (fun K hK => ?_)
                    rw [if_pos (by rfl)]
                    refine ⟨.slice (some ⟨b, o, none⟩) L.length cap, fun W hW => quiet_ok ?_, hK _ ?_⟩
                    · have q := HX.out W hW
                      obtain ⟨⟨m0, m1, m2, m3⟩, ⟨z0, z1, z2, z3⟩⟩ := q
                      go_simp
                      all_goals (try omega)
                    clear hK K
                    simp only [Act.put, List.setIfInBounds_toArray, List.set_cons_succ, List.set_cons_zero]
                    refine wpQuiet_step (fun K hK => ?_)
                    rw [if_pos (by rfl)]
                    refine ⟨.int .i64 ((k : Int) + 1), fun W hW => quiet_ok ?_, hK _ ?_⟩
                    · have q := HX.out W hW
                      obtain ⟨⟨m0, m1, m2, m3⟩, ⟨z0, z1, z2, z3⟩⟩ := q
                      go_simp
                      all_goals (try omega)
                    clear hK K
                    simp only [Act.put, List.setIfInBounds_toArray, List.set_cons_succ, List.set_cons_zero]
                    refine wpQuiet_step (fun K hK => ?_)
                    rw [if_pos (by rfl)]
                    refine ⟨.int .i64 (k : Int), fun W hW => quiet_ok ?_, hK _ ?_⟩
                    · have q := HX.out W hW
                      obtain ⟨⟨m0, m1, m2, m3⟩, ⟨z0, z1, z2, z3⟩⟩ := q
                      go_simp
                      all_goals (try omega)
                    clear hK K
                    simp only [Act.put, List.setIfInBounds_toArray, List.set_cons_succ, List.set_cons_zero]
                    refine wpQuiet_step (fun K hK => ?_)
                    rw [if_pos (by rfl)]
                    refine ⟨.pointer (some ⟨b, o + k * 4, none⟩), fun W hW => quiet_ok ?_, hK _ ?_⟩
                    · have q := HX.out W hW
                      obtain ⟨⟨m0, m1, m2, m3⟩, ⟨z0, z1, z2, z3⟩⟩ := q
                      go_simp
                      all_goals (try omega)
                    clear hK K
                    simp only [Act.put, List.setIfInBounds_toArray, List.set_cons_succ, List.set_cons_zero]
                    refine wpQuiet_step (fun K hK => ?_)
                    rw [if_pos (by rfl)]
                    refine ⟨.pointer (some ⟨b, o + k * 4, none⟩), fun W hW => quiet_ok ?_, hK _ ?_⟩
                    · have q := HX.out W hW
                      obtain ⟨⟨m0, m1, m2, m3⟩, ⟨z0, z1, z2, z3⟩⟩ := q
                      go_simp
                      all_goals (try omega)
                    clear hK K
                    simp only [Act.put, List.setIfInBounds_toArray, List.set_cons_succ, List.set_cons_zero]
                    refine wpQuiet_step (fun K hK => ?_)
                    rw [if_pos (by rfl)]
                    refine ⟨.string ⟨yn.toArray⟩, fun W hW => quiet_ok ?_, hK _ ?_⟩
                    · have q := HX.out W hW
                      obtain ⟨⟨m0, m1, m2, m3⟩, ⟨z0, z1, z2, z3⟩⟩ := q
                      go_simp
                      all_goals (try omega)
                    clear hK K
                    simp only [Act.put, List.setIfInBounds_toArray, List.set_cons_succ, List.set_cons_zero]
                    refine wpQuiet_step (fun K hK => ?_)
                    rw [if_pos (by rfl)]
                    refine ⟨.pointer (some ⟨wr.heap.size, 0, none⟩), fun W hW => quiet_ok ?_, hK _ ?_⟩
                    · have q := HX.out W hW
                      obtain ⟨⟨m0, m1, m2, m3⟩, ⟨z0, z1, z2, z3⟩⟩ := q
                      go_simp
                      all_goals (try omega)
                    clear hK K
                    simp only [Act.put, List.setIfInBounds_toArray, List.set_cons_succ, List.set_cons_zero]
                    refine wpQuiet_step (fun K hK => ?_)
                    rw [if_pos (by rfl)]
                    refine ⟨.string ⟨yn.toArray⟩, fun W hW => quiet_ok ?_, hK _ ?_⟩
                    · have q := HX.out W hW
                      obtain ⟨⟨m0, m1, m2, m3⟩, ⟨z0, z1, z2, z3⟩⟩ := q
                      go_simp
                      all_goals (try omega)
                    clear hK K
                    simp only [Act.put, List.setIfInBounds_toArray, List.set_cons_succ, List.set_cons_zero]
                    refine wpQuiet_step (fun K hK => ?_)
                    rw [if_pos (by rfl)]
                    refine ⟨.bool true, fun W hW => quiet_ok ?_, hK _ ?_⟩
                    · have q := HX.out W hW
                      obtain ⟨⟨m0, m1, m2, m3⟩, ⟨z0, z1, z2, z3⟩⟩ := q
                      go_simp
                      all_goals (try omega)
                    clear hK K
                    simp only [Act.put, List.setIfInBounds_toArray, List.set_cons_succ, List.set_cons_zero]
                    refine wpQuiet_step (fun K hK => ?_)
                    rw [if_pos (by rfl)]
                    refine ⟨.bool true, fun W hW => quiet_ok ?_, hK _ ?_⟩
                    · have q := HX.out W hW
                      obtain ⟨⟨m0, m1, m2, m3⟩, ⟨z0, z1, z2, z3⟩⟩ := q
                      go_simp
                      all_goals (try omega)
                    clear hK K
                    simp only [Act.put, List.setIfInBounds_toArray, List.set_cons_succ, List.set_cons_zero]
                    refine wpQuiet_step (fun K hK => ?_)
                    rw [if_pos (by rfl)]
                    refine ⟨.bool true, fun W hW => quiet_ok ?_, hK _ ?_⟩
                    · have q := HX.out W hW
                      obtain ⟨⟨m0, m1, m2, m3⟩, ⟨z0, z1, z2, z3⟩⟩ := q
                      go_simp
                      all_goals (try omega)
                    clear hK K
                    simp only [Act.put, List.setIfInBounds_toArray, List.set_cons_succ, List.set_cons_zero]
                    refine wpQuiet_step (fun K hK => ?_)
                    rw [if_pos (by rfl)]
                    refine ⟨.slice (some ⟨b, o, none⟩) L.length cap, fun W hW => quiet_ok ?_, hK _ ?_⟩
                    · have q := HX.out W hW
                      obtain ⟨⟨m0, m1, m2, m3⟩, ⟨z0, z1, z2, z3⟩⟩ := q
                      go_simp
                      all_goals (try omega)
                    clear hK K
                    simp only [Act.put, List.setIfInBounds_toArray, List.set_cons_succ, List.set_cons_zero]
                    refine wpQuiet_step (fun K hK => ?_)
                    rw [if_pos (by rfl)]
                    refine ⟨.int .i64 ((k : Int) + 1), fun W hW => quiet_ok ?_, hK _ ?_⟩
                    · have q := HX.out W hW
                      obtain ⟨⟨m0, m1, m2, m3⟩, ⟨z0, z1, z2, z3⟩⟩ := q
                      go_simp
                      all_goals (try omega)
                    clear hK K
                    simp only [Act.put, List.setIfInBounds_toArray, List.set_cons_succ, List.set_cons_zero]
                    refine wpQuiet_step (fun K hK => ?_)
                    rw [if_pos (by rfl)]
                    refine ⟨.int .i64 (k : Int), fun W hW => quiet_ok ?_, hK _ ?_⟩
                    · have q := HX.out W hW
                      obtain ⟨⟨m0, m1, m2, m3⟩, ⟨z0, z1, z2, z3⟩⟩ := q
                      go_simp
                      all_goals (try omega)
                    clear hK K
                    simp only [Act.put, List.setIfInBounds_toArray, List.set_cons_succ, List.set_cons_zero]
                    refine wpQuiet_step (fun K hK => ?_)
                    rw [if_pos (by rfl)]
                    refine ⟨.pointer (some ⟨b, o + k * 4, none⟩), fun W hW => quiet_ok ?_, hK _ ?_⟩
                    · have q := HX.out W hW
                      obtain ⟨⟨m0, m1, m2, m3⟩, ⟨z0, z1, z2, z3⟩⟩ := q
                      go_simp
                      all_goals (try omega)
                    clear hK K
                    simp only [Act.put, List.setIfInBounds_toArray, List.set_cons_succ, List.set_cons_zero]
                    refine wpQuiet_step (fun K hK => ?_)
                    rw [if_pos (by rfl)]
                    refine ⟨.pointer (some ⟨b, o + k * 4 + 1, none⟩), fun W hW => quiet_ok ?_, hK _ ?_⟩
                    · have q := HX.out W hW
                      obtain ⟨⟨m0, m1, m2, m3⟩, ⟨z0, z1, z2, z3⟩⟩ := q
                      go_simp
                      all_goals (try omega)
                    clear hK K
                    simp only [Act.put, List.setIfInBounds_toArray, List.set_cons_succ, List.set_cons_zero]
                    refine wpQuiet_step (fun K hK => ?_)
                    rw [if_pos (by rfl)]
                    refine ⟨.int .i64 yt, fun W hW => quiet_ok ?_, hK _ ?_⟩
                    · have q := HX.out W hW
                      obtain ⟨⟨m0, m1, m2, m3⟩, ⟨z0, z1, z2, z3⟩⟩ := q
                      go_simp
                      all_goals (try omega)
                    clear hK K
                    simp only [Act.put, List.setIfInBounds_toArray, List.set_cons_succ, List.set_cons_zero]
                    refine wpQuiet_step (fun K hK => ?_)
                    rw [if_pos (by rfl)]
                    refine ⟨.pointer (some ⟨wr.heap.size, 1, none⟩), fun W hW => quiet_ok ?_, hK _ ?_⟩
                    · have q := HX.out W hW
                      obtain ⟨⟨m0, m1, m2, m3⟩, ⟨z0, z1, z2, z3⟩⟩ := q
                      go_simp
                      all_goals (try omega)
                    clear hK K
                    simp only [Act.put, List.setIfInBounds_toArray, List.set_cons_succ, List.set_cons_zero]
                    refine wpQuiet_step (fun K hK => ?_)
                    rw [if_pos (by rfl)]
                    refine ⟨.int .i64 xt, fun W hW => quiet_ok ?_, hK _ ?_⟩
                    · have q := HX.out W hW
                      obtain ⟨⟨m0, m1, m2, m3⟩, ⟨z0, z1, z2, z3⟩⟩ := q
                      go_simp
                      all_goals (try omega)
                    clear hK K
                    simp only [Act.put, List.setIfInBounds_toArray, List.set_cons_succ, List.set_cons_zero]
                    refine wpQuiet_step (fun K hK => ?_)
                    rw [if_pos (by rfl)]
                    refine ⟨.bool cb, fun W hW => quiet_ok ?_, hK _ ?_⟩
                    · have q := HX.out W hW
                      obtain ⟨⟨m0, m1, m2, m3⟩, ⟨z0, z1, z2, z3⟩⟩ := q
                      have hcb := HCB.out
                      go_simp
                      all_goals (try omega)
                    clear hK K
                    simp only [Act.put, List.setIfInBounds_toArray, List.set_cons_succ, List.set_cons_zero]
                    refine wpQuiet_step (fun K hK => ?_)
                    rw [if_pos (by rfl)]
                    refine ⟨.bool cb, fun W hW => quiet_ok ?_, hK _ ?_⟩
                    · have q := HX.out W hW
                      obtain ⟨⟨m0, m1, m2, m3⟩, ⟨z0, z1, z2, z3⟩⟩ := q
                      have hcb := HCB.out
                      go_simp
                      all_goals (try omega)
                    clear hK K
                    simp only [Act.put, List.setIfInBounds_toArray, List.set_cons_succ, List.set_cons_zero]
                    refine wpQuiet_step (fun K hK => ?_)
                    rw [if_pos (by rfl)]
                    refine ⟨.bool cb, fun W hW => quiet_ok ?_, hK _ ?_⟩
                    · have q := HX.out W hW
                      obtain ⟨⟨m0, m1, m2, m3⟩, ⟨z0, z1, z2, z3⟩⟩ := q
                      have hcb := HCB.out
                      go_simp
                      all_goals (try omega)
                    clear hK K
                    simp only [Act.put, List.setIfInBounds_toArray, List.set_cons_succ, List.set_cons_zero]
                    refine BigFrame.wpQuiet_skip (by show (some cb == some true) = false; rw [HCB.out]; rfl) ?_
                    simp only [Act.put, List.setIfInBounds_toArray, List.set_cons_succ, List.set_cons_zero]
                    refine BigFrame.wpQuiet_skip (by show (some cb == some true) = false; rw [HCB.out]; rfl) ?_
                    simp only [Act.put, List.setIfInBounds_toArray, List.set_cons_succ, List.set_cons_zero]
                    refine BigFrame.wpQuiet_skip (by show (some cb == some true) = false; rw [HCB.out]; rfl) ?_
                    simp only [Act.put, List.setIfInBounds_toArray, List.set_cons_succ, List.set_cons_zero]
                    refine BigFrame.wpQuiet_skip (by show (some cb == some true) = false; rw [HCB.out]; rfl) ?_
                    simp only [Act.put, List.setIfInBounds_toArray, List.set_cons_succ, List.set_cons_zero]
                    refine BigFrame.wpQuiet_skip (by show (some cb == some true) = false; rw [HCB.out]; rfl) ?_
                    simp only [Act.put, List.setIfInBounds_toArray, List.set_cons_succ, List.set_cons_zero]
                    refine BigFrame.wpQuiet_skip (by show (some cb == some true) = false; rw [HCB.out]; rfl) ?_
                    simp only [Act.put, List.setIfInBounds_toArray, List.set_cons_succ, List.set_cons_zero]
                    refine BigFrame.wpQuiet_skip (by show (some cb == some true) = false; rw [HCB.out]; rfl) ?_
                    simp only [Act.put, List.setIfInBounds_toArray, List.set_cons_succ, List.set_cons_zero]
                    refine BigFrame.wpQuiet_skip (by show (some cb == some true) = false; rw [HCB.out]; rfl) ?_
                    simp only [Act.put, List.setIfInBounds_toArray, List.set_cons_succ, List.set_cons_zero]
                    refine BigFrame.wpQuiet_skip (by show (some cb == some true) = false; rw [HCB.out]; rfl) ?_
                    simp only [Act.put, List.setIfInBounds_toArray, List.set_cons_succ, List.set_cons_zero]
                    refine BigFrame.wpQuiet_skip (by show (some cb == some true) = false; rw [HCB.out]; rfl) ?_
                    simp only [Act.put, List.setIfInBounds_toArray, List.set_cons_succ, List.set_cons_zero]
                    generalize hund : (undef : Value) = un
                    refine BigFrame.wpQuiet_skip (by rw [← hund]; rfl) ?_
                    simp only [Act.put, List.setIfInBounds_toArray, List.set_cons_succ, List.set_cons_zero]
                    refine BigFrame.wpQuiet_skip (by rw [← hund]; rfl) ?_
                    simp only [Act.put, List.setIfInBounds_toArray, List.set_cons_succ, List.set_cons_zero]
                    refine BigFrame.wpQuiet_skip (by rw [← hund]; rfl) ?_
                    simp only [Act.put, List.setIfInBounds_toArray, List.set_cons_succ, List.set_cons_zero]
                    refine BigFrame.wpQuiet_skip (by rw [← hund]; rfl) ?_
                    simp only [Act.put, List.setIfInBounds_toArray, List.set_cons_succ, List.set_cons_zero]
                    refine BigFrame.wpQuiet_skip (by rw [← hund]; rfl) ?_
                    simp only [Act.put, List.setIfInBounds_toArray, List.set_cons_succ, List.set_cons_zero]
                    refine BigFrame.wpQuiet_skip (by rw [← hund]; rfl) ?_
                    simp only [Act.put, List.setIfInBounds_toArray, List.set_cons_succ, List.set_cons_zero]
                    refine BigFrame.wpQuiet_skip (by rw [← hund]; rfl) ?_
                    simp only [Act.put, List.setIfInBounds_toArray, List.set_cons_succ, List.set_cons_zero]
                    refine BigFrame.wpQuiet_skip (by rw [← hund]; rfl) ?_
                    simp only [Act.put, List.setIfInBounds_toArray, List.set_cons_succ, List.set_cons_zero]
                    refine BigFrame.wpQuiet_skip (by rw [← hund]; rfl) ?_
                    simp only [Act.put, List.setIfInBounds_toArray, List.set_cons_succ, List.set_cons_zero]
                    refine BigFrame.wpQuiet_skip (by show (some cb == some true) = false; rw [HCB.out]; rfl) ?_
                    simp only [Act.put, List.setIfInBounds_toArray, List.set_cons_succ, List.set_cons_zero]
                    subst hund
                    refine wpQuiet_step (fun K hK => ?_)
                    rw [if_pos (by rfl)]
                    refine ⟨.bool cb, fun W hW => quiet_ok ?_, hK _ ?_⟩
                    · have q := HX.out W hW
                      obtain ⟨⟨m0, m1, m2, m3⟩, ⟨z0, z1, z2, z3⟩⟩ := q
                      have hcb := HCB.out
                      go_simp
                      all_goals (try omega)
                    clear hK K
                    simp only [Act.put, List.setIfInBounds_toArray, List.set_cons_succ, List.set_cons_zero]
                    have hcb2 := HCB.out
                    clear HCB
                    subst hcb2
                    refine wpQuiet_nil ?_
                    intro W hW
                    have hbW := HBW.out W hW
                    go_wp2_with fail
                    go_roundw
                    case rel => exact ⟨k + 1 + 1, by omega, by go_num, HR.out, hbW⟩
                    case measure => simp [intOf]; omega
                · have HR : Hid _ := HOK.out (ttlS_name hn)
                  have en : (yn == xn) = false := by simpa using hn
                  clear HBAD HOK
                  obtain ⟨cb, hcb⟩ : ∃ cb, cb = false := ⟨_, rfl⟩
                  have HCB : Hid (cb = false) := hcb
                  clear hcb
                  go_wp2_with fail
                  rw [HW0.out]
                  refine wp_region_quiet (C := fun W => Below W0.heap.size W0 W) (by kernel_rfl) (by kernel_rfl) hbd ?_
                  refine wpQuiet_step (fun K hK => ?_)
                  rw [if_pos (by rfl)]
                  refine ⟨.int .i64 ((k : Int) + 1), fun W hW => quiet_ok ?_, hK _ ?_⟩
                  · have q := HX.out W hW
                    obtain ⟨⟨m0, m1, m2, m3⟩, ⟨z0, z1, z2, z3⟩⟩ := q
                    go_simp
                    all_goals (try omega)
                  clear hK K
                  simp only [Act.put, List.setIfInBounds_toArray, List.set_cons_succ, List.set_cons_zero]
                  refine wpQuiet_step (fun K hK => ?_)
                  rw [if_pos (by rfl)]
                  refine ⟨.bool true, fun W hW => quiet_ok ?_, hK _ ?_⟩
                  · have q := HX.out W hW
                    obtain ⟨⟨m0, m1, m2, m3⟩, ⟨z0, z1, z2, z3⟩⟩ := q
                    go_simp
                    all_goals (try omega)
                  clear hK K
                  simp only [Act.put, List.setIfInBounds_toArray, List.set_cons_succ, List.set_cons_zero]
                  refine wpQuiet_step (fun K hK => ?_)
                  rw [if_pos (by rfl)]
                  refine ⟨.bool true, fun W hW => quiet_ok ?_, hK _ ?_⟩
                  · have q := HX.out W hW
                    obtain ⟨⟨m0, m1, m2, m3⟩, ⟨z0, z1, z2, z3⟩⟩ := q
                    go_simp
                    all_goals (try omega)
                  clear hK K
                  simp only [Act.put, List.setIfInBounds_toArray, List.set_cons_succ, List.set_cons_zero]
                  refine wpQuiet_step (fun K hK => ?_)
                  rw [if_pos (by rfl)]
                  refine ⟨.slice (some ⟨b, o, none⟩) L.length cap, fun W hW => quiet_ok ?_, hK _ ?_⟩
                  · have q := HX.out W hW
                    obtain ⟨⟨m0, m1, m2, m3⟩, ⟨z0, z1, z2, z3⟩⟩ := q
                    go_simp
                    all_goals (try omega)
                  clear hK K
                  simp only [Act.put, List.setIfInBounds_toArray, List.set_cons_succ, List.set_cons_zero]
                  refine wpQuiet_step (fun K hK => ?_)
                  rw [if_pos (by rfl)]
                  refine ⟨.int .i64 ((k : Int) + 1), fun W hW => quiet_ok ?_, hK _ ?_⟩
                  · have q := HX.out W hW
                    obtain ⟨⟨m0, m1, m2, m3⟩, ⟨z0, z1, z2, z3⟩⟩ := q
                    go_simp
                    all_goals (try omega)
                  clear hK K
                  simp only [Act.put, List.setIfInBounds_toArray, List.set_cons_succ, List.set_cons_zero]
                  refine wpQuiet_step (fun K hK => ?_)
                  rw [if_pos (by rfl)]
                  refine ⟨.int .i64 (k : Int), fun W hW => quiet_ok ?_, hK _ ?_⟩
                  · have q := HX.out W hW
                    obtain ⟨⟨m0, m1, m2, m3⟩, ⟨z0, z1, z2, z3⟩⟩ := q
                    go_simp
                    all_goals (try omega)
                  clear hK K
                  simp only [Act.put, List.setIfInBounds_toArray, List.set_cons_succ, List.set_cons_zero]
                  refine wpQuiet_step (fun K hK => ?_)
                  rw [if_pos (by rfl)]
                  refine ⟨.pointer (some ⟨b, o + k * 4, none⟩), fun W hW => quiet_ok ?_, hK _ ?_⟩
                  · have q := HX.out W hW
                    obtain ⟨⟨m0, m1, m2, m3⟩, ⟨z0, z1, z2, z3⟩⟩ := q
                    go_simp
                    all_goals (try omega)
                  clear hK K
                  simp only [Act.put, List.setIfInBounds_toArray, List.set_cons_succ, List.set_cons_zero]
                  refine wpQuiet_step (fun K hK => ?_)
                  rw [if_pos (by rfl)]
                  refine ⟨.pointer (some ⟨b, o + k * 4, none⟩), fun W hW => quiet_ok ?_, hK _ ?_⟩
                  · have q := HX.out W hW
                    obtain ⟨⟨m0, m1, m2, m3⟩, ⟨z0, z1, z2, z3⟩⟩ := q
                    go_simp
                    all_goals (try omega)
                  clear hK K
                  simp only [Act.put, List.setIfInBounds_toArray, List.set_cons_succ, List.set_cons_zero]
                  refine wpQuiet_step (fun K hK => ?_)
                  rw [if_pos (by rfl)]
                  refine ⟨.string ⟨yn.toArray⟩, fun W hW => quiet_ok ?_, hK _ ?_⟩
                  · have q := HX.out W hW
                    obtain ⟨⟨m0, m1, m2, m3⟩, ⟨z0, z1, z2, z3⟩⟩ := q
                    go_simp
                    all_goals (try omega)
                  clear hK K
                  simp only [Act.put, List.setIfInBounds_toArray, List.set_cons_succ, List.set_cons_zero]
                  refine wpQuiet_step (fun K hK => ?_)
                  rw [if_pos (by rfl)]
                  refine ⟨.pointer (some ⟨wr.heap.size, 0, none⟩), fun W hW => quiet_ok ?_, hK _ ?_⟩
                  · have q := HX.out W hW
                    obtain ⟨⟨m0, m1, m2, m3⟩, ⟨z0, z1, z2, z3⟩⟩ := q
                    go_simp
                    all_goals (try omega)
                  clear hK K
                  simp only [Act.put, List.setIfInBounds_toArray, List.set_cons_succ, List.set_cons_zero]
                  refine wpQuiet_step (fun K hK => ?_)
                  rw [if_pos (by rfl)]
                  refine ⟨.string ⟨xn.toArray⟩, fun W hW => quiet_ok ?_, hK _ ?_⟩
                  · have q := HX.out W hW
                    obtain ⟨⟨m0, m1, m2, m3⟩, ⟨z0, z1, z2, z3⟩⟩ := q
                    go_simp
                    all_goals (try omega)
                  clear hK K
                  simp only [Act.put, List.setIfInBounds_toArray, List.set_cons_succ, List.set_cons_zero]
                  refine wpQuiet_step (fun K hK => ?_)
                  rw [if_pos (by rfl)]
                  refine ⟨.bool cb, fun W hW => quiet_ok ?_, hK _ ?_⟩
                  · have q := HX.out W hW
                    obtain ⟨⟨m0, m1, m2, m3⟩, ⟨z0, z1, z2, z3⟩⟩ := q
                    have hcb := HCB.out
                    go_simp
                    all_goals (try omega)
                  clear hK K
                  simp only [Act.put, List.setIfInBounds_toArray, List.set_cons_succ, List.set_cons_zero]
                  refine wpQuiet_step (fun K hK => ?_)
                  rw [if_pos (by rfl)]
                  refine ⟨.bool cb, fun W hW => quiet_ok ?_, hK _ ?_⟩
                  · have q := HX.out W hW
                    obtain ⟨⟨m0, m1, m2, m3⟩, ⟨z0, z1, z2, z3⟩⟩ := q
                    have hcb := HCB.out
                    go_simp
                    all_goals (try omega)
                  clear hK K
                  simp only [Act.put, List.setIfInBounds_toArray, List.set_cons_succ, List.set_cons_zero]
                  refine wpQuiet_step (fun K hK => ?_)
                  rw [if_pos (by rfl)]
                  refine ⟨.bool cb, fun W hW => quiet_ok ?_, hK _ ?_⟩
                  · have q := HX.out W hW
                    obtain ⟨⟨m0, m1, m2, m3⟩, ⟨z0, z1, z2, z3⟩⟩ := q
                    have hcb := HCB.out
                    go_simp
                    all_goals (try omega)
                  clear hK K
                  simp only [Act.put, List.setIfInBounds_toArray, List.set_cons_succ, List.set_cons_zero]
                  refine BigFrame.wpQuiet_skip (by show (some cb == some true) = false; rw [HCB.out]; rfl) ?_
                  simp only [Act.put, List.setIfInBounds_toArray, List.set_cons_succ, List.set_cons_zero]
                  refine BigFrame.wpQuiet_skip (by show (some cb == some true) = false; rw [HCB.out]; rfl) ?_
                  simp only [Act.put, List.setIfInBounds_toArray, List.set_cons_succ, List.set_cons_zero]
                  refine BigFrame.wpQuiet_skip (by show (some cb == some true) = false; rw [HCB.out]; rfl) ?_
                  simp only [Act.put, List.setIfInBounds_toArray, List.set_cons_succ, List.set_cons_zero]
                  refine BigFrame.wpQuiet_skip (by show (some cb == some true) = false; rw [HCB.out]; rfl) ?_
                  simp only [Act.put, List.setIfInBounds_toArray, List.set_cons_succ, List.set_cons_zero]
                  refine BigFrame.wpQuiet_skip (by show (some cb == some true) = false; rw [HCB.out]; rfl) ?_
                  simp only [Act.put, List.setIfInBounds_toArray, List.set_cons_succ, List.set_cons_zero]
                  refine BigFrame.wpQuiet_skip (by show (some cb == some true) = false; rw [HCB.out]; rfl) ?_
                  simp only [Act.put, List.setIfInBounds_toArray, List.set_cons_succ, List.set_cons_zero]
                  refine BigFrame.wpQuiet_skip (by show (some cb == some true) = false; rw [HCB.out]; rfl) ?_
                  simp only [Act.put, List.setIfInBounds_toArray, List.set_cons_succ, List.set_cons_zero]
                  refine BigFrame.wpQuiet_skip (by show (some cb == some true) = false; rw [HCB.out]; rfl) ?_
                  simp only [Act.put, List.setIfInBounds_toArray, List.set_cons_succ, List.set_cons_zero]
                  refine BigFrame.wpQuiet_skip (by show (some cb == some true) = false; rw [HCB.out]; rfl) ?_
                  simp only [Act.put, List.setIfInBounds_toArray, List.set_cons_succ, List.set_cons_zero]
                  refine wpQuiet_step (fun K hK => ?_)
                  rw [if_pos (by rfl)]
                  refine ⟨.bool cb, fun W hW => quiet_ok ?_, hK _ ?_⟩
                  · have q := HX.out W hW
                    obtain ⟨⟨m0, m1, m2, m3⟩, ⟨z0, z1, z2, z3⟩⟩ := q
                    have hcb := HCB.out
                    go_simp
                    all_goals (try omega)
                  clear hK K
                  simp only [Act.put, List.setIfInBounds_toArray, List.set_cons_succ, List.set_cons_zero]
                  refine wpQuiet_step (fun K hK => ?_)
                  rw [if_pos (by rfl)]
                  refine ⟨.bool cb, fun W hW => quiet_ok ?_, hK _ ?_⟩
                  · have q := HX.out W hW
                    obtain ⟨⟨m0, m1, m2, m3⟩, ⟨z0, z1, z2, z3⟩⟩ := q
                    have hcb := HCB.out
                    go_simp
                    all_goals (try omega)
                  clear hK K
                  simp only [Act.put, List.setIfInBounds_toArray, List.set_cons_succ, List.set_cons_zero]
                  refine BigFrame.wpQuiet_skip (by show (some cb == some true) = false; rw [HCB.out]; rfl) ?_
                  simp only [Act.put, List.setIfInBounds_toArray, List.set_cons_succ, List.set_cons_zero]
                  refine BigFrame.wpQuiet_skip (by show (some cb == some true) = false; rw [HCB.out]; rfl) ?_
                  simp only [Act.put, List.setIfInBounds_toArray, List.set_cons_succ, List.set_cons_zero]
                  refine BigFrame.wpQuiet_skip (by show (some cb == some true) = false; rw [HCB.out]; rfl) ?_
                  simp only [Act.put, List.setIfInBounds_toArray, List.set_cons_succ, List.set_cons_zero]
                  refine BigFrame.wpQuiet_skip (by show (some cb == some true) = false; rw [HCB.out]; rfl) ?_
                  simp only [Act.put, List.setIfInBounds_toArray, List.set_cons_succ, List.set_cons_zero]
                  refine BigFrame.wpQuiet_skip (by show (some cb == some true) = false; rw [HCB.out]; rfl) ?_
                  simp only [Act.put, List.setIfInBounds_toArray, List.set_cons_succ, List.set_cons_zero]
                  refine BigFrame.wpQuiet_skip (by show (some cb == some true) = false; rw [HCB.out]; rfl) ?_
                  simp only [Act.put, List.setIfInBounds_toArray, List.set_cons_succ, List.set_cons_zero]
                  refine BigFrame.wpQuiet_skip (by show (some cb == some true) = false; rw [HCB.out]; rfl) ?_
                  simp only [Act.put, List.setIfInBounds_toArray, List.set_cons_succ, List.set_cons_zero]
                  refine BigFrame.wpQuiet_skip (by show (some cb == some true) = false; rw [HCB.out]; rfl) ?_
                  simp only [Act.put, List.setIfInBounds_toArray, List.set_cons_succ, List.set_cons_zero]
                  refine BigFrame.wpQuiet_skip (by show (some cb == some true) = false; rw [HCB.out]; rfl) ?_
                  simp only [Act.put, List.setIfInBounds_toArray, List.set_cons_succ, List.set_cons_zero]
                  refine BigFrame.wpQuiet_skip (by show (some cb == some true) = false; rw [HCB.out]; rfl) ?_
                  simp only [Act.put, List.setIfInBounds_toArray, List.set_cons_succ, List.set_cons_zero]
                  generalize hund : (undef : Value) = un
                  refine BigFrame.wpQuiet_skip (by rw [← hund]; rfl) ?_
                  simp only [Act.put, List.setIfInBounds_toArray, List.set_cons_succ, List.set_cons_zero]
                  refine BigFrame.wpQuiet_skip (by rw [← hund]; rfl) ?_
                  simp only [Act.put, List.setIfInBounds_toArray, List.set_cons_succ, List.set_cons_zero]
                  refine BigFrame.wpQuiet_skip (by rw [← hund]; rfl) ?_
                  simp only [Act.put, List.setIfInBounds_toArray, List.set_cons_succ, List.set_cons_zero]
                  refine BigFrame.wpQuiet_skip (by rw [← hund]; rfl) ?_
                  simp only [Act.put, List.setIfInBounds_toArray, List.set_cons_succ, List.set_cons_zero]
                  refine BigFrame.wpQuiet_skip (by rw [← hund]; rfl) ?_
                  simp only [Act.put, List.setIfInBounds_toArray, List.set_cons_succ, List.set_cons_zero]
                  refine BigFrame.wpQuiet_skip (by rw [← hund]; rfl) ?_
                  simp only [Act.put, List.setIfInBounds_toArray, List.set_cons_succ, List.set_cons_zero]
                  refine BigFrame.wpQuiet_skip (by rw [← hund]; rfl) ?_
                  simp only [Act.put, List.setIfInBounds_toArray, List.set_cons_succ, List.set_cons_zero]
                  refine BigFrame.wpQuiet_skip (by rw [← hund]; rfl) ?_
                  simp only [Act.put, List.setIfInBounds_toArray, List.set_cons_succ, List.set_cons_zero]
                  refine BigFrame.wpQuiet_skip (by rw [← hund]; rfl) ?_
                  simp only [Act.put, List.setIfInBounds_toArray, List.set_cons_succ, List.set_cons_zero]
                  refine BigFrame.wpQuiet_skip (by show (some cb == some true) = false; rw [HCB.out]; rfl) ?_
                  simp only [Act.put, List.setIfInBounds_toArray, List.set_cons_succ, List.set_cons_zero]
                  subst hund
                  refine wpQuiet_step (fun K hK => ?_)
                  rw [if_pos (by rfl)]
                  refine ⟨.bool cb, fun W hW => quiet_ok ?_, hK _ ?_⟩
                  · have q := HX.out W hW
                    obtain ⟨⟨m0, m1, m2, m3⟩, ⟨z0, z1, z2, z3⟩⟩ := q
                    have hcb := HCB.out
                    go_simp
                    all_goals (try omega)
                  clear hK K
                  simp only [Act.put, List.setIfInBounds_toArray, List.set_cons_succ, List.set_cons_zero]
                  have hcb2 := HCB.out
                  clear HCB
                  subst hcb2
                  refine wpQuiet_nil ?_
                  intro W hW
                  have hbW := HBW.out W hW
                  go_wp2_with fail
                  go_roundw
                  case rel => exact ⟨k + 1 + 1, by omega, by go_num, HR.out, hbW⟩
                  case measure => simp [intOf]; omega
          · have HTT : Hid (adjB ttlS L = true) := (adj_iff _ _).2 (fun j hj => HA.out j hj (by omega))
            rw [HTT.out] at HRS
            have hb2 := hb
            clear hb HA HTT
            go_wp2_with fail
            go_loopw [99] (fun i wr => ∃ k : Nat, k ≤ L.length ∧ i = .int .i64 (k : Int) ∧ Hid (∀ i j, (hij : i < j) → (hj : j < L.length) → j < k → cnP (L[i]'(by omega)) L[j] = true) ∧ Below w.heap.size w wr) (fun i _ => L.length - (intOf i).toNat)
            case atStart => exact ⟨0, Nat.zero_le _, rfl, fun i j _ _ h => absurd h (Nat.not_lt_zero _), hb2⟩
            case round =>
              obtain ⟨k, hk, rfl, HA, hb⟩ := hrel
              by_cases hlt : k < L.length
              · rcases HROW.out with hr | ⟨b, o, ha, hbl, hcel⟩
                · rw [hr] at hlt; simp at hlt
                · rw [ha]
                  have hcx := (hcel k hlt).kept hb
                  unfold RecAt at hcx
                  obtain ⟨c0, c1, c2, c3⟩ := hcx
                  have HCEL : Hid (∀ W, Below w.heap.size w W → ∀ j, (hj : j < L.length) → RecAt W b (o + j * 4) L[j]) := fun W hW j hj => (hcel j hj).kept hW
                  have HBAD : Hid (∀ m, (hm : m < k) → cnP (L[m]'(by omega)) (L[k]'hlt) = false → pairB cnP L = false) := fun m hm h => pair_bad m k hm hlt h
                  have HOK : Hid ((∀ m, (hm : m < k) → cnP (L[m]'(by omega)) (L[k]'hlt) = true) → ∀ i j, (hij : i < j) → (hj : j < L.length) → j < k + 1 → cnP (L[i]'(by omega)) L[j] = true) := fun h i j hij hj h1 => by
                    rcases Nat.lt_or_ge j k with h' | h'
                    · exact HA.out i j hij hj h'
                    · obtain rfl : j = k := by omega
                      exact h i hij
                  obtain ⟨x, hxe⟩ : ∃ x, x = L[k]'hlt := ⟨_, rfl⟩
                  rw [← hxe] at c0 c1 c2 c3 HBAD HOK
                  obtain ⟨xn, xt, xl, xd⟩ := x
                  simp only at c0 c1 c2 c3
                  obtain ⟨W0, hW0⟩ : ∃ W0, W0 = wr.alloc (.cells #[.string ⟨xn.toArray⟩, .int .i64 xt, .int .i64 xl, .string ⟨xd.toArray⟩] 108) := ⟨_, rfl⟩
                  have HB0 : Hid (∀ W, Below W0.heap.size W0 W → (W.cell? ⟨wr.heap.size, 0, none⟩ = some (.string ⟨xn.toArray⟩) ∧ W.cell? ⟨wr.heap.size, 1, none⟩ = some (.int .i64 xt)) ∧ Below w.heap.size w W) := fun W hW => by
                    rw [hW0] at hW
                    have h := box4 hW
                    exact ⟨⟨h.1, h.2.1⟩, hb.trans (h.2.2.2.2.mono hb.size)⟩
                  have HW0 : Hid (wr.alloc (.cells #[.string ⟨xn.toArray⟩, .int .i64 xt, .int .i64 xl, .string ⟨xd.toArray⟩] 108) = W0) := hW0.symm
                  have hkc : (k : Int) ≤ (cap : Int) := by omega
                  have hkn : ((k : Int)).toNat = k := by omega
                  have hz0 : wr.heap.size < W0.heap.size := by rw [hW0]; simp
                  clear hcel hxe hW0 HA
                  go_wp2_with fail
                  rw [HW0.out]
                  obtain ⟨gx, hgx⟩ : ∃ gx, gx = wr.heap.size := ⟨_, rfl⟩
                  rw [← hgx] at HB0 hz0 ⊢
                  clear hgx
                  go_loopw [108] (fun i wi => ∃ m : Nat, m ≤ k ∧ i = .int .i64 (m : Int) ∧ Hid (∀ q, (hq : q < k) → q < m → cnP (L[q]'(by omega)) (xn, xt, xl, xd) = true) ∧ Below W0.heap.size W0 wi) (fun i _ => k - (intOf i).toNat)
                  case atStart => exact ⟨0, Nat.zero_le _, rfl, fun q _ h => absurd h (Nat.not_lt_zero _), Below.refl _ _⟩
                  case round =>
                    obtain ⟨m, hm, rfl, HM, hbi⟩ := hrel
                    obtain ⟨⟨d0, d1⟩, hbwi⟩ := HB0.out _ hbi
                    by_cases hmk : m < k
                    · have hcy := HCEL.out _ hbwi m (by omega)
                      have HB2 : Hid (cnP (L[m]'(by omega)) (xn, xt, xl, xd) = false → pairB cnP L = false) := HBAD.out m hmk
                      have HO2 : Hid (cnP (L[m]'(by omega)) (xn, xt, xl, xd) = true → ∀ q, (hq : q < k) → q < m + 1 → cnP (L[q]'(by omega)) (xn, xt, xl, xd) = true) := fun h q hq h1 => by
                        rcases Nat.lt_or_ge q m with h' | h'
                        · exact HM.out q hq h'
                        · obtain rfl : q = m := by omega
                          exact h
                      obtain ⟨y, hye⟩ : ∃ y, y = L[m]'(by omega) := ⟨_, rfl⟩
                      rw [← hye] at hcy HB2 HO2
                      obtain ⟨yn, yt, yl, yd⟩ := y
                      unfold RecAt at hcy
                      obtain ⟨g0, g1, g2, g3⟩ := hcy
                      simp only at g0 g1 g2 g3
                      have hzi := Nat.lt_of_lt_of_le hz0 hbi.size
                      have hml : (m : Int) < (L.length : Int) := by omega
                      have hmc : (m : Int) < (k : Int) := by omega
                      have hbk := hbi.alloc hbi.size (.cells #[.string ⟨yn.toArray⟩, .int .i64 yt, .int .i64 yl, .string ⟨yd.toArray⟩] 108)
                      have hbwk := (HB0.out _ hbk).2
                      clear hye
                      by_cases hn : yn = xn
                      · by_cases hy5 : yt = 5
                        · have HR : Hid (rr = 4) := by rw [HRS.out, HB2.out (by unfold cnP; simp [hn, hy5])]; rfl
                          subst hn
                          subst hy5
                          clear HB2 HO2
                          go_wp2_with fail
                          go_ret
                          exact ⟨ret_intI HR.out.symm, hbwk⟩
                        · by_cases hx5 : xt = 5
                          · have HR : Hid (rr = 4) := by rw [HRS.out, HB2.out (by unfold cnP; simp [hn, hx5])]; rfl
                            have e5 : (yt == 5) = false := by simpa using hy5
                            subst hn
                            subst hx5
                            clear HB2 HO2
                            go_wp2_with fail
                            go_ret
                            exact ⟨ret_intI HR.out.symm, hbwk⟩
                          · have HR : Hid _ := HO2.out (by unfold cnP; simp [hx5, hy5])
                            have e5 : (yt == 5) = false := by simpa using hy5
                            have e6 : (xt == 5) = false := by simpa using hx5
                            subst hn
                            clear HB2 HO2
                            go_wp2_with fail
                            go_roundw
                            case rel => exact ⟨m + 1, by omega, by go_num, HR, hbk⟩
                            case measure => simp [intOf]; omega
                      · have HR : Hid _ := HO2.out (by unfold cnP; simp [hn])
                        have en : (yn == xn) = false := by simpa using hn
                        clear HB2 HO2
                        go_wp2_with fail
                        go_roundw
                        case rel => exact ⟨m + 1, by omega, by go_num, HR, hbk⟩
                        case measure => simp [intOf]; omega
                    · have HR : Hid _ := HOK.out (fun q hq => HM.out q hq (by omega))
                      clear HBAD HOK HM
                      go_wp2_with fail
                      go_roundw
                      case rel => exact ⟨k + 1, by omega, by go_num, HR, hbwi⟩
                      case measure => simp [intOf]; omega
              · have HPP : Hid (pairB cnP L = true) := (pair_iff _ _).2 (fun i j hij hj => HA.out i j hij hj (by omega))
                rw [HPP.out] at HRS
                clear HA HPP
                go_wp2_with fail
                refine (HHELD.out _ hb).mono ?_
                rintro e w5 ⟨rfl, hb5⟩
                have hbw5 := hb.trans (hb5.mono hb.size)
                cases h5 : heldB L ap.data.toList 5 with
                | true =>
                  have HR : Hid (rr = 5) := by rw [HRS.out, h5]; rfl
                  clear HRS h5
                  go_wp2_with fail
                  go_ret
                  exact ⟨ret_intI HR.out.symm, hbw5⟩
                | false =>
                  rw [h5] at HRS
                  clear h5
                  go_wp2_with fail
                  go_loopw [134] (fun i wr => ∃ k : Nat, k ≤ L.length ∧ i = .int .i64 (k : Int) ∧ Hid (∀ j, (hj : j < L.length) → j < k → okAt (zcutR ap.data.toList L L[j].1) L[j] = true) ∧ Below w.heap.size w wr) (fun i _ => L.length - (intOf i).toNat)
                  case atStart => exact ⟨0, Nat.zero_le _, rfl, fun j _ h => absurd h (Nat.not_lt_zero _), hbw5⟩
                  case round =>
                    obtain ⟨k, hk, rfl, HA, hb⟩ := hrel
                    by_cases hlt : k < L.length
                    · rcases HROW.out with hr | ⟨b, o, ha, hbl, hcel⟩
                      · rw [hr] at hlt; simp at hlt
                      · have hcx := (hcel k hlt).kept hb
                        unfold RecAt at hcx
                        obtain ⟨c0, c1, c2, c3⟩ := hcx
                        have HCC0 := HCUT.out HALL.out (L[k]'hlt)
                        have hxm := List.getElem_mem hlt
                        have HBAD : Hid (okAt (zcutR ap.data.toList L (L[k]'hlt).1) (L[k]'hlt) = false → zcutS ap.data.toList L = false) := zcutS_bad k hlt
                        have HOK : Hid (okAt (zcutR ap.data.toList L (L[k]'hlt).1) (L[k]'hlt) = true → ∀ j, (hj : j < L.length) → j < k + 1 → okAt (zcutR ap.data.toList L L[j].1) L[j] = true) := fun h j hj h1 => by
                          rcases Nat.lt_or_ge j k with h' | h'
                          · exact HA.out j hj h'
                          · obtain rfl : j = k := by omega
                            exact h
                        have HON := okAt_none ap.data.toList L (L[k]'hlt)
                        have HOS := okAt_some ap.data.toList L (L[k]'hlt)
                        obtain ⟨x, hxe⟩ : ∃ x, x = L[k]'hlt := ⟨_, rfl⟩
                        rw [← hxe] at c0 c1 c2 c3 HCC0 HBAD HOK HON HOS hxm
                        rw [ha] at HCC0 ⊢
                        obtain ⟨xn, xt, xl, xd⟩ := x
                        simp only at c0 c1 c2 c3 HCC0 HON HOS
                        have hbk := hb.alloc hb.size (.cells #[.string ⟨xn.toArray⟩, .int .i64 xt, .int .i64 xl, .string ⟨xd.toArray⟩] 108)
                        obtain ⟨zj, hzj⟩ : ∃ zj, zj = zcutJ L xn (upN ap.data.toList xn) := ⟨_, rfl⟩
                        rw [← hzj] at HCC0 HON HOS
                        have HCC : Hid (∀ W, Below w.heap.size w W → Calls Tryz.prog 154 #[.string ap, .slice (some ⟨b, o, none⟩) L.length cap, .string ⟨xn.toArray⟩] W fun e w' => e = .returned (.tuple #[.string ⟨(cutV xn zj).1.toArray⟩, .bool (cutV xn zj).2]) ∧ Below W.heap.size W w') := fun W hW => HCC0 W hxm hW
                        clear hcel hxe HCC0 hzj hxm HA
                        cases zj with
                        | none =>
                          have HR : Hid _ := HOK.out (HON rfl)
                          have HC2 : Hid (∀ W, Below w.heap.size w W → Calls Tryz.prog 154 #[.string ap, .slice (some ⟨b, o, none⟩) L.length cap, .string ⟨xn.toArray⟩] W fun e w' => e = .returned (.tuple #[.string ⟨#[]⟩, .bool false]) ∧ Below W.heap.size W w') := HCC
                          clear HON HOS HOK HBAD HCC
                          go_wp2_with fail
                          refine (HC2.out _ hbk).mono ?_
                          rintro e w2 ⟨rfl, hb2⟩
                          have hbw2 := hbk.trans (hb2.mono hbk.size)
                          go_wp2_with fail
                          go_roundw
                          case rel => exact ⟨k + 1, by omega, by go_num, HR, hbw2⟩
                          case measure => simp [intOf]; omega
                        | some j =>
                          have HOV := HOS j rfl
                          have HC2 : Hid (∀ W, Below w.heap.size w W → Calls Tryz.prog 154 #[.string ap, .slice (some ⟨b, o, none⟩) L.length cap, .string ⟨xn.toArray⟩] W fun e w' => e = .returned (.tuple #[.string ⟨(upAt xn j).toArray⟩, .bool true]) ∧ Below W.heap.size W w') := HCC
                          obtain ⟨u, hu⟩ : ∃ u, u = upAt xn j := ⟨_, rfl⟩
                          rw [← hu] at HOV HC2
                          have HV : Hid (okAt (zcutR ap.data.toList L xn) (xn, xt, xl, xd) = (xt == 1 || (xt == 2 && xn == u))) := HOV
                          clear HON HOS HOV HCC hu
                          go_wp2_with fail
                          refine (HC2.out _ hbk).mono ?_
                          rintro e w2 ⟨rfl, hb2⟩
                          obtain ⟨d0, d1, _, _, hbw2'⟩ := box4 hb2
                          have hbw2 := hbk.trans (hb2.mono hbk.size)
                          by_cases h1 : xt = 1
                          · have HR : Hid _ := HOK.out (by rw [HV.out]; simp [h1])
                            subst h1
                            clear HBAD HOK
                            go_wp2_with fail
                            go_roundw
                            case rel => exact ⟨k + 1, by omega, by go_num, HR, hbw2⟩
                            case measure => simp [intOf]; omega
                          · have e1 : (xt != 1) = true := by simpa using h1
                            by_cases h2 : xt = 2
                            · by_cases hn : xn = u
                              · have HR : Hid _ := HOK.out (by rw [HV.out]; simp [h2, hn])
                                subst h2
                                subst hn
                                clear HBAD HOK
                                go_wp2_with fail
                                go_roundw
                                case rel => exact ⟨k + 1, by omega, by go_num, HR, hbw2⟩
                                case measure => simp [intOf]; omega
                              · have HR : Hid (rr = 6) := by rw [HRS.out, HBAD.out (by rw [HV.out]; simp [h2, hn])]; rfl
                                have en : (xn == u) = false := by simpa using hn
                                subst h2
                                clear HBAD HOK
                                go_wp2_with fail
                                go_ret
                                exact ⟨ret_intI HR.out.symm, hbw2⟩
                            · have HR : Hid (rr = 6) := by rw [HRS.out, HBAD.out (by rw [HV.out]; simp [h1, h2])]; rfl
                              have e2 : (xt != 2) = true := by simpa using h2
                              clear HBAD HOK
                              go_wp2_with fail
                              go_ret
                              exact ⟨ret_intI HR.out.symm, hbw2⟩
                    · have HR : Hid (rr = 0) := by rw [HRS.out, zcutS_all (fun j hj => HA.out j hj (by omega))]; rfl
                      go_wp2_with fail
                      go_ret
                      exact ⟨ret_intI HR.out.symm, hb⟩
      · have HR : Hid (rr = 2) := by rw [HRS.out, if_pos h1]; rfl
        have e1 : ((n : Int) != 1) = true := by simp; omega
        go_wp2_with fail
        go_ret
        exact ⟨ret_intI HR.out.symm, hb⟩
end Go.Proofs.YtoobaaklklommaaGreatDoor
