import Derived.Test.YtoobaaklklommaaGreatDoorZ30
import Derived.Test.YtoobaaklklommaaGreatDoorZ32
import Derived.BigQuiet
import Derived.Deep.QuietTactic
namespace Go.Proofs.YtoobaaklklommaaGreatDoor
open Go.RowKit

theorem allB_bad {ap : List UInt8} {L : List (List UInt8 × Int × Int × List UInt8)} (k : Nat) (hk : k < L.length) (h : belowB L[k].1 ap = false) : allB ap L = false := by
  unfold allB; rw [List.all_eq_false]; exact ⟨_, List.getElem_mem hk, by simpa using h⟩
theorem allB_all {ap : List UInt8} {L : List (List UInt8 × Int × Int × List UInt8)} (h : ∀ j, (hj : j < L.length) → belowB L[j].1 ap = true) : allB ap L = true := by
  unfold allB; rw [List.all_eq_true]; intro x hx
  obtain ⟨j, hj, rfl⟩ := List.getElem_of_mem hx
  exact h j hj

set_option maxRecDepth 20000 in
set_option maxHeartbeats 1000000 in
theorem allBelow_any (ap : ByteArray) (v : Value) (L : List (List UInt8 × Int × Int × List UInt8)) (w : World) (hr : RRow w v L) (hap : ap.size ≤ 1048576) (hx : Hid (∀ x ∈ L, x.1.length ≤ 1048576 ∧ x.2.2.2.length ≤ 1048576)) :
    Calls Tryz.prog 158 #[.string ap, v] w fun e w' => e = .returned (.bool (allB ap.data.toList L)) ∧ Below w.heap.size w w' := by
  obtain ⟨a, cap, rfl, hcap, hmax, hrow⟩ := hr
  have HROW : Hid (L = [] ∨ ∃ b o, a = some ⟨b, o, none⟩ ∧ b < w.heap.size ∧ ∀ j, (hj : j < L.length) → RecAt w b (o + j * 4) L[j]) := hrow
  have HLB : Hid (∀ (x : (List UInt8 × Int × Int × List UInt8)) W, x.1.length ≤ 1048576 → Calls Tryz.prog 190 #[.string ⟨x.1.toArray⟩, .string ap] W fun e w' => e = .returned (.bool (belowB x.1 ap.data.toList)) ∧ w' = W) := fun x W h => liesBelow_any ⟨x.1.toArray⟩ ap W (by rw [size_list]; omega) (by omega)
  unfold maxLen at hmax
  clear hrow
  go_enter Tryz.func158, Tryz.ntmps158
  go_wp2_with fail
  go_loopw [9] (fun i wr => ∃ k : Nat, k ≤ L.length ∧ i = .int .i64 (k : Int) ∧ Hid (∀ j, (hj : j < L.length) → j < k → belowB L[j].1 ap.data.toList = true) ∧ Below w.heap.size w wr) (fun i _ => L.length - (intOf i).toNat)
  case atStart => exact ⟨0, Nat.zero_le _, rfl, fun j _ h => absurd h (Nat.not_lt_zero _), Below.refl _ _⟩
  case round =>
    obtain ⟨k, hk, rfl, HA, hb⟩ := hrel
    by_cases hlt : k < L.length
    · rcases HROW.out with hr | ⟨b, o, ha, hbl, hcel⟩
      · rw [hr] at hlt; simp at hlt
      · rw [ha]
        have hcx := (hcel k hlt).kept hb
        unfold RecAt at hcx
        obtain ⟨c0, c1, c2, c3⟩ := hcx
        have hxl := (hx.out _ (List.getElem_mem hlt)).1
        have HBAD : Hid (belowB (L[k]'hlt).1 ap.data.toList = false → allB ap.data.toList L = false) := allB_bad k hlt
        have HOK : Hid (belowB (L[k]'hlt).1 ap.data.toList = true → ∀ j, (hj : j < L.length) → j < k + 1 → belowB L[j].1 ap.data.toList = true) := fun h j hj h1 => by
          rcases Nat.lt_or_ge j k with h' | h'
          · exact HA.out j hj h'
          · obtain rfl : j = k := by omega
            exact h
        obtain ⟨x, hxe⟩ : ∃ x, x = L[k]'hlt := ⟨_, rfl⟩
        rw [← hxe] at c0 c1 c2 c3 hxl HBAD HOK
        have HCC := HLB.out x
        have hbk := hb.alloc hb.size (.cells #[.string ⟨x.1.toArray⟩, .int .i64 x.2.1, .int .i64 x.2.2.1, .string ⟨x.2.2.2.toArray⟩] 108)
        clear hcel hxe
        cases hR : belowB x.1 ap.data.toList with
        | false =>
          have HR : Hid (allB ap.data.toList L = false) := HBAD.out hR
          rw [hR] at HCC
          clear hR HBAD HOK
          go_wp2_with fail
          refine (HCC _ hxl).mono ?_
          rintro e w2 ⟨rfl, rfl⟩
          go_wp2_with fail
          go_ret
          exact ⟨ret_bool HR.out.symm, hbk⟩
        | true =>
          have HR : Hid (∀ j, (hj : j < L.length) → j < k + 1 → belowB L[j].1 ap.data.toList = true) := HOK.out hR
          rw [hR] at HCC
          clear hR HBAD HOK
          go_wp2_with fail
          refine (HCC _ hxl).mono ?_
          rintro e w2 ⟨rfl, rfl⟩
          go_wp2_with fail
          go_roundw
          case rel => exact ⟨k + 1, by omega, by go_num, HR, hbk⟩
          case measure => simp [intOf]; omega
    · have HR : Hid (allB ap.data.toList L = true) := allB_all (fun j hj => HA.out j hj (by omega))
      go_wp2_with fail
      go_ret
      exact ⟨ret_bool HR.out.symm, hb⟩

theorem nAt_snoc (ap : List UInt8) (L : List (List UInt8 × Int × Int × List UInt8)) (k : Nat) (h : k < L.length) : nAt ap (L.take (k + 1)) = nAt ap (L.take k) + (if L[k].2.1 = 6 ∧ L[k].1 = ap then 1 else 0) := by
  unfold nAt
  rw [List.take_succ_eq_append_getElem h, List.filter_append, List.length_append]
  congr 1
  by_cases h1 : L[k].2.1 = 6 <;> by_cases h2 : L[k].1 = ap <;> simp [h1, h2]
theorem nOff_snoc (ap : List UInt8) (L : List (List UInt8 × Int × Int × List UInt8)) (k : Nat) (h : k < L.length) : nOff ap (L.take (k + 1)) = nOff ap (L.take k) + (if L[k].2.1 = 6 ∧ ¬ L[k].1 = ap then 1 else 0) := by
  unfold nOff
  rw [List.take_succ_eq_append_getElem h, List.filter_append, List.length_append]
  congr 1
  by_cases h1 : L[k].2.1 = 6 <;> by_cases h2 : L[k].1 = ap <;> simp [h1, h2]
theorem nOff_le (ap : List UInt8) (L : List (List UInt8 × Int × Int × List UInt8)) (k : Nat) : nOff ap (L.take k) ≤ nOff ap L := by
  unfold nOff
  exact (List.Sublist.filter _ (List.take_sublist k L)).length_le
theorem nAt_le (ap : List UInt8) (L : List (List UInt8 × Int × Int × List UInt8)) : nAt ap L ≤ L.length := by unfold nAt; exact List.length_filter_le _ _
theorem nOff_len (ap : List UInt8) (L : List (List UInt8 × Int × Int × List UInt8)) : nOff ap L ≤ L.length := by unfold nOff; exact List.length_filter_le _ _

set_option maxRecDepth 20000 in
set_option maxHeartbeats 1000000 in
theorem hasOneSoa_any (ap : ByteArray) (v : Value) (L : List (List UInt8 × Int × Int × List UInt8)) (w : World) (hr : RRow w v L) :
    Calls Tryz.prog 159 #[.string ap, v] w fun e w' => e = .returned (.bool (soaB ap.data.toList L)) ∧ Below w.heap.size w w' := by
  obtain ⟨a, cap, rfl, hcap, hmax, hrow⟩ := hr
  have HROW : Hid (L = [] ∨ ∃ b o, a = some ⟨b, o, none⟩ ∧ b < w.heap.size ∧ ∀ j, (hj : j < L.length) → RecAt w b (o + j * 4) L[j]) := hrow
  unfold maxLen at hmax
  clear hrow
  go_enter Tryz.func159, Tryz.ntmps159
  go_wp2_with fail
  go_loopw [5, 10] (fun m i wr => ∃ k n : Nat, k ≤ L.length ∧ i = .int .i64 (k : Int) ∧ m = .int .i64 (n : Int) ∧ n ≤ k ∧ Hid (n = nAt ap.data.toList (L.take k) ∧ nOff ap.data.toList (L.take k) = 0) ∧ Below w.heap.size w wr) (fun _ i _ => L.length - (intOf i).toNat)
  case atStart => exact ⟨0, 0, Nat.zero_le _, rfl, rfl, Nat.le_refl _, ⟨rfl, rfl⟩, Below.refl _ _⟩
  case round =>
    obtain ⟨k, n, hk, rfl, rfl, hnk, HN, hb⟩ := hrel
    by_cases hlt : k < L.length
    · rcases HROW.out with hr | ⟨b, o, ha, hbl, hcel⟩
      · rw [hr] at hlt; simp at hlt
      · rw [ha]
        have hcx := (hcel k hlt).kept hb
        unfold RecAt at hcx
        obtain ⟨c0, c1, c2, c3⟩ := hcx
        have HA := nAt_snoc ap.data.toList L k hlt
        have HO := nOff_snoc ap.data.toList L k hlt
        have HLE := nOff_le ap.data.toList L (k + 1)
        rw [← HN.out.1] at HA
        rw [HN.out.2] at HO
        obtain ⟨x, hxe⟩ : ∃ x, x = L[k]'hlt := ⟨_, rfl⟩
        rw [← hxe] at c0 c1 c2 c3 HA HO
        obtain ⟨xn, xt, xl, xd⟩ := x
        simp only at c0 c1 c2 c3 HA HO
        have hbk := hb.alloc hb.size (.cells #[.string ⟨xn.toArray⟩, .int .i64 xt, .int .i64 xl, .string ⟨xd.toArray⟩] 108)
        clear hcel hxe HN
        by_cases h6 : xt = 6
        · by_cases hn : xn = ap.data.toList
          · have HR : Hid (n + 1 = nAt ap.data.toList (L.take (k + 1)) ∧ nOff ap.data.toList (L.take (k + 1)) = 0) := ⟨by rw [HA, if_pos ⟨h6, hn⟩], by rw [HO, if_neg (fun h => h.2 hn)]⟩
            have e1 : (xn == ap.toList) = true := by rw [ByteArray.toList_eq]; simpa using hn
            clear HA HO HLE hn
            subst h6
            go_wp2_with fail
            go_roundw
            case rel => exact ⟨k + 1, n + 1, by omega, by go_num, by go_num, by omega, HR, hbk⟩
            case measure => simp [intOf]; omega
          · have HR : Hid (soaB ap.data.toList L = false) := by
              rw [if_pos ⟨h6, hn⟩] at HO
              unfold soaB
              rw [decide_eq_false (by omega : ¬ nOff ap.data.toList L = 0)]; exact rfl
            have e1 : (xn == ap.toList) = false := by rw [ByteArray.toList_eq]; simpa using hn
            clear HA HO HLE hn
            subst h6
            go_wp2_with fail
            go_ret
            exact ⟨ret_bool HR.out.symm, hbk⟩
        · have HR : Hid (n = nAt ap.data.toList (L.take (k + 1)) ∧ nOff ap.data.toList (L.take (k + 1)) = 0) := ⟨by rw [HA, if_neg (fun h => h6 h.1), Nat.add_zero], by rw [HO, if_neg (fun h => h6 h.1)]⟩
          clear HA HO HLE
          go_wp2_with fail
          go_roundw
          case rel => exact ⟨k + 1, n, by omega, by go_num, rfl, by omega, HR, hbk⟩
          case measure => simp [intOf]; omega
    · have HR : Hid (soaB ap.data.toList L = decide (n = 1)) := by
        have h := HN.out
        rw [List.take_of_length_le (by omega)] at h
        unfold soaB
        rw [decide_eq_true h.2, ← h.1]; exact Bool.true_and _
      go_wp2_with fail
      go_ret
      refine ⟨ret_bool ?_, hb⟩
      rw [HR.out]
      by_cases h1 : n = 1
      · rw [h1]; rfl
      · rw [decide_eq_false h1]; simp; omega

end Go.Proofs.YtoobaaklklommaaGreatDoor
