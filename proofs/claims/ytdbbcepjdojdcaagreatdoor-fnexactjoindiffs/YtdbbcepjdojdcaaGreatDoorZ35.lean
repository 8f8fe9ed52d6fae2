import Derived.Test.YtdbbcepjdojdcaaGreatDoorZ13
import Derived.Test.YtdbbcepjdojdcaaGreatDoorZ11
import Derived.Test.YtdbbcepjdojdcaaGreatDoorZ04
import Derived.Test.YtdbbcepjdojdcaaGreatDoorZ24
import Derived.Test.YtdbbcepjdojdcaaGreatDoorZ34
import Derived.BigQuiet
import Derived.Deep.QuietTactic
namespace Go.Proofs.YtdbbcepjdojdcaaGreatDoor
open Go.RowKit

theorem two_below {w W : World} {a b : Value} {t : TypeId} (hb : Below (w.alloc (.cells #[a, b] t)).heap.size (w.alloc (.cells #[a, b] t)) W) :
    W.cell? ⟨w.heap.size, 0, none⟩ = some a ∧ W.cell? ⟨w.heap.size, 1, none⟩ = some b ∧ Below w.heap.size w W := by
  have hz : w.heap.size < (w.alloc (.cells #[a, b] t)).heap.size := by simp
  refine ⟨?_, ?_, ((Below.refl w.heap.size w).alloc (Nat.le_refl _) _).trans (hb.mono (Nat.le_of_lt hz))⟩
  all_goals (rw [hb.cell (p := ⟨w.heap.size, _, none⟩) hz]; simp)

set_option maxRecDepth 20000 in
set_option maxHeartbeats 400000 in
theorem ownerOf_any (nm d : ByteArray) (ty ttl : Int) (w : World) :
    Calls Tryz.prog 145 #[RecV nm ty ttl d] w fun e w' => e = .returned (.agg #[.string nm, .int .i64 ty]) ∧ Below w.heap.size w w' := by
  unfold RecV
  go_enter Tryz.func145, Tryz.ntmps145
  go_wp2_with fail
  (try simp only [Exit.inBlock, Exit.then])
  refine bodyPost_ret (results_cell_row rfl _ _ (w.heap.size + 1) 128 _ (0, 0) _ rfl ?_ Tryz.underlying128 rfl (by kernel_rfl)) rfl ⟨rfl, ((Below.refl w.heap.size w).alloc (Nat.le_refl _) _).alloc (by simp) _⟩
  rw [heap_alloc2_new]



end Go.Proofs.YtdbbcepjdojdcaaGreatDoor

namespace Go.Proofs.YtdbbcepjdojdcaaGreatDoor
open Go.RowKit

/-- A function value that tells of each record whether it is so. -/
def PredQ (g : Nat) (lb : Array Value) (p : (List UInt8 × Int × Int × List UInt8) → Bool) (L : List (List UInt8 × Int × Int × List UInt8)) (w : World) : Prop :=
  ∀ (W : World) (x : (List UInt8 × Int × Int × List UInt8)), x ∈ L → Below w.heap.size w W → Calls Tryz.prog g (#[.agg #[.string ⟨x.1.toArray⟩, .int .i64 x.2.1, .int .i64 x.2.2.1, .string ⟨x.2.2.2.toArray⟩]] ++ lb) W fun e w' => e = .returned (.bool (p x)) ∧ Below W.heap.size W w'

set_option maxRecDepth 20000 in
set_option maxHeartbeats 1000000 in
theorem indexFunc_any (g : Nat) (lb : Array Value) (p : (List UInt8 × Int × Int × List UInt8) → Bool) (v : Value) (L : List (List UInt8 × Int × Int × List UInt8)) (w : World) (hr : RRow w v L) (hp : Hid (PredQ g lb p L w)) (eg : ∀ args w, (callFunc g args).run Tryz.prog w = .ok (.enter g args) w) :
    Calls Tryz.prog 118 #[v, .func (.func g) #[] lb] w fun e w' => (∃ i : Int, e = .returned (.int .i64 i) ∧ decide (0 ≤ i) = L.any p) ∧ Below w.heap.size w w' := by
  obtain ⟨a, cap, rfl, hcap, hmax, hrow⟩ := hr
  have HROW : Hid (L = [] ∨ ∃ b o, a = some ⟨b, o, none⟩ ∧ b < w.heap.size ∧ ∀ j, (hj : j < L.length) → RecAt w b (o + j * 4) L[j]) := hrow
  unfold maxLen at hmax
  clear hrow
  go_enter Tryz.func118, Tryz.ntmps118
  go_wp2_with fail
  go_loopw [8] (fun i wr => ∃ k : Nat, k ≤ L.length ∧ i = .int .i64 (k : Int) ∧ Hid (∀ j, (hj : j < L.length) → j < k → p L[j] = false) ∧ Below w.heap.size w wr) (fun i _ => L.length - (intOf i).toNat)
  case atStart => exact ⟨0, Nat.zero_le _, rfl, fun j _ h => absurd h (Nat.not_lt_zero _), Below.refl _ _⟩
  case round =>
    obtain ⟨k, hk, rfl, HA, hb⟩ := hrel
    by_cases hlt : k < L.length
    · rcases HROW.out with hr | ⟨b, o, ha, hbl, hcel⟩
      · rw [hr] at hlt; simp at hlt
      · rw [ha]
        have hcx := (hcel k hlt).kept hb
        unfold RecAt at hcx
        obtain ⟨c0, c1, c2, c3⟩ := hcx
        have hcall := hp.out wr _ (List.getElem_mem hlt) hb
        have HHIT : Hid (p (L[k]'hlt) = true → decide ((0 : Int) ≤ (k : Int)) = L.any p) := fun h => by
          have h1 : L.any p = true := List.any_eq_true.2 ⟨_, List.getElem_mem hlt, h⟩
          rw [h1]; simp
        have HOK : Hid (p (L[k]'hlt) = false → ∀ j, (hj : j < L.length) → j < k + 1 → p L[j] = false) := fun h j hj h1 => by
          rcases Nat.lt_or_ge j k with h' | h'
          · exact HA.out j hj h'
          · obtain rfl : j = k := by omega
            exact h
        obtain ⟨x, hxe⟩ : ∃ x, x = L[k]'hlt := ⟨_, rfl⟩
        rw [← hxe] at c0 c1 c2 c3 hcall HHIT HOK
        clear hcel hxe
        cases hR : p x with
        | true =>
          have HR := HHIT.out hR
          rw [hR] at hcall
          go_wp2_with (go_at_fn g; refine hcall.mono ?_; rintro e w' ⟨rfl, hb'⟩)
          go_ret
          exact ⟨⟨(k : Int), rfl, HR⟩, hb.trans (hb'.mono hb.size)⟩
        | false =>
          have HR := HOK.out hR
          rw [hR] at hcall
          go_wp2_with (go_at_fn g; refine hcall.mono ?_; rintro e w' ⟨rfl, hb'⟩)
          go_roundw
          case rel => exact ⟨k + 1, by omega, by go_num, HR, hb.trans (hb'.mono hb.size)⟩
          case measure => simp [intOf]; omega
    · have HR : Hid (L.any p = false) := by
        show L.any p = false
        rw [List.any_eq_false]
        intro x hx
        obtain ⟨j, hj, rfl⟩ := List.getElem_of_mem hx
        rw [HA.out j hj (by omega)]; simp
      go_wp2_with fail
      go_ret
      exact ⟨⟨-1, rfl, by rw [HR.out]; rfl⟩, hb⟩

set_option maxRecDepth 20000 in
set_option maxHeartbeats 400000 in
theorem containsFunc_any (g : Nat) (lb : Array Value) (p : (List UInt8 × Int × Int × List UInt8) → Bool) (v : Value) (L : List (List UInt8 × Int × Int × List UInt8)) (w : World) (hr : RRow w v L) (hp : Hid (PredQ g lb p L w)) (eg : ∀ args w, (callFunc g args).run Tryz.prog w = .ok (.enter g args) w) :
    Calls Tryz.prog 88 #[v, .func (.func g) #[] lb] w fun e w' => e = .returned (.bool (L.any p)) ∧ Below w.heap.size w w' := by
  have HC : Hid (Calls Tryz.prog 118 #[v, .func (.func g) #[] lb] w fun e w' => (∃ i : Int, e = .returned (.int .i64 i) ∧ decide (0 ≤ i) = L.any p) ∧ Below w.heap.size w w') := indexFunc_any g lb p v L w hr hp eg
  obtain ⟨a, cap, rfl, hcap, hmax, hrow⟩ := hr
  clear hrow eg hp
  go_enter Tryz.func88, Tryz.ntmps88
  go_wp2_with fail
  refine HC.out.mono ?_
  rintro e w1 ⟨⟨i, rfl, hi⟩, hb⟩
  have HI : Hid (decide (0 ≤ i) = L.any p) := hi
  clear hi
  go_wp2_with fail
  go_ret
  exact ⟨ret_bool HI.out, hb⟩
end Go.Proofs.YtdbbcepjdojdcaaGreatDoor

namespace Go.Proofs.YtdbbcepjdojdcaaGreatDoor
open Go.RowKit

theorem allB_bad {ap : List UInt8} {L : List (List UInt8 × Int × Int × List UInt8)} (k : Nat) (hk : k < L.length) (h : belowB L[k].1 ap = false) : allB ap L = false := by
  unfold allB; rw [List.all_eq_false]; exact ⟨_, List.getElem_mem hk, by simpa using h⟩
theorem allB_all {ap : List UInt8} {L : List (List UInt8 × Int × Int × List UInt8)} (h : ∀ j, (hj : j < L.length) → belowB L[j].1 ap = true) : allB ap L = true := by
  unfold allB; rw [List.all_eq_true]; intro x hx
  obtain ⟨j, hj, rfl⟩ := List.getElem_of_mem hx
  exact h j hj

set_option maxRecDepth 20000 in
set_option maxHeartbeats 1000000 in
theorem allBelow_any (ap : ByteArray) (v : Value) (L : List (List UInt8 × Int × Int × List UInt8)) (w : World) (hr : RRow w v L) (hap : ap.size ≤ 1048576) (hx : Hid (∀ x ∈ L, x.1.length ≤ 1048576 ∧ x.2.2.2.length ≤ 1048576)) :
    Calls Tryz.prog 110 #[.string ap, v] w fun e w' => e = .returned (.bool (allB ap.data.toList L)) ∧ Below w.heap.size w w' := by
  obtain ⟨a, cap, rfl, hcap, hmax, hrow⟩ := hr
  have HROW : Hid (L = [] ∨ ∃ b o, a = some ⟨b, o, none⟩ ∧ b < w.heap.size ∧ ∀ j, (hj : j < L.length) → RecAt w b (o + j * 4) L[j]) := hrow
  have HLB : Hid (∀ (x : (List UInt8 × Int × Int × List UInt8)) W, x.1.length ≤ 1048576 → Calls Tryz.prog 144 #[.string ⟨x.1.toArray⟩, .string ap] W fun e w' => e = .returned (.bool (belowB x.1 ap.data.toList)) ∧ w' = W) := fun x W h => liesBelow_any ⟨x.1.toArray⟩ ap W (by rw [size_list]; omega) (by omega)
  unfold maxLen at hmax
  clear hrow
  go_enter Tryz.func110, Tryz.ntmps110
  go_wp2_with fail
  go_loopw [9] (fun i wr => ∃ k : Nat, k ≤ L.length ∧ i = .int .i64 (k : Int) ∧ Hid (∀ j, (hj : j < L.length) → j < k → belowB L[j].1 ap.data.toList = true) ∧ Below w.heap.size w wr) (fun i _ => L.length - (intOf i).toNat)
  case atStart => exact ⟨0, Nat.zero_le _, rfl, fun j _ h => absurd h (Nat.not_lt_zero _), Below.refl _ _⟩
  case round =>
    obtain ⟨k, hk, rfl, HA, hb⟩ := hrel
    by_cases hlt : k < L.length
    · rcases HROW.out with hr | ⟨b, o, ha, hbl, hcel⟩
      · rw [hr] at hlt; simp at hlt
      · rw [ha]
        have hcx := (hcel k hlt).kept hb
        unfold RecAt at hcx
        obtain ⟨c0, c1, c2, c3⟩ := hcx
        have hxl := (hx.out _ (List.getElem_mem hlt)).1
        have HBAD : Hid (belowB (L[k]'hlt).1 ap.data.toList = false → allB ap.data.toList L = false) := allB_bad k hlt
        have HOK : Hid (belowB (L[k]'hlt).1 ap.data.toList = true → ∀ j, (hj : j < L.length) → j < k + 1 → belowB L[j].1 ap.data.toList = true) := fun h j hj h1 => by
          rcases Nat.lt_or_ge j k with h' | h'
          · exact HA.out j hj h'
          · obtain rfl : j = k := by omega
            exact h
        obtain ⟨x, hxe⟩ : ∃ x, x = L[k]'hlt := ⟨_, rfl⟩
        rw [← hxe] at c0 c1 c2 c3 hxl HBAD HOK
        have HCC := HLB.out x
        have hbk := hb.alloc hb.size (.cells #[.string ⟨x.1.toArray⟩, .int .i64 x.2.1, .int .i64 x.2.2.1, .string ⟨x.2.2.2.toArray⟩] 63)
        clear hcel hxe
        cases hR : belowB x.1 ap.data.toList with
        | false =>
          have HR : Hid (allB ap.data.toList L = false) := HBAD.out hR
          rw [hR] at HCC
          clear hR HBAD HOK
          go_wp2_with fail
          refine (HCC _ hxl).mono ?_
          rintro e w2 ⟨rfl, rfl⟩
          go_wp2_with fail
          go_ret
          exact ⟨ret_bool HR.out.symm, hbk⟩
        | true =>
          have HR : Hid (∀ j, (hj : j < L.length) → j < k + 1 → belowB L[j].1 ap.data.toList = true) := HOK.out hR
          rw [hR] at HCC
          clear hR HBAD HOK
          go_wp2_with fail
          refine (HCC _ hxl).mono ?_
          rintro e w2 ⟨rfl, rfl⟩
          go_wp2_with fail
          go_roundw
          case rel => exact ⟨k + 1, by omega, by go_num, HR, hbk⟩
          case measure => simp [intOf]; omega
    · have HR : Hid (allB ap.data.toList L = true) := allB_all (fun j hj => HA.out j hj (by omega))
      go_wp2_with fail
      go_ret
      exact ⟨ret_bool HR.out.symm, hb⟩

theorem nAt_snoc (ap : List UInt8) (L : List (List UInt8 × Int × Int × List UInt8)) (k : Nat) (h : k < L.length) : nAt ap (L.take (k + 1)) = nAt ap (L.take k) + (if L[k].2.1 = 6 ∧ L[k].1 = ap then 1 else 0) := by
  unfold nAt
  rw [List.take_succ_eq_append_getElem h, List.filter_append, List.length_append]
  congr 1
  by_cases h1 : L[k].2.1 = 6 <;> by_cases h2 : L[k].1 = ap <;> simp [h1, h2]
theorem nOff_snoc (ap : List UInt8) (L : List (List UInt8 × Int × Int × List UInt8)) (k : Nat) (h : k < L.length) : nOff ap (L.take (k + 1)) = nOff ap (L.take k) + (if L[k].2.1 = 6 ∧ ¬ L[k].1 = ap then 1 else 0) := by
  unfold nOff
  rw [List.take_succ_eq_append_getElem h, List.filter_append, List.length_append]
  congr 1
  by_cases h1 : L[k].2.1 = 6 <;> by_cases h2 : L[k].1 = ap <;> simp [h1, h2]
theorem nOff_le (ap : List UInt8) (L : List (List UInt8 × Int × Int × List UInt8)) (k : Nat) : nOff ap (L.take k) ≤ nOff ap L := by
  unfold nOff
  exact (List.Sublist.filter _ (List.take_sublist k L)).length_le
theorem nAt_le (ap : List UInt8) (L : List (List UInt8 × Int × Int × List UInt8)) : nAt ap L ≤ L.length := by unfold nAt; exact List.length_filter_le _ _
theorem nOff_len (ap : List UInt8) (L : List (List UInt8 × Int × Int × List UInt8)) : nOff ap L ≤ L.length := by unfold nOff; exact List.length_filter_le _ _

set_option maxRecDepth 20000 in
set_option maxHeartbeats 1000000 in
theorem hasOneSoa_any (ap : ByteArray) (v : Value) (L : List (List UInt8 × Int × Int × List UInt8)) (w : World) (hr : RRow w v L) :
    Calls Tryz.prog 111 #[.string ap, v] w fun e w' => e = .returned (.bool (soaB ap.data.toList L)) ∧ Below w.heap.size w w' := by
  obtain ⟨a, cap, rfl, hcap, hmax, hrow⟩ := hr
  have HROW : Hid (L = [] ∨ ∃ b o, a = some ⟨b, o, none⟩ ∧ b < w.heap.size ∧ ∀ j, (hj : j < L.length) → RecAt w b (o + j * 4) L[j]) := hrow
  unfold maxLen at hmax
  clear hrow
  go_enter Tryz.func111, Tryz.ntmps111
  go_wp2_with fail
  go_loopw [5, 10] (fun m i wr => ∃ k n : Nat, k ≤ L.length ∧ i = .int .i64 (k : Int) ∧ m = .int .i64 (n : Int) ∧ n ≤ k ∧ Hid (n = nAt ap.data.toList (L.take k) ∧ nOff ap.data.toList (L.take k) = 0) ∧ Below w.heap.size w wr) (fun _ i _ => L.length - (intOf i).toNat)
  case atStart => exact ⟨0, 0, Nat.zero_le _, rfl, rfl, Nat.le_refl _, ⟨rfl, rfl⟩, Below.refl _ _⟩
  case round =>
    obtain ⟨k, n, hk, rfl, rfl, hnk, HN, hb⟩ := hrel
    by_cases hlt : k < L.length
    · rcases HROW.out with hr | ⟨b, o, ha, hbl, hcel⟩
      · rw [hr] at hlt; simp at hlt
      · rw [ha]
        have hcx := (hcel k hlt).kept hb
        unfold RecAt at hcx
        obtain ⟨c0, c1, c2, c3⟩ := hcx
        have HA := nAt_snoc ap.data.toList L k hlt
        have HO := nOff_snoc ap.data.toList L k hlt
        have HLE := nOff_le ap.data.toList L (k + 1)
        rw [← HN.out.1] at HA
        rw [HN.out.2] at HO
        obtain ⟨x, hxe⟩ : ∃ x, x = L[k]'hlt := ⟨_, rfl⟩
        rw [← hxe] at c0 c1 c2 c3 HA HO
        obtain ⟨xn, xt, xl, xd⟩ := x
        simp only at c0 c1 c2 c3 HA HO
        have hbk := hb.alloc hb.size (.cells #[.string ⟨xn.toArray⟩, .int .i64 xt, .int .i64 xl, .string ⟨xd.toArray⟩] 63)
        clear hcel hxe HN
        by_cases h6 : xt = 6
        · by_cases hn : xn = ap.data.toList
          · have HR : Hid (n + 1 = nAt ap.data.toList (L.take (k + 1)) ∧ nOff ap.data.toList (L.take (k + 1)) = 0) := ⟨by rw [HA, if_pos ⟨h6, hn⟩], by rw [HO, if_neg (fun h => h.2 hn)]⟩
            have e1 : (xn == ap.toList) = true := by rw [ByteArray.toList_eq]; simpa using hn
            clear HA HO HLE hn
            subst h6
            go_wp2_with fail
            go_roundw
            case rel => exact ⟨k + 1, n + 1, by omega, by go_num, by go_num, by omega, HR, hbk⟩
            case measure => simp [intOf]; omega
          · have HR : Hid (soaB ap.data.toList L = false) := by
              rw [if_pos ⟨h6, hn⟩] at HO
              unfold soaB
              rw [decide_eq_false (by omega : ¬ nOff ap.data.toList L = 0)]; exact rfl
            have e1 : (xn == ap.toList) = false := by rw [ByteArray.toList_eq]; simpa using hn
            clear HA HO HLE hn
            subst h6
            go_wp2_with fail
            go_ret
            exact ⟨ret_bool HR.out.symm, hbk⟩
        · have HR : Hid (n = nAt ap.data.toList (L.take (k + 1)) ∧ nOff ap.data.toList (L.take (k + 1)) = 0) := ⟨by rw [HA, if_neg (fun h => h6 h.1), Nat.add_zero], by rw [HO, if_neg (fun h => h6 h.1)]⟩
          clear HA HO HLE
          go_wp2_with fail
          go_roundw
          case rel => exact ⟨k + 1, n, by omega, by go_num, rfl, by omega, HR, hbk⟩
          case measure => simp [intOf]; omega
    · have HR : Hid (soaB ap.data.toList L = decide (n = 1)) := by
        have h := HN.out
        rw [List.take_of_length_le (by omega)] at h
        unfold soaB
        rw [decide_eq_true h.2, ← h.1]; exact Bool.true_and _
      go_wp2_with fail
      go_ret
      refine ⟨ret_bool ?_, hb⟩
      rw [HR.out]
      by_cases h1 : n = 1
      · rw [h1]; rfl
      · rw [decide_eq_false h1]; simp; omega

end Go.Proofs.YtdbbcepjdojdcaaGreatDoor
