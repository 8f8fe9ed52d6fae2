import Derived.Test.YtoobaaklklommaaGreatDoorZ35
import Derived.Test.YtoobaaklklommaaGreatDoorZ36
namespace Go.Proofs.YtoobaaklklommaaGreatDoor
open Go.RowKit

theorem call_held1 (args : Array Value) (w : World) : (callFunc 192 args).run Tryz.prog w = .ok (.enter 192 args) w := by kernel_rfl
theorem call_tells1 (args : Array Value) (w : World) : (callFunc 126 args).run Tryz.prog w = .ok (.enter 126 args) w := by kernel_rfl
theorem call_cuts1 (args : Array Value) (w : World) : (callFunc 193 args).run Tryz.prog w = .ok (.enter 193 args) w := by kernel_rfl

set_option maxRecDepth 20000 in
set_option maxHeartbeats 1000000 in
theorem isHeld_any (v : Value) (L : List (List UInt8 × Int × Int × List UInt8)) (on : List UInt8) (ot : Int) (w : World) (hr : RRow w v L) :
    Calls Tryz.prog 162 #[v, .agg #[.string ⟨on.toArray⟩, .int .i64 ot]] w fun e w' => e = .returned (.bool (heldB L on ot)) ∧ Below w.heap.size w w' := by
  obtain ⟨W0, hW0⟩ : ∃ W0, W0 = w.alloc (.cells #[.string ⟨on.toArray⟩, .int .i64 ot] 180) := ⟨_, rfl⟩
  have hb0 : Below w.heap.size w W0 := by rw [hW0]; exact (Below.refl _ _).alloc (Nat.le_refl _) _
  have hz0 : w.heap.size < W0.heap.size := by rw [hW0]; simp
  have HP : Hid (PredQ 192 #[.pointer (some ⟨w.heap.size, 0, none⟩)] (fun x => x.1 == on && x.2.1 == ot) L W0) := fun W x _ hW => by
    have h := two_below (a := .string ⟨on.toArray⟩) (b := .int .i64 ot) (t := 180) (by rw [← hW0]; exact hW)
    exact held1_any x.1 x.2.2.2 on x.2.1 x.2.2.1 ot w.heap.size W h.1 h.2.1 (Nat.lt_of_lt_of_le hz0 hW.size)
  have HC : Hid (Calls Tryz.prog 125 #[v, .func (.func 192) #[] #[.pointer (some ⟨w.heap.size, 0, none⟩)]] W0 fun e w' => e = .returned (.bool (heldB L on ot)) ∧ Below W0.heap.size W0 w') := containsFunc_any _ _ _ v L W0 (hr.kept hb0) HP call_held1
  have HW0 : Hid (w.alloc (.cells #[.string ⟨on.toArray⟩, .int .i64 ot] 180) = W0) := hW0.symm
  obtain ⟨a, cap, rfl, _⟩ := hr
  clear hW0 HP
  go_enter Tryz.func162, Tryz.ntmps162
  go_wp2_with fail
  rw [HW0.out]
  refine HC.out.mono ?_
  rintro e w1 ⟨rfl, hb1⟩
  go_wp2_with fail
  go_ret
  exact ⟨rfl, hb0.trans (hb1.mono hb0.size)⟩

set_option maxRecDepth 20000 in
set_option maxHeartbeats 1000000 in
theorem cuts1_any (xn xd yn yd : List UInt8) (xt xl yt yl : Int) (g : Nat) (w : World) (hx : xn.length ≤ 1048576) (hy : yn.length ≤ 1048576) (hc : RecAt w g 0 (yn, yt, yl, yd)) (hg : g < w.heap.size) :
    Calls Tryz.prog 193 #[.agg #[.string ⟨xn.toArray⟩, .int .i64 xt, .int .i64 xl, .string ⟨xd.toArray⟩], .pointer (some ⟨g, 0, none⟩)] w fun e w' => e = .returned (.bool (!mayB (xn, xt, xl, xd) (yn, yt, yl, yd))) ∧ Below w.heap.size w w' := by
  have HM : Hid (∀ W, Calls Tryz.prog 194 #[.agg #[.string ⟨xn.toArray⟩, .int .i64 xt, .int .i64 xl, .string ⟨xd.toArray⟩], .agg #[.string ⟨yn.toArray⟩, .int .i64 yt, .int .i64 yl, .string ⟨yd.toArray⟩]] W fun e w' => e = .returned (.bool (mayB (xn, xt, xl, xd) (yn, yt, yl, yd))) ∧ Below W.heap.size W w') := fun W => mayLie_any xn xd yn yd xt xl yt yl W hx hy
  unfold RecAt at hc
  obtain ⟨z0, z1, z2, z3⟩ := hc
  simp only [Nat.zero_add] at z0 z1 z2 z3
  obtain ⟨r, hr⟩ : ∃ r, r = mayB (xn, xt, xl, xd) (yn, yt, yl, yd) := ⟨_, rfl⟩
  rw [← hr] at HM ⊢
  clear hr
  go_enter Tryz.func193, Tryz.ntmps193
  go_wp2_with fail
  refine (HM.out _).mono ?_
  rintro e w1 ⟨rfl, hb1⟩
  have hbw := (box4 hb1).2.2.2.2
  go_wp2_with fail
  go_ret
  exact ⟨rfl, hbw⟩

theorem cutsB_bad {ap : List UInt8} {L : List (List UInt8 × Int × Int × List UInt8)} (k : Nat) (hk : k < L.length) (h : ((!(L[k].2.1 == 2) || L[k].1 == ap) || L.all (fun r => mayB r L[k])) = false) : cutsB ap L = false := by
  unfold cutsB; rw [List.all_eq_false]; exact ⟨_, List.getElem_mem hk, by simpa using h⟩
theorem cutsB_all {ap : List UInt8} {L : List (List UInt8 × Int × Int × List UInt8)} (h : ∀ j, (hj : j < L.length) → ((!(L[j].2.1 == 2) || L[j].1 == ap) || L.all (fun r => mayB r L[j])) = true) : cutsB ap L = true := by
  unfold cutsB; rw [List.all_eq_true]; intro x hx
  obtain ⟨j, hj, rfl⟩ := List.getElem_of_mem hx
  exact h j hj
theorem any_not (L : List (List UInt8 × Int × Int × List UInt8)) (p : (List UInt8 × Int × Int × List UInt8) → Bool) : L.any (fun r => !p r) = !L.all p := by
  induction L with
  | nil => rfl
  | cons x r ih => rw [List.any_cons, List.all_cons, ih, Bool.not_and]

set_option maxRecDepth 20000 in
set_option maxHeartbeats 2000000 in
theorem cutsHold_any (ap : ByteArray) (v : Value) (L : List (List UInt8 × Int × Int × List UInt8)) (w : World) (hr : RRow w v L) (hx : Hid (∀ x ∈ L, x.1.length ≤ 1048576 ∧ x.2.2.2.length ≤ 1048576)) :
    Calls Tryz.prog 163 #[.string ap, v] w fun e w' => e = .returned (.bool (cutsB ap.data.toList L)) ∧ Below w.heap.size w w' := by
  have HRR : Hid (∀ W, Below w.heap.size w W → RRow W v L) := fun W hW => hr.kept hW
  obtain ⟨a, cap, rfl, hcap, hmax, hrow⟩ := hr
  have HROW : Hid (L = [] ∨ ∃ b o, a = some ⟨b, o, none⟩ ∧ b < w.heap.size ∧ ∀ j, (hj : j < L.length) → RecAt w b (o + j * 4) L[j]) := hrow
  unfold maxLen at hmax
  clear hrow
  go_enter Tryz.func163, Tryz.ntmps163
  go_wp2_with fail
  go_loopw [9] (fun i wr => ∃ k : Nat, k ≤ L.length ∧ i = .int .i64 (k : Int) ∧ Hid (∀ j, (hj : j < L.length) → j < k → ((!(L[j].2.1 == 2) || L[j].1 == ap.data.toList) || L.all (fun r => mayB r L[j])) = true) ∧ Below w.heap.size w wr) (fun i _ => L.length - (intOf i).toNat)
  case atStart => exact ⟨0, Nat.zero_le _, rfl, fun j _ h => absurd h (Nat.not_lt_zero _), Below.refl _ _⟩
  case round =>
    obtain ⟨k, hk, rfl, HA, hb⟩ := hrel
    by_cases hlt : k < L.length
    · rcases HROW.out with hr | ⟨b, o, ha, hbl, hcel⟩
      · rw [hr] at hlt; simp at hlt
      · have HR0 : Hid (∀ W, Below w.heap.size w W → RRow W (.slice (some ⟨b, o, none⟩) L.length cap) L) := fun W hW => by
          have h := HRR.out W hW
          rw [ha] at h; exact h
        rw [ha]
        have hcx := (hcel k hlt).kept hb
        unfold RecAt at hcx
        obtain ⟨c0, c1, c2, c3⟩ := hcx
        have hyl := (hx.out _ (List.getElem_mem hlt)).1
        have HBAD : Hid (((!((L[k]'hlt).2.1 == 2) || (L[k]'hlt).1 == ap.data.toList) || L.all (fun r => mayB r (L[k]'hlt))) = false → cutsB ap.data.toList L = false) := cutsB_bad k hlt
        have HOK : Hid (((!((L[k]'hlt).2.1 == 2) || (L[k]'hlt).1 == ap.data.toList) || L.all (fun r => mayB r (L[k]'hlt))) = true → ∀ j, (hj : j < L.length) → j < k + 1 → ((!(L[j].2.1 == 2) || L[j].1 == ap.data.toList) || L.all (fun r => mayB r L[j])) = true) := fun h j hj h1 => by
          rcases Nat.lt_or_ge j k with h' | h'
          · exact HA.out j hj h'
          · obtain rfl : j = k := by omega
            exact h
        obtain ⟨y, hye⟩ : ∃ y, y = L[k]'hlt := ⟨_, rfl⟩
        rw [← hye] at c0 c1 c2 c3 hyl HBAD HOK
        obtain ⟨yn, yt, yl, yd⟩ := y
        simp only at c0 c1 c2 c3 hyl HBAD HOK
        have hbk := hb.alloc hb.size (.cells #[.string ⟨yn.toArray⟩, .int .i64 yt, .int .i64 yl, .string ⟨yd.toArray⟩] 108)
        clear hcel hye
        by_cases h2 : yt = 2
        · by_cases hn : yn = ap.data.toList
          · have HR := HOK.out (by rw [show (yn == ap.data.toList) = true by simpa using hn]; simp)
            have e1 : (yn == ap.toList) = true := by rw [ByteArray.toList_eq]; simpa using hn
            clear HBAD HOK hn
            subst h2
            go_wp2_with fail
            go_roundw
            case rel => exact ⟨k + 1, by omega, by go_num, HR, hbk⟩
            case measure => simp [intOf]; omega
          · have e1 : (yn == ap.toList) = false := by rw [ByteArray.toList_eq]; simpa using hn
            have en : (yn == ap.data.toList) = false := by simpa using hn
            rw [en, show (yt == 2) = true by simpa using h2] at HBAD HOK
            subst h2
            obtain ⟨W0, hW0⟩ : ∃ W0, W0 = wr.alloc (.cells #[.string ⟨yn.toArray⟩, .int .i64 2, .int .i64 yl, .string ⟨yd.toArray⟩] 108) := ⟨_, rfl⟩
            have HPR : Hid (PredQ 193 #[.pointer (some ⟨wr.heap.size, 0, none⟩)] (fun r => !mayB r (yn, 2, yl, yd)) L W0) := fun W x hxm hW => by
              rw [hW0] at hW
              have h := box4 hW
              exact cuts1_any x.1 x.2.2.2 yn yd x.2.1 x.2.2.1 2 yl wr.heap.size W (hx.out x hxm).1 hyl ⟨h.1, h.2.1, h.2.2.1, h.2.2.2.1⟩ (Nat.lt_of_lt_of_le (by simp) hW.size)
            rw [← hW0] at hbk
            have HC : Hid (Calls Tryz.prog 125 #[.slice (some ⟨b, o, none⟩) L.length cap, .func (.func 193) #[] #[.pointer (some ⟨wr.heap.size, 0, none⟩)]] W0 fun e w' => e = .returned (.bool (L.any (fun r => !mayB r (yn, 2, yl, yd)))) ∧ Below W0.heap.size W0 w') := containsFunc_any _ _ _ _ L W0 (HR0.out _ hbk) HPR call_cuts1
            have HW0 : Hid (wr.alloc (.cells #[.string ⟨yn.toArray⟩, .int .i64 2, .int .i64 yl, .string ⟨yd.toArray⟩] 108) = W0) := hW0.symm
            rw [any_not] at HC
            clear hW0 HPR en hn
            cases hA : L.all (fun r => mayB r (yn, 2, yl, yd)) with
            | true =>
              have HR := HOK.out (by rw [hA]; rfl)
              rw [hA] at HC
              clear hA HBAD HOK
              go_wp2_with fail
              rw [HW0.out]
              refine HC.out.mono ?_
              rintro e w1 ⟨rfl, hb1⟩
              go_wp2_with fail
              go_roundw
              case rel => exact ⟨k + 1, by omega, by go_num, HR, hbk.trans (hb1.mono hbk.size)⟩
              case measure => simp [intOf]; omega
            | false =>
              have HR : Hid (cutsB ap.data.toList L = false) := HBAD.out (by rw [hA]; rfl)
              rw [hA] at HC
              clear hA HBAD HOK
              go_wp2_with fail
              rw [HW0.out]
              refine HC.out.mono ?_
              rintro e w1 ⟨rfl, hb1⟩
              go_wp2_with fail
              go_ret
              exact ⟨ret_bool HR.out.symm, hbk.trans (hb1.mono hbk.size)⟩
        · have HR := HOK.out (by rw [show (yt == 2) = false by simpa using h2]; rfl)
          clear HBAD HOK
          go_wp2_with fail
          go_roundw
          case rel => exact ⟨k + 1, by omega, by go_num, HR, hbk⟩
          case measure => simp [intOf]; omega
    · have HR : Hid (cutsB ap.data.toList L = true) := cutsB_all (fun j hj => HA.out j hj (by omega))
      go_wp2_with fail
      go_ret
      exact ⟨ret_bool HR.out.symm, hb⟩
end Go.Proofs.YtoobaaklklommaaGreatDoor
