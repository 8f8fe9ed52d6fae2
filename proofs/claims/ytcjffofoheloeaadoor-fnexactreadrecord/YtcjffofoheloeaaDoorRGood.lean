import Derived.Test.YtcjffofoheloeaaDoorRParse
namespace Go.Proofs.YtcjffofoheloeaaDoor
open Go.RowKit

theorem recB_name_no {nm d : List UInt8} {ty ttl : Int} (h : nameB nm = false) : recB nm ty ttl d = false := by unfold recB; rw [h, Bool.false_and, Bool.and_false]
theorem recB_ttl_no {nm d : List UInt8} {ty ttl : Int} (h : ¬ (0 ≤ ttl ∧ ttl ≤ 100000)) : recB nm ty ttl d = false := by
  unfold recB
  have : (decide (0 ≤ ttl) && decide (ttl ≤ 100000)) = false := by
    rw [Bool.eq_false_iff]; intro hc; simp only [Bool.and_eq_true, decide_eq_true_eq] at hc; exact h hc
  rw [this, Bool.and_false, Bool.and_false]
theorem recB_is {nm d : List UInt8} {ty ttl : Int} (h : nameB nm = true) (h0 : 0 ≤ ttl) (h1 : ttl ≤ 100000) : recB nm ty ttl d = (dataP ty d).isSome := by
  unfold recB; rw [h, decide_eq_true h0, decide_eq_true h1]; simp
/-- What takeApart tells. -/
def TakeRes (w : World) (nm : List UInt8) (ty ttl : Int) (d : List UInt8) (e : Ending) (w' : World) : Prop :=
  ∃ v, e = .returned (.tuple #[v, .bool (recB nm ty ttl d)]) ∧ (recB nm ty ttl d = true → IsV ty d v) ∧ Below w.heap.size w w'
theorem take_no {w w' : World} {nm d : List UInt8} {ty ttl : Int} {v : Value} (h : recB nm ty ttl d = false) (hb : Below w.heap.size w w') : TakeRes w nm ty ttl d (.returned (.tuple #[v, .bool false])) w' :=
  ⟨v, by rw [h], fun hh => (by rw [h] at hh; cases hh), hb⟩

set_option maxRecDepth 20000 in
set_option maxHeartbeats 1000000 in
theorem takeApart_any (nm d : ByteArray) (ty ttl : Int) (w : World) (hd : d.size ≤ 1048576) (hE : EnvR w) :
    Calls Tryd.prog 36 #[RecV nm ty ttl d] w fun e w' => TakeRes w nm.data.toList ty ttl d.data.toList e w' := by
  unfold RecV
  cases hN : nameB nm.data.toList with
  | false =>
    have HR : Hid (recB nm.data.toList ty ttl d.data.toList = false) := recB_name_no hN
    have HN : Hid (nameB nm.data.toList = false) := hN
    clear hN
    go_enter Tryd.func36, Tryd.ntmps36
    go_wp2_with fail
    refine (iGoodName_any nm _ (hE.1.below ((Below.refl _ _).alloc (Nat.le_refl _) _))).mono ?_
    rintro e w1 ⟨rfl, hb1⟩
    have hbw := (box4 hb1).2.2.2.2
    rw [HN.out]
    clear hb1
    go_wp2_with fail
    go_ret2
    exact take_no HR.out hbw
  | true =>
    have HN : Hid (nameB nm.data.toList = true) := hN
    by_cases h0 : ttl < 0
    · have HR : Hid (recB nm.data.toList ty ttl d.data.toList = false) := recB_ttl_no (by omega)
      clear hN
      go_enter Tryd.func36, Tryd.ntmps36
      go_wp2_with fail
      refine (iGoodName_any nm _ (hE.1.below ((Below.refl _ _).alloc (Nat.le_refl _) _))).mono ?_
      rintro e w1 ⟨rfl, hb1⟩
      obtain ⟨c0, c1, c2, c3, hbw⟩ := box4 hb1
      rw [HN.out]
      clear hb1
      go_wp2_with fail
      go_ret2
      exact take_no HR.out hbw
    · have h0' : 0 ≤ ttl := by omega
      by_cases h1 : (100000 : Int) < ttl
      · have HR : Hid (recB nm.data.toList ty ttl d.data.toList = false) := recB_ttl_no (by omega)
        clear hN
        go_enter Tryd.func36, Tryd.ntmps36
        go_wp2_with fail
        refine (iGoodName_any nm _ (hE.1.below ((Below.refl _ _).alloc (Nat.le_refl _) _))).mono ?_
        rintro e w1 ⟨rfl, hb1⟩
        obtain ⟨c0, c1, c2, c3, hbw⟩ := box4 hb1
        rw [HN.out]
        clear hb1 h0
        go_wp2_with fail
        go_ret2
        exact take_no HR.out hbw
      · have h1' : ttl ≤ 100000 := by omega
        have HR : Hid (recB nm.data.toList ty ttl d.data.toList = (dataP ty d.data.toList).isSome) := recB_is hN h0' h1'
        clear hN
        go_enter Tryd.func36, Tryd.ntmps36
        go_wp2_with fail
        refine (iGoodName_any nm _ (hE.1.below ((Below.refl _ _).alloc (Nat.le_refl _) _))).mono ?_
        rintro e w1 ⟨rfl, hb1⟩
        obtain ⟨c0, c1, c2, c3, hbw⟩ := box4 hb1
        rw [HN.out]
        clear hb1 h0 h1
        go_wp2_with fail
        refine (parseData_any ty d _ hd (hE.below hbw)).mono ?_
        rintro e w2 ⟨v, rfl, hv, hb2⟩
        have HV : Hid ((dataP ty d.data.toList).isSome = true → IsV ty d.data.toList v) := hv
        clear hv c0 c1 c2 c3
        go_wp2_with fail
        go_ret2
        exact ⟨v, ret_two rfl (val_bool HR.out.symm), fun h => HV.out (by rw [← HR.out]; exact h), hbw.trans (hb2.mono hbw.size)⟩

set_option maxRecDepth 20000 in
set_option maxHeartbeats 400000 in
theorem iGoodRecord_any (nm d : ByteArray) (ty ttl : Int) (w : World) (hd : d.size ≤ 1048576) (hE : EnvR w) :
    Calls Tryd.prog 24 #[RecV nm ty ttl d] w fun e w' => e = .returned (.bool (recB nm.data.toList ty ttl d.data.toList)) ∧ Below w.heap.size w w' := by
  have HT : Hid (∀ W, EnvR W → Calls Tryd.prog 36 #[RecV nm ty ttl d] W fun e w' => TakeRes W nm.data.toList ty ttl d.data.toList e w') := fun W hW => takeApart_any nm d ty ttl W hd hW
  unfold RecV at HT ⊢
  go_enter Tryd.func24, Tryd.ntmps24
  go_wp2_with fail
  refine (HT.out _ (hE.below ((Below.refl _ _).alloc (Nat.le_refl _) _))).mono ?_
  rintro e w1 ⟨v, rfl, _, hb1⟩
  have hbw := (box4 hb1).2.2.2.2
  clear hb1
  go_wp2_with fail
  go_ret
  exact ⟨rfl, hbw⟩
end Go.Proofs.YtcjffofoheloeaaDoor
