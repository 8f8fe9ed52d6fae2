import Derived.Test.YtjkabglaldkjgaaGreatDoorRRZ13
import Derived.Test.YtjkabglaldkjgaaGreatDoorRRZ11
import Derived.Test.YtjkabglaldkjgaaGreatDoorRRZ05
namespace Go.Proofs.YtjkabglaldkjgaaGreatDoorRR
open Go.RowKit

theorem taH_yes (v : Value) (w : World) : Sem.run Tryz.prog (Instr.typeAssert (.iface 96 v) 77 96 true) w = .ok (.tuple #[v, .bool true]) w := by kernel_rfl
theorem taX_yes (v : Value) (w : World) : Sem.run Tryz.prog (Instr.typeAssert (.iface 98 v) 77 98 true) w = .ok (.tuple #[v, .bool true]) w := by kernel_rfl
theorem taH_x (v : Value) (w : World) : Sem.run Tryz.prog (Instr.typeAssert (.iface 98 v) 77 96 true) w = .ok (.tuple #[.agg #[.string ⟨#[]⟩], .bool false]) w := by kernel_rfl
theorem taH_s (v : Value) (w : World) : Sem.run Tryz.prog (Instr.typeAssert (.iface 105 v) 77 96 true) w = .ok (.tuple #[.agg #[.string ⟨#[]⟩], .bool false]) w := by kernel_rfl
theorem taX_s (v : Value) (w : World) : Sem.run Tryz.prog (Instr.typeAssert (.iface 105 v) 77 98 true) w = .ok (.tuple #[.agg #[.int .i64 0, .string ⟨#[]⟩], .bool false]) w := by kernel_rfl
theorem taH_n (v : Value) (w : World) : Sem.run Tryz.prog (Instr.typeAssert (.iface 107 v) 77 96 true) w = .ok (.tuple #[.agg #[.string ⟨#[]⟩], .bool false]) w := by kernel_rfl
theorem taX_n (v : Value) (w : World) : Sem.run Tryz.prog (Instr.typeAssert (.iface 107 v) 77 98 true) w = .ok (.tuple #[.agg #[.int .i64 0, .string ⟨#[]⟩], .bool false]) w := by kernel_rfl
theorem taH_a (v : Value) (w : World) : Sem.run Tryz.prog (Instr.typeAssert (.iface 116 v) 77 96 true) w = .ok (.tuple #[.agg #[.string ⟨#[]⟩], .bool false]) w := by kernel_rfl
theorem taX_a (v : Value) (w : World) : Sem.run Tryz.prog (Instr.typeAssert (.iface 116 v) 77 98 true) w = .ok (.tuple #[.agg #[.int .i64 0, .string ⟨#[]⟩], .bool false]) w := by kernel_rfl
set_option maxRecDepth 20000 in
set_option maxHeartbeats 400000 in
theorem targetIn_host (s : ByteArray) (w : World) (hs : s.size ≤ 281474976710656) :
    Calls Tryz.prog 52 #[hostV s] w fun e w' => e = .returned (.tuple #[.string s, .bool true]) ∧ Below w.heap.size w w' := by
  unfold hostV
  have a1 := taH_yes
  go_enter Tryz.func52, Tryz.ntmps52
  go_wp2_with fail
  refine (cloneR_any s _ hs).mono ?_
  rintro e w1 ⟨rfl, hb1⟩
  have hbw : Below w.heap.size w w1 := ((Below.refl w.heap.size w).alloc (Nat.le_refl _) _).trans (hb1.mono (by simp))
  clear hb1
  go_wp2_with fail
  go_ret2
  exact ⟨rfl, hbw⟩
set_option maxRecDepth 20000 in
set_option maxHeartbeats 400000 in
theorem targetIn_exchange (n : Int) (s : ByteArray) (w : World) (hs : s.size ≤ 281474976710656) :
    Calls Tryz.prog 52 #[exV n s] w fun e w' => e = .returned (.tuple #[.string s, .bool true]) ∧ Below w.heap.size w w' := by
  unfold exV
  have a1 := taH_x
  have a2 := taX_yes
  go_enter Tryz.func52, Tryz.ntmps52
  go_wp2_with fail
  refine (cloneR_any s _ hs).mono ?_
  rintro e w1 ⟨rfl, hb1⟩
  have hbw : Below w.heap.size w w1 := ((Below.refl w.heap.size w).alloc (Nat.le_refl _) _).trans (hb1.mono (by simp))
  clear hb1
  go_wp2_with fail
  go_ret2
  exact ⟨rfl, hbw⟩
set_option maxRecDepth 20000 in
set_option maxHeartbeats 400000 in
theorem targetIn_serial (n : Int) (w : World) :
    Calls Tryz.prog 52 #[serV n] w fun e w' => e = .returned (.tuple #[.string ⟨#[]⟩, .bool false]) ∧ Below w.heap.size w w' := by
  unfold serV
  have a1 := taH_s
  have a2 := taX_s
  go_enter Tryz.func52, Tryz.ntmps52
  go_wp2_with fail
  go_ret2
  exact ⟨rfl, Below.refl _ _⟩
set_option maxRecDepth 20000 in
set_option maxHeartbeats 400000 in
theorem targetIn_note (s : ByteArray) (w : World) :
    Calls Tryz.prog 52 #[noteV s] w fun e w' => e = .returned (.tuple #[.string ⟨#[]⟩, .bool false]) ∧ Below w.heap.size w w' := by
  unfold noteV
  have a1 := taH_n
  have a2 := taX_n
  go_enter Tryz.func52, Tryz.ntmps52
  go_wp2_with fail
  go_ret2
  exact ⟨rfl, Below.refl _ _⟩
set_option maxRecDepth 20000 in
set_option maxHeartbeats 400000 in
theorem targetIn_address (a b c d : UInt8) (w : World) :
    Calls Tryz.prog 52 #[addrV [a, b, c, d]] w fun e w' => e = .returned (.tuple #[.string ⟨#[]⟩, .bool false]) ∧ Below w.heap.size w w' := by
  unfold addrV
  simp only [List.map_cons, List.map_nil]
  have a1 := taH_a
  have a2 := taX_a
  go_enter Tryz.func52, Tryz.ntmps52
  go_wp2_with fail
  go_ret2
  exact ⟨rfl, Below.refl _ _⟩
theorem targetIn_any {k : Int} {l : List UInt8} {v : Value} (hv : IsV k l v) (hl : l.length ≤ 1048576) (w : World) :
    Calls Tryz.prog 52 #[v] w fun e w' => e = .returned (.tuple #[.string ⟨(toT k l).toArray⟩, .bool (!(toT k l).isEmpty)]) ∧ Below w.heap.size w w' := by
  have hne : ∀ {l : List UInt8}, targB l = true → l.isEmpty = false := fun {l} h => by
    cases l with
    | nil => rw [targ_nil] at h; cases h
    | cons a r => rfl
  rcases hv with ⟨rfl, z, hz, rfl⟩ | ⟨hk, ht, rfl⟩ | ⟨rfl, hn, rfl⟩ | ⟨rfl, a, r, rfl, ha, hn, ht, rfl⟩ | ⟨rfl, hn, rfl⟩
  · obtain ⟨a, b, c, d, rfl⟩ := four_of (y := z) (by
      unfold dataA at hz; split at hz
      · rename_i hc; rw [← Option.some.inj hz, List.length_map]; exact hc.2
      · cases hz)
    rw [show toT 1 l = [] by unfold toT; rw [if_neg (by omega), if_neg (by omega)]]
    exact targetIn_address a b c d w
  · rw [show toT k l = l from if_pos hk, hne ht]
    exact targetIn_host _ w (by rw [size_list]; omega)
  · rw [show toT 6 l = [] by unfold toT; rw [if_neg (by omega), if_neg (by omega)]]
    exact targetIn_serial _ w
  · have hr : (32 : UInt8) ∉ r := targ_noblank ht
    rw [show toT 15 (a ++ 32 :: r) = r by unfold toT; rw [if_neg (by omega), if_pos rfl, cut_at ha, cut_plain 32 r hr]; rfl, hne ht]
    rw [List.length_append, List.length_cons] at hl
    exact targetIn_exchange _ _ w (by rw [size_list]; omega)
  · rw [show toT 16 l = [] by unfold toT; rw [if_neg (by omega), if_neg (by omega)]]
    exact targetIn_note _ w

set_option maxRecDepth 20000 in
set_option maxHeartbeats 1000000 in
theorem iTargetOf_any (nm d : ByteArray) (ty ttl : Int) (w : World) (hd : d.size ≤ 1048576) (hE : EnvR w) :
    Calls Tryz.prog 34 #[RecV nm ty ttl d] w fun e w' => e = .returned (.tuple #[.string ⟨(targX nm.data.toList ty ttl d.data.toList).toArray⟩, .bool (targO nm.data.toList ty ttl d.data.toList)]) ∧ Below w.heap.size w w' := by
  have HT : Hid (∀ W, EnvR W → Calls Tryz.prog 51 #[RecV nm ty ttl d] W fun e w' => TakeRes W nm.data.toList ty ttl d.data.toList e w') := fun W hW => takeApart_any nm d ty ttl W hd hW
  have hdl : d.data.toList.length ≤ 1048576 := by have : d.data.toList.length = d.size := by simp
                                                  omega
  cases hB : recB nm.data.toList ty ttl d.data.toList with
  | false =>
    have HB : Hid (recB nm.data.toList ty ttl d.data.toList = false) := hB
    have ho : targO nm.data.toList ty ttl d.data.toList = false := by unfold targO; rw [hB]; rfl
    have HO : Hid (targO nm.data.toList ty ttl d.data.toList = false) := ho
    have HX : Hid (targX nm.data.toList ty ttl d.data.toList = []) := if_neg (by rw [ho]; simp)
    clear hB ho
    unfold RecV at HT ⊢
    go_enter Tryz.func34, Tryz.ntmps34
    go_wp2_with fail
    refine (HT.out _ (hE.below ((Below.refl _ _).alloc (Nat.le_refl _) _))).mono ?_
    rintro e w1 ⟨v, rfl, _, hb1⟩
    rw [HB.out]
    have hbw := (box4 hb1).2.2.2.2
    clear hb1
    go_wp2_with fail
    go_ret2
    exact ⟨ret_two (by rw [HX.out]; rfl) (val_bool HO.out.symm), hbw⟩
  | true =>
    have HB : Hid (recB nm.data.toList ty ttl d.data.toList = true) := hB
    have ho : targO nm.data.toList ty ttl d.data.toList = !(toT ty d.data.toList).isEmpty := by unfold targO; rw [hB, Bool.true_and]
    have HO : Hid (targO nm.data.toList ty ttl d.data.toList = !(toT ty d.data.toList).isEmpty) := ho
    have HX : Hid (targX nm.data.toList ty ttl d.data.toList = toT ty d.data.toList) := by
      unfold targX; rw [ho]
      cases toT ty d.data.toList with
      | nil => exact rfl
      | cons x r => exact rfl
    clear hB ho
    unfold RecV at HT ⊢
    go_enter Tryz.func34, Tryz.ntmps34
    go_wp2_with fail
    refine (HT.out _ (hE.below ((Below.refl _ _).alloc (Nat.le_refl _) _))).mono ?_
    rintro e w1 ⟨v, rfl, hv, hb1⟩
    have HV : Hid (IsV ty d.data.toList v) := hv HB.out
    rw [HB.out]
    have hbw := (box4 hb1).2.2.2.2
    clear hb1 hv
    go_wp2_with fail
    refine (targetIn_any HV.out hdl w1).mono ?_
    rintro e w2 ⟨rfl, hb2⟩
    rw [← HO.out, ← HX.out]
    go_wp2_with fail
    go_ret2
    exact ⟨rfl, hbw.trans (hb2.mono hbw.size)⟩
end Go.Proofs.YtjkabglaldkjgaaGreatDoorRR
