import Derived.Test.YtdbbcepjdojdcaaGreatDoorZ15
import Derived.Test.YtdbbcepjdojdcaaGreatDoorZ47
import Derived.Test.YtdbbcepjdojdcaaGreatDoorZ24
import Derived.Test.YtdbbcepjdojdcaaGreatDoorZ12
namespace Go.Proofs.YtdbbcepjdojdcaaGreatDoor
open Go.RowKit

set_option maxRecDepth 20000 in
set_option maxHeartbeats 1000000 in
theorem l9Counter_any (n : Int) (w : World) : Calls Tryz.prog 55 #[.int .i64 n] w fun e w' => e = .returned (.bool (cntB n)) ∧ w' = w := by
  have HI : Hid (∀ W, Calls Tryz.prog 52 #[.int .i64 n, .int .i64 0, .int .i64 1152921504606846976] W fun e w' => e = .returned (.bool (cntB n)) ∧ w' = W) := fun W => l1In_any n 0 1152921504606846976 W
  go_enter Tryz.func55, Tryz.ntmps55
  go_wp2_with fail
  refine (HI.out _).mono ?_
  rintro e w1 ⟨rfl, rfl⟩
  go_wp2_with fail
  go_ret
  exact ⟨rfl, rfl⟩

set_option maxRecDepth 20000 in
set_option maxHeartbeats 2000000 in
theorem l9Has_any (v : Value) (L : List (List UInt8 × Int × Int × List UInt8)) (r : List UInt8 × Int × Int × List UInt8) (w : World) (hr : RRow w v L) :
    Calls Tryz.prog 29 #[v, .agg #[.string ⟨r.1.toArray⟩, .int .i64 r.2.1, .int .i64 r.2.2.1, .string ⟨r.2.2.2.toArray⟩]] w fun e w' => e = .returned (.bool (hasR L r)) ∧ Below w.heap.size w w' := by
  obtain ⟨a, cap, rfl, hcap, hmax, HROW⟩ := rrow_value hr
  clear hr
  obtain ⟨q, hq⟩ : ∃ q, q = hasR L r := ⟨_, rfl⟩
  have HQ : Hid (q = hasR L r) := hq
  rw [← hq]
  clear hq
  go_enter Tryz.func29, Tryz.ntmps29
  go_wp2_with fail
  have hk0 : (w.alloc (.cells #[.string ⟨r.1.toArray⟩, .int .i64 r.2.1, .int .i64 r.2.2.1, .string ⟨r.2.2.2.toArray⟩] 63)).heap[w.heap.size]? = some (.cells #[.string ⟨r.1.toArray⟩, .int .i64 r.2.1, .int .i64 r.2.2.1, .string ⟨r.2.2.2.toArray⟩] 63) := blk_new _ _
  have HB0 : Hid (Below w.heap.size w (w.alloc (.cells #[.string ⟨r.1.toArray⟩, .int .i64 r.2.1, .int .i64 r.2.2.1, .string ⟨r.2.2.2.toArray⟩] 63))) := (Below.refl _ _).alloc (Nat.le_refl _) _
  go_loopw [9] (fun i wr => ∃ k : Nat, k ≤ L.length ∧ i = .int .i64 (k : Int) ∧ Hid (∀ j, (hj : j < L.length) → j < k → L[j] ≠ r) ∧ Hid (wr.heap[w.heap.size]? = some (.cells #[.string ⟨r.1.toArray⟩, .int .i64 r.2.1, .int .i64 r.2.2.1, .string ⟨r.2.2.2.toArray⟩] 63)) ∧ Below w.heap.size w wr) (fun i _ => L.length - (intOf i).toNat)
  case atStart => exact ⟨0, Nat.zero_le _, rfl, fun j _ h => absurd h (Nat.not_lt_zero _), hk0, HB0.out⟩
  case round =>
    obtain ⟨k, hk, rfl, HA, HK, hb⟩ := hrel
    clear hk0 HB0
    by_cases hlt : k < L.length
    · obtain ⟨b, o, ha, hbl, hcel⟩ := HROW.out (by omega)
      rw [ha]
      have hcx := (hcel k hlt).kept hb
      have HHIT : Hid ((L[k]'hlt) = r → q = true) := fun h => HQ.out.trans (hasR_hit k hlt h)
      have HUP : Hid ((L[k]'hlt) ≠ r → ∀ j, (hj : j < L.length) → j < k + 1 → L[j] ≠ r) := fun h j hj hj2 => by
        rcases Nat.lt_or_ge j k with h' | h'
        · exact HA.out j hj h'
        · obtain rfl : j = k := by omega
          exact h
      obtain ⟨x, hxe⟩ : ∃ x, x = L[k]'hlt := ⟨_, rfl⟩
      rw [← hxe] at hcx HHIT HUP
      unfold RecAt at hcx
      obtain ⟨c0, c1, c2, c3⟩ := hcx
      obtain ⟨⟨d0, d1, d2, d3⟩, _⟩ := dif_cells HK.out
      have hz : w.heap.size < wr.heap.size := (Array.getElem?_eq_some_iff.1 HK.out).1
      have HA2 : Hid (Below w.heap.size w (wr.alloc (.cells #[.string ⟨x.1.toArray⟩, .int .i64 x.2.1, .int .i64 x.2.2.1, .string ⟨x.2.2.2.toArray⟩] 63))) := hb.alloc hb.size _
      have HK2 : Hid ((wr.alloc (.cells #[.string ⟨x.1.toArray⟩, .int .i64 x.2.1, .int .i64 x.2.2.1, .string ⟨x.2.2.2.toArray⟩] 63)).heap[w.heap.size]? = some (.cells #[.string ⟨r.1.toArray⟩, .int .i64 r.2.1, .int .i64 r.2.2.1, .string ⟨r.2.2.2.toArray⟩] 63)) := (((Below.refl wr.heap.size wr).alloc (Nat.le_refl _) _).block _ hz).trans HK.out
      have hG := guard_rec
      clear hcel hxe
      by_cases hh : x = r
      · have HF : Hid (q = true) := HHIT.out hh
        have hE : ∀ W, (Op.equalIn 10000 63 (.agg #[.string ⟨x.1.toArray⟩, .int .i64 x.2.1, .int .i64 x.2.2.1, .string ⟨x.2.2.2.toArray⟩]) (.agg #[.string ⟨r.1.toArray⟩, .int .i64 r.2.1, .int .i64 r.2.2.1, .string ⟨r.2.2.2.toArray⟩])).run Tryz.prog W = .ok true W := fun W => by rw [eq_rec x r W, decide_eq_true hh]
        clear HHIT HUP hh
        go_wp2_with fail
        go_ret
        exact ⟨ret_bool HF.out.symm, HA2.out⟩
      · have HU : Hid (∀ j, (hj : j < L.length) → j < k + 1 → L[j] ≠ r) := HUP.out hh
        have hE : ∀ W, (Op.equalIn 10000 63 (.agg #[.string ⟨x.1.toArray⟩, .int .i64 x.2.1, .int .i64 x.2.2.1, .string ⟨x.2.2.2.toArray⟩]) (.agg #[.string ⟨r.1.toArray⟩, .int .i64 r.2.1, .int .i64 r.2.2.1, .string ⟨r.2.2.2.toArray⟩])).run Tryz.prog W = .ok false W := fun W => by rw [eq_rec x r W, decide_eq_false hh]
        clear HHIT HUP hh
        go_wp2_with fail
        go_roundw
        case rel => exact ⟨k + 1, by omega, by go_num, HU, HK2, HA2.out⟩
        case measure => simp [intOf]; omega
    · have HF : Hid (q = false) := HQ.out.trans (hasR_none (fun j hj => HA.out j hj (by omega)))
      go_wp2_with fail
      go_ret
      exact ⟨ret_bool HF.out.symm, hb⟩
end Go.Proofs.YtdbbcepjdojdcaaGreatDoor

namespace Go.Proofs.YtdbbcepjdojdcaaGreatDoor
open Go.RowKit

set_option maxRecDepth 20000 in
set_option maxHeartbeats 4000000 in
theorem sGoodDiff_any (f t : Int) (va vu : Value) (A U : List (List UInt8 × Int × Int × List UInt8)) (w : World) (ha : RRow w va A) (hu : RRow w vu U) (hxa : Hid (∀ x ∈ A, x.1.length ≤ 1048576 ∧ x.2.2.2.length ≤ 1048576)) (hxu : Hid (∀ x ∈ U, x.1.length ≤ 1048576 ∧ x.2.2.2.length ≤ 1048576)) :
    Calls Tryz.prog 28 #[DifV f t va vu] w fun e w' => e = .returned (.bool (difB f t A U)) ∧ Below w.heap.size w w' := by
  unfold DifV
  have HRA : Hid (∀ W, Below w.heap.size w W → RRow W va A) := fun W hW => ha.kept hW
  have HRU : Hid (∀ W, Below w.heap.size w W → RRow W vu U) := fun W hW => hu.kept hW
  obtain ⟨aa, ca, rfl, hca1, hca, HROW⟩ := rrow_value ha
  obtain ⟨au, cu, rfl, hcu1, hcu, _⟩ := rrow_value hu
  clear ha hu
  obtain ⟨W0, hW0⟩ : ∃ W0, W0 = w.alloc (.cells #[.int .i64 f, .int .i64 t, .slice aa A.length ca, .slice au U.length cu] 36) := ⟨_, rfl⟩
  have HW0 : Hid (w.alloc (.cells #[.int .i64 f, .int .i64 t, .slice aa A.length ca, .slice au U.length cu] 36) = W0) := hW0.symm
  have HX : Hid (∀ W, Below W0.heap.size W0 W → W.cell? ⟨w.heap.size, 0, none⟩ = some (.int .i64 f) ∧ W.cell? ⟨w.heap.size, 1, none⟩ = some (.int .i64 t) ∧ W.cell? ⟨w.heap.size, 2, none⟩ = some (.slice aa A.length ca) ∧ W.cell? ⟨w.heap.size, 3, none⟩ = some (.slice au U.length cu) ∧ Below w.heap.size w W) := fun W hW => by
    rw [hW0] at hW
    obtain ⟨h1, h2⟩ := dif_below hW
    obtain ⟨⟨c0, c1, c2, c3⟩, _⟩ := dif_cells h1
    exact ⟨c0, c1, c2, c3, h2⟩
  have HC : Hid (∀ n W, Calls Tryz.prog 55 #[.int .i64 n] W fun e w' => e = .returned (.bool (cntB n)) ∧ w' = W) := fun n W => l9Counter_any n W
  have HC1 : Hid (∀ W, Calls Tryz.prog 55 #[.int .i64 f] W fun e w' => e = .returned (.bool (cntB f)) ∧ w' = W) := HC.out f
  have HC2 : Hid (∀ W, Calls Tryz.prog 55 #[.int .i64 t] W fun e w' => e = .returned (.bool (cntB t)) ∧ w' = W) := HC.out t
  have HL1 : Hid (∀ W, Below w.heap.size w W → Calls Tryz.prog 56 #[.slice aa A.length ca] W fun e w' => e = .returned (.bool (listB A)) ∧ Below W.heap.size W w') := fun W hW => l6List_any _ A W (HRA.out W hW) hxa
  have HL2 : Hid (∀ W, Below w.heap.size w W → Calls Tryz.prog 56 #[.slice au U.length cu] W fun e w' => e = .returned (.bool (listB U)) ∧ Below W.heap.size W w') := fun W hW => l6List_any _ U W (HRU.out W hW) hxu
  have HHS : Hid (∀ (r : List UInt8 × Int × Int × List UInt8) W, Below w.heap.size w W → Calls Tryz.prog 29 #[.slice au U.length cu, .agg #[.string ⟨r.1.toArray⟩, .int .i64 r.2.1, .int .i64 r.2.2.1, .string ⟨r.2.2.2.toArray⟩]] W fun e w' => e = .returned (.bool (hasR U r)) ∧ Below W.heap.size W w') := fun r W hW => l9Has_any _ U r W (HRU.out W hW)
  have HD : Hid (difB f t A U = (cntB f && cntB t && !(f == t) && listB A && listB U && A.all (fun r => !hasR U r))) := rfl
  have HBADA : Hid (∀ k (hk : k < A.length), hasR U A[k] = true → difB f t A U = false) := fun k hk h => difB_bad k hk h
  have HALL : Hid (cntB f = true → cntB t = true → (f == t) = false → listB A = true → listB U = true → (∀ j, (hj : j < A.length) → hasR U A[j] = false) → difB f t A U = true) := fun h1 h2 h3 h4 h5 h => difB_all h1 h2 h3 h4 h5 h
  obtain ⟨q, hq⟩ : ∃ q, q = difB f t A U := ⟨_, rfl⟩
  rw [← hq] at HD HBADA HALL ⊢
  clear hq hW0 HC
  have hb0 : Below W0.heap.size W0 W0 := Below.refl _ _
  cases k1 : cntB f with
  | false =>
    have HF : Hid (q = false) := HD.out.trans (by rw [k1]; rfl)
    rw [k1] at HC1
    clear HD k1 HALL HBADA
    go_enter Tryz.func28, Tryz.ntmps28
    go_wp2_with fail
    rw [HW0.out]
    refine (HC1.out _).mono ?_
    rintro e w1 ⟨rfl, hw1⟩
    rw [hw1]
    clear hw1 w1
    have hbw := (HX.out _ hb0).2.2.2.2
    go_wp2_with fail
    go_ret
    exact ⟨ret_bool HF.out.symm, hbw⟩
  | true =>
  rw [k1] at HC1
  cases k2 : cntB t with
  | false =>
    have HF : Hid (q = false) := HD.out.trans (by rw [k2]; simp)
    rw [k2] at HC2
    clear HD k1 k2 HALL HBADA
    go_enter Tryz.func28, Tryz.ntmps28
    go_wp2_with fail
    rw [HW0.out]
    refine (HC1.out _).mono ?_
    rintro e w1 ⟨rfl, hw1⟩
    rw [hw1]
    clear hw1 w1
    obtain ⟨c0, c1, c2, c3, hbw⟩ := HX.out _ hb0
    go_wp2_with fail
    refine (HC2.out _).mono ?_
    rintro e w1 ⟨rfl, hw1⟩
    rw [hw1]
    clear hw1 w1
    go_wp2_with fail
    go_ret
    exact ⟨ret_bool HF.out.symm, hbw⟩
  | true =>
  rw [k2] at HC2
  by_cases k3 : f = t
  · have HF : Hid (q = false) := HD.out.trans (by rw [show (f == t) = true by simpa using k3]; simp)
    have e1 : (f == t) = true := by simpa using k3
    clear HD k1 k2 k3 HALL HBADA
    go_enter Tryz.func28, Tryz.ntmps28
    go_wp2_with fail
    rw [HW0.out]
    refine (HC1.out _).mono ?_
    rintro e w1 ⟨rfl, hw1⟩
    rw [hw1]
    clear hw1 w1
    obtain ⟨c0, c1, c2, c3, hbw⟩ := HX.out _ hb0
    go_wp2_with fail
    refine (HC2.out _).mono ?_
    rintro e w1 ⟨rfl, hw1⟩
    rw [hw1]
    clear hw1 w1
    go_wp2_with fail
    go_ret
    exact ⟨ret_bool HF.out.symm, hbw⟩
  have e1 : (f == t) = false := by simpa using k3
  have HE1 : Hid ((f == t) = false) := e1
  cases k4 : listB A with
  | false =>
    have HF : Hid (q = false) := HD.out.trans (by rw [k4]; simp)
    rw [k4] at HL1
    clear HD k1 k2 k3 k4 HALL HBADA
    go_enter Tryz.func28, Tryz.ntmps28
    go_wp2_with fail
    rw [HW0.out]
    refine (HC1.out _).mono ?_
    rintro e w1 ⟨rfl, hw1⟩
    rw [hw1]
    clear hw1 w1
    obtain ⟨c0, c1, c2, c3, hbw⟩ := HX.out _ hb0
    go_wp2_with fail
    refine (HC2.out _).mono ?_
    rintro e w1 ⟨rfl, hw1⟩
    rw [hw1]
    clear hw1 w1
    go_wp2_with fail
    refine (HL1.out _ hbw).mono ?_
    rintro e w2 ⟨rfl, hb2⟩
    have hbw2 := hbw.trans (hb2.mono hbw.size)
    go_wp2_with fail
    go_ret
    exact ⟨ret_bool HF.out.symm, hbw2⟩
  | true =>
  rw [k4] at HL1
  cases k5 : listB U with
  | false =>
    have HF : Hid (q = false) := HD.out.trans (by rw [k5]; simp)
    rw [k5] at HL2
    clear HD k1 k2 k3 k4 k5 HALL HBADA
    go_enter Tryz.func28, Tryz.ntmps28
    go_wp2_with fail
    rw [HW0.out]
    refine (HC1.out _).mono ?_
    rintro e w1 ⟨rfl, hw1⟩
    rw [hw1]
    clear hw1 w1
    obtain ⟨c0, c1, c2, c3, hbw⟩ := HX.out _ hb0
    go_wp2_with fail
    refine (HC2.out _).mono ?_
    rintro e w1 ⟨rfl, hw1⟩
    rw [hw1]
    clear hw1 w1
    go_wp2_with fail
    refine (HL1.out _ hbw).mono ?_
    rintro e w2 ⟨rfl, hb2⟩
    have hb02 : Below W0.heap.size W0 w2 := hb2
    clear c0 c1 c2 c3 hbw
    obtain ⟨c0, c1, c2, c3, hbw2⟩ := HX.out _ hb02
    go_wp2_with fail
    refine (HL2.out _ hbw2).mono ?_
    rintro e w3 ⟨rfl, hb3⟩
    have hbw3 := hbw2.trans (hb3.mono hbw2.size)
    go_wp2_with fail
    go_ret
    exact ⟨ret_bool HF.out.symm, hbw3⟩
  | true =>
  rw [k5] at HL2
  have HALL2 : Hid ((∀ j, (hj : j < A.length) → hasR U A[j] = false) → q = true) := HALL.out k1 k2 e1 k4 k5
  clear HD k1 k2 k3 k4 k5 HALL
  go_enter Tryz.func28, Tryz.ntmps28
  go_wp2_with fail
  rw [HW0.out]
  refine (HC1.out _).mono ?_
  rintro e w1 ⟨rfl, hw1⟩
  rw [hw1]
  clear hw1 w1
  obtain ⟨c0, c1, c2, c3, hbw⟩ := HX.out _ hb0
  go_wp2_with fail
  refine (HC2.out _).mono ?_
  rintro e w1 ⟨rfl, hw1⟩
  rw [hw1]
  clear hw1 w1
  go_wp2_with fail
  refine (HL1.out _ hbw).mono ?_
  rintro e w2 ⟨rfl, hb2⟩
  have hb02 : Below W0.heap.size W0 w2 := hb2
  clear c0 c1 c2 c3 hbw
  obtain ⟨c0, c1, c2, c3, hbw2⟩ := HX.out _ hb02
  go_wp2_with fail
  refine (HL2.out _ hbw2).mono ?_
  rintro e w3 ⟨rfl, hb3⟩
  have hb03 := hb02.trans (hb3.mono hb02.size)
  clear c0 c1 c2 c3 hbw2 hb2 hb3 hb02
  obtain ⟨c0, c1, c2, c3, hbw3⟩ := HX.out _ hb03
  go_wp2_with fail
  clear c0 c1 c2 c3 hbw3 HC1 HC2 HL1 HL2 HE1 e1
  go_loopw [37] (fun i wr => ∃ k : Nat, k ≤ A.length ∧ i = .int .i64 (k : Int) ∧ Hid (∀ j, (hj : j < A.length) → j < k → hasR U A[j] = false) ∧ Below W0.heap.size W0 wr) (fun i _ => A.length - (intOf i).toNat)
  case atStart => exact ⟨0, Nat.zero_le _, rfl, fun j _ h => absurd h (Nat.not_lt_zero _), hb03⟩
  case round =>
    obtain ⟨k, hk, rfl, HA, hb⟩ := hrel
    clear hb03
    obtain ⟨d0, d1, d2, d3, hbw⟩ := HX.out _ hb
    by_cases hlt : k < A.length
    · obtain ⟨b, o, ha, hbl, hcel⟩ := HROW.out (by omega)
      rw [ha]
      have hcx := (hcel k hlt).kept hbw
      have HHIT : Hid (hasR U (A[k]'hlt) = true → q = false) := HBADA.out k hlt
      have HUP : Hid (hasR U (A[k]'hlt) = false → ∀ j, (hj : j < A.length) → j < k + 1 → hasR U A[j] = false) := fun h j hj hj2 => by
        rcases Nat.lt_or_ge j k with h' | h'
        · exact HA.out j hj h'
        · obtain rfl : j = k := by omega
          exact h
      obtain ⟨x, hxe⟩ : ∃ x, x = A[k]'hlt := ⟨_, rfl⟩
      rw [← hxe] at hcx HHIT HUP
      unfold RecAt at hcx
      obtain ⟨c0, c1, c2, c3⟩ := hcx
      have HB2 : Hid (Below W0.heap.size W0 (wr.alloc (.cells #[.string ⟨x.1.toArray⟩, .int .i64 x.2.1, .int .i64 x.2.2.1, .string ⟨x.2.2.2.toArray⟩] 63))) := hb.alloc hb.size _
      have HHX : Hid (∀ W, Below w.heap.size w W → Calls Tryz.prog 29 #[.slice au U.length cu, .agg #[.string ⟨x.1.toArray⟩, .int .i64 x.2.1, .int .i64 x.2.2.1, .string ⟨x.2.2.2.toArray⟩]] W fun e w' => e = .returned (.bool (hasR U x)) ∧ Below W.heap.size W w') := HHS.out x
      have hzw : w.heap.size < wr.heap.size := World.block_lt_of_cell? _ _ d0
      clear hcel hxe HA
      cases hh : hasR U x with
      | true =>
        have HF : Hid (q = false) := HHIT.out hh
        rw [hh] at HHX
        clear HHIT HUP hh
        go_wp2_with fail
        refine (HHX.out _ (HX.out _ HB2.out).2.2.2.2).mono ?_
        rintro e w4 ⟨rfl, hb4⟩
        have hbw4 := (HX.out _ (HB2.out.trans (hb4.mono HB2.out.size))).2.2.2.2
        go_wp2_with fail
        go_ret
        exact ⟨ret_bool HF.out.symm, hbw4⟩
      | false =>
        have HU : Hid (∀ j, (hj : j < A.length) → j < k + 1 → hasR U A[j] = false) := HUP.out hh
        rw [hh] at HHX
        clear HHIT HUP hh
        go_wp2_with fail
        refine (HHX.out _ (HX.out _ HB2.out).2.2.2.2).mono ?_
        rintro e w4 ⟨rfl, hb4⟩
        have hb04 := HB2.out.trans (hb4.mono HB2.out.size)
        go_wp2_with fail
        go_roundw
        case rel => exact ⟨k + 1, by omega, by go_num, HU, hb04⟩
        case measure => simp [intOf]; omega
    · have HF : Hid (q = true) := HALL2.out (fun j hj => HA.out j hj (by omega))
      go_wp2_with fail
      go_ret
      exact ⟨ret_bool HF.out.symm, hbw⟩
end Go.Proofs.YtdbbcepjdojdcaaGreatDoor
