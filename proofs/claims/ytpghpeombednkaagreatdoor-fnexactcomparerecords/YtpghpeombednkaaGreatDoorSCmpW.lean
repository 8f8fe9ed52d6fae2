import Derived.Test.YtpghpeombednkaaGreatDoorROrd
namespace Go.Proofs.YtpghpeombednkaaGreatDoor
open Go.RowKit

set_option maxRecDepth 20000 in
set_option maxHeartbeats 4000000 in
theorem l3Compare_any (n1 d1 : ByteArray) (t1 l1 : Int) (n2 d2 : ByteArray) (t2 l2 : Int) (w : World) (hn1 : n1.size ≤ 1048576) (hn2 : n2.size ≤ 1048576) (h1 : d1.size ≤ 1048576) (h2 : d2.size ≤ 1048576)
    (hN : Hid (nameB n1.data.toList = true ∧ nameB n2.data.toList = true)) (hD : Hid ((dataP t1 d1.data.toList).isSome = true ∧ (dataP t2 d2.data.toList).isSome = true)) :
    Calls Tryz.prog 49 #[RecV n1 t1 l1 d1, RecV n2 t2 l2 d2] w fun e w' => e = .returned (.int .i64 (cmpRec n1.data.toList t1 l1 d1.data.toList n2.data.toList t2 l2 d2.data.toList)) ∧ Below w.heap.size w w' := by
  unfold RecV
  have HC : Hid (∀ W, Calls Tryz.prog 90 #[.string n1, .string n2] W fun e w' => e = .returned (.int .i64 (cmpR (labelsOf n1.data.toList).reverse (labelsOf n2.data.toList).reverse)) ∧ Below W.heap.size W w') := fun W => l1Compare_any n1 n2 W (by omega) (by omega) hN
  have HB1 : Hid (∀ W, Calls Tryz.prog 46 #[.int .i64 t1, .string d1] W fun e w' => e = .returned (.tuple #[.string ⟨((dataP t1 d1.data.toList).getD []).toArray⟩, .bool true]) ∧ Below W.heap.size W w') := fun W => (l3Bytes_any t1 d1 W h1).mono fun e w' h => by
    obtain ⟨⟨x, rfl, hx⟩, hb⟩ := h
    rw [hx _ (some_of hD.out.1), hD.out.1]; exact ⟨rfl, hb⟩
  have HB2 : Hid (∀ W, Calls Tryz.prog 46 #[.int .i64 t2, .string d2] W fun e w' => e = .returned (.tuple #[.string ⟨((dataP t2 d2.data.toList).getD []).toArray⟩, .bool true]) ∧ Below W.heap.size W w') := fun W => (l3Bytes_any t2 d2 W h2).mono fun e w' h => by
    obtain ⟨⟨x, rfl, hx⟩, hb⟩ := h
    rw [hx _ (some_of hD.out.2), hD.out.2]; exact ⟨rfl, hb⟩
  have HR : Hid (cmpRec n1.data.toList t1 l1 d1.data.toList n2.data.toList t2 l2 d2.data.toList = if cmpR (labelsOf n1.data.toList).reverse (labelsOf n2.data.toList).reverse ≠ 0 then cmpR (labelsOf n1.data.toList).reverse (labelsOf n2.data.toList).reverse else if t1 ≠ t2 then lessI (decide (t1 < t2)) else if (dataP t1 d1.data.toList).getD [] ≠ (dataP t2 d2.data.toList).getD [] then lessI (Op.bytesLess ((dataP t1 d1.data.toList).getD []) ((dataP t2 d2.data.toList).getD [])) else if l1 ≠ l2 then lessI (decide (l1 < l2)) else 0) := rfl
  obtain ⟨c, hc⟩ : ∃ c, c = cmpR (labelsOf n1.data.toList).reverse (labelsOf n2.data.toList).reverse := ⟨_, rfl⟩
  obtain ⟨x, hx⟩ : ∃ x, x = (dataP t1 d1.data.toList).getD [] := ⟨_, rfl⟩
  obtain ⟨y, hy⟩ : ∃ y, y = (dataP t2 d2.data.toList).getD [] := ⟨_, rfl⟩
  rw [← hc, ← hx, ← hy] at HR
  rw [← hc] at HC
  rw [← hx] at HB1
  rw [← hy] at HB2
  obtain ⟨W0, hW0⟩ : ∃ W0, W0 = box8 w n1 d1 t1 l1 n2 d2 t2 l2 := ⟨_, rfl⟩
  have HX : Hid (∀ W, Below W0.heap.size W0 W → In8 w W n1 d1 t1 l1 n2 d2 t2 l2) := fun W h => by rw [hW0] at h; exact in8 h
  unfold In8 at HX
  have HW0 : Hid ((w.alloc (.cells #[.string n1, .int .i64 t1, .int .i64 l1, .string d1] 35)).alloc (.cells #[.string n2, .int .i64 t2, .int .i64 l2, .string d2] 35) = W0) := hW0.symm
  have HTR : Hid (∀ W W', Below W0.heap.size W0 W → Below W.heap.size W W' → Below W0.heap.size W0 W') := fun W W' h1 h2 => h1.trans (h2.mono h1.size)
  have hb0 : Below W0.heap.size W0 W0 := Below.refl _ _
  clear hc hx hy hW0 hN hD
  by_cases hz : c = 0
  · have ez : (c != 0) = false := by simpa using hz
    have ez2 : (c == 0) = true := by simpa using hz
    rw [if_neg (by rw [hz]; simp)] at HR
    clear hz
    by_cases ht : t1 = t2
    · have et : (t1 != t2) = false := by simpa using ht
      have et2 : (t1 == t2) = true := by simpa using ht
      rw [if_neg (by rw [ht]; simp)] at HR
      clear ht
      by_cases hx : x = y
      · have ex : (x != y) = false := by simpa using hx
        have ex2 : (x == y) = true := by simpa using hx
        rw [if_neg (by rw [hx]; simp)] at HR
        clear hx
        by_cases hl : l1 = l2
        · have el : (l1 != l2) = false := by simpa using hl
          have el2 : (l1 == l2) = true := by simpa using hl
          rw [if_neg (by rw [hl]; simp)] at HR
          clear hl
          go_enter Tryz.func49, Tryz.ntmps49
          go_wp2_with fail
          rw [HW0.out]
          refine (HC.out _).mono ?_
          rintro e w1 ⟨rfl, hb1⟩
          obtain ⟨⟨c0, c1, c2, c3⟩, ⟨e0, e1, e2, e3⟩, hbw⟩ := HX.out w1 hb1
          go_wp2_with fail
          refine (HB1.out _).mono ?_
          rintro e w2 ⟨rfl, hb2⟩
          have hb12 := HTR.out _ _ hb1 hb2
          clear c0 c1 c2 c3 e0 e1 e2 e3 hbw hb1 hb2
          obtain ⟨⟨c0, c1, c2, c3⟩, ⟨e0, e1, e2, e3⟩, hbw⟩ := HX.out w2 hb12
          go_wp2_with fail
          refine (HB2.out _).mono ?_
          rintro e w3 ⟨rfl, hb3⟩
          have hb13 := HTR.out _ _ hb12 hb3
          clear c0 c1 c2 c3 e0 e1 e2 e3 hbw hb12 hb3
          obtain ⟨⟨c0, c1, c2, c3⟩, ⟨e0, e1, e2, e3⟩, hbw⟩ := HX.out w3 hb13
          clear hb13
          go_wp2_with fail
          go_ret
          exact ⟨ret_int HR.out.symm, hbw⟩
        · have el : (l1 != l2) = true := by simpa using hl
          have el2 : (l1 == l2) = false := by simpa using hl
          rw [if_pos hl] at HR
          clear hl
          go_enter Tryz.func49, Tryz.ntmps49
          go_wp2_with fail
          rw [HW0.out]
          refine (HC.out _).mono ?_
          rintro e w1 ⟨rfl, hb1⟩
          obtain ⟨⟨c0, c1, c2, c3⟩, ⟨e0, e1, e2, e3⟩, hbw⟩ := HX.out w1 hb1
          go_wp2_with fail
          refine (HB1.out _).mono ?_
          rintro e w2 ⟨rfl, hb2⟩
          have hb12 := HTR.out _ _ hb1 hb2
          clear c0 c1 c2 c3 e0 e1 e2 e3 hbw hb1 hb2
          obtain ⟨⟨c0, c1, c2, c3⟩, ⟨e0, e1, e2, e3⟩, hbw⟩ := HX.out w2 hb12
          go_wp2_with fail
          refine (HB2.out _).mono ?_
          rintro e w3 ⟨rfl, hb3⟩
          have hb13 := HTR.out _ _ hb12 hb3
          clear c0 c1 c2 c3 e0 e1 e2 e3 hbw hb12 hb3
          obtain ⟨⟨c0, c1, c2, c3⟩, ⟨e0, e1, e2, e3⟩, hbw⟩ := HX.out w3 hb13
          clear hb13
          go_wp2_with fail
          refine (l3Less_any _ _).mono ?_
          rintro e w4 ⟨rfl, rfl⟩
          go_wp2_with fail
          go_ret
          exact ⟨ret_int HR.out.symm, hbw⟩
      · have ex : (x != y) = true := by simpa using hx
        have ex2 : (x == y) = false := by simpa using hx
        rw [if_pos hx] at HR
        clear hx
        go_enter Tryz.func49, Tryz.ntmps49
        go_wp2_with fail
        rw [HW0.out]
        refine (HC.out _).mono ?_
        rintro e w1 ⟨rfl, hb1⟩
        obtain ⟨⟨c0, c1, c2, c3⟩, ⟨e0, e1, e2, e3⟩, hbw⟩ := HX.out w1 hb1
        go_wp2_with fail
        refine (HB1.out _).mono ?_
        rintro e w2 ⟨rfl, hb2⟩
        have hb12 := HTR.out _ _ hb1 hb2
        clear c0 c1 c2 c3 e0 e1 e2 e3 hbw hb1 hb2
        obtain ⟨⟨c0, c1, c2, c3⟩, ⟨e0, e1, e2, e3⟩, hbw⟩ := HX.out w2 hb12
        go_wp2_with fail
        refine (HB2.out _).mono ?_
        rintro e w3 ⟨rfl, hb3⟩
        have hb13 := HTR.out _ _ hb12 hb3
        clear c0 c1 c2 c3 e0 e1 e2 e3 hbw hb12 hb3
        obtain ⟨⟨c0, c1, c2, c3⟩, ⟨e0, e1, e2, e3⟩, hbw⟩ := HX.out w3 hb13
        clear hb13
        go_wp2_with fail
        refine (l3Less_any _ _).mono ?_
        rintro e w4 ⟨rfl, rfl⟩
        go_wp2_with fail
        go_ret
        exact ⟨ret_int HR.out.symm, hbw⟩
    · have et : (t1 != t2) = true := by simpa using ht
      have et2 : (t1 == t2) = false := by simpa using ht
      rw [if_pos ht] at HR
      clear ht
      go_enter Tryz.func49, Tryz.ntmps49
      go_wp2_with fail
      rw [HW0.out]
      refine (HC.out _).mono ?_
      rintro e w1 ⟨rfl, hb1⟩
      obtain ⟨⟨c0, c1, c2, c3⟩, ⟨e0, e1, e2, e3⟩, hbw⟩ := HX.out w1 hb1
      go_wp2_with fail
      refine (HB1.out _).mono ?_
      rintro e w2 ⟨rfl, hb2⟩
      have hb12 := HTR.out _ _ hb1 hb2
      clear c0 c1 c2 c3 e0 e1 e2 e3 hbw hb1 hb2
      obtain ⟨⟨c0, c1, c2, c3⟩, ⟨e0, e1, e2, e3⟩, hbw⟩ := HX.out w2 hb12
      go_wp2_with fail
      refine (HB2.out _).mono ?_
      rintro e w3 ⟨rfl, hb3⟩
      have hb13 := HTR.out _ _ hb12 hb3
      clear c0 c1 c2 c3 e0 e1 e2 e3 hbw hb12 hb3
      obtain ⟨⟨c0, c1, c2, c3⟩, ⟨e0, e1, e2, e3⟩, hbw⟩ := HX.out w3 hb13
      clear hb13
      go_wp2_with fail
      refine (l3Less_any _ _).mono ?_
      rintro e w4 ⟨rfl, rfl⟩
      go_wp2_with fail
      go_ret
      exact ⟨ret_int HR.out.symm, hbw⟩
  · have ez : (c != 0) = true := by simpa using hz
    have ez2 : (c == 0) = false := by simpa using hz
    rw [if_pos hz] at HR
    clear hz
    go_enter Tryz.func49, Tryz.ntmps49
    go_wp2_with fail
    rw [HW0.out]
    refine (HC.out _).mono ?_
    rintro e w1 ⟨rfl, hb1⟩
    have hbw := (HX.out w1 hb1).2.2
    clear hb1
    go_wp2_with fail
    go_ret
    exact ⟨ret_int HR.out.symm, hbw⟩
end Go.Proofs.YtpghpeombednkaaGreatDoor
