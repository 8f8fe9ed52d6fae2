import Derived.Test.YtpghpeombednkaaGreatDoorROrdW
import Derived.Test.YtpghpeombednkaaGreatDoorSCmpW
namespace Go.Proofs.YtpghpeombednkaaGreatDoor
open Go.RowKit

/-- What CompareRecords tells. -/
def cmpO (n1 : List UInt8) (t1 l1 : Int) (d1 : List UInt8) (n2 : List UInt8) (t2 l2 : Int) (d2 : List UInt8) : Bool := recB n1 t1 l1 d1 && recB n2 t2 l2 d2
def cmpX (n1 : List UInt8) (t1 l1 : Int) (d1 : List UInt8) (n2 : List UInt8) (t2 l2 : Int) (d2 : List UInt8) : Int := if cmpO n1 t1 l1 d1 n2 t2 l2 d2 = true then cmpRec n1 t1 l1 d1 n2 t2 l2 d2 else 0

set_option maxRecDepth 20000 in
set_option maxHeartbeats 1000000 in
theorem sCompareRecords_any (n1 d1 : ByteArray) (t1 l1 : Int) (n2 d2 : ByteArray) (t2 l2 : Int) (w : World) (hn1 : n1.size ≤ 1048576) (hn2 : n2.size ≤ 1048576) (h1 : d1.size ≤ 1048576) (h2 : d2.size ≤ 1048576) :
    Calls Tryz.prog 16 #[RecV n1 t1 l1 d1, RecV n2 t2 l2 d2] w fun e w' => e = .returned (.tuple #[.int .i64 (cmpX n1.data.toList t1 l1 d1.data.toList n2.data.toList t2 l2 d2.data.toList), .bool (cmpO n1.data.toList t1 l1 d1.data.toList n2.data.toList t2 l2 d2.data.toList)]) ∧ Below w.heap.size w w' := by
  have HG1 : Hid (∀ W, Calls Tryz.prog 48 #[RecV n1 t1 l1 d1] W fun e w' => e = .returned (.bool (recB n1.data.toList t1 l1 d1.data.toList)) ∧ Below W.heap.size W w') := fun W => sGoodRecord_any n1 d1 t1 l1 W hn1 h1
  have HG2 : Hid (∀ W, Calls Tryz.prog 48 #[RecV n2 t2 l2 d2] W fun e w' => e = .returned (.bool (recB n2.data.toList t2 l2 d2.data.toList)) ∧ Below W.heap.size W w') := fun W => sGoodRecord_any n2 d2 t2 l2 W hn2 h2
  obtain ⟨W0, hW0⟩ : ∃ W0, W0 = box8 w n1 d1 t1 l1 n2 d2 t2 l2 := ⟨_, rfl⟩
  have HX : Hid (∀ W, Below W0.heap.size W0 W → In8 w W n1 d1 t1 l1 n2 d2 t2 l2) := fun W h => by rw [hW0] at h; exact in8 h
  unfold In8 at HX
  have HW0 : Hid ((w.alloc (.cells #[.string n1, .int .i64 t1, .int .i64 l1, .string d1] 35)).alloc (.cells #[.string n2, .int .i64 t2, .int .i64 l2, .string d2] 35) = W0) := hW0.symm
  have HTR : Hid (∀ W W', Below W0.heap.size W0 W → Below W.heap.size W W' → Below W0.heap.size W0 W') := fun W W' h1 h2 => h1.trans (h2.mono h1.size)
  have hb0 : Below W0.heap.size W0 W0 := Below.refl _ _
  clear hW0
  cases hB1 : recB n1.data.toList t1 l1 d1.data.toList with
  | false =>
    have ho : cmpO n1.data.toList t1 l1 d1.data.toList n2.data.toList t2 l2 d2.data.toList = false := by unfold cmpO; rw [hB1]; rfl
    have HO : Hid (cmpO n1.data.toList t1 l1 d1.data.toList n2.data.toList t2 l2 d2.data.toList = false) := ho
    have HXX : Hid (cmpX n1.data.toList t1 l1 d1.data.toList n2.data.toList t2 l2 d2.data.toList = 0) := if_neg (by rw [ho]; simp)
    rw [hB1] at HG1
    clear hB1 ho
    unfold RecV at HG1 ⊢
    go_enter Tryz.func16, Tryz.ntmps16
    go_wp2_with fail
    rw [HW0.out]
    refine (HG1.out _).mono ?_
    rintro e w1 ⟨rfl, hb1⟩
    have hbw := (HX.out w1 hb1).2.2
    clear hb1
    go_wp2_with fail
    go_ret2
    exact ⟨ret_two (val_int HXX.out.symm) (val_bool HO.out.symm), hbw⟩
  | true =>
    cases hB2 : recB n2.data.toList t2 l2 d2.data.toList with
    | false =>
      have ho : cmpO n1.data.toList t1 l1 d1.data.toList n2.data.toList t2 l2 d2.data.toList = false := by unfold cmpO; rw [hB2, Bool.and_false]
      have HO : Hid (cmpO n1.data.toList t1 l1 d1.data.toList n2.data.toList t2 l2 d2.data.toList = false) := ho
      have HXX : Hid (cmpX n1.data.toList t1 l1 d1.data.toList n2.data.toList t2 l2 d2.data.toList = 0) := if_neg (by rw [ho]; simp)
      rw [hB1] at HG1
      rw [hB2] at HG2
      clear hB1 hB2 ho
      unfold RecV at HG1 HG2 ⊢
      go_enter Tryz.func16, Tryz.ntmps16
      go_wp2_with fail
      rw [HW0.out]
      refine (HG1.out _).mono ?_
      rintro e w1 ⟨rfl, hb1⟩
      obtain ⟨⟨c0, c1, c2, c3⟩, ⟨e0, e1, e2, e3⟩, _⟩ := HX.out w1 hb1
      go_wp2_with fail
      refine (HG2.out _).mono ?_
      rintro e w2 ⟨rfl, hb2⟩
      have hbw := (HX.out w2 (HTR.out _ _ hb1 hb2)).2.2
      clear hb1 hb2 c0 c1 c2 c3 e0 e1 e2 e3
      go_wp2_with fail
      go_ret2
      exact ⟨ret_two (val_int HXX.out.symm) (val_bool HO.out.symm), hbw⟩
    | true =>
      have ho : cmpO n1.data.toList t1 l1 d1.data.toList n2.data.toList t2 l2 d2.data.toList = true := by unfold cmpO; rw [hB1, hB2]; rfl
      have HO : Hid (cmpO n1.data.toList t1 l1 d1.data.toList n2.data.toList t2 l2 d2.data.toList = true) := ho
      have HXX : Hid (cmpX n1.data.toList t1 l1 d1.data.toList n2.data.toList t2 l2 d2.data.toList = cmpRec n1.data.toList t1 l1 d1.data.toList n2.data.toList t2 l2 d2.data.toList) := if_pos ho
      have hg1 := recB_name hB1
      have hg2 := recB_name hB2
      have HC : Hid (∀ W, Calls Tryz.prog 49 #[RecV n1 t1 l1 d1, RecV n2 t2 l2 d2] W fun e w' => e = .returned (.int .i64 (cmpRec n1.data.toList t1 l1 d1.data.toList n2.data.toList t2 l2 d2.data.toList)) ∧ Below W.heap.size W w') := fun W => l3Compare_any n1 d1 t1 l1 n2 d2 t2 l2 W hn1 hn2 h1 h2 ⟨hg1.1, hg2.1⟩ ⟨hg1.2, hg2.2⟩
      obtain ⟨z, hz⟩ : ∃ z, z = cmpRec n1.data.toList t1 l1 d1.data.toList n2.data.toList t2 l2 d2.data.toList := ⟨_, rfl⟩
      rw [← hz] at HC HXX
      rw [hB1] at HG1
      rw [hB2] at HG2
      clear hB1 hB2 ho hg1 hg2 hz
      unfold RecV at HG1 HG2 HC ⊢
      go_enter Tryz.func16, Tryz.ntmps16
      go_wp2_with fail
      rw [HW0.out]
      refine (HG1.out _).mono ?_
      rintro e w1 ⟨rfl, hb1⟩
      obtain ⟨⟨c0, c1, c2, c3⟩, ⟨e0, e1, e2, e3⟩, _⟩ := HX.out w1 hb1
      go_wp2_with fail
      refine (HG2.out _).mono ?_
      rintro e w2 ⟨rfl, hb2⟩
      have hb12 := HTR.out _ _ hb1 hb2
      clear hb1 hb2 c0 c1 c2 c3 e0 e1 e2 e3
      obtain ⟨⟨c0, c1, c2, c3⟩, ⟨e0, e1, e2, e3⟩, _⟩ := HX.out w2 hb12
      go_wp2_with fail
      refine (HC.out _).mono ?_
      rintro e w3 ⟨rfl, hb3⟩
      have hbw := (HX.out w3 (HTR.out _ _ hb12 hb3)).2.2
      clear hb12 hb3 c0 c1 c2 c3 e0 e1 e2 e3
      go_wp2_with fail
      go_ret2
      exact ⟨ret_two (val_int HXX.out.symm) (val_bool HO.out.symm), hbw⟩

set_option maxRecDepth 20000 in
set_option maxHeartbeats 1000000 in
theorem iCompareRecords_any (n1 d1 : ByteArray) (t1 l1 : Int) (n2 d2 : ByteArray) (t2 l2 : Int) (w : World) (h1 : d1.size ≤ 1048576) (h2 : d2.size ≤ 1048576) (hE : EnvR w) :
    Calls Tryz.prog 18 #[RecV n1 t1 l1 d1, RecV n2 t2 l2 d2] w fun e w' => e = .returned (.tuple #[.int .i64 (cmpX n1.data.toList t1 l1 d1.data.toList n2.data.toList t2 l2 d2.data.toList), .bool (cmpO n1.data.toList t1 l1 d1.data.toList n2.data.toList t2 l2 d2.data.toList)]) ∧ Below w.heap.size w w' := by
  have HG1 : Hid (∀ W, EnvR W → Calls Tryz.prog 50 #[RecV n1 t1 l1 d1] W fun e w' => e = .returned (.bool (recB n1.data.toList t1 l1 d1.data.toList)) ∧ Below W.heap.size W w') := fun W hW => iGoodRecord_any n1 d1 t1 l1 W h1 hW
  have HG2 : Hid (∀ W, EnvR W → Calls Tryz.prog 50 #[RecV n2 t2 l2 d2] W fun e w' => e = .returned (.bool (recB n2.data.toList t2 l2 d2.data.toList)) ∧ Below W.heap.size W w') := fun W hW => iGoodRecord_any n2 d2 t2 l2 W h2 hW
  obtain ⟨W0, hW0⟩ : ∃ W0, W0 = box8 w n1 d1 t1 l1 n2 d2 t2 l2 := ⟨_, rfl⟩
  have HX : Hid (∀ W, Below W0.heap.size W0 W → In8 w W n1 d1 t1 l1 n2 d2 t2 l2) := fun W h => by rw [hW0] at h; exact in8 h
  unfold In8 at HX
  have HW0 : Hid ((w.alloc (.cells #[.string n1, .int .i64 t1, .int .i64 l1, .string d1] 35)).alloc (.cells #[.string n2, .int .i64 t2, .int .i64 l2, .string d2] 35) = W0) := hW0.symm
  have HTR : Hid (∀ W W', Below W0.heap.size W0 W → Below W.heap.size W W' → Below W0.heap.size W0 W') := fun W W' h1 h2 => h1.trans (h2.mono h1.size)
  have hb0 : Below W0.heap.size W0 W0 := Below.refl _ _
  clear hW0
  cases hB1 : recB n1.data.toList t1 l1 d1.data.toList with
  | false =>
    have ho : cmpO n1.data.toList t1 l1 d1.data.toList n2.data.toList t2 l2 d2.data.toList = false := by unfold cmpO; rw [hB1]; rfl
    have HO : Hid (cmpO n1.data.toList t1 l1 d1.data.toList n2.data.toList t2 l2 d2.data.toList = false) := ho
    have HXX : Hid (cmpX n1.data.toList t1 l1 d1.data.toList n2.data.toList t2 l2 d2.data.toList = 0) := if_neg (by rw [ho]; simp)
    rw [hB1] at HG1
    clear hB1 ho
    unfold RecV at HG1 ⊢
    go_enter Tryz.func18, Tryz.ntmps18
    go_wp2_with fail
    rw [HW0.out]
    refine (HG1.out _ (hE.below (HX.out _ hb0).2.2)).mono ?_
    rintro e w1 ⟨rfl, hb1⟩
    have hbw := (HX.out w1 hb1).2.2
    clear hb1
    go_wp2_with fail
    go_ret2
    exact ⟨ret_two (val_int HXX.out.symm) (val_bool HO.out.symm), hbw⟩
  | true =>
    cases hB2 : recB n2.data.toList t2 l2 d2.data.toList with
    | false =>
      have ho : cmpO n1.data.toList t1 l1 d1.data.toList n2.data.toList t2 l2 d2.data.toList = false := by unfold cmpO; rw [hB2, Bool.and_false]
      have HO : Hid (cmpO n1.data.toList t1 l1 d1.data.toList n2.data.toList t2 l2 d2.data.toList = false) := ho
      have HXX : Hid (cmpX n1.data.toList t1 l1 d1.data.toList n2.data.toList t2 l2 d2.data.toList = 0) := if_neg (by rw [ho]; simp)
      rw [hB1] at HG1
      rw [hB2] at HG2
      clear hB1 hB2 ho
      unfold RecV at HG1 HG2 ⊢
      go_enter Tryz.func18, Tryz.ntmps18
      go_wp2_with fail
      rw [HW0.out]
      refine (HG1.out _ (hE.below (HX.out _ hb0).2.2)).mono ?_
      rintro e w1 ⟨rfl, hb1⟩
      obtain ⟨⟨c0, c1, c2, c3⟩, ⟨e0, e1, e2, e3⟩, _⟩ := HX.out w1 hb1
      go_wp2_with fail
      refine (HG2.out _ (hE.below (HX.out _ hb1).2.2)).mono ?_
      rintro e w2 ⟨rfl, hb2⟩
      have hbw := (HX.out w2 (HTR.out _ _ hb1 hb2)).2.2
      clear hb1 hb2 c0 c1 c2 c3 e0 e1 e2 e3
      go_wp2_with fail
      go_ret2
      exact ⟨ret_two (val_int HXX.out.symm) (val_bool HO.out.symm), hbw⟩
    | true =>
      have ho : cmpO n1.data.toList t1 l1 d1.data.toList n2.data.toList t2 l2 d2.data.toList = true := by unfold cmpO; rw [hB1, hB2]; rfl
      have HO : Hid (cmpO n1.data.toList t1 l1 d1.data.toList n2.data.toList t2 l2 d2.data.toList = true) := ho
      have HXX : Hid (cmpX n1.data.toList t1 l1 d1.data.toList n2.data.toList t2 l2 d2.data.toList = cmpRec n1.data.toList t1 l1 d1.data.toList n2.data.toList t2 l2 d2.data.toList) := if_pos ho
      have hg1 := recB_name hB1
      have hg2 := recB_name hB2
      have HC : Hid (∀ W, EnvR W → Calls Tryz.prog 51 #[RecV n1 t1 l1 d1, RecV n2 t2 l2 d2] W fun e w' => e = .returned (.int .i64 (cmpRec n1.data.toList t1 l1 d1.data.toList n2.data.toList t2 l2 d2.data.toList)) ∧ Below W.heap.size W w') := fun W hW => by
        have h := orderOfRecords_any n1 d1 t1 l1 n2 d2 t2 l2 W h1 h2 hW
        rw [ord_cmp ⟨hg1.1, hg2.1⟩] at h; exact h
      obtain ⟨z, hz⟩ : ∃ z, z = cmpRec n1.data.toList t1 l1 d1.data.toList n2.data.toList t2 l2 d2.data.toList := ⟨_, rfl⟩
      rw [← hz] at HC HXX
      rw [hB1] at HG1
      rw [hB2] at HG2
      clear hB1 hB2 ho hg1 hg2 hz
      unfold RecV at HG1 HG2 HC ⊢
      go_enter Tryz.func18, Tryz.ntmps18
      go_wp2_with fail
      rw [HW0.out]
      refine (HG1.out _ (hE.below (HX.out _ hb0).2.2)).mono ?_
      rintro e w1 ⟨rfl, hb1⟩
      obtain ⟨⟨c0, c1, c2, c3⟩, ⟨e0, e1, e2, e3⟩, _⟩ := HX.out w1 hb1
      go_wp2_with fail
      refine (HG2.out _ (hE.below (HX.out _ hb1).2.2)).mono ?_
      rintro e w2 ⟨rfl, hb2⟩
      have hb12 := HTR.out _ _ hb1 hb2
      clear hb1 hb2 c0 c1 c2 c3 e0 e1 e2 e3
      obtain ⟨⟨c0, c1, c2, c3⟩, ⟨e0, e1, e2, e3⟩, _⟩ := HX.out w2 hb12
      go_wp2_with fail
      refine (HC.out _ (hE.below (HX.out _ hb12).2.2)).mono ?_
      rintro e w3 ⟨rfl, hb3⟩
      have hbw := (HX.out w3 (HTR.out _ _ hb12 hb3)).2.2
      clear hb12 hb3 c0 c1 c2 c3 e0 e1 e2 e3
      go_wp2_with fail
      go_ret2
      exact ⟨ret_two (val_int HXX.out.symm) (val_bool HO.out.symm), hbw⟩

end Go.Proofs.YtpghpeombednkaaGreatDoor
