import Derived.Test.YtpghpeombednkaaGreatDoorROrd
import Derived.Deep.RegionHeld3
namespace Go.Proofs.YtpghpeombednkaaGreatDoor
open Go.RowKit

set_option maxRecDepth 20000 in
set_option maxHeartbeats 4000000 in
theorem orderOfRecords_any (n1 d1 : ByteArray) (t1 l1 : Int) (n2 d2 : ByteArray) (t2 l2 : Int) (w : World) (h1 : d1.size ≤ 1048576) (h2 : d2.size ≤ 1048576) (hE : EnvR w) :
    Calls Tryz.prog 51 #[RecV n1 t1 l1 d1, RecV n2 t2 l2 d2] w fun e w' => e = .returned (.int .i64 (ordR n1.data.toList t1 l1 d1.data.toList n2.data.toList t2 l2 d2.data.toList)) ∧ Below w.heap.size w w' := by
  unfold RecV
  have HN : Hid (∀ W, EnvR W → Calls Tryz.prog 94 #[.string n1, .string n2] W fun e w' => e = .returned (.int .i64 (cmpT n1.data.toList n2.data.toList)) ∧ Below W.heap.size W w') := fun W hW => orderOfNames_any n1 n2 W hW.1
  have HD : Hid (∀ W, EnvR W → Calls Tryz.prog 96 #[.int .i64 t1, .string d1, .string d2] W fun e w' => e = .returned (.int .i64 (Lib.compareBytes ((dataP t1 d1.data.toList).getD []) ((dataP t1 d2.data.toList).getD []))) ∧ Below W.heap.size W w') := fun W hW => orderOfData_any t1 d1 d2 W h1 h2 hW
  have HCT : Hid (∀ W, Calls Tryz.prog 95 #[.int .i64 t1, .int .i64 t2] W fun e w' => e = .returned (.int .i64 (Lib.compareInt t1 t2)) ∧ w' = W) := fun W => Tryz.cmp_Compare_int t1 t2 W
  have HCL : Hid (∀ W, Calls Tryz.prog 95 #[.int .i64 l1, .int .i64 l2] W fun e w' => e = .returned (.int .i64 (Lib.compareInt l1 l2)) ∧ w' = W) := fun W => Tryz.cmp_Compare_int l1 l2 W
  have HRR : Hid (ordR n1.data.toList t1 l1 d1.data.toList n2.data.toList t2 l2 d2.data.toList = if orI (cmpT n1.data.toList n2.data.toList) (Lib.compareInt t1 t2) ≠ 0 then orI (cmpT n1.data.toList n2.data.toList) (Lib.compareInt t1 t2) else orI (Lib.compareBytes ((dataP t1 d1.data.toList).getD []) ((dataP t1 d2.data.toList).getD [])) (Lib.compareInt l1 l2)) := rfl
  obtain ⟨a, ha⟩ : ∃ a, a = cmpT n1.data.toList n2.data.toList := ⟨_, rfl⟩
  obtain ⟨b, hb⟩ : ∃ b, b = Lib.compareInt t1 t2 := ⟨_, rfl⟩
  obtain ⟨c, hc⟩ : ∃ c, c = Lib.compareBytes ((dataP t1 d1.data.toList).getD []) ((dataP t1 d2.data.toList).getD []) := ⟨_, rfl⟩
  obtain ⟨d, hd⟩ : ∃ d, d = Lib.compareInt l1 l2 := ⟨_, rfl⟩
  rw [← ha, ← hb, ← hc, ← hd] at HRR
  rw [← ha] at HN
  rw [← hb] at HCT
  rw [← hc] at HD
  rw [← hd] at HCL
  obtain ⟨W0, hW0⟩ : ∃ W0, W0 = box8 w n1 d1 t1 l1 n2 d2 t2 l2 := ⟨_, rfl⟩
  have HX : Hid (∀ W, Below W0.heap.size W0 W → In8 w W n1 d1 t1 l1 n2 d2 t2 l2) := fun W h => by rw [hW0] at h; exact in8 h
  have HW0 : Hid ((w.alloc (.cells #[.string n1, .int .i64 t1, .int .i64 l1, .string d1] 35)).alloc (.cells #[.string n2, .int .i64 t2, .int .i64 l2, .string d2] 35) = W0) := hW0.symm
  have HTR : Hid (∀ W W', Below W0.heap.size W0 W → Below W.heap.size W W' → Below W0.heap.size W0 W') := fun W W' h1 h2 => h1.trans (h2.mono h1.size)
  have HOR : ∀ (x y : Int) (W : World), Calls Tryz.prog 93 #[.slice (some ⟨W.heap.size, 0, none⟩) 2 2] (W.alloc (.cells #[.int .i64 x, .int .i64 y] 3)) fun e w' => e = .returned (.int .i64 (orI x y)) ∧ w' = W.alloc (.cells #[.int .i64 x, .int .i64 y] 3) := fun x y W => or_two x y _ W.heap.size (by simp) (by simp)
  have HOA0 := HOR a b
  have HOB0 := HOR c d
  obtain ⟨o, ho⟩ : ∃ o, o = orI a b := ⟨_, rfl⟩
  obtain ⟨p, hp⟩ : ∃ p, p = orI c d := ⟨_, rfl⟩
  rw [← ho, ← hp] at HRR
  rw [← ho] at HOA0
  rw [← hp] at HOB0
  have HOA : Hid (∀ W : World, Calls Tryz.prog 93 #[.slice (some ⟨W.heap.size, 0, none⟩) 2 2] (W.alloc (.cells #[.int .i64 a, .int .i64 b] 3)) fun e w' => e = .returned (.int .i64 o) ∧ w' = W.alloc (.cells #[.int .i64 a, .int .i64 b] 3)) := HOA0
  have HOB : Hid (∀ W : World, Calls Tryz.prog 93 #[.slice (some ⟨W.heap.size, 0, none⟩) 2 2] (W.alloc (.cells #[.int .i64 c, .int .i64 d] 3)) fun e w' => e = .returned (.int .i64 p) ∧ w' = W.alloc (.cells #[.int .i64 c, .int .i64 d] 3)) := HOB0
  have HS2 : Hid (∀ W, Below W0.heap.size W0 W → Below W0.heap.size W0 W ∧ W.cell? ⟨w.heap.size, 1, none⟩ = some (.int .i64 t1) ∧ W.cell? ⟨w.heap.size, 3, none⟩ = some (.string d1) ∧ W.cell? ⟨w.heap.size + 1, 3, none⟩ = some (.string d2) ∧ W.cell? ⟨w.heap.size, 2, none⟩ = some (.int .i64 l1) ∧ W.cell? ⟨w.heap.size + 1, 2, none⟩ = some (.int .i64 l2)) := fun W h => by
    have c8 := HX.out W h
    unfold In8 at c8
    exact ⟨h, c8.1.2.1, c8.1.2.2.2, c8.2.1.2.2.2, c8.1.2.2.1, c8.2.1.2.2.1⟩
  have HBA : Hid (∀ W (x y : Int), Below W0.heap.size W0 W → Below W0.heap.size W0 (W.alloc (.cells #[.int .i64 x, .int .i64 y] 3))) := fun W x y h => h.alloc h.size _
  have HBW : Hid (∀ W, Below W0.heap.size W0 W → Below w.heap.size w W) := fun W h => by
    have c8 := HX.out W h
    unfold In8 at c8
    exact c8.2.2
  have HS : Hid (∀ W, Below W0.heap.size W0 W → Below W0.heap.size W0 W ∧ W.cell? ⟨w.heap.size, 0, none⟩ = some (.string n1) ∧ W.cell? ⟨w.heap.size, 1, none⟩ = some (.int .i64 t1) ∧ W.cell? ⟨w.heap.size + 1, 0, none⟩ = some (.string n2) ∧ W.cell? ⟨w.heap.size + 1, 1, none⟩ = some (.int .i64 t2)) := fun W h => by
    have c8 := HX.out W h
    unfold In8 at c8
    exact ⟨h, c8.1.1, c8.1.2.1, c8.2.1.1, c8.2.1.2.1⟩
  have hbz : Below W0.heap.size W0 W0 := Below.refl _ _
  have hb0 : Below W0.heap.size W0 W0.drew := (Below.refl _ _).drew
  clear HOR HOA0 HOB0 ho hp
  clear ha hb hc hd hW0
  by_cases hz : o = 0
  · have HR : Hid (ordR n1.data.toList t1 l1 d1.data.toList n2.data.toList t2 l2 d2.data.toList = p) := by rw [HRR.out]; exact if_neg (by rw [hz]; simp)
    have eo : (o != 0) = false := by simpa using hz
    have eo2 : (o == 0) = true := by simpa using hz
    clear hz HRR
    go_enter Tryz.func51, Tryz.ntmps51
    go_wp2_with fail
    rw [HW0.out]
    go_region_held3 (fun W => Below W0.heap.size W0 W ∧ W.cell? ⟨w.heap.size, 0, none⟩ = some (.string n1) ∧ W.cell? ⟨w.heap.size, 1, none⟩ = some (.int .i64 t1) ∧ W.cell? ⟨w.heap.size + 1, 0, none⟩ = some (.string n2) ∧ W.cell? ⟨w.heap.size + 1, 1, none⟩ = some (.int .i64 t2)) (first | exact HS.out _ (by assumption) | exact HS.out _ (Below.drew (by assumption)) | exact HS.out _ (Below.alloc (by assumption) (Below.size (by assumption)) _))
      (first
      | (go_at_call 94; refine (HN.out _ (hE.below (HX.out _ (by assumption)).2.2)).mono ?_; rintro e w5 ⟨rfl, hb5⟩; have hb6 := HTR.out _ _ (by assumption) hb5)
      | (go_at_call 95; refine (HCT.out _).mono ?_; rintro e w6 ⟨rfl, rfl⟩)
      | (go_at_call 93; refine (HOA.out _).mono ?_; rintro e w7 ⟨rfl, rfl⟩))
    all_goals
      have hbA := HBA.out _ a b hb6
      obtain ⟨W1, hW1, hbW1⟩ : ∃ W1, W1 = _ ∧ Below W0.heap.size W0 W1 := ⟨_, rfl, hbA⟩
      rw [← hW1]
      clear hW1 hbA hb6 hb5
      have hbd1 := hbW1.drew
      go_wp2_with fail
      go_region_held3 (fun W => Below W0.heap.size W0 W ∧ W.cell? ⟨w.heap.size, 1, none⟩ = some (.int .i64 t1) ∧ W.cell? ⟨w.heap.size, 3, none⟩ = some (.string d1) ∧ W.cell? ⟨w.heap.size + 1, 3, none⟩ = some (.string d2) ∧ W.cell? ⟨w.heap.size, 2, none⟩ = some (.int .i64 l1) ∧ W.cell? ⟨w.heap.size + 1, 2, none⟩ = some (.int .i64 l2)) (first | exact HS2.out _ (by assumption) | exact HS2.out _ (Below.drew (by assumption)) | exact HS2.out _ (Below.alloc (by assumption) (Below.size (by assumption)) _))
        (first
        | (go_at_call 96; refine (HD.out _ (hE.below (HX.out _ (by assumption)).2.2)).mono ?_; rintro e w8 ⟨rfl, hb8⟩; have hb9 := HTR.out _ _ (by assumption) hb8)
        | (go_at_call 95; refine (HCL.out _).mono ?_; rintro e w9 ⟨rfl, rfl⟩)
        | (go_at_call 93; refine (HOB.out _).mono ?_; rintro e w10 ⟨rfl, rfl⟩))
      all_goals
        have hbB := HBA.out _ c d hb9
        go_wp2_with fail
        go_ret
        exact ⟨ret_int HR.out.symm, HBW.out _ hbB⟩
  · have HR : Hid (ordR n1.data.toList t1 l1 d1.data.toList n2.data.toList t2 l2 d2.data.toList = o) := by rw [HRR.out]; exact if_pos hz
    have eo : (o != 0) = true := by simpa using hz
    have eo2 : (o == 0) = false := by simpa using hz
    clear hz HRR
    go_enter Tryz.func51, Tryz.ntmps51
    go_wp2_with fail
    rw [HW0.out]
    go_region_held3 (fun W => Below W0.heap.size W0 W ∧ W.cell? ⟨w.heap.size, 0, none⟩ = some (.string n1) ∧ W.cell? ⟨w.heap.size, 1, none⟩ = some (.int .i64 t1) ∧ W.cell? ⟨w.heap.size + 1, 0, none⟩ = some (.string n2) ∧ W.cell? ⟨w.heap.size + 1, 1, none⟩ = some (.int .i64 t2)) (first | exact HS.out _ (by assumption) | exact HS.out _ (Below.drew (by assumption)) | exact HS.out _ (Below.alloc (by assumption) (Below.size (by assumption)) _))
      (first
      | (go_at_call 94; refine (HN.out _ (hE.below (HX.out _ (by assumption)).2.2)).mono ?_; rintro e w5 ⟨rfl, hb5⟩; have hb6 := HTR.out _ _ (by assumption) hb5)
      | (go_at_call 95; refine (HCT.out _).mono ?_; rintro e w6 ⟨rfl, rfl⟩)
      | (go_at_call 93; refine (HOA.out _).mono ?_; rintro e w7 ⟨rfl, rfl⟩))
    all_goals
      have hbA := HBA.out _ a b hb6
      go_wp2_with fail
      go_ret
      exact ⟨ret_int HR.out.symm, HBW.out _ hbA⟩
end Go.Proofs.YtpghpeombednkaaGreatDoor
