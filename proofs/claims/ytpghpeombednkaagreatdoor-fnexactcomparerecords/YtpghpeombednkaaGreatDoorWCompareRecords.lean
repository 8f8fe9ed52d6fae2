import Derived.Test.YtpghpeombednkaaGreatDoorRCmp
import Derived.Test.YtpghpeombednkaaGreatDoorSText
namespace Go.Proofs.YtpghpeombednkaaGreatDoor.compareRecords
open Go.RowKit

/-- Two boxed records of the law's. -/
def boxL (w : World) (n1 d1 : ByteArray) (t1 l1 : Int) (n2 d2 : ByteArray) (t2 l2 : Int) : World :=
  (w.alloc (.cells #[.string n1, .int .i64 t1, .int .i64 l1, .string d1] 39)).alloc (.cells #[.string n2, .int .i64 t2, .int .i64 l2, .string d2] 39)
theorem inL {w W : World} {n1 d1 : ByteArray} {t1 l1 : Int} {n2 d2 : ByteArray} {t2 l2 : Int} (h : Below (boxL w n1 d1 t1 l1 n2 d2 t2 l2).heap.size (boxL w n1 d1 t1 l1 n2 d2 t2 l2) W) : In8 w W n1 d1 t1 l1 n2 d2 t2 l2 := by
  unfold boxL at h
  have h2 := box4 h
  have hs : (w.alloc (.cells #[.string n1, .int .i64 t1, .int .i64 l1, .string d1] 39)).heap.size = w.heap.size + 1 := by simp
  have h1 := box4 (w := w) h2.2.2.2.2
  rw [hs] at h2
  exact ⟨⟨h1.1, h1.2.1, h1.2.2.1, h1.2.2.2.1⟩, ⟨h2.1, h2.2.1, h2.2.2.1, h2.2.2.2.1⟩, h1.2.2.2.2⟩
theorem sz_left {a b : Nat} {left : Int} : (szR (a : Int) (b : Int) left = -1) ∨ (szR (a : Int) (b : Int) left = left - (a : Int) - (b : Int) ∧ (a : Int) + (b : Int) ≤ left) := by
  unfold szR
  split
  · exact .inl rfl
  · split
    · exact .inl rfl
    · exact .inr ⟨rfl, by omega⟩

set_option maxRecDepth 20000 in
set_option maxHeartbeats 1000000 in
theorem walk (n1 d1 : ByteArray) (t1 l1 : Int) (n2 d2 : ByteArray) (t2 l2 : Int) (w : World) (hn1 : n1.size ≤ maxLen) (hd1 : d1.size ≤ maxLen) (hn2 : n2.size ≤ maxLen) (hd2 : d2.size ≤ maxLen) (hE : EnvR w) :
    Calls Tryz.prog 5 #[RecV n1 t1 l1 d1, RecV n2 t2 l2 d2] w fun e w' => e = .returned (.bool true) ∧ Below w.heap.size w w' := by
  have HT1 : Hid (∀ W, Calls Tryz.prog 17 #[RecV n1 t1 l1 d1] W fun e w' => e = .returned (RecV n1 t1 l1 d1) ∧ Below W.heap.size W w') := fun W => toRecord_any n1 d1 t1 l1 W
  have HT2 : Hid (∀ W, Calls Tryz.prog 17 #[RecV n2 t2 l2 d2] W fun e w' => e = .returned (RecV n2 t2 l2 d2) ∧ Below W.heap.size W w') := fun W => toRecord_any n2 d2 t2 l2 W
  have HZ1 : Hid (∀ W, Calls Tryz.prog 15 #[RecV n1 t1 l1 d1, .int .i64 1048576] W fun e w' => e = .returned (.int .i64 (szR (n1.size : Int) (d1.size : Int) 1048576)) ∧ Below W.heap.size W w') := fun W => szRecord_any n1 d1 t1 l1 1048576 W hn1 hd1 (by omega) (by omega)
  obtain ⟨W0, hW0⟩ : ∃ W0, W0 = boxL w n1 d1 t1 l1 n2 d2 t2 l2 := ⟨_, rfl⟩
  have HX : Hid (∀ W, Below W0.heap.size W0 W → In8 w W n1 d1 t1 l1 n2 d2 t2 l2) := fun W h => by rw [hW0] at h; exact inL h
  unfold In8 at HX
  have HW0 : Hid ((w.alloc (.cells #[.string n1, .int .i64 t1, .int .i64 l1, .string d1] 39)).alloc (.cells #[.string n2, .int .i64 t2, .int .i64 l2, .string d2] 39) = W0) := hW0.symm
  have HTR : Hid (∀ W W', Below W0.heap.size W0 W → Below W.heap.size W W' → Below W0.heap.size W0 W') := fun W W' h1 h2 => h1.trans (h2.mono h1.size)
  clear hW0
  rcases sz_left (a := n1.size) (b := d1.size) (left := 1048576) with hz | ⟨hz, hle⟩
  · rw [hz] at HZ1
    clear hz
    unfold RecV at HZ1 ⊢
    go_enter Tryz.func5, Tryz.ntmps5
    go_wp2_with fail
    rw [HW0.out]
    refine (HZ1.out _).mono ?_
    rintro e w1 ⟨rfl, hb1⟩
    have hbw := (HX.out w1 hb1).2.2
    clear hb1
    go_wp2_with fail
    go_ret
    exact ⟨rfl, hbw⟩
  · obtain ⟨q, hq⟩ : ∃ q : Int, q = 1048576 - (n1.size : Int) - (d1.size : Int) := ⟨_, rfl⟩
    have hq0 : 0 ≤ q := by omega
    have hq1 : q ≤ 1048576 := by omega
    rw [hz, ← hq] at HZ1
    have HZ2 : Hid (∀ W, Calls Tryz.prog 15 #[RecV n2 t2 l2 d2, .int .i64 q] W fun e w' => e = .returned (.int .i64 (szR (n2.size : Int) (d2.size : Int) q)) ∧ Below W.heap.size W w') := fun W => szRecord_any n2 d2 t2 l2 q W hn2 hd2 hq0 hq1
    rcases sz_left (a := n2.size) (b := d2.size) (left := q) with hz2 | ⟨hz2, hle2⟩
    · rw [hz2] at HZ2
      clear hz hz2 hq
      unfold RecV at HZ1 HZ2 ⊢
      go_enter Tryz.func5, Tryz.ntmps5
      go_wp2_with fail
      rw [HW0.out]
      refine (HZ1.out _).mono ?_
      rintro e w1 ⟨rfl, hb1⟩
      obtain ⟨⟨c0, c1, c2, c3⟩, ⟨e0, e1, e2, e3⟩, _⟩ := HX.out w1 hb1
      go_wp2_with fail
      refine (HZ2.out _).mono ?_
      rintro e w2 ⟨rfl, hb2⟩
      have hbw := (HX.out w2 (HTR.out _ _ hb1 hb2)).2.2
      clear hb1 hb2 c0 c1 c2 c3 e0 e1 e2 e3
      go_wp2_with fail
      go_ret
      exact ⟨rfl, hbw⟩
    · obtain ⟨r, hr⟩ : ∃ r : Int, r = q - (n2.size : Int) - (d2.size : Int) := ⟨_, rfl⟩
      have hr0 : 0 ≤ r := by omega
      rw [hz2, ← hr] at HZ2
      have HS : Hid (∀ W, Calls Tryz.prog 16 #[RecV n1 t1 l1 d1, RecV n2 t2 l2 d2] W fun e w' => e = .returned (.tuple #[.int .i64 (cmpX n1.data.toList t1 l1 d1.data.toList n2.data.toList t2 l2 d2.data.toList), .bool (cmpO n1.data.toList t1 l1 d1.data.toList n2.data.toList t2 l2 d2.data.toList)]) ∧ Below W.heap.size W w') := fun W => sCompareRecords_any n1 d1 t1 l1 n2 d2 t2 l2 W (by omega) (by omega) (by omega) (by omega)
      have HI : Hid (∀ W, EnvR W → Calls Tryz.prog 18 #[RecV n1 t1 l1 d1, RecV n2 t2 l2 d2] W fun e w' => e = .returned (.tuple #[.int .i64 (cmpX n1.data.toList t1 l1 d1.data.toList n2.data.toList t2 l2 d2.data.toList), .bool (cmpO n1.data.toList t1 l1 d1.data.toList n2.data.toList t2 l2 d2.data.toList)]) ∧ Below W.heap.size W w') := fun W hW => iCompareRecords_any n1 d1 t1 l1 n2 d2 t2 l2 W (by omega) (by omega) hW
      obtain ⟨x, hx⟩ : ∃ x, x = cmpX n1.data.toList t1 l1 d1.data.toList n2.data.toList t2 l2 d2.data.toList := ⟨_, rfl⟩
      obtain ⟨b, hbb⟩ : ∃ b, b = cmpO n1.data.toList t1 l1 d1.data.toList n2.data.toList t2 l2 d2.data.toList := ⟨_, rfl⟩
      rw [← hx, ← hbb] at HS HI
      have ex : (x != x) = false := by simp
      have eb : (b != b) = false := by simp
      clear hz hz2 hq hr hx hbb hle hle2
      unfold RecV at HZ1 HZ2 HT1 HT2 HS HI ⊢
      go_enter Tryz.func5, Tryz.ntmps5
      go_wp2_with fail
      rw [HW0.out]
      refine (HZ1.out _).mono ?_
      rintro e w1 ⟨rfl, hb1⟩
      obtain ⟨⟨c0, c1, c2, c3⟩, ⟨e0, e1, e2, e3⟩, hbw⟩ := HX.out w1 hb1
      go_wp2_with fail
      refine (HZ2.out _).mono ?_
      rintro e w2 ⟨rfl, hx2⟩
      have hb2 := HTR.out _ _ hb1 hx2
      clear c0 c1 c2 c3 e0 e1 e2 e3 hbw hb1 hx2
      have hbd := hb2.drew
      clear hb2
      go_wp2_with fail
      refine wp_region_quiet (C := fun W => Below W0.heap.size W0 W) (by kernel_rfl) (by kernel_rfl) hbd ?_
      refine wpQuiet_step (fun K hK => ?_)
      rw [if_pos (by rfl)]
      refine ⟨.agg #[.string n1, .int .i64 t1, .int .i64 l1, .string d1], fun W hW => quiet_ok ?_, hK _ ?_⟩
      · have f := HX.out W hW
        obtain ⟨⟨c0, c1, c2, c3⟩, ⟨e0, e1, e2, e3⟩, _⟩ := f
        go_simp
        all_goals (try omega)
      clear hK K
      simp only [Act.put, List.setIfInBounds_toArray, List.set_cons_succ, List.set_cons_zero]
      refine wpQuiet_step (fun K hK => ?_)
      rw [if_pos (by rfl)]
      refine ⟨.agg #[.string n1, .int .i64 t1, .int .i64 l1, .string d1], fun W hW => quiet_call (f := 17) (args := #[.agg #[.string n1, .int .i64 t1, .int .i64 l1, .string d1]]) ?_ ?_, hK _ ?_⟩
      · go_simp
      · exact (HT1.out W).mono fun e w'' h => ⟨h.1, HTR.out _ _ hW h.2⟩
      clear hK K
      simp only [Act.put, List.setIfInBounds_toArray, List.set_cons_succ, List.set_cons_zero]
      refine wpQuiet_step (fun K hK => ?_)
      rw [if_pos (by rfl)]
      refine ⟨.agg #[.string n2, .int .i64 t2, .int .i64 l2, .string d2], fun W hW => quiet_ok ?_, hK _ ?_⟩
      · have f := HX.out W hW
        obtain ⟨⟨c0, c1, c2, c3⟩, ⟨e0, e1, e2, e3⟩, _⟩ := f
        go_simp
        all_goals (try omega)
      clear hK K
      simp only [Act.put, List.setIfInBounds_toArray, List.set_cons_succ, List.set_cons_zero]
      refine wpQuiet_step (fun K hK => ?_)
      rw [if_pos (by rfl)]
      refine ⟨.agg #[.string n2, .int .i64 t2, .int .i64 l2, .string d2], fun W hW => quiet_call (f := 17) (args := #[.agg #[.string n2, .int .i64 t2, .int .i64 l2, .string d2]]) ?_ ?_, hK _ ?_⟩
      · go_simp
      · exact (HT2.out W).mono fun e w'' h => ⟨h.1, HTR.out _ _ hW h.2⟩
      clear hK K
      simp only [Act.put, List.setIfInBounds_toArray, List.set_cons_succ, List.set_cons_zero]
      refine wpQuiet_step (fun K hK => ?_)
      rw [if_pos (by rfl)]
      refine ⟨.tuple #[.int .i64 x, .bool b], fun W hW => quiet_call (f := 16) (args := #[.agg #[.string n1, .int .i64 t1, .int .i64 l1, .string d1], .agg #[.string n2, .int .i64 t2, .int .i64 l2, .string d2]]) ?_ ?_, hK _ ?_⟩
      · go_simp
      · exact (HS.out W).mono fun e w'' h => ⟨h.1, HTR.out _ _ hW h.2⟩
      clear hK K
      simp only [Act.put, List.setIfInBounds_toArray, List.set_cons_succ, List.set_cons_zero]
      refine wpQuiet_step (fun K hK => ?_)
      rw [if_pos (by rfl)]
      refine ⟨.tuple #[.int .i64 x, .bool b], fun W hW => quiet_ok ?_, hK _ ?_⟩
      · have f := HX.out W hW
        obtain ⟨⟨c0, c1, c2, c3⟩, ⟨e0, e1, e2, e3⟩, _⟩ := f
        go_simp
        all_goals (try omega)
      clear hK K
      simp only [Act.put, List.setIfInBounds_toArray, List.set_cons_succ, List.set_cons_zero]
      refine wpQuiet_step (fun K hK => ?_)
      rw [if_pos (by rfl)]
      refine ⟨.int .i64 x, fun W hW => quiet_ok ?_, hK _ ?_⟩
      · have f := HX.out W hW
        obtain ⟨⟨c0, c1, c2, c3⟩, ⟨e0, e1, e2, e3⟩, _⟩ := f
        go_simp
        all_goals (try omega)
      clear hK K
      simp only [Act.put, List.setIfInBounds_toArray, List.set_cons_succ, List.set_cons_zero]
      refine wpQuiet_step (fun K hK => ?_)
      rw [if_pos (by rfl)]
      refine ⟨.bool b, fun W hW => quiet_ok ?_, hK _ ?_⟩
      · have f := HX.out W hW
        obtain ⟨⟨c0, c1, c2, c3⟩, ⟨e0, e1, e2, e3⟩, _⟩ := f
        go_simp
        all_goals (try omega)
      clear hK K
      simp only [Act.put, List.setIfInBounds_toArray, List.set_cons_succ, List.set_cons_zero]
      refine wpQuiet_step (fun K hK => ?_)
      rw [if_pos (by rfl)]
      refine ⟨.int .i64 x, fun W hW => quiet_ok ?_, hK _ ?_⟩
      · have f := HX.out W hW
        obtain ⟨⟨c0, c1, c2, c3⟩, ⟨e0, e1, e2, e3⟩, _⟩ := f
        go_simp
        all_goals (try omega)
      clear hK K
      simp only [Act.put, List.setIfInBounds_toArray, List.set_cons_succ, List.set_cons_zero]
      refine wpQuiet_step (fun K hK => ?_)
      rw [if_pos (by rfl)]
      refine ⟨.bool b, fun W hW => quiet_ok ?_, hK _ ?_⟩
      · have f := HX.out W hW
        obtain ⟨⟨c0, c1, c2, c3⟩, ⟨e0, e1, e2, e3⟩, _⟩ := f
        go_simp
        all_goals (try omega)
      clear hK K
      simp only [Act.put, List.setIfInBounds_toArray, List.set_cons_succ, List.set_cons_zero]
      refine wpQuiet_nil ?_
      intro w3 hb3
      have hbd := hb3.drew
      clear hb3
      go_wp2_with fail
      refine wp_region_quiet (C := fun W => Below W0.heap.size W0 W) (by kernel_rfl) (by kernel_rfl) hbd ?_
      refine wpQuiet_step (fun K hK => ?_)
      rw [if_pos (by rfl)]
      refine ⟨.agg #[.string n1, .int .i64 t1, .int .i64 l1, .string d1], fun W hW => quiet_ok ?_, hK _ ?_⟩
      · have f := HX.out W hW
        obtain ⟨⟨c0, c1, c2, c3⟩, ⟨e0, e1, e2, e3⟩, _⟩ := f
        go_simp
        all_goals (try omega)
      clear hK K
      simp only [Act.put, List.setIfInBounds_toArray, List.set_cons_succ, List.set_cons_zero]
      refine wpQuiet_step (fun K hK => ?_)
      rw [if_pos (by rfl)]
      refine ⟨.agg #[.string n1, .int .i64 t1, .int .i64 l1, .string d1], fun W hW => quiet_call (f := 17) (args := #[.agg #[.string n1, .int .i64 t1, .int .i64 l1, .string d1]]) ?_ ?_, hK _ ?_⟩
      · go_simp
      · exact (HT1.out W).mono fun e w'' h => ⟨h.1, HTR.out _ _ hW h.2⟩
      clear hK K
      simp only [Act.put, List.setIfInBounds_toArray, List.set_cons_succ, List.set_cons_zero]
      refine wpQuiet_step (fun K hK => ?_)
      rw [if_pos (by rfl)]
      refine ⟨.agg #[.string n2, .int .i64 t2, .int .i64 l2, .string d2], fun W hW => quiet_ok ?_, hK _ ?_⟩
      · have f := HX.out W hW
        obtain ⟨⟨c0, c1, c2, c3⟩, ⟨e0, e1, e2, e3⟩, _⟩ := f
        go_simp
        all_goals (try omega)
      clear hK K
      simp only [Act.put, List.setIfInBounds_toArray, List.set_cons_succ, List.set_cons_zero]
      refine wpQuiet_step (fun K hK => ?_)
      rw [if_pos (by rfl)]
      refine ⟨.agg #[.string n2, .int .i64 t2, .int .i64 l2, .string d2], fun W hW => quiet_call (f := 17) (args := #[.agg #[.string n2, .int .i64 t2, .int .i64 l2, .string d2]]) ?_ ?_, hK _ ?_⟩
      · go_simp
      · exact (HT2.out W).mono fun e w'' h => ⟨h.1, HTR.out _ _ hW h.2⟩
      clear hK K
      simp only [Act.put, List.setIfInBounds_toArray, List.set_cons_succ, List.set_cons_zero]
      refine wpQuiet_step (fun K hK => ?_)
      rw [if_pos (by rfl)]
      refine ⟨.tuple #[.int .i64 x, .bool b], fun W hW => quiet_call (f := 18) (args := #[.agg #[.string n1, .int .i64 t1, .int .i64 l1, .string d1], .agg #[.string n2, .int .i64 t2, .int .i64 l2, .string d2]]) ?_ ?_, hK _ ?_⟩
      · go_simp
      · exact (HI.out W (hE.below (HX.out W hW).2.2)).mono fun e w'' h => ⟨h.1, HTR.out _ _ hW h.2⟩
      clear hK K
      simp only [Act.put, List.setIfInBounds_toArray, List.set_cons_succ, List.set_cons_zero]
      refine wpQuiet_step (fun K hK => ?_)
      rw [if_pos (by rfl)]
      refine ⟨.tuple #[.int .i64 x, .bool b], fun W hW => quiet_ok ?_, hK _ ?_⟩
      · have f := HX.out W hW
        obtain ⟨⟨c0, c1, c2, c3⟩, ⟨e0, e1, e2, e3⟩, _⟩ := f
        go_simp
        all_goals (try omega)
      clear hK K
      simp only [Act.put, List.setIfInBounds_toArray, List.set_cons_succ, List.set_cons_zero]
      refine wpQuiet_step (fun K hK => ?_)
      rw [if_pos (by rfl)]
      refine ⟨.int .i64 x, fun W hW => quiet_ok ?_, hK _ ?_⟩
      · have f := HX.out W hW
        obtain ⟨⟨c0, c1, c2, c3⟩, ⟨e0, e1, e2, e3⟩, _⟩ := f
        go_simp
        all_goals (try omega)
      clear hK K
      simp only [Act.put, List.setIfInBounds_toArray, List.set_cons_succ, List.set_cons_zero]
      refine wpQuiet_step (fun K hK => ?_)
      rw [if_pos (by rfl)]
      refine ⟨.bool b, fun W hW => quiet_ok ?_, hK _ ?_⟩
      · have f := HX.out W hW
        obtain ⟨⟨c0, c1, c2, c3⟩, ⟨e0, e1, e2, e3⟩, _⟩ := f
        go_simp
        all_goals (try omega)
      clear hK K
      simp only [Act.put, List.setIfInBounds_toArray, List.set_cons_succ, List.set_cons_zero]
      refine wpQuiet_step (fun K hK => ?_)
      rw [if_pos (by rfl)]
      refine ⟨.int .i64 x, fun W hW => quiet_ok ?_, hK _ ?_⟩
      · have f := HX.out W hW
        obtain ⟨⟨c0, c1, c2, c3⟩, ⟨e0, e1, e2, e3⟩, _⟩ := f
        go_simp
        all_goals (try omega)
      clear hK K
      simp only [Act.put, List.setIfInBounds_toArray, List.set_cons_succ, List.set_cons_zero]
      refine wpQuiet_step (fun K hK => ?_)
      rw [if_pos (by rfl)]
      refine ⟨.bool b, fun W hW => quiet_ok ?_, hK _ ?_⟩
      · have f := HX.out W hW
        obtain ⟨⟨c0, c1, c2, c3⟩, ⟨e0, e1, e2, e3⟩, _⟩ := f
        go_simp
        all_goals (try omega)
      clear hK K
      simp only [Act.put, List.setIfInBounds_toArray, List.set_cons_succ, List.set_cons_zero]
      refine wpQuiet_nil ?_
      intro w4 hb4
      have hbw := (HX.out w4 hb4).2.2
      clear hb4
      go_wp2_with fail
      go_ret
      exact ⟨rfl, hbw⟩
end Go.Proofs.YtpghpeombednkaaGreatDoor.compareRecords
