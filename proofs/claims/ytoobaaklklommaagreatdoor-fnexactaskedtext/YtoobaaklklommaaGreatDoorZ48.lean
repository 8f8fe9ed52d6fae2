import Derived.Test.YtoobaaklklommaaGreatDoorZ11
import Derived.Test.YtoobaaklklommaaGreatDoorZ10
namespace Go.Proofs.YtoobaaklklommaaGreatDoor
open Go.RowKit

/-- What a name is told by in a line. -/
def tnB (nm : ByteArray) : ByteArray := if nm.data.toList = [] then ⟨#[46]⟩ else nm
theorem tnB_data (nm : ByteArray) : (tnB nm).data.toList = if nm.data.toList = [] then [46] else nm.data.toList := by
  unfold tnB; split <;> rfl
theorem tnB_size {nm : ByteArray} (h : nm.size ≤ 1048576) : (tnB nm).size ≤ 1048577 := by
  unfold tnB; split
  · show 1 ≤ 1048577; omega
  · omega
set_option maxRecDepth 20000 in
set_option maxHeartbeats 400000 in
theorem textOfName_any (nm : ByteArray) (w : World) :
    Calls Tryz.prog 146 #[.string nm] w fun e w' => e = .returned (.string (tnB nm)) ∧ w' = w := by
  by_cases h0 : nm.data.toList = []
  · have HT : Hid (tnB nm = ⟨#[46]⟩) := if_pos h0
    have e1 : (nm.toList == []) = true := by rw [ByteArray.toList_eq]; simpa using h0
    clear h0
    go_enter Tryz.func146, Tryz.ntmps146
    go_wp2_with fail
    go_ret
    exact ⟨by rw [HT.out]; rfl, rfl⟩
  · have HT : Hid (tnB nm = nm) := if_neg h0
    have e1 : (nm.toList == []) = false := by rw [ByteArray.toList_eq]; simpa using h0
    clear h0
    go_enter Tryz.func146, Tryz.ntmps146
    go_wp2_with fail
    go_ret
    exact ⟨by rw [HT.out]; rfl, rfl⟩

set_option maxRecDepth 20000 in
set_option maxHeartbeats 4000000 in
theorem iRecordText_any (nm d : ByteArray) (ty ttl : Int) (w : World) (hn : nm.size ≤ 1048576) (hd : d.size ≤ 1048576) (hE : EnvR w) :
    Calls Tryz.prog 111 #[RecV nm ty ttl d] w fun e w' => e = .returned (.tuple #[.string ⟨(recX nm.data.toList ty ttl d.data.toList).toArray⟩, .bool (recB nm.data.toList ty ttl d.data.toList)]) ∧ Below w.heap.size w w' := by
  have HG : Hid (∀ W, EnvR W → Calls Tryz.prog 145 #[RecV nm ty ttl d] W fun e w' => e = .returned (.bool (recB nm.data.toList ty ttl d.data.toList)) ∧ Below W.heap.size W w') := fun W hW => iGoodRecord_any nm d ty ttl W hd hW
  cases hB : recB nm.data.toList ty ttl d.data.toList with
  | false =>
    have HX : Hid (recX nm.data.toList ty ttl d.data.toList = []) := if_neg (by rw [hB]; simp)
    rw [hB] at HG
    clear hB
    unfold RecV at HG ⊢
    go_enter Tryz.func111, Tryz.ntmps111
    go_wp2_with fail
    refine (HG.out _ (hE.below ((Below.refl _ _).alloc (Nat.le_refl _) _))).mono ?_
    rintro e w1 ⟨rfl, hb1⟩
    have hbw := (box4 hb1).2.2.2.2
    clear hb1
    go_wp2_with fail
    go_ret2
    exact ⟨ret_two (by rw [HX.out]; rfl) rfl, hbw⟩
  | true =>
    have HX : Hid (recX nm.data.toList ty ttl d.data.toList = recT nm.data.toList ty.toNat ttl.toNat d.data.toList) := if_pos hB
    obtain ⟨f1, f2, f3, f4⟩ := recB_facts hB
    rw [hB] at HG
    obtain ⟨a, rfl⟩ : ∃ a : Nat, ty = (a : Int) := ⟨ty.toNat, by omega⟩
    obtain ⟨b, rfl⟩ : ∃ b : Nat, ttl = (b : Int) := ⟨ttl.toNat, by omega⟩
    rw [show ((a : Int)).toNat = a from rfl, show ((b : Int)).toNat = b from rfl] at HX
    have HRT : Hid (recT nm.data.toList a b d.data.toList = (if nm.data.toList = [] then [46] else nm.data.toList) ++ (32 :: (numL b ++ (32 :: (numL a ++ (32 :: d.data.toList)))))) := rfl
    have hla := numL_length 10 a (by omega)
    have hlb := numL_length 10 b (by omega)
    have HNA0 : ∀ W, EnvR W → Calls Tryz.prog 110 #[.int .i64 (a : Int)] W fun e w' => e = .returned (.string ⟨(numL a).toArray⟩) ∧ Below W.heap.size W w' := fun W hW => itoa_nat a W (by omega) hW
    have HNB0 : ∀ W, EnvR W → Calls Tryz.prog 110 #[.int .i64 (b : Int)] W fun e w' => e = .returned (.string ⟨(numL b).toArray⟩) ∧ Below W.heap.size W w' := fun W hW => itoa_nat b W (by omega) hW
    obtain ⟨p, hp⟩ : ∃ p, p = numL a := ⟨_, rfl⟩
    obtain ⟨q, hq⟩ : ∃ q, q = numL b := ⟨_, rfl⟩
    rw [← hp, ← hq] at HRT
    rw [← hp] at HNA0 hla
    rw [← hq] at HNB0 hlb
    have HNA : Hid (∀ W, EnvR W → Calls Tryz.prog 110 #[.int .i64 (a : Int)] W fun e w' => e = .returned (.string ⟨p.toArray⟩) ∧ Below W.heap.size W w') := HNA0
    have HNB : Hid (∀ W, EnvR W → Calls Tryz.prog 110 #[.int .i64 (b : Int)] W fun e w' => e = .returned (.string ⟨q.toArray⟩) ∧ Below W.heap.size W w') := HNB0
    obtain ⟨W0, hW0⟩ : ∃ W0, W0 = w.alloc (.cells #[.string nm, .int .i64 (a : Int), .int .i64 (b : Int), .string d] 108) := ⟨_, rfl⟩
    have hb0 : Below w.heap.size w W0 := by rw [hW0]; exact (Below.refl _ _).alloc (Nat.le_refl _) _
    have HBX : Hid (∀ W, Below W0.heap.size W0 W → W.cell? ⟨w.heap.size, 0, none⟩ = some (.string nm) ∧ W.cell? ⟨w.heap.size, 1, none⟩ = some (.int .i64 (a : Int)) ∧ W.cell? ⟨w.heap.size, 2, none⟩ = some (.int .i64 (b : Int)) ∧ W.cell? ⟨w.heap.size, 3, none⟩ = some (.string d) ∧ Below w.heap.size w W) := fun W h => by rw [hW0] at h; exact box4 h
    have HTR : Hid (∀ W W', Below W0.heap.size W0 W → Below W.heap.size W W' → Below W0.heap.size W0 W') := fun W W' h1 h2 => h1.trans (h2.mono h1.size)
    have HW0 : Hid (w.alloc (.cells #[.string nm, .int .i64 (a : Int), .int .i64 (b : Int), .string d] 108) = W0) := hW0.symm
    have HENV : Hid (∀ W, Below W0.heap.size W0 W → EnvR W) := fun W h => hE.below (HBX.out W h).2.2.2.2
    clear hB hp hq HNA0 HNB0 hW0
    unfold RecV at HG ⊢
    have HTN : Hid (∀ W, Calls Tryz.prog 146 #[.string nm] W fun e w' => e = .returned (.string (tnB nm)) ∧ w' = W) := fun W => textOfName_any nm W
    have HTD : Hid ((tnB nm).data.toList = if nm.data.toList = [] then [46] else nm.data.toList) := tnB_data nm
    have hts : (tnB nm).size ≤ 1048577 := tnB_size hn
    obtain ⟨tn, htn⟩ : ∃ tn, tn = tnB nm := ⟨_, rfl⟩
    rw [← htn] at HTN HTD hts
    clear htn
    go_enter Tryz.func111, Tryz.ntmps111
    go_wp2_with fail
    rw [HW0.out]
    refine (HG.out _ (hE.below hb0)).mono ?_
    rintro e w1 ⟨rfl, hb1⟩
    obtain ⟨c0, c1, c2, c3, hbw⟩ := HBX.out w1 hb1
    have hbd := hb1.drew
    clear hb1
    go_wp2_with fail
    refine wp_region_quiet (C := fun W => Below W0.heap.size W0 W) (by kernel_rfl) (by kernel_rfl) hbd ?_
    refine wpQuiet_step (fun K hK => ?_)
    rw [if_pos (by rfl)]
    refine ⟨.pointer (some ⟨w.heap.size, 0, none⟩), fun W hW => quiet_ok ?_, hK _ ?_⟩
    · have q0 := (HBX.out W hW).1
      have q1 := (HBX.out W hW).2.1
      have q2 := (HBX.out W hW).2.2.1
      have q3 := (HBX.out W hW).2.2.2.1
      go_simp
      all_goals (try omega)
    clear hK K
    simp only [Act.put, List.setIfInBounds_toArray, List.set_cons_succ, List.set_cons_zero]
    refine wpQuiet_step (fun K hK => ?_)
    rw [if_pos (by rfl)]
    refine ⟨.string nm, fun W hW => quiet_ok ?_, hK _ ?_⟩
    · have q0 := (HBX.out W hW).1
      have q1 := (HBX.out W hW).2.1
      have q2 := (HBX.out W hW).2.2.1
      have q3 := (HBX.out W hW).2.2.2.1
      go_simp
      all_goals (try omega)
    clear hK K
    simp only [Act.put, List.setIfInBounds_toArray, List.set_cons_succ, List.set_cons_zero]
    refine wpQuiet_step (fun K hK => ?_)
    rw [if_pos (by rfl)]
    refine ⟨.string tn, fun W hW => quiet_call (f := 146) (args := #[.string nm]) ?_ ?_, hK _ ?_⟩
    · go_simp
    · exact (HTN.out W).mono fun e w'' h => ⟨h.1, by rw [h.2]; exact hW⟩
    clear hK K
    simp only [Act.put, List.setIfInBounds_toArray, List.set_cons_succ, List.set_cons_zero]
    refine wpQuiet_step (fun K hK => ?_)
    rw [if_pos (by rfl)]
    refine ⟨.string (tn ++ ⟨#[32]⟩), fun W hW => quiet_ok ?_, hK _ ?_⟩
    · have q0 := (HBX.out W hW).1
      have q1 := (HBX.out W hW).2.1
      have q2 := (HBX.out W hW).2.2.1
      have q3 := (HBX.out W hW).2.2.2.1
      go_simp
      all_goals (try omega)
    clear hK K
    simp only [Act.put, List.setIfInBounds_toArray, List.set_cons_succ, List.set_cons_zero]
    refine wpQuiet_step (fun K hK => ?_)
    rw [if_pos (by rfl)]
    refine ⟨.pointer (some ⟨w.heap.size, 2, none⟩), fun W hW => quiet_ok ?_, hK _ ?_⟩
    · have q0 := (HBX.out W hW).1
      have q1 := (HBX.out W hW).2.1
      have q2 := (HBX.out W hW).2.2.1
      have q3 := (HBX.out W hW).2.2.2.1
      go_simp
      all_goals (try omega)
    clear hK K
    simp only [Act.put, List.setIfInBounds_toArray, List.set_cons_succ, List.set_cons_zero]
    refine wpQuiet_step (fun K hK => ?_)
    rw [if_pos (by rfl)]
    refine ⟨.int .i64 (b : Int), fun W hW => quiet_ok ?_, hK _ ?_⟩
    · have q0 := (HBX.out W hW).1
      have q1 := (HBX.out W hW).2.1
      have q2 := (HBX.out W hW).2.2.1
      have q3 := (HBX.out W hW).2.2.2.1
      go_simp
      all_goals (try omega)
    clear hK K
    simp only [Act.put, List.setIfInBounds_toArray, List.set_cons_succ, List.set_cons_zero]
    refine wpQuiet_step (fun K hK => ?_)
    rw [if_pos (by rfl)]
    refine ⟨.string ⟨q.toArray⟩, fun W hW => quiet_call (f := 110) (args := #[.int .i64 (b : Int)]) ?_ ?_, hK _ ?_⟩
    · go_simp
    · exact (HNB.out W (HENV.out W hW)).mono fun e w'' h => ⟨h.1, HTR.out _ _ hW h.2⟩
    clear hK K
    simp only [Act.put, List.setIfInBounds_toArray, List.set_cons_succ, List.set_cons_zero]
    refine wpQuiet_step (fun K hK => ?_)
    rw [if_pos (by rfl)]
    refine ⟨.string (tn ++ ⟨#[32]⟩ ++ ⟨q.toArray⟩), fun W hW => quiet_ok ?_, hK _ ?_⟩
    · have q0 := (HBX.out W hW).1
      have q1 := (HBX.out W hW).2.1
      have q2 := (HBX.out W hW).2.2.1
      have q3 := (HBX.out W hW).2.2.2.1
      go_simp
      all_goals (try omega)
    clear hK K
    simp only [Act.put, List.setIfInBounds_toArray, List.set_cons_succ, List.set_cons_zero]
    refine wpQuiet_step (fun K hK => ?_)
    rw [if_pos (by rfl)]
    refine ⟨.string (tn ++ ⟨#[32]⟩ ++ ⟨q.toArray⟩ ++ ⟨#[32]⟩), fun W hW => quiet_ok ?_, hK _ ?_⟩
    · have q0 := (HBX.out W hW).1
      have q1 := (HBX.out W hW).2.1
      have q2 := (HBX.out W hW).2.2.1
      have q3 := (HBX.out W hW).2.2.2.1
      go_simp
      all_goals (try omega)
    clear hK K
    simp only [Act.put, List.setIfInBounds_toArray, List.set_cons_succ, List.set_cons_zero]
    refine wpQuiet_step (fun K hK => ?_)
    rw [if_pos (by rfl)]
    refine ⟨.pointer (some ⟨w.heap.size, 1, none⟩), fun W hW => quiet_ok ?_, hK _ ?_⟩
    · have q0 := (HBX.out W hW).1
      have q1 := (HBX.out W hW).2.1
      have q2 := (HBX.out W hW).2.2.1
      have q3 := (HBX.out W hW).2.2.2.1
      go_simp
      all_goals (try omega)
    clear hK K
    simp only [Act.put, List.setIfInBounds_toArray, List.set_cons_succ, List.set_cons_zero]
    refine wpQuiet_step (fun K hK => ?_)
    rw [if_pos (by rfl)]
    refine ⟨.int .i64 (a : Int), fun W hW => quiet_ok ?_, hK _ ?_⟩
    · have q0 := (HBX.out W hW).1
      have q1 := (HBX.out W hW).2.1
      have q2 := (HBX.out W hW).2.2.1
      have q3 := (HBX.out W hW).2.2.2.1
      go_simp
      all_goals (try omega)
    clear hK K
    simp only [Act.put, List.setIfInBounds_toArray, List.set_cons_succ, List.set_cons_zero]
    refine wpQuiet_step (fun K hK => ?_)
    rw [if_pos (by rfl)]
    refine ⟨.string ⟨p.toArray⟩, fun W hW => quiet_call (f := 110) (args := #[.int .i64 (a : Int)]) ?_ ?_, hK _ ?_⟩
    · go_simp
    · exact (HNA.out W (HENV.out W hW)).mono fun e w'' h => ⟨h.1, HTR.out _ _ hW h.2⟩
    clear hK K
    simp only [Act.put, List.setIfInBounds_toArray, List.set_cons_succ, List.set_cons_zero]
    refine wpQuiet_step (fun K hK => ?_)
    rw [if_pos (by rfl)]
    refine ⟨.string (tn ++ ⟨#[32]⟩ ++ ⟨q.toArray⟩ ++ ⟨#[32]⟩ ++ ⟨p.toArray⟩), fun W hW => quiet_ok ?_, hK _ ?_⟩
    · have q0 := (HBX.out W hW).1
      have q1 := (HBX.out W hW).2.1
      have q2 := (HBX.out W hW).2.2.1
      have q3 := (HBX.out W hW).2.2.2.1
      go_simp
      all_goals (try omega)
    clear hK K
    simp only [Act.put, List.setIfInBounds_toArray, List.set_cons_succ, List.set_cons_zero]
    refine wpQuiet_step (fun K hK => ?_)
    rw [if_pos (by rfl)]
    refine ⟨.string (tn ++ ⟨#[32]⟩ ++ ⟨q.toArray⟩ ++ ⟨#[32]⟩ ++ ⟨p.toArray⟩ ++ ⟨#[32]⟩), fun W hW => quiet_ok ?_, hK _ ?_⟩
    · have q0 := (HBX.out W hW).1
      have q1 := (HBX.out W hW).2.1
      have q2 := (HBX.out W hW).2.2.1
      have q3 := (HBX.out W hW).2.2.2.1
      go_simp
      all_goals (try omega)
    clear hK K
    simp only [Act.put, List.setIfInBounds_toArray, List.set_cons_succ, List.set_cons_zero]
    refine wpQuiet_step (fun K hK => ?_)
    rw [if_pos (by rfl)]
    refine ⟨.pointer (some ⟨w.heap.size, 3, none⟩), fun W hW => quiet_ok ?_, hK _ ?_⟩
    · have q0 := (HBX.out W hW).1
      have q1 := (HBX.out W hW).2.1
      have q2 := (HBX.out W hW).2.2.1
      have q3 := (HBX.out W hW).2.2.2.1
      go_simp
      all_goals (try omega)
    clear hK K
    simp only [Act.put, List.setIfInBounds_toArray, List.set_cons_succ, List.set_cons_zero]
    refine wpQuiet_step (fun K hK => ?_)
    rw [if_pos (by rfl)]
    refine ⟨.string d, fun W hW => quiet_ok ?_, hK _ ?_⟩
    · have q0 := (HBX.out W hW).1
      have q1 := (HBX.out W hW).2.1
      have q2 := (HBX.out W hW).2.2.1
      have q3 := (HBX.out W hW).2.2.2.1
      go_simp
      all_goals (try omega)
    clear hK K
    simp only [Act.put, List.setIfInBounds_toArray, List.set_cons_succ, List.set_cons_zero]
    refine wpQuiet_step (fun K hK => ?_)
    rw [if_pos (by rfl)]
    refine ⟨.string (tn ++ ⟨#[32]⟩ ++ ⟨q.toArray⟩ ++ ⟨#[32]⟩ ++ ⟨p.toArray⟩ ++ ⟨#[32]⟩ ++ d), fun W hW => quiet_ok ?_, hK _ ?_⟩
    · have q0 := (HBX.out W hW).1
      have q1 := (HBX.out W hW).2.1
      have q2 := (HBX.out W hW).2.2.1
      have q3 := (HBX.out W hW).2.2.2.1
      go_simp
      all_goals (try omega)
    clear hK K
    simp only [Act.put, List.setIfInBounds_toArray, List.set_cons_succ, List.set_cons_zero]
    refine wpQuiet_step (fun K hK => ?_)
    rw [if_pos (by rfl)]
    refine ⟨.string (tn ++ ⟨#[32]⟩ ++ ⟨q.toArray⟩ ++ ⟨#[32]⟩ ++ ⟨p.toArray⟩ ++ ⟨#[32]⟩ ++ d), fun W hW => quiet_ok ?_, hK _ ?_⟩
    · have q0 := (HBX.out W hW).1
      have q1 := (HBX.out W hW).2.1
      have q2 := (HBX.out W hW).2.2.1
      have q3 := (HBX.out W hW).2.2.2.1
      go_simp
      all_goals (try omega)
    clear hK K
    simp only [Act.put, List.setIfInBounds_toArray, List.set_cons_succ, List.set_cons_zero]
    refine wpQuiet_step (fun K hK => ?_)
    rw [if_pos (by rfl)]
    refine ⟨.bool true, fun W hW => quiet_ok ?_, hK _ ?_⟩
    · have q0 := (HBX.out W hW).1
      have q1 := (HBX.out W hW).2.1
      have q2 := (HBX.out W hW).2.2.1
      have q3 := (HBX.out W hW).2.2.2.1
      go_simp
      all_goals (try omega)
    clear hK K
    simp only [Act.put, List.setIfInBounds_toArray, List.set_cons_succ, List.set_cons_zero]
    refine wpQuiet_nil ?_
    intro W hW
    go_wp2_with fail
    go_ret2
    exact ⟨ret_two (val_strM (by rw [HX.out, HRT.out, ← HTD.out]; simp)) rfl, (HBX.out W hW).2.2.2.2⟩
end Go.Proofs.YtoobaaklklommaaGreatDoor
