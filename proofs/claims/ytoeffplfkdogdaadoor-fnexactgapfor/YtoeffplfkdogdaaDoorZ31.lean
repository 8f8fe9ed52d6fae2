import Derived.Test.YtoeffplfkdogdaaDoorZ29
import Derived.Test.YtoeffplfkdogdaaDoorZ30
import Derived.BigQuiet
import Derived.Deep.QuietTactic
namespace Go.Proofs.YtoeffplfkdogdaaDoor
open Go.RowKit Go.Shelf

set_option maxRecDepth 20000 in
set_option maxHeartbeats 2000000 in
theorem covering1_any (x : GA) (n : List UInt8) (pb : Nat) (W : World) (hE : Env W) (hn : Hid (nameB n = true)) (hc : W.cell? ⟨pb, 0, none⟩ = some (.string ⟨n.toArray⟩)) :
    Calls Tryd.prog 72 #[.agg #[.string ⟨x.1.1.1.toArray⟩, .string ⟨x.1.1.2.1.toArray⟩, .slice x.1.2.1 x.1.1.2.2.length x.1.2.2], .pointer (some ⟨pb, 0, none⟩)] W fun e w' => e = .returned (.bool (covB x.1.1.1 x.1.1.2.1 n)) ∧ Below W.heap.size W w' := by
  have HIB : Hid (∀ W1, Below W.heap.size W W1 → Calls Tryd.prog 29 #[.agg #[.string ⟨x.1.1.1.toArray⟩, .string ⟨x.1.1.2.1.toArray⟩, .slice x.1.2.1 x.1.1.2.2.length x.1.2.2], .string ⟨n.toArray⟩] W1 fun e w' => e = .returned (.bool (covB x.1.1.1 x.1.1.2.1 n)) ∧ Below W1.heap.size W1 w') := fun W1 h => isBetween_any ⟨x.1.1.1.toArray⟩ ⟨x.1.1.2.1.toArray⟩ ⟨n.toArray⟩ _ W1 (hE.below h) ⟨x.2.1, x.2.2, hn.out⟩
  have hpb : pb < W.heap.size := World.block_lt_of_cell? _ _ hc
  have HA : Hid (Below W.heap.size W (W.alloc (.cells #[.string ⟨x.1.1.1.toArray⟩, .string ⟨x.1.1.2.1.toArray⟩, .slice x.1.2.1 x.1.1.2.2.length x.1.2.2] 26))) := (Below.refl _ _).alloc (Nat.le_refl _) _
  go_enter Tryd.func72, Tryd.ntmps72
  go_wp2_with fail
  refine (HIB.out _ HA.out).mono ?_
  rintro e w1 ⟨rfl, hb1⟩
  have hbw := HA.out.trans (hb1.mono HA.out.size)
  go_wp2_with fail
  go_ret
  exact ⟨rfl, hbw⟩

set_option maxRecDepth 20000 in
set_option maxHeartbeats 2000000 in
theorem gapFor1_any (x : GA) (n : List UInt8) (pb : Nat) (W : World) (hE : Env W) (hn : Hid (nameB n = true)) (hc : W.cell? ⟨pb, 0, none⟩ = some (.string ⟨n.toArray⟩)) :
    Calls Tryd.prog 28 #[.agg #[.string ⟨x.1.1.1.toArray⟩, .string ⟨x.1.1.2.1.toArray⟩, .slice x.1.2.1 x.1.1.2.2.length x.1.2.2], .pointer (some ⟨pb, 0, none⟩)] W fun e w' => e = .returned (.bool (x.1.1.1 == n || covB x.1.1.1 x.1.1.2.1 n)) ∧ Below W.heap.size W w' := by
  have HIB : Hid (∀ W1, Below W.heap.size W W1 → Calls Tryd.prog 29 #[.agg #[.string ⟨x.1.1.1.toArray⟩, .string ⟨x.1.1.2.1.toArray⟩, .slice x.1.2.1 x.1.1.2.2.length x.1.2.2], .string ⟨n.toArray⟩] W1 fun e w' => e = .returned (.bool (covB x.1.1.1 x.1.1.2.1 n)) ∧ Below W1.heap.size W1 w') := fun W1 h => isBetween_any ⟨x.1.1.1.toArray⟩ ⟨x.1.1.2.1.toArray⟩ ⟨n.toArray⟩ _ W1 (hE.below h) ⟨x.2.1, x.2.2, hn.out⟩
  have hpb : pb < W.heap.size := World.block_lt_of_cell? _ _ hc
  have HA : Hid (Below W.heap.size W (W.alloc (.cells #[.string ⟨x.1.1.1.toArray⟩, .string ⟨x.1.1.2.1.toArray⟩, .slice x.1.2.1 x.1.1.2.2.length x.1.2.2] 26))) := (Below.refl _ _).alloc (Nat.le_refl _) _
  obtain ⟨cb, hcb⟩ : ∃ cb, cb = covB x.1.1.1 x.1.1.2.1 n := ⟨_, rfl⟩
  rw [← hcb] at HIB ⊢
  clear hcb
  by_cases he : x.1.1.1 = n
  · have HR : Hid ((x.1.1.1 == n || cb) = true) := (by simp [he] : (x.1.1.1 == n || cb) = true)
    have e1 : (x.1.1.1 == n) = true := by simpa using he
    clear he
    go_enter Tryd.func28, Tryd.ntmps28
    go_wp2_with fail
    go_ret
    exact ⟨ret_bool HR.out.symm, HA.out⟩
  · have HR : Hid ((x.1.1.1 == n || cb) = cb) := (by simp [he] : (x.1.1.1 == n || cb) = cb)
    have e1 : (x.1.1.1 == n) = false := by simpa using he
    clear he
    go_enter Tryd.func28, Tryd.ntmps28
    go_wp2_with fail
    refine (HIB.out _ HA.out).mono ?_
    rintro e w1 ⟨rfl, hb1⟩
    have hbw := HA.out.trans (hb1.mono HA.out.size)
    go_wp2_with fail
    go_ret
    exact ⟨ret_bool HR.out.symm, hbw⟩

set_option maxRecDepth 20000 in
set_option maxHeartbeats 2000000 in
theorem areProof1_any (x : GA) (st : List UInt8) (pb : Nat) (V : World) (hE : Env V) (hn : Hid (nameB st = true)) (hc : V.cell? ⟨pb, 0, none⟩ = some (.string ⟨st.toArray⟩)) :
    Calls Tryd.prog 61 #[.agg #[.string ⟨x.1.1.1.toArray⟩, .string ⟨x.1.1.2.1.toArray⟩, .slice x.1.2.1 x.1.1.2.2.length x.1.2.2], .pointer (some ⟨pb, 0, none⟩)] V fun e w' => e = .returned (.bool (covB x.1.1.1 x.1.1.2.1 st && !(closL x.1.1.1 x.1.1.2.1 st == st))) ∧ Below V.heap.size V w' := by
  obtain ⟨W0, hW0⟩ : ∃ W0, W0 = V.alloc (.cells #[.string ⟨x.1.1.1.toArray⟩, .string ⟨x.1.1.2.1.toArray⟩, .slice x.1.2.1 x.1.1.2.2.length x.1.2.2] 26) := ⟨_, rfl⟩
  have HW0 : Hid (V.alloc (.cells #[.string ⟨x.1.1.1.toArray⟩, .string ⟨x.1.1.2.1.toArray⟩, .slice x.1.2.1 x.1.1.2.2.length x.1.2.2] 26) = W0) := hW0.symm
  have hpb : pb < V.heap.size := World.block_lt_of_cell? _ _ hc
  have HX : Hid (∀ W1, Below W0.heap.size W0 W1 → W1.cell? ⟨V.heap.size, 0, none⟩ = some (.string ⟨x.1.1.1.toArray⟩) ∧ W1.cell? ⟨V.heap.size, 1, none⟩ = some (.string ⟨x.1.1.2.1.toArray⟩) ∧ W1.cell? ⟨V.heap.size, 2, none⟩ = some (.slice x.1.2.1 x.1.1.2.2.length x.1.2.2) ∧ W1.cell? ⟨pb, 0, none⟩ = some (.string ⟨st.toArray⟩) ∧ Below V.heap.size V W1) := fun W1 hW => by
    rw [hW0] at hW
    have h := gap_facts hW
    exact ⟨h.1, h.2.1, h.2.2.1, (h.2.2.2.cell (p := ⟨pb, 0, none⟩) hpb).trans hc, h.2.2.2⟩
  have HBW : Hid (∀ W1, Below W0.heap.size W0 W1 → Below V.heap.size V W1) := fun W1 hW => (HX.out W1 hW).2.2.2.2
  have HTR : Hid (∀ W1 W', Below W0.heap.size W0 W1 → Below W1.heap.size W1 W' → Below W0.heap.size W0 W') := fun W1 W' h1 h2 => h1.trans (h2.mono h1.size)
  have HIB : Hid (∀ W1, Below W0.heap.size W0 W1 → Calls Tryd.prog 29 #[.agg #[.string ⟨x.1.1.1.toArray⟩, .string ⟨x.1.1.2.1.toArray⟩, .slice x.1.2.1 x.1.1.2.2.length x.1.2.2], .string ⟨st.toArray⟩] W1 fun e w' => e = .returned (.bool (covB x.1.1.1 x.1.1.2.1 st)) ∧ Below W1.heap.size W1 w') := fun W1 h => isBetween_any ⟨x.1.1.1.toArray⟩ ⟨x.1.1.2.1.toArray⟩ ⟨st.toArray⟩ _ W1 (hE.below (HBW.out W1 h)) ⟨x.2.1, x.2.2, hn.out⟩
  have HCL : Hid (∀ W1, Below W0.heap.size W0 W1 → Calls Tryd.prog 59 #[.agg #[.string ⟨x.1.1.1.toArray⟩, .string ⟨x.1.1.2.1.toArray⟩, .slice x.1.2.1 x.1.1.2.2.length x.1.2.2], .string ⟨st.toArray⟩] W1 fun e w' => e = .returned (.string ⟨(closL x.1.1.1 x.1.1.2.1 st).toArray⟩) ∧ Below W1.heap.size W1 w') := fun W1 h => closestIn_any ⟨x.1.1.1.toArray⟩ ⟨x.1.1.2.1.toArray⟩ ⟨st.toArray⟩ _ W1 (hE.below (HBW.out W1 h)) ⟨x.2.1, x.2.2, hn.out⟩
  obtain ⟨cl, hcl⟩ : ∃ cl, cl = closL x.1.1.1 x.1.1.2.1 st := ⟨_, rfl⟩
  obtain ⟨cb, hcb⟩ : ∃ cb, cb = covB x.1.1.1 x.1.1.2.1 st := ⟨_, rfl⟩
  rw [← hcl] at HCL
  rw [← hcb] at HIB
  rw [← hcl, ← hcb]
  have hbd : Below W0.heap.size W0 W0.drew := (Below.refl _ _).drew
  clear hcl hcb hW0
  cases cb with
  | false =>
    obtain ⟨u7, hu7⟩ : ∃ u : Bool, u = false := ⟨_, rfl⟩
    have HU7 : Hid (u7 = false) := hu7
    clear hu7
    go_enter Tryd.func61, Tryd.ntmps61
    go_wp2_with fail
    rw [HW0.out]
    refine wp_region_quiet (C := fun W1 => Below W0.heap.size W0 W1) (by kernel_rfl) (by kernel_rfl) hbd ?_
    refine wpQuiet_step (fun K hK => ?_)
    rw [if_pos (by rfl)]
    refine ⟨.agg #[.string ⟨x.1.1.1.toArray⟩, .string ⟨x.1.1.2.1.toArray⟩, .slice x.1.2.1 x.1.1.2.2.length x.1.2.2], fun W hW => quiet_ok ?_, hK _ ?_⟩
    · have q := HX.out W hW
      obtain ⟨m0, m1, m2, m3, _⟩ := q
      go_simp
      all_goals (try omega)
    clear hK K
    simp only [Act.put, List.setIfInBounds_toArray, List.set_cons_succ, List.set_cons_zero]
    refine wpQuiet_step (fun K hK => ?_)
    rw [if_pos (by rfl)]
    refine ⟨.string ⟨st.toArray⟩, fun W hW => quiet_ok ?_, hK _ ?_⟩
    · have q := HX.out W hW
      obtain ⟨m0, m1, m2, m3, _⟩ := q
      go_simp
      all_goals (try omega)
    clear hK K
    simp only [Act.put, List.setIfInBounds_toArray, List.set_cons_succ, List.set_cons_zero]
    refine wpQuiet_step (fun K hK => ?_)
    rw [if_pos (by rfl)]
    refine ⟨.bool false, fun W hW => quiet_call (f := 29) (args := #[.agg #[.string ⟨x.1.1.1.toArray⟩, .string ⟨x.1.1.2.1.toArray⟩, .slice x.1.2.1 x.1.1.2.2.length x.1.2.2], .string ⟨st.toArray⟩]) ?_ ?_, hK _ ?_⟩
    · go_simp
    · exact (HIB.out W hW).mono fun e w'' h => ⟨h.1, HTR.out _ _ hW h.2⟩
    clear hK K
    simp only [Act.put, List.setIfInBounds_toArray, List.set_cons_succ, List.set_cons_zero]
    refine wpQuiet_step (fun K hK => ?_)
    rw [if_pos (by rfl)]
    refine ⟨.bool u7, fun W hW => quiet_ok ?_, hK _ ?_⟩
    · have q := HX.out W hW
      obtain ⟨m0, m1, m2, m3, _⟩ := q
      have v7 := HU7.out
      go_simp
      all_goals (try omega)
    clear hK K
    simp only [Act.put, List.setIfInBounds_toArray, List.set_cons_succ, List.set_cons_zero]
    refine BigFrame.wpQuiet_skip (by show (some u7 == some true) = false; rw [HU7.out]; rfl) ?_
    simp only [Act.put, List.setIfInBounds_toArray, List.set_cons_succ, List.set_cons_zero]
    refine BigFrame.wpQuiet_skip (by show (some u7 == some true) = false; rw [HU7.out]; rfl) ?_
    simp only [Act.put, List.setIfInBounds_toArray, List.set_cons_succ, List.set_cons_zero]
    refine BigFrame.wpQuiet_skip (by show (some u7 == some true) = false; rw [HU7.out]; rfl) ?_
    simp only [Act.put, List.setIfInBounds_toArray, List.set_cons_succ, List.set_cons_zero]
    refine BigFrame.wpQuiet_skip (by show (some u7 == some true) = false; rw [HU7.out]; rfl) ?_
    simp only [Act.put, List.setIfInBounds_toArray, List.set_cons_succ, List.set_cons_zero]
    refine BigFrame.wpQuiet_skip (by show (some u7 == some true) = false; rw [HU7.out]; rfl) ?_
    simp only [Act.put, List.setIfInBounds_toArray, List.set_cons_succ, List.set_cons_zero]
    refine wpQuiet_step (fun K hK => ?_)
    rw [if_pos (by rfl)]
    refine ⟨.bool false, fun W hW => quiet_ok ?_, hK _ ?_⟩
    · have q := HX.out W hW
      obtain ⟨m0, m1, m2, m3, _⟩ := q
      have v7 := HU7.out
      go_simp
      all_goals (try omega)
    clear hK K
    simp only [Act.put, List.setIfInBounds_toArray, List.set_cons_succ, List.set_cons_zero]
    refine wpQuiet_step (fun K hK => ?_)
    rw [if_pos (by rfl)]
    refine ⟨.bool false, fun W hW => quiet_ok ?_, hK _ ?_⟩
    · have q := HX.out W hW
      obtain ⟨m0, m1, m2, m3, _⟩ := q
      have v7 := HU7.out
      go_simp
      all_goals (try omega)
    clear hK K
    simp only [Act.put, List.setIfInBounds_toArray, List.set_cons_succ, List.set_cons_zero]
    refine wpQuiet_nil ?_
    intro W1 hW
    have hbW := HBW.out W1 hW
    go_wp2_with fail
    go_ret
    exact ⟨rfl, hbW⟩
  | true =>
    by_cases he : cl = st
    · have HR : Hid ((true && !(cl == st)) = false) := (by simp [he] : (true && !(cl == st)) = false)
      have e1 : (cl == st) = true := by simpa using he
      have e2 : (cl != st) = false := by simpa using he
      clear he
      go_enter Tryd.func61, Tryd.ntmps61
      go_wp2_with fail
      rw [HW0.out]
      refine wp_region_quiet (C := fun W1 => Below W0.heap.size W0 W1) (by kernel_rfl) (by kernel_rfl) hbd ?_
      refine wpQuiet_step (fun K hK => ?_)
      rw [if_pos (by rfl)]
      refine ⟨.agg #[.string ⟨x.1.1.1.toArray⟩, .string ⟨x.1.1.2.1.toArray⟩, .slice x.1.2.1 x.1.1.2.2.length x.1.2.2], fun W hW => quiet_ok ?_, hK _ ?_⟩
      · have q := HX.out W hW
        obtain ⟨m0, m1, m2, m3, _⟩ := q
        go_simp
        all_goals (try omega)
      clear hK K
      simp only [Act.put, List.setIfInBounds_toArray, List.set_cons_succ, List.set_cons_zero]
      refine wpQuiet_step (fun K hK => ?_)
      rw [if_pos (by rfl)]
      refine ⟨.string ⟨st.toArray⟩, fun W hW => quiet_ok ?_, hK _ ?_⟩
      · have q := HX.out W hW
        obtain ⟨m0, m1, m2, m3, _⟩ := q
        go_simp
        all_goals (try omega)
      clear hK K
      simp only [Act.put, List.setIfInBounds_toArray, List.set_cons_succ, List.set_cons_zero]
      refine wpQuiet_step (fun K hK => ?_)
      rw [if_pos (by rfl)]
      refine ⟨.bool true, fun W hW => quiet_call (f := 29) (args := #[.agg #[.string ⟨x.1.1.1.toArray⟩, .string ⟨x.1.1.2.1.toArray⟩, .slice x.1.2.1 x.1.1.2.2.length x.1.2.2], .string ⟨st.toArray⟩]) ?_ ?_, hK _ ?_⟩
      · go_simp
      · exact (HIB.out W hW).mono fun e w'' h => ⟨h.1, HTR.out _ _ hW h.2⟩
      clear hK K
      simp only [Act.put, List.setIfInBounds_toArray, List.set_cons_succ, List.set_cons_zero]
      refine wpQuiet_step (fun K hK => ?_)
      rw [if_pos (by rfl)]
      refine ⟨.bool true, fun W hW => quiet_ok ?_, hK _ ?_⟩
      · have q := HX.out W hW
        obtain ⟨m0, m1, m2, m3, _⟩ := q
        go_simp
        all_goals (try omega)
      clear hK K
      simp only [Act.put, List.setIfInBounds_toArray, List.set_cons_succ, List.set_cons_zero]
      refine wpQuiet_step (fun K hK => ?_)
      rw [if_pos (by rfl)]
      refine ⟨.agg #[.string ⟨x.1.1.1.toArray⟩, .string ⟨x.1.1.2.1.toArray⟩, .slice x.1.2.1 x.1.1.2.2.length x.1.2.2], fun W hW => quiet_ok ?_, hK _ ?_⟩
      · have q := HX.out W hW
        obtain ⟨m0, m1, m2, m3, _⟩ := q
        go_simp
        all_goals (try omega)
      clear hK K
      simp only [Act.put, List.setIfInBounds_toArray, List.set_cons_succ, List.set_cons_zero]
      refine wpQuiet_step (fun K hK => ?_)
      rw [if_pos (by rfl)]
      refine ⟨.string ⟨st.toArray⟩, fun W hW => quiet_ok ?_, hK _ ?_⟩
      · have q := HX.out W hW
        obtain ⟨m0, m1, m2, m3, _⟩ := q
        go_simp
        all_goals (try omega)
      clear hK K
      simp only [Act.put, List.setIfInBounds_toArray, List.set_cons_succ, List.set_cons_zero]
      refine wpQuiet_step (fun K hK => ?_)
      rw [if_pos (by rfl)]
      refine ⟨.string ⟨cl.toArray⟩, fun W hW => quiet_call (f := 59) (args := #[.agg #[.string ⟨x.1.1.1.toArray⟩, .string ⟨x.1.1.2.1.toArray⟩, .slice x.1.2.1 x.1.1.2.2.length x.1.2.2], .string ⟨st.toArray⟩]) ?_ ?_, hK _ ?_⟩
      · go_simp
      · exact (HCL.out W hW).mono fun e w'' h => ⟨h.1, HTR.out _ _ hW h.2⟩
      clear hK K
      simp only [Act.put, List.setIfInBounds_toArray, List.set_cons_succ, List.set_cons_zero]
      refine wpQuiet_step (fun K hK => ?_)
      rw [if_pos (by rfl)]
      refine ⟨.string ⟨st.toArray⟩, fun W hW => quiet_ok ?_, hK _ ?_⟩
      · have q := HX.out W hW
        obtain ⟨m0, m1, m2, m3, _⟩ := q
        go_simp
        all_goals (try omega)
      clear hK K
      simp only [Act.put, List.setIfInBounds_toArray, List.set_cons_succ, List.set_cons_zero]
      refine wpQuiet_step (fun K hK => ?_)
      rw [if_pos (by rfl)]
      refine ⟨.bool false, fun W hW => quiet_ok ?_, hK _ ?_⟩
      · have q := HX.out W hW
        obtain ⟨m0, m1, m2, m3, _⟩ := q
        go_simp
        all_goals (try omega)
      clear hK K
      simp only [Act.put, List.setIfInBounds_toArray, List.set_cons_succ, List.set_cons_zero]
      refine wpQuiet_step (fun K hK => ?_)
      rw [if_pos (by rfl)]
      refine ⟨.bool false, fun W hW => quiet_ok ?_, hK _ ?_⟩
      · have q := HX.out W hW
        obtain ⟨m0, m1, m2, m3, _⟩ := q
        go_simp
        all_goals (try omega)
      clear hK K
      simp only [Act.put, List.setIfInBounds_toArray, List.set_cons_succ, List.set_cons_zero]
      refine wpQuiet_step (fun K hK => ?_)
      rw [if_pos (by rfl)]
      refine ⟨.bool false, fun W hW => quiet_ok ?_, hK _ ?_⟩
      · have q := HX.out W hW
        obtain ⟨m0, m1, m2, m3, _⟩ := q
        go_simp
        all_goals (try omega)
      clear hK K
      simp only [Act.put, List.setIfInBounds_toArray, List.set_cons_succ, List.set_cons_zero]
      refine wpQuiet_nil ?_
      intro W1 hW
      have hbW := HBW.out W1 hW
      go_wp2_with fail
      go_ret
      exact ⟨ret_bool HR.out.symm, hbW⟩
    · have HR : Hid ((true && !(cl == st)) = true) := (by simp [he] : (true && !(cl == st)) = true)
      have e1 : (cl == st) = false := by simpa using he
      have e2 : (cl != st) = true := by simpa using he
      go_enter Tryd.func61, Tryd.ntmps61
      go_wp2_with fail
      rw [HW0.out]
      refine wp_region_quiet (C := fun W1 => Below W0.heap.size W0 W1) (by kernel_rfl) (by kernel_rfl) hbd ?_
      refine wpQuiet_step (fun K hK => ?_)
      rw [if_pos (by rfl)]
      refine ⟨.agg #[.string ⟨x.1.1.1.toArray⟩, .string ⟨x.1.1.2.1.toArray⟩, .slice x.1.2.1 x.1.1.2.2.length x.1.2.2], fun W hW => quiet_ok ?_, hK _ ?_⟩
      · have q := HX.out W hW
        obtain ⟨m0, m1, m2, m3, _⟩ := q
        go_simp
        all_goals (try omega)
      clear hK K
      simp only [Act.put, List.setIfInBounds_toArray, List.set_cons_succ, List.set_cons_zero]
      refine wpQuiet_step (fun K hK => ?_)
      rw [if_pos (by rfl)]
      refine ⟨.string ⟨st.toArray⟩, fun W hW => quiet_ok ?_, hK _ ?_⟩
      · have q := HX.out W hW
        obtain ⟨m0, m1, m2, m3, _⟩ := q
        go_simp
        all_goals (try omega)
      clear hK K
      simp only [Act.put, List.setIfInBounds_toArray, List.set_cons_succ, List.set_cons_zero]
      refine wpQuiet_step (fun K hK => ?_)
      rw [if_pos (by rfl)]
      refine ⟨.bool true, fun W hW => quiet_call (f := 29) (args := #[.agg #[.string ⟨x.1.1.1.toArray⟩, .string ⟨x.1.1.2.1.toArray⟩, .slice x.1.2.1 x.1.1.2.2.length x.1.2.2], .string ⟨st.toArray⟩]) ?_ ?_, hK _ ?_⟩
      · go_simp
      · exact (HIB.out W hW).mono fun e w'' h => ⟨h.1, HTR.out _ _ hW h.2⟩
      clear hK K
      simp only [Act.put, List.setIfInBounds_toArray, List.set_cons_succ, List.set_cons_zero]
      refine wpQuiet_step (fun K hK => ?_)
      rw [if_pos (by rfl)]
      refine ⟨.bool true, fun W hW => quiet_ok ?_, hK _ ?_⟩
      · have q := HX.out W hW
        obtain ⟨m0, m1, m2, m3, _⟩ := q
        go_simp
        all_goals (try omega)
      clear hK K
      simp only [Act.put, List.setIfInBounds_toArray, List.set_cons_succ, List.set_cons_zero]
      refine wpQuiet_step (fun K hK => ?_)
      rw [if_pos (by rfl)]
      refine ⟨.agg #[.string ⟨x.1.1.1.toArray⟩, .string ⟨x.1.1.2.1.toArray⟩, .slice x.1.2.1 x.1.1.2.2.length x.1.2.2], fun W hW => quiet_ok ?_, hK _ ?_⟩
      · have q := HX.out W hW
        obtain ⟨m0, m1, m2, m3, _⟩ := q
        go_simp
        all_goals (try omega)
      clear hK K
      simp only [Act.put, List.setIfInBounds_toArray, List.set_cons_succ, List.set_cons_zero]
      refine wpQuiet_step (fun K hK => ?_)
      rw [if_pos (by rfl)]
      refine ⟨.string ⟨st.toArray⟩, fun W hW => quiet_ok ?_, hK _ ?_⟩
      · have q := HX.out W hW
        obtain ⟨m0, m1, m2, m3, _⟩ := q
        go_simp
        all_goals (try omega)
      clear hK K
      simp only [Act.put, List.setIfInBounds_toArray, List.set_cons_succ, List.set_cons_zero]
      refine wpQuiet_step (fun K hK => ?_)
      rw [if_pos (by rfl)]
      refine ⟨.string ⟨cl.toArray⟩, fun W hW => quiet_call (f := 59) (args := #[.agg #[.string ⟨x.1.1.1.toArray⟩, .string ⟨x.1.1.2.1.toArray⟩, .slice x.1.2.1 x.1.1.2.2.length x.1.2.2], .string ⟨st.toArray⟩]) ?_ ?_, hK _ ?_⟩
      · go_simp
      · exact (HCL.out W hW).mono fun e w'' h => ⟨h.1, HTR.out _ _ hW h.2⟩
      clear hK K
      simp only [Act.put, List.setIfInBounds_toArray, List.set_cons_succ, List.set_cons_zero]
      refine wpQuiet_step (fun K hK => ?_)
      rw [if_pos (by rfl)]
      refine ⟨.string ⟨st.toArray⟩, fun W hW => quiet_ok ?_, hK _ ?_⟩
      · have q := HX.out W hW
        obtain ⟨m0, m1, m2, m3, _⟩ := q
        go_simp
        all_goals (try omega)
      clear hK K
      simp only [Act.put, List.setIfInBounds_toArray, List.set_cons_succ, List.set_cons_zero]
      refine wpQuiet_step (fun K hK => ?_)
      rw [if_pos (by rfl)]
      refine ⟨.bool true, fun W hW => quiet_ok ?_, hK _ ?_⟩
      · have q := HX.out W hW
        obtain ⟨m0, m1, m2, m3, _⟩ := q
        go_simp
        all_goals (try omega)
      clear hK K
      simp only [Act.put, List.setIfInBounds_toArray, List.set_cons_succ, List.set_cons_zero]
      refine wpQuiet_step (fun K hK => ?_)
      rw [if_pos (by rfl)]
      refine ⟨.bool true, fun W hW => quiet_ok ?_, hK _ ?_⟩
      · have q := HX.out W hW
        obtain ⟨m0, m1, m2, m3, _⟩ := q
        go_simp
        all_goals (try omega)
      clear hK K
      simp only [Act.put, List.setIfInBounds_toArray, List.set_cons_succ, List.set_cons_zero]
      refine wpQuiet_step (fun K hK => ?_)
      rw [if_pos (by rfl)]
      refine ⟨.bool true, fun W hW => quiet_ok ?_, hK _ ?_⟩
      · have q := HX.out W hW
        obtain ⟨m0, m1, m2, m3, _⟩ := q
        go_simp
        all_goals (try omega)
      clear hK K
      simp only [Act.put, List.setIfInBounds_toArray, List.set_cons_succ, List.set_cons_zero]
      refine wpQuiet_nil ?_
      intro W1 hW
      have hbW := HBW.out W1 hW
      go_wp2_with fail
      go_ret
      exact ⟨ret_bool HR.out.symm, hbW⟩
end Go.Proofs.YtoeffplfkdogdaaDoor
