import Derived.Test.YtpghpeombednkaaGreatDoorZ22
import Derived.Test.YtpghpeombednkaaGreatDoorZ29
import Derived.Test.YtpghpeombednkaaGreatDoorZ26
import Derived.Test.YtpghpeombednkaaGreatDoorZ31
import Derived.Deep.RegionHeld3
import Derived.Deep.QuietTactic
namespace Go.Proofs.YtpghpeombednkaaGreatDoor
open Go.RowKit

theorem two_below {w W : World} {a b : Value} {t : TypeId} (hb : Below (w.alloc (.cells #[a, b] t)).heap.size (w.alloc (.cells #[a, b] t)) W) :
    W.cell? ⟨w.heap.size, 0, none⟩ = some a ∧ W.cell? ⟨w.heap.size, 1, none⟩ = some b ∧ Below w.heap.size w W := by
  have hz : w.heap.size < (w.alloc (.cells #[a, b] t)).heap.size := by simp
  refine ⟨?_, ?_, ((Below.refl w.heap.size w).alloc (Nat.le_refl _) _).trans (hb.mono (Nat.le_of_lt hz))⟩
  all_goals (rw [hb.cell (p := ⟨w.heap.size, _, none⟩) hz]; simp)

set_option maxRecDepth 20000 in
set_option maxHeartbeats 400000 in
theorem kindByte_any (nm : ByteArray) (ty : Int) (w : World) (h1 : 0 ≤ ty) (h2 : ty ≤ 9223372036854775807) :
    Calls Tryz.prog 35 #[.agg #[.string nm, .int .i64 ty]] w fun e w' => e = .returned (.string ⟨(beB ty 1).toArray⟩) ∧ Below w.heap.size w w' := by
  go_enter Tryz.func35, Tryz.ntmps35
  go_wp2_with fail
  refine (numberBytes_any ty 1 _ h1 h2 (by omega)).mono ?_
  rintro e w1 ⟨rfl, hb1⟩
  have hbw := (two_below hb1).2.2
  clear hb1
  go_wp2_with fail
  go_ret
  exact ⟨rfl, hbw⟩

set_option maxRecDepth 20000 in
set_option maxHeartbeats 400000 in
theorem ownerOf_any (nm d : ByteArray) (ty ttl : Int) (w : World) :
    Calls Tryz.prog 67 #[RecV nm ty ttl d] w fun e w' => e = .returned (.agg #[.string nm, .int .i64 ty]) ∧ Below w.heap.size w w' := by
  unfold RecV
  go_enter Tryz.func67, Tryz.ntmps67
  go_wp2_with fail
  (try simp only [Exit.inBlock, Exit.then])
  refine bodyPost_ret (results_cell_row rfl _ _ (w.heap.size + 1) 66 _ (0, 0) _ rfl ?_ Tryz.underlying66 rfl (by kernel_rfl)) rfl ⟨rfl, ((Below.refl w.heap.size w).alloc (Nat.le_refl _) _).alloc (by simp) _⟩
  rw [heap_alloc2_new]

theorem set4_heap {w : World} {g : Nat} {t : TypeId} {v0 v1 v2 v3 u0 u1 u2 u3 : Value} (h : w.heap[g]? = some (.cells #[u0, u1, u2, u3] t)) :
    ((((w.setCell ⟨g, 0, none⟩ v0).setCell ⟨g, 1, none⟩ v1).setCell ⟨g, 2, none⟩ v2).setCell ⟨g, 3, none⟩ v3).heap[g]? = some (.cells #[v0, v1, v2, v3] t) := by
  have e0 := heap_setCell_same _ _ 0 _ _ v0 h
  have e1 := heap_setCell_same _ _ 1 _ _ v1 e0
  have e2 := heap_setCell_same _ _ 2 _ _ v2 e1
  have e3 := heap_setCell_same _ _ 3 _ _ v3 e2
  simpa using e3
theorem set4_below {B : Nat} {a w : World} (h : Below B a w) {g : Nat} (hg : B ≤ g) (v0 v1 v2 v3 : Value) : Below B a ((((w.setCell ⟨g, 0, none⟩ v0).setCell ⟨g, 1, none⟩ v1).setCell ⟨g, 2, none⟩ v2).setCell ⟨g, 3, none⟩ v3) :=
  (((h.setCell (p := ⟨g, 0, none⟩) hg _).setCell (p := ⟨g, 1, none⟩) hg _).setCell (p := ⟨g, 2, none⟩) hg _).setCell (p := ⟨g, 3, none⟩) hg _
theorem box4_cells {W : World} {b : Nat} {v0 v1 v2 v3 : Value} {t : TypeId} (h : W.heap[b]? = some (.cells #[v0, v1, v2, v3] t)) :
    (W.cell? ⟨b, 0, none⟩ = some v0 ∧ W.cell? ⟨b, 1, none⟩ = some v1 ∧ W.cell? ⟨b, 2, none⟩ = some v2 ∧ W.cell? ⟨b, 3, none⟩ = some v3) ∧
    (W.frozen? ⟨b, 0, none⟩ = false ∧ W.frozen? ⟨b, 1, none⟩ = false ∧ W.frozen? ⟨b, 2, none⟩ = false ∧ W.frozen? ⟨b, 3, none⟩ = false) := by
  refine ⟨⟨?_, ?_, ?_, ?_⟩, ⟨?_, ?_, ?_, ?_⟩⟩
  all_goals first
    | (unfold World.cell?; rw [h]; rfl)
    | (unfold World.frozen?; rw [h]; simp)

set_option maxRecDepth 20000 in
set_option maxHeartbeats 1000000 in
theorem headOfRecord_any (nm d data : ByteArray) (ty ttl : Int) (w : World) :
    Calls Tryz.prog 38 #[RecV nm ty ttl d, .string data] w fun e w' => e = .returned (.agg #[.string nm, .int .i64 ty, .int .i64 ttl, .int .i64 data.size]) ∧ Below w.heap.size w w' := by
  have HO : Hid (∀ W, Calls Tryz.prog 67 #[RecV nm ty ttl d] W fun e w' => e = .returned (.agg #[.string nm, .int .i64 ty]) ∧ Below W.heap.size W w') := fun W => ownerOf_any nm d ty ttl W
  unfold RecV at HO ⊢
  obtain ⟨W0, hW0⟩ : ∃ W0, W0 = (w.alloc (.cells #[.string nm, .int .i64 ty, .int .i64 ttl, .string d] 35)).alloc (.cells #[.string ⟨#[]⟩, .int .i64 0, .int .i64 0, .int .i64 0] 74) := ⟨_, rfl⟩
  have HX0 : Hid (∀ W, Below W0.heap.size W0 W → W.heap[w.heap.size]? = some (.cells #[.string nm, .int .i64 ty, .int .i64 ttl, .string d] 35) ∧ W.heap[w.heap.size + 1]? = some (.cells #[.string ⟨#[]⟩, .int .i64 0, .int .i64 0, .int .i64 0] 74) ∧ Below w.heap.size w W) := fun W h => by rw [hW0] at h; exact heaps2 h
  have hS0 : (fun W : World => (W.heap[w.heap.size]? = some (.cells #[.string nm, .int .i64 ty, .int .i64 ttl, .string d] 35) ∧ (∃ u0 u1 u2 u3, W.heap[w.heap.size + 1]? = some (.cells #[u0, u1, u2, u3] 74)) ∧ Below w.heap.size w W ∧ w.heap.size + 2 ≤ W.heap.size)) W0.drew := by
    obtain ⟨h1, h2, h3⟩ := HX0.out W0.drew (Below.refl _ _).drew
    exact ⟨h1, ⟨_, _, _, _, h2⟩, h3, by rw [hW0]; show _ ≤ ((w.alloc _).alloc _).heap.size; simp⟩
  have HW0 : Hid ((w.alloc (.cells #[.string nm, .int .i64 ty, .int .i64 ttl, .string d] 35)).alloc (.cells #[.string ⟨#[]⟩, .int .i64 0, .int .i64 0, .int .i64 0] 74) = W0) := hW0.symm
  clear hW0
  go_enter Tryz.func38, Tryz.ntmps38
  go_wp2_with fail
  rw [HW0.out]
  refine wp_region_noPanic ?_
  refine wp_region_held_drew (S := fun W => (W.heap[w.heap.size]? = some (.cells #[.string nm, .int .i64 ty, .int .i64 ttl, .string d] 35) ∧ (∃ u0 u1 u2 u3, W.heap[w.heap.size + 1]? = some (.cells #[u0, u1, u2, u3] 74)) ∧ Below w.heap.size w W ∧ w.heap.size + 2 ≤ W.heap.size)) (by kernel_rfl) hS0 (fun hHeld => ?_)
  refine wpAnyH_take (i := 0) (v := .agg #[.string nm, .int .i64 ty, .int .i64 ttl, .string d]) rfl (by kernel_rfl) (by kernel_rfl) (by kernel_rfl) (fun _ _ _ h => h) (Or.inl ⟨by rfl, ?_⟩) (by assumption) ?_
  · intro W hSW
    obtain ⟨⟨q0, q1, q2, q3⟩, _⟩ := box4_cells hSW.1
    go_simp
  simp only [Act.put, List.setIfInBounds_toArray]
  refine wpAnyH_take (i := 2) (v := .pointer (some ⟨w.heap.size, 2, none⟩)) rfl (by kernel_rfl) (by kernel_rfl) (by kernel_rfl) (fun _ _ _ h => h) (Or.inl ⟨by rfl, ?_⟩) (by assumption) ?_
  · intro W hSW
    go_simp
  simp only [Act.put]
  refine wpAnyH_take (i := 3) (v := .int .i64 ttl) rfl (by kernel_rfl) (by kernel_rfl) (by kernel_rfl) (fun _ _ _ h => h) (Or.inl ⟨by rfl, ?_⟩) (by assumption) ?_
  · intro W hSW
    obtain ⟨⟨q0, q1, q2, q3⟩, _⟩ := box4_cells hSW.1
    go_simp
  simp only [Act.put]
  refine wpAnyH_take (i := 4) (v := .string data) rfl (by kernel_rfl) (by kernel_rfl) (by kernel_rfl) (fun _ _ _ h => h) (Or.inl ⟨by rfl, ?_⟩) (by assumption) ?_
  · intro W hSW
    go_simp
  simp only [Act.put]
  refine wpAnyH_take (i := 5) (v := .int .i64 (data.size : Int)) rfl (by kernel_rfl) (by kernel_rfl) (by kernel_rfl) (fun _ _ _ h => h) (Or.inl ⟨by rfl, ?_⟩) (by assumption) ?_
  · intro W hSW
    go_simp
  simp only [Act.put]
  refine wpAnyH_ready (rs := [1]) (by kernel_rfl) (by simp) ?_
  refine AllReadyH.cons rfl (fun K hK => ?_) AllReadyH.nil
  rw [if_pos (by rfl)]
  go_simp
  refine (HO.out _).mono ?_
  rintro e w2 ⟨rfl, hb2⟩
  go_simp
  obtain ⟨hr0, ⟨u0, u1, u2, u3, hz0⟩, hbw0, hs0⟩ := hS0
  have hs2 : W0.drew.heap.size ≤ w2.heap.size := hb2.size
  have HR2 : w2.heap[w.heap.size]? = some (.cells #[.string nm, .int .i64 ty, .int .i64 ttl, .string d] 35) := (hb2.block w.heap.size (by omega)).trans hr0
  have HZ2 : w2.heap[w.heap.size + 1]? = some (.cells #[u0, u1, u2, u3] 74) := (hb2.block (w.heap.size + 1) (by omega)).trans hz0
  have hbw2 : Below w.heap.size w w2 := hbw0.trans (hb2.mono hbw0.size)
  refine hK.out _ _ ⟨HR2, ⟨_, _, _, _, HZ2⟩, hbw2, by omega⟩ (fun hS => ?_)
  clear hK
  refine wpAnyH_take (i := 6) (v := .agg #[.string nm, .int .i64 ty, .int .i64 ttl, .int .i64 (data.size : Int)]) rfl (by kernel_rfl) (by kernel_rfl) (by kernel_rfl) (fun _ _ _ h => h) (Or.inl ⟨by rfl, ?_⟩) (by assumption) ?_
  · intro W hSW
    go_simp
  simp only [Act.put, List.setIfInBounds_toArray]
  refine wpAnyH_ready (rs := [7]) (by kernel_rfl) (by simp) ?_
  refine AllReadyH.cons rfl (fun K hK => ?_) AllReadyH.nil
  rw [if_pos (by rfl)]
  obtain ⟨⟨c0, c1, c2, c3⟩, ⟨f0, f1, f2, f3⟩⟩ := box4_cells HZ2
  go_simp
  refine hK.out _ _ ⟨?_, ⟨_, _, _, _, set4_heap HZ2⟩, set4_below hbw2 (Nat.le_succ _) _ _ _ _, by simp; omega⟩ (fun hS3 => ?_)
  · rw [heap_setCell_other _ _ _ _ (show w.heap.size ≠ w.heap.size + 1 by omega), heap_setCell_other _ _ _ _ (show w.heap.size ≠ w.heap.size + 1 by omega), heap_setCell_other _ _ _ _ (show w.heap.size ≠ w.heap.size + 1 by omega), heap_setCell_other _ _ _ _ (show w.heap.size ≠ w.heap.size + 1 by omega)]; exact HR2
  clear hK
  refine wpAnyH_done (by kernel_rfl) ?_ _
  refine NoPanic.normal ?_
  go_wp2_with fail
  (try simp only [Exit.inBlock, Exit.then])
  refine bodyPost_ret (results_cell_row rfl _ _ (w.heap.size + 1) 74 #[.string nm, .int .i64 ty, .int .i64 ttl, .int .i64 (data.size : Int)] (0, 0) _ rfl (set4_heap HZ2) Tryz.underlying74 rfl (by kernel_rfl)) rfl ⟨rfl, set4_below hbw2 (Nat.le_succ _) _ _ _ _⟩

set_option maxRecDepth 20000 in
set_option maxHeartbeats 1000000 in
theorem recWire_any (nm : ByteArray) (ty ttl z : Int) (w : World) (h1 : 0 ≤ ty) (h2 : ty ≤ 9223372036854775807) (h3 : 0 ≤ ttl) (h4 : ttl ≤ 9223372036854775807) (h5 : 0 ≤ z) (h6 : z ≤ 9223372036854775807) :
    Calls Tryz.prog 39 #[.agg #[.string nm, .int .i64 ty, .int .i64 ttl, .int .i64 z]] w fun e w' => e = .returned (.string ⟨(beB ty 1 ++ beB ttl 3 ++ beB z 1).toArray⟩) ∧ Below w.heap.size w w' := by
  have HK0 : ∀ W, Calls Tryz.prog 35 #[.agg #[.string nm, .int .i64 ty]] W fun e w' => e = .returned (.string ⟨(beB ty 1).toArray⟩) ∧ Below W.heap.size W w' := fun W => kindByte_any nm ty W h1 h2
  have HL0 : ∀ W, Calls Tryz.prog 42 #[.int .i64 ttl, .int .i64 3] W fun e w' => e = .returned (.string ⟨(beB ttl 3).toArray⟩) ∧ Below W.heap.size W w' := fun W => numberBytes_any ttl 3 W h3 h4 (by omega)
  have HZ0 : ∀ W, Calls Tryz.prog 42 #[.int .i64 z, .int .i64 1] W fun e w' => e = .returned (.string ⟨(beB z 1).toArray⟩) ∧ Below W.heap.size W w' := fun W => numberBytes_any z 1 W h5 h6 (by omega)
  have hl1 : (beB ty 1).length ≤ 1 := by rw [beB_length]; omega
  have hl2 : (beB ttl 3).length ≤ 3 := by rw [beB_length]; omega
  have hl3 : (beB z 1).length ≤ 1 := by rw [beB_length]; omega
  obtain ⟨p1, hp1⟩ : ∃ p, p = beB ty 1 := ⟨_, rfl⟩
  obtain ⟨p2, hp2⟩ : ∃ p, p = beB ttl 3 := ⟨_, rfl⟩
  obtain ⟨p3, hp3⟩ : ∃ p, p = beB z 1 := ⟨_, rfl⟩
  rw [← hp1] at HK0 hl1 ⊢
  rw [← hp2] at HL0 hl2 ⊢
  rw [← hp3] at HZ0 hl3 ⊢
  have HK : Hid (∀ W, Calls Tryz.prog 35 #[.agg #[.string nm, .int .i64 ty]] W fun e w' => e = .returned (.string ⟨p1.toArray⟩) ∧ Below W.heap.size W w') := HK0
  have HL : Hid (∀ W, Calls Tryz.prog 42 #[.int .i64 ttl, .int .i64 3] W fun e w' => e = .returned (.string ⟨p2.toArray⟩) ∧ Below W.heap.size W w') := HL0
  have HZ : Hid (∀ W, Calls Tryz.prog 42 #[.int .i64 z, .int .i64 1] W fun e w' => e = .returned (.string ⟨p3.toArray⟩) ∧ Below W.heap.size W w') := HZ0
  obtain ⟨W0, hW0⟩ : ∃ W0, W0 = w.alloc (.cells #[.string nm, .int .i64 ty, .int .i64 ttl, .int .i64 z] 74) := ⟨_, rfl⟩
  have HX : Hid (∀ W, Below W0.heap.size W0 W → W.cell? ⟨w.heap.size, 0, none⟩ = some (.string nm) ∧ W.cell? ⟨w.heap.size, 1, none⟩ = some (.int .i64 ty) ∧ W.cell? ⟨w.heap.size, 2, none⟩ = some (.int .i64 ttl) ∧ W.cell? ⟨w.heap.size, 3, none⟩ = some (.int .i64 z) ∧ Below w.heap.size w W) := fun W h => by rw [hW0] at h; exact box4 h
  have HTR : Hid (∀ W W', Below W0.heap.size W0 W → Below W.heap.size W W' → Below W0.heap.size W0 W') := fun W W' h1 h2 => h1.trans (h2.mono h1.size)
  have hbd : Below W0.heap.size W0 W0.drew := (Below.refl _ _).drew
  have HW0 : Hid (w.alloc (.cells #[.string nm, .int .i64 ty, .int .i64 ttl, .int .i64 z] 74) = W0) := hW0.symm
  clear hp1 hp2 hp3 hW0 HK0 HL0 HZ0 h1 h2 h3 h4 h5 h6
  go_enter Tryz.func39, Tryz.ntmps39
  go_wp2_with fail
  rw [HW0.out]
  refine wp_region_quiet (C := fun W => Below W0.heap.size W0 W) (by kernel_rfl) (by kernel_rfl) hbd ?_
  refine wpQuiet_step (fun K hK => ?_)
  rw [if_pos (by rfl)]
  refine ⟨.pointer (some ⟨w.heap.size, 0, none⟩), fun W hW => quiet_ok ?_, hK _ ?_⟩
  · have q0 := (HX.out W hW).1
    have q1 := (HX.out W hW).2.1
    have q2 := (HX.out W hW).2.2.1
    have q3 := (HX.out W hW).2.2.2.1
    go_simp
    all_goals (try omega)
  clear hK K
  simp only [Act.put, List.setIfInBounds_toArray, List.set_cons_succ, List.set_cons_zero]
  refine wpQuiet_step (fun K hK => ?_)
  rw [if_pos (by rfl)]
  refine ⟨.agg #[.string nm, .int .i64 ty], fun W hW => quiet_ok ?_, hK _ ?_⟩
  · have q0 := (HX.out W hW).1
    have q1 := (HX.out W hW).2.1
    have q2 := (HX.out W hW).2.2.1
    have q3 := (HX.out W hW).2.2.2.1
    go_simp
    all_goals (try omega)
  clear hK K
  simp only [Act.put, List.setIfInBounds_toArray, List.set_cons_succ, List.set_cons_zero]
  refine wpQuiet_step (fun K hK => ?_)
  rw [if_pos (by rfl)]
  refine ⟨.string ⟨p1.toArray⟩, fun W hW => quiet_call (f := 35) (args := #[.agg #[.string nm, .int .i64 ty]]) ?_ ?_, hK _ ?_⟩
  · go_simp
  · exact (HK.out W).mono fun e w'' h => ⟨h.1, HTR.out _ _ hW h.2⟩
  clear hK K
  simp only [Act.put, List.setIfInBounds_toArray, List.set_cons_succ, List.set_cons_zero]
  refine wpQuiet_step (fun K hK => ?_)
  rw [if_pos (by rfl)]
  refine ⟨.pointer (some ⟨w.heap.size, 2, none⟩), fun W hW => quiet_ok ?_, hK _ ?_⟩
  · have q0 := (HX.out W hW).1
    have q1 := (HX.out W hW).2.1
    have q2 := (HX.out W hW).2.2.1
    have q3 := (HX.out W hW).2.2.2.1
    go_simp
    all_goals (try omega)
  clear hK K
  simp only [Act.put, List.setIfInBounds_toArray, List.set_cons_succ, List.set_cons_zero]
  refine wpQuiet_step (fun K hK => ?_)
  rw [if_pos (by rfl)]
  refine ⟨.int .i64 ttl, fun W hW => quiet_ok ?_, hK _ ?_⟩
  · have q0 := (HX.out W hW).1
    have q1 := (HX.out W hW).2.1
    have q2 := (HX.out W hW).2.2.1
    have q3 := (HX.out W hW).2.2.2.1
    go_simp
    all_goals (try omega)
  clear hK K
  simp only [Act.put, List.setIfInBounds_toArray, List.set_cons_succ, List.set_cons_zero]
  refine wpQuiet_step (fun K hK => ?_)
  rw [if_pos (by rfl)]
  refine ⟨.string ⟨p2.toArray⟩, fun W hW => quiet_call (f := 42) (args := #[.int .i64 ttl, .int .i64 3]) ?_ ?_, hK _ ?_⟩
  · go_simp
  · exact (HL.out W).mono fun e w'' h => ⟨h.1, HTR.out _ _ hW h.2⟩
  clear hK K
  simp only [Act.put, List.setIfInBounds_toArray, List.set_cons_succ, List.set_cons_zero]
  refine wpQuiet_step (fun K hK => ?_)
  rw [if_pos (by rfl)]
  refine ⟨.string (⟨p1.toArray⟩ ++ ⟨p2.toArray⟩), fun W hW => quiet_ok ?_, hK _ ?_⟩
  · have q0 := (HX.out W hW).1
    have q1 := (HX.out W hW).2.1
    have q2 := (HX.out W hW).2.2.1
    have q3 := (HX.out W hW).2.2.2.1
    go_simp
    all_goals (try omega)
  clear hK K
  simp only [Act.put, List.setIfInBounds_toArray, List.set_cons_succ, List.set_cons_zero]
  refine wpQuiet_step (fun K hK => ?_)
  rw [if_pos (by rfl)]
  refine ⟨.pointer (some ⟨w.heap.size, 3, none⟩), fun W hW => quiet_ok ?_, hK _ ?_⟩
  · have q0 := (HX.out W hW).1
    have q1 := (HX.out W hW).2.1
    have q2 := (HX.out W hW).2.2.1
    have q3 := (HX.out W hW).2.2.2.1
    go_simp
    all_goals (try omega)
  clear hK K
  simp only [Act.put, List.setIfInBounds_toArray, List.set_cons_succ, List.set_cons_zero]
  refine wpQuiet_step (fun K hK => ?_)
  rw [if_pos (by rfl)]
  refine ⟨.int .i64 z, fun W hW => quiet_ok ?_, hK _ ?_⟩
  · have q0 := (HX.out W hW).1
    have q1 := (HX.out W hW).2.1
    have q2 := (HX.out W hW).2.2.1
    have q3 := (HX.out W hW).2.2.2.1
    go_simp
    all_goals (try omega)
  clear hK K
  simp only [Act.put, List.setIfInBounds_toArray, List.set_cons_succ, List.set_cons_zero]
  refine wpQuiet_step (fun K hK => ?_)
  rw [if_pos (by rfl)]
  refine ⟨.string ⟨p3.toArray⟩, fun W hW => quiet_call (f := 42) (args := #[.int .i64 z, .int .i64 1]) ?_ ?_, hK _ ?_⟩
  · go_simp
  · exact (HZ.out W).mono fun e w'' h => ⟨h.1, HTR.out _ _ hW h.2⟩
  clear hK K
  simp only [Act.put, List.setIfInBounds_toArray, List.set_cons_succ, List.set_cons_zero]
  refine wpQuiet_step (fun K hK => ?_)
  rw [if_pos (by rfl)]
  refine ⟨.string (⟨p1.toArray⟩ ++ ⟨p2.toArray⟩ ++ ⟨p3.toArray⟩), fun W hW => quiet_ok ?_, hK _ ?_⟩
  · have q0 := (HX.out W hW).1
    have q1 := (HX.out W hW).2.1
    have q2 := (HX.out W hW).2.2.1
    have q3 := (HX.out W hW).2.2.2.1
    go_simp
    all_goals (try omega)
  clear hK K
  simp only [Act.put, List.setIfInBounds_toArray, List.set_cons_succ, List.set_cons_zero]
  refine wpQuiet_step (fun K hK => ?_)
  rw [if_pos (by rfl)]
  refine ⟨.string (⟨p1.toArray⟩ ++ ⟨p2.toArray⟩ ++ ⟨p3.toArray⟩), fun W hW => quiet_ok ?_, hK _ ?_⟩
  · have q0 := (HX.out W hW).1
    have q1 := (HX.out W hW).2.1
    have q2 := (HX.out W hW).2.2.1
    have q3 := (HX.out W hW).2.2.2.1
    go_simp
    all_goals (try omega)
  clear hK K
  simp only [Act.put, List.setIfInBounds_toArray, List.set_cons_succ, List.set_cons_zero]
  refine wpQuiet_nil ?_
  intro W hW
  go_wp2_with fail
  go_ret
  exact ⟨congrArg Ending.returned (val_strM (by simp)), (HX.out W hW).2.2.2.2⟩

set_option maxRecDepth 20000 in
set_option maxHeartbeats 1000000 in
theorem msgWire_any (nm : ByteArray) (ty mi mk code la lu : Int) (w : World) (h1 : 0 ≤ mi) (h2 : mi ≤ 65535) (h3 : 0 ≤ mk) (h4 : mk ≤ 255) (h5 : 0 ≤ code) (h6 : code ≤ 255) (h7 : 0 ≤ la) (h8 : la ≤ 255) (h9 : 0 ≤ lu) (h10 : lu ≤ 255) :
    Calls Tryz.prog 41 #[HeadV nm ty mi mk code la lu] w fun e w' => e = .returned (.string ⟨(beB mi 2 ++ beB mk 1 ++ beB code 1 ++ (beB la 1 ++ beB lu 1)).toArray⟩) ∧ Below w.heap.size w w' := by
  unfold HeadV
  have HN : Hid (∀ (n : Int) (N : Nat) W, 0 ≤ n → n ≤ 65535 → N ≤ 8 → Calls Tryz.prog 42 #[.int .i64 n, .int .i64 (N : Int)] W fun e w' => e = .returned (.string ⟨(beB n N).toArray⟩) ∧ Below W.heap.size W w') := fun n N W a b c => numberBytes_any n N W a (by omega) c
  have HA0 : ∀ W, Calls Tryz.prog 42 #[.int .i64 la, .int .i64 1] W fun e w' => e = .returned (.string ⟨(beB la 1).toArray⟩) ∧ Below W.heap.size W w' := fun W => HN.out la 1 W h7 (by omega) (by omega)
  have HU0 : ∀ W, Calls Tryz.prog 42 #[.int .i64 lu, .int .i64 1] W fun e w' => e = .returned (.string ⟨(beB lu 1).toArray⟩) ∧ Below W.heap.size W w' := fun W => HN.out lu 1 W h9 (by omega) (by omega)
  have HI0 : ∀ W, Calls Tryz.prog 42 #[.int .i64 mi, .int .i64 2] W fun e w' => e = .returned (.string ⟨(beB mi 2).toArray⟩) ∧ Below W.heap.size W w' := fun W => HN.out mi 2 W h1 h2 (by omega)
  have HM0 : ∀ W, Calls Tryz.prog 42 #[.int .i64 mk, .int .i64 1] W fun e w' => e = .returned (.string ⟨(beB mk 1).toArray⟩) ∧ Below W.heap.size W w' := fun W => HN.out mk 1 W h3 (by omega) (by omega)
  have HC0 : ∀ W, Calls Tryz.prog 42 #[.int .i64 code, .int .i64 1] W fun e w' => e = .returned (.string ⟨(beB code 1).toArray⟩) ∧ Below W.heap.size W w' := fun W => HN.out code 1 W h5 (by omega) (by omega)
  have hl1 : (beB la 1).length ≤ 1 := by rw [beB_length]; omega
  have hl2 : (beB lu 1).length ≤ 1 := by rw [beB_length]; omega
  have hl3 : (beB mi 2).length ≤ 2 := by rw [beB_length]; omega
  have hl4 : (beB mk 1).length ≤ 1 := by rw [beB_length]; omega
  have hl5 : (beB code 1).length ≤ 1 := by rw [beB_length]; omega
  obtain ⟨p1, hp1⟩ : ∃ p, p = beB la 1 := ⟨_, rfl⟩
  obtain ⟨p2, hp2⟩ : ∃ p, p = beB lu 1 := ⟨_, rfl⟩
  obtain ⟨p3, hp3⟩ : ∃ p, p = beB mi 2 := ⟨_, rfl⟩
  obtain ⟨p4, hp4⟩ : ∃ p, p = beB mk 1 := ⟨_, rfl⟩
  obtain ⟨p5, hp5⟩ : ∃ p, p = beB code 1 := ⟨_, rfl⟩
  rw [← hp1, ← hp2, ← hp3, ← hp4, ← hp5]
  rw [← hp1] at HA0 hl1
  rw [← hp2] at HU0 hl2
  rw [← hp3] at HI0 hl3
  rw [← hp4] at HM0 hl4
  rw [← hp5] at HC0 hl5
  have HA : Hid (∀ W, Calls Tryz.prog 42 #[.int .i64 la, .int .i64 1] W fun e w' => e = .returned (.string ⟨p1.toArray⟩) ∧ Below W.heap.size W w') := HA0
  have HU : Hid (∀ W, Calls Tryz.prog 42 #[.int .i64 lu, .int .i64 1] W fun e w' => e = .returned (.string ⟨p2.toArray⟩) ∧ Below W.heap.size W w') := HU0
  have HI : Hid (∀ W, Calls Tryz.prog 42 #[.int .i64 mi, .int .i64 2] W fun e w' => e = .returned (.string ⟨p3.toArray⟩) ∧ Below W.heap.size W w') := HI0
  have HM : Hid (∀ W, Calls Tryz.prog 42 #[.int .i64 mk, .int .i64 1] W fun e w' => e = .returned (.string ⟨p4.toArray⟩) ∧ Below W.heap.size W w') := HM0
  have HC : Hid (∀ W, Calls Tryz.prog 42 #[.int .i64 code, .int .i64 1] W fun e w' => e = .returned (.string ⟨p5.toArray⟩) ∧ Below W.heap.size W w') := HC0
  obtain ⟨W0, hW0⟩ : ∃ W0, W0 = w.alloc (.cells #[.string nm, .int .i64 ty, .int .i64 mi, .int .i64 mk, .int .i64 code, .int .i64 la, .int .i64 lu] 68) := ⟨_, rfl⟩
  have HX : Hid (∀ W, Below W0.heap.size W0 W → (W.cell? ⟨w.heap.size, 2, none⟩ = some (.int .i64 mi) ∧ W.cell? ⟨w.heap.size, 3, none⟩ = some (.int .i64 mk) ∧ W.cell? ⟨w.heap.size, 4, none⟩ = some (.int .i64 code) ∧ W.cell? ⟨w.heap.size, 5, none⟩ = some (.int .i64 la) ∧ W.cell? ⟨w.heap.size, 6, none⟩ = some (.int .i64 lu)) ∧ Below w.heap.size w W) := fun W h => by
    rw [hW0] at h
    have hc := head_cells ((h.block w.heap.size (by simp)).trans (blk_new _ _))
    exact ⟨⟨hc.2.2.1, hc.2.2.2.1, hc.2.2.2.2.1, hc.2.2.2.2.2.1, hc.2.2.2.2.2.2⟩, ((Below.refl w.heap.size w).alloc (Nat.le_refl _) _).trans (h.mono (by simp))⟩
  have HTR : Hid (∀ W W', Below W0.heap.size W0 W → Below W.heap.size W W' → Below W0.heap.size W0 W') := fun W W' h1 h2 => h1.trans (h2.mono h1.size)
  have hbd : Below W0.heap.size W0 W0.drew := (Below.refl _ _).drew
  have HW0 : Hid (w.alloc (.cells #[.string nm, .int .i64 ty, .int .i64 mi, .int .i64 mk, .int .i64 code, .int .i64 la, .int .i64 lu] 68) = W0) := hW0.symm
  clear hp1 hp2 hp3 hp4 hp5 hW0 HA0 HU0 HI0 HM0 HC0 HN h1 h2 h3 h4 h5 h6 h7 h8 h9 h10
  go_enter Tryz.func41, Tryz.ntmps41
  go_wp2_with fail
  rw [HW0.out]
  refine wp_region_quiet (C := fun W => Below W0.heap.size W0 W) (by kernel_rfl) (by kernel_rfl) hbd ?_
  refine wpQuiet_step (fun K hK => ?_)
  rw [if_pos (by rfl)]
  refine ⟨.pointer (some ⟨w.heap.size, 5, none⟩), fun W hW => quiet_ok ?_, hK _ ?_⟩
  · have q := (HX.out W hW).1
    obtain ⟨q2, q3, q4, q5, q6⟩ := q
    go_simp
    all_goals (try omega)
  clear hK K
  simp only [Act.put, List.setIfInBounds_toArray, List.set_cons_succ, List.set_cons_zero]
  refine wpQuiet_step (fun K hK => ?_)
  rw [if_pos (by rfl)]
  refine ⟨.int .i64 la, fun W hW => quiet_ok ?_, hK _ ?_⟩
  · have q := (HX.out W hW).1
    obtain ⟨q2, q3, q4, q5, q6⟩ := q
    go_simp
    all_goals (try omega)
  clear hK K
  simp only [Act.put, List.setIfInBounds_toArray, List.set_cons_succ, List.set_cons_zero]
  refine wpQuiet_step (fun K hK => ?_)
  rw [if_pos (by rfl)]
  refine ⟨.string ⟨p1.toArray⟩, fun W hW => quiet_call (f := 42) (args := #[.int .i64 la, .int .i64 1]) ?_ ?_, hK _ ?_⟩
  · go_simp
  · exact (HA.out W).mono fun e w'' h => ⟨h.1, HTR.out _ _ hW h.2⟩
  clear hK K
  simp only [Act.put, List.setIfInBounds_toArray, List.set_cons_succ, List.set_cons_zero]
  refine wpQuiet_step (fun K hK => ?_)
  rw [if_pos (by rfl)]
  refine ⟨.pointer (some ⟨w.heap.size, 6, none⟩), fun W hW => quiet_ok ?_, hK _ ?_⟩
  · have q := (HX.out W hW).1
    obtain ⟨q2, q3, q4, q5, q6⟩ := q
    go_simp
    all_goals (try omega)
  clear hK K
  simp only [Act.put, List.setIfInBounds_toArray, List.set_cons_succ, List.set_cons_zero]
  refine wpQuiet_step (fun K hK => ?_)
  rw [if_pos (by rfl)]
  refine ⟨.int .i64 lu, fun W hW => quiet_ok ?_, hK _ ?_⟩
  · have q := (HX.out W hW).1
    obtain ⟨q2, q3, q4, q5, q6⟩ := q
    go_simp
    all_goals (try omega)
  clear hK K
  simp only [Act.put, List.setIfInBounds_toArray, List.set_cons_succ, List.set_cons_zero]
  refine wpQuiet_step (fun K hK => ?_)
  rw [if_pos (by rfl)]
  refine ⟨.string ⟨p2.toArray⟩, fun W hW => quiet_call (f := 42) (args := #[.int .i64 lu, .int .i64 1]) ?_ ?_, hK _ ?_⟩
  · go_simp
  · exact (HU.out W).mono fun e w'' h => ⟨h.1, HTR.out _ _ hW h.2⟩
  clear hK K
  simp only [Act.put, List.setIfInBounds_toArray, List.set_cons_succ, List.set_cons_zero]
  refine wpQuiet_step (fun K hK => ?_)
  rw [if_pos (by rfl)]
  refine ⟨.string (⟨p1.toArray⟩ ++ ⟨p2.toArray⟩), fun W hW => quiet_ok ?_, hK _ ?_⟩
  · have q := (HX.out W hW).1
    obtain ⟨q2, q3, q4, q5, q6⟩ := q
    go_simp
    all_goals (try omega)
  clear hK K
  simp only [Act.put, List.setIfInBounds_toArray, List.set_cons_succ, List.set_cons_zero]
  refine wpQuiet_step (fun K hK => ?_)
  rw [if_pos (by rfl)]
  refine ⟨.string (⟨p1.toArray⟩ ++ ⟨p2.toArray⟩), fun W hW => quiet_ok ?_, hK _ ?_⟩
  · have q := (HX.out W hW).1
    obtain ⟨q2, q3, q4, q5, q6⟩ := q
    go_simp
    all_goals (try omega)
  clear hK K
  simp only [Act.put, List.setIfInBounds_toArray, List.set_cons_succ, List.set_cons_zero]
  refine wpQuiet_nil ?_
  intro W1 hW1
  have hbd1 : Below W0.heap.size W0 W1.drew := hW1.drew
  clear hbd
  go_wp2_with fail
  refine wp_region_quiet (C := fun W => Below W0.heap.size W0 W) (by kernel_rfl) (by kernel_rfl) hbd1 ?_
  refine wpQuiet_step (fun K hK => ?_)
  rw [if_pos (by rfl)]
  refine ⟨.pointer (some ⟨w.heap.size, 2, none⟩), fun W hW => quiet_ok ?_, hK _ ?_⟩
  · have q := (HX.out W hW).1
    obtain ⟨q2, q3, q4, q5, q6⟩ := q
    go_simp
    all_goals (try omega)
  clear hK K
  simp only [Act.put, List.setIfInBounds_toArray, List.set_cons_succ, List.set_cons_zero]
  refine wpQuiet_step (fun K hK => ?_)
  rw [if_pos (by rfl)]
  refine ⟨.int .i64 mi, fun W hW => quiet_ok ?_, hK _ ?_⟩
  · have q := (HX.out W hW).1
    obtain ⟨q2, q3, q4, q5, q6⟩ := q
    go_simp
    all_goals (try omega)
  clear hK K
  simp only [Act.put, List.setIfInBounds_toArray, List.set_cons_succ, List.set_cons_zero]
  refine wpQuiet_step (fun K hK => ?_)
  rw [if_pos (by rfl)]
  refine ⟨.string ⟨p3.toArray⟩, fun W hW => quiet_call (f := 42) (args := #[.int .i64 mi, .int .i64 2]) ?_ ?_, hK _ ?_⟩
  · go_simp
  · exact (HI.out W).mono fun e w'' h => ⟨h.1, HTR.out _ _ hW h.2⟩
  clear hK K
  simp only [Act.put, List.setIfInBounds_toArray, List.set_cons_succ, List.set_cons_zero]
  refine wpQuiet_step (fun K hK => ?_)
  rw [if_pos (by rfl)]
  refine ⟨.pointer (some ⟨w.heap.size, 3, none⟩), fun W hW => quiet_ok ?_, hK _ ?_⟩
  · have q := (HX.out W hW).1
    obtain ⟨q2, q3, q4, q5, q6⟩ := q
    go_simp
    all_goals (try omega)
  clear hK K
  simp only [Act.put, List.setIfInBounds_toArray, List.set_cons_succ, List.set_cons_zero]
  refine wpQuiet_step (fun K hK => ?_)
  rw [if_pos (by rfl)]
  refine ⟨.int .i64 mk, fun W hW => quiet_ok ?_, hK _ ?_⟩
  · have q := (HX.out W hW).1
    obtain ⟨q2, q3, q4, q5, q6⟩ := q
    go_simp
    all_goals (try omega)
  clear hK K
  simp only [Act.put, List.setIfInBounds_toArray, List.set_cons_succ, List.set_cons_zero]
  refine wpQuiet_step (fun K hK => ?_)
  rw [if_pos (by rfl)]
  refine ⟨.string ⟨p4.toArray⟩, fun W hW => quiet_call (f := 42) (args := #[.int .i64 mk, .int .i64 1]) ?_ ?_, hK _ ?_⟩
  · go_simp
  · exact (HM.out W).mono fun e w'' h => ⟨h.1, HTR.out _ _ hW h.2⟩
  clear hK K
  simp only [Act.put, List.setIfInBounds_toArray, List.set_cons_succ, List.set_cons_zero]
  refine wpQuiet_step (fun K hK => ?_)
  rw [if_pos (by rfl)]
  refine ⟨.string (⟨p3.toArray⟩ ++ ⟨p4.toArray⟩), fun W hW => quiet_ok ?_, hK _ ?_⟩
  · have q := (HX.out W hW).1
    obtain ⟨q2, q3, q4, q5, q6⟩ := q
    go_simp
    all_goals (try omega)
  clear hK K
  simp only [Act.put, List.setIfInBounds_toArray, List.set_cons_succ, List.set_cons_zero]
  refine wpQuiet_step (fun K hK => ?_)
  rw [if_pos (by rfl)]
  refine ⟨.pointer (some ⟨w.heap.size, 4, none⟩), fun W hW => quiet_ok ?_, hK _ ?_⟩
  · have q := (HX.out W hW).1
    obtain ⟨q2, q3, q4, q5, q6⟩ := q
    go_simp
    all_goals (try omega)
  clear hK K
  simp only [Act.put, List.setIfInBounds_toArray, List.set_cons_succ, List.set_cons_zero]
  refine wpQuiet_step (fun K hK => ?_)
  rw [if_pos (by rfl)]
  refine ⟨.int .i64 code, fun W hW => quiet_ok ?_, hK _ ?_⟩
  · have q := (HX.out W hW).1
    obtain ⟨q2, q3, q4, q5, q6⟩ := q
    go_simp
    all_goals (try omega)
  clear hK K
  simp only [Act.put, List.setIfInBounds_toArray, List.set_cons_succ, List.set_cons_zero]
  refine wpQuiet_step (fun K hK => ?_)
  rw [if_pos (by rfl)]
  refine ⟨.string ⟨p5.toArray⟩, fun W hW => quiet_call (f := 42) (args := #[.int .i64 code, .int .i64 1]) ?_ ?_, hK _ ?_⟩
  · go_simp
  · exact (HC.out W).mono fun e w'' h => ⟨h.1, HTR.out _ _ hW h.2⟩
  clear hK K
  simp only [Act.put, List.setIfInBounds_toArray, List.set_cons_succ, List.set_cons_zero]
  refine wpQuiet_step (fun K hK => ?_)
  rw [if_pos (by rfl)]
  refine ⟨.string (⟨p3.toArray⟩ ++ ⟨p4.toArray⟩ ++ ⟨p5.toArray⟩), fun W hW => quiet_ok ?_, hK _ ?_⟩
  · have q := (HX.out W hW).1
    obtain ⟨q2, q3, q4, q5, q6⟩ := q
    go_simp
    all_goals (try omega)
  clear hK K
  simp only [Act.put, List.setIfInBounds_toArray, List.set_cons_succ, List.set_cons_zero]
  refine wpQuiet_step (fun K hK => ?_)
  rw [if_pos (by rfl)]
  refine ⟨.string (⟨p1.toArray⟩ ++ ⟨p2.toArray⟩), fun W hW => quiet_ok ?_, hK _ ?_⟩
  · have q := (HX.out W hW).1
    obtain ⟨q2, q3, q4, q5, q6⟩ := q
    go_simp
    all_goals (try omega)
  clear hK K
  simp only [Act.put, List.setIfInBounds_toArray, List.set_cons_succ, List.set_cons_zero]
  refine wpQuiet_step (fun K hK => ?_)
  rw [if_pos (by rfl)]
  refine ⟨.string (⟨p3.toArray⟩ ++ ⟨p4.toArray⟩ ++ ⟨p5.toArray⟩ ++ (⟨p1.toArray⟩ ++ ⟨p2.toArray⟩)), fun W hW => quiet_ok ?_, hK _ ?_⟩
  · have q := (HX.out W hW).1
    obtain ⟨q2, q3, q4, q5, q6⟩ := q
    go_simp
    all_goals (try omega)
  clear hK K
  simp only [Act.put, List.setIfInBounds_toArray, List.set_cons_succ, List.set_cons_zero]
  refine wpQuiet_step (fun K hK => ?_)
  rw [if_pos (by rfl)]
  refine ⟨.string (⟨p3.toArray⟩ ++ ⟨p4.toArray⟩ ++ ⟨p5.toArray⟩ ++ (⟨p1.toArray⟩ ++ ⟨p2.toArray⟩)), fun W hW => quiet_ok ?_, hK _ ?_⟩
  · have q := (HX.out W hW).1
    obtain ⟨q2, q3, q4, q5, q6⟩ := q
    go_simp
    all_goals (try omega)
  clear hK K
  simp only [Act.put, List.setIfInBounds_toArray, List.set_cons_succ, List.set_cons_zero]
  refine wpQuiet_nil ?_
  intro W hW
  go_wp2_with fail
  go_ret
  exact ⟨congrArg Ending.returned (val_strM (by simp)), (HX.out W hW).2⟩
end Go.Proofs.YtpghpeombednkaaGreatDoor
