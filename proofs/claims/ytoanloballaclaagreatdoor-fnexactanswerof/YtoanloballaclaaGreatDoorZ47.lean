import Derived.Test.YtoanloballaclaaGreatDoorZ46
import Derived.Test.YtoanloballaclaaGreatDoorZ05
namespace Go.Proofs.YtoanloballaclaaGreatDoor
open Go.RowKit

/-- The record that is told. -/
def anN (n : List UInt8) (L : List TgtT) (ri fa : Int) (H : List HosT) (d : Int) : List UInt8 := if chB n L ri fa H d = true then n else []
def anD (n : List UInt8) (L : List TgtT) (ri fa : Int) (H : List HosT) (d : Int) : List UInt8 := if chB n L ri fa H d = true then (L.getD (chA n L ri fa H d).toNat ([], [], 0, 0)).2.1 else []
def anT (n : List UInt8) (L : List TgtT) (ri fa : Int) (H : List HosT) (d : Int) : Int := if chB n L ri fa H d = true then 1 else 0
def anL (n : List UInt8) (L : List TgtT) (ri fa : Int) (H : List HosT) (d : Int) : Int := if chB n L ri fa H d = true then 5 else 0
theorem an_off {n : List UInt8} {L : List TgtT} {ri fa : Int} {H : List HosT} {d : Int} (h : chB n L ri fa H d = false) : anN n L ri fa H d = [] ∧ anD n L ri fa H d = [] ∧ anT n L ri fa H d = 0 ∧ anL n L ri fa H d = 0 := by unfold anN anD anT anL; rw [h]; exact ⟨rfl, rfl, rfl, rfl⟩
theorem an_on {n : List UInt8} {L : List TgtT} {ri fa : Int} {H : List HosT} {d : Int} (h : chB n L ri fa H d = true) : anN n L ri fa H d = n ∧ anT n L ri fa H d = 1 ∧ anL n L ri fa H d = 5 ∧ ∃ i : Nat, ∃ hi : i < L.length, chA n L ri fa H d = (i : Int) ∧ anD n L ri fa H d = (L[i]).2.1 := by
  have hp : polB n L = true := by
    unfold chB at h
    rw [Bool.and_eq_true] at h
    exact ok_pol h.1
  have hd0 : 0 ≤ d := by
    unfold chB at h
    simp only [Bool.and_eq_true, inB, decide_eq_true_eq] at h
    exact h.2.1
  have hg := (can_good (wellB H) hp).1
  have hk := (ch_at hg hd0).1
  rw [wtsL_length] at hk
  have hA : chA n L ri fa H d = (canO (wellB H) L)[chK (wtsL L (canO (wellB H) L)) d]'hk := by
    rw [ch_on h, List.getD_eq_getElem?_getD, List.getElem?_eq_getElem hk]; rfl
  obtain ⟨i, hi, e⟩ := can_mem (List.getElem_mem hk)
  have hAi : chA n L ri fa H d = (i : Int) := hA.trans e
  refine ⟨by unfold anN; rw [h]; rfl, by unfold anT; rw [h]; rfl, by unfold anL; rw [h]; rfl, i, hi, hAi, ?_⟩
  unfold anD
  rw [h, if_pos rfl, hAi, Int.toNat_natCast, tgetD hi]
/-- Four cells stored. -/
def put4a (w : World) (g : Nat) (v0 v1 v2 v3 : Value) : World := (((w.setCell ⟨g, 0, none⟩ v0).setCell ⟨g, 1, none⟩ v1).setCell ⟨g, 2, none⟩ v2).setCell ⟨g, 3, none⟩ v3
theorem put4a_heap {w : World} {g : Nat} {t : TypeId} {v0 v1 v2 v3 u0 u1 u2 u3 : Value} (h : w.heap[g]? = some (.cells #[u0, u1, u2, u3] t)) : (put4a w g v0 v1 v2 v3).heap[g]? = some (.cells #[v0, v1, v2, v3] t) := by
  have e0 := heap_setCell_same _ _ 0 _ _ v0 h
  have e1 := heap_setCell_same _ _ 1 _ _ v1 e0
  have e2 := heap_setCell_same _ _ 2 _ _ v2 e1
  have e3 := heap_setCell_same _ _ 3 _ _ v3 e2
  unfold put4a
  simpa using e3
theorem put4a_below {B : Nat} {a w : World} (h : Below B a w) {g : Nat} (hg : B ≤ g) (v0 v1 v2 v3 : Value) : Below B a (put4a w g v0 v1 v2 v3) :=
  (((h.setCell (p := ⟨g, 0, none⟩) hg _).setCell (p := ⟨g, 1, none⟩) hg _).setCell (p := ⟨g, 2, none⟩) hg _).setCell (p := ⟨g, 3, none⟩) hg _
theorem put4a_far {w : World} {g b k : Nat} {v0 v1 v2 v3 u : Value} (h : w.cell? ⟨b, k, none⟩ = some u) (hne : b ≠ g) : (put4a w g v0 v1 v2 v3).cell? ⟨b, k, none⟩ = some u := by
  have nn : ∀ q, (⟨g, q, none⟩ : Addr) ≠ ⟨b, k, none⟩ := fun q e => hne (by injection e with e1; exact e1.symm)
  unfold put4a
  rw [World.cell?_setCell_other _ _ _ _ (nn _), World.cell?_setCell_other _ _ _ _ (nn _), World.cell?_setCell_other _ _ _ _ (nn _), World.cell?_setCell_other _ _ _ _ (nn _)]
  exact h
theorem rec_box {W : World} {b : Nat} {v0 v1 v2 v3 : Value} {t : TypeId} (h : W.heap[b]? = some (.cells #[v0, v1, v2, v3] t)) :
    (W.cell? ⟨b, 0, none⟩ = some v0 ∧ W.cell? ⟨b, 1, none⟩ = some v1 ∧ W.cell? ⟨b, 2, none⟩ = some v2 ∧ W.cell? ⟨b, 3, none⟩ = some v3) ∧ (W.frozen? ⟨b, 0, none⟩ = false ∧ W.frozen? ⟨b, 1, none⟩ = false ∧ W.frozen? ⟨b, 2, none⟩ = false ∧ W.frozen? ⟨b, 3, none⟩ = false) := by
  refine ⟨⟨?_, ?_, ?_, ?_⟩, ⟨?_, ?_, ?_, ?_⟩⟩
  all_goals first
    | (unfold World.cell?; rw [h]; rfl)
    | (unfold World.frozen?; rw [h]; simp)

set_option maxRecDepth 20000 in
set_option maxHeartbeats 400000 in
theorem eqRec_same (rn rd : ByteArray) (rt rl : Int) (w : World) :
    Calls Tryz.prog 30 #[.agg #[.string rn, .int .i64 rt, .int .i64 rl, .string rd], .agg #[.string rn, .int .i64 rt, .int .i64 rl, .string rd]] w fun e w' => e = .returned (.bool true) ∧ Below w.heap.size w w' := by
  have e2 : (rt != rt) = false := by simp
  have e3 : (rl != rl) = false := by simp
  go_enter Tryz.func30, Tryz.ntmps30
  go_wp2_with fail
  go_ret
  exact ⟨rfl, ((Below.refl _ _).alloc (Nat.le_refl _) _).alloc (by simp) _⟩

set_option maxRecDepth 20000 in
set_option maxHeartbeats 8000000 in
theorem iAnswerOf_any (n : List UInt8) (v : Value) (L : List TgtT) (ri fa : Int) (hv : Value) (H : List HosT) (d : Int) (w : World) (hr : TgtRow w v L) (hl : L.length ≤ 1048576) (hnl : n.length ≤ 1048576) (hx : Hid (∀ x ∈ L, x.1.length ≤ 1048576 ∧ x.2.1.length ≤ 1048576)) (hh : HstRow w hv H) (hE : EnvR w) :
    Calls Tryz.prog 29 #[PolV ⟨n.toArray⟩ v, HeaV ri fa hv, .int .i64 d] w fun e w' => e = .returned (.tuple #[.agg #[.string ⟨(anN n L ri fa H d).toArray⟩, .int .i64 (anT n L ri fa H d), .int .i64 (anL n L ri fa H d), .string ⟨(anD n L ri fa H d).toArray⟩], .bool (chB n L ri fa H d)]) ∧ Below w.heap.size w w' := by
  have HCT : Hid (∀ W, Below w.heap.size w W → Calls Tryz.prog 25 #[PolV ⟨n.toArray⟩ v, HeaV ri fa hv, .int .i64 d] W fun e w' => e = .returned (.tuple #[.int .i64 (chA n L ri fa H d), .bool (chB n L ri fa H d)]) ∧ Below W.heap.size W w') := fun W hW => iChooseTarget_any n v L ri fa hv H d W (hr.kept hW) hl hx (hh.kept hW) (hE.below hW)
  have HCLN : Hid (∀ W, Calls Tryz.prog 53 #[.string ⟨n.toArray⟩] W fun e w' => e = .returned (.string ⟨n.toArray⟩) ∧ Below W.heap.size W w') := fun W => cloneR_any ⟨n.toArray⟩ W (by rw [size_list]; omega)
  have HOFF := @an_off n L ri fa H d
  have HONN := @an_on n L ri fa H d
  unfold PolV HeaV at HCT
  unfold PolV HeaV
  obtain ⟨a, cap, rfl, hcap, hmax, HROW⟩ := tgt_value hr
  obtain ⟨a2, cap2, rfl, hcap2, hmax2, _⟩ := hst_value hh
  obtain ⟨W0, hW0⟩ : ∃ W0, W0 = ((w.alloc (.cells #[.string ⟨n.toArray⟩, .slice a L.length cap] 34)).alloc (.cells #[.int .i64 ri, .int .i64 fa, .slice a2 H.length cap2] 38)).alloc (.cells #[.string ⟨#[]⟩, .int .i64 0, .int .i64 0, .string ⟨#[]⟩] 55) := ⟨_, rfl⟩
  have HX : Hid (∀ W, Below W0.heap.size W0 W → (W.heap[w.heap.size]? = some (.cells #[.string ⟨n.toArray⟩, .slice a L.length cap] 34) ∧ W.heap[w.heap.size + 1]? = some (.cells #[.int .i64 ri, .int .i64 fa, .slice a2 H.length cap2] 38) ∧ W.heap[w.heap.size + 1 + 1]? = some (.cells #[.string ⟨#[]⟩, .int .i64 0, .int .i64 0, .string ⟨#[]⟩] 55)) ∧ Below w.heap.size w W) := fun W hW => by
    rw [hW0] at hW
    obtain ⟨h1, h2, h3, _, h4⟩ := tgt_below3 hW
    exact ⟨⟨h1, h2, h3⟩, h4⟩
  have hb00 : Below W0.heap.size W0 W0 := Below.refl _ _
  obtain ⟨⟨b1, b2, _⟩, hbw0⟩ := HX.out _ hb00
  obtain ⟨⟨p0, p1⟩, _⟩ := pol_cells b1
  obtain ⟨⟨h0, h1, h2⟩, _⟩ := hst_cells b2
  have hz0 : w.heap.size + 1 + 1 < W0.heap.size := by rw [hW0]; simp
  have HW0 : Hid (((w.alloc (.cells #[.string ⟨n.toArray⟩, .slice a L.length cap] 34)).alloc (.cells #[.int .i64 ri, .int .i64 fa, .slice a2 H.length cap2] 38)).alloc (.cells #[.string ⟨#[]⟩, .int .i64 0, .int .i64 0, .string ⟨#[]⟩] 55) = W0) := hW0.symm
  obtain ⟨cb, hcb⟩ : ∃ cb, cb = chB n L ri fa H d := ⟨_, rfl⟩
  rw [← hcb] at HCT HOFF HONN ⊢
  clear hW0 b1 b2 hcb hr hh hE
  cases cb with
  | false =>
    obtain ⟨e1, e2, e3, e4⟩ := HOFF rfl
    rw [e1, e2, e3, e4]
    have HEM : Hid ((⟨([] : List UInt8).toArray⟩ : ByteArray) = (⟨#[]⟩ : ByteArray)) := rfl
    rw [HEM.out]
    clear HOFF HONN e1 e2 e3 e4
    go_enter Tryz.func29, Tryz.ntmps29
    go_wp2_with (rw [HW0.out])
    refine (HCT.out _ hbw0).mono ?_
    rintro e w1 ⟨rfl, hb1⟩
    clear p0 p1 h0 h1 h2
    have hb01 := hb00.trans (hb1.mono hb00.size)
    obtain ⟨⟨_, _, b3⟩, hbw⟩ := HX.out _ hb01
    obtain ⟨⟨q0, q1, q2, q3⟩, ⟨f0, f1, f2, f3⟩⟩ := rec_box b3
    have HZ : Hid ((put4a w1 (w.heap.size + 1 + 1) (.string ⟨#[]⟩) (.int .i64 0) (.int .i64 0) (.string ⟨#[]⟩)).heap[w.heap.size + 1 + 1]? = some (.cells #[.string ⟨#[]⟩, .int .i64 0, .int .i64 0, .string ⟨#[]⟩] 55) ∧ Below w.heap.size w (put4a w1 (w.heap.size + 1 + 1) (.string ⟨#[]⟩) (.int .i64 0) (.int .i64 0) (.string ⟨#[]⟩))) := ⟨put4a_heap b3, put4a_below hbw (by omega) _ _ _ _⟩
    clear b3
    go_wp2_with fail
    (try simp only [Exit.inBlock, Exit.then])
    refine bodyPost_ret (results_can rfl _ _ (w.heap.size + 1 + 1) 55 #[.string ⟨#[]⟩, .int .i64 0, .int .i64 0, .string ⟨#[]⟩] (0, 0) _ (.bool false) rfl rfl HZ.out.1 Tryz.underlying55 rfl (by kernel_rfl)) rfl ⟨rfl, HZ.out.2⟩
  | true =>
    obtain ⟨e1, e3, e4, i, hi, e5, e2⟩ := HONN rfl
    rw [e1, e2, e3, e4]
    rw [e5] at HCT
    obtain ⟨b, o, ha, hbl, hcel⟩ := HROW.out (by omega)
    have HC : Hid (∀ W, Below w.heap.size w W → W.cell? ⟨b, o + i * 4 + 1, none⟩ = some (.string ⟨(L[i]'hi).2.1.toArray⟩)) := fun W hW => ((hcel i hi).kept hW).2.1
    have hdl := (hx.out _ (List.getElem_mem hi)).2
    obtain ⟨D, hD⟩ : ∃ D, D = (L[i]'hi).2.1 := ⟨_, rfl⟩
    rw [← hD] at HC hdl ⊢
    have hii : (i : Int) < (L.length : Int) := by omega
    subst ha
    have HCLD : Hid (∀ W, Calls Tryz.prog 53 #[.string ⟨D.toArray⟩] W fun e w' => e = .returned (.string ⟨D.toArray⟩) ∧ Below W.heap.size W w') := fun W => cloneR_any ⟨D.toArray⟩ W (by rw [size_list]; omega)
    clear hx hdl
    clear HOFF HONN e1 e2 e3 e4 e5 hcel hD HROW
    go_enter Tryz.func29, Tryz.ntmps29
    go_wp2_with (rw [HW0.out])
    refine (HCT.out _ hbw0).mono ?_
    rintro e w1 ⟨rfl, hb1⟩
    clear p0 p1 h0 h1 h2
    have hb01 := hb00.trans (hb1.mono hb00.size)
    obtain ⟨⟨b1, _, b3⟩, hbw⟩ := HX.out _ hb01
    have hbd : Below w1.heap.size w1 w1.drew := (Below.refl _ _).drew
    have HFR : Hid (w.heap.size ≠ w.heap.size + 1 + 1) := (show w.heap.size ≠ w.heap.size + 1 + 1 by omega)
    have HFB : Hid (b ≠ w.heap.size + 1 + 1) := (show b ≠ w.heap.size + 1 + 1 by omega)
    have HCL : Hid (∀ W, Below w1.heap.size w1 W → (W.cell? ⟨w.heap.size, 0, none⟩ = some (.string ⟨n.toArray⟩) ∧ W.cell? ⟨w.heap.size, 1, none⟩ = some (.slice (some ⟨b, o, none⟩) L.length cap) ∧ W.cell? ⟨b, o + i * 4 + 1, none⟩ = some (.string ⟨D.toArray⟩)) ∧ ∃ z0 z1 z2 z3, W.heap[w.heap.size + 1 + 1]? = some (.cells #[z0, z1, z2, z3] 55)) := fun W hW => by
      obtain ⟨⟨x1, _, x3⟩, x4⟩ := HX.out W (hb01.trans (hW.mono hb01.size))
      exact ⟨⟨(pol_cells x1).1.1, (pol_cells x1).1.2, HC.out W x4⟩, _, _, _, _, x3⟩
    have HFIN : Hid (∀ W, Below w1.heap.size w1 W → (put4a W (w.heap.size + 1 + 1) (.string ⟨n.toArray⟩) (.int .i64 1) (.int .i64 5) (.string ⟨D.toArray⟩)).heap[w.heap.size + 1 + 1]? = some (.cells #[.string ⟨n.toArray⟩, .int .i64 1, .int .i64 5, .string ⟨D.toArray⟩] 55) ∧ Below w.heap.size w (put4a W (w.heap.size + 1 + 1) (.string ⟨n.toArray⟩) (.int .i64 1) (.int .i64 5) (.string ⟨D.toArray⟩)) ∧ W.heap[w.heap.size + 1 + 1]? = some (.cells #[.string ⟨#[]⟩, .int .i64 0, .int .i64 0, .string ⟨#[]⟩] 55)) := fun W hW => by
      obtain ⟨⟨_, _, x3⟩, x4⟩ := HX.out W (hb01.trans (hW.mono hb01.size))
      exact ⟨put4a_heap x3, put4a_below x4 (by omega) _ _ _ _, x3⟩
    have hS0 := HCL.out _ hbd
    clear b1 b3 hb1 hb01 hbw
    go_wp2_with fail
    refine wp_region_held_drew (S := fun W => (W.cell? ⟨w.heap.size, 0, none⟩ = some (.string ⟨n.toArray⟩) ∧ W.cell? ⟨w.heap.size, 1, none⟩ = some (.slice (some ⟨b, o, none⟩) L.length cap) ∧ W.cell? ⟨b, o + i * 4 + 1, none⟩ = some (.string ⟨D.toArray⟩)) ∧ ∃ z0 z1 z2 z3, W.heap[w.heap.size + 1 + 1]? = some (.cells #[z0, z1, z2, z3] 55)) (by kernel_rfl) hS0 (fun hHeld => ?_)
    refine wpAnyH_take (i := 0) (v := .pointer (some ⟨w.heap.size, 0, none⟩)) rfl (by kernel_rfl) (by kernel_rfl) (by kernel_rfl) (fun _ _ _ h => h) (Or.inl ⟨by rfl, ?_⟩) (by assumption) ?_
    · intro W hSW
      obtain ⟨⟨s0, s1, s2⟩, _⟩ := hSW
      go_simp
    simp only [Act.put, List.getElem_toArray, List.getElem_cons_zero, List.setIfInBounds_toArray, List.set_cons_succ, List.set_cons_zero]
    refine wpAnyH_take (i := 1) (v := .string ⟨n.toArray⟩) rfl (by kernel_rfl) (by kernel_rfl) (by kernel_rfl) (fun _ _ _ h => h) (Or.inl ⟨by rfl, ?_⟩) (by assumption) ?_
    · intro W hSW
      obtain ⟨⟨s0, s1, s2⟩, _⟩ := hSW
      go_simp
    simp only [Act.put, List.getElem_toArray, List.getElem_cons_succ, List.getElem_cons_zero, List.setIfInBounds_toArray, List.set_cons_succ, List.set_cons_zero]
    refine wpAnyH_take (i := 3) (v := .pointer (some ⟨w.heap.size, 1, none⟩)) rfl (by kernel_rfl) (by kernel_rfl) (by kernel_rfl) (fun _ _ _ h => h) (Or.inl ⟨by rfl, ?_⟩) (by assumption) ?_
    · intro W hSW
      obtain ⟨⟨s0, s1, s2⟩, _⟩ := hSW
      go_simp
    simp only [Act.put, List.getElem_toArray, List.getElem_cons_succ, List.getElem_cons_zero, List.setIfInBounds_toArray, List.set_cons_succ, List.set_cons_zero]
    refine wpAnyH_take (i := 4) (v := .slice (some ⟨b, o, none⟩) L.length cap) rfl (by kernel_rfl) (by kernel_rfl) (by kernel_rfl) (fun _ _ _ h => h) (Or.inl ⟨by rfl, ?_⟩) (by assumption) ?_
    · intro W hSW
      obtain ⟨⟨s0, s1, s2⟩, _⟩ := hSW
      go_simp
    simp only [Act.put, List.getElem_toArray, List.getElem_cons_succ, List.getElem_cons_zero, List.setIfInBounds_toArray, List.set_cons_succ, List.set_cons_zero]
    refine wpAnyH_take (i := 5) (v := .int .i64 (i : Int)) rfl (by kernel_rfl) (by kernel_rfl) (by kernel_rfl) (fun _ _ _ h => h) (Or.inl ⟨by rfl, ?_⟩) (by assumption) ?_
    · intro W hSW
      obtain ⟨⟨s0, s1, s2⟩, _⟩ := hSW
      go_simp
    simp only [Act.put, List.getElem_toArray, List.getElem_cons_succ, List.getElem_cons_zero, List.setIfInBounds_toArray, List.set_cons_succ, List.set_cons_zero]
    refine wpAnyH_take (i := 6) (v := .pointer (some ⟨b, o + i * 4, none⟩)) rfl (by kernel_rfl) (by kernel_rfl) (by kernel_rfl) (fun _ _ _ h => h) (Or.inl ⟨by rfl, ?_⟩) (by assumption) ?_
    · intro W hSW
      obtain ⟨⟨s0, s1, s2⟩, _⟩ := hSW
      go_simp
    simp only [Act.put, List.getElem_toArray, List.getElem_cons_succ, List.getElem_cons_zero, List.setIfInBounds_toArray, List.set_cons_succ, List.set_cons_zero]
    refine wpAnyH_take (i := 7) (v := .pointer (some ⟨b, o + i * 4 + 1, none⟩)) rfl (by kernel_rfl) (by kernel_rfl) (by kernel_rfl) (fun _ _ _ h => h) (Or.inl ⟨by rfl, ?_⟩) (by assumption) ?_
    · intro W hSW
      obtain ⟨⟨s0, s1, s2⟩, _⟩ := hSW
      go_simp
    simp only [Act.put, List.getElem_toArray, List.getElem_cons_succ, List.getElem_cons_zero, List.setIfInBounds_toArray, List.set_cons_succ, List.set_cons_zero]
    refine wpAnyH_take (i := 8) (v := .string ⟨D.toArray⟩) rfl (by kernel_rfl) (by kernel_rfl) (by kernel_rfl) (fun _ _ _ h => h) (Or.inl ⟨by rfl, ?_⟩) (by assumption) ?_
    · intro W hSW
      obtain ⟨⟨s0, s1, s2⟩, _⟩ := hSW
      go_simp
    simp only [Act.put, List.getElem_toArray, List.getElem_cons_succ, List.getElem_cons_zero, List.setIfInBounds_toArray, List.set_cons_succ, List.set_cons_zero]
    refine wpAnyH_ready (rs := [2]) (by kernel_rfl) (by simp) ?_
    refine AllReadyH.cons rfl (fun K hK => ?_) AllReadyH.nil
    rw [if_pos (by rfl)]
    go_simp
    refine (HCLN.out _).mono ?_
    rintro e w8 ⟨rfl, hb8⟩
    go_simp
    have hb18 := hbd.trans (hb8.mono hbd.size)
    refine hK.out _ _ (HCL.out _ hb18) (fun hS => ?_)
    clear hK hb8
    refine wpAnyH_ready (rs := [9]) (by kernel_rfl) (by simp) ?_
    refine AllReadyH.cons rfl (fun K hK => ?_) AllReadyH.nil
    rw [if_pos (by rfl)]
    go_simp
    refine (HCLD.out _).mono ?_
    rintro e w9 ⟨rfl, hb9⟩
    go_simp
    have hb19 := hb18.trans (hb9.mono hb18.size)
    refine hK.out _ _ (HCL.out _ hb19) (fun hS => ?_)
    clear hK hb9
    refine wpAnyH_take (i := 10) (v := .agg #[.string ⟨n.toArray⟩, .int .i64 1, .int .i64 5, .string ⟨D.toArray⟩]) rfl (by kernel_rfl) (by kernel_rfl) (by kernel_rfl) (fun _ _ _ h => h) (Or.inl ⟨by rfl, ?_⟩) (by assumption) ?_
    · intro W hSW
      obtain ⟨⟨s0, s1, s2⟩, _⟩ := hSW
      go_simp
    simp only [Act.put, List.getElem_toArray, List.getElem_cons_succ, List.getElem_cons_zero, List.setIfInBounds_toArray, List.set_cons_succ, List.set_cons_zero]
    have hfin := HFIN.out _ hb19
    have HFF : Hid (_ ∧ _ ∧ _) := hfin
    obtain ⟨⟨q0, q1, q2, q3⟩, ⟨f0, f1, f2, f3⟩⟩ := rec_box hfin.2.2
    clear hfin
    refine wpAnyH_ready (rs := [11]) (by kernel_rfl) (by simp) ?_
    refine AllReadyH.cons rfl (fun K hK => ?_) AllReadyH.nil
    rw [if_pos (by rfl)]
    go_simp
    refine hK.out _ _ ⟨?_, _, _, _, _, HFF.out.1⟩ (fun hS3 => ?_)
    · obtain ⟨⟨s0, s1, s2⟩, _⟩ := HCL.out _ hb19
      exact ⟨put4a_far s0 HFR.out, put4a_far s1 HFR.out, put4a_far s2 HFB.out⟩
    clear hK
    refine wpAnyH_take (i := 12) (v := .bool true) rfl (by kernel_rfl) (by kernel_rfl) (by kernel_rfl) (fun _ _ _ h => h) (Or.inl ⟨by rfl, ?_⟩) (by assumption) ?_
    · intro W hSW
      obtain ⟨⟨s0, s1, s2⟩, _⟩ := hSW
      go_simp
    simp only [Act.put, List.getElem_toArray, List.getElem_cons_succ, List.getElem_cons_zero, List.setIfInBounds_toArray, List.set_cons_succ, List.set_cons_zero]
    refine wpAnyH_done (by kernel_rfl) ?_ _
    go_wp2_with fail
    (try simp only [Exit.inBlock, Exit.then])
    refine bodyPost_ret (results_can rfl _ _ (w.heap.size + 1 + 1) 55 #[.string ⟨n.toArray⟩, .int .i64 1, .int .i64 5, .string ⟨D.toArray⟩] (0, 0) _ (.bool true) rfl rfl HFF.out.1 Tryz.underlying55 rfl (by kernel_rfl)) rfl ⟨rfl, HFF.out.2.1⟩

set_option maxRecDepth 20000 in
set_option maxHeartbeats 8000000 in
theorem sAnswerOf_any (nm : List UInt8) (v : Value) (L : List TgtT) (ri fa : Int) (hv : Value) (H : List HosT) (d : Int) (w : World) (hr : TgtRow w v L) (hl : L.length ≤ 1048576) (hn : nm.length ≤ 1048576) (hx : Hid (∀ x ∈ L, x.1.length ≤ 1048576 ∧ x.2.1.length ≤ 1048576)) (hh : HstRow w hv H) (hlh : H.length ≤ 1048576) (hxh : Hid (∀ x ∈ H, x.1.length ≤ 1048576)) :
    Calls Tryz.prog 28 #[PolV ⟨nm.toArray⟩ v, HeaV ri fa hv, .int .i64 d] w fun e w' => e = .returned (.tuple #[.agg #[.string ⟨(anN nm L ri fa H d).toArray⟩, .int .i64 (anT nm L ri fa H d), .int .i64 (anL nm L ri fa H d), .string ⟨(anD nm L ri fa H d).toArray⟩], .bool (chB nm L ri fa H d)]) ∧ Below w.heap.size w w' := by
  have HCT : Hid (∀ W, Below w.heap.size w W → Calls Tryz.prog 24 #[PolV ⟨nm.toArray⟩ v, HeaV ri fa hv, .int .i64 d] W fun e w' => e = .returned (.tuple #[.int .i64 (chA nm L ri fa H d), .bool (chB nm L ri fa H d)]) ∧ Below W.heap.size W w') := fun W hW => sChooseTarget_any nm v L ri fa hv H d W (hr.kept hW) hl hn hx (hh.kept hW) hlh hxh
  have HOFF := @an_off nm L ri fa H d
  have HONN := @an_on nm L ri fa H d
  unfold PolV HeaV at HCT
  unfold PolV HeaV
  obtain ⟨a, cap, rfl, hcap, hmax, HROW⟩ := tgt_value hr
  obtain ⟨a2, cap2, rfl, hcap2, hmax2, _⟩ := hst_value hh
  obtain ⟨W0, hW0⟩ : ∃ W0, W0 = ((w.alloc (.cells #[.string ⟨nm.toArray⟩, .slice a L.length cap] 34)).alloc (.cells #[.int .i64 ri, .int .i64 fa, .slice a2 H.length cap2] 38)).alloc (.cells #[.string ⟨#[]⟩, .int .i64 0, .int .i64 0, .string ⟨#[]⟩] 55) := ⟨_, rfl⟩
  have HX : Hid (∀ W, Below W0.heap.size W0 W → (W.heap[w.heap.size]? = some (.cells #[.string ⟨nm.toArray⟩, .slice a L.length cap] 34) ∧ W.heap[w.heap.size + 1]? = some (.cells #[.int .i64 ri, .int .i64 fa, .slice a2 H.length cap2] 38) ∧ W.heap[w.heap.size + 1 + 1]? = some (.cells #[.string ⟨#[]⟩, .int .i64 0, .int .i64 0, .string ⟨#[]⟩] 55)) ∧ Below w.heap.size w W) := fun W hW => by
    rw [hW0] at hW
    obtain ⟨h1, h2, h3, _, h4⟩ := tgt_below3 hW
    exact ⟨⟨h1, h2, h3⟩, h4⟩
  have hb00 : Below W0.heap.size W0 W0 := Below.refl _ _
  obtain ⟨⟨b1, b2, _⟩, hbw0⟩ := HX.out _ hb00
  obtain ⟨⟨p0, p1⟩, _⟩ := pol_cells b1
  obtain ⟨⟨h0, h1, h2⟩, _⟩ := hst_cells b2
  have hz0 : w.heap.size + 1 + 1 < W0.heap.size := by rw [hW0]; simp
  have HW0 : Hid (((w.alloc (.cells #[.string ⟨nm.toArray⟩, .slice a L.length cap] 34)).alloc (.cells #[.int .i64 ri, .int .i64 fa, .slice a2 H.length cap2] 38)).alloc (.cells #[.string ⟨#[]⟩, .int .i64 0, .int .i64 0, .string ⟨#[]⟩] 55) = W0) := hW0.symm
  obtain ⟨cb, hcb⟩ : ∃ cb, cb = chB nm L ri fa H d := ⟨_, rfl⟩
  rw [← hcb] at HCT HOFF HONN ⊢
  clear hW0 b1 b2 hcb hr hh hxh
  cases cb with
  | false =>
    obtain ⟨e1, e2, e3, e4⟩ := HOFF rfl
    rw [e1, e2, e3, e4]
    have HEM : Hid ((⟨([] : List UInt8).toArray⟩ : ByteArray) = (⟨#[]⟩ : ByteArray)) := rfl
    rw [HEM.out]
    clear HOFF HONN e1 e2 e3 e4
    go_enter Tryz.func28, Tryz.ntmps28
    go_wp2_with (rw [HW0.out])
    refine (HCT.out _ hbw0).mono ?_
    rintro e w1 ⟨rfl, hb1⟩
    clear p0 p1 h0 h1 h2
    have hb01 := hb00.trans (hb1.mono hb00.size)
    obtain ⟨⟨_, _, b3⟩, hbw⟩ := HX.out _ hb01
    obtain ⟨⟨q0, q1, q2, q3⟩, ⟨f0, f1, f2, f3⟩⟩ := rec_box b3
    have HZ : Hid ((put4a w1 (w.heap.size + 1 + 1) (.string ⟨#[]⟩) (.int .i64 0) (.int .i64 0) (.string ⟨#[]⟩)).heap[w.heap.size + 1 + 1]? = some (.cells #[.string ⟨#[]⟩, .int .i64 0, .int .i64 0, .string ⟨#[]⟩] 55) ∧ Below w.heap.size w (put4a w1 (w.heap.size + 1 + 1) (.string ⟨#[]⟩) (.int .i64 0) (.int .i64 0) (.string ⟨#[]⟩))) := ⟨put4a_heap b3, put4a_below hbw (by omega) _ _ _ _⟩
    clear b3
    go_wp2_with fail
    (try simp only [Exit.inBlock, Exit.then])
    refine bodyPost_ret (results_can rfl _ _ (w.heap.size + 1 + 1) 55 #[.string ⟨#[]⟩, .int .i64 0, .int .i64 0, .string ⟨#[]⟩] (0, 0) _ (.bool false) rfl rfl HZ.out.1 Tryz.underlying55 rfl (by kernel_rfl)) rfl ⟨rfl, HZ.out.2⟩
  | true =>
    obtain ⟨e1, e3, e4, i, hi, e5, e2⟩ := HONN rfl
    rw [e1, e2, e3, e4]
    rw [e5] at HCT
    obtain ⟨b, o, ha, hbl, hcel⟩ := HROW.out (by omega)
    have HC : Hid (∀ W, Below w.heap.size w W → W.cell? ⟨b, o + i * 4 + 1, none⟩ = some (.string ⟨(L[i]'hi).2.1.toArray⟩)) := fun W hW => ((hcel i hi).kept hW).2.1
    obtain ⟨D, hD⟩ : ∃ D, D = (L[i]'hi).2.1 := ⟨_, rfl⟩
    rw [← hD] at HC ⊢
    have hii : (i : Int) < (L.length : Int) := by omega
    subst ha
    clear hx
    clear HOFF HONN e1 e2 e3 e4 e5 hcel hD HROW
    go_enter Tryz.func28, Tryz.ntmps28
    go_wp2_with (rw [HW0.out])
    refine (HCT.out _ hbw0).mono ?_
    rintro e w1 ⟨rfl, hb1⟩
    clear p0 p1 h0 h1 h2
    have hb01 := hb00.trans (hb1.mono hb00.size)
    obtain ⟨⟨b1, _, b3⟩, hbw⟩ := HX.out _ hb01
    have hbd : Below w1.heap.size w1 w1.drew := (Below.refl _ _).drew
    have HFR : Hid (w.heap.size ≠ w.heap.size + 1 + 1) := (show w.heap.size ≠ w.heap.size + 1 + 1 by omega)
    have HFB : Hid (b ≠ w.heap.size + 1 + 1) := (show b ≠ w.heap.size + 1 + 1 by omega)
    have HCL : Hid (∀ W, Below w1.heap.size w1 W → (W.cell? ⟨w.heap.size, 0, none⟩ = some (.string ⟨nm.toArray⟩) ∧ W.cell? ⟨w.heap.size, 1, none⟩ = some (.slice (some ⟨b, o, none⟩) L.length cap) ∧ W.cell? ⟨b, o + i * 4 + 1, none⟩ = some (.string ⟨D.toArray⟩)) ∧ ∃ z0 z1 z2 z3, W.heap[w.heap.size + 1 + 1]? = some (.cells #[z0, z1, z2, z3] 55)) := fun W hW => by
      obtain ⟨⟨x1, _, x3⟩, x4⟩ := HX.out W (hb01.trans (hW.mono hb01.size))
      exact ⟨⟨(pol_cells x1).1.1, (pol_cells x1).1.2, HC.out W x4⟩, _, _, _, _, x3⟩
    have HFIN : Hid (∀ W, Below w1.heap.size w1 W → (put4a W (w.heap.size + 1 + 1) (.string ⟨nm.toArray⟩) (.int .i64 1) (.int .i64 5) (.string ⟨D.toArray⟩)).heap[w.heap.size + 1 + 1]? = some (.cells #[.string ⟨nm.toArray⟩, .int .i64 1, .int .i64 5, .string ⟨D.toArray⟩] 55) ∧ Below w.heap.size w (put4a W (w.heap.size + 1 + 1) (.string ⟨nm.toArray⟩) (.int .i64 1) (.int .i64 5) (.string ⟨D.toArray⟩)) ∧ W.heap[w.heap.size + 1 + 1]? = some (.cells #[.string ⟨#[]⟩, .int .i64 0, .int .i64 0, .string ⟨#[]⟩] 55)) := fun W hW => by
      obtain ⟨⟨_, _, x3⟩, x4⟩ := HX.out W (hb01.trans (hW.mono hb01.size))
      exact ⟨put4a_heap x3, put4a_below x4 (by omega) _ _ _ _, x3⟩
    have hS0 := HCL.out _ hbd
    clear b1 b3 hb1 hb01 hbw
    go_wp2_with fail
    refine wp_region_held_drew (S := fun W => (W.cell? ⟨w.heap.size, 0, none⟩ = some (.string ⟨nm.toArray⟩) ∧ W.cell? ⟨w.heap.size, 1, none⟩ = some (.slice (some ⟨b, o, none⟩) L.length cap) ∧ W.cell? ⟨b, o + i * 4 + 1, none⟩ = some (.string ⟨D.toArray⟩)) ∧ ∃ z0 z1 z2 z3, W.heap[w.heap.size + 1 + 1]? = some (.cells #[z0, z1, z2, z3] 55)) (by kernel_rfl) hS0 (fun hHeld => ?_)
    generalize w1.drew = wv at *
    refine wpAnyH_take (i := 0) (v := .pointer (some ⟨w.heap.size, 0, none⟩)) rfl (by kernel_rfl) (by kernel_rfl) (by kernel_rfl) (fun _ _ _ h => h) (Or.inl ⟨by rfl, ?_⟩) (by assumption) ?_
    · intro W hSW
      obtain ⟨⟨s0, s1, s2⟩, _⟩ := hSW
      go_simp
    simp only [Act.put, List.getElem_toArray, List.getElem_cons_zero, List.setIfInBounds_toArray, List.set_cons_succ, List.set_cons_zero]
    refine wpAnyH_take (i := 1) (v := .string ⟨nm.toArray⟩) rfl (by kernel_rfl) (by kernel_rfl) (by kernel_rfl) (fun _ _ _ h => h) (Or.inl ⟨by rfl, ?_⟩) (by assumption) ?_
    · intro W hSW
      obtain ⟨⟨s0, s1, s2⟩, _⟩ := hSW
      go_simp
    simp only [Act.put, List.getElem_toArray, List.getElem_cons_succ, List.getElem_cons_zero, List.setIfInBounds_toArray, List.set_cons_succ, List.set_cons_zero]
    refine wpAnyH_take (i := 2) (v := .pointer (some ⟨w.heap.size, 1, none⟩)) rfl (by kernel_rfl) (by kernel_rfl) (by kernel_rfl) (fun _ _ _ h => h) (Or.inl ⟨by rfl, ?_⟩) (by assumption) ?_
    · intro W hSW
      obtain ⟨⟨s0, s1, s2⟩, _⟩ := hSW
      go_simp
    simp only [Act.put, List.getElem_toArray, List.getElem_cons_succ, List.getElem_cons_zero, List.setIfInBounds_toArray, List.set_cons_succ, List.set_cons_zero]
    refine wpAnyH_take (i := 3) (v := .slice (some ⟨b, o, none⟩) L.length cap) rfl (by kernel_rfl) (by kernel_rfl) (by kernel_rfl) (fun _ _ _ h => h) (Or.inl ⟨by rfl, ?_⟩) (by assumption) ?_
    · intro W hSW
      obtain ⟨⟨s0, s1, s2⟩, _⟩ := hSW
      go_simp
    simp only [Act.put, List.getElem_toArray, List.getElem_cons_succ, List.getElem_cons_zero, List.setIfInBounds_toArray, List.set_cons_succ, List.set_cons_zero]
    refine wpAnyH_take (i := 4) (v := .int .i64 (i : Int)) rfl (by kernel_rfl) (by kernel_rfl) (by kernel_rfl) (fun _ _ _ h => h) (Or.inl ⟨by rfl, ?_⟩) (by assumption) ?_
    · intro W hSW
      obtain ⟨⟨s0, s1, s2⟩, _⟩ := hSW
      go_simp
    simp only [Act.put, List.getElem_toArray, List.getElem_cons_succ, List.getElem_cons_zero, List.setIfInBounds_toArray, List.set_cons_succ, List.set_cons_zero]
    refine wpAnyH_take (i := 5) (v := .pointer (some ⟨b, o + i * 4, none⟩)) rfl (by kernel_rfl) (by kernel_rfl) (by kernel_rfl) (fun _ _ _ h => h) (Or.inl ⟨by rfl, ?_⟩) (by assumption) ?_
    · intro W hSW
      obtain ⟨⟨s0, s1, s2⟩, _⟩ := hSW
      go_simp
    simp only [Act.put, List.getElem_toArray, List.getElem_cons_succ, List.getElem_cons_zero, List.setIfInBounds_toArray, List.set_cons_succ, List.set_cons_zero]
    refine wpAnyH_take (i := 6) (v := .pointer (some ⟨b, o + i * 4 + 1, none⟩)) rfl (by kernel_rfl) (by kernel_rfl) (by kernel_rfl) (fun _ _ _ h => h) (Or.inl ⟨by rfl, ?_⟩) (by assumption) ?_
    · intro W hSW
      obtain ⟨⟨s0, s1, s2⟩, _⟩ := hSW
      go_simp
    simp only [Act.put, List.getElem_toArray, List.getElem_cons_succ, List.getElem_cons_zero, List.setIfInBounds_toArray, List.set_cons_succ, List.set_cons_zero]
    refine wpAnyH_take (i := 7) (v := .string ⟨D.toArray⟩) rfl (by kernel_rfl) (by kernel_rfl) (by kernel_rfl) (fun _ _ _ h => h) (Or.inl ⟨by rfl, ?_⟩) (by assumption) ?_
    · intro W hSW
      obtain ⟨⟨s0, s1, s2⟩, _⟩ := hSW
      go_simp
    simp only [Act.put, List.getElem_toArray, List.getElem_cons_succ, List.getElem_cons_zero, List.setIfInBounds_toArray, List.set_cons_succ, List.set_cons_zero]
    refine wpAnyH_take (i := 8) (v := .agg #[.string ⟨nm.toArray⟩, .int .i64 1, .int .i64 5, .string ⟨D.toArray⟩]) rfl (by kernel_rfl) (by kernel_rfl) (by kernel_rfl) (fun _ _ _ h => h) (Or.inl ⟨by rfl, ?_⟩) (by assumption) ?_
    · intro W hSW
      obtain ⟨⟨s0, s1, s2⟩, _⟩ := hSW
      go_simp
    simp only [Act.put, List.getElem_toArray, List.getElem_cons_succ, List.getElem_cons_zero, List.setIfInBounds_toArray, List.set_cons_succ, List.set_cons_zero]
    have hfin := HFIN.out _ hbd
    have HFF : Hid (_ ∧ _ ∧ _) := hfin
    obtain ⟨⟨q0, q1, q2, q3⟩, ⟨f0, f1, f2, f3⟩⟩ := rec_box hfin.2.2
    clear hfin
    refine wpAnyH_ready (rs := [9]) (by kernel_rfl) (by simp) ?_
    refine AllReadyH.cons rfl (fun K hK => ?_) AllReadyH.nil
    rw [if_pos (by rfl)]
    go_simp
    refine hK.out _ _ ⟨?_, _, _, _, _, HFF.out.1⟩ (fun hS3 => ?_)
    · obtain ⟨⟨s0, s1, s2⟩, _⟩ := HCL.out _ hbd
      exact ⟨put4a_far s0 HFR.out, put4a_far s1 HFR.out, put4a_far s2 HFB.out⟩
    clear hK
    refine wpAnyH_take (i := 10) (v := .bool true) rfl (by kernel_rfl) (by kernel_rfl) (by kernel_rfl) (fun _ _ _ h => h) (Or.inl ⟨by rfl, ?_⟩) (by assumption) ?_
    · intro W hSW
      obtain ⟨⟨s0, s1, s2⟩, _⟩ := hSW
      go_simp
    simp only [Act.put, List.getElem_toArray, List.getElem_cons_succ, List.getElem_cons_zero, List.setIfInBounds_toArray, List.set_cons_succ, List.set_cons_zero]
    refine wpAnyH_done (by kernel_rfl) ?_ _
    go_wp2_with fail
    (try simp only [Exit.inBlock, Exit.then])
    refine bodyPost_ret (results_can rfl _ _ (w.heap.size + 1 + 1) 55 #[.string ⟨nm.toArray⟩, .int .i64 1, .int .i64 5, .string ⟨D.toArray⟩] (0, 0) _ (.bool true) rfl rfl HFF.out.1 Tryz.underlying55 rfl (by kernel_rfl)) rfl ⟨rfl, HFF.out.2.1⟩
end Go.Proofs.YtoanloballaclaaGreatDoor

namespace Go.Proofs.YtoanloballaclaaGreatDoor.answerOf
open Go.RowKit

set_option maxRecDepth 20000 in
set_option maxHeartbeats 16000000 in
theorem core (nm : List UInt8) (v : Value) (L : List TgtT) (ri fa : Int) (hv : Value) (H : List HosT) (d : Int) (rn rd : ByteArray) (rt rl : Int) (ok : Bool) (w : World) (hr : TgtRow w v L) (hn : nm.length ≤ maxLen) (hx : Hid (∀ x ∈ L, x.1.length ≤ maxLen ∧ x.2.1.length ≤ maxLen)) (hh : HstRow w hv H) (hxh : Hid (∀ x ∈ H, x.1.length ≤ maxLen))
    (HS0 : Hid (L.length ≤ 1048576 → nm.length ≤ 1048576 → Hid (∀ x ∈ L, x.1.length ≤ 1048576 ∧ x.2.1.length ≤ 1048576) → H.length ≤ 1048576 → Hid (∀ x ∈ H, x.1.length ≤ 1048576) → ∀ g1 g2 W, TgoRow W g1 L → HoRow W g2 H → Calls Tryz.prog 28 #[.agg #[.string ⟨nm.toArray⟩, .slice (some ⟨g1, 0, none⟩) L.length L.length], .agg #[.int .i64 ri, .int .i64 fa, .slice (some ⟨g2, 0, none⟩) H.length H.length], .int .i64 d] W fun e w' => e = .returned (.tuple #[.agg #[.string rn, .int .i64 rt, .int .i64 rl, .string rd], .bool ok]) ∧ Below W.heap.size W w'))
    (HI0 : Hid (L.length ≤ 1048576 → nm.length ≤ 1048576 → Hid (∀ x ∈ L, x.1.length ≤ 1048576 ∧ x.2.1.length ≤ 1048576) → H.length ≤ 1048576 → Hid (∀ x ∈ H, x.1.length ≤ 1048576) → ∀ g1 g2 W, Below w.heap.size w W → TgoRow W g1 L → HoRow W g2 H → Calls Tryz.prog 29 #[.agg #[.string ⟨nm.toArray⟩, .slice (some ⟨g1, 0, none⟩) L.length L.length], .agg #[.int .i64 ri, .int .i64 fa, .slice (some ⟨g2, 0, none⟩) H.length H.length], .int .i64 d] W fun e w' => e = .returned (.tuple #[.agg #[.string rn, .int .i64 rt, .int .i64 rl, .string rd], .bool ok]) ∧ Below W.heap.size W w')) :
    Calls Tryz.prog 7 #[PolV ⟨nm.toArray⟩ v, HeaV ri fa hv, .int .i64 d] w fun e w' => e = .returned (.bool true) ∧ Below w.heap.size w w' := by
  have HSZ : Hid (∀ W, Below w.heap.size w W → Calls Tryz.prog 9 #[PolV ⟨nm.toArray⟩ v, .int .i64 1048576] W fun e w' => (∃ q : Int, e = .returned (.int .i64 q) ∧ (q = -1 ∨ (0 ≤ q ∧ q = 1048576 - (nm.length : Int) - (L.length : Int) - (wtG L : Int)))) ∧ Below W.heap.size W w') := fun W hW => by
    have h := szPolicy_any ⟨nm.toArray⟩ v L W (hr.kept hW) hx (by rw [size_list]; exact hn)
    rw [size_list] at h; exact h
  have HTP0 : Hid (L.length ≤ 1048576 → ∀ W, Below w.heap.size w W → Calls Tryz.prog 12 #[PolV ⟨nm.toArray⟩ v] W fun e w' => (∃ g, e = .returned (PolV ⟨nm.toArray⟩ (.slice (some ⟨g, 0, none⟩) L.length L.length)) ∧ W.heap.size ≤ g ∧ TgoRow w' g L) ∧ Below W.heap.size W w') := fun h1 W hW => toPolicy_any ⟨nm.toArray⟩ v L W (hr.kept hW) h1
  have HSH : Hid (∀ q W, 0 ≤ q → q ≤ 1048576 → Below w.heap.size w W → Calls Tryz.prog 10 #[HeaV ri fa hv, .int .i64 q] W fun e w' => (∃ q2 : Int, e = .returned (.int .i64 q2) ∧ (q2 = -1 ∨ (0 ≤ q2 ∧ q2 = q - (H.length : Int) - (wtH H : Int)))) ∧ Below W.heap.size W w') := fun q W h0 h1 hW => szHealthQ_any ri fa hv H q W (hh.kept hW) hxh h0 h1
  have HTH0 : Hid (H.length ≤ 1048576 → ∀ W, Below w.heap.size w W → Calls Tryz.prog 13 #[HeaV ri fa hv] W fun e w' => (∃ g, e = .returned (HeaV ri fa (.slice (some ⟨g, 0, none⟩) H.length H.length)) ∧ W.heap.size ≤ g ∧ HoRow w' g H) ∧ Below W.heap.size W w') := fun h1 W hW => toHealth_any ri fa hv H W (hh.kept hW) h1
  unfold PolV at HSZ HTP0 ⊢
  unfold HeaV at HSH HTH0 ⊢
  obtain ⟨a, cap, rfl, hcap, hmax, _⟩ := tgt_value hr
  obtain ⟨a2, cap2, rfl, hcap2, hmax2, _⟩ := hst_value hh
  obtain ⟨v0, hv0⟩ : ∃ v0, v0 = (w.alloc (.cells #[.string ⟨nm.toArray⟩, .slice a L.length cap] 24)).alloc (.cells #[.int .i64 ri, .int .i64 fa, .slice a2 H.length cap2] 27) := ⟨_, rfl⟩
  have hbw_v0 : Below w.heap.size w v0 := by rw [hv0]; exact ((Below.refl w.heap.size w).alloc (Nat.le_refl _) _).alloc (by simp) _
  have hq0 := tgt_below2 (W := v0) (w := w) (by rw [hv0]; exact Below.refl _ _)
  have P0_v0 : Hid (v0.heap[w.heap.size]? = some (.cells #[.string ⟨nm.toArray⟩, .slice a L.length cap] 24)) := hq0.1
  have H0_v0 : Hid (v0.heap[w.heap.size + 1]? = some (.cells #[.int .i64 ri, .int .i64 fa, .slice a2 H.length cap2] 27)) := hq0.2.1
  have hz0 : w.heap.size + 1 < v0.heap.size := by rw [hv0]; simp
  have HV0 : Hid ((w.alloc (.cells #[.string ⟨nm.toArray⟩, .slice a L.length cap] 24)).alloc (.cells #[.int .i64 ri, .int .i64 fa, .slice a2 H.length cap2] 27) = v0) := hv0.symm
  clear hv0 hr hx hh hxh hq0
  go_enter Tryz.func7, Tryz.ntmps7
  go_wp2_with (rw [HV0.out]; obtain ⟨⟨p0, p1⟩, _⟩ := pol_cells P0_v0.out)
  refine (HSZ.out _ hbw_v0).mono ?_
  rintro e v1 ⟨⟨q, rfl, hq⟩, hb1⟩
  have hbw_v1 : Below w.heap.size w v1 := hbw_v0.trans (hb1.mono hbw_v0.size)
  have hz_v1 : v0.heap.size ≤ v1.heap.size := hb1.size
  have P0_v1 : Hid (v1.heap[w.heap.size]? = some (.cells #[.string ⟨nm.toArray⟩, .slice a L.length cap] 24)) := (hb1.block w.heap.size (by omega)).trans P0_v0.out
  have H0_v1 : Hid (v1.heap[(w.heap.size + 1)]? = some (.cells #[.int .i64 ri, .int .i64 fa, .slice a2 H.length cap2] 27)) := (hb1.block (w.heap.size + 1) (by omega)).trans H0_v0.out
  clear P0_v0 H0_v0 hb1 hbw_v0 p0 p1
  rcases hq with rfl | ⟨hq0, hqe⟩
  · go_wp2_with fail
    go_ret
    exact ⟨rfl, hbw_v1⟩
  have hL : L.length ≤ 1048576 := by omega
  have hnl : nm.length ≤ 1048576 := by omega
  have HXL : Hid (∀ x ∈ L, x.1.length ≤ 1048576 ∧ x.2.1.length ≤ 1048576) := fun x hxm => by have := wtG_mem hxm; omega
  have hq1 : q ≤ 1048576 := by omega
  clear hqe
  obtain ⟨⟨h0, h1, h2⟩, _⟩ := hst_cells H0_v1.out
  go_wp2_with fail
  refine (HSH.out q _ hq0 hq1 hbw_v1).mono ?_
  rintro e v2 ⟨⟨q2, rfl, hq2⟩, hb2⟩
  have hbw_v2 : Below w.heap.size w v2 := hbw_v1.trans (hb2.mono hbw_v1.size)
  have hz_v2 : v1.heap.size ≤ v2.heap.size := hb2.size
  have P0_v2 : Hid (v2.heap[w.heap.size]? = some (.cells #[.string ⟨nm.toArray⟩, .slice a L.length cap] 24)) := (hb2.block w.heap.size (by omega)).trans P0_v1.out
  have H0_v2 : Hid (v2.heap[(w.heap.size + 1)]? = some (.cells #[.int .i64 ri, .int .i64 fa, .slice a2 H.length cap2] 27)) := (hb2.block (w.heap.size + 1) (by omega)).trans H0_v1.out
  clear P0_v1 H0_v1 hb2 hbw_v1 h0 h1 h2
  rcases hq2 with rfl | ⟨hq20, hqe2⟩
  · go_wp2_with fail
    go_ret
    exact ⟨rfl, hbw_v2⟩
  have hLH : H.length ≤ 1048576 := by omega
  have HXH : Hid (∀ x ∈ H, x.1.length ≤ 1048576) := fun x hxm => by have := wtH_mem hxm; omega
  clear hqe2
  have HTPa := HTP0.out hL
  have HTP : Hid (∀ W, Below w.heap.size w W → Calls Tryz.prog 12 #[.agg #[.string ⟨nm.toArray⟩, .slice a L.length cap]] W fun e w' => (∃ g, e = .returned (.agg #[.string ⟨nm.toArray⟩, .slice (some ⟨g, 0, none⟩) L.length L.length]) ∧ W.heap.size ≤ g ∧ TgoRow w' g L) ∧ Below W.heap.size W w') := HTPa
  have HTHa := HTH0.out hLH
  have HTH : Hid (∀ W, Below w.heap.size w W → Calls Tryz.prog 13 #[.agg #[.int .i64 ri, .int .i64 fa, .slice a2 H.length cap2]] W fun e w' => (∃ g, e = .returned (.agg #[.int .i64 ri, .int .i64 fa, .slice (some ⟨g, 0, none⟩) H.length H.length]) ∧ W.heap.size ≤ g ∧ HoRow w' g H) ∧ Below W.heap.size W w') := HTHa
  have HSa := HS0.out hL hnl HXL hLH HXH
  have HS : Hid (∀ g1 g2 W, TgoRow W g1 L → HoRow W g2 H → Calls Tryz.prog 28 #[.agg #[.string ⟨nm.toArray⟩, .slice (some ⟨g1, 0, none⟩) L.length L.length], .agg #[.int .i64 ri, .int .i64 fa, .slice (some ⟨g2, 0, none⟩) H.length H.length], .int .i64 d] W fun e w' => e = .returned (.tuple #[.agg #[.string rn, .int .i64 rt, .int .i64 rl, .string rd], .bool ok]) ∧ Below W.heap.size W w') := HSa
  have HIa := HI0.out hL hnl HXL hLH HXH
  have HI : Hid (∀ g1 g2 W, Below w.heap.size w W → TgoRow W g1 L → HoRow W g2 H → Calls Tryz.prog 29 #[.agg #[.string ⟨nm.toArray⟩, .slice (some ⟨g1, 0, none⟩) L.length L.length], .agg #[.int .i64 ri, .int .i64 fa, .slice (some ⟨g2, 0, none⟩) H.length H.length], .int .i64 d] W fun e w' => e = .returned (.tuple #[.agg #[.string rn, .int .i64 rt, .int .i64 rl, .string rd], .bool ok]) ∧ Below W.heap.size W w') := HIa
  have HEP : Hid (∀ g1 g2 W, TgoRow W g1 L → TgoRow W g2 L → Calls Tryz.prog 15 #[.agg #[.string ⟨nm.toArray⟩, .slice (some ⟨g1, 0, none⟩) L.length L.length], .agg #[.string ⟨nm.toArray⟩, .slice (some ⟨g2, 0, none⟩) L.length L.length]] W fun e w' => e = .returned (.bool true) ∧ Below W.heap.size W w') := fun g1 g2 W h1 h2 => eqPolicy_same ⟨nm.toArray⟩ _ _ L W (h1.row1 hL) (h2.row1 hL)
  have HEH : Hid (∀ g1 g2 W, HoRow W g1 H → HoRow W g2 H → Calls Tryz.prog 16 #[.agg #[.int .i64 ri, .int .i64 fa, .slice (some ⟨g1, 0, none⟩) H.length H.length], .agg #[.int .i64 ri, .int .i64 fa, .slice (some ⟨g2, 0, none⟩) H.length H.length]] W fun e w' => e = .returned (.bool true) ∧ Below W.heap.size W w') := fun g1 g2 W h1 h2 => eqHealth_same ri fa _ _ H W (h1.row1 hLH) (h2.row1 hLH)
  have e2 : (ok != ok) = false := by simp
  have HER : Hid (∀ W, Calls Tryz.prog 30 #[.agg #[.string rn, .int .i64 rt, .int .i64 rl, .string rd], .agg #[.string rn, .int .i64 rt, .int .i64 rl, .string rd]] W fun e w' => e = .returned (.bool true) ∧ Below W.heap.size W w') := fun W => eqRec_same rn rd rt rl W
  clear HS0 HI0 HTP0 HTPa HSa HIa HSZ HTH0 HTHa HSH
  have hSX : Below v2.heap.size v2 v2.drew := (Below.refl _ _).drew
  have HTR : Hid (∀ W W', Below v2.heap.size v2 W → Below W.heap.size W W' → Below v2.heap.size v2 W') := fun W W' h1 h2 => h1.trans (h2.mono h1.size)
  have HCL : Hid (∀ W, Below v2.heap.size v2 W → W.cell? ⟨w.heap.size, 0, none⟩ = some (.string ⟨nm.toArray⟩) ∧ W.cell? ⟨w.heap.size, 1, none⟩ = some (.slice a L.length cap) ∧ W.cell? ⟨w.heap.size + 1, 0, none⟩ = some (.int .i64 ri) ∧ W.cell? ⟨w.heap.size + 1, 1, none⟩ = some (.int .i64 fa) ∧ W.cell? ⟨w.heap.size + 1, 2, none⟩ = some (.slice a2 H.length cap2)) := fun W hW => by
    have x1 := (pol_cells ((hW.block w.heap.size (by omega)).trans P0_v2.out)).1
    have x2 := (hst_cells ((hW.block (w.heap.size + 1) (by omega)).trans H0_v2.out)).1
    exact ⟨x1.1, x1.2, x2.1, x2.2.1, x2.2.2⟩
  have HTPs : Hid (∀ W, Below v2.heap.size v2 W → Calls Tryz.prog 12 #[.agg #[.string ⟨nm.toArray⟩, .slice a L.length cap]] W fun e w' => (∃ g, e = .returned (.agg #[.string ⟨nm.toArray⟩, .slice (some ⟨g, 0, none⟩) L.length L.length]) ∧ W.heap.size ≤ g ∧ TgoRow w' g L) ∧ Below W.heap.size W w') := fun W hW => HTP.out W (hbw_v2.trans (hW.mono hbw_v2.size))
  have HTHs : Hid (∀ W, Below v2.heap.size v2 W → Calls Tryz.prog 13 #[.agg #[.int .i64 ri, .int .i64 fa, .slice a2 H.length cap2]] W fun e w' => (∃ g, e = .returned (.agg #[.int .i64 ri, .int .i64 fa, .slice (some ⟨g, 0, none⟩) H.length H.length]) ∧ W.heap.size ≤ g ∧ HoRow w' g H) ∧ Below W.heap.size W w') := fun W hW => HTH.out W (hbw_v2.trans (hW.mono hbw_v2.size))
  go_wp2_with fail
  refine Code.wp_mono (Q := fun ex act W => ex = Exit.normal ∧ ∃ (gX g91 g92 : Nat), act = { tmps := #[.agg #[.string ⟨nm.toArray⟩, .slice a L.length cap], .agg #[.int .i64 ri, .int .i64 fa, .slice a2 H.length cap2], .int .i64 d, .pointer (some ⟨w.heap.size, 0, none⟩), .pointer (some ⟨w.heap.size + 1, 0, none⟩), undef, .bool false, .int .i64 q2, .pointer (some ⟨gX, 0, none⟩), .bool ok, undef, undef, undef, undef, .agg #[.string ⟨nm.toArray⟩, .slice a L.length cap], .int .i64 1048576, .int .i64 q, .int .i64 q, .bool (decide (q < 0)), .agg #[.int .i64 ri, .int .i64 fa, .slice a2 H.length cap2], .int .i64 q, .int .i64 q2, .int .i64 q2, .bool (decide (q2 < 0)), .tuple #[.agg #[.string rn, .int .i64 rt, .int .i64 rl, .string rd], .bool ok], .agg #[.string ⟨nm.toArray⟩, .slice a L.length cap], .agg #[.string ⟨nm.toArray⟩, .slice (some ⟨g91, 0, none⟩) L.length L.length], .agg #[.int .i64 ri, .int .i64 fa, .slice a2 H.length cap2], .agg #[.int .i64 ri, .int .i64 fa, .slice (some ⟨g92, 0, none⟩) H.length H.length], .int .i64 d, .tuple #[.agg #[.string rn, .int .i64 rt, .int .i64 rl, .string rd], .bool ok], .agg #[.string rn, .int .i64 rt, .int .i64 rl, .string rd], .bool ok, undef, undef, undef, undef, undef, undef, undef, undef, undef, undef, undef, undef, undef, undef, undef, undef, undef, undef, undef, undef, undef, undef, undef, undef, undef, undef, undef, undef, undef, undef], defers := [] } ∧ v2.heap.size ≤ gX ∧ gX < W.heap.size ∧ W.heap[gX]? = some (.cells #[.string rn, .int .i64 rt, .int .i64 rl, .string rd] 55) ∧ Below v2.heap.size v2 W) ?_ ?_
  rotate_left
  · refine wp_region_held_drew (S := fun W : World => Below v2.heap.size v2 W) (by kernel_rfl) hSX (fun hHeld => ?_)
    generalize v2.drew = wX at *
    refine wpAnyH_take (i := 0) (v := .agg #[.string ⟨nm.toArray⟩, .slice a L.length cap]) rfl (by kernel_rfl) (by kernel_rfl) (by kernel_rfl) (fun _ _ _ h => (by cases h.1)) (Or.inl ⟨by rfl, ?_⟩) (by assumption) ?_
    · intro W hSW
      obtain ⟨s0, s1, s2, s3, s4⟩ := HCL.out W hSW
      go_simp
    simp only [Act.put, List.getElem_toArray, List.getElem_cons_zero, List.setIfInBounds_toArray, List.set_cons_succ, List.set_cons_zero]
    refine wpAnyH_take (i := 2) (v := .agg #[.int .i64 ri, .int .i64 fa, .slice a2 H.length cap2]) rfl (by kernel_rfl) (by kernel_rfl) (by kernel_rfl) (fun _ _ _ h => (by cases h.1)) (Or.inl ⟨by rfl, ?_⟩) (by assumption) ?_
    · intro W hSW
      obtain ⟨s0, s1, s2, s3, s4⟩ := HCL.out W hSW
      go_simp
    simp only [Act.put, List.getElem_toArray, List.getElem_cons_succ, List.getElem_cons_zero, List.setIfInBounds_toArray, List.set_cons_succ, List.set_cons_zero]
    refine wpAnyH_take (i := 4) (v := .int .i64 d) rfl (by kernel_rfl) (by kernel_rfl) (by kernel_rfl) (fun _ _ _ h => (by cases h.1)) (Or.inl ⟨by rfl, ?_⟩) (by assumption) ?_
    · intro W hSW
      go_simp
    simp only [Act.put, List.getElem_toArray, List.getElem_cons_succ, List.getElem_cons_zero, List.setIfInBounds_toArray, List.set_cons_succ, List.set_cons_zero]
    refine wpAnyH_ready (rs := [1, 9]) (by kernel_rfl) (by simp) ?_
    refine AllReadyH.cons rfl (fun K hK => ?_) (AllReadyH.cons rfl (fun K hK => ?_) AllReadyH.nil)
    · rw [if_pos (by rfl)]
      go_simp
      refine (HTPs.out _ hSX).mono ?_
      rintro e y1 ⟨⟨g91, rfl, _, ht_y1⟩, hb_y1⟩
      go_simp
      have hS_y1 := HTR.out _ _ hSX hb_y1
      refine hK.out _ _ hS_y1 (fun hSS => ?_)
      clear hK
      refine wpAnyH_ready (rs := [3, 9]) (by kernel_rfl) (by simp) ?_
      refine AllReadyH.cons rfl (fun K hK => ?_) (AllReadyH.cons rfl (fun K hK => ?_) AllReadyH.nil)
      · rw [if_pos (by rfl)]
        go_simp
        refine (HTHs.out _ hS_y1).mono ?_
        rintro e y2 ⟨⟨g92, rfl, _, hh_y2⟩, hb_y2⟩
        go_simp
        have ht_y2 := ht_y1.kept hb_y2
        have hS_y2 := HTR.out _ _ hS_y1 hb_y2
        refine hK.out _ _ hS_y2 (fun hSS => ?_)
        clear hK
        refine wpAnyH_ready (rs := [5, 9]) (by kernel_rfl) (by simp) ?_
        refine AllReadyH.cons rfl (fun K hK => ?_) (AllReadyH.cons rfl (fun K hK => ?_) AllReadyH.nil)
        · rw [if_pos (by rfl)]
          go_simp
          refine (HS.out _ _ _ ht_y2 hh_y2).mono ?_
          rintro e y3 ⟨rfl, hb_y3⟩
          go_simp
          have hS_y3 := HTR.out _ _ hS_y2 hb_y3
          refine hK.out _ _ hS_y3 (fun hSS => ?_)
          clear hK
          refine wpAnyH_take (i := 6) (v := .tuple #[.agg #[.string rn, .int .i64 rt, .int .i64 rl, .string rd], .bool ok]) rfl (by kernel_rfl) (by kernel_rfl) (by kernel_rfl) (fun _ _ _ h => (by cases h.1)) (Or.inl ⟨by rfl, ?_⟩) (by assumption) ?_
          · intro W hSW
            go_simp
          simp only [Act.put, List.getElem_toArray, List.getElem_cons_succ, List.getElem_cons_zero, List.setIfInBounds_toArray, List.set_cons_succ, List.set_cons_zero]
          refine wpAnyH_take (i := 7) (v := .agg #[.string rn, .int .i64 rt, .int .i64 rl, .string rd]) rfl (by kernel_rfl) (by kernel_rfl) (by kernel_rfl) (fun _ _ _ h => (by cases h.1)) (Or.inl ⟨by rfl, ?_⟩) (by assumption) ?_
          · intro W hSW
            go_simp
          simp only [Act.put, List.getElem_toArray, List.getElem_cons_succ, List.getElem_cons_zero, List.setIfInBounds_toArray, List.set_cons_succ, List.set_cons_zero]
          refine wpAnyH_take (i := 8) (v := .bool ok) rfl (by kernel_rfl) (by kernel_rfl) (by kernel_rfl) (fun _ _ _ h => (by cases h.1)) (Or.inl ⟨by rfl, ?_⟩) (by assumption) ?_
          · intro W hSW
            go_simp
          simp only [Act.put, List.getElem_toArray, List.getElem_cons_succ, List.getElem_cons_zero, List.setIfInBounds_toArray, List.set_cons_succ, List.set_cons_zero]
          refine wpAnyH_ready (rs := [9]) (by kernel_rfl) (by simp) ?_
          refine AllReadyH.cons rfl (fun K hK => ?_) AllReadyH.nil
          rw [if_pos (by rfl)]
          go_simp
          have hSA : Below v2.heap.size v2 (y3.alloc (.cells #[.string ⟨#[]⟩, .int .i64 0, .int .i64 0, .string ⟨#[]⟩] 55)) := hS_y3.alloc hS_y3.size _
          refine hK.out _ _ hSA (fun hSS => ?_)
          clear hK
          refine wpAnyH_ready (rs := [10]) (by kernel_rfl) (by simp) ?_
          refine AllReadyH.cons rfl (fun K hK => ?_) AllReadyH.nil
          rw [if_pos (by rfl)]
          have hSF : Below v2.heap.size v2 (y3.alloc (.cells #[.string rn, .int .i64 rt, .int .i64 rl, .string rd] 55)) := hS_y3.alloc hS_y3.size _
          have hF : (y3.alloc (.cells #[.string rn, .int .i64 rt, .int .i64 rl, .string rd] 55)).heap[y3.heap.size]? = some (.cells #[.string rn, .int .i64 rt, .int .i64 rl, .string rd] 55) := tgt_new _ _
          have hFl : y3.heap.size < (y3.alloc (.cells #[.string rn, .int .i64 rt, .int .i64 rl, .string rd] 55)).heap.size := by simp
          have hszF := hS_y3.size
          go_simp
          refine hK.out _ _ hSF (fun hSS => ?_)
          clear hK
          refine wpAnyH_take (i := 11) (v := .bool ok) rfl (by kernel_rfl) (by kernel_rfl) (by kernel_rfl) (fun _ _ _ h => (by cases h.1)) (Or.inl ⟨by rfl, ?_⟩) (by assumption) ?_
          · intro W hSW
            go_simp
          simp only [Act.put, List.getElem_toArray, List.getElem_cons_succ, List.getElem_cons_zero, List.setIfInBounds_toArray, List.set_cons_succ, List.set_cons_zero]
          refine wpAnyH_done (by kernel_rfl) ?_ _
          exact ⟨rfl, y3.heap.size, g91, g92, rfl, hszF, hFl, hF, hSF⟩
        · rw [if_pos (by rfl)]
          go_simp
          have hS_y4 : Below v2.heap.size v2 (y2.alloc (.cells #[.string ⟨#[]⟩, .int .i64 0, .int .i64 0, .string ⟨#[]⟩] 55)) := hS_y2.alloc hS_y2.size _
          refine hK.out _ _ hS_y4 (fun hSS => ?_)
          clear hK
          obtain ⟨gX, hgXe⟩ : ∃ g, g = y2.heap.size := ⟨_, rfl⟩
          have hq_y4 : (y2.alloc (.cells #[.string ⟨#[]⟩, .int .i64 0, .int .i64 0, .string ⟨#[]⟩] 55)).heap[gX]? = some (.cells #[.string ⟨#[]⟩, .int .i64 0, .int .i64 0, .string ⟨#[]⟩] 55) := by rw [hgXe]; exact tgt_new _ _
          have hb_y4 : Below y2.heap.size y2 (y2.alloc (.cells #[.string ⟨#[]⟩, .int .i64 0, .int .i64 0, .string ⟨#[]⟩] 55)) := (Below.refl _ _).alloc (Nat.le_refl _) _
          have hl_y4 : gX < (y2.alloc (.cells #[.string ⟨#[]⟩, .int .i64 0, .int .i64 0, .string ⟨#[]⟩] 55)).heap.size := by rw [hgXe]; simp
          have hsz_y4 := hS_y2.size
          have ht_y4 := ht_y2.kept hb_y4
          have hh_y4 := hh_y2.kept hb_y4
          rw [← hgXe]
          have hgX1 : v2.heap.size ≤ gX := by omega
          clear hgXe
          generalize y2.alloc (.cells #[.string ⟨#[]⟩, .int .i64 0, .int .i64 0, .string ⟨#[]⟩] 55) = y4 at *
          refine wpAnyH_ready (rs := [5]) (by kernel_rfl) (by simp) ?_
          refine AllReadyH.cons rfl (fun K hK => ?_) AllReadyH.nil
          · rw [if_pos (by rfl)]
            go_simp
            refine (HS.out _ _ _ ht_y4 hh_y4).mono ?_
            rintro e y5 ⟨rfl, hb_y5⟩
            go_simp
            have hS_y5 := HTR.out _ _ hS_y4 hb_y5
            have hq_y5 : y5.heap[gX]? = some (.cells #[.string ⟨#[]⟩, .int .i64 0, .int .i64 0, .string ⟨#[]⟩] 55) := (hb_y5.block gX hl_y4).trans hq_y4
            have hl_y5 : gX < y5.heap.size := Nat.lt_of_lt_of_le hl_y4 hb_y5.size
            refine hK.out _ _ hS_y5 (fun hSS => ?_)
            clear hK
            refine wpAnyH_take (i := 6) (v := .tuple #[.agg #[.string rn, .int .i64 rt, .int .i64 rl, .string rd], .bool ok]) rfl (by kernel_rfl) (by kernel_rfl) (by kernel_rfl) (fun _ _ _ h => (by cases h.1)) (Or.inl ⟨by rfl, ?_⟩) (by assumption) ?_
            · intro W hSW
              go_simp
            simp only [Act.put, List.getElem_toArray, List.getElem_cons_succ, List.getElem_cons_zero, List.setIfInBounds_toArray, List.set_cons_succ, List.set_cons_zero]
            refine wpAnyH_take (i := 7) (v := .agg #[.string rn, .int .i64 rt, .int .i64 rl, .string rd]) rfl (by kernel_rfl) (by kernel_rfl) (by kernel_rfl) (fun _ _ _ h => (by cases h.1)) (Or.inl ⟨by rfl, ?_⟩) (by assumption) ?_
            · intro W hSW
              go_simp
            simp only [Act.put, List.getElem_toArray, List.getElem_cons_succ, List.getElem_cons_zero, List.setIfInBounds_toArray, List.set_cons_succ, List.set_cons_zero]
            refine wpAnyH_take (i := 8) (v := .bool ok) rfl (by kernel_rfl) (by kernel_rfl) (by kernel_rfl) (fun _ _ _ h => (by cases h.1)) (Or.inl ⟨by rfl, ?_⟩) (by assumption) ?_
            · intro W hSW
              go_simp
            simp only [Act.put, List.getElem_toArray, List.getElem_cons_succ, List.getElem_cons_zero, List.setIfInBounds_toArray, List.set_cons_succ, List.set_cons_zero]
            refine wpAnyH_ready (rs := [10]) (by kernel_rfl) (by simp) ?_
            refine AllReadyH.cons rfl (fun K hK => ?_) AllReadyH.nil
            rw [if_pos (by rfl)]
            obtain ⟨⟨r0, r1, r2, r3⟩, ⟨f0, f1, f2, f3⟩⟩ := rec_box hq_y5
            have hSF := put4a_below hS_y5 (g := gX) hgX1 (.string rn) (.int .i64 rt) (.int .i64 rl) (.string rd)
            have hF := put4a_heap (v0 := .string rn) (v1 := .int .i64 rt) (v2 := .int .i64 rl) (v3 := .string rd) hq_y5
            have hFl : gX < (put4a y5 gX (.string rn) (.int .i64 rt) (.int .i64 rl) (.string rd)).heap.size := (Array.getElem?_eq_some_iff.1 hF).1
            go_simp
            unfold put4a at hSF hF hFl
            refine hK.out _ _ hSF (fun hSS => ?_)
            clear hK r0 r1 r2 r3 f0 f1 f2 f3
            refine wpAnyH_take (i := 11) (v := .bool ok) rfl (by kernel_rfl) (by kernel_rfl) (by kernel_rfl) (fun _ _ _ h => (by cases h.1)) (Or.inl ⟨by rfl, ?_⟩) (by assumption) ?_
            · intro W hSW
              go_simp
            simp only [Act.put, List.getElem_toArray, List.getElem_cons_succ, List.getElem_cons_zero, List.setIfInBounds_toArray, List.set_cons_succ, List.set_cons_zero]
            refine wpAnyH_done (by kernel_rfl) ?_ _
            exact ⟨rfl, gX, g91, g92, rfl, hgX1, hFl, hF, hSF⟩
      · rw [if_pos (by rfl)]
        go_simp
        have hS_y6 : Below v2.heap.size v2 (y1.alloc (.cells #[.string ⟨#[]⟩, .int .i64 0, .int .i64 0, .string ⟨#[]⟩] 55)) := hS_y1.alloc hS_y1.size _
        refine hK.out _ _ hS_y6 (fun hSS => ?_)
        clear hK
        obtain ⟨gX, hgXe⟩ : ∃ g, g = y1.heap.size := ⟨_, rfl⟩
        have hq_y6 : (y1.alloc (.cells #[.string ⟨#[]⟩, .int .i64 0, .int .i64 0, .string ⟨#[]⟩] 55)).heap[gX]? = some (.cells #[.string ⟨#[]⟩, .int .i64 0, .int .i64 0, .string ⟨#[]⟩] 55) := by rw [hgXe]; exact tgt_new _ _
        have hb_y6 : Below y1.heap.size y1 (y1.alloc (.cells #[.string ⟨#[]⟩, .int .i64 0, .int .i64 0, .string ⟨#[]⟩] 55)) := (Below.refl _ _).alloc (Nat.le_refl _) _
        have hl_y6 : gX < (y1.alloc (.cells #[.string ⟨#[]⟩, .int .i64 0, .int .i64 0, .string ⟨#[]⟩] 55)).heap.size := by rw [hgXe]; simp
        have hsz_y6 := hS_y1.size
        have ht_y6 := ht_y1.kept hb_y6
        rw [← hgXe]
        have hgX1 : v2.heap.size ≤ gX := by omega
        clear hgXe
        generalize y1.alloc (.cells #[.string ⟨#[]⟩, .int .i64 0, .int .i64 0, .string ⟨#[]⟩] 55) = y6 at *
        refine wpAnyH_ready (rs := [3]) (by kernel_rfl) (by simp) ?_
        refine AllReadyH.cons rfl (fun K hK => ?_) AllReadyH.nil
        · rw [if_pos (by rfl)]
          go_simp
          refine (HTHs.out _ hS_y6).mono ?_
          rintro e y7 ⟨⟨g92, rfl, _, hh_y7⟩, hb_y7⟩
          go_simp
          have ht_y7 := ht_y6.kept hb_y7
          have hS_y7 := HTR.out _ _ hS_y6 hb_y7
          have hq_y7 : y7.heap[gX]? = some (.cells #[.string ⟨#[]⟩, .int .i64 0, .int .i64 0, .string ⟨#[]⟩] 55) := (hb_y7.block gX hl_y6).trans hq_y6
          have hl_y7 : gX < y7.heap.size := Nat.lt_of_lt_of_le hl_y6 hb_y7.size
          refine hK.out _ _ hS_y7 (fun hSS => ?_)
          clear hK
          refine wpAnyH_ready (rs := [5]) (by kernel_rfl) (by simp) ?_
          refine AllReadyH.cons rfl (fun K hK => ?_) AllReadyH.nil
          · rw [if_pos (by rfl)]
            go_simp
            refine (HS.out _ _ _ ht_y7 hh_y7).mono ?_
            rintro e y8 ⟨rfl, hb_y8⟩
            go_simp
            have hS_y8 := HTR.out _ _ hS_y7 hb_y8
            have hq_y8 : y8.heap[gX]? = some (.cells #[.string ⟨#[]⟩, .int .i64 0, .int .i64 0, .string ⟨#[]⟩] 55) := (hb_y8.block gX hl_y7).trans hq_y7
            have hl_y8 : gX < y8.heap.size := Nat.lt_of_lt_of_le hl_y7 hb_y8.size
            refine hK.out _ _ hS_y8 (fun hSS => ?_)
            clear hK
            refine wpAnyH_take (i := 6) (v := .tuple #[.agg #[.string rn, .int .i64 rt, .int .i64 rl, .string rd], .bool ok]) rfl (by kernel_rfl) (by kernel_rfl) (by kernel_rfl) (fun _ _ _ h => (by cases h.1)) (Or.inl ⟨by rfl, ?_⟩) (by assumption) ?_
            · intro W hSW
              go_simp
            simp only [Act.put, List.getElem_toArray, List.getElem_cons_succ, List.getElem_cons_zero, List.setIfInBounds_toArray, List.set_cons_succ, List.set_cons_zero]
            refine wpAnyH_take (i := 7) (v := .agg #[.string rn, .int .i64 rt, .int .i64 rl, .string rd]) rfl (by kernel_rfl) (by kernel_rfl) (by kernel_rfl) (fun _ _ _ h => (by cases h.1)) (Or.inl ⟨by rfl, ?_⟩) (by assumption) ?_
            · intro W hSW
              go_simp
            simp only [Act.put, List.getElem_toArray, List.getElem_cons_succ, List.getElem_cons_zero, List.setIfInBounds_toArray, List.set_cons_succ, List.set_cons_zero]
            refine wpAnyH_take (i := 8) (v := .bool ok) rfl (by kernel_rfl) (by kernel_rfl) (by kernel_rfl) (fun _ _ _ h => (by cases h.1)) (Or.inl ⟨by rfl, ?_⟩) (by assumption) ?_
            · intro W hSW
              go_simp
            simp only [Act.put, List.getElem_toArray, List.getElem_cons_succ, List.getElem_cons_zero, List.setIfInBounds_toArray, List.set_cons_succ, List.set_cons_zero]
            refine wpAnyH_ready (rs := [10]) (by kernel_rfl) (by simp) ?_
            refine AllReadyH.cons rfl (fun K hK => ?_) AllReadyH.nil
            rw [if_pos (by rfl)]
            obtain ⟨⟨r0, r1, r2, r3⟩, ⟨f0, f1, f2, f3⟩⟩ := rec_box hq_y8
            have hSF := put4a_below hS_y8 (g := gX) hgX1 (.string rn) (.int .i64 rt) (.int .i64 rl) (.string rd)
            have hF := put4a_heap (v0 := .string rn) (v1 := .int .i64 rt) (v2 := .int .i64 rl) (v3 := .string rd) hq_y8
            have hFl : gX < (put4a y8 gX (.string rn) (.int .i64 rt) (.int .i64 rl) (.string rd)).heap.size := (Array.getElem?_eq_some_iff.1 hF).1
            go_simp
            unfold put4a at hSF hF hFl
            refine hK.out _ _ hSF (fun hSS => ?_)
            clear hK r0 r1 r2 r3 f0 f1 f2 f3
            refine wpAnyH_take (i := 11) (v := .bool ok) rfl (by kernel_rfl) (by kernel_rfl) (by kernel_rfl) (fun _ _ _ h => (by cases h.1)) (Or.inl ⟨by rfl, ?_⟩) (by assumption) ?_
            · intro W hSW
              go_simp
            simp only [Act.put, List.getElem_toArray, List.getElem_cons_succ, List.getElem_cons_zero, List.setIfInBounds_toArray, List.set_cons_succ, List.set_cons_zero]
            refine wpAnyH_done (by kernel_rfl) ?_ _
            exact ⟨rfl, gX, g91, g92, rfl, hgX1, hFl, hF, hSF⟩
    · rw [if_pos (by rfl)]
      go_simp
      have hS_y9 : Below v2.heap.size v2 (wX.alloc (.cells #[.string ⟨#[]⟩, .int .i64 0, .int .i64 0, .string ⟨#[]⟩] 55)) := hSX.alloc hSX.size _
      refine hK.out _ _ hS_y9 (fun hSS => ?_)
      clear hK
      obtain ⟨gX, hgXe⟩ : ∃ g, g = wX.heap.size := ⟨_, rfl⟩
      have hq_y9 : (wX.alloc (.cells #[.string ⟨#[]⟩, .int .i64 0, .int .i64 0, .string ⟨#[]⟩] 55)).heap[gX]? = some (.cells #[.string ⟨#[]⟩, .int .i64 0, .int .i64 0, .string ⟨#[]⟩] 55) := by rw [hgXe]; exact tgt_new _ _
      have hb_y9 : Below wX.heap.size wX (wX.alloc (.cells #[.string ⟨#[]⟩, .int .i64 0, .int .i64 0, .string ⟨#[]⟩] 55)) := (Below.refl _ _).alloc (Nat.le_refl _) _
      have hl_y9 : gX < (wX.alloc (.cells #[.string ⟨#[]⟩, .int .i64 0, .int .i64 0, .string ⟨#[]⟩] 55)).heap.size := by rw [hgXe]; simp
      have hsz_y9 := hSX.size
      rw [← hgXe]
      have hgX1 : v2.heap.size ≤ gX := by omega
      clear hgXe
      generalize wX.alloc (.cells #[.string ⟨#[]⟩, .int .i64 0, .int .i64 0, .string ⟨#[]⟩] 55) = y9 at *
      refine wpAnyH_ready (rs := [1]) (by kernel_rfl) (by simp) ?_
      refine AllReadyH.cons rfl (fun K hK => ?_) AllReadyH.nil
      · rw [if_pos (by rfl)]
        go_simp
        refine (HTPs.out _ hS_y9).mono ?_
        rintro e y10 ⟨⟨g91, rfl, _, ht_y10⟩, hb_y10⟩
        go_simp
        have hS_y10 := HTR.out _ _ hS_y9 hb_y10
        have hq_y10 : y10.heap[gX]? = some (.cells #[.string ⟨#[]⟩, .int .i64 0, .int .i64 0, .string ⟨#[]⟩] 55) := (hb_y10.block gX hl_y9).trans hq_y9
        have hl_y10 : gX < y10.heap.size := Nat.lt_of_lt_of_le hl_y9 hb_y10.size
        refine hK.out _ _ hS_y10 (fun hSS => ?_)
        clear hK
        refine wpAnyH_ready (rs := [3]) (by kernel_rfl) (by simp) ?_
        refine AllReadyH.cons rfl (fun K hK => ?_) AllReadyH.nil
        · rw [if_pos (by rfl)]
          go_simp
          refine (HTHs.out _ hS_y10).mono ?_
          rintro e y11 ⟨⟨g92, rfl, _, hh_y11⟩, hb_y11⟩
          go_simp
          have ht_y11 := ht_y10.kept hb_y11
          have hS_y11 := HTR.out _ _ hS_y10 hb_y11
          have hq_y11 : y11.heap[gX]? = some (.cells #[.string ⟨#[]⟩, .int .i64 0, .int .i64 0, .string ⟨#[]⟩] 55) := (hb_y11.block gX hl_y10).trans hq_y10
          have hl_y11 : gX < y11.heap.size := Nat.lt_of_lt_of_le hl_y10 hb_y11.size
          refine hK.out _ _ hS_y11 (fun hSS => ?_)
          clear hK
          refine wpAnyH_ready (rs := [5]) (by kernel_rfl) (by simp) ?_
          refine AllReadyH.cons rfl (fun K hK => ?_) AllReadyH.nil
          · rw [if_pos (by rfl)]
            go_simp
            refine (HS.out _ _ _ ht_y11 hh_y11).mono ?_
            rintro e y12 ⟨rfl, hb_y12⟩
            go_simp
            have hS_y12 := HTR.out _ _ hS_y11 hb_y12
            have hq_y12 : y12.heap[gX]? = some (.cells #[.string ⟨#[]⟩, .int .i64 0, .int .i64 0, .string ⟨#[]⟩] 55) := (hb_y12.block gX hl_y11).trans hq_y11
            have hl_y12 : gX < y12.heap.size := Nat.lt_of_lt_of_le hl_y11 hb_y12.size
            refine hK.out _ _ hS_y12 (fun hSS => ?_)
            clear hK
            refine wpAnyH_take (i := 6) (v := .tuple #[.agg #[.string rn, .int .i64 rt, .int .i64 rl, .string rd], .bool ok]) rfl (by kernel_rfl) (by kernel_rfl) (by kernel_rfl) (fun _ _ _ h => (by cases h.1)) (Or.inl ⟨by rfl, ?_⟩) (by assumption) ?_
            · intro W hSW
              go_simp
            simp only [Act.put, List.getElem_toArray, List.getElem_cons_succ, List.getElem_cons_zero, List.setIfInBounds_toArray, List.set_cons_succ, List.set_cons_zero]
            refine wpAnyH_take (i := 7) (v := .agg #[.string rn, .int .i64 rt, .int .i64 rl, .string rd]) rfl (by kernel_rfl) (by kernel_rfl) (by kernel_rfl) (fun _ _ _ h => (by cases h.1)) (Or.inl ⟨by rfl, ?_⟩) (by assumption) ?_
            · intro W hSW
              go_simp
            simp only [Act.put, List.getElem_toArray, List.getElem_cons_succ, List.getElem_cons_zero, List.setIfInBounds_toArray, List.set_cons_succ, List.set_cons_zero]
            refine wpAnyH_take (i := 8) (v := .bool ok) rfl (by kernel_rfl) (by kernel_rfl) (by kernel_rfl) (fun _ _ _ h => (by cases h.1)) (Or.inl ⟨by rfl, ?_⟩) (by assumption) ?_
            · intro W hSW
              go_simp
            simp only [Act.put, List.getElem_toArray, List.getElem_cons_succ, List.getElem_cons_zero, List.setIfInBounds_toArray, List.set_cons_succ, List.set_cons_zero]
            refine wpAnyH_ready (rs := [10]) (by kernel_rfl) (by simp) ?_
            refine AllReadyH.cons rfl (fun K hK => ?_) AllReadyH.nil
            rw [if_pos (by rfl)]
            obtain ⟨⟨r0, r1, r2, r3⟩, ⟨f0, f1, f2, f3⟩⟩ := rec_box hq_y12
            have hSF := put4a_below hS_y12 (g := gX) hgX1 (.string rn) (.int .i64 rt) (.int .i64 rl) (.string rd)
            have hF := put4a_heap (v0 := .string rn) (v1 := .int .i64 rt) (v2 := .int .i64 rl) (v3 := .string rd) hq_y12
            have hFl : gX < (put4a y12 gX (.string rn) (.int .i64 rt) (.int .i64 rl) (.string rd)).heap.size := (Array.getElem?_eq_some_iff.1 hF).1
            go_simp
            unfold put4a at hSF hF hFl
            refine hK.out _ _ hSF (fun hSS => ?_)
            clear hK r0 r1 r2 r3 f0 f1 f2 f3
            refine wpAnyH_take (i := 11) (v := .bool ok) rfl (by kernel_rfl) (by kernel_rfl) (by kernel_rfl) (fun _ _ _ h => (by cases h.1)) (Or.inl ⟨by rfl, ?_⟩) (by assumption) ?_
            · intro W hSW
              go_simp
            simp only [Act.put, List.getElem_toArray, List.getElem_cons_succ, List.getElem_cons_zero, List.setIfInBounds_toArray, List.set_cons_succ, List.set_cons_zero]
            refine wpAnyH_done (by kernel_rfl) ?_ _
            exact ⟨rfl, gX, g91, g92, rfl, hgX1, hFl, hF, hSF⟩
  rintro ex act v3 ⟨rfl, gX, g91, g92, rfl, hgX, hgXl, hbx, hbt⟩
  clear hSX HTR HCL HTPs HTHs
  have hbw_v3 : Below w.heap.size w v3 := hbw_v2.trans (hbt.mono hbw_v2.size)
  have hz_v3 : v2.heap.size ≤ v3.heap.size := hbt.size
  have P0_v3 : Hid (v3.heap[w.heap.size]? = some (.cells #[.string ⟨nm.toArray⟩, .slice a L.length cap] 24)) := (hbt.block w.heap.size (by omega)).trans P0_v2.out
  have H0_v3 : Hid (v3.heap[(w.heap.size + 1)]? = some (.cells #[.int .i64 ri, .int .i64 fa, .slice a2 H.length cap2] 27)) := (hbt.block (w.heap.size + 1) (by omega)).trans H0_v2.out
  clear P0_v2 H0_v2 hbt hbw_v2 
  have Y0_v3 : Hid (v3.heap[gX]? = some (.cells #[.string rn, .int .i64 rt, .int .i64 rl, .string rd] 55)) := hbx
  clear hbx
  obtain ⟨⟨p0, p1⟩, _⟩ := pol_cells P0_v3.out
  go_wp2_with fail
  refine (HTP.out _ hbw_v3).mono ?_
  rintro e v4 ⟨⟨g1, rfl, hg1, hr1⟩, hb4⟩
  have hbw_v4 : Below w.heap.size w v4 := hbw_v3.trans (hb4.mono hbw_v3.size)
  have hz_v4 : v3.heap.size ≤ v4.heap.size := hb4.size
  have P0_v4 : Hid (v4.heap[w.heap.size]? = some (.cells #[.string ⟨nm.toArray⟩, .slice a L.length cap] 24)) := (hb4.block w.heap.size (by omega)).trans P0_v3.out
  have H0_v4 : Hid (v4.heap[(w.heap.size + 1)]? = some (.cells #[.int .i64 ri, .int .i64 fa, .slice a2 H.length cap2] 27)) := (hb4.block (w.heap.size + 1) (by omega)).trans H0_v3.out
  have Y0_v4 : Hid (v4.heap[gX]? = some (.cells #[.string rn, .int .i64 rt, .int .i64 rl, .string rd] 55)) := (hb4.block gX (by omega)).trans Y0_v3.out
  clear P0_v3 H0_v3 Y0_v3 hb4 hbw_v3 p0 p1
  have T1_v4 : Hid (TgoRow v4 g1 L) := hr1
  have hg1l : g1 < v4.heap.size := hr1.1
  clear hr1
  obtain ⟨v5, htv5⟩ : ∃ W, W = v4.alloc (.cells #[.string ⟨nm.toArray⟩, .slice (some ⟨g1, 0, none⟩) L.length L.length] 34) := ⟨_, rfl⟩
  have hbv5 : Below v4.heap.size v4 v5 := by rw [htv5]; exact (Below.refl _ _).alloc (Nat.le_refl _) _
  have hxv5 : v5.heap[v4.heap.size]? = some (.cells #[.string ⟨nm.toArray⟩, .slice (some ⟨g1, 0, none⟩) L.length L.length] 34) := by rw [htv5]; exact tgt_new _ _
  have HFv5 : Hid (v4.alloc (.cells #[.string ⟨nm.toArray⟩, .slice (some ⟨g1, 0, none⟩) L.length L.length] 34) = v5) := htv5.symm
  have hlv5 : v4.heap.size < v5.heap.size := by rw [htv5]; simp
  clear htv5
  have hbw_v5 : Below w.heap.size w v5 := hbw_v4.trans (hbv5.mono hbw_v4.size)
  have hz_v5 : v4.heap.size ≤ v5.heap.size := hbv5.size
  have P0_v5 : Hid (v5.heap[w.heap.size]? = some (.cells #[.string ⟨nm.toArray⟩, .slice a L.length cap] 24)) := (hbv5.block w.heap.size (by omega)).trans P0_v4.out
  have H0_v5 : Hid (v5.heap[(w.heap.size + 1)]? = some (.cells #[.int .i64 ri, .int .i64 fa, .slice a2 H.length cap2] 27)) := (hbv5.block (w.heap.size + 1) (by omega)).trans H0_v4.out
  have Y0_v5 : Hid (v5.heap[gX]? = some (.cells #[.string rn, .int .i64 rt, .int .i64 rl, .string rd] 55)) := (hbv5.block gX (by omega)).trans Y0_v4.out
  have T1_v5 : Hid (TgoRow v5 g1 L) := T1_v4.out.kept hbv5
  clear P0_v4 H0_v4 Y0_v4 T1_v4 hbv5 hbw_v4 
  have X0_v5 : Hid (v5.heap[v4.heap.size]? = some (.cells #[.string ⟨nm.toArray⟩, .slice (some ⟨g1, 0, none⟩) L.length L.length] 34)) := hxv5
  clear hxv5
  obtain ⟨⟨h0, h1, h2⟩, _⟩ := hst_cells H0_v5.out
  go_wp2_with (rw [HFv5.out])
  refine (HTH.out _ hbw_v5).mono ?_
  rintro e v6 ⟨⟨g2, rfl, hg2, hr2⟩, hb6⟩
  have hbw_v6 : Below w.heap.size w v6 := hbw_v5.trans (hb6.mono hbw_v5.size)
  have hz_v6 : v5.heap.size ≤ v6.heap.size := hb6.size
  have P0_v6 : Hid (v6.heap[w.heap.size]? = some (.cells #[.string ⟨nm.toArray⟩, .slice a L.length cap] 24)) := (hb6.block w.heap.size (by omega)).trans P0_v5.out
  have H0_v6 : Hid (v6.heap[(w.heap.size + 1)]? = some (.cells #[.int .i64 ri, .int .i64 fa, .slice a2 H.length cap2] 27)) := (hb6.block (w.heap.size + 1) (by omega)).trans H0_v5.out
  have Y0_v6 : Hid (v6.heap[gX]? = some (.cells #[.string rn, .int .i64 rt, .int .i64 rl, .string rd] 55)) := (hb6.block gX (by omega)).trans Y0_v5.out
  have T1_v6 : Hid (TgoRow v6 g1 L) := T1_v5.out.kept hb6
  have X0_v6 : Hid (v6.heap[v4.heap.size]? = some (.cells #[.string ⟨nm.toArray⟩, .slice (some ⟨g1, 0, none⟩) L.length L.length] 34)) := (hb6.block v4.heap.size (by omega)).trans X0_v5.out
  clear P0_v5 H0_v5 Y0_v5 T1_v5 X0_v5 hb6 hbw_v5 h0 h1 h2 HFv5
  have T2_v6 : Hid (HoRow v6 g2 H) := hr2
  have hg2l : g2 < v6.heap.size := hr2.1
  clear hr2
  obtain ⟨v7, htv7⟩ : ∃ W, W = v6.alloc (.cells #[.int .i64 ri, .int .i64 fa, .slice (some ⟨g2, 0, none⟩) H.length H.length] 38) := ⟨_, rfl⟩
  have hbv7 : Below v6.heap.size v6 v7 := by rw [htv7]; exact (Below.refl _ _).alloc (Nat.le_refl _) _
  have hxv7 : v7.heap[v6.heap.size]? = some (.cells #[.int .i64 ri, .int .i64 fa, .slice (some ⟨g2, 0, none⟩) H.length H.length] 38) := by rw [htv7]; exact tgt_new _ _
  have HFv7 : Hid (v6.alloc (.cells #[.int .i64 ri, .int .i64 fa, .slice (some ⟨g2, 0, none⟩) H.length H.length] 38) = v7) := htv7.symm
  have hlv7 : v6.heap.size < v7.heap.size := by rw [htv7]; simp
  clear htv7
  have hbw_v7 : Below w.heap.size w v7 := hbw_v6.trans (hbv7.mono hbw_v6.size)
  have hz_v7 : v6.heap.size ≤ v7.heap.size := hbv7.size
  have P0_v7 : Hid (v7.heap[w.heap.size]? = some (.cells #[.string ⟨nm.toArray⟩, .slice a L.length cap] 24)) := (hbv7.block w.heap.size (by omega)).trans P0_v6.out
  have H0_v7 : Hid (v7.heap[(w.heap.size + 1)]? = some (.cells #[.int .i64 ri, .int .i64 fa, .slice a2 H.length cap2] 27)) := (hbv7.block (w.heap.size + 1) (by omega)).trans H0_v6.out
  have Y0_v7 : Hid (v7.heap[gX]? = some (.cells #[.string rn, .int .i64 rt, .int .i64 rl, .string rd] 55)) := (hbv7.block gX (by omega)).trans Y0_v6.out
  have T1_v7 : Hid (TgoRow v7 g1 L) := T1_v6.out.kept hbv7
  have X0_v7 : Hid (v7.heap[v4.heap.size]? = some (.cells #[.string ⟨nm.toArray⟩, .slice (some ⟨g1, 0, none⟩) L.length L.length] 34)) := (hbv7.block v4.heap.size (by omega)).trans X0_v6.out
  have T2_v7 : Hid (HoRow v7 g2 H) := T2_v6.out.kept hbv7
  clear P0_v6 H0_v6 Y0_v6 T1_v6 X0_v6 T2_v6 hbv7 hbw_v6 
  have X1_v7 : Hid (v7.heap[v6.heap.size]? = some (.cells #[.int .i64 ri, .int .i64 fa, .slice (some ⟨g2, 0, none⟩) H.length H.length] 38)) := hxv7
  clear hxv7
  obtain ⟨⟨p0, p1⟩, _⟩ := pol_cells X0_v7.out
  obtain ⟨⟨h0, h1, h2⟩, _⟩ := hst_cells X1_v7.out
  go_wp2_with (rw [HFv7.out])
  refine (HI.out _ _ _ hbw_v7 T1_v7.out T2_v7.out).mono ?_
  rintro e v8 ⟨rfl, hb8⟩
  have hbw_v8 : Below w.heap.size w v8 := hbw_v7.trans (hb8.mono hbw_v7.size)
  have hz_v8 : v7.heap.size ≤ v8.heap.size := hb8.size
  have P0_v8 : Hid (v8.heap[w.heap.size]? = some (.cells #[.string ⟨nm.toArray⟩, .slice a L.length cap] 24)) := (hb8.block w.heap.size (by omega)).trans P0_v7.out
  have H0_v8 : Hid (v8.heap[(w.heap.size + 1)]? = some (.cells #[.int .i64 ri, .int .i64 fa, .slice a2 H.length cap2] 27)) := (hb8.block (w.heap.size + 1) (by omega)).trans H0_v7.out
  have Y0_v8 : Hid (v8.heap[gX]? = some (.cells #[.string rn, .int .i64 rt, .int .i64 rl, .string rd] 55)) := (hb8.block gX (by omega)).trans Y0_v7.out
  have T1_v8 : Hid (TgoRow v8 g1 L) := T1_v7.out.kept hb8
  have X0_v8 : Hid (v8.heap[v4.heap.size]? = some (.cells #[.string ⟨nm.toArray⟩, .slice (some ⟨g1, 0, none⟩) L.length L.length] 34)) := (hb8.block v4.heap.size (by omega)).trans X0_v7.out
  have T2_v8 : Hid (HoRow v8 g2 H) := T2_v7.out.kept hb8
  have X1_v8 : Hid (v8.heap[v6.heap.size]? = some (.cells #[.int .i64 ri, .int .i64 fa, .slice (some ⟨g2, 0, none⟩) H.length H.length] 38)) := (hb8.block v6.heap.size (by omega)).trans X1_v7.out
  clear P0_v7 H0_v7 Y0_v7 T1_v7 X0_v7 T2_v7 X1_v7 hb8 hbw_v7 p0 p1 h0 h1 h2 HFv7
  obtain ⟨v8b, htv8b⟩ : ∃ W, W = v8.alloc (.cells #[.string rn, .int .i64 rt, .int .i64 rl, .string rd] 55) := ⟨_, rfl⟩
  have hbv8b : Below v8.heap.size v8 v8b := by rw [htv8b]; exact (Below.refl _ _).alloc (Nat.le_refl _) _
  have hxv8b : v8b.heap[v8.heap.size]? = some (.cells #[.string rn, .int .i64 rt, .int .i64 rl, .string rd] 55) := by rw [htv8b]; exact tgt_new _ _
  have HFv8b : Hid (v8.alloc (.cells #[.string rn, .int .i64 rt, .int .i64 rl, .string rd] 55) = v8b) := htv8b.symm
  have hlv8b : v8.heap.size < v8b.heap.size := by rw [htv8b]; simp
  clear htv8b
  have hbw_v8b : Below w.heap.size w v8b := hbw_v8.trans (hbv8b.mono hbw_v8.size)
  have hz_v8b : v8.heap.size ≤ v8b.heap.size := hbv8b.size
  have P0_v8b : Hid (v8b.heap[w.heap.size]? = some (.cells #[.string ⟨nm.toArray⟩, .slice a L.length cap] 24)) := (hbv8b.block w.heap.size (by omega)).trans P0_v8.out
  have H0_v8b : Hid (v8b.heap[(w.heap.size + 1)]? = some (.cells #[.int .i64 ri, .int .i64 fa, .slice a2 H.length cap2] 27)) := (hbv8b.block (w.heap.size + 1) (by omega)).trans H0_v8.out
  have Y0_v8b : Hid (v8b.heap[gX]? = some (.cells #[.string rn, .int .i64 rt, .int .i64 rl, .string rd] 55)) := (hbv8b.block gX (by omega)).trans Y0_v8.out
  have T1_v8b : Hid (TgoRow v8b g1 L) := T1_v8.out.kept hbv8b
  have X0_v8b : Hid (v8b.heap[v4.heap.size]? = some (.cells #[.string ⟨nm.toArray⟩, .slice (some ⟨g1, 0, none⟩) L.length L.length] 34)) := (hbv8b.block v4.heap.size (by omega)).trans X0_v8.out
  have T2_v8b : Hid (HoRow v8b g2 H) := T2_v8.out.kept hbv8b
  have X1_v8b : Hid (v8b.heap[v6.heap.size]? = some (.cells #[.int .i64 ri, .int .i64 fa, .slice (some ⟨g2, 0, none⟩) H.length H.length] 38)) := (hbv8b.block v6.heap.size (by omega)).trans X1_v8.out
  clear P0_v8 H0_v8 Y0_v8 T1_v8 X0_v8 T2_v8 X1_v8 hbv8b hbw_v8 
  have Y1_v8b : Hid (v8b.heap[v8.heap.size]? = some (.cells #[.string rn, .int .i64 rt, .int .i64 rl, .string rd] 55)) := hxv8b
  clear hxv8b
  obtain ⟨⟨r0, r1, r2, r3⟩, _⟩ := rec_box Y0_v8b.out
  obtain ⟨⟨t0, t1, t2, t3⟩, _⟩ := rec_box Y1_v8b.out
  go_wp2_with (rw [HFv8b.out])
  refine (HER.out _).mono ?_
  rintro e v9 ⟨rfl, hb9⟩
  have hbw_v9 : Below w.heap.size w v9 := hbw_v8b.trans (hb9.mono hbw_v8b.size)
  have hz_v9 : v8b.heap.size ≤ v9.heap.size := hb9.size
  have P0_v9 : Hid (v9.heap[w.heap.size]? = some (.cells #[.string ⟨nm.toArray⟩, .slice a L.length cap] 24)) := (hb9.block w.heap.size (by omega)).trans P0_v8b.out
  have H0_v9 : Hid (v9.heap[(w.heap.size + 1)]? = some (.cells #[.int .i64 ri, .int .i64 fa, .slice a2 H.length cap2] 27)) := (hb9.block (w.heap.size + 1) (by omega)).trans H0_v8b.out
  have Y0_v9 : Hid (v9.heap[gX]? = some (.cells #[.string rn, .int .i64 rt, .int .i64 rl, .string rd] 55)) := (hb9.block gX (by omega)).trans Y0_v8b.out
  have T1_v9 : Hid (TgoRow v9 g1 L) := T1_v8b.out.kept hb9
  have X0_v9 : Hid (v9.heap[v4.heap.size]? = some (.cells #[.string ⟨nm.toArray⟩, .slice (some ⟨g1, 0, none⟩) L.length L.length] 34)) := (hb9.block v4.heap.size (by omega)).trans X0_v8b.out
  have T2_v9 : Hid (HoRow v9 g2 H) := T2_v8b.out.kept hb9
  have X1_v9 : Hid (v9.heap[v6.heap.size]? = some (.cells #[.int .i64 ri, .int .i64 fa, .slice (some ⟨g2, 0, none⟩) H.length H.length] 38)) := (hb9.block v6.heap.size (by omega)).trans X1_v8b.out
  have Y1_v9 : Hid (v9.heap[v8.heap.size]? = some (.cells #[.string rn, .int .i64 rt, .int .i64 rl, .string rd] 55)) := (hb9.block v8.heap.size (by omega)).trans Y1_v8b.out
  clear P0_v8b H0_v8b Y0_v8b T1_v8b X0_v8b T2_v8b X1_v8b Y1_v8b hb9 hbw_v8b r0 r1 r2 r3 t0 t1 t2 t3 HFv8b
  have hbz : Below v9.heap.size v9 v9 := Below.refl _ _
  have hbd : Below v9.heap.size v9 v9.drew := (Below.refl _ _).drew
  have HTR : Hid (∀ W W', Below v9.heap.size v9 W → Below W.heap.size W W' → Below v9.heap.size v9 W') := fun W W' h1 h2 => h1.trans (h2.mono h1.size)
  have HCL : Hid (∀ W, Below v9.heap.size v9 W → (W.cell? ⟨w.heap.size, 0, none⟩ = some (.string ⟨nm.toArray⟩) ∧ W.cell? ⟨w.heap.size, 1, none⟩ = some (.slice a L.length cap) ∧ W.cell? ⟨v4.heap.size, 0, none⟩ = some (.string ⟨nm.toArray⟩) ∧ W.cell? ⟨v4.heap.size, 1, none⟩ = some (.slice (some ⟨g1, 0, none⟩) L.length L.length)) ∧ Below v9.heap.size v9 W) := fun W hW => by
    have x1 := (pol_cells ((hW.block w.heap.size (by omega)).trans P0_v9.out)).1
    have x2 := (pol_cells ((hW.block v4.heap.size (by omega)).trans X0_v9.out)).1
    exact ⟨⟨x1.1, x1.2, x2.1, x2.2⟩, hW⟩
  have HTPs : Hid (∀ W, Below v9.heap.size v9 W → Calls Tryz.prog 12 #[.agg #[.string ⟨nm.toArray⟩, .slice a L.length cap]] W fun e w' => (∃ g, e = .returned (.agg #[.string ⟨nm.toArray⟩, .slice (some ⟨g, 0, none⟩) L.length L.length]) ∧ W.heap.size ≤ g ∧ TgoRow w' g L) ∧ Below W.heap.size W w') := fun W hW => HTP.out W (hbw_v9.trans (hW.mono hbw_v9.size))
  have HEPs : Hid (∀ g W, Below v9.heap.size v9 W → TgoRow W g L → Calls Tryz.prog 15 #[.agg #[.string ⟨nm.toArray⟩, .slice (some ⟨g1, 0, none⟩) L.length L.length], .agg #[.string ⟨nm.toArray⟩, .slice (some ⟨g, 0, none⟩) L.length L.length]] W fun e w' => e = .returned (.bool true) ∧ Below W.heap.size W w') := fun g W hW h1 => HEP.out g1 g W (T1_v9.out.kept hW) h1
  go_wp2_with fail
  go_region_held3 (fun W => (W.cell? ⟨w.heap.size, 0, none⟩ = some (.string ⟨nm.toArray⟩) ∧ W.cell? ⟨w.heap.size, 1, none⟩ = some (.slice a L.length cap) ∧ W.cell? ⟨v4.heap.size, 0, none⟩ = some (.string ⟨nm.toArray⟩) ∧ W.cell? ⟨v4.heap.size, 1, none⟩ = some (.slice (some ⟨g1, 0, none⟩) L.length L.length)) ∧ Below v9.heap.size v9 W) (first | exact HCL.out _ (by assumption) | exact HCL.out _ (Below.drew (by assumption)))
    (first
    | (go_at_call 12; refine (HTPs.out _ (by assumption)).mono ?_; rintro e x1 ⟨⟨g5, rfl, _, hr5⟩, hc1⟩; have hd1 := HTR.out _ _ (by assumption) hc1)
    | (go_at_call 15; refine (HEPs.out _ _ (by assumption) (by assumption)).mono ?_; rintro e v10 ⟨rfl, hc2⟩; have hbt := HTR.out _ _ (by assumption) hc2))
  clear hbz hbd HTR HCL HTPs HEPs hd1 hc1 hc2 hr5
  have hbw_v10 : Below w.heap.size w v10 := hbw_v9.trans (hbt.mono hbw_v9.size)
  have hz_v10 : v9.heap.size ≤ v10.heap.size := hbt.size
  have P0_v10 : Hid (v10.heap[w.heap.size]? = some (.cells #[.string ⟨nm.toArray⟩, .slice a L.length cap] 24)) := (hbt.block w.heap.size (by omega)).trans P0_v9.out
  have H0_v10 : Hid (v10.heap[(w.heap.size + 1)]? = some (.cells #[.int .i64 ri, .int .i64 fa, .slice a2 H.length cap2] 27)) := (hbt.block (w.heap.size + 1) (by omega)).trans H0_v9.out
  have Y0_v10 : Hid (v10.heap[gX]? = some (.cells #[.string rn, .int .i64 rt, .int .i64 rl, .string rd] 55)) := (hbt.block gX (by omega)).trans Y0_v9.out
  have T1_v10 : Hid (TgoRow v10 g1 L) := T1_v9.out.kept hbt
  have X0_v10 : Hid (v10.heap[v4.heap.size]? = some (.cells #[.string ⟨nm.toArray⟩, .slice (some ⟨g1, 0, none⟩) L.length L.length] 34)) := (hbt.block v4.heap.size (by omega)).trans X0_v9.out
  have T2_v10 : Hid (HoRow v10 g2 H) := T2_v9.out.kept hbt
  have X1_v10 : Hid (v10.heap[v6.heap.size]? = some (.cells #[.int .i64 ri, .int .i64 fa, .slice (some ⟨g2, 0, none⟩) H.length H.length] 38)) := (hbt.block v6.heap.size (by omega)).trans X1_v9.out
  have Y1_v10 : Hid (v10.heap[v8.heap.size]? = some (.cells #[.string rn, .int .i64 rt, .int .i64 rl, .string rd] 55)) := (hbt.block v8.heap.size (by omega)).trans Y1_v9.out
  clear P0_v9 H0_v9 Y0_v9 T1_v9 X0_v9 T2_v9 X1_v9 Y1_v9 hbt hbw_v9 
  have hbz : Below v10.heap.size v10 v10 := Below.refl _ _
  have hbd : Below v10.heap.size v10 v10.drew := (Below.refl _ _).drew
  have HTR : Hid (∀ W W', Below v10.heap.size v10 W → Below W.heap.size W W' → Below v10.heap.size v10 W') := fun W W' h1 h2 => h1.trans (h2.mono h1.size)
  have HCL : Hid (∀ W, Below v10.heap.size v10 W → (W.cell? ⟨w.heap.size + 1, 0, none⟩ = some (.int .i64 ri) ∧ W.cell? ⟨w.heap.size + 1, 1, none⟩ = some (.int .i64 fa) ∧ W.cell? ⟨w.heap.size + 1, 2, none⟩ = some (.slice a2 H.length cap2) ∧ W.cell? ⟨v6.heap.size, 0, none⟩ = some (.int .i64 ri) ∧ W.cell? ⟨v6.heap.size, 1, none⟩ = some (.int .i64 fa) ∧ W.cell? ⟨v6.heap.size, 2, none⟩ = some (.slice (some ⟨g2, 0, none⟩) H.length H.length)) ∧ Below v10.heap.size v10 W) := fun W hW => by
    have x1 := (hst_cells ((hW.block (w.heap.size + 1) (by omega)).trans H0_v10.out)).1
    have x2 := (hst_cells ((hW.block v6.heap.size (by omega)).trans X1_v10.out)).1
    exact ⟨⟨x1.1, x1.2.1, x1.2.2, x2.1, x2.2.1, x2.2.2⟩, hW⟩
  have HTHs : Hid (∀ W, Below v10.heap.size v10 W → Calls Tryz.prog 13 #[.agg #[.int .i64 ri, .int .i64 fa, .slice a2 H.length cap2]] W fun e w' => (∃ g, e = .returned (.agg #[.int .i64 ri, .int .i64 fa, .slice (some ⟨g, 0, none⟩) H.length H.length]) ∧ W.heap.size ≤ g ∧ HoRow w' g H) ∧ Below W.heap.size W w') := fun W hW => HTH.out W (hbw_v10.trans (hW.mono hbw_v10.size))
  have HEHs : Hid (∀ g W, Below v10.heap.size v10 W → HoRow W g H → Calls Tryz.prog 16 #[.agg #[.int .i64 ri, .int .i64 fa, .slice (some ⟨g2, 0, none⟩) H.length H.length], .agg #[.int .i64 ri, .int .i64 fa, .slice (some ⟨g, 0, none⟩) H.length H.length]] W fun e w' => e = .returned (.bool true) ∧ Below W.heap.size W w') := fun g W hW h1 => HEH.out g2 g W (T2_v10.out.kept hW) h1
  go_wp2_with fail
  go_region_held3 (fun W => (W.cell? ⟨w.heap.size + 1, 0, none⟩ = some (.int .i64 ri) ∧ W.cell? ⟨w.heap.size + 1, 1, none⟩ = some (.int .i64 fa) ∧ W.cell? ⟨w.heap.size + 1, 2, none⟩ = some (.slice a2 H.length cap2) ∧ W.cell? ⟨v6.heap.size, 0, none⟩ = some (.int .i64 ri) ∧ W.cell? ⟨v6.heap.size, 1, none⟩ = some (.int .i64 fa) ∧ W.cell? ⟨v6.heap.size, 2, none⟩ = some (.slice (some ⟨g2, 0, none⟩) H.length H.length)) ∧ Below v10.heap.size v10 W) (first | exact HCL.out _ (by assumption) | exact HCL.out _ (Below.drew (by assumption)))
    (first
    | (go_at_call 13; refine (HTHs.out _ (by assumption)).mono ?_; rintro e x1 ⟨⟨g6, rfl, _, hr6⟩, hc1⟩; have hd1 := HTR.out _ _ (by assumption) hc1)
    | (go_at_call 16; refine (HEHs.out _ _ (by assumption) (by assumption)).mono ?_; rintro e v11 ⟨rfl, hc2⟩; have hbt := HTR.out _ _ (by assumption) hc2))
  clear hbz hbd HTR HCL HTHs HEHs hd1 hc1 hc2 hr6
  have hbw_v11 : Below w.heap.size w v11 := hbw_v10.trans (hbt.mono hbw_v10.size)
  have hz_v11 : v10.heap.size ≤ v11.heap.size := hbt.size
  have P0_v11 : Hid (v11.heap[w.heap.size]? = some (.cells #[.string ⟨nm.toArray⟩, .slice a L.length cap] 24)) := (hbt.block w.heap.size (by omega)).trans P0_v10.out
  have H0_v11 : Hid (v11.heap[(w.heap.size + 1)]? = some (.cells #[.int .i64 ri, .int .i64 fa, .slice a2 H.length cap2] 27)) := (hbt.block (w.heap.size + 1) (by omega)).trans H0_v10.out
  have Y0_v11 : Hid (v11.heap[gX]? = some (.cells #[.string rn, .int .i64 rt, .int .i64 rl, .string rd] 55)) := (hbt.block gX (by omega)).trans Y0_v10.out
  have T1_v11 : Hid (TgoRow v11 g1 L) := T1_v10.out.kept hbt
  have X0_v11 : Hid (v11.heap[v4.heap.size]? = some (.cells #[.string ⟨nm.toArray⟩, .slice (some ⟨g1, 0, none⟩) L.length L.length] 34)) := (hbt.block v4.heap.size (by omega)).trans X0_v10.out
  have T2_v11 : Hid (HoRow v11 g2 H) := T2_v10.out.kept hbt
  have X1_v11 : Hid (v11.heap[v6.heap.size]? = some (.cells #[.int .i64 ri, .int .i64 fa, .slice (some ⟨g2, 0, none⟩) H.length H.length] 38)) := (hbt.block v6.heap.size (by omega)).trans X1_v10.out
  have Y1_v11 : Hid (v11.heap[v8.heap.size]? = some (.cells #[.string rn, .int .i64 rt, .int .i64 rl, .string rd] 55)) := (hbt.block v8.heap.size (by omega)).trans Y1_v10.out
  clear P0_v10 H0_v10 Y0_v10 T1_v10 X0_v10 T2_v10 X1_v10 Y1_v10 hbt hbw_v10 
  go_wp2_with fail
  go_ret
  exact ⟨rfl, hbw_v11⟩
theorem walk (nm : List UInt8) (v : Value) (L : List TgtT) (ri fa : Int) (hv : Value) (H : List HosT) (d : Int) (w : World) (hr : TgtRow w v L) (hn : nm.length ≤ maxLen) (hx : Hid (∀ x ∈ L, x.1.length ≤ maxLen ∧ x.2.1.length ≤ maxLen)) (hh : HstRow w hv H) (hxh : Hid (∀ x ∈ H, x.1.length ≤ maxLen)) (_ : -9223372036854775808 ≤ d ∧ d ≤ 9223372036854775807) (hE : EnvR w) :
    Calls Tryz.prog 7 #[PolV ⟨nm.toArray⟩ v, HeaV ri fa hv, .int .i64 d] w fun e w' => e = .returned (.bool true) ∧ Below w.heap.size w w' :=
  core nm v L ri fa hv H d ⟨(anN nm L ri fa H d).toArray⟩ ⟨(anD nm L ri fa H d).toArray⟩ (anT nm L ri fa H d) (anL nm L ri fa H d) (chB nm L ri fa H d) w hr hn hx hh hxh (fun h1 h2 h3 h4 h5 _ _ W q1 q2 => sAnswerOf_any nm _ L ri fa _ H d W (q1.row1 h1) h1 h2 h3 (q2.row1 h4) h4 h5) (fun h1 h2 h3 h4 _ _ _ W hW q1 q2 => iAnswerOf_any nm _ L ri fa _ H d W (q1.row1 h1) h1 h2 h3 (q2.row1 h4) (hE.below hW))
end Go.Proofs.YtoanloballaclaaGreatDoor.answerOf
