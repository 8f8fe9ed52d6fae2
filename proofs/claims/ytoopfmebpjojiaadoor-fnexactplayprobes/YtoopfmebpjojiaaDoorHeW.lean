import Derived.Test.YtoopfmebpjojiaaDoorHeK
import Derived.Test.YtoopfmebpjojiaaDoorToI
import Derived.Lib.SliceRun
namespace Go.Proofs.YtoopfmebpjojiaaDoor
open Go.RowKit

/-- Rows kept apart from the hosts. -/
def WatV (ri fa : Int) (vh vr : Value) : Value := .agg #[.int .i64 ri, .int .i64 fa, vh, vr]
theorem wat_cells {W : World} {b : Nat} {v0 v1 v2 v3 : Value} {t : TypeId} (h : W.heap[b]? = some (.cells #[v0, v1, v2, v3] t)) :
    (W.cell? ⟨b, 0, none⟩ = some v0 ∧ W.cell? ⟨b, 1, none⟩ = some v1 ∧ W.cell? ⟨b, 2, none⟩ = some v2 ∧ W.cell? ⟨b, 3, none⟩ = some v3) ∧ (W.frozen? ⟨b, 0, none⟩ = false ∧ W.frozen? ⟨b, 1, none⟩ = false ∧ W.frozen? ⟨b, 2, none⟩ = false ∧ W.frozen? ⟨b, 3, none⟩ = false) := by
  refine ⟨⟨?_, ?_, ?_, ?_⟩, ⟨?_, ?_, ?_, ?_⟩⟩
  all_goals first
    | (unfold World.cell?; rw [h]; rfl)
    | (unfold World.frozen?; rw [h]; simp)
theorem zs_far {w : World} {g g' k : Nat} {R : List Int} (h : ZSRow w g R) (hne : g' ≠ g) (u : Value) : ZSRow (w.setCell ⟨g', k, none⟩ u) g R := by
  refine ⟨by simpa using h.1, fun j hj => ⟨?_, by simpa using (h.2 j hj).2⟩⟩
  rw [World.cell?_setCell_other _ _ _ _ (show (⟨g', k, none⟩ : Addr) ≠ ⟨g, j, none⟩ from fun e => hne (by injection e))]
  exact (h.2 j hj).1
theorem clear_one (w : World) (g o c : Nat) (x : Value) (hc : w.cell? ⟨g, o, none⟩ = some x) (hf : w.frozen? ⟨g, o, none⟩ = false) :
    ∀ ty, (Builtin.clear_ #[77] ty #[.slice (some ⟨g, o, none⟩) 1 c]).run Tryd.prog w = .ok (.tuple #[]) (w.setCell ⟨g, o, none⟩ (.int .i64 0)) := fun ty => by
  have h1 : ∀ j, j < 1 → (w.cell? ⟨g, o + j, none⟩).isSome = true := fun j hj => by
    obtain rfl : j = 0 := by omega
    rw [Nat.add_zero, hc]; rfl
  have h2 : ∀ j, j < 1 → w.frozen? ⟨g, o + j, none⟩ = false := fun j hj => by
    obtain rfl : j = 0 := by omega
    exact hf
  have h := Go.Lib.run_clear_slice (P := Tryd.prog) w 77 3 ty (.int .i64 0) Tryd.underlying77 (fun _ => by kernel_rfl) rfl rfl g o 1 c (by omega) h1 h2
  rw [h]; rfl
/-- What take makes of the hosts and of the rows. -/
def wtL (ri fa : Int) (L : List HosT) (R : List Int) (k : Nat) (fi : Bool) : List HosT × List Int × Bool :=
  if fi == (L.getD k ([], false, 0)).2.1 then (L, R.set k 0, false)
  else if R.getD k 0 + 1 < mostH ri fa (L.getD k ([], false, 0)).2.1 then (L, R.set k (R.getD k 0 + 1), false)
  else (L.set k ((L.getD k ([], false, 0)).1, fi, (L.getD k ([], false, 0)).2.2), R.set k 0, true)
theorem rgetD_at {R : List Int} {k : Nat} (h : k < R.length) : R.getD k 0 = R[k] := by rw [List.getD_eq_getElem?_getD, List.getElem?_eq_getElem h]; rfl

set_option maxRecDepth 20000 in
set_option maxHeartbeats 8000000 in
theorem take_any (ri fa : Int) (L : List HosT) (R : List Int) (k : Nat) (fi : Bool) (gh gr ch cr : Nat) (w : World) (hs : HoRow w gh L) (hz : ZSRow w gr R) (hne : gr ≠ gh) (hk : k < L.length) (hRL : R.length = L.length) (hch : L.length ≤ ch ∧ ch ≤ maxLen) (hcr : L.length ≤ cr ∧ cr ≤ maxLen) (hb : 0 ≤ R.getD k 0 ∧ R.getD k 0 ≤ 1000) :
    Calls Tryd.prog 54 #[WatV ri fa (.slice (some ⟨gh, 0, none⟩) L.length ch) (.slice (some ⟨gr, 0, none⟩) L.length cr), .agg #[.int .i64 (k : Int), .bool fi]] w fun e w' => e = .returned (.bool (wtL ri fa L R k fi).2.2) ∧ HoRow w' gh (wtL ri fa L R k fi).1 ∧ ZSRow w' gr (wtL ri fa L R k fi).2.1 ∧ Kpt w w' (fun b => b = gh ∨ b = gr) := by
  have hkR : k < R.length := by omega
  have HWT : Hid (wtL ri fa L R k fi = if fi == L[k].2.1 then (L, R.set k 0, false) else if R[k] + 1 < mostH ri fa L[k].2.1 then (L, R.set k (R[k] + 1), false) else (L.set k (L[k].1, fi, L[k].2.2), R.set k 0, true)) := by
    show wtL ri fa L R k fi = _
    unfold wtL; rw [getD_at hk, rgetD_at hkR]
  rw [rgetD_at hkR] at hb
  have HRT : Hid (∀ W, HstRow W (.slice (some ⟨gh, 0, none⟩) L.length ch) L → Calls Tryd.prog 65 #[HeaV ri fa (.slice (some ⟨gh, 0, none⟩) L.length ch), .int .i64 (k : Int)] W fun e w' => e = .returned (.int .i64 (mostH ri fa L[k].2.1)) ∧ Below W.heap.size W w') := fun W h => rowToTurn_any ri fa _ L k hk W h
  unfold WatV
  unfold HeaV at HRT
  obtain ⟨W0, hW0⟩ : ∃ W0, W0 = (w.alloc (.cells #[.int .i64 ri, .int .i64 fa, .slice (some ⟨gh, 0, none⟩) L.length ch, .slice (some ⟨gr, 0, none⟩) L.length cr] 79)).alloc (.cells #[.int .i64 (k : Int), .bool fi] 45) := ⟨_, rfl⟩
  have hb0 : Below w.heap.size w W0 := by rw [hW0]; exact ((Below.refl w.heap.size w).alloc (Nat.le_refl _) _).alloc (by simp) _
  have HX : Hid (∀ W, Below W0.heap.size W0 W → W.heap[w.heap.size]? = some (.cells #[.int .i64 ri, .int .i64 fa, .slice (some ⟨gh, 0, none⟩) L.length ch, .slice (some ⟨gr, 0, none⟩) L.length cr] 79) ∧ W.heap[w.heap.size + 1]? = some (.cells #[.int .i64 (k : Int), .bool fi] 45) ∧ HoRow W gh L ∧ ZSRow W gr R ∧ Kpt w W (fun b => b = gh ∨ b = gr)) := fun W hW => by
    have h1 := hb0.trans (hW.mono hb0.size)
    rw [hW0] at hW
    obtain ⟨q1, q2, _⟩ := hst_below2 hW
    exact ⟨q1, q2, hs.kept h1, hz.kept h1, below_kpt0 h1 _⟩
  have HW0 : Hid ((w.alloc (.cells #[.int .i64 ri, .int .i64 fa, .slice (some ⟨gh, 0, none⟩) L.length ch, .slice (some ⟨gr, 0, none⟩) L.length cr] 79)).alloc (.cells #[.int .i64 (k : Int), .bool fi] 45) = W0) := hW0.symm
  have HAT : Hid (∀ W, HoRow W gh L → (W.cell? ⟨gh, k * 3, none⟩ = some (.string ⟨L[k].1.toArray⟩) ∧ W.cell? ⟨gh, k * 3 + 1, none⟩ = some (.bool L[k].2.1) ∧ W.cell? ⟨gh, k * 3 + 2, none⟩ = some (.int .i64 L[k].2.2)) ∧ (W.frozen? ⟨gh, k * 3, none⟩ = false ∧ W.frozen? ⟨gh, k * 3 + 1, none⟩ = false ∧ W.frozen? ⟨gh, k * 3 + 2, none⟩ = false)) := fun W h => h.2 k hk
  have HZT : Hid (∀ W, ZSRow W gr R → W.cell? ⟨gr, k, none⟩ = some (.int .i64 R[k]) ∧ W.frozen? ⟨gr, k, none⟩ = false) := fun W h => h.2 k hkR
  have HZS : Hid (∀ W (c : Int), ZSRow W gr R → ZSRow (W.setCell ⟨gr, k, none⟩ (.int .i64 c)) gr (R.set k c)) := fun W c h => h.set k hkR c
  have HZ2 : Hid (∀ W (c d : Int), ZSRow W gr (R.set k d) → ZSRow (W.setCell ⟨gr, k, none⟩ (.int .i64 c)) gr (R.set k c)) := fun W c d h => by
    have h1 := h.set k (by simpa using hkR) c
    rw [List.set_set] at h1
    exact h1
  have HHS : Hid (∀ W (u : Bool), HoRow W gh L → HoRow (W.setCell ⟨gh, k * 3 + 1, none⟩ (.bool u)) gh (L.set k (L[k].1, u, L[k].2.2))) := fun W u h => h.set1 k hk u
  have hgh : gh < w.heap.size := hs.1
  have hgr : gr < w.heap.size := hz.1
  obtain ⟨hch1, hch2⟩ := hch
  obtain ⟨hcr1, hcr2⟩ := hcr
  unfold maxLen at hch2 hcr2
  obtain ⟨x, hxe⟩ : ∃ x, x = L[k] := ⟨_, rfl⟩
  rw [← hxe] at HWT HRT HAT HHS
  obtain ⟨r, hre⟩ : ∃ r, r = R[k] := ⟨_, rfl⟩
  rw [← hre] at HWT HZT hb
  obtain ⟨xn, up, xr⟩ := x
  simp only at HWT HRT HAT HHS
  have hki : (k : Int) < (L.length : Int) := by omega
  have hwk : IntKind.i64.wrap ((k : Int) + 1) = (k : Int) + 1 := IntWalk.i64_in _ (by omega)
  have hwr : IntKind.i64.wrap (r + 1) = r + 1 := IntWalk.i64_in _ (by omega)
  have HTR : Hid (∀ W W', Below W0.heap.size W0 W → Below W.heap.size W W' → Below W0.heap.size W0 W') := fun W W' h1 h2 => h1.trans (h2.mono h1.size)
  have HXC : Hid (∀ W, Below W0.heap.size W0 W → (W.cell? ⟨w.heap.size, 0, none⟩ = some (.int .i64 ri) ∧ W.cell? ⟨w.heap.size, 1, none⟩ = some (.int .i64 fa) ∧ W.cell? ⟨w.heap.size, 2, none⟩ = some (.slice (some ⟨gh, 0, none⟩) L.length ch) ∧ W.cell? ⟨w.heap.size, 3, none⟩ = some (.slice (some ⟨gr, 0, none⟩) L.length cr)) ∧ (W.cell? ⟨w.heap.size + 1, 0, none⟩ = some (.int .i64 (k : Int)) ∧ W.cell? ⟨w.heap.size + 1, 1, none⟩ = some (.bool fi)) ∧ (W.cell? ⟨gh, k * 3, none⟩ = some (.string ⟨xn.toArray⟩) ∧ W.cell? ⟨gh, k * 3 + 1, none⟩ = some (.bool up) ∧ W.cell? ⟨gh, k * 3 + 2, none⟩ = some (.int .i64 xr))) := fun W hW => by
    obtain ⟨q1, q2, q3, _, _⟩ := HX.out W hW
    exact ⟨(wat_cells q1).1, prb_cells q2, (HAT.out W q3).1⟩
  have hbz : Below W0.heap.size W0 W0 := Below.refl _ _
  obtain ⟨⟨b0, b1, b2, b3⟩, ⟨b4, b5⟩, ⟨b6, b7, b8⟩⟩ := HXC.out _ hbz
  have hbd : Below W0.heap.size W0 W0.drew := (Below.refl _ _).drew
  have hz0 : W0.heap.size = w.heap.size + 1 + 1 := by rw [hW0]; simp
  clear hs hz hW0 hxe hre hb0
  by_cases hfu : fi = up
  · subst hfu
    have HV : Hid (wtL ri fa L R k fi = (L, R.set k 0, false)) := by show _ = _; rw [HWT.out]; simp
    rw [HV.out]
    have e1 : (fi == fi) = true := by simp
    go_enter Tryd.func54, Tryd.ntmps54
    go_wp2_with fail
    rw [HW0.out]
    refine wp_region_quiet (C := fun W => Below W0.heap.size W0 W) (by kernel_rfl) (by kernel_rfl) hbd ?_
    refine wpQuiet_step (fun K hK => ?_)
    rw [if_pos (by rfl)]
    refine ⟨.pointer (some ⟨w.heap.size + 1, 1, none⟩), fun W hW => quiet_ok ?_, hK _ ?_⟩
    · have z := HXC.out W hW
      obtain ⟨⟨a0, a1, a2, a3⟩, ⟨a4, a5⟩, ⟨a6, a7, a8⟩⟩ := z
      go_simp
      all_goals (try omega)
    clear hK K
    simp only [Act.put, List.setIfInBounds_toArray, List.set_cons_succ, List.set_cons_zero]
    refine wpQuiet_step (fun K hK => ?_)
    rw [if_pos (by rfl)]
    refine ⟨.bool fi, fun W hW => quiet_ok ?_, hK _ ?_⟩
    · have z := HXC.out W hW
      obtain ⟨⟨a0, a1, a2, a3⟩, ⟨a4, a5⟩, ⟨a6, a7, a8⟩⟩ := z
      go_simp
      all_goals (try omega)
    clear hK K
    simp only [Act.put, List.setIfInBounds_toArray, List.set_cons_succ, List.set_cons_zero]
    refine wpQuiet_step (fun K hK => ?_)
    rw [if_pos (by rfl)]
    refine ⟨.pointer (some ⟨w.heap.size, 0, none⟩), fun W hW => quiet_ok ?_, hK _ ?_⟩
    · have z := HXC.out W hW
      obtain ⟨⟨a0, a1, a2, a3⟩, ⟨a4, a5⟩, ⟨a6, a7, a8⟩⟩ := z
      go_simp
      all_goals (try omega)
    clear hK K
    simp only [Act.put, List.setIfInBounds_toArray, List.set_cons_succ, List.set_cons_zero]
    refine wpQuiet_step (fun K hK => ?_)
    rw [if_pos (by rfl)]
    refine ⟨.pointer (some ⟨w.heap.size, 2, none⟩), fun W hW => quiet_ok ?_, hK _ ?_⟩
    · have z := HXC.out W hW
      obtain ⟨⟨a0, a1, a2, a3⟩, ⟨a4, a5⟩, ⟨a6, a7, a8⟩⟩ := z
      go_simp
      all_goals (try omega)
    clear hK K
    simp only [Act.put, List.setIfInBounds_toArray, List.set_cons_succ, List.set_cons_zero]
    refine wpQuiet_step (fun K hK => ?_)
    rw [if_pos (by rfl)]
    refine ⟨.slice (some ⟨gh, 0, none⟩) L.length ch, fun W hW => quiet_ok ?_, hK _ ?_⟩
    · have z := HXC.out W hW
      obtain ⟨⟨a0, a1, a2, a3⟩, ⟨a4, a5⟩, ⟨a6, a7, a8⟩⟩ := z
      go_simp
      all_goals (try omega)
    clear hK K
    simp only [Act.put, List.setIfInBounds_toArray, List.set_cons_succ, List.set_cons_zero]
    refine wpQuiet_step (fun K hK => ?_)
    rw [if_pos (by rfl)]
    refine ⟨.pointer (some ⟨w.heap.size + 1, 0, none⟩), fun W hW => quiet_ok ?_, hK _ ?_⟩
    · have z := HXC.out W hW
      obtain ⟨⟨a0, a1, a2, a3⟩, ⟨a4, a5⟩, ⟨a6, a7, a8⟩⟩ := z
      go_simp
      all_goals (try omega)
    clear hK K
    simp only [Act.put, List.setIfInBounds_toArray, List.set_cons_succ, List.set_cons_zero]
    refine wpQuiet_step (fun K hK => ?_)
    rw [if_pos (by rfl)]
    refine ⟨.int .i64 (k : Int), fun W hW => quiet_ok ?_, hK _ ?_⟩
    · have z := HXC.out W hW
      obtain ⟨⟨a0, a1, a2, a3⟩, ⟨a4, a5⟩, ⟨a6, a7, a8⟩⟩ := z
      go_simp
      all_goals (try omega)
    clear hK K
    simp only [Act.put, List.setIfInBounds_toArray, List.set_cons_succ, List.set_cons_zero]
    refine wpQuiet_step (fun K hK => ?_)
    rw [if_pos (by rfl)]
    refine ⟨.pointer (some ⟨gh, k * 3, none⟩), fun W hW => quiet_ok ?_, hK _ ?_⟩
    · have z := HXC.out W hW
      obtain ⟨⟨a0, a1, a2, a3⟩, ⟨a4, a5⟩, ⟨a6, a7, a8⟩⟩ := z
      go_simp
      all_goals (try omega)
    clear hK K
    simp only [Act.put, List.setIfInBounds_toArray, List.set_cons_succ, List.set_cons_zero]
    refine wpQuiet_step (fun K hK => ?_)
    rw [if_pos (by rfl)]
    refine ⟨.pointer (some ⟨gh, k * 3 + 1, none⟩), fun W hW => quiet_ok ?_, hK _ ?_⟩
    · have z := HXC.out W hW
      obtain ⟨⟨a0, a1, a2, a3⟩, ⟨a4, a5⟩, ⟨a6, a7, a8⟩⟩ := z
      go_simp
      all_goals (try omega)
    clear hK K
    simp only [Act.put, List.setIfInBounds_toArray, List.set_cons_succ, List.set_cons_zero]
    refine wpQuiet_step (fun K hK => ?_)
    rw [if_pos (by rfl)]
    refine ⟨.bool fi, fun W hW => quiet_ok ?_, hK _ ?_⟩
    · have z := HXC.out W hW
      obtain ⟨⟨a0, a1, a2, a3⟩, ⟨a4, a5⟩, ⟨a6, a7, a8⟩⟩ := z
      go_simp
      all_goals (try omega)
    clear hK K
    simp only [Act.put, List.setIfInBounds_toArray, List.set_cons_succ, List.set_cons_zero]
    refine wpQuiet_step (fun K hK => ?_)
    rw [if_pos (by rfl)]
    refine ⟨.bool true, fun W hW => quiet_ok ?_, hK _ ?_⟩
    · have z := HXC.out W hW
      obtain ⟨⟨a0, a1, a2, a3⟩, ⟨a4, a5⟩, ⟨a6, a7, a8⟩⟩ := z
      go_simp
      all_goals (try omega)
    clear hK K
    simp only [Act.put, List.setIfInBounds_toArray, List.set_cons_succ, List.set_cons_zero]
    refine wpQuiet_nil ?_
    intro W hW
    obtain ⟨_, _, q3, q4, q5⟩ := HX.out W hW
    obtain ⟨y1, y2⟩ := HZT.out W q4
    have hcl := clear_one W gr k (cr - k) _ y1 y2
    have HE : Hid (HoRow (W.setCell ⟨gr, k, none⟩ (.int .i64 0)) gh L ∧ ZSRow (W.setCell ⟨gr, k, none⟩ (.int .i64 0)) gr (R.set k 0) ∧ Kpt w (W.setCell ⟨gr, k, none⟩ (.int .i64 0)) (fun b => b = gh ∨ b = gr)) := ⟨q3.far hne _, HZS.out W 0 q4, q5.trans (kpt_set _ _ _ _ (.inr rfl))⟩
    clear q3 q4 q5
    go_wp2_with fail
    go_ret
    exact ⟨rfl, HE.out.1, HE.out.2.1, HE.out.2.2⟩
  · have e1 : (fi == up) = false := by simpa using hfu
    have HV2 : Hid (wtL ri fa L R k fi = if r + 1 < mostH ri fa up then (L, R.set k (r + 1), false) else (L.set k (xn, fi, xr), R.set k 0, true)) := by show _ = _; rw [HWT.out, e1]; simp
    obtain ⟨m, hm⟩ : ∃ m, m = mostH ri fa up := ⟨_, rfl⟩
    rw [← hm] at HV2 HRT
    by_cases hlt : r + 1 < m
    · have HVE : Hid (wtL ri fa L R k fi = (L, R.set k (r + 1), false)) := by show _ = _; rw [HV2.out, if_pos hlt]
      rw [HVE.out]
      clear hm HWT
      go_enter Tryd.func54, Tryd.ntmps54
      go_wp2_with fail
      rw [HW0.out]
      refine wp_region_quiet (C := fun W => Below W0.heap.size W0 W) (by kernel_rfl) (by kernel_rfl) hbd ?_
      refine wpQuiet_step (fun K hK => ?_)
      rw [if_pos (by rfl)]
      refine ⟨.pointer (some ⟨w.heap.size + 1, 1, none⟩), fun W hW => quiet_ok ?_, hK _ ?_⟩
      · have z := HXC.out W hW
        obtain ⟨⟨a0, a1, a2, a3⟩, ⟨a4, a5⟩, ⟨a6, a7, a8⟩⟩ := z
        go_simp
        all_goals (try omega)
      clear hK K
      simp only [Act.put, List.setIfInBounds_toArray, List.set_cons_succ, List.set_cons_zero]
      refine wpQuiet_step (fun K hK => ?_)
      rw [if_pos (by rfl)]
      refine ⟨.bool fi, fun W hW => quiet_ok ?_, hK _ ?_⟩
      · have z := HXC.out W hW
        obtain ⟨⟨a0, a1, a2, a3⟩, ⟨a4, a5⟩, ⟨a6, a7, a8⟩⟩ := z
        go_simp
        all_goals (try omega)
      clear hK K
      simp only [Act.put, List.setIfInBounds_toArray, List.set_cons_succ, List.set_cons_zero]
      refine wpQuiet_step (fun K hK => ?_)
      rw [if_pos (by rfl)]
      refine ⟨.pointer (some ⟨w.heap.size, 0, none⟩), fun W hW => quiet_ok ?_, hK _ ?_⟩
      · have z := HXC.out W hW
        obtain ⟨⟨a0, a1, a2, a3⟩, ⟨a4, a5⟩, ⟨a6, a7, a8⟩⟩ := z
        go_simp
        all_goals (try omega)
      clear hK K
      simp only [Act.put, List.setIfInBounds_toArray, List.set_cons_succ, List.set_cons_zero]
      refine wpQuiet_step (fun K hK => ?_)
      rw [if_pos (by rfl)]
      refine ⟨.pointer (some ⟨w.heap.size, 2, none⟩), fun W hW => quiet_ok ?_, hK _ ?_⟩
      · have z := HXC.out W hW
        obtain ⟨⟨a0, a1, a2, a3⟩, ⟨a4, a5⟩, ⟨a6, a7, a8⟩⟩ := z
        go_simp
        all_goals (try omega)
      clear hK K
      simp only [Act.put, List.setIfInBounds_toArray, List.set_cons_succ, List.set_cons_zero]
      refine wpQuiet_step (fun K hK => ?_)
      rw [if_pos (by rfl)]
      refine ⟨.slice (some ⟨gh, 0, none⟩) L.length ch, fun W hW => quiet_ok ?_, hK _ ?_⟩
      · have z := HXC.out W hW
        obtain ⟨⟨a0, a1, a2, a3⟩, ⟨a4, a5⟩, ⟨a6, a7, a8⟩⟩ := z
        go_simp
        all_goals (try omega)
      clear hK K
      simp only [Act.put, List.setIfInBounds_toArray, List.set_cons_succ, List.set_cons_zero]
      refine wpQuiet_step (fun K hK => ?_)
      rw [if_pos (by rfl)]
      refine ⟨.pointer (some ⟨w.heap.size + 1, 0, none⟩), fun W hW => quiet_ok ?_, hK _ ?_⟩
      · have z := HXC.out W hW
        obtain ⟨⟨a0, a1, a2, a3⟩, ⟨a4, a5⟩, ⟨a6, a7, a8⟩⟩ := z
        go_simp
        all_goals (try omega)
      clear hK K
      simp only [Act.put, List.setIfInBounds_toArray, List.set_cons_succ, List.set_cons_zero]
      refine wpQuiet_step (fun K hK => ?_)
      rw [if_pos (by rfl)]
      refine ⟨.int .i64 (k : Int), fun W hW => quiet_ok ?_, hK _ ?_⟩
      · have z := HXC.out W hW
        obtain ⟨⟨a0, a1, a2, a3⟩, ⟨a4, a5⟩, ⟨a6, a7, a8⟩⟩ := z
        go_simp
        all_goals (try omega)
      clear hK K
      simp only [Act.put, List.setIfInBounds_toArray, List.set_cons_succ, List.set_cons_zero]
      refine wpQuiet_step (fun K hK => ?_)
      rw [if_pos (by rfl)]
      refine ⟨.pointer (some ⟨gh, k * 3, none⟩), fun W hW => quiet_ok ?_, hK _ ?_⟩
      · have z := HXC.out W hW
        obtain ⟨⟨a0, a1, a2, a3⟩, ⟨a4, a5⟩, ⟨a6, a7, a8⟩⟩ := z
        go_simp
        all_goals (try omega)
      clear hK K
      simp only [Act.put, List.setIfInBounds_toArray, List.set_cons_succ, List.set_cons_zero]
      refine wpQuiet_step (fun K hK => ?_)
      rw [if_pos (by rfl)]
      refine ⟨.pointer (some ⟨gh, k * 3 + 1, none⟩), fun W hW => quiet_ok ?_, hK _ ?_⟩
      · have z := HXC.out W hW
        obtain ⟨⟨a0, a1, a2, a3⟩, ⟨a4, a5⟩, ⟨a6, a7, a8⟩⟩ := z
        go_simp
        all_goals (try omega)
      clear hK K
      simp only [Act.put, List.setIfInBounds_toArray, List.set_cons_succ, List.set_cons_zero]
      refine wpQuiet_step (fun K hK => ?_)
      rw [if_pos (by rfl)]
      refine ⟨.bool up, fun W hW => quiet_ok ?_, hK _ ?_⟩
      · have z := HXC.out W hW
        obtain ⟨⟨a0, a1, a2, a3⟩, ⟨a4, a5⟩, ⟨a6, a7, a8⟩⟩ := z
        go_simp
        all_goals (try omega)
      clear hK K
      simp only [Act.put, List.setIfInBounds_toArray, List.set_cons_succ, List.set_cons_zero]
      refine wpQuiet_step (fun K hK => ?_)
      rw [if_pos (by rfl)]
      refine ⟨.bool false, fun W hW => quiet_ok ?_, hK _ ?_⟩
      · have z := HXC.out W hW
        obtain ⟨⟨a0, a1, a2, a3⟩, ⟨a4, a5⟩, ⟨a6, a7, a8⟩⟩ := z
        go_simp
        all_goals (try omega)
      clear hK K
      simp only [Act.put, List.setIfInBounds_toArray, List.set_cons_succ, List.set_cons_zero]
      refine wpQuiet_nil ?_
      intro W hW
      obtain ⟨q1, q2, q3, q4, q5⟩ := HX.out W hW
      obtain ⟨y1, y2⟩ := HZT.out W q4
      obtain ⟨V, hV⟩ : ∃ V, V = W.setCell ⟨gr, k, none⟩ (.int .i64 (r + 1)) := ⟨_, rfl⟩
      have hszW : w.heap.size + 1 + 1 ≤ W.heap.size := by have := hW.size; omega
      have hszV : V.heap.size = W.heap.size := by rw [hV]; simp
      have HVX : Hid (∀ U, Below V.heap.size V U → U.heap[w.heap.size]? = some (.cells #[.int .i64 ri, .int .i64 fa, .slice (some ⟨gh, 0, none⟩) L.length ch, .slice (some ⟨gr, 0, none⟩) L.length cr] 79) ∧ U.heap[w.heap.size + 1]? = some (.cells #[.int .i64 (k : Int), .bool fi] 45) ∧ HoRow U gh L ∧ ZSRow U gr (R.set k (r + 1)) ∧ Kpt w U (fun b => b = gh ∨ b = gr)) := fun U hU => by
        refine ⟨?_, ?_, ?_, ?_, ?_⟩
        · rw [hU.block _ (by omega), hV, heap_setCell_other _ _ _ _ (show w.heap.size ≠ gr by omega)]; exact q1
        · rw [hU.block _ (by omega), hV, heap_setCell_other _ _ _ _ (show w.heap.size + 1 ≠ gr by omega)]; exact q2
        · exact HoRow.kept (by rw [hV]; exact q3.far hne _) hU
        · exact ZSRow.kept (by rw [hV]; exact HZS.out W (r + 1) q4) hU
        · exact (q5.trans (by rw [hV]; exact kpt_set _ _ _ _ (.inr rfl))).trans (below_kpt0 hU _)
      have HZV : Hid (∀ U, ZSRow U gr (R.set k (r + 1)) → U.cell? ⟨gr, k, none⟩ = some (.int .i64 (r + 1)) ∧ U.frozen? ⟨gr, k, none⟩ = false) := fun U h => by
        have h1 := h.2 k (by simpa using hkR)
        rw [List.getElem_set_self] at h1
        exact h1
      have HVC : Hid (∀ U, Below V.heap.size V U → (U.cell? ⟨w.heap.size, 0, none⟩ = some (.int .i64 ri) ∧ U.cell? ⟨w.heap.size, 1, none⟩ = some (.int .i64 fa) ∧ U.cell? ⟨w.heap.size, 2, none⟩ = some (.slice (some ⟨gh, 0, none⟩) L.length ch)) ∧ (U.cell? ⟨w.heap.size + 1, 0, none⟩ = some (.int .i64 (k : Int)) ∧ U.cell? ⟨w.heap.size + 1, 1, none⟩ = some (.bool fi)) ∧ U.cell? ⟨gr, k, none⟩ = some (.int .i64 (r + 1))) := fun U hU => by
        obtain ⟨v1, v2, _, v4, _⟩ := HVX.out U hU
        obtain ⟨⟨s0, s1, s2, _⟩, _⟩ := wat_cells v1
        exact ⟨⟨s0, s1, s2⟩, prb_cells v2, (HZV.out U v4).1⟩
      have HRC : Hid (∀ U, Below V.heap.size V U → Calls Tryd.prog 65 #[.agg #[.int .i64 ri, .int .i64 fa, .slice (some ⟨gh, 0, none⟩) L.length ch], .int .i64 (k : Int)] U fun e w' => e = .returned (.int .i64 m) ∧ Below U.heap.size U w') := fun U hU => HRT.out U ((HVX.out U hU).2.2.1.row hch1 (by unfold maxLen; omega))
      have HVR : Hid (∀ W W', Below V.heap.size V W → Below W.heap.size W W' → Below V.heap.size V W') := fun W W' h1 h2 => h1.trans (h2.mono h1.size)
      have hvd : Below V.heap.size V V.drew := (Below.refl _ _).drew
      have HV : Hid (W.setCell ⟨gr, k, none⟩ (.int .i64 (r + 1)) = V) := hV.symm
      clear q1 q2 q3 q4 q5 hV b0 b1 b2 b3 b4 b5 b6 b7 b8 HX HXC HTR hbd hbz HRT HZS
      go_wp2_with (rw [HV.out])
      (try rw [HV.out])
      refine wp_region_quiet (C := fun W => Below V.heap.size V W) (by kernel_rfl) (by kernel_rfl) hvd ?_
      refine wpQuiet_step (fun K hK => ?_)
      rw [if_pos (by rfl)]
      refine ⟨.slice (some ⟨gr, k, none⟩) 1 (cr - k), fun W hW => quiet_ok ?_, hK _ ?_⟩
      · have z := HVC.out W hW
        obtain ⟨⟨a0, a1, a2⟩, ⟨a4, a5⟩, a6⟩ := z
        go_simp
        all_goals (try omega)
      clear hK K
      simp only [Act.put, List.setIfInBounds_toArray, List.set_cons_succ, List.set_cons_zero]
      refine wpQuiet_step (fun K hK => ?_)
      rw [if_pos (by rfl)]
      refine ⟨.pointer (some ⟨gr, k, none⟩), fun W hW => quiet_ok ?_, hK _ ?_⟩
      · have z := HVC.out W hW
        obtain ⟨⟨a0, a1, a2⟩, ⟨a4, a5⟩, a6⟩ := z
        go_simp
        all_goals (try omega)
      clear hK K
      simp only [Act.put, List.setIfInBounds_toArray, List.set_cons_succ, List.set_cons_zero]
      refine wpQuiet_step (fun K hK => ?_)
      rw [if_pos (by rfl)]
      refine ⟨.int .i64 (r + 1), fun W hW => quiet_ok ?_, hK _ ?_⟩
      · have z := HVC.out W hW
        obtain ⟨⟨a0, a1, a2⟩, ⟨a4, a5⟩, a6⟩ := z
        go_simp
        all_goals (try omega)
      clear hK K
      simp only [Act.put, List.setIfInBounds_toArray, List.set_cons_succ, List.set_cons_zero]
      refine wpQuiet_step (fun K hK => ?_)
      rw [if_pos (by rfl)]
      refine ⟨.pointer (some ⟨w.heap.size, 0, none⟩), fun W hW => quiet_ok ?_, hK _ ?_⟩
      · have z := HVC.out W hW
        obtain ⟨⟨a0, a1, a2⟩, ⟨a4, a5⟩, a6⟩ := z
        go_simp
        all_goals (try omega)
      clear hK K
      simp only [Act.put, List.setIfInBounds_toArray, List.set_cons_succ, List.set_cons_zero]
      refine wpQuiet_step (fun K hK => ?_)
      rw [if_pos (by rfl)]
      refine ⟨.agg #[.int .i64 ri, .int .i64 fa, .slice (some ⟨gh, 0, none⟩) L.length ch], fun W hW => quiet_ok ?_, hK _ ?_⟩
      · have z := HVC.out W hW
        obtain ⟨⟨a0, a1, a2⟩, ⟨a4, a5⟩, a6⟩ := z
        go_simp
        all_goals (try omega)
      clear hK K
      simp only [Act.put, List.setIfInBounds_toArray, List.set_cons_succ, List.set_cons_zero]
      refine wpQuiet_step (fun K hK => ?_)
      rw [if_pos (by rfl)]
      refine ⟨.pointer (some ⟨w.heap.size + 1, 0, none⟩), fun W hW => quiet_ok ?_, hK _ ?_⟩
      · have z := HVC.out W hW
        obtain ⟨⟨a0, a1, a2⟩, ⟨a4, a5⟩, a6⟩ := z
        go_simp
        all_goals (try omega)
      clear hK K
      simp only [Act.put, List.setIfInBounds_toArray, List.set_cons_succ, List.set_cons_zero]
      refine wpQuiet_step (fun K hK => ?_)
      rw [if_pos (by rfl)]
      refine ⟨.int .i64 (k : Int), fun W hW => quiet_ok ?_, hK _ ?_⟩
      · have z := HVC.out W hW
        obtain ⟨⟨a0, a1, a2⟩, ⟨a4, a5⟩, a6⟩ := z
        go_simp
        all_goals (try omega)
      clear hK K
      simp only [Act.put, List.setIfInBounds_toArray, List.set_cons_succ, List.set_cons_zero]
      refine wpQuiet_step (fun K hK => ?_)
      rw [if_pos (by rfl)]
      refine ⟨.int .i64 m, fun W hW => quiet_call (f := 65) (args := #[.agg #[.int .i64 ri, .int .i64 fa, .slice (some ⟨gh, 0, none⟩) L.length ch], .int .i64 (k : Int)]) ?_ ?_, hK _ ?_⟩
      · go_simp
      · exact (HRC.out W hW).mono fun e w'' h => ⟨h.1, HVR.out _ _ hW h.2⟩
      clear hK K
      simp only [Act.put, List.setIfInBounds_toArray, List.set_cons_succ, List.set_cons_zero]
      refine wpQuiet_step (fun K hK => ?_)
      rw [if_pos (by rfl)]
      refine ⟨.bool true, fun W hW => quiet_ok ?_, hK _ ?_⟩
      · have z := HVC.out W hW
        obtain ⟨⟨a0, a1, a2⟩, ⟨a4, a5⟩, a6⟩ := z
        go_simp
        all_goals (try omega)
      clear hK K
      simp only [Act.put, List.setIfInBounds_toArray, List.set_cons_succ, List.set_cons_zero]
      refine wpQuiet_nil ?_
      intro U hU
      obtain ⟨_, _, v3, v4, v5⟩ := HVX.out U hU
      have HE : Hid (HoRow U gh L ∧ ZSRow U gr (R.set k (r + 1)) ∧ Kpt w U (fun b => b = gh ∨ b = gr)) := ⟨v3, v4, v5⟩
      clear v3 v4 v5
      go_wp2_with fail
      go_ret
      exact ⟨rfl, HE.out.1, HE.out.2.1, HE.out.2.2⟩
    · have HVE : Hid (wtL ri fa L R k fi = (L.set k (xn, fi, xr), R.set k 0, true)) := by show _ = _; rw [HV2.out, if_neg hlt]
      rw [HVE.out]
      clear hm HWT
      go_enter Tryd.func54, Tryd.ntmps54
      go_wp2_with fail
      rw [HW0.out]
      refine wp_region_quiet (C := fun W => Below W0.heap.size W0 W) (by kernel_rfl) (by kernel_rfl) hbd ?_
      refine wpQuiet_step (fun K hK => ?_)
      rw [if_pos (by rfl)]
      refine ⟨.pointer (some ⟨w.heap.size + 1, 1, none⟩), fun W hW => quiet_ok ?_, hK _ ?_⟩
      · have z := HXC.out W hW
        obtain ⟨⟨a0, a1, a2, a3⟩, ⟨a4, a5⟩, ⟨a6, a7, a8⟩⟩ := z
        go_simp
        all_goals (try omega)
      clear hK K
      simp only [Act.put, List.setIfInBounds_toArray, List.set_cons_succ, List.set_cons_zero]
      refine wpQuiet_step (fun K hK => ?_)
      rw [if_pos (by rfl)]
      refine ⟨.bool fi, fun W hW => quiet_ok ?_, hK _ ?_⟩
      · have z := HXC.out W hW
        obtain ⟨⟨a0, a1, a2, a3⟩, ⟨a4, a5⟩, ⟨a6, a7, a8⟩⟩ := z
        go_simp
        all_goals (try omega)
      clear hK K
      simp only [Act.put, List.setIfInBounds_toArray, List.set_cons_succ, List.set_cons_zero]
      refine wpQuiet_step (fun K hK => ?_)
      rw [if_pos (by rfl)]
      refine ⟨.pointer (some ⟨w.heap.size, 0, none⟩), fun W hW => quiet_ok ?_, hK _ ?_⟩
      · have z := HXC.out W hW
        obtain ⟨⟨a0, a1, a2, a3⟩, ⟨a4, a5⟩, ⟨a6, a7, a8⟩⟩ := z
        go_simp
        all_goals (try omega)
      clear hK K
      simp only [Act.put, List.setIfInBounds_toArray, List.set_cons_succ, List.set_cons_zero]
      refine wpQuiet_step (fun K hK => ?_)
      rw [if_pos (by rfl)]
      refine ⟨.pointer (some ⟨w.heap.size, 2, none⟩), fun W hW => quiet_ok ?_, hK _ ?_⟩
      · have z := HXC.out W hW
        obtain ⟨⟨a0, a1, a2, a3⟩, ⟨a4, a5⟩, ⟨a6, a7, a8⟩⟩ := z
        go_simp
        all_goals (try omega)
      clear hK K
      simp only [Act.put, List.setIfInBounds_toArray, List.set_cons_succ, List.set_cons_zero]
      refine wpQuiet_step (fun K hK => ?_)
      rw [if_pos (by rfl)]
      refine ⟨.slice (some ⟨gh, 0, none⟩) L.length ch, fun W hW => quiet_ok ?_, hK _ ?_⟩
      · have z := HXC.out W hW
        obtain ⟨⟨a0, a1, a2, a3⟩, ⟨a4, a5⟩, ⟨a6, a7, a8⟩⟩ := z
        go_simp
        all_goals (try omega)
      clear hK K
      simp only [Act.put, List.setIfInBounds_toArray, List.set_cons_succ, List.set_cons_zero]
      refine wpQuiet_step (fun K hK => ?_)
      rw [if_pos (by rfl)]
      refine ⟨.pointer (some ⟨w.heap.size + 1, 0, none⟩), fun W hW => quiet_ok ?_, hK _ ?_⟩
      · have z := HXC.out W hW
        obtain ⟨⟨a0, a1, a2, a3⟩, ⟨a4, a5⟩, ⟨a6, a7, a8⟩⟩ := z
        go_simp
        all_goals (try omega)
      clear hK K
      simp only [Act.put, List.setIfInBounds_toArray, List.set_cons_succ, List.set_cons_zero]
      refine wpQuiet_step (fun K hK => ?_)
      rw [if_pos (by rfl)]
      refine ⟨.int .i64 (k : Int), fun W hW => quiet_ok ?_, hK _ ?_⟩
      · have z := HXC.out W hW
        obtain ⟨⟨a0, a1, a2, a3⟩, ⟨a4, a5⟩, ⟨a6, a7, a8⟩⟩ := z
        go_simp
        all_goals (try omega)
      clear hK K
      simp only [Act.put, List.setIfInBounds_toArray, List.set_cons_succ, List.set_cons_zero]
      refine wpQuiet_step (fun K hK => ?_)
      rw [if_pos (by rfl)]
      refine ⟨.pointer (some ⟨gh, k * 3, none⟩), fun W hW => quiet_ok ?_, hK _ ?_⟩
      · have z := HXC.out W hW
        obtain ⟨⟨a0, a1, a2, a3⟩, ⟨a4, a5⟩, ⟨a6, a7, a8⟩⟩ := z
        go_simp
        all_goals (try omega)
      clear hK K
      simp only [Act.put, List.setIfInBounds_toArray, List.set_cons_succ, List.set_cons_zero]
      refine wpQuiet_step (fun K hK => ?_)
      rw [if_pos (by rfl)]
      refine ⟨.pointer (some ⟨gh, k * 3 + 1, none⟩), fun W hW => quiet_ok ?_, hK _ ?_⟩
      · have z := HXC.out W hW
        obtain ⟨⟨a0, a1, a2, a3⟩, ⟨a4, a5⟩, ⟨a6, a7, a8⟩⟩ := z
        go_simp
        all_goals (try omega)
      clear hK K
      simp only [Act.put, List.setIfInBounds_toArray, List.set_cons_succ, List.set_cons_zero]
      refine wpQuiet_step (fun K hK => ?_)
      rw [if_pos (by rfl)]
      refine ⟨.bool up, fun W hW => quiet_ok ?_, hK _ ?_⟩
      · have z := HXC.out W hW
        obtain ⟨⟨a0, a1, a2, a3⟩, ⟨a4, a5⟩, ⟨a6, a7, a8⟩⟩ := z
        go_simp
        all_goals (try omega)
      clear hK K
      simp only [Act.put, List.setIfInBounds_toArray, List.set_cons_succ, List.set_cons_zero]
      refine wpQuiet_step (fun K hK => ?_)
      rw [if_pos (by rfl)]
      refine ⟨.bool false, fun W hW => quiet_ok ?_, hK _ ?_⟩
      · have z := HXC.out W hW
        obtain ⟨⟨a0, a1, a2, a3⟩, ⟨a4, a5⟩, ⟨a6, a7, a8⟩⟩ := z
        go_simp
        all_goals (try omega)
      clear hK K
      simp only [Act.put, List.setIfInBounds_toArray, List.set_cons_succ, List.set_cons_zero]
      refine wpQuiet_nil ?_
      intro W hW
      obtain ⟨q1, q2, q3, q4, q5⟩ := HX.out W hW
      obtain ⟨y1, y2⟩ := HZT.out W q4
      obtain ⟨V, hV⟩ : ∃ V, V = W.setCell ⟨gr, k, none⟩ (.int .i64 (r + 1)) := ⟨_, rfl⟩
      have hszW : w.heap.size + 1 + 1 ≤ W.heap.size := by have := hW.size; omega
      have hszV : V.heap.size = W.heap.size := by rw [hV]; simp
      have HVX : Hid (∀ U, Below V.heap.size V U → U.heap[w.heap.size]? = some (.cells #[.int .i64 ri, .int .i64 fa, .slice (some ⟨gh, 0, none⟩) L.length ch, .slice (some ⟨gr, 0, none⟩) L.length cr] 79) ∧ U.heap[w.heap.size + 1]? = some (.cells #[.int .i64 (k : Int), .bool fi] 45) ∧ HoRow U gh L ∧ ZSRow U gr (R.set k (r + 1)) ∧ Kpt w U (fun b => b = gh ∨ b = gr)) := fun U hU => by
        refine ⟨?_, ?_, ?_, ?_, ?_⟩
        · rw [hU.block _ (by omega), hV, heap_setCell_other _ _ _ _ (show w.heap.size ≠ gr by omega)]; exact q1
        · rw [hU.block _ (by omega), hV, heap_setCell_other _ _ _ _ (show w.heap.size + 1 ≠ gr by omega)]; exact q2
        · exact HoRow.kept (by rw [hV]; exact q3.far hne _) hU
        · exact ZSRow.kept (by rw [hV]; exact HZS.out W (r + 1) q4) hU
        · exact (q5.trans (by rw [hV]; exact kpt_set _ _ _ _ (.inr rfl))).trans (below_kpt0 hU _)
      have HZV : Hid (∀ U, ZSRow U gr (R.set k (r + 1)) → U.cell? ⟨gr, k, none⟩ = some (.int .i64 (r + 1)) ∧ U.frozen? ⟨gr, k, none⟩ = false) := fun U h => by
        have h1 := h.2 k (by simpa using hkR)
        rw [List.getElem_set_self] at h1
        exact h1
      have HVC : Hid (∀ U, Below V.heap.size V U → (U.cell? ⟨w.heap.size, 0, none⟩ = some (.int .i64 ri) ∧ U.cell? ⟨w.heap.size, 1, none⟩ = some (.int .i64 fa) ∧ U.cell? ⟨w.heap.size, 2, none⟩ = some (.slice (some ⟨gh, 0, none⟩) L.length ch)) ∧ (U.cell? ⟨w.heap.size + 1, 0, none⟩ = some (.int .i64 (k : Int)) ∧ U.cell? ⟨w.heap.size + 1, 1, none⟩ = some (.bool fi)) ∧ U.cell? ⟨gr, k, none⟩ = some (.int .i64 (r + 1))) := fun U hU => by
        obtain ⟨v1, v2, _, v4, _⟩ := HVX.out U hU
        obtain ⟨⟨s0, s1, s2, _⟩, _⟩ := wat_cells v1
        exact ⟨⟨s0, s1, s2⟩, prb_cells v2, (HZV.out U v4).1⟩
      have HRC : Hid (∀ U, Below V.heap.size V U → Calls Tryd.prog 65 #[.agg #[.int .i64 ri, .int .i64 fa, .slice (some ⟨gh, 0, none⟩) L.length ch], .int .i64 (k : Int)] U fun e w' => e = .returned (.int .i64 m) ∧ Below U.heap.size U w') := fun U hU => HRT.out U ((HVX.out U hU).2.2.1.row hch1 (by unfold maxLen; omega))
      have HVR : Hid (∀ W W', Below V.heap.size V W → Below W.heap.size W W' → Below V.heap.size V W') := fun W W' h1 h2 => h1.trans (h2.mono h1.size)
      have hvd : Below V.heap.size V V.drew := (Below.refl _ _).drew
      have HV : Hid (W.setCell ⟨gr, k, none⟩ (.int .i64 (r + 1)) = V) := hV.symm
      clear q1 q2 q3 q4 q5 hV b0 b1 b2 b3 b4 b5 b6 b7 b8 HX HXC HTR hbd hbz HRT HZS
      go_wp2_with (rw [HV.out])
      (try rw [HV.out])
      refine wp_region_quiet (C := fun W => Below V.heap.size V W) (by kernel_rfl) (by kernel_rfl) hvd ?_
      refine wpQuiet_step (fun K hK => ?_)
      rw [if_pos (by rfl)]
      refine ⟨.slice (some ⟨gr, k, none⟩) 1 (cr - k), fun W hW => quiet_ok ?_, hK _ ?_⟩
      · have z := HVC.out W hW
        obtain ⟨⟨a0, a1, a2⟩, ⟨a4, a5⟩, a6⟩ := z
        go_simp
        all_goals (try omega)
      clear hK K
      simp only [Act.put, List.setIfInBounds_toArray, List.set_cons_succ, List.set_cons_zero]
      refine wpQuiet_step (fun K hK => ?_)
      rw [if_pos (by rfl)]
      refine ⟨.pointer (some ⟨gr, k, none⟩), fun W hW => quiet_ok ?_, hK _ ?_⟩
      · have z := HVC.out W hW
        obtain ⟨⟨a0, a1, a2⟩, ⟨a4, a5⟩, a6⟩ := z
        go_simp
        all_goals (try omega)
      clear hK K
      simp only [Act.put, List.setIfInBounds_toArray, List.set_cons_succ, List.set_cons_zero]
      refine wpQuiet_step (fun K hK => ?_)
      rw [if_pos (by rfl)]
      refine ⟨.int .i64 (r + 1), fun W hW => quiet_ok ?_, hK _ ?_⟩
      · have z := HVC.out W hW
        obtain ⟨⟨a0, a1, a2⟩, ⟨a4, a5⟩, a6⟩ := z
        go_simp
        all_goals (try omega)
      clear hK K
      simp only [Act.put, List.setIfInBounds_toArray, List.set_cons_succ, List.set_cons_zero]
      refine wpQuiet_step (fun K hK => ?_)
      rw [if_pos (by rfl)]
      refine ⟨.pointer (some ⟨w.heap.size, 0, none⟩), fun W hW => quiet_ok ?_, hK _ ?_⟩
      · have z := HVC.out W hW
        obtain ⟨⟨a0, a1, a2⟩, ⟨a4, a5⟩, a6⟩ := z
        go_simp
        all_goals (try omega)
      clear hK K
      simp only [Act.put, List.setIfInBounds_toArray, List.set_cons_succ, List.set_cons_zero]
      refine wpQuiet_step (fun K hK => ?_)
      rw [if_pos (by rfl)]
      refine ⟨.agg #[.int .i64 ri, .int .i64 fa, .slice (some ⟨gh, 0, none⟩) L.length ch], fun W hW => quiet_ok ?_, hK _ ?_⟩
      · have z := HVC.out W hW
        obtain ⟨⟨a0, a1, a2⟩, ⟨a4, a5⟩, a6⟩ := z
        go_simp
        all_goals (try omega)
      clear hK K
      simp only [Act.put, List.setIfInBounds_toArray, List.set_cons_succ, List.set_cons_zero]
      refine wpQuiet_step (fun K hK => ?_)
      rw [if_pos (by rfl)]
      refine ⟨.pointer (some ⟨w.heap.size + 1, 0, none⟩), fun W hW => quiet_ok ?_, hK _ ?_⟩
      · have z := HVC.out W hW
        obtain ⟨⟨a0, a1, a2⟩, ⟨a4, a5⟩, a6⟩ := z
        go_simp
        all_goals (try omega)
      clear hK K
      simp only [Act.put, List.setIfInBounds_toArray, List.set_cons_succ, List.set_cons_zero]
      refine wpQuiet_step (fun K hK => ?_)
      rw [if_pos (by rfl)]
      refine ⟨.int .i64 (k : Int), fun W hW => quiet_ok ?_, hK _ ?_⟩
      · have z := HVC.out W hW
        obtain ⟨⟨a0, a1, a2⟩, ⟨a4, a5⟩, a6⟩ := z
        go_simp
        all_goals (try omega)
      clear hK K
      simp only [Act.put, List.setIfInBounds_toArray, List.set_cons_succ, List.set_cons_zero]
      refine wpQuiet_step (fun K hK => ?_)
      rw [if_pos (by rfl)]
      refine ⟨.int .i64 m, fun W hW => quiet_call (f := 65) (args := #[.agg #[.int .i64 ri, .int .i64 fa, .slice (some ⟨gh, 0, none⟩) L.length ch], .int .i64 (k : Int)]) ?_ ?_, hK _ ?_⟩
      · go_simp
      · exact (HRC.out W hW).mono fun e w'' h => ⟨h.1, HVR.out _ _ hW h.2⟩
      clear hK K
      simp only [Act.put, List.setIfInBounds_toArray, List.set_cons_succ, List.set_cons_zero]
      refine wpQuiet_step (fun K hK => ?_)
      rw [if_pos (by rfl)]
      refine ⟨.bool false, fun W hW => quiet_ok ?_, hK _ ?_⟩
      · have z := HVC.out W hW
        obtain ⟨⟨a0, a1, a2⟩, ⟨a4, a5⟩, a6⟩ := z
        go_simp
        all_goals (try omega)
      clear hK K
      simp only [Act.put, List.setIfInBounds_toArray, List.set_cons_succ, List.set_cons_zero]
      refine wpQuiet_nil ?_
      intro U hU
      obtain ⟨v1, v2, v3, v4, v5⟩ := HVX.out U hU
      obtain ⟨⟨s0, s1, s2, _⟩, _⟩ := wat_cells v1
      obtain ⟨s4, s5⟩ := prb_cells v2
      obtain ⟨⟨h0, h1, h2⟩, ⟨h3, h4, h5⟩⟩ := HAT.out U v3
      obtain ⟨U1, hU1⟩ : ∃ U1, U1 = U.setCell ⟨gh, k * 3 + 1, none⟩ (.bool fi) := ⟨_, rfl⟩
      have hx1 : HoRow U1 gh (L.set k (xn, fi, xr)) := by rw [hU1]; exact HHS.out U fi v3
      have hy1 : ZSRow U1 gr (R.set k (r + 1)) := by rw [hU1]; exact zs_far v4 (Ne.symm hne) _
      have hk1 : Kpt w U1 (fun b => b = gh ∨ b = gr) := by rw [hU1]; exact v5.trans (kpt_set _ _ _ _ (.inl rfl))
      obtain ⟨t1, t2⟩ := HZV.out U1 hy1
      have hcl := clear_one U1 gr k (cr - k) _ t1 t2
      have HE : Hid (HoRow (U1.setCell ⟨gr, k, none⟩ (.int .i64 0)) gh (L.set k (xn, fi, xr)) ∧ ZSRow (U1.setCell ⟨gr, k, none⟩ (.int .i64 0)) gr (R.set k 0) ∧ Kpt w (U1.setCell ⟨gr, k, none⟩ (.int .i64 0)) (fun b => b = gh ∨ b = gr)) := ⟨hx1.far hne _, HZ2.out U1 0 (r + 1) hy1, hk1.trans (kpt_set _ _ _ _ (.inr rfl))⟩
      have HU1 : Hid (U.setCell ⟨gh, k * 3 + 1, none⟩ (.bool fi) = U1) := hU1.symm
      clear v1 v2 v3 v4 v5 hx1 hy1 hk1 hU1 HVX HVC HVR HRC
      go_wp2_with (rw [HU1.out])
      go_ret
      exact ⟨rfl, HE.out.1, HE.out.2.1, HE.out.2.2⟩
end Go.Proofs.YtoopfmebpjojiaaDoor
