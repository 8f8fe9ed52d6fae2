import Derived.Test.YtoopfmebpjojiaaDoorHeI
import Derived.Deep.QuietTactic
import Derived.BigQuiet
namespace Go.Proofs.YtoopfmebpjojiaaDoor
open Go.RowKit

theorem hea_cells {w W : World} {a b c : Value} {t : TypeId} (hb : Below (w.alloc (.cells #[a, b, c] t)).heap.size (w.alloc (.cells #[a, b, c] t)) W) :
    (W.cell? ⟨w.heap.size, 0, none⟩ = some a ∧ W.cell? ⟨w.heap.size, 1, none⟩ = some b ∧ W.cell? ⟨w.heap.size, 2, none⟩ = some c) ∧ Below w.heap.size w W :=
  ⟨(hst_cells (hst_below hb).1).1, (hst_below hb).2⟩

set_option maxRecDepth 20000 in
set_option maxHeartbeats 2000000 in
theorem isGoodAt_any (ri fa : Int) (v : Value) (L : List HosT) (j : Nat) (hj : j < L.length) (w : World) (hr : HstRow w v L) (hE : Env w) (h1 : inB ri 1 10 = true) (h2 : inB fa 1 10 = true) :
    Calls Tryd.prog 50 #[HeaV ri fa v, .int .i64 (j : Int)] w fun e w' => e = .returned (.bool (nmB (nmL L) j && rowB ri fa L[j])) ∧ Below w.heap.size w w' := by
  have HFN : Hid (∀ s W, Below w.heap.size w W → Calls Tryd.prog 58 #[HeaV ri fa v, .string ⟨s.toArray⟩] W fun e w' => (∃ i : Int, e = .returned (.int .i64 i) ∧ FirstI (fun x => x.1 == s) L i) ∧ Below W.heap.size W w') := fun s W hW => firstNamed_any ri fa v L s W (hr.kept hW)
  have HRT : Hid (∀ W, Below w.heap.size w W → Calls Tryd.prog 65 #[HeaV ri fa v, .int .i64 (j : Int)] W fun e w' => e = .returned (.int .i64 (mostH ri fa L[j].2.1)) ∧ Below W.heap.size W w') := fun W hW => rowToTurn_any ri fa v L j hj W (hr.kept hW)
  have HGN : Hid (∀ W, Below w.heap.size w W → Calls Tryd.prog 64 #[.string ⟨L[j].1.toArray⟩] W fun e w' => e = .returned (.bool (nameB L[j].1)) ∧ Below W.heap.size W w') := fun W hW => by
    have h := iGoodName_any ⟨L[j].1.toArray⟩ W (hE.below hW)
    simpa using h
  have hm := most_in (u := L[j].2.1) h1 h2
  have HNM : Hid (nmB (nmL L) j = (nameB L[j].1 && !(L[j].1 == []) && !(((nmL L).take j).contains L[j].1))) := by show nmB (nmL L) j = _; unfold nmB; rw [nmL_at hj]
  have HFI : Hid (∀ i, FirstI (fun x => x.1 == L[j].1) L i → (i == (j : Int)) = !(((nmL L).take j).contains L[j].1)) := fun i h => first_is hj h
  have HRW : Hid (rowB ri fa L[j] = inB L[j].2.2 0 (mostH ri fa L[j].2.1 - 1)) := rfl
  unfold HeaV at HFN HRT ⊢
  obtain ⟨a, cap, rfl, hcap, hmax, HROW⟩ := hst_value hr
  obtain ⟨b, o, rfl, hbl, hcel⟩ := HROW.out (by omega)
  have HC : Hid (∀ W, Below w.heap.size w W → HstAt W b (o + j * 3) L[j]) := fun W hW => (hcel j hj).kept hW
  obtain ⟨good, hgood⟩ : ∃ good, good = (nmB (nmL L) j && rowB ri fa L[j]) := ⟨_, rfl⟩
  have HGD : Hid (good = (nmB (nmL L) j && rowB ri fa L[j])) := hgood
  rw [← hgood]
  obtain ⟨⟨xn, u, r⟩, hx⟩ : ∃ x, x = L[j] := ⟨_, rfl⟩
  rw [HNM.out, HRW.out] at HGD
  rw [← hx] at HRT HGN hm HFI HC HGD
  simp only at HRT HGN hm HFI HC HGD
  obtain ⟨m, hme⟩ : ∃ m, m = mostH ri fa u := ⟨_, rfl⟩
  rw [← hme] at HRT hm HGD
  obtain ⟨con, hcon⟩ : ∃ con, con = !(((nmL L).take j).contains xn) := ⟨_, rfl⟩
  rw [← hcon] at HFI HGD
  have hb0 : Below w.heap.size w (w.alloc (.cells #[.int .i64 ri, .int .i64 fa, .slice (some ⟨b, o, none⟩) L.length cap] 26)) := (Below.refl w.heap.size w).alloc (Nat.le_refl _) _
  unfold HstAt at HC
  simp only at HC
  have hc0 := HC.out _ hb0
  obtain ⟨c0, c1, c2⟩ := hc0
  have HX : Hid (∀ W, Below (w.alloc (.cells #[.int .i64 ri, .int .i64 fa, .slice (some ⟨b, o, none⟩) L.length cap] 26)).heap.size (w.alloc (.cells #[.int .i64 ri, .int .i64 fa, .slice (some ⟨b, o, none⟩) L.length cap] 26)) W → (W.cell? ⟨w.heap.size, 0, none⟩ = some (.int .i64 ri) ∧ W.cell? ⟨w.heap.size, 1, none⟩ = some (.int .i64 fa) ∧ W.cell? ⟨w.heap.size, 2, none⟩ = some (.slice (some ⟨b, o, none⟩) L.length cap)) ∧ (W.cell? ⟨b, o + j * 3, none⟩ = some (.string ⟨xn.toArray⟩) ∧ W.cell? ⟨b, o + j * 3 + 1, none⟩ = some (.bool u) ∧ W.cell? ⟨b, o + j * 3 + 2, none⟩ = some (.int .i64 r)) ∧ Below w.heap.size w W) := fun W hW => ⟨(hea_cells hW).1, HC.out W (hea_cells hW).2, (hea_cells hW).2⟩
  clear hcel hx hgood hme hcon HROW hr HNM HRW h1 h2
  by_cases hn : xn = []
  · subst hn
    have HR : Hid (false = good) := by show false = good; rw [HGD.out]; simp
    go_enter Tryd.func50, Tryd.ntmps50
    go_wp2_with fail
    go_ret
    exact ⟨ret_bool HR.out, hb0⟩
  · have e1 : (xn == []) = false := by simpa using hn
    rw [e1] at HGD
    cases hN : nameB xn with
    | false =>
      have HR : Hid (false = good) := by rw [HGD.out, hN]; rfl
      rw [hN] at HGN
      clear hN
      go_enter Tryd.func50, Tryd.ntmps50
      go_wp2_with fail
      refine (HGN.out _ hb0).mono ?_
      rintro e w1 ⟨rfl, hb1⟩
      have hbw := (hea_cells hb1).2
      go_wp2_with fail
      go_ret
      exact ⟨ret_bool HR.out, hbw⟩
    | true =>
      rw [hN] at HGN HGD
      clear hN
      go_enter Tryd.func50, Tryd.ntmps50
      go_wp2_with fail
      refine (HGN.out _ hb0).mono ?_
      rintro e w1 ⟨rfl, hb1⟩
      obtain ⟨⟨d0, d1, d2⟩, _, hbw⟩ := HX.out _ hb1
      go_wp2_with fail
      refine (HFN.out xn _ hbw).mono ?_
      rintro e w2 ⟨⟨i, rfl, hi⟩, hb2⟩
      have hfi := HFI.out i hi
      have hb12 := hb1.trans (hb2.mono hb1.size)
      clear d0 d1 d2 c0 c1 c2 hi hb2
      cases con with
      | false =>
        have HR : Hid (false = good) := by rw [HGD.out]; rfl
        have hne : (i != (j : Int)) = true := by simp only [bne, hfi]; rfl
        have hbw2 := (hea_cells hb12).2
        clear hfi
        go_wp2_with fail
        go_ret
        exact ⟨ret_bool HR.out, hbw2⟩
      | true =>
        have hij : i = (j : Int) := by simpa using hfi
        subst hij
        have HR : Hid (inB r 0 (m - 1) = good) := by rw [HGD.out]; rfl
        have hne : ((j : Int) != (j : Int)) = false := by simp
        have HX2 : Hid (∀ W, Below w2.heap.size w2 W → (W.cell? ⟨w.heap.size, 0, none⟩ = some (.int .i64 ri) ∧ W.cell? ⟨w.heap.size, 1, none⟩ = some (.int .i64 fa) ∧ W.cell? ⟨w.heap.size, 2, none⟩ = some (.slice (some ⟨b, o, none⟩) L.length cap)) ∧ (W.cell? ⟨b, o + j * 3, none⟩ = some (.string ⟨xn.toArray⟩) ∧ W.cell? ⟨b, o + j * 3 + 1, none⟩ = some (.bool u) ∧ W.cell? ⟨b, o + j * 3 + 2, none⟩ = some (.int .i64 r)) ∧ Below w.heap.size w W) := fun W hW => HX.out W (hb12.trans (hW.mono hb12.size))
        have HRT2 : Hid (∀ W, Below w2.heap.size w2 W → Calls Tryd.prog 65 #[.agg #[.int .i64 ri, .int .i64 fa, .slice (some ⟨b, o, none⟩) L.length cap], .int .i64 (j : Int)] W fun e w' => e = .returned (.int .i64 m) ∧ Below W.heap.size W w') := fun W hW => HRT.out W (HX2.out W hW).2.2
        have HTR : Hid (∀ W W', Below w2.heap.size w2 W → Below W.heap.size W W' → Below w2.heap.size w2 W') := fun W W' h1 h2 => h1.trans (h2.mono h1.size)
        have hbd : Below w2.heap.size w2 w2.drew := (Below.refl _ _).drew
        have HIW : Hid (∀ W, Calls Tryd.prog 49 #[.int .i64 r, .int .i64 0, .int .i64 (m - 1)] W fun e w' => e = .returned (.bool (inB r 0 (m - 1))) ∧ w' = W) := fun W => iWithin_any r 0 (m - 1) W
        obtain ⟨ans, hans⟩ : ∃ ans, ans = inB r 0 (m - 1) := ⟨_, rfl⟩
        rw [← hans] at HIW HR
        have hji : (j : Int) < (L.length : Int) := by omega
        have hwm : IntKind.i64.wrap (m - 1) = m - 1 := IntWalk.i64_in _ (by omega)
        clear hfi hb1 hbw hb12 HX HRT HFI hans HGD HC HFN HGN
        go_wp2_with fail
        refine wp_region_quiet (C := fun W => Below w2.heap.size w2 W) (by kernel_rfl) (by kernel_rfl) hbd ?_
        refine wpQuiet_step (fun K hK => ?_)
        rw [if_pos (by rfl)]
        refine ⟨.pointer (some ⟨w.heap.size, 2, none⟩), fun W hW => quiet_ok ?_, hK _ ?_⟩
        · have q := HX2.out W hW
          obtain ⟨⟨m0, m1, m2⟩, ⟨z0, z1, z2⟩, _⟩ := q
          go_simp
          all_goals (try omega)
        clear hK K
        simp only [Act.put, List.setIfInBounds_toArray, List.set_cons_succ, List.set_cons_zero]
        refine wpQuiet_step (fun K hK => ?_)
        rw [if_pos (by rfl)]
        refine ⟨.slice (some ⟨b, o, none⟩) L.length cap, fun W hW => quiet_ok ?_, hK _ ?_⟩
        · have q := HX2.out W hW
          obtain ⟨⟨m0, m1, m2⟩, ⟨z0, z1, z2⟩, _⟩ := q
          go_simp
          all_goals (try omega)
        clear hK K
        simp only [Act.put, List.setIfInBounds_toArray, List.set_cons_succ, List.set_cons_zero]
        refine wpQuiet_step (fun K hK => ?_)
        rw [if_pos (by rfl)]
        refine ⟨.int .i64 (j : Int), fun W hW => quiet_ok ?_, hK _ ?_⟩
        · have q := HX2.out W hW
          obtain ⟨⟨m0, m1, m2⟩, ⟨z0, z1, z2⟩, _⟩ := q
          go_simp
          all_goals (try omega)
        clear hK K
        simp only [Act.put, List.setIfInBounds_toArray, List.set_cons_succ, List.set_cons_zero]
        refine wpQuiet_step (fun K hK => ?_)
        rw [if_pos (by rfl)]
        refine ⟨.pointer (some ⟨b, o + j * 3, none⟩), fun W hW => quiet_ok ?_, hK _ ?_⟩
        · have q := HX2.out W hW
          obtain ⟨⟨m0, m1, m2⟩, ⟨z0, z1, z2⟩, _⟩ := q
          go_simp
          all_goals (try omega)
        clear hK K
        simp only [Act.put, List.setIfInBounds_toArray, List.set_cons_succ, List.set_cons_zero]
        refine wpQuiet_step (fun K hK => ?_)
        rw [if_pos (by rfl)]
        refine ⟨.pointer (some ⟨b, o + j * 3 + 2, none⟩), fun W hW => quiet_ok ?_, hK _ ?_⟩
        · have q := HX2.out W hW
          obtain ⟨⟨m0, m1, m2⟩, ⟨z0, z1, z2⟩, _⟩ := q
          go_simp
          all_goals (try omega)
        clear hK K
        simp only [Act.put, List.setIfInBounds_toArray, List.set_cons_succ, List.set_cons_zero]
        refine wpQuiet_step (fun K hK => ?_)
        rw [if_pos (by rfl)]
        refine ⟨.int .i64 r, fun W hW => quiet_ok ?_, hK _ ?_⟩
        · have q := HX2.out W hW
          obtain ⟨⟨m0, m1, m2⟩, ⟨z0, z1, z2⟩, _⟩ := q
          go_simp
          all_goals (try omega)
        clear hK K
        simp only [Act.put, List.setIfInBounds_toArray, List.set_cons_succ, List.set_cons_zero]
        refine wpQuiet_step (fun K hK => ?_)
        rw [if_pos (by rfl)]
        refine ⟨.agg #[.int .i64 ri, .int .i64 fa, .slice (some ⟨b, o, none⟩) L.length cap], fun W hW => quiet_ok ?_, hK _ ?_⟩
        · have q := HX2.out W hW
          obtain ⟨⟨m0, m1, m2⟩, ⟨z0, z1, z2⟩, _⟩ := q
          go_simp
          all_goals (try omega)
        clear hK K
        simp only [Act.put, List.setIfInBounds_toArray, List.set_cons_succ, List.set_cons_zero]
        refine wpQuiet_step (fun K hK => ?_)
        rw [if_pos (by rfl)]
        refine ⟨.int .i64 (j : Int), fun W hW => quiet_ok ?_, hK _ ?_⟩
        · have q := HX2.out W hW
          obtain ⟨⟨m0, m1, m2⟩, ⟨z0, z1, z2⟩, _⟩ := q
          go_simp
          all_goals (try omega)
        clear hK K
        simp only [Act.put, List.setIfInBounds_toArray, List.set_cons_succ, List.set_cons_zero]
        refine wpQuiet_step (fun K hK => ?_)
        rw [if_pos (by rfl)]
        refine ⟨.int .i64 m, fun W hW => quiet_call (f := 65) (args := #[.agg #[.int .i64 ri, .int .i64 fa, .slice (some ⟨b, o, none⟩) L.length cap], .int .i64 (j : Int)]) ?_ ?_, hK _ ?_⟩
        · go_simp
        · exact (HRT2.out W hW).mono fun e w'' h => ⟨h.1, HTR.out _ _ hW h.2⟩
        clear hK K
        simp only [Act.put, List.setIfInBounds_toArray, List.set_cons_succ, List.set_cons_zero]
        refine wpQuiet_step (fun K hK => ?_)
        rw [if_pos (by rfl)]
        refine ⟨.int .i64 (m - 1), fun W hW => quiet_ok ?_, hK _ ?_⟩
        · have q := HX2.out W hW
          obtain ⟨⟨m0, m1, m2⟩, ⟨z0, z1, z2⟩, _⟩ := q
          go_simp
          all_goals (try omega)
        clear hK K
        simp only [Act.put, List.setIfInBounds_toArray, List.set_cons_succ, List.set_cons_zero]
        refine wpQuiet_step (fun K hK => ?_)
        rw [if_pos (by rfl)]
        refine ⟨.bool ans, fun W hW => quiet_call (f := 49) (args := #[.int .i64 r, .int .i64 0, .int .i64 (m - 1)]) ?_ ?_, hK _ ?_⟩
        · go_simp
        · exact (HIW.out W).mono fun e w'' h => ⟨h.1, by rw [h.2]; exact hW⟩
        clear hK K
        simp only [Act.put, List.setIfInBounds_toArray, List.set_cons_succ, List.set_cons_zero]
        refine wpQuiet_step (fun K hK => ?_)
        rw [if_pos (by rfl)]
        refine ⟨.bool ans, fun W hW => quiet_ok ?_, hK _ ?_⟩
        · have q := HX2.out W hW
          obtain ⟨⟨m0, m1, m2⟩, ⟨z0, z1, z2⟩, _⟩ := q
          go_simp
          all_goals (try omega)
        clear hK K
        simp only [Act.put, List.setIfInBounds_toArray, List.set_cons_succ, List.set_cons_zero]
        refine wpQuiet_nil ?_
        intro W hW
        have hbW := (HX2.out W hW).2.2
        go_wp2_with fail
        go_ret
        exact ⟨ret_bool HR.out, hbW⟩

set_option maxRecDepth 20000 in
set_option maxHeartbeats 2000000 in
theorem iGoodHealth_any (ri fa : Int) (v : Value) (L : List HosT) (w : World) (hr : HstRow w v L) (hE : Env w) :
    Calls Tryd.prog 22 #[HeaV ri fa v] w fun e w' => e = .returned (.bool (goodH ri fa L)) ∧ Below w.heap.size w w' := by
  have HGA : Hid (inB ri 1 10 = true → inB fa 1 10 = true → ∀ j (hj : j < L.length) W, Below w.heap.size w W → Calls Tryd.prog 50 #[HeaV ri fa v, .int .i64 (j : Int)] W fun e w' => e = .returned (.bool (nmB (nmL L) j && rowB ri fa L[j])) ∧ Below W.heap.size W w') := fun h1 h2 j hj W hW => isGoodAt_any ri fa v L j hj W (hr.kept hW) (hE.below hW) h1 h2
  obtain ⟨good, hgood⟩ : ∃ good, good = goodH ri fa L := ⟨_, rfl⟩
  have HGD : Hid (good = goodH ri fa L) := hgood
  rw [← hgood]
  unfold HeaV at HGA ⊢
  obtain ⟨a, cap, rfl, hcap, hmax, _⟩ := hst_value hr
  have hb0 : Below w.heap.size w (w.alloc (.cells #[.int .i64 ri, .int .i64 fa, .slice a L.length cap] 26)) := (Below.refl w.heap.size w).alloc (Nat.le_refl _) _
  have HW1 : Hid (∀ n W, Calls Tryd.prog 49 #[.int .i64 n, .int .i64 1, .int .i64 10] W fun e w' => e = .returned (.bool (inB n 1 10)) ∧ w' = W) := fun n W => iWithin_any n 1 10 W
  have HW2 : Hid (∀ n W, Calls Tryd.prog 49 #[.int .i64 n, .int .i64 1, .int .i64 12] W fun e w' => e = .returned (.bool (inB n 1 12)) ∧ w' = W) := fun n W => iWithin_any n 1 12 W
  clear hgood hr
  cases h1 : inB ri 1 10 with
  | false =>
    have HR : Hid (false = good) := by rw [HGD.out, good_off (by rw [h1]; rfl)]; rfl
    have HA := HW1.out ri
    rw [h1] at HA
    go_enter Tryd.func22, Tryd.ntmps22
    go_wp2_with fail
    refine (HA _).mono ?_
    rintro e w1 ⟨rfl, rfl⟩
    go_wp2_with fail
    go_ret
    exact ⟨ret_bool HR.out, hb0⟩
  | true =>
    have HA := HW1.out ri
    rw [h1] at HA
    cases h2 : inB fa 1 10 with
    | false =>
      have HR : Hid (false = good) := by rw [HGD.out, good_off (by rw [h1, h2]; rfl)]; rfl
      have HB := HW1.out fa
      rw [h2] at HB
      go_enter Tryd.func22, Tryd.ntmps22
      go_wp2_with fail
      refine (HA _).mono ?_
      rintro e w1 ⟨rfl, rfl⟩
      go_wp2_with fail
      refine (HB _).mono ?_
      rintro e w1 ⟨rfl, rfl⟩
      go_wp2_with fail
      go_ret
      exact ⟨ret_bool HR.out, hb0⟩
    | true =>
      have HB := HW1.out fa
      rw [h2] at HB
      cases h3 : inB (L.length : Int) 1 12 with
      | false =>
        have HR : Hid (false = good) := by rw [HGD.out]; show false = goodH ri fa L; unfold goodH nmsB; rw [nmL_length, h3]; simp
        have HD := HW2.out (L.length : Int)
        rw [h3] at HD
        go_enter Tryd.func22, Tryd.ntmps22
        go_wp2_with fail
        refine (HA _).mono ?_
        rintro e w1 ⟨rfl, rfl⟩
        go_wp2_with fail
        refine (HB _).mono ?_
        rintro e w1 ⟨rfl, rfl⟩
        go_wp2_with fail
        refine (HD _).mono ?_
        rintro e w1 ⟨rfl, rfl⟩
        go_wp2_with fail
        go_ret
        exact ⟨ret_bool HR.out, hb0⟩
      | true =>
        have HD := HW2.out (L.length : Int)
        rw [h3] at HD
        have HBAD : Hid (∀ j (hj : j < L.length), (nmB (nmL L) j && rowB ri fa L[j]) = false → false = good) := fun j hj h => by
          rw [HGD.out]
          cases hq : nmB (nmL L) j with
          | false => exact (good_name hj hq).symm
          | true => rw [hq] at h; exact (good_row hj (by simpa using h)).symm
        have HALL : Hid ((∀ j, (hj : j < L.length) → (nmB (nmL L) j && rowB ri fa L[j]) = true) → true = good) := fun h => by
          rw [HGD.out]; exact (good_all h1 h2 h3 (fun j hj => by have := h j hj; simpa using this)).symm
        have HG := HGA.out h1 h2
        clear HGD HW1 HW2 h1 h2 h3 HGA
        go_enter Tryd.func22, Tryd.ntmps22
        go_wp2_with fail
        refine (HA _).mono ?_
        rintro e w1 ⟨rfl, rfl⟩
        go_wp2_with fail
        refine (HB _).mono ?_
        rintro e w1 ⟨rfl, rfl⟩
        go_wp2_with fail
        refine (HD _).mono ?_
        rintro e w1 ⟨rfl, rfl⟩
        go_wp2_with fail
        clear HA HB HD
        obtain ⟨W0, hW0⟩ : ∃ W0, W0 = w.alloc (.cells #[.int .i64 ri, .int .i64 fa, .slice a L.length cap] 26) := ⟨_, rfl⟩
        have HX : Hid (∀ W, Below W0.heap.size W0 W → (W.cell? ⟨w.heap.size, 0, none⟩ = some (.int .i64 ri) ∧ W.cell? ⟨w.heap.size, 1, none⟩ = some (.int .i64 fa) ∧ W.cell? ⟨w.heap.size, 2, none⟩ = some (.slice a L.length cap)) ∧ Below w.heap.size w W) := fun W hW => by rw [hW0] at hW; exact hea_cells hW
        rw [← hW0]
        clear hW0 hb0
        go_loopw [24] (fun i wr => ∃ k : Nat, k ≤ L.length ∧ i = .int .i64 (k : Int) ∧ Hid (∀ j, (hj : j < L.length) → j < k → (nmB (nmL L) j && rowB ri fa L[j]) = true) ∧ Below W0.heap.size W0 wr) (fun i _ => L.length - (intOf i).toNat)
        case atStart => exact ⟨0, Nat.zero_le _, rfl, fun j _ h => absurd h (Nat.not_lt_zero _), Below.refl _ _⟩
        case round =>
          obtain ⟨k, hk, rfl, HK, hb⟩ := hrel
          obtain ⟨⟨d0, d1, d2⟩, hbw⟩ := HX.out _ hb
          by_cases hlt : k < L.length
          · have HC : Hid (Calls Tryd.prog 50 #[.agg #[.int .i64 ri, .int .i64 fa, .slice a L.length cap], .int .i64 (k : Int)] wr fun e w' => e = .returned (.bool (nmB (nmL L) k && rowB ri fa (L[k]'hlt))) ∧ Below wr.heap.size wr w') := HG k hlt wr hbw
            have HB1 : Hid ((nmB (nmL L) k && rowB ri fa (L[k]'hlt)) = false → false = good) := HBAD.out k hlt
            have HUP : Hid ((nmB (nmL L) k && rowB ri fa (L[k]'hlt)) = true → ∀ j, (hj : j < L.length) → j < k + 1 → (nmB (nmL L) j && rowB ri fa L[j]) = true) := fun h j hj h1 => by
              rcases Nat.lt_or_ge j k with h' | h'
              · exact HK.out j hj h'
              · obtain rfl : j = k := by omega
                exact h
            cases hq : (nmB (nmL L) k && rowB ri fa (L[k]'hlt)) with
            | false =>
              rw [hq] at HC
              have HR : Hid (false = good) := HB1.out hq
              clear hq HUP HB1
              go_wp2_with fail
              refine HC.out.mono ?_
              rintro e w2 ⟨rfl, hb2⟩
              have hbw2 := hbw.trans (hb2.mono hbw.size)
              go_wp2_with fail
              go_ret
              exact ⟨ret_bool HR.out, hbw2⟩
            | true =>
              rw [hq] at HC
              have HN : Hid (∀ j, (hj : j < L.length) → j < k + 1 → (nmB (nmL L) j && rowB ri fa L[j]) = true) := HUP.out hq
              clear hq HUP HB1
              go_wp2_with fail
              refine HC.out.mono ?_
              rintro e w2 ⟨rfl, hb2⟩
              have hb3 := hb.trans (hb2.mono hb.size)
              go_wp2_with fail
              go_roundw
              case rel => exact ⟨k + 1, by omega, by go_num, HN, hb3⟩
              case measure => simp [intOf]; omega
          · have HR : Hid (true = good) := HALL.out (fun j hj => HK.out j hj (by omega))
            go_wp2_with fail
            go_ret
            exact ⟨ret_bool HR.out, hbw⟩
end Go.Proofs.YtoopfmebpjojiaaDoor
