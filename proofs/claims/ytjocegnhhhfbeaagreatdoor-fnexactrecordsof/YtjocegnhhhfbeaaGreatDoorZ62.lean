import Derived.Test.YtjocegnhhhfbeaaGreatDoorZ61
import Derived.Test.YtjocegnhhhfbeaaGreatDoorZ36
import Derived.Test.YtjocegnhhhfbeaaGreatDoorZ20
import Derived.Test.YtjocegnhhhfbeaaGreatDoorZ28
import Derived.Test.YtjocegnhhhfbeaaGreatDoorZ25
import Derived.BigQuiet
import Derived.Deep.QuietTactic
namespace Go.Proofs.YtjocegnhhhfbeaaGreatDoor
open Go.RowKit

set_option maxRecDepth 20000 in
set_option maxHeartbeats 8000000 in
theorem sRecordsOf_any (v0 : Value) (L : List SetT) (w : World) (hr : SSRow w v0 L) (hx : Hid (∀ x ∈ L, SBig x)) (hn0 : L.length ≤ 1048576) (hw : wtS L ≤ 1048576) :
    Calls Tryz.prog 15 #[v0] w fun e w' => (∃ u, e = .returned (.tuple #[u, .bool (rcoB L)]) ∧ RRow w' u (rcoX L)) ∧ Below w.heap.size w w' := by
  obtain ⟨a, cap, rfl, hcap, hmax, HROW⟩ := ssrow_value hr
  clear hr
  have HNO : Hid (¬ recC L → rcoB L = false) := rcoB_not hx.out
  have HYES : Hid (recC L → rcoB L = true) := (rcoB_iff hx.out).2
  have HXN : Hid (rcoB L = false → rcoX L = []) := fun h => by show rcoX L = []; unfold rcoX; rw [h]; rfl
  have HXY : Hid (rcoB L = true → rcoX L = flatS L) := fun h => by show rcoX L = flatS L; unfold rcoX; rw [h]; rfl
  have HFL : Hid ((flatS L).length ≤ 1048576) := Nat.le_trans (flat_len L) hw
  have HGR : Hid (∀ (x : (List UInt8 × Int × Int × List UInt8)) W, x.1.length ≤ 1048576 → x.2.2.2.length ≤ 1048576 → Calls Tryz.prog 20 #[.agg #[.string ⟨x.1.toArray⟩, .int .i64 x.2.1, .int .i64 x.2.2.1, .string ⟨x.2.2.2.toArray⟩]] W fun e w' => e = .returned (.bool (recB x.1 x.2.1 x.2.2.1 x.2.2.2)) ∧ Below W.heap.size W w') := fun x W g1 g2 =>
    sGoodRecord_any ⟨x.1.toArray⟩ ⟨x.2.2.2.toArray⟩ x.2.1 x.2.2.1 W (by rw [size_list]; exact g1) (by rw [size_list]; exact g2)
  have HCM : Hid (∀ (y x : (List UInt8 × Int × Int × List UInt8)) W, y.1.length ≤ 1048576 → y.2.2.2.length ≤ 1048576 → x.1.length ≤ 1048576 → x.2.2.2.length ≤ 1048576 → recB y.1 y.2.1 y.2.2.1 y.2.2.2 = true → recB x.1 x.2.1 x.2.2.1 x.2.2.2 = true → Calls Tryz.prog 36 #[.agg #[.string ⟨y.1.toArray⟩, .int .i64 y.2.1, .int .i64 y.2.2.1, .string ⟨y.2.2.2.toArray⟩], .agg #[.string ⟨x.1.toArray⟩, .int .i64 x.2.1, .int .i64 x.2.2.1, .string ⟨x.2.2.2.toArray⟩]] W fun e w' => e = .returned (.int .i64 (cmp4 y x)) ∧ Below W.heap.size W w') := fun y x W g1 g2 g3 g4 g5 g6 => by
    have n1 := recB_name g5
    have n2 := recB_name g6
    have h := l3Compare_any ⟨y.1.toArray⟩ ⟨y.2.2.2.toArray⟩ y.2.1 y.2.2.1 ⟨x.1.toArray⟩ ⟨x.2.2.2.toArray⟩ x.2.1 x.2.2.1 W (by rw [size_list]; exact g1) (by rw [size_list]; exact g3) (by rw [size_list]; exact g2) (by rw [size_list]; exact g4) ⟨n1.1, n2.1⟩ ⟨n1.2, n2.2⟩
    refine h.mono fun e w' hh => ⟨hh.1.trans ?_, hh.2⟩
    exact congrArg (fun i => Ending.returned (.int .i64 i)) (ord_cmp ⟨n1.1, n2.1⟩).symm
  have HFF : Hid (∀ x ∈ flatS L, x.1.length ≤ 1048576 ∧ x.2.2.2.length ≤ 1048576) := flat_fit hx.out
  have HO0 : Hid (w.ownsRow w.heap.size 43 4 (.slice none 0 0) (flatS (L.take 0)).length (rcells (flatS (L.take 0)))) := by
    have h : w.ownsRow w.heap.size 43 4 (.slice none 0 0) (flatS (L.take 0)).length (rcells (flatS (L.take 0))) := by simpa [rcells, flatS] using World.ownsRow_nil _ _ _ _
    exact h
  go_enter Tryz.func15, Tryz.ntmps15
  go_wp2_with fail
  go_loopw [4, 15] (fun vv i wr => ∃ (k : Nat) (v : Value), k ≤ L.length ∧ i = .int .i64 (k : Int) ∧ v = vv ∧ Hid (wr.ownsRow w.heap.size 43 4 v (flatS (L.take k)).length (rcells (flatS (L.take k)))) ∧ Hid (POk (flatS (L.take k)) ∧ ∀ s ∈ L.take k, s.2.2.2 ≠ []) ∧ Below w.heap.size w wr) (fun _ i _ => L.length - (intOf i).toNat)
  case atStart => exact ⟨0, _, Nat.zero_le _, rfl, rfl, HO0, ⟨pok_nil, fun s hs => by simp at hs⟩, Below.refl _ _⟩
  case round =>
    obtain ⟨k, v, hk, rfl, rfl, HO, HP, hb⟩ := hrel
    clear HO0
    by_cases hlt : k < L.length
    · obtain ⟨b, o, ha, hbl, hcel⟩ := HROW.out (by omega)
      rw [ha]
      obtain ⟨va, hcx0⟩ := hcel k hlt
      have hcx := hcx0.kept hb
      have hxk := hx.out _ (List.getElem_mem hlt)
      have HNN : Hid ((L[k]'hlt).2.2.2 = [] → rcoB L = false) := fun h => HNO.out (fun hc => hc.1 _ (List.getElem_mem hlt) h)
      have HTK : Hid ((L[k]'hlt).2.2.2 ≠ [] → ∀ s ∈ L.take (k + 1), s.2.2.2 ≠ []) := fun h s hs => by
        rw [List.take_succ_eq_append_getElem hlt, List.mem_append] at hs
        rcases hs with hs | hs
        · exact HP.out.2 s hs
        · obtain rfl : s = L[k] := by simpa using hs
          exact h
      have HSN : Hid (flatS (L.take (k + 1)) = flatS (L.take k) ++ ((L[k]'hlt).2.2.2).map (mkR (L[k]'hlt))) := flat_snoc L k hlt
      have HAT : Hid (∀ j, (hj : j < (L[k]'hlt).2.2.2.length) → ∃ R, flatS L = flatS (L.take k) ++ ((L[k]'hlt).2.2.2.take j).map (mkR (L[k]'hlt)) ++ mkR (L[k]'hlt) ((L[k]'hlt).2.2.2[j]'hj) :: R) := fun j hj => flat_at L k hlt j hj
      obtain ⟨s, hse⟩ : ∃ s, s = L[k]'hlt := ⟨_, rfl⟩
      rw [← hse] at hcx hcx0 hxk HNN HTK HSN HAT
      have hrow0 : Row w va s.2.2.2 := hcx0.2
      obtain ⟨sn, st, sl, P⟩ := s
      unfold SetAt at hcx
      obtain ⟨⟨c0, c1, c2, c3⟩, _⟩ := hcx
      simp only at c0 c1 c2 hrow0 HNN HTK HSN HAT hxk
      obtain ⟨pa, pc, rfl, hpc, hpm, HPR⟩ := row_value hrow0
      clear hcel hse hcx0 hrow0
      obtain ⟨F0, hF0⟩ : ∃ F0, F0 = flatS (L.take k) := ⟨_, rfl⟩
      rw [← hF0] at HO HP HSN HAT
      have hbox : (wr.alloc (.cells #[.string ⟨sn.toArray⟩, .int .i64 st, .int .i64 sl, .slice pa P.length pc] 55)).heap[wr.heap.size]? = some (.cells #[.string ⟨sn.toArray⟩, .int .i64 st, .int .i64 sl, .slice pa P.length pc] 55) := blk_new _ _
      obtain ⟨W1, hW1⟩ : ∃ W1, W1 = wr.alloc (.cells #[.string ⟨sn.toArray⟩, .int .i64 st, .int .i64 sl, .slice pa P.length pc] 55) := ⟨_, rfl⟩
      have HW1 : Hid (wr.alloc (.cells #[.string ⟨sn.toArray⟩, .int .i64 st, .int .i64 sl, .slice pa P.length pc] 55) = W1) := hW1.symm
      have hbw1 : Below w.heap.size w W1 := by rw [hW1]; exact hb.alloc hb.size _
      have HO1 : Hid (W1.ownsRow w.heap.size 43 4 v F0.length (rcells F0)) := by
        have h : W1.ownsRow w.heap.size 43 4 v F0.length (rcells F0) := by rw [hW1]; exact HO.out.alloc _
        exact h
      rw [← hW1] at hbox
      have HBX : Hid (W1.heap[wr.heap.size]? = some (.cells #[.string ⟨sn.toArray⟩, .int .i64 st, .int .i64 sl, .slice pa P.length pc] 55)) := hbox
      obtain ⟨g, hg⟩ : ∃ g, g = wr.heap.size := ⟨_, rfl⟩
      clear hW1 hF0 HO
      obtain ⟨m0, m1, m2, m3⟩ := rec4_cells hbox
      by_cases hP0 : P.length = 0
      · have HR : Hid (rcoB L = false) := HNN.out (List.length_eq_zero_iff.1 hP0)
        go_wp2_with fail
        go_ret2
        exact ⟨⟨_, by rw [HR.out]; rfl, by rw [HXN.out HR.out]; exact rrow_nil _⟩, hb.alloc hb.size _⟩
      · have HPN0 := HTK.out (fun h => hP0 (by rw [h]; rfl))
        have HP0 : Hid (POk (F0 ++ (P.take 0).map (mkR (sn, st, sl, P)))) := by
          have h : POk (F0 ++ (P.take 0).map (mkR (sn, st, sl, P))) := by simpa using HP.out.1
          exact h
        have HOJ : Hid (W1.ownsRow w.heap.size 43 4 v (F0 ++ (P.take 0).map (mkR (sn, st, sl, P))).length (rcells (F0 ++ (P.take 0).map (mkR (sn, st, sl, P))))) := by
          have h : W1.ownsRow w.heap.size 43 4 v (F0 ++ (P.take 0).map (mkR (sn, st, sl, P))).length (rcells (F0 ++ (P.take 0).map (mkR (sn, st, sl, P)))) := by simpa using HO1.out
          exact h
        clear HP HO1 m0 m1 m2
        go_wp2_with fail
        rw [HW1.out]
        rw [← hg] at HBX ⊢
        go_loopw [4, 26] (fun vv i wr => ∃ (j : Nat) (v : Value), j ≤ P.length ∧ i = .int .i64 (j : Int) ∧ v = vv ∧ Hid (wr.ownsRow w.heap.size 43 4 v (F0 ++ (P.take j).map (mkR (sn, st, sl, P))).length (rcells (F0 ++ (P.take j).map (mkR (sn, st, sl, P))))) ∧ Hid (POk (F0 ++ (P.take j).map (mkR (sn, st, sl, P)))) ∧ Hid (wr.heap[g]? = some (.cells #[.string ⟨sn.toArray⟩, .int .i64 st, .int .i64 sl, .slice pa P.length pc] 55)) ∧ Below w.heap.size w wr) (fun _ i _ => P.length - (intOf i).toNat)
        case atStart => exact ⟨0, _, Nat.zero_le _, rfl, rfl, HOJ, HP0, HBX, hbw1⟩
        case round =>
          obtain ⟨j, v, hj, rfl, rfl, HO, HP1, HB3, hb3⟩ := hrel
          clear HOJ HP0 HBX hbox hbw1 m3 HW1 hg
          by_cases hjl : j < P.length
          · obtain ⟨pb, po, rfl, hpbl, hpcel⟩ := HPR.out (by omega)
            have hcd := (hb3.cell (p := ⟨pb, po + j, none⟩) hpbl).trans (hpcel j hjl)
            have hdl := hxk.2.2 _ (List.getElem_mem hjl)
            have hsl := hxk.1
            obtain ⟨R, hRR⟩ := HAT.out j hjl
            have HN : Hid ((F0 ++ (P.take (j + 1)).map (mkR (sn, st, sl, P))) = (F0 ++ (P.take j).map (mkR (sn, st, sl, P))) ++ [(sn, st, sl, P[j]'hjl)]) := by
              have h : (F0 ++ (P.take (j + 1)).map (mkR (sn, st, sl, P))) = (F0 ++ (P.take j).map (mkR (sn, st, sl, P))) ++ [(sn, st, sl, P[j]'hjl)] := by rw [List.take_succ_eq_append_getElem hjl, List.map_append, ← List.append_assoc]; rfl
              exact h
            have hRF : flatS L = (F0 ++ (P.take j).map (mkR (sn, st, sl, P))) ++ (sn, st, sl, P[j]'hjl) :: R := hRR
            obtain ⟨d, hd⟩ : ∃ d, d = P[j]'hjl := ⟨_, rfl⟩
            obtain ⟨F, hF⟩ : ∃ F, F = (F0 ++ (P.take j).map (mkR (sn, st, sl, P))) := ⟨_, rfl⟩
            rw [← hd] at hcd hdl HN hRF
            rw [← hF] at HO HP1 HN hRF
            have HFL1 : Hid (F.length + 1 ≤ 1048576) := by
              have h := HFL.out
              rw [hRF, List.length_append, List.length_cons] at h
              show F.length + 1 ≤ 1048576
              omega
            have HBAD1 : Hid (recB sn st sl d = false → rcoB L = false) := fun h => HNO.out (recC_bad1 hRF h)
            have HBAD2 : Hid (∀ A y, F = A ++ [y] → 0 ≤ cmp4 y (sn, st, sl, d) → rcoB L = false) := fun A y h hc => HNO.out (recC_bad2 (by rw [hRF, h]) hc)
            have HFM : Hid (∀ y ∈ F, y.1.length ≤ 1048576 ∧ y.2.2.2.length ≤ 1048576) := fun y hy => HFF.out y (by rw [hRF]; exact List.mem_append_left _ hy)
            obtain ⟨fa, fc, hfv, hfm, hfn⟩ := own4n HO.out
            subst hfv
            unfold maxLen at hfm
            unfold S at hcd
            obtain ⟨q0, q1, q2, q3⟩ := rec4_cells HB3.out
            have HGD : Hid (∀ W, Calls Tryz.prog 20 #[.agg #[.string ⟨sn.toArray⟩, .int .i64 st, .int .i64 sl, .string ⟨d.toArray⟩]] W fun e w' => e = .returned (.bool (recB sn st sl d)) ∧ Below W.heap.size W w') := fun W => HGR.out (sn, st, sl, d) W hsl hdl
            obtain ⟨W4, hW4⟩ : ∃ W4, W4 = wr.alloc (.cells #[.string ⟨sn.toArray⟩, .int .i64 st, .int .i64 sl, .string ⟨d.toArray⟩] 43) := ⟨_, rfl⟩
            have HW4 : Hid (wr.alloc (.cells #[.string ⟨sn.toArray⟩, .int .i64 st, .int .i64 sl, .string ⟨d.toArray⟩] 43) = W4) := hW4.symm
            have hrb : W4.heap[wr.heap.size]? = some (.cells #[.string ⟨sn.toArray⟩, .int .i64 st, .int .i64 sl, .string ⟨d.toArray⟩] 43) := by rw [hW4]; exact blk_new _ _
            have hb34 : Below wr.heap.size wr W4 := by rw [hW4]; exact (Below.refl _ _).alloc (Nat.le_refl _) _
            have HX4 : Hid (∀ W, Below W4.heap.size W4 W → (W.cell? ⟨wr.heap.size, 0, none⟩ = some (.string ⟨sn.toArray⟩) ∧ W.cell? ⟨wr.heap.size, 1, none⟩ = some (.int .i64 st) ∧ W.cell? ⟨wr.heap.size, 2, none⟩ = some (.int .i64 sl) ∧ W.cell? ⟨wr.heap.size, 3, none⟩ = some (.string ⟨d.toArray⟩)) ∧ W.heap[g]? = some (.cells #[.string ⟨sn.toArray⟩, .int .i64 st, .int .i64 sl, .slice (some ⟨pb, po, none⟩) P.length pc] 55) ∧ W.ownsRow w.heap.size 43 4 (.slice fa F.length fc) F.length (rcells F) ∧ Below w.heap.size w W) := fun W hW => by
              have h3W : Below wr.heap.size wr W := hb34.trans (hW.mono hb34.size)
              exact ⟨rec4_cells ((hW.block _ (lt_of_heap hrb)).trans hrb), (h3W.block _ (lt_of_heap HB3.out)).trans HB3.out, own_below HO.out h3W, hb3.trans (h3W.mono hb3.size)⟩
            clear hpcel hd hF hRR hRF hW4 hb34 HO HB3 HAT
            go_wp2_with fail
            rw [HW4.out]
            obtain ⟨⟨m0, m1, m2, m3⟩, _⟩ := HX4.out W4 (Below.refl _ _)
            go_wp2_with fail
            refine (HGD.out _).mono ?_
            rintro e w5 ⟨rfl, hb5⟩
            clear m0 m1 m2 m3 q0 q1 q2 q3 hcd hrb
            obtain ⟨⟨m0, m1, m2, m3⟩, _, _, hbw5⟩ := HX4.out w5 hb5
            have HX : Hid (∀ W, Below w5.heap.size w5 W → (W.cell? ⟨wr.heap.size, 0, none⟩ = some (.string ⟨sn.toArray⟩) ∧ W.cell? ⟨wr.heap.size, 1, none⟩ = some (.int .i64 st) ∧ W.cell? ⟨wr.heap.size, 2, none⟩ = some (.int .i64 sl) ∧ W.cell? ⟨wr.heap.size, 3, none⟩ = some (.string ⟨d.toArray⟩)) ∧ W.heap[g]? = some (.cells #[.string ⟨sn.toArray⟩, .int .i64 st, .int .i64 sl, .slice (some ⟨pb, po, none⟩) P.length pc] 55) ∧ W.ownsRow w.heap.size 43 4 (.slice fa F.length fc) F.length (rcells F) ∧ Below w.heap.size w W) := fun W hW => HX4.out W (hb5.trans (hW.mono hb5.size))
            have HTR : Hid (∀ W W', Below w5.heap.size w5 W → Below W.heap.size W W' → Below w5.heap.size w5 W') := fun W W' h1 h2 => h1.trans (h2.mono h1.size)
            have hbd : Below w5.heap.size w5 w5.drew := (Below.refl _ _).drew
            clear HX4 HGD
            cases hR1 : recB sn st sl d with
            | false =>
              have HR : Hid (rcoB L = false) := HBAD1.out hR1
              go_wp2_with fail
              go_ret2
              exact ⟨⟨_, by rw [HR.out]; rfl, by rw [HXN.out HR.out]; exact rrow_nil _⟩, hbw5⟩
            | true =>
              have HG1 : Hid (recB sn st sl d = true) := hR1
              clear hR1 HBAD1
              rcases List.eq_nil_or_concat F with rfl | ⟨A, y, hAy⟩
              · obtain ⟨cb, hcb⟩ : ∃ cb, cb = false := ⟨_, rfl⟩
                have HCB : Hid (cb = false) := hcb
                clear hcb HBAD2
                go_wp2_with fail
                refine wp_region_quiet (C := fun W => Below w5.heap.size w5 W) (by kernel_rfl) (by kernel_rfl) hbd ?_
                refine wpQuiet_step (fun K hK => ?_)
                rw [if_pos (by rfl)]
                refine ⟨.int .i64 0, fun W hW => quiet_ok ?_, hK _ ?_⟩
                · go_simp
                  all_goals (try omega)
                clear hK K
                simp only [Act.put, List.setIfInBounds_toArray, List.set_cons_succ, List.set_cons_zero]
                refine wpQuiet_step (fun K hK => ?_)
                rw [if_pos (by rfl)]
                refine ⟨.bool cb, fun W hW => quiet_ok ?_, hK _ ?_⟩
                · have hcb := HCB.out
                  go_simp
                  all_goals (try omega)
                clear hK K
                simp only [Act.put, List.setIfInBounds_toArray, List.set_cons_succ, List.set_cons_zero]
                refine wpQuiet_step (fun K hK => ?_)
                rw [if_pos (by rfl)]
                refine ⟨.bool cb, fun W hW => quiet_ok ?_, hK _ ?_⟩
                · have hcb := HCB.out
                  go_simp
                  all_goals (try omega)
                clear hK K
                simp only [Act.put, List.setIfInBounds_toArray, List.set_cons_succ, List.set_cons_zero]
                refine BigFrame.wpQuiet_skip (by show (some cb == some true) = false; rw [HCB.out]; rfl) ?_
                simp only [Act.put, List.setIfInBounds_toArray, List.set_cons_succ, List.set_cons_zero]
                refine BigFrame.wpQuiet_skip (by show (some cb == some true) = false; rw [HCB.out]; rfl) ?_
                simp only [Act.put, List.setIfInBounds_toArray, List.set_cons_succ, List.set_cons_zero]
                refine BigFrame.wpQuiet_skip (by show (some cb == some true) = false; rw [HCB.out]; rfl) ?_
                simp only [Act.put, List.setIfInBounds_toArray, List.set_cons_succ, List.set_cons_zero]
                refine BigFrame.wpQuiet_skip (by show (some cb == some true) = false; rw [HCB.out]; rfl) ?_
                simp only [Act.put, List.setIfInBounds_toArray, List.set_cons_succ, List.set_cons_zero]
                refine BigFrame.wpQuiet_skip (by show (some cb == some true) = false; rw [HCB.out]; rfl) ?_
                simp only [Act.put, List.setIfInBounds_toArray, List.set_cons_succ, List.set_cons_zero]
                refine BigFrame.wpQuiet_skip (by show (some cb == some true) = false; rw [HCB.out]; rfl) ?_
                simp only [Act.put, List.setIfInBounds_toArray, List.set_cons_succ, List.set_cons_zero]
                refine BigFrame.wpQuiet_skip (by show (some cb == some true) = false; rw [HCB.out]; rfl) ?_
                simp only [Act.put, List.setIfInBounds_toArray, List.set_cons_succ, List.set_cons_zero]
                refine BigFrame.wpQuiet_skip (by show (some cb == some true) = false; rw [HCB.out]; rfl) ?_
                simp only [Act.put, List.setIfInBounds_toArray, List.set_cons_succ, List.set_cons_zero]
                have hcb2 := HCB.out
                clear HCB
                subst hcb2
                refine wpQuiet_step (fun K hK => ?_)
                rw [if_pos (by rfl)]
                refine ⟨.bool false, fun W hW => quiet_ok ?_, hK _ ?_⟩
                · have hh := hW
                  go_simp
                  all_goals (try omega)
                clear hK K
                simp only [Act.put, List.setIfInBounds_toArray, List.set_cons_succ, List.set_cons_zero]
                refine wpQuiet_nil ?_
                intro W hW
                have HPN : Hid (POk ([] ++ [(sn, st, sl, d)])) := pok_first HG1.out
                obtain ⟨⟨m0, m1, m2, m3⟩, hsb, how, hbW⟩ := HX.out W hW
                have HOW : Hid (W.ownsRow w.heap.size 43 4 (.slice fa ([] : List (List UInt8 × Int × Int × List UInt8)).length fc) [].length (rcells [])) := how
                have HSB : Hid (W.heap[g]? = some (.cells #[.string ⟨sn.toArray⟩, .int .i64 st, .int .i64 sl, .slice (some ⟨pb, po, none⟩) P.length pc] 55)) := hsb
                have HOF : Hid (∀ q, (Value.ownBlock (.slice fa ([] : List (List UInt8 × Int × Int × List UInt8)).length fc)) = some q → q ≠ g) := rcf_off how hsb (by decide)
                have HLW : Hid (∀ q, (Value.ownBlock (.slice fa ([] : List (List UInt8 × Int × Int × List UInt8)).length fc)) = some q → w.heap.size ≤ q) := fun q hq => (how.lt q hq).1
                clear how
                go_wp2_with (first | (at_builtin; refine wpList_append_rows rfl (.tmp 55) (.tmp 57) 27 rfl Tryz.underlying27 w.heap.size (.slice fa ([] : List (List UInt8 × Int × Int × List UInt8)).length fc) _ [] rfl rfl ?b0 _ [(sn, st, sl, d)] rfl ?b1 ?b2 ?b3 ?b4 ?_))
                case b0 => exact HOW.out.alloc _
                case b1 => exact rrow_one _ (sn, st, sl, d) _ _ (by simp)
                case b2 => intro n c h; cases h
                case b3 => exact HFL1.out
                case b4 => exact Nat.le_trans hbW.size (by simp)
                intro v2 w7 hown hgrow
                have HO7 : Hid (w7.ownsRow w.heap.size 43 4 v2 (F0 ++ (P.take (j + 1)).map (mkR (sn, st, sl, P))).length (rcells (F0 ++ (P.take (j + 1)).map (mkR (sn, st, sl, P))))) := by
                  show w7.ownsRow w.heap.size 43 4 v2 (F0 ++ (P.take (j + 1)).map (mkR (sn, st, sl, P))).length (rcells (F0 ++ (P.take (j + 1)).map (mkR (sn, st, sl, P))))
                  rw [HN.out]; exact hown
                have HP7 : Hid (POk (F0 ++ (P.take (j + 1)).map (mkR (sn, st, sl, P)))) := by
                  show POk (F0 ++ (P.take (j + 1)).map (mkR (sn, st, sl, P)))
                  rw [HN.out]; exact HPN.out
                have hlt7 : g < W.heap.size := lt_of_heap hsb
                have HB7 : Hid (w7.heap[g]? = some (.cells #[.string ⟨sn.toArray⟩, .int .i64 st, .int .i64 sl, .slice (some ⟨pb, po, none⟩) P.length pc] 55)) := by
                  have h1 := hgrow.block g (by simp; omega) (fun e => HOF.out _ e.symm rfl)
                  have h2 : (W.alloc (.cells #[.string ⟨sn.toArray⟩, .int .i64 st, .int .i64 sl, .string ⟨d.toArray⟩] 43)).heap[g]? = W.heap[g]? := ((Below.refl W.heap.size W).alloc (Nat.le_refl _) _).block _ hlt7
                  exact h1.trans (h2.trans hsb)
                have hbw7 : Below w.heap.size w w7 := (hbW.alloc hbW.size _).grown hgrow (by simp; have := hbW.size; omega) (fun q hq => HLW.out q hq)
                clear hown hgrow hsb m0 m1 m2 m3
                go_wp2_with fail
                go_roundw
                case rel => exact ⟨j + 1, v2, by omega, by go_num, rfl, HO7, HP7, HB7, hbw7⟩
                case measure => simp [intOf]; omega
              · rw [List.concat_eq_append] at hAy
                subst hAy
                have hyl := HFM.out y (by simp)
                have hyg : recB y.1 y.2.1 y.2.2.1 y.2.2.2 = true := by
                  have h := HP1.out.1
                  rw [rcf_ares, rcf_ares1, Bool.and_eq_true] at h
                  exact h.2
                have HC3 : Hid (∀ W, Calls Tryz.prog 36 #[.agg #[.string ⟨y.1.toArray⟩, .int .i64 y.2.1, .int .i64 y.2.2.1, .string ⟨y.2.2.2.toArray⟩], .agg #[.string ⟨sn.toArray⟩, .int .i64 st, .int .i64 sl, .string ⟨d.toArray⟩]] W fun e w' => e = .returned (.int .i64 (cmp4 y (sn, st, sl, d))) ∧ Below W.heap.size W w') := fun W => HCM.out y (sn, st, sl, d) W hyl.1 hyl.2 hsl hdl hyg HG1.out
                have HB2 : Hid (0 ≤ cmp4 y (sn, st, sl, d) → rcoB L = false) := HBAD2.out A y rfl
                have HPX : Hid (cmp4 y (sn, st, sl, d) < 0 → POk (A ++ [y] ++ [(sn, st, sl, d)])) := fun h => pok_next HP1.out HG1.out h
                obtain ⟨c, hc⟩ : ∃ c, c = cmp4 y (sn, st, sl, d) := ⟨_, rfl⟩
                rw [← hc] at HC3 HB2 HPX
                obtain ⟨ra, rc, hre, _, _, HRR⟩ := rrow_value (own_q (HX.out w5 (Below.refl _ _)).2.2.1).row
                injection hre with hre1 _ hre3
                subst hre1
                subst hre3
                obtain ⟨gb, go, rfl, hgbl, hgc⟩ := HRR.out (by simp)
                have hgy := hgc A.length (by simp)
                rw [List.getElem_append_right (Nat.le_refl _)] at hgy
                simp only [Nat.sub_self, List.getElem_cons_zero] at hgy
                have HY : Hid (∀ W, Below w5.heap.size w5 W → (W.cell? ⟨wr.heap.size, 0, none⟩ = some (.string ⟨sn.toArray⟩) ∧ W.cell? ⟨wr.heap.size, 1, none⟩ = some (.int .i64 st) ∧ W.cell? ⟨wr.heap.size, 2, none⟩ = some (.int .i64 sl) ∧ W.cell? ⟨wr.heap.size, 3, none⟩ = some (.string ⟨d.toArray⟩)) ∧ (W.cell? ⟨gb, go + A.length * 4, none⟩ = some (.string ⟨y.1.toArray⟩) ∧ W.cell? ⟨gb, go + A.length * 4 + 1, none⟩ = some (.int .i64 y.2.1) ∧ W.cell? ⟨gb, go + A.length * 4 + 2, none⟩ = some (.int .i64 y.2.2.1) ∧ W.cell? ⟨gb, go + A.length * 4 + 3, none⟩ = some (.string ⟨y.2.2.2.toArray⟩))) := fun W hW => ⟨(HX.out W hW).1, hgy.kept hW⟩
                obtain ⟨m, hm⟩ : ∃ m, m = A.length := ⟨_, rfl⟩
                obtain ⟨n1, hn1⟩ : ∃ n1, n1 = (A ++ [y]).length := ⟨_, rfl⟩
                have HN1 : Hid (n1 = (A ++ [y]).length) := hn1
                have hmn : n1 = m + 1 := by rw [hn1, hm]; simp
                have hnl : n1 + 1 ≤ 1048576 := by rw [hn1]; exact HFL1.out
                have wk : IntKind.i64.wrap (m : Int) = (m : Int) := wrap_small _ (by omega) (by omega)
                rw [← hm] at HY
                rw [← hn1]
                clear hc hyg hyl hgc hgy HRR hm hn1 HBAD2
                have e0 : (n1 : Int) - 1 = (m : Int) := by omega
                have hpos : 0 < n1 := by omega
                clear hmn
                go_wp2_with fail
                refine wp_region_quiet (C := fun W => Below w5.heap.size w5 W) (by kernel_rfl) (by kernel_rfl) hbd ?_
                refine wpQuiet_step (fun K hK => ?_)
                rw [if_pos (by rfl)]
                refine ⟨.int .i64 (n1 : Int), fun W hW => quiet_ok ?_, hK _ ?_⟩
                · have q := HY.out W hW
                  obtain ⟨⟨m0, m1, m2, m3⟩, ⟨z0, z1, z2, z3⟩⟩ := q
                  go_simp
                  all_goals (try omega)
                clear hK K
                simp only [Act.put, List.setIfInBounds_toArray, List.set_cons_succ, List.set_cons_zero]
                refine wpQuiet_step (fun K hK => ?_)
                rw [if_pos (by rfl)]
                refine ⟨.bool true, fun W hW => quiet_ok ?_, hK _ ?_⟩
                · have q := HY.out W hW
                  obtain ⟨⟨m0, m1, m2, m3⟩, ⟨z0, z1, z2, z3⟩⟩ := q
                  go_simp
                  all_goals (try omega)
                clear hK K
                simp only [Act.put, List.setIfInBounds_toArray, List.set_cons_succ, List.set_cons_zero]
                refine wpQuiet_step (fun K hK => ?_)
                rw [if_pos (by rfl)]
                refine ⟨.bool true, fun W hW => quiet_ok ?_, hK _ ?_⟩
                · have q := HY.out W hW
                  obtain ⟨⟨m0, m1, m2, m3⟩, ⟨z0, z1, z2, z3⟩⟩ := q
                  go_simp
                  all_goals (try omega)
                clear hK K
                simp only [Act.put, List.setIfInBounds_toArray, List.set_cons_succ, List.set_cons_zero]
                refine wpQuiet_step (fun K hK => ?_)
                rw [if_pos (by rfl)]
                refine ⟨.slice (some ⟨gb, go, none⟩) n1 fc, fun W hW => quiet_ok ?_, hK _ ?_⟩
                · have q := HY.out W hW
                  obtain ⟨⟨m0, m1, m2, m3⟩, ⟨z0, z1, z2, z3⟩⟩ := q
                  go_simp
                  all_goals (try omega)
                clear hK K
                simp only [Act.put, List.setIfInBounds_toArray, List.set_cons_succ, List.set_cons_zero]
                refine wpQuiet_step (fun K hK => ?_)
                rw [if_pos (by rfl)]
                refine ⟨.int .i64 (n1 : Int), fun W hW => quiet_ok ?_, hK _ ?_⟩
                · have q := HY.out W hW
                  obtain ⟨⟨m0, m1, m2, m3⟩, ⟨z0, z1, z2, z3⟩⟩ := q
                  go_simp
                  all_goals (try omega)
                clear hK K
                simp only [Act.put, List.setIfInBounds_toArray, List.set_cons_succ, List.set_cons_zero]
                refine wpQuiet_step (fun K hK => ?_)
                rw [if_pos (by rfl)]
                refine ⟨.int .i64 (m : Int), fun W hW => quiet_ok ?_, hK _ ?_⟩
                · have q := HY.out W hW
                  obtain ⟨⟨m0, m1, m2, m3⟩, ⟨z0, z1, z2, z3⟩⟩ := q
                  go_simp
                  all_goals (try omega)
                clear hK K
                simp only [Act.put, List.setIfInBounds_toArray, List.set_cons_succ, List.set_cons_zero]
                refine wpQuiet_step (fun K hK => ?_)
                rw [if_pos (by rfl)]
                refine ⟨.pointer (some ⟨gb, go + m * 4, none⟩), fun W hW => quiet_ok ?_, hK _ ?_⟩
                · have q := HY.out W hW
                  obtain ⟨⟨m0, m1, m2, m3⟩, ⟨z0, z1, z2, z3⟩⟩ := q
                  go_simp
                  all_goals (try omega)
                clear hK K
                simp only [Act.put, List.setIfInBounds_toArray, List.set_cons_succ, List.set_cons_zero]
                refine wpQuiet_step (fun K hK => ?_)
                rw [if_pos (by rfl)]
                refine ⟨.agg #[.string ⟨y.1.toArray⟩, .int .i64 y.2.1, .int .i64 y.2.2.1, .string ⟨y.2.2.2.toArray⟩], fun W hW => quiet_ok ?_, hK _ ?_⟩
                · have q := HY.out W hW
                  obtain ⟨⟨m0, m1, m2, m3⟩, ⟨z0, z1, z2, z3⟩⟩ := q
                  go_simp
                  all_goals (try omega)
                clear hK K
                simp only [Act.put, List.setIfInBounds_toArray, List.set_cons_succ, List.set_cons_zero]
                refine wpQuiet_step (fun K hK => ?_)
                rw [if_pos (by rfl)]
                refine ⟨.agg #[.string ⟨sn.toArray⟩, .int .i64 st, .int .i64 sl, .string ⟨d.toArray⟩], fun W hW => quiet_ok ?_, hK _ ?_⟩
                · have q := HY.out W hW
                  obtain ⟨⟨m0, m1, m2, m3⟩, ⟨z0, z1, z2, z3⟩⟩ := q
                  go_simp
                  all_goals (try omega)
                clear hK K
                simp only [Act.put, List.setIfInBounds_toArray, List.set_cons_succ, List.set_cons_zero]
                refine wpQuiet_step (fun K hK => ?_)
                rw [if_pos (by rfl)]
                refine ⟨.int .i64 c, fun W hW => quiet_call (f := 36) (args := #[.agg #[.string ⟨y.1.toArray⟩, .int .i64 y.2.1, .int .i64 y.2.2.1, .string ⟨y.2.2.2.toArray⟩], .agg #[.string ⟨sn.toArray⟩, .int .i64 st, .int .i64 sl, .string ⟨d.toArray⟩]]) ?_ ?_, hK _ ?_⟩
                · go_simp
                · exact (HC3.out W).mono fun e w'' h => ⟨h.1, HTR.out _ _ hW h.2⟩
                clear hK K
                simp only [Act.put, List.setIfInBounds_toArray, List.set_cons_succ, List.set_cons_zero]
                refine wpQuiet_step (fun K hK => ?_)
                rw [if_pos (by rfl)]
                refine ⟨.bool (decide (0 ≤ c)), fun W hW => quiet_ok ?_, hK _ ?_⟩
                · have q := HY.out W hW
                  obtain ⟨⟨m0, m1, m2, m3⟩, ⟨z0, z1, z2, z3⟩⟩ := q
                  go_simp
                  all_goals (try omega)
                clear hK K
                simp only [Act.put, List.setIfInBounds_toArray, List.set_cons_succ, List.set_cons_zero]
                refine wpQuiet_step (fun K hK => ?_)
                rw [if_pos (by rfl)]
                refine ⟨.bool (decide (0 ≤ c)), fun W hW => quiet_ok ?_, hK _ ?_⟩
                · have q := HY.out W hW
                  obtain ⟨⟨m0, m1, m2, m3⟩, ⟨z0, z1, z2, z3⟩⟩ := q
                  go_simp
                  all_goals (try omega)
                clear hK K
                simp only [Act.put, List.setIfInBounds_toArray, List.set_cons_succ, List.set_cons_zero]
                refine wpQuiet_nil ?_
                intro W hW
                rw [HN1.out]
                by_cases h2 : 0 ≤ c
                · have HR : Hid (rcoB L = false) := HB2.out h2
                  have hbW := (HX.out W hW).2.2.2
                  go_wp2_with fail
                  go_ret2
                  exact ⟨⟨_, by rw [HR.out]; rfl, by rw [HXN.out HR.out]; exact rrow_nil _⟩, hbW⟩
                · have h3 : c < 0 := by omega
                  have HPN : Hid (POk ((A ++ [y]) ++ [(sn, st, sl, d)])) := HPX.out h3
                  obtain ⟨⟨m0, m1, m2, m3⟩, hsb, how, hbW⟩ := HX.out W hW
                  have HOW : Hid (W.ownsRow w.heap.size 43 4 (.slice (some ⟨gb, go, none⟩) (A ++ [y]).length fc) (A ++ [y]).length (rcells (A ++ [y]))) := how
                  have HSB : Hid (W.heap[g]? = some (.cells #[.string ⟨sn.toArray⟩, .int .i64 st, .int .i64 sl, .slice (some ⟨pb, po, none⟩) P.length pc] 55)) := hsb
                  have HOF : Hid (∀ q, (Value.ownBlock (.slice (some ⟨gb, go, none⟩) (A ++ [y]).length fc)) = some q → q ≠ g) := rcf_off how hsb (by decide)
                  have HLW : Hid (∀ q, (Value.ownBlock (.slice (some ⟨gb, go, none⟩) (A ++ [y]).length fc)) = some q → w.heap.size ≤ q) := fun q hq => (how.lt q hq).1
                  clear how
                  go_wp2_with (first | (at_builtin; refine wpList_append_rows rfl (.tmp 55) (.tmp 57) 27 rfl Tryz.underlying27 w.heap.size (.slice (some ⟨gb, go, none⟩) (A ++ [y]).length fc) _ (A ++ [y]) rfl rfl ?b0 _ [(sn, st, sl, d)] rfl ?b1 ?b2 ?b3 ?b4 ?_))
                  case b0 => (have h := HOW.out.alloc (.cells #[.string ⟨sn.toArray⟩, .int .i64 st, .int .i64 sl, .string ⟨d.toArray⟩] 43); rw [show (A ++ [y]).length = A.length + 1 by simp] at h; exact h)
                  case b1 => exact rrow_one _ (sn, st, sl, d) _ _ (by simp)
                  case b3 => (have h := HFL1.out; rw [show (A ++ [y]).length = A.length + 1 by simp] at h; omega)
                  case b4 => exact Nat.le_trans hbW.size (by simp)
                  intro v2 w7 hown hgrow
                  have HO7 : Hid (w7.ownsRow w.heap.size 43 4 v2 (F0 ++ (P.take (j + 1)).map (mkR (sn, st, sl, P))).length (rcells (F0 ++ (P.take (j + 1)).map (mkR (sn, st, sl, P))))) := by
                    show w7.ownsRow w.heap.size 43 4 v2 (F0 ++ (P.take (j + 1)).map (mkR (sn, st, sl, P))).length (rcells (F0 ++ (P.take (j + 1)).map (mkR (sn, st, sl, P))))
                    rw [HN.out]; (rw [show (A ++ [y] ++ [(sn, st, sl, d)]).length = A.length + 2 by simp, show A ++ [y] ++ [(sn, st, sl, d)] = A ++ [y, (sn, st, sl, d)] by simp]; exact hown)
                  have HP7 : Hid (POk (F0 ++ (P.take (j + 1)).map (mkR (sn, st, sl, P)))) := by
                    show POk (F0 ++ (P.take (j + 1)).map (mkR (sn, st, sl, P)))
                    rw [HN.out]; exact HPN.out
                  have hlt7 : g < W.heap.size := lt_of_heap hsb
                  have HB7 : Hid (w7.heap[g]? = some (.cells #[.string ⟨sn.toArray⟩, .int .i64 st, .int .i64 sl, .slice (some ⟨pb, po, none⟩) P.length pc] 55)) := by
                    have h1 := hgrow.block g (by simp; omega) (fun e => HOF.out _ e.symm rfl)
                    have h2 : (W.alloc (.cells #[.string ⟨sn.toArray⟩, .int .i64 st, .int .i64 sl, .string ⟨d.toArray⟩] 43)).heap[g]? = W.heap[g]? := ((Below.refl W.heap.size W).alloc (Nat.le_refl _) _).block _ hlt7
                    exact h1.trans (h2.trans hsb)
                  have hbw7 : Below w.heap.size w w7 := (hbW.alloc hbW.size _).grown hgrow (by simp; have := hbW.size; omega) (fun q hq => HLW.out q hq)
                  clear hown hgrow hsb m0 m1 m2 m3
                  go_wp2_with fail
                  go_roundw
                  case rel => exact ⟨j + 1, v2, by omega, by go_num, rfl, HO7, HP7, HB7, hbw7⟩
                  case measure => simp [intOf]; omega
          · have HF : Hid ((F0 ++ (P.take j).map (mkR (sn, st, sl, P))) = flatS (L.take (k + 1))) := by
              have h : (F0 ++ (P.take j).map (mkR (sn, st, sl, P))) = flatS (L.take (k + 1)) := by rw [List.take_of_length_le (by omega)]; exact HSN.out.symm
              exact h
            have HOE : Hid (wr.ownsRow w.heap.size 43 4 v (flatS (L.take (k + 1))).length (rcells (flatS (L.take (k + 1))))) := by
              have h := HO.out
              rw [HF.out] at h
              exact h
            have HPE : Hid (POk (flatS (L.take (k + 1))) ∧ ∀ s ∈ L.take (k + 1), s.2.2.2 ≠ []) := by
              have h := HP1.out
              rw [HF.out] at h
              exact ⟨h, HPN0⟩
            clear HF HO HP1
            go_wp2_with fail
            go_roundw
            case rel => exact ⟨k + 1, v, by omega, by go_num, rfl, HOE, HPE, hb3⟩
            case measure => simp [intOf]; omega
    · obtain ⟨hF1, hF2⟩ : (wr.ownsRow w.heap.size 43 4 v (flatS L).length (rcells (flatS L))) ∧ (POk (flatS L) ∧ ∀ s ∈ L, s.2.2.2 ≠ []) := by
        have h1 := HO.out
        have h2 := HP.out
        rw [List.take_of_length_le (by omega)] at h1 h2
        exact ⟨h1, h2⟩
      have HQ : Hid (RRow wr v (flatS L)) := (own_q hF1).row
      have HL3 : Hid (Calls Tryz.prog 22 #[v] wr fun e w' => L3R w' wr.heap.size (grpN (flatS L) (flatS L).length) e ∧ Below wr.heap.size wr w') := l3Sets_any v (flatS L) wr HQ.out HFL.out
      have HYS : Hid (∀ S, grpN (flatS L) (flatS L).length = some S → S.length ≤ 40 → (flatS L).length ≤ 60 → S.length = L.length → rcoB L = true) := fun S h1 h2 h3 h4 => HYES.out ⟨hF2.2, hF2.1.1, hF2.1.2, h3, S, h1, h2, h4⟩
      have HN1 : Hid (grpN (flatS L) (flatS L).length = none → rcoB L = false) := fun h => HNO.out (fun hc => by obtain ⟨S, h5, _⟩ := hc.2.2.2.2; rw [h] at h5; cases h5)
      have HN2 : Hid (∀ S, grpN (flatS L) (flatS L).length = some S → ¬ (S.length ≤ 40 ∧ (flatS L).length ≤ 60 ∧ S.length = L.length) → rcoB L = false) := fun S h hn => HNO.out (fun hc => by
        obtain ⟨S', h5, h6, h7⟩ := hc.2.2.2.2
        rw [h] at h5
        cases h5
        exact hn ⟨h6, hc.2.2.2.1, h7⟩)
      obtain ⟨fa, fc, hfv, hfm, _⟩ := own4n hF1
      subst hfv
      have hfl := HFL.out
      clear HO HP hF1 hF2
      obtain ⟨o, ho⟩ : ∃ o, o = grpN (flatS L) (flatS L).length := ⟨_, rfl⟩
      rw [← ho] at HL3 HYS HN1 HN2
      obtain ⟨n2, hn2⟩ : ∃ n2, n2 = (flatS L).length := ⟨_, rfl⟩
      rw [← hn2] at HL3 HYS HN2 hfl HQ ⊢
      clear ho hn2
      go_wp2_with fail
      refine HL3.out.mono ?_
      rintro e w6 ⟨hl3, hb6⟩
      have hbw6 : Below w.heap.size w w6 := hb.trans (hb6.mono hb.size)
      have HQ6 : Hid (RRow w6 (.slice fa n2 fc) (flatS L)) := HQ.out.kept hb6
      cases o with
      | none =>
        have HR : Hid (rcoB L = false) := HN1.out rfl
        unfold L3R at hl3
        subst hl3
        go_wp2_with fail
        go_ret2
        exact ⟨⟨_, by rw [HR.out]; rfl, by rw [HXN.out HR.out]; exact rrow_nil _⟩, hbw6⟩
      | some S =>
        obtain ⟨u, DS, hDS, rfl, hbld⟩ := hl3
        have hSl : DS.length = S.length := by rw [← hDS, List.length_map]
        obtain ⟨ua, uc, huv, hum, _⟩ := own4n hbld.1
        subst huv
        rw [hSl]
        have HNS := HN2.out S rfl
        have HYY := HYS.out S rfl
        have HNS2 : Hid (¬ (S.length ≤ 40 ∧ n2 ≤ 60 ∧ S.length = L.length) → rcoB L = false) := HNS
        have HYY2 : Hid (S.length ≤ 40 → n2 ≤ 60 → S.length = L.length → rcoB L = true) := HYY
        obtain ⟨sn, hsn⟩ : ∃ sn, sn = S.length := ⟨_, rfl⟩
        rw [← hsn] at HNS2 HYY2 ⊢
        clear HNS HYY hbld hDS hSl hsn
        by_cases g1 : sn ≤ 40
        · have d1 : decide (sn ≤ 40) = true := decide_eq_true g1
          rw [d1]
          by_cases g2 : n2 ≤ 60
          · have d2 : decide ((60 : Int) < (n2 : Int)) = false := decide_eq_false (by omega)
            by_cases g3 : sn = L.length
            · have HR : Hid (rcoB L = true) := HYY2.out g1 g2 g3
              subst g3
              go_wp2_with fail
              go_ret2
              exact ⟨⟨_, by rw [HR.out]; rfl, by rw [HXY.out HR.out]; exact HQ6.out⟩, hbw6⟩
            · have HR : Hid (rcoB L = false) := HNS2.out (fun h => g3 h.2.2)
              have e3 : ((sn : Int) == (L.length : Int)) = false := by simp; omega
              go_wp2_with fail
              go_ret2
              exact ⟨⟨_, by rw [HR.out]; rfl, by rw [HXN.out HR.out]; exact rrow_nil _⟩, hbw6⟩
          · have HR : Hid (rcoB L = false) := HNS2.out (fun h => g2 h.2.1)
            have d2 : decide ((60 : Int) < (n2 : Int)) = true := decide_eq_true (by omega)
            go_wp2_with fail
            go_ret2
            exact ⟨⟨_, by rw [HR.out]; rfl, by rw [HXN.out HR.out]; exact rrow_nil _⟩, hbw6⟩
        · have HR : Hid (rcoB L = false) := HNS2.out (fun h => g1 h.1)
          have d1 : decide (sn ≤ 40) = false := decide_eq_false g1
          rw [d1]
          go_wp2_with fail
          go_ret2
          exact ⟨⟨_, by rw [HR.out]; rfl, by rw [HXN.out HR.out]; exact rrow_nil _⟩, hbw6⟩
end Go.Proofs.YtjocegnhhhfbeaaGreatDoor
