import Derived.Test.YtoopfmebpjojiaaDoorHeS
namespace Go.Proofs.YtoopfmebpjojiaaDoor
open Go.RowKit

theorem wrap_64 (n : Int) : IntKind.i64.wrap n = wrap64 n := by rw [IntKind.wrap_i64]; unfold wrap64; rfl

set_option maxRecDepth 20000 in
set_option maxHeartbeats 4000000 in
theorem sGoodHealth_any (ri fa : Int) (v : Value) (L : List HosT) (w : World) (hr : HstRow w v L) (hl : L.length ≤ 1048576) (hx : Hid (∀ x ∈ L, x.1.length ≤ 1048576)) :
    Calls Tryd.prog 20 #[HeaV ri fa v] w fun e w' => e = .returned (.bool (goodH ri fa L)) ∧ Below w.heap.size w w' := by
  obtain ⟨i0, hi, hz0, hz1, hz2⟩ := info_parts info_string
  obtain ⟨good, hgood⟩ : ∃ good, good = goodH ri fa L := ⟨_, rfl⟩
  have HGD : Hid (good = goodH ri fa L) := hgood
  rw [← hgood]
  have HMO : Hid (∀ (x : HosT) W, Calls Tryd.prog 47 #[HeaV ri fa v, .agg #[.string ⟨x.1.toArray⟩, .bool x.2.1, .int .i64 x.2.2]] W fun e w' => e = .returned (.int .i64 (mostH ri fa x.2.1)) ∧ Below W.heap.size W w') := fun x W => l13Most_any ri fa x.2.2 x.2.1 ⟨x.1.toArray⟩ v W (by obtain ⟨a, cap, h, _⟩ := hr; exact ⟨a, _, cap, h⟩)
  have HL : Hid (∀ vn W, Row W vn (nmL L) → Calls Tryd.prog 40 #[vn] W fun e w' => e = .returned (.bool (nmsB (nmL L))) ∧ Below W.heap.size W w') := fun vn W h => l13Names_any vn (nmL L) W h (by rw [nmL_length]; exact hl) (fun x hxm => by
    obtain ⟨y, hy, rfl⟩ := List.mem_map.1 hxm
    exact hx.out y hy)
  have HIN : Hid (∀ n W, Calls Tryd.prog 39 #[.int .i64 n, .int .i64 1, .int .i64 10] W fun e w' => e = .returned (.bool (inB n 1 10)) ∧ w' = W) := fun n W => l1In_any n 1 10 W
  have HIR : Hid (∀ n q W, Calls Tryd.prog 39 #[.int .i64 n, .int .i64 0, .int .i64 q] W fun e w' => e = .returned (.bool (inB n 0 q)) ∧ w' = W) := fun n q W => l1In_any n 0 q W
  unfold HeaV at HMO ⊢
  obtain ⟨a, cap, rfl, hcap, hmax, HROW⟩ := hst_value hr
  obtain ⟨W0, hW0⟩ : ∃ W0, W0 = w.alloc (.cells #[.int .i64 ri, .int .i64 fa, .slice a L.length cap] 26) := ⟨_, rfl⟩
  have HX : Hid (∀ W, Below W0.heap.size W0 W → (W.cell? ⟨w.heap.size, 0, none⟩ = some (.int .i64 ri) ∧ W.cell? ⟨w.heap.size, 1, none⟩ = some (.int .i64 fa) ∧ W.cell? ⟨w.heap.size, 2, none⟩ = some (.slice a L.length cap)) ∧ Below w.heap.size w W) := fun W hW => by rw [hW0] at hW; exact hea_cells hW
  have HW0 : Hid (w.alloc (.cells #[.int .i64 ri, .int .i64 fa, .slice a L.length cap] 26) = W0) := hW0.symm
  clear hgood hr hW0 hx
  go_enter Tryd.func20, Tryd.ntmps20
  go_wp2_with fail
  rw [HW0.out]
  clear HW0
  go_loopw [3, 9] (fun nv i wr => ∃ (k : Nat) (vn : Value), k ≤ L.length ∧ i = .int .i64 (k : Int) ∧ vn = nv ∧ Hid (wr.ownsRow W0.heap.size 9 1 vn (nmL (L.take k)).length ((nmL (L.take k)).map S)) ∧ Hid (∀ j, (hj : j < L.length) → j < k → rowW ri fa L[j] = true) ∧ Below W0.heap.size W0 wr) (fun _ i _ => L.length - (intOf i).toNat)
  case atStart => exact ⟨0, _, Nat.zero_le _, rfl, rfl, World.ownsRow_nil _ _ _ _, fun j _ h => absurd h (Nat.not_lt_zero _), Below.refl _ _⟩
  case round =>
    obtain ⟨k, vn, hk, rfl, rfl, HO, HK, hb⟩ := hrel
    by_cases hlt : k < L.length
    · obtain ⟨b, o, ha, hbl, hcel⟩ := HROW.out (by omega)
      have hcx := (hcel k hlt).kept (HX.out _ hb).2
      unfold HstAt at hcx
      obtain ⟨c0, c1, c2⟩ := hcx
      have HSN : Hid (nmL (L.take (k + 1)) = nmL (L.take k) ++ [(L[k]'hlt).1]) := nmL_snoc L k hlt
      have hkl : (nmL (L.take k)).length = k := by rw [nmL_length, List.length_take]; omega
      have HRW : Hid (rowW ri fa (L[k]'hlt) = inB (L[k]'hlt).2.2 0 (wrap64 (mostH ri fa (L[k]'hlt).2.1 - 1))) := rfl
      have HBAD : Hid (rowW ri fa (L[k]'hlt) = false → false = good) := fun h => by rw [HGD.out]; exact (good_roww hlt h).symm
      have HUP : Hid (rowW ri fa (L[k]'hlt) = true → ∀ j, (hj : j < L.length) → j < k + 1 → rowW ri fa L[j] = true) := fun h j hj h1 => by
        rcases Nat.lt_or_ge j k with h' | h'
        · exact HK.out j hj h'
        · obtain rfl : j = k := by omega
          exact h
      have HMX := HMO.out (L[k]'hlt)
      obtain ⟨x, hxe⟩ : ∃ x, x = L[k]'hlt := ⟨_, rfl⟩
      rw [← hxe] at c0 c1 c2 HSN HRW HBAD HUP HMX
      obtain ⟨xn, u, r⟩ := x
      simp only at c0 c1 c2 HSN HRW HMX
      obtain ⟨m, hm⟩ : ∃ m, m = mostH ri fa u := ⟨_, rfl⟩
      rw [← hm] at HRW HMX
      obtain ⟨q, hq⟩ : ∃ q, IntKind.i64.wrap (m - 1) = q := ⟨_, rfl⟩
      rw [← wrap_64, hq] at HRW
      have HIQ := HIR.out r q
      obtain ⟨ok, hok⟩ : ∃ ok, ok = rowW ri fa (xn, u, r) := ⟨_, rfl⟩
      rw [← HRW.out, ← hok] at HIQ
      rw [← hok] at HBAD HUP
      obtain ⟨W1, hW1⟩ : ∃ W1, W1 = wr.alloc (.cells #[.string ⟨xn.toArray⟩, .bool u, .int .i64 r] 68) := ⟨_, rfl⟩
      have hb01 : Below W0.heap.size W0 W1 := by rw [hW1]; exact hb.alloc hb.size _
      have HX1 : Hid (∀ W, Below W1.heap.size W1 W → (W.cell? ⟨wr.heap.size, 0, none⟩ = some (.string ⟨xn.toArray⟩) ∧ W.cell? ⟨wr.heap.size, 1, none⟩ = some (.bool u) ∧ W.cell? ⟨wr.heap.size, 2, none⟩ = some (.int .i64 r)) ∧ (W.cell? ⟨w.heap.size, 0, none⟩ = some (.int .i64 ri) ∧ W.cell? ⟨w.heap.size, 1, none⟩ = some (.int .i64 fa) ∧ W.cell? ⟨w.heap.size, 2, none⟩ = some (.slice a L.length cap))) := fun W hW => ⟨by rw [hW1] at hW; exact (hea_cells hW).1, (HX.out W (hb01.trans (hW.mono hb01.size))).1⟩
      have HO1 : Hid (W1.ownsRow W0.heap.size 9 1 vn (nmL (L.take k)).length ((nmL (L.take k)).map S)) := by rw [hW1]; exact HO.out.alloc _
      have HMC : Hid (∀ W, Calls Tryd.prog 47 #[.agg #[.int .i64 ri, .int .i64 fa, .slice a L.length cap], .agg #[.string ⟨xn.toArray⟩, .bool u, .int .i64 r]] W fun e w' => e = .returned (.int .i64 m) ∧ Below W.heap.size W w') := HMX
      have HIC : Hid (∀ W, Calls Tryd.prog 39 #[.int .i64 r, .int .i64 0, .int .i64 q] W fun e w' => e = .returned (.bool ok) ∧ w' = W) := HIQ
      have HTR : Hid (∀ W W', Below W1.heap.size W1 W → Below W.heap.size W W' → Below W1.heap.size W1 W') := fun W W' h1 h2 => h1.trans (h2.mono h1.size)
      have HW1 : Hid (wr.alloc (.cells #[.string ⟨xn.toArray⟩, .bool u, .int .i64 r] 68) = W1) := hW1.symm
      have hbd : Below W1.heap.size W1 W1.drew := (Below.refl _ _).drew
      rw [ha]
      rw [ha] at HX1 HMC
      clear hcel hxe hm hok HRW HMX HIQ hW1
      go_wp2_with fail
      rw [HW1.out]
      clear c0 c1 c2
      refine wp_region_quiet (C := fun W => Below W1.heap.size W1 W) (by kernel_rfl) (by kernel_rfl) hbd ?_
      refine wpQuiet_step (fun K hK => ?_)
      rw [if_pos (by rfl)]
      refine ⟨.pointer (some ⟨wr.heap.size, 2, none⟩), fun W hW => quiet_ok ?_, hK _ ?_⟩
      · have z := HX1.out W hW
        obtain ⟨⟨m0, m1, m2⟩, ⟨z0, z1, z2⟩⟩ := z
        go_simp
        all_goals (try omega)
      clear hK K
      simp only [Act.put, List.setIfInBounds_toArray, List.set_cons_succ, List.set_cons_zero]
      refine wpQuiet_step (fun K hK => ?_)
      rw [if_pos (by rfl)]
      refine ⟨.int .i64 r, fun W hW => quiet_ok ?_, hK _ ?_⟩
      · have z := HX1.out W hW
        obtain ⟨⟨m0, m1, m2⟩, ⟨z0, z1, z2⟩⟩ := z
        go_simp
        all_goals (try omega)
      clear hK K
      simp only [Act.put, List.setIfInBounds_toArray, List.set_cons_succ, List.set_cons_zero]
      refine wpQuiet_step (fun K hK => ?_)
      rw [if_pos (by rfl)]
      refine ⟨.agg #[.int .i64 ri, .int .i64 fa, .slice (some ⟨b, o, none⟩) L.length cap], fun W hW => quiet_ok ?_, hK _ ?_⟩
      · have z := HX1.out W hW
        obtain ⟨⟨m0, m1, m2⟩, ⟨z0, z1, z2⟩⟩ := z
        go_simp
        all_goals (try omega)
      clear hK K
      simp only [Act.put, List.setIfInBounds_toArray, List.set_cons_succ, List.set_cons_zero]
      refine wpQuiet_step (fun K hK => ?_)
      rw [if_pos (by rfl)]
      refine ⟨.agg #[.string ⟨xn.toArray⟩, .bool u, .int .i64 r], fun W hW => quiet_ok ?_, hK _ ?_⟩
      · have z := HX1.out W hW
        obtain ⟨⟨m0, m1, m2⟩, ⟨z0, z1, z2⟩⟩ := z
        go_simp
        all_goals (try omega)
      clear hK K
      simp only [Act.put, List.setIfInBounds_toArray, List.set_cons_succ, List.set_cons_zero]
      refine wpQuiet_step (fun K hK => ?_)
      rw [if_pos (by rfl)]
      refine ⟨.int .i64 m, fun W hW => quiet_call (f := 47) (args := #[.agg #[.int .i64 ri, .int .i64 fa, .slice (some ⟨b, o, none⟩) L.length cap], .agg #[.string ⟨xn.toArray⟩, .bool u, .int .i64 r]]) ?_ ?_, hK _ ?_⟩
      · go_simp
      · exact (HMC.out W).mono fun e w'' h => ⟨h.1, HTR.out _ _ hW h.2⟩
      clear hK K
      simp only [Act.put, List.setIfInBounds_toArray, List.set_cons_succ, List.set_cons_zero]
      refine wpQuiet_step (fun K hK => ?_)
      rw [if_pos (by rfl)]
      refine ⟨.int .i64 q, fun W hW => quiet_ok ?_, hK _ ?_⟩
      · have z := HX1.out W hW
        obtain ⟨⟨m0, m1, m2⟩, ⟨z0, z1, z2⟩⟩ := z
        go_simp
        all_goals (try omega)
      clear hK K
      simp only [Act.put, List.setIfInBounds_toArray, List.set_cons_succ, List.set_cons_zero]
      refine wpQuiet_step (fun K hK => ?_)
      rw [if_pos (by rfl)]
      refine ⟨.bool ok, fun W hW => quiet_call (f := 39) (args := #[.int .i64 r, .int .i64 0, .int .i64 q]) ?_ ?_, hK _ ?_⟩
      · go_simp
      · exact (HIC.out W).mono fun e w'' h => ⟨h.1, by rw [h.2]; exact hW⟩
      clear hK K
      simp only [Act.put, List.setIfInBounds_toArray, List.set_cons_succ, List.set_cons_zero]
      refine wpQuiet_step (fun K hK => ?_)
      rw [if_pos (by rfl)]
      refine ⟨.bool (!ok), fun W hW => quiet_ok ?_, hK _ ?_⟩
      · have z := HX1.out W hW
        obtain ⟨⟨m0, m1, m2⟩, ⟨z0, z1, z2⟩⟩ := z
        go_simp
        all_goals (try omega)
      clear hK K
      simp only [Act.put, List.setIfInBounds_toArray, List.set_cons_succ, List.set_cons_zero]
      refine wpQuiet_nil ?_
      intro W hW
      have hbW0 := hb01.trans (hW.mono hb01.size)
      have hbW := (HX.out W hbW0).2
      obtain ⟨⟨m0, m1, m2⟩, _⟩ := HX1.out W hW
      have hownW : W.ownsRow W0.heap.size 9 1 vn (nmL (L.take k)).length ((nmL (L.take k)).map S) := own_below HO1.out hW
      have hzW := hbW0.size
      clear hW hb01 HX1 HO1 HMC HIC HTR hbd HO HK
      cases ok with
      | false =>
        have HR : Hid (false = good) := HBAD.out rfl
        go_wp2_with fail
        go_ret
        exact ⟨ret_bool HR.out, hbW⟩
      | true =>
        have HN : Hid (∀ j, (hj : j < L.length) → j < k + 1 → rowW ri fa L[j] = true) := HUP.out rfl
        clear HBAD HUP
        go_wp2_with (at_builtin; refine wpList_append_own _ rfl (.tmp 21) (.tmp 24) 22 rfl W0.heap.size 9 i0 (.string ByteArray.empty) 1 16 Tryd.underlying22 hi hz0 hz1 hz2 rfl (by decide) _ _ _ rfl (hownW.alloc _) ⟨W.heap.size, 0, none⟩ 1 1 [.string ⟨xn.toArray⟩] rfl rfl ?c1 ?c2 ?c3 ?c4 ?c5 ?_)
        case c1 => exact cell_new_one W (.string ⟨xn.toArray⟩) 9
        case c2 => exact one_string _
        case c3 => unfold maxLen; omega
        case c4 => omega
        case c5 => simp; omega
        intro v4 w4 hown4 hgrow4 _
        have hb4 := below_append hbW0 hownW hgrow4
        have HO4 : Hid (w4.ownsRow W0.heap.size 9 1 v4 (nmL (L.take (k + 1))).length ((nmL (L.take (k + 1))).map S)) := by
          show w4.ownsRow W0.heap.size 9 1 v4 (nmL (L.take (k + 1))).length ((nmL (L.take (k + 1))).map S)
          rw [HSN.out, List.length_append, List.map_append, hkl]
          exact hown4
        clear hownW hown4 hgrow4
        go_wp2_with fail
        go_roundw
        case rel => exact ⟨k + 1, _, by omega, by go_num, rfl, HO4, HN, hb4⟩
        case measure => simp [intOf]; omega
    · have HRW : Hid (Row wr vn (nmL L)) := by
        have h := HO.out
        rw [List.take_of_length_le (by omega)] at h
        exact row_own h
      have HE : Hid (good = (inB ri 1 10 && inB fa 1 10 && nmsB (nmL L))) := by show good = _; rw [HGD.out]; exact good_rows (fun j hj => HK.out j hj (by omega))
      obtain ⟨⟨d0, d1, d2⟩, hbw⟩ := HX.out _ hb
      have HA : Hid (∀ W, Calls Tryd.prog 39 #[.int .i64 ri, .int .i64 1, .int .i64 10] W fun e w' => e = .returned (.bool (inB ri 1 10)) ∧ w' = W) := HIN.out ri
      have HB : Hid (∀ W, Calls Tryd.prog 39 #[.int .i64 fa, .int .i64 1, .int .i64 10] W fun e w' => e = .returned (.bool (inB fa 1 10)) ∧ w' = W) := HIN.out fa
      have HN : Hid (Calls Tryd.prog 40 #[vn] wr fun e w' => e = .returned (.bool (nmsB (nmL L))) ∧ Below wr.heap.size wr w') := HL.out vn wr HRW.out
      obtain ⟨na, nc, hne, _⟩ := row_value HRW.out
      subst hne
      clear HO HK HGD HIN HIR HL HMO
      cases h1 : inB ri 1 10 with
      | false =>
        rw [h1] at HA HE
        have HR : Hid (false = good) := HE.out.symm
        go_wp2_with fail
        refine (HA.out _).mono ?_
        rintro e w1 ⟨rfl, rfl⟩
        go_wp2_with fail
        go_ret
        exact ⟨ret_bool HR.out, hbw⟩
      | true =>
        rw [h1] at HA HE
        cases h2 : inB fa 1 10 with
        | false =>
          rw [h2] at HB HE
          have HR : Hid (false = good) := HE.out.symm
          go_wp2_with fail
          refine (HA.out _).mono ?_
          rintro e w1 ⟨rfl, rfl⟩
          go_wp2_with fail
          refine (HB.out _).mono ?_
          rintro e w1 ⟨rfl, rfl⟩
          go_wp2_with fail
          go_ret
          exact ⟨ret_bool HR.out, hbw⟩
        | true =>
          rw [h2] at HB HE
          have HR : Hid (nmsB (nmL L) = good) := HE.out.symm
          go_wp2_with fail
          refine (HA.out _).mono ?_
          rintro e w1 ⟨rfl, rfl⟩
          go_wp2_with fail
          refine (HB.out _).mono ?_
          rintro e w1 ⟨rfl, rfl⟩
          go_wp2_with fail
          refine HN.out.mono ?_
          rintro e w3 ⟨rfl, hb3⟩
          have hbw3 := hbw.trans (hb3.mono hbw.size)
          go_wp2_with fail
          go_ret
          exact ⟨ret_bool HR.out, hbw3⟩
end Go.Proofs.YtoopfmebpjojiaaDoor
