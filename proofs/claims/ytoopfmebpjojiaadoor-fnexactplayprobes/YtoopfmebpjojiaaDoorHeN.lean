import Derived.Test.YtoopfmebpjojiaaDoorHeC
import Derived.Test.YtoopfmebpjojiaaDoorHeT
namespace Go.Proofs.YtoopfmebpjojiaaDoor
open Go.RowKit

/-- Hosts of which nothing is known yet. -/
def newL (P : List (List UInt8)) : List HosT := P.map (fun n => (n, true, 0))
def newB (ri fa : Int) (P : List (List UInt8)) : Bool := inB ri 1 10 && inB fa 1 10 && nmsB P
theorem newL_length (P : List (List UInt8)) : (newL P).length = P.length := by simp [newL]
theorem newL_snoc (P : List (List UInt8)) (k : Nat) (h : k < P.length) : newL (P.take (k + 1)) = newL (P.take k) ++ [(P[k], true, 0)] := by
  unfold newL; rw [List.take_succ_eq_append_getElem h, List.map_append]; rfl
theorem newL_names (P : List (List UInt8)) : nmL (newL P) = P := by unfold nmL newL; rw [List.map_map]; exact List.map_id'' (fun _ => rfl) P
theorem new_good (ri fa : Int) (P : List (List UInt8)) : goodH ri fa (newL P) = newB ri fa P := by
  unfold goodH newB
  rw [newL_names]
  cases h2 : inB fa 1 10 with
  | false => simp
  | true =>
    have : (newL P).all (rowB ri fa) = true := List.all_eq_true.2 fun x hx => by
      obtain ⟨n, _, rfl⟩ := List.mem_map.1 hx
      simp only [inB, Bool.and_eq_true, decide_eq_true_eq] at h2
      simp only [rowB, mostH, inB, if_true, Bool.and_eq_true, decide_eq_true_eq]
      omega
    rw [this]; simp
/-- Health and a bool, told; its hosts in a block of the call's own. -/
def HAns (w' : World) (base : Nat) (ok : Bool) (ri fa : Int) (L : List HosT) (e : Ending) : Prop := ∃ v, e = .returned (.tuple #[HeaV (if ok then ri else 0) (if ok then fa else 0) v, .bool ok]) ∧ OwnH w' base v (if ok then L else [])
theorem kpt_put3h (w : World) (g : Nat) (v0 v1 v2 : Value) : Kpt w (put3h w g v0 v1 v2) (fun k => k = g) := by
  unfold put3h
  exact ((kpt_set (S := fun k => k = g) _ _ _ _ rfl).trans (kpt_set _ _ _ _ rfl)).trans (kpt_set _ _ _ _ rfl)
theorem nms_len {P : List (List UInt8)} (h : nmsB P = true) : 1 ≤ P.length ∧ P.length ≤ 12 := by
  unfold nmsB at h
  simp only [Bool.and_eq_true, inB, decide_eq_true_eq] at h
  omega

set_option maxRecDepth 20000 in
set_option maxHeartbeats 8000000 in
theorem sNewHealth_any (ri fa : Int) (v : Value) (P : List (List UInt8)) (w : World) (hr : Row w v P) (hl : P.length ≤ 1048576) (hx : Hid (∀ x ∈ P, x.length ≤ 1048576)) :
    Calls Tryd.prog 11 #[.int .i64 ri, .int .i64 fa, v] w fun e w' => HAns w' w.heap.size (newB ri fa P) ri fa (newL P) e ∧ Below w.heap.size w w' := by
  have HL : Hid (∀ W, Below w.heap.size w W → Calls Tryd.prog 40 #[v] W fun e w' => e = .returned (.bool (nmsB P)) ∧ Below W.heap.size W w') := fun W hW => l13Names_any v P W (hr.kept hW) hl hx
  have HIN : Hid (∀ n W, Calls Tryd.prog 39 #[.int .i64 n, .int .i64 1, .int .i64 10] W fun e w' => e = .returned (.bool (inB n 1 10)) ∧ w' = W) := fun n W => l1In_any n 1 10 W
  have HOKE : Hid (newB ri fa P = (inB ri 1 10 && inB fa 1 10 && nmsB P)) := rfl
  obtain ⟨ok, hok⟩ : ∃ ok, ok = newB ri fa P := ⟨_, rfl⟩
  rw [← hok] at HOKE ⊢
  unfold HAns HeaV
  obtain ⟨a, cap, rfl, hcap, hmax, HROW⟩ := row_value hr
  clear hr hok
  obtain ⟨W0, hW0⟩ : ∃ W0, W0 = w.alloc (.cells #[.int .i64 0, .int .i64 0, .slice none 0 0] 26) := ⟨_, rfl⟩
  have hb0 : Below w.heap.size w W0 := by rw [hW0]; exact (Below.refl w.heap.size w).alloc (Nat.le_refl _) _
  have HX0 : Hid (∀ W, Below W0.heap.size W0 W → W.heap[w.heap.size]? = some (.cells #[.int .i64 0, .int .i64 0, .slice none 0 0] 26) ∧ Below w.heap.size w W) := fun W hW => by rw [hW0] at hW; exact hst_below hW
  have hz0 : W0.heap.size = w.heap.size + 1 := by rw [hW0]; simp
  have HW0 : Hid (w.alloc (.cells #[.int .i64 0, .int .i64 0, .slice none 0 0] 26) = W0) := hW0.symm
  clear hW0
  have HNO : Hid (∀ W, W.heap[w.heap.size]? = some (.cells #[.int .i64 0, .int .i64 0, .slice none 0 0] 26) → Below w.heap.size w W → Hid (W.heap[w.heap.size]? = some (.cells #[.int .i64 0, .int .i64 0, .slice none 0 0] 26)) ∧ Below w.heap.size w W) := fun W h1 h2 => ⟨h1, h2⟩
  have HA : Hid (∀ W, Calls Tryd.prog 39 #[.int .i64 ri, .int .i64 1, .int .i64 10] W fun e w' => e = .returned (.bool (inB ri 1 10)) ∧ w' = W) := HIN.out ri
  have HB : Hid (∀ W, Calls Tryd.prog 39 #[.int .i64 fa, .int .i64 1, .int .i64 10] W fun e w' => e = .returned (.bool (inB fa 1 10)) ∧ w' = W) := HIN.out fa
  clear HIN
  cases h1 : inB ri 1 10 with
  | false =>
    rw [h1] at HA HOKE
    obtain rfl : ok = false := HOKE.out
    obtain ⟨hx0, _⟩ := HX0.out _ (Below.refl _ _)
    have HXX : Hid (W0.heap[w.heap.size]? = some (.cells #[.int .i64 0, .int .i64 0, .slice none 0 0] 26)) := hx0
    obtain ⟨⟨d0, d1, d2⟩, ⟨z0, z1, z2⟩⟩ := hst_cells hx0
    clear hx0
    go_enter Tryd.func11, Tryd.ntmps11
    go_wp2_with fail
    rw [HW0.out]
    refine (HA.out _).mono ?_
    rintro e w1 ⟨rfl, rfl⟩
    go_wp2_with fail
    (try simp only [Exit.inBlock, Exit.then])
    refine bodyPost_ret (results_hea rfl _ _ w.heap.size 26 #[.int .i64 0, .int .i64 0, .slice none 0 0] (0, 0) _ (.bool false) rfl rfl ?_ Tryd.underlying26 rfl (by kernel_rfl)) rfl ⟨⟨_, rfl, .inl ⟨rfl, rfl⟩⟩, ?_⟩
    · exact put3h_heap HXX.out
    · exact put3h_below hb0 (Nat.le_refl _) _ _ _
  | true =>
    rw [h1] at HA HOKE
    cases h2 : inB fa 1 10 with
    | false =>
      rw [h2] at HB HOKE
      obtain rfl : ok = false := HOKE.out
      obtain ⟨hx0, _⟩ := HX0.out _ (Below.refl _ _)
      have HXX : Hid (W0.heap[w.heap.size]? = some (.cells #[.int .i64 0, .int .i64 0, .slice none 0 0] 26)) := hx0
      obtain ⟨⟨d0, d1, d2⟩, ⟨z0, z1, z2⟩⟩ := hst_cells hx0
      clear hx0
      go_enter Tryd.func11, Tryd.ntmps11
      go_wp2_with fail
      rw [HW0.out]
      refine (HA.out _).mono ?_
      rintro e w1 ⟨rfl, rfl⟩
      go_wp2_with fail
      refine (HB.out _).mono ?_
      rintro e w1 ⟨rfl, rfl⟩
      go_wp2_with fail
      (try simp only [Exit.inBlock, Exit.then])
      refine bodyPost_ret (results_hea rfl _ _ w.heap.size 26 #[.int .i64 0, .int .i64 0, .slice none 0 0] (0, 0) _ (.bool false) rfl rfl ?_ Tryd.underlying26 rfl (by kernel_rfl)) rfl ⟨⟨_, rfl, .inl ⟨rfl, rfl⟩⟩, ?_⟩
      · exact put3h_heap HXX.out
      · exact put3h_below hb0 (Nat.le_refl _) _ _ _
    | true =>
      rw [h2] at HB HOKE
      cases h3 : nmsB P with
      | false =>
        rw [h3] at HL HOKE
        obtain rfl : ok = false := HOKE.out
        go_enter Tryd.func11, Tryd.ntmps11
        go_wp2_with fail
        rw [HW0.out]
        refine (HA.out _).mono ?_
        rintro e w1 ⟨rfl, rfl⟩
        go_wp2_with fail
        refine (HB.out _).mono ?_
        rintro e w1 ⟨rfl, rfl⟩
        go_wp2_with fail
        refine (HL.out _ hb0).mono ?_
        rintro e w1 ⟨rfl, hb1⟩
        obtain ⟨hx0, hbw⟩ := HX0.out _ hb1
        have HXX : Hid (w1.heap[w.heap.size]? = some (.cells #[.int .i64 0, .int .i64 0, .slice none 0 0] 26)) := hx0
        obtain ⟨⟨d0, d1, d2⟩, ⟨z0, z1, z2⟩⟩ := hst_cells hx0
        clear hx0
        go_wp2_with fail
        (try simp only [Exit.inBlock, Exit.then])
        refine bodyPost_ret (results_hea rfl _ _ w.heap.size 26 #[.int .i64 0, .int .i64 0, .slice none 0 0] (0, 0) _ (.bool false) rfl rfl ?_ Tryd.underlying26 rfl (by kernel_rfl)) rfl ⟨⟨_, rfl, .inl ⟨rfl, rfl⟩⟩, ?_⟩
        · exact put3h_heap HXX.out
        · exact put3h_below hbw (Nat.le_refl _) _ _ _
      | true =>
        rw [h3] at HL HOKE
        obtain rfl : ok = true := HOKE.out
        go_enter Tryd.func11, Tryd.ntmps11
        go_wp2_with fail
        rw [HW0.out]
        refine (HA.out _).mono ?_
        rintro e w1 ⟨rfl, rfl⟩
        go_wp2_with fail
        refine (HB.out _).mono ?_
        rintro e w1 ⟨rfl, rfl⟩
        go_wp2_with fail
        refine (HL.out _ hb0).mono ?_
        rintro e w1 ⟨rfl, hb1⟩
        obtain ⟨hx0, hbw⟩ := HX0.out _ hb1
        obtain ⟨W8, hW8⟩ : ∃ W8, W8 = w1.alloc (.cells #[.int .i64 ri, .int .i64 fa, .slice none 0 0] 26) := ⟨_, rfl⟩
        obtain ⟨g8, hg8⟩ : ∃ g8, g8 = w1.heap.size := ⟨_, rfl⟩
        have hbw8 : Below w.heap.size w W8 := by rw [hW8]; exact hbw.alloc hbw.size _
        have HX8 : Hid (W8.heap[g8]? = some (.cells #[.int .i64 ri, .int .i64 fa, .slice none 0 0] 26)) := by rw [hW8, hg8]; exact hst_new _ _
        have HR8 : Hid (W8.heap[w.heap.size]? = some (.cells #[.int .i64 0, .int .i64 0, .slice none 0 0] 26)) := by
          have h : W8.heap[w.heap.size]? = some (.cells #[.int .i64 0, .int .i64 0, .slice none 0 0] 26) := by
            rw [hW8, Below.heap_alloc _ _ _ (by have := hb1.size; omega)]; exact hx0
          exact h
        have hgw : w.heap.size < g8 := by have := hb1.size; omega
        have HW8 : Hid (w1.alloc (.cells #[.int .i64 ri, .int .i64 fa, .slice none 0 0] 26) = W8) := hW8.symm
        clear hx0 hW8 h1 h2 h3 HA HB HL HX0 HNO HOKE
        go_wp2_with fail
        rw [HW8.out, ← hg8]
        clear HW8 hg8 hb1 hbw
        go_loopw [30] (fun i wr => ∃ (k : Nat) (vn : Value), k ≤ P.length ∧ i = .int .i64 (k : Int) ∧ Hid (wr.heap[g8]? = some (.cells #[.int .i64 ri, .int .i64 fa, vn] 26)) ∧ Hid (wr.ownsRow (g8 + 1) 68 3 vn (newL (P.take k)).length (hcells (newL (P.take k)))) ∧ Below g8 W8 wr) (fun i _ => P.length - (intOf i).toNat)
        case atStart => exact ⟨0, _, Nat.zero_le _, rfl, HX8, World.ownsRow_nil _ _ _ _, (Below.refl _ _)⟩
        case round =>
          obtain ⟨k, vn, hk, rfl, HX, HO, hb⟩ := hrel
          have hg8 : g8 < wr.heap.size := (Array.getElem?_eq_some_iff.1 HX.out).1
          by_cases hlt : k < P.length
          · obtain ⟨b, o, ha, hbl, hcel⟩ := HROW.out (by omega)
            have hcx := hcel k hlt
            rw [← hbw8.cell (p := ⟨b, o + k, none⟩) hbl, ← hb.cell (p := ⟨b, o + k, none⟩) (by show b < g8; omega)] at hcx
            have HSN : Hid (newL (P.take (k + 1)) = newL (P.take k) ++ [(P[k]'hlt, true, 0)]) := newL_snoc P k hlt
            have hkl : (newL (P.take k)).length = k := by rw [newL_length, List.length_take]; omega
            obtain ⟨xn, hxn⟩ : ∃ xn, xn = P[k]'hlt := ⟨_, rfl⟩
            rw [← hxn] at hcx HSN
            unfold S at hcx
            obtain ⟨⟨c0, c1, c2⟩, ⟨f0, f1, f2⟩⟩ := hst_cells HX.out
            have HBO : Hid (∀ g, vn.ownBlock = some g → g8 + 1 ≤ g) := fun g hg => (HO.out.lt g hg).1
            rw [ha]
            clear hcel hxn
            go_wp2_with (at_builtin; refine wpList_append_hsts rfl (.tmp 35) (.tmp 38) 24 rfl Tryd.underlying24 (g8 + 1) vn (newL (P.take k)).length (newL (P.take k)) rfl rfl (HO.out.alloc _) (.slice (some ⟨wr.heap.size, 0, none⟩) 1 1) [(xn, true, 0)] rfl (hstrow_one wr (xn, true, 0) _ _ rfl) (fun n c h => by cases h) ?c1 ?c2 ?_)
            case c1 => rw [hkl]; simp only [List.length_cons, List.length_nil]; omega
            case c2 => simp; omega
            intro v4 w4 hown4 hgrow4
            have hv4 : ∃ na nc, v4 = .slice na (k + 1) nc := by
              rcases hown4.2 with ⟨h, h0⟩ | ⟨g, cap, cur, h, _⟩
              · exact ⟨none, 0, by rw [h, h0]⟩
              · exact ⟨_, cap, h⟩
            obtain ⟨a4, p4, hv4⟩ := hv4
            have hk4 := grown_kpt hgrow4
            have hx4 : w4.heap[g8]? = some (.cells #[.int .i64 ri, .int .i64 fa, vn] 26) := (hk4.block g8 (by simp; omega) (fun h => by have := HBO.out _ h; omega)).trans ((((Below.refl wr.heap.size wr).alloc (Nat.le_refl _) _).block g8 hg8).trans HX.out)
            have HX4 : Hid ((w4.setCell ⟨g8, 2, none⟩ v4).heap[g8]? = some (.cells #[.int .i64 ri, .int .i64 fa, v4] 26)) := hst_set2 hx4
            have HO4 : Hid ((w4.setCell ⟨g8, 2, none⟩ v4).ownsRow (g8 + 1) 68 3 v4 (newL (P.take (k + 1))).length (hcells (newL (P.take (k + 1))))) := by
              rw [HSN.out, show (newL (P.take k) ++ [((xn, true, 0) : HosT)]).length = k + 1 by simp [hkl]]; exact ownsRow_setCell_below (a := ⟨g8, 2, none⟩) hown4 (show g8 < g8 + 1 by omega) _
            have hb4 : Below g8 W8 (w4.setCell ⟨g8, 2, none⟩ v4) := (((hb.alloc (Nat.le_of_lt hg8) _).grown hgrow4 (by simp; omega) (fun g e => by have := HBO.out g e; omega)).setCell (p := ⟨g8, 2, none⟩) (Nat.le_refl _) _)
            clear c0 c1 c2 f0 f1 f2
            obtain ⟨⟨c0, c1, c2⟩, ⟨f0, f1, f2⟩⟩ := hst_cells hx4
            subst hv4
            clear hown4 hgrow4 hk4 hx4
            go_wp2_with fail
            go_roundw
            case rel => exact ⟨k + 1, _, by omega, by go_num, HX4, HO4, hb4⟩
            case measure => simp [intOf]; omega
          · have HOH : Hid (OwnH wr (g8 + 1) vn (newL P)) := by
              have h := HO.out
              rw [List.take_of_length_le (by omega)] at h
              exact own_h h
            obtain ⟨⟨c0, c1, c2⟩, _⟩ := hst_cells HX.out
            clear HO
            obtain ⟨na, nc, hva, hnc⟩ := HOH.out.shape
            have HRW : Hid (wr.heap[w.heap.size]? = some (.cells #[.int .i64 0, .int .i64 0, .slice none 0 0] 26)) := (hb.block w.heap.size hgw).trans HR8.out
            have hbw : Below w.heap.size w wr := hbw8.trans (hb.mono (Nat.le_of_lt hgw))
            obtain ⟨⟨d0, d1, d2⟩, ⟨z0, z1, z2⟩⟩ := hst_cells HRW.out
            subst hva
            go_wp2_with fail
            (try simp only [Exit.inBlock, Exit.then])
            refine bodyPost_ret (results_hea rfl _ _ w.heap.size 26 #[.int .i64 ri, .int .i64 fa, .slice na (newL P).length nc] (0, 0) _ (.bool true) rfl rfl ?_ Tryd.underlying26 rfl (by kernel_rfl)) rfl ⟨⟨_, rfl, ?_⟩, ?_⟩
            · exact put3h_heap HRW.out
            · exact OwnH.base (OwnH.kpt HOH.out (kpt_put3h wr w.heap.size _ _ _) (fun g hg e => by have := (HOH.out.lt g hg).1; omega)) (by omega)
            · exact put3h_below hbw (Nat.le_refl _) _ _ _

set_option maxRecDepth 20000 in
set_option maxHeartbeats 8000000 in
theorem iNewHealth_any (ri fa : Int) (v : Value) (P : List (List UInt8)) (w : World) (hr : Row w v P) (hx : Hid (∀ x ∈ P, x.length ≤ 1048576)) (hE : Env w) :
    Calls Tryd.prog 13 #[.int .i64 ri, .int .i64 fa, v] w fun e w' => HAns w' w.heap.size (newB ri fa P) ri fa (newL P) e ∧ Below w.heap.size w w' := by
  have HGO : Hid (∀ vn W, Below w.heap.size w W → HstRow W vn (newL P) → Calls Tryd.prog 22 #[HeaV ri fa vn] W fun e w' => e = .returned (.bool (newB ri fa P)) ∧ Below W.heap.size W w') := fun vn W hW h => by
    have h2 := iGoodHealth_any ri fa vn (newL P) W h (hE.below hW)
    rw [new_good] at h2
    exact h2
  have HLB : Hid (newB ri fa P = true → 1 ≤ P.length ∧ P.length ≤ 12) := fun h => by
    unfold newB at h
    simp only [Bool.and_eq_true] at h
    exact nms_len h.2
  have HCO : Hid (newB ri fa P = true → ∀ vn W, HstRow W vn (newL P) → Calls Tryd.prog 41 #[HeaV ri fa vn] W fun e w' => (∃ g cap, e = .returned (HeaV ri fa (.slice (some ⟨g, 0, none⟩) (newL P).length cap)) ∧ (newL P).length ≤ cap ∧ cap ≤ maxLen ∧ W.heap.size ≤ g ∧ HoRow w' g (newL P)) ∧ Below W.heap.size W w') := fun hg vn W h => by
    have hlb := HLB.out hg
    exact copyHealth_any ri fa vn (newL P) W h (by rw [newL_length]; omega) (by rw [newL_length]; omega) (fun x hxm => by
      obtain ⟨n, hn, rfl⟩ := List.mem_map.1 hxm
      exact hx.out n hn)
  obtain ⟨ok, hok⟩ : ∃ ok, ok = newB ri fa P := ⟨_, rfl⟩
  rw [← hok] at HGO HLB HCO ⊢
  unfold HAns
  unfold HeaV at HGO HCO ⊢
  obtain ⟨a, cap, rfl, hcap, hmax, HROW⟩ := row_value hr
  clear hr hok
  obtain ⟨W0, hW0⟩ : ∃ W0, W0 = w.alloc (.cells #[.int .i64 0, .int .i64 0, .slice none 0 0] 26) := ⟨_, rfl⟩
  have hb0 : Below w.heap.size w W0 := by rw [hW0]; exact (Below.refl w.heap.size w).alloc (Nat.le_refl _) _
  have hz0 : W0.heap.size = w.heap.size + 1 := by rw [hW0]; simp
  have HXX : Hid (W0.heap[w.heap.size]? = some (.cells #[.int .i64 0, .int .i64 0, .slice none 0 0] 26)) := by rw [hW0]; exact hst_new _ _
  have HW0 : Hid (w.alloc (.cells #[.int .i64 0, .int .i64 0, .slice none 0 0] 26) = W0) := hW0.symm
  clear hW0
  by_cases hlong : (12 : Int) < (P.length : Int)
  · have HR : Hid (ok = false) := by
      show ok = false
      cases h : ok with
      | false => rfl
      | true => have := HLB.out h; omega
    obtain rfl : ok = false := HR.out
    obtain ⟨⟨d0, d1, d2⟩, ⟨z0, z1, z2⟩⟩ := hst_cells HXX.out
    go_enter Tryd.func13, Tryd.ntmps13
    go_wp2_with fail
    rw [HW0.out]
    (try simp only [Exit.inBlock, Exit.then])
    refine bodyPost_ret (results_hea rfl _ _ w.heap.size 26 #[.int .i64 0, .int .i64 0, .slice none 0 0] (0, 0) _ (.bool false) rfl rfl ?_ Tryd.underlying26 rfl (by kernel_rfl)) rfl ⟨⟨_, rfl, .inl ⟨rfl, rfl⟩⟩, ?_⟩
    · exact HXX.out
    · exact hb0
  · have hl : P.length ≤ 12 := by omega
    obtain ⟨W8, hW8⟩ : ∃ W8, W8 = W0.alloc (.cells #[.int .i64 ri, .int .i64 fa, .slice none 0 0] 26) := ⟨_, rfl⟩
    obtain ⟨g8, hg8⟩ : ∃ g8, g8 = w.heap.size + 1 := ⟨_, rfl⟩
    have hbw8 : Below w.heap.size w W8 := by rw [hW8]; exact hb0.alloc hb0.size _
    have HX8 : Hid (W8.heap[g8]? = some (.cells #[.int .i64 ri, .int .i64 fa, .slice none 0 0] 26)) := by rw [hW8, hg8, ← hz0]; exact hst_new _ _
    have HR8 : Hid (W8.heap[w.heap.size]? = some (.cells #[.int .i64 0, .int .i64 0, .slice none 0 0] 26)) := by
      have h : W8.heap[w.heap.size]? = some (.cells #[.int .i64 0, .int .i64 0, .slice none 0 0] 26) := by
        rw [hW8, Below.heap_alloc _ _ _ (by omega)]; exact HXX.out
      exact h
    have hgw : w.heap.size < g8 := by omega
    have HW8 : Hid (W0.alloc (.cells #[.int .i64 ri, .int .i64 fa, .slice none 0 0] 26) = W8) := hW8.symm
    have HG8 : Hid (w.heap.size + 1 = g8) := hg8.symm
    clear hW8 hg8
    go_enter Tryd.func13, Tryd.ntmps13
    go_wp2_with fail
    rw [HW0.out, HW8.out, HG8.out]
    clear HW8 HG8 HW0 HXX hb0 hz0
    go_loopw [20] (fun i wr => ∃ (k : Nat) (vn : Value), k ≤ P.length ∧ i = .int .i64 (k : Int) ∧ Hid (wr.heap[g8]? = some (.cells #[.int .i64 ri, .int .i64 fa, vn] 26)) ∧ Hid (wr.ownsRow (g8 + 1) 68 3 vn (newL (P.take k)).length (hcells (newL (P.take k)))) ∧ Below g8 W8 wr) (fun i _ => P.length - (intOf i).toNat)
    case atStart => exact ⟨0, _, Nat.zero_le _, rfl, HX8, World.ownsRow_nil _ _ _ _, (Below.refl _ _)⟩
    case round =>
      obtain ⟨k, vn, hk, rfl, HX, HO, hb⟩ := hrel
      have hg8 : g8 < wr.heap.size := (Array.getElem?_eq_some_iff.1 HX.out).1
      by_cases hlt : k < P.length
      · obtain ⟨b, o, ha, hbl, hcel⟩ := HROW.out (by omega)
        have hcx := hcel k hlt
        rw [← hbw8.cell (p := ⟨b, o + k, none⟩) hbl, ← hb.cell (p := ⟨b, o + k, none⟩) (by show b < g8; omega)] at hcx
        have HSN : Hid (newL (P.take (k + 1)) = newL (P.take k) ++ [(P[k]'hlt, true, 0)]) := newL_snoc P k hlt
        have hkl : (newL (P.take k)).length = k := by rw [newL_length, List.length_take]; omega
        obtain ⟨xn, hxn⟩ : ∃ xn, xn = P[k]'hlt := ⟨_, rfl⟩
        rw [← hxn] at hcx HSN
        unfold S at hcx
        obtain ⟨⟨c0, c1, c2⟩, ⟨f0, f1, f2⟩⟩ := hst_cells HX.out
        have HBO : Hid (∀ g, vn.ownBlock = some g → g8 + 1 ≤ g) := fun g hg => (HO.out.lt g hg).1
        rw [ha]
        clear hcel hxn
        go_wp2_with (at_builtin; refine wpList_append_hsts rfl (.tmp 25) (.tmp 28) 24 rfl Tryd.underlying24 (g8 + 1) vn (newL (P.take k)).length (newL (P.take k)) rfl rfl (HO.out.alloc _) (.slice (some ⟨wr.heap.size, 0, none⟩) 1 1) [(xn, true, 0)] rfl (hstrow_one wr (xn, true, 0) _ _ rfl) (fun n c h => by cases h) ?c1 ?c2 ?_)
        case c1 => rw [hkl]; simp only [List.length_cons, List.length_nil]; omega
        case c2 => simp; omega
        intro v4 w4 hown4 hgrow4
        have hv4 : ∃ na nc, v4 = .slice na (k + 1) nc := by
          rcases hown4.2 with ⟨h, h0⟩ | ⟨g, cap, cur, h, _⟩
          · exact ⟨none, 0, by rw [h, h0]⟩
          · exact ⟨_, cap, h⟩
        obtain ⟨a4, p4, hv4⟩ := hv4
        have hk4 := grown_kpt hgrow4
        have hx4 : w4.heap[g8]? = some (.cells #[.int .i64 ri, .int .i64 fa, vn] 26) := (hk4.block g8 (by simp; omega) (fun h => by have := HBO.out _ h; omega)).trans ((((Below.refl wr.heap.size wr).alloc (Nat.le_refl _) _).block g8 hg8).trans HX.out)
        have HX4 : Hid ((w4.setCell ⟨g8, 2, none⟩ v4).heap[g8]? = some (.cells #[.int .i64 ri, .int .i64 fa, v4] 26)) := hst_set2 hx4
        have HO4 : Hid ((w4.setCell ⟨g8, 2, none⟩ v4).ownsRow (g8 + 1) 68 3 v4 (newL (P.take (k + 1))).length (hcells (newL (P.take (k + 1))))) := by
          rw [HSN.out, show (newL (P.take k) ++ [((xn, true, 0) : HosT)]).length = k + 1 by simp [hkl]]; exact ownsRow_setCell_below (a := ⟨g8, 2, none⟩) hown4 (show g8 < g8 + 1 by omega) _
        have hb4 : Below g8 W8 (w4.setCell ⟨g8, 2, none⟩ v4) := (((hb.alloc (Nat.le_of_lt hg8) _).grown hgrow4 (by simp; omega) (fun g e => by have := HBO.out g e; omega)).setCell (p := ⟨g8, 2, none⟩) (Nat.le_refl _) _)
        clear c0 c1 c2 f0 f1 f2
        obtain ⟨⟨c0, c1, c2⟩, ⟨f0, f1, f2⟩⟩ := hst_cells hx4
        subst hv4
        clear hown4 hgrow4 hk4 hx4
        go_wp2_with fail
        go_roundw
        case rel => exact ⟨k + 1, _, by omega, by go_num, HX4, HO4, hb4⟩
        case measure => simp [intOf]; omega
      · have HOH : Hid (OwnH wr (g8 + 1) vn (newL P)) := by
          have h := HO.out
          rw [List.take_of_length_le (by omega)] at h
          exact own_h h
        obtain ⟨⟨c0, c1, c2⟩, _⟩ := hst_cells HX.out
        clear HO
        obtain ⟨na, nc, hva, hnc⟩ := HOH.out.shape
        have HRW : Hid (wr.heap[w.heap.size]? = some (.cells #[.int .i64 0, .int .i64 0, .slice none 0 0] 26)) := (hb.block w.heap.size hgw).trans HR8.out
        have hbw : Below w.heap.size w wr := hbw8.trans (hb.mono (Nat.le_of_lt hgw))
        have hgws : w.heap.size < wr.heap.size := by omega
        subst hva
        have HGC : Hid (Calls Tryd.prog 22 #[.agg #[.int .i64 ri, .int .i64 fa, .slice na (newL P).length nc]] wr fun e w' => e = .returned (.bool ok) ∧ Below wr.heap.size wr w') := HGO.out _ wr hbw HOH.out.row
        cases ok with
        | false =>
          go_wp2_with fail
          refine HGC.out.mono ?_
          rintro e w2 ⟨rfl, hb2⟩
          have HRW2 : Hid (w2.heap[w.heap.size]? = some (.cells #[.int .i64 0, .int .i64 0, .slice none 0 0] 26)) := (hb2.block w.heap.size hgws).trans HRW.out
          have hbw2 := hbw.trans (hb2.mono hbw.size)
          obtain ⟨⟨d0, d1, d2⟩, ⟨z0, z1, z2⟩⟩ := hst_cells HRW2.out
          go_wp2_with fail
          (try simp only [Exit.inBlock, Exit.then])
          refine bodyPost_ret (results_hea rfl _ _ w.heap.size 26 #[.int .i64 0, .int .i64 0, .slice none 0 0] (0, 0) _ (.bool false) rfl rfl ?_ Tryd.underlying26 rfl (by kernel_rfl)) rfl ⟨⟨_, rfl, .inl ⟨rfl, rfl⟩⟩, ?_⟩
          · exact put3h_heap HRW2.out
          · exact put3h_below hbw2 (Nat.le_refl _) _ _ _
        | true =>
          go_wp2_with fail
          refine HGC.out.mono ?_
          rintro e w2 ⟨rfl, hb2⟩
          have HRW2 : Hid (w2.heap[w.heap.size]? = some (.cells #[.int .i64 0, .int .i64 0, .slice none 0 0] 26)) := (hb2.block w.heap.size hgws).trans HRW.out
          have hbw2 := hbw.trans (hb2.mono hbw.size)
          have HX2 : Hid (w2.heap[g8]? = some (.cells #[.int .i64 ri, .int .i64 fa, .slice na (newL P).length nc] 26)) := (hb2.block g8 hg8).trans HX.out
          have HCC : Hid (Calls Tryd.prog 41 #[.agg #[.int .i64 ri, .int .i64 fa, .slice na (newL P).length nc]] w2 fun e w' => (∃ g cap, e = .returned (.agg #[.int .i64 ri, .int .i64 fa, .slice (some ⟨g, 0, none⟩) (newL P).length cap]) ∧ (newL P).length ≤ cap ∧ cap ≤ maxLen ∧ w2.heap.size ≤ g ∧ HoRow w' g (newL P)) ∧ Below w2.heap.size w2 w') := HCO.out (by trivial) _ w2 (HOH.out.row.kept hb2)
          have hgw2 : w.heap.size < w2.heap.size := Nat.lt_of_lt_of_le hgws hb2.size
          clear c0 c1 c2
          obtain ⟨⟨c0, c1, c2⟩, _⟩ := hst_cells HX2.out
          clear hb2
          go_wp2_with fail
          refine HCC.out.mono ?_
          rintro e w3 ⟨⟨g, cp, rfl, hc1, hc2, hg, hrow⟩, hb3⟩
          have HQ : Hid (HoRow w3 g (newL P)) := hrow
          have HCP : Hid ((newL P).length ≤ cp ∧ cp ≤ maxLen) := ⟨hc1, hc2⟩
          have HRW3 : Hid (w3.heap[w.heap.size]? = some (.cells #[.int .i64 0, .int .i64 0, .slice none 0 0] 26)) := (hb3.block w.heap.size hgw2).trans HRW2.out
          have hbw3 := hbw2.trans (hb3.mono hbw2.size)
          obtain ⟨⟨d0, d1, d2⟩, ⟨z0, z1, z2⟩⟩ := hst_cells HRW3.out
          clear hrow hc1 hc2 hb3
          go_wp2_with fail
          (try simp only [Exit.inBlock, Exit.then])
          refine bodyPost_ret (results_hea rfl _ _ w.heap.size 26 #[.int .i64 ri, .int .i64 fa, .slice (some ⟨g, 0, none⟩) (newL P).length cp] (0, 0) _ (.bool true) rfl rfl ?_ Tryd.underlying26 rfl (by kernel_rfl)) rfl ⟨⟨_, rfl, ?_⟩, ?_⟩
          · exact put3h_heap HRW3.out
          · exact .inr ⟨g, cp, rfl, HCP.out.1, HCP.out.2, by omega, put3h_far HQ.out (by omega)⟩
          · exact put3h_below hbw3 (Nat.le_refl _) _ _ _
end Go.Proofs.YtoopfmebpjojiaaDoor
