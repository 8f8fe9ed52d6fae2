import Derived.Test.YtgfiahfoghnpkaaGreatDoorZ42
import Derived.Test.YtgfiahfoghnpkaaGreatDoorZ44
import Derived.Test.YtgfiahfoghnpkaaGreatDoorZ47
namespace Go.Proofs.YtgfiahfoghnpkaaGreatDoor
open Go.RowKit Go.Maps

theorem own_rows {w : World} {base c : Nat} {a : Option Addr} {M : List (EV × RecL)} (h : w.ownsRow base 44 6 (.slice a M.length c) M.length (ecells (M.map (·.1)))) :
    M.length ≤ c ∧ c ≤ 9223372036854775807 ∧ Hid (0 < M.length → ∃ b o, a = some ⟨b, o, none⟩ ∧ b < w.heap.size ∧ ∀ j, (hj : j < M.length) → Ent6 w b (o + j * 6) (M[j]'hj).1) := by
  have h' : w.ownsRow base 44 6 (.slice a M.length c) (M.map (·.1)).length (ecells (M.map (·.1))) := by rw [List.length_map]; exact h
  rcases own_e h' with ⟨h1, h2⟩ | ⟨g, cap, h1, h2, h3, _, h5⟩
  · obtain rfl : M = [] := List.map_eq_nil_iff.1 h2
    injection h1 with e1 e2 e3
    subst e3
    exact ⟨Nat.le_refl _, by omega, fun h => (by cases h)⟩
  · injection h1 with e1 e2 e3
    subst e1 e3
    rw [List.length_map] at h2
    refine ⟨h2, by unfold maxLen at h3; omega, fun _ => ⟨g, 0, rfl, h5.1, fun j hj => ?_⟩⟩
    have h := (h5.2 j (by rw [List.length_map]; exact hj)).1
    rw [Nat.zero_add]
    rw [List.getElem_map] at h
    exact h
theorem filt_len (p : EntT → Bool) (L : List EntT) : ((L.length : Int) - ((L.filter (fun x => !p x)).length : Int)) = ((L.filter p).length : Int) := by
  induction L with
  | nil => rfl
  | cons x L ih =>
    cases hp : p x <;> simp [hp] <;> omega

set_option maxRecDepth 20000 in
set_option maxHeartbeats 6000000 in
theorem sDropBelow_any (now : Int) (v : Value) (L : List EntT) (nm : ByteArray) (w : World) (hr : ERow w v L) (hx : Hid (∀ x ∈ L, EBig x)) (hn : nm.size ≤ 1048576) (hnil : Hid (∀ E : List EV, EVRow w v E → ∀ e ∈ E, ∀ n c, e.sl = .slice none n c → c = 0)) :
    Calls Tryz.prog 28 #[CchV now v, .string nm] w fun e w' => CAns w' w.heap.size e (nameB nm.data.toList && goodC now L) now (L.filter (fun x => !belowB x.1 nm.data.toList)) ((L.filter (fun x => belowB x.1 nm.data.toList)).length : Int) ∧ Below w.heap.size w w' := by
  have HG : Hid (∀ W, Below w.heap.size w W → Calls Tryz.prog 32 #[CchV now v] W fun e w' => e = .returned (.bool (goodC now L)) ∧ Below W.heap.size W w') := fun W hW => sGoodCache_any now v L W (hr.kept hW) hx
  have HNM : Hid (∀ W, Calls Tryz.prog 47 #[.string nm] W fun e w' => e = .returned (.bool (nameB nm.data.toList)) ∧ Below W.heap.size W w') := fun W => sGoodName_any nm W (by omega)
  have HOWN : Hid (goodC now L = true → L.length ≤ 20 ∧ ∀ W, Below w.heap.size w W → Calls Tryz.prog 35 #[CchV now v] W fun e w' => ∃ v' M, e = .returned (CchV now v') ∧ EBld w' W.heap.size v' M ∧ M.map conT = L ∧ Below W.heap.size W w') := fun hg => by
    obtain ⟨E, hEr, hEm, hEok, hEk, hEn, hEs, hEl, hErc⟩ := good_ev hr hx.out hg
    refine ⟨by rw [← hEm, List.length_map]; exact hEl, fun W hW => ?_⟩
    have hEr' : EVRow W v E := by
      obtain ⟨a', cap', hv, q1, q2, q3⟩ := hEr
      refine ⟨a', cap', hv, q1, q2, fun h0 => ?_⟩
      obtain ⟨b, o, ha, hbl, hc⟩ := q3 h0
      exact ⟨b, o, ha, Nat.lt_of_lt_of_le hbl hW.size, fun j hj => (hc j hj).kept hW hbl⟩
    refine (l10Own_any now v E (rcOf L) W hEr' (by omega) (fun e he => ⟨(hErc e he).1.kept hW, (hErc e he).2.1, hnil.out E hEr e he⟩)).mono ?_
    rintro e w' ⟨v', M, rfl, h1, h2, h3⟩
    exact ⟨v', M, rfl, h1, h2.trans hEm, h3⟩
  obtain ⟨a, cap, rfl, hcap, hmax, _⟩ := erow_value hr
  unfold CchV at HG HOWN ⊢
  obtain ⟨W0, hW0⟩ : ∃ W0, W0 = (w.alloc (.cells #[.int .i64 now, .slice a L.length cap] 30)).alloc (.cells #[.int .i64 0, .slice none 0 0] 30) := ⟨_, rfl⟩
  have HW0 : Hid ((w.alloc (.cells #[.int .i64 now, .slice a L.length cap] 30)).alloc (.cells #[.int .i64 0, .slice none 0 0] 30) = W0) := hW0.symm
  have hs1 : (w.alloc (.cells #[.int .i64 now, .slice a L.length cap] 30)).heap.size = w.heap.size + 1 := by simp
  have HC0 : Hid (CBox W0 w.heap.size (.int .i64 now) (.slice a L.length cap)) := by rw [hW0]; exact (cbox_new w).kpt (kpt_alloc _ _ (fun _ => False)) id
  have HR0 : Hid (CBox W0 (w.heap.size + 1) (.int .i64 0) (.slice none 0 0)) := by
    rw [hW0]
    have h := cbox_new (w.alloc (.cells #[.int .i64 now, .slice a L.length cap] 30)) (v0 := .int .i64 0) (v1 := .slice none 0 0)
    rw [hs1] at h
    exact h
  have hb0 : Below w.heap.size w W0 := by rw [hW0]; exact ((Below.refl _ _).alloc (Nat.le_refl _) _).alloc (by simp) _
  have hz0 : w.heap.size + 1 < W0.heap.size := HR0.out.lt
  clear hW0 hs1 hr hnil
  obtain ⟨nb, hnb⟩ : ∃ nb, nb = nameB nm.data.toList := ⟨_, rfl⟩
  obtain ⟨gb, hgb⟩ : ∃ gb, gb = goodC now L := ⟨_, rfl⟩
  rw [← hnb] at HNM ⊢
  rw [← hgb] at HG HOWN ⊢
  clear hnb hgb
  go_enter Tryz.func28, Tryz.ntmps28
  obtain ⟨c0, c1⟩ := HC0.out.cells
  go_wp2_with fail
  rw [HW0.out]
  clear c0 c1
  refine (HG.out _ hb0).mono ?_
  rintro e w1 ⟨rfl, hb1⟩
  have hbw1 : Below w.heap.size w w1 := hb0.trans (hb1.mono hb0.size)
  have HC1 : Hid (CBox w1 w.heap.size (.int .i64 now) (.slice a L.length cap)) := HC0.out.kept hb1
  have HR1 : Hid (CBox w1 (w.heap.size + 1) (.int .i64 0) (.slice none 0 0)) := HR0.out.kept hb1
  have hz1 : W0.heap.size ≤ w1.heap.size := hb1.size
  clear hb1 HC0 HR0 HG hb0
  cases gb with
  | false =>
    clear HNM HOWN
    obtain ⟨d0, d1⟩ := HR1.out.cells
    obtain ⟨f0, f1⟩ := HR1.out.free
    go_wp2_with fail
    (try simp only [Exit.inBlock, Exit.then])
    refine bodyPost_ret (results_row_tmp2 rfl _ _ (w.heap.size + 1) 30 #[.int .i64 0, .slice none 0 0] (0, 0) _ (.int .i64 0) (.bool false) rfl rfl rfl ((HR1.out.set0 _).set1 _) Tryz.underlying30 rfl (by kernel_rfl)) rfl ⟨cans_no (by simp), (hbw1.setCell (p := ⟨w.heap.size + 1, 0, none⟩) (by show _ ≤ w.heap.size + 1; omega) _).setCell (p := ⟨w.heap.size + 1, 1, none⟩) (by show _ ≤ w.heap.size + 1; omega) _⟩
  | true =>
    obtain ⟨hl20, hown⟩ := HOWN.out rfl
    have HOW : Hid (∀ W, Below w.heap.size w W → Calls Tryz.prog 35 #[.agg #[.int .i64 now, .slice a L.length cap]] W fun e w' => ∃ v' M, e = .returned (.agg #[.int .i64 now, v']) ∧ EBld w' W.heap.size v' M ∧ M.map conT = L ∧ Below W.heap.size W w') := hown
    clear hown HOWN
    go_wp2_with fail
    refine (HNM.out _).mono ?_
    rintro e w2 ⟨rfl, hb2⟩
    have hbw2 : Below w.heap.size w w2 := hbw1.trans (hb2.mono hbw1.size)
    have HC2 : Hid (CBox w2 w.heap.size (.int .i64 now) (.slice a L.length cap)) := HC1.out.kept hb2
    have HR2 : Hid (CBox w2 (w.heap.size + 1) (.int .i64 0) (.slice none 0 0)) := HR1.out.kept hb2
    have hz2 : w1.heap.size ≤ w2.heap.size := hb2.size
    clear hb2 HC1 HR1 hbw1 HNM
    cases nb with
    | false =>
      obtain ⟨d0, d1⟩ := HR2.out.cells
      obtain ⟨f0, f1⟩ := HR2.out.free
      go_wp2_with fail
      (try simp only [Exit.inBlock, Exit.then])
      refine bodyPost_ret (results_row_tmp2 rfl _ _ (w.heap.size + 1) 30 #[.int .i64 0, .slice none 0 0] (0, 0) _ (.int .i64 0) (.bool false) rfl rfl rfl ((HR2.out.set0 _).set1 _) Tryz.underlying30 rfl (by kernel_rfl)) rfl ⟨cans_no (by simp), (hbw2.setCell (p := ⟨w.heap.size + 1, 0, none⟩) (by show _ ≤ w.heap.size + 1; omega) _).setCell (p := ⟨w.heap.size + 1, 1, none⟩) (by show _ ≤ w.heap.size + 1; omega) _⟩
    | true =>
      obtain ⟨c0, c1⟩ := HC2.out.cells
      go_wp2_with fail
      clear c0 c1
      refine (HOW.out _ hbw2).mono ?_
      rintro e w3 ⟨v3, M0, rfl, hB3, hm3, hb3⟩
      have hbw3 : Below w.heap.size w w3 := hbw2.trans (hb3.mono hbw2.size)
      have HC3 : Hid (CBox w3 w.heap.size (.int .i64 now) (.slice a L.length cap)) := HC2.out.kept hb3
      have HR3 : Hid (CBox w3 (w.heap.size + 1) (.int .i64 0) (.slice none 0 0)) := HR2.out.kept hb3
      have HM0 : Hid (M0.map conT = L) := hm3
      have HLL : Hid (M0.length = L.length) := by show _ = _; rw [← hm3, List.length_map]
      have hM20 : M0.length ≤ 20 := by have := HLL.out; omega
      obtain ⟨a3, cp3, hv⟩ := own6_slice hB3.row
      subst hv
      obtain ⟨hcap3, hmax3, _⟩ := own_rows hB3.row
      have hz3 : w2.heap.size ≤ w3.heap.size := hb3.size
      obtain ⟨W4, hW4⟩ : ∃ W4, W4 = (w3.setCell ⟨w.heap.size, 0, none⟩ (.int .i64 now)).setCell ⟨w.heap.size, 1, none⟩ (.slice a3 M0.length cp3) := ⟨_, rfl⟩
      have HW4 : Hid ((w3.setCell ⟨w.heap.size, 0, none⟩ (.int .i64 now)).setCell ⟨w.heap.size, 1, none⟩ (.slice a3 M0.length cp3) = W4) := hW4.symm
      have hk4 : Kpt w3 W4 (· = w.heap.size) := by rw [hW4]; exact (kpt_set w3 w.heap.size 0 _ (S := (· = w.heap.size)) rfl).trans (kpt_set _ w.heap.size 1 _ rfl)
      have HC4 : Hid (CBox W4 w.heap.size (.int .i64 now) (.slice a3 M0.length cp3)) := by rw [hW4]; exact (HC3.out.set0 _).set1 _
      have HR4 : Hid (CBox W4 (w.heap.size + 1) (.int .i64 0) (.slice none 0 0)) := HR3.out.kpt hk4 (by omega)
      have HB4 : Hid (EBld W4 w2.heap.size (.slice a3 M0.length cp3) M0) := hB3.kpt hk4 (fun g hg _ h => by omega)
      have HROW : Hid (0 < M0.length → ∃ b o, a3 = some ⟨b, o, none⟩ ∧ b < W4.heap.size ∧ ∀ j, (hj : j < M0.length) → Ent6 W4 b (o + j * 6) (M0[j]'hj).1) := (own_rows HB4.out.row).2.2
      have hbw4 : Below w.heap.size w W4 := hbw3.trans (hk4.below hbw3.size (fun k hk h => by omega))
      have hz4 : w3.heap.size ≤ W4.heap.size := hk4.size
      obtain ⟨c0, c1⟩ := HC3.out.cells
      obtain ⟨e0, e1⟩ := HC3.out.free
      clear hW4 hk4 hm3 hB3 hb3 HC2 HR2 HR3 HOW
      go_wp2_with fail
      rw [HW4.out]
      clear c0 c1 e0 e1 HC3 HW4
      obtain ⟨i0, hi, hzi0, hz1', hz2'⟩ := info_parts info_ev
      obtain ⟨c0, c1⟩ := HC4.out.cells
      go_wp2_with fail
      clear c0 c1
      go_loopw [7, 25] (fun u i wr => ∃ (k : Nat) (M : List (EV × RecL)), k ≤ M0.length ∧ i = .int .i64 (k : Int) ∧ Hid (EBld wr w2.heap.size u M) ∧ Hid (M = (M0.take k).filter (fun p => !belowB p.1.nm.data.toList nm.data.toList)) ∧ Hid (∀ g, u.ownBlock = some g → W4.heap.size ≤ g) ∧ Hid (Kpt W4 wr (fun j => W4.heap.size ≤ j))) (fun _ i _ => M0.length - (intOf i).toNat)
      case atStart => exact ⟨0, [], Nat.zero_le _, rfl, EBld.nil _ _, (by show _ = _; simp), fun g hg => (by cases hg), Kpt.refl _ _⟩
      case round =>
        obtain ⟨k, M, hk, rfl, HB, HMT, HU, HK⟩ := hrel
        have hwr : W4.heap.size ≤ wr.heap.size := HK.out.size
        have HBW : Hid (Below W4.heap.size W4 wr) := HK.out.below (Nat.le_refl _) (fun j hj h => by omega)
        have hML : M.length ≤ 20 := by rw [HMT.out]; exact Nat.le_trans (List.length_filter_le _ _) (by rw [List.length_take]; omega)
        obtain ⟨av, cv, hv⟩ := own6_slice HB.out.row
        subst hv
        by_cases hlt : k < M0.length
        · obtain ⟨bq, oq, ha, hbl, hcel⟩ := HROW.out (by omega)
          subst ha
          have hcx := hcel k hlt
          have HXQ : Hid ((M0.take (k + 1)).filter (fun p => !belowB p.1.nm.data.toList nm.data.toList) = (M0.take k).filter (fun p => !belowB p.1.nm.data.toList nm.data.toList) ++ [M0[k]'hlt].filter (fun p => !belowB p.1.nm.data.toList nm.data.toList)) := by show _ = _; rw [List.take_succ_eq_append_getElem hlt, List.filter_append]
          have HOR : Hid (OwnQ wr w2.heap.size (M0[k]'hlt).1.sl (M0[k]'hlt).2 ∧ (∀ p ∈ M, ∀ g, p.1.sl.ownBlock = some g → (M0[k]'hlt).1.sl.ownBlock ≠ some g) ∧ ∀ g, (M0[k]'hlt).1.sl.ownBlock = some g → g < W4.heap.size) := by
            refine ⟨(HB4.out.recs _ (List.getElem_mem hlt)).kept HBW.out, fun p hp g hg => ?_, fun g hg => ((HB4.out.recs _ (List.getElem_mem hlt)).lt g hg).2⟩
            rw [HMT.out] at hp
            obtain ⟨i, hi1, hi2⟩ := List.mem_iff_getElem.1 (List.mem_filter.1 hp).1
            rw [List.length_take] at hi1
            rw [List.getElem_take] at hi2
            subst hi2
            exact List.pairwise_iff_getElem.1 HB4.out.apart i k (by omega) hlt (by omega) g hg
          have hsz : (M0[k]'hlt).1.nm.size ≤ 1048576 := by
            have h := (hx.out (conT (M0[k]'hlt)) (by rw [← HM0.out]; exact List.mem_map.2 ⟨_, List.getElem_mem hlt, rfl⟩)).1
            unfold conT at h
            simpa using h
          obtain ⟨y, hy⟩ : ∃ y, y = M0[k]'hlt := ⟨_, rfl⟩
          rw [← hy] at hcx HXQ HOR hsz
          obtain ⟨x, R⟩ := y
          obtain ⟨c0, c1, c2, c3, c4, c5⟩ := hcx.kept HBW.out hbl
          have hbr : bq < wr.heap.size := Nat.lt_of_lt_of_le hbl HBW.out.size
          have HBL : Hid (∀ W, Calls Tryz.prog 58 #[.string x.nm, .string nm] W fun e w' => e = .returned (.bool (belowB x.nm.data.toList nm.data.toList)) ∧ w' = W) := fun W => l1Below_any x.nm nm W (by simp only at hsz; omega) (by omega)
          obtain ⟨bb, hbb⟩ : ∃ bb, bb = belowB x.nm.data.toList nm.data.toList := ⟨_, rfl⟩
          rw [← hbb] at HBL
          have HX1 : Hid (bb = belowB x.nm.data.toList nm.data.toList) := hbb
          have hb2 : Below wr.heap.size wr (wr.alloc (.cells #[.string x.nm, .int .i64 x.ty, .bool x.no, .slice x.a x.n x.c, .int .i64 x.un, .int .i64 x.us] 44)) := (Below.refl _ _).alloc (Nat.le_refl _) _
          have HB2 : Hid (EBld (wr.alloc (.cells #[.string x.nm, .int .i64 x.ty, .bool x.no, .slice x.a x.n x.c, .int .i64 x.un, .int .i64 x.us] 44)) w2.heap.size (.slice av M.length cv) M) := HB.out.kept hb2
          have HK2 : Hid (Kpt W4 (wr.alloc (.cells #[.string x.nm, .int .i64 x.ty, .bool x.no, .slice x.a x.n x.c, .int .i64 x.un, .int .i64 x.us] 44)) (fun j => W4.heap.size ≤ j)) := HK.out.trans (kpt_alloc _ _ _)
          clear hcel hcx hy hbb hsz
          go_wp2_with fail
          clear c0 c1 c2 c3 c4 c5
          refine (HBL.out _).mono ?_
          rintro e w3' ⟨rfl, rfl⟩
          clear HBL
          cases bb with
          | true =>
            have HM9 : Hid (M = (M0.take (k + 1)).filter (fun p => !belowB p.1.nm.data.toList nm.data.toList)) := by
              show _ = _
              rw [HXQ.out, ← HMT.out, List.filter_cons_of_neg (by simp [← HX1.out]), List.filter_nil, List.append_nil]
            clear hb2
            go_wp2_with fail
            go_roundw
            case rel => exact ⟨k + 1, _, by omega, by go_num, HB2, HM9, HU, HK2⟩
            case measure => simp [intOf]; omega
          | false =>
            have HM9 : Hid (M ++ [(x, R)] = (M0.take (k + 1)).filter (fun p => !belowB p.1.nm.data.toList nm.data.toList)) := by
              show _ = _
              rw [HXQ.out, ← HMT.out, List.filter_cons_of_pos (by simp [← HX1.out]), List.filter_nil]
            obtain ⟨w5, hw5⟩ : ∃ w5, w5 = wr.alloc (.cells #[.string x.nm, .int .i64 x.ty, .bool x.no, .slice x.a x.n x.c, .int .i64 x.un, .int .i64 x.us] 44) := ⟨_, rfl⟩
            have hbox : w5.heap[wr.heap.size]? = some (.cells #[.string x.nm, .int .i64 x.ty, .bool x.no, .slice x.a x.n x.c, .int .i64 x.un, .int .i64 x.us] 44) := by rw [hw5]; exact (MapKept.heap_alloc wr _).1
            have HZ5 : Hid (w5.heap.size = wr.heap.size + 1) := by show _ = _; rw [hw5]; simp
            have hz5 : wr.heap.size < w5.heap.size := by have := HZ5.out; omega
            rw [← hw5] at HB2 HK2 ⊢
            have HB5 : Hid (EBld (w5.alloc (.cells #[.string x.nm, .int .i64 x.ty, .bool x.no, .slice x.a x.n x.c, .int .i64 x.un, .int .i64 x.us] 44)) w2.heap.size (.slice av M.length cv) M) := HB2.out.kept ((Below.refl _ _).alloc (Nat.le_refl _) _)
            have HO5 : Hid (OwnQ (w5.alloc (.cells #[.string x.nm, .int .i64 x.ty, .bool x.no, .slice x.a x.n x.c, .int .i64 x.un, .int .i64 x.us] 44)) w2.heap.size x.sl R) := HOR.out.1.kept (((by rw [hw5]; exact hb2) : Below wr.heap.size wr w5).alloc (by omega) _)
            have HK5 : Hid (Kpt W4 (w5.alloc (.cells #[.string x.nm, .int .i64 x.ty, .bool x.no, .slice x.a x.n x.c, .int .i64 x.un, .int .i64 x.us] 44)) (fun j => W4.heap.size ≤ j)) := HK2.out.trans (kpt_alloc _ _ _)
            have hrow5 := HB5.out.row
            have hz6 : w2.heap.size ≤ (w5.alloc (.cells #[.string x.nm, .int .i64 x.ty, .bool x.no, .slice x.a x.n x.c, .int .i64 x.un, .int .i64 x.us] 44)).heap.size := Nat.le_trans (by omega) HK5.out.size
            obtain ⟨c0, c1, c2, c3, c4, c5⟩ := box6 hbox
            clear hb2 hw5 HB2 HK2 hbox HZ5
            go_wp2_with (first | (at_builtin; refine wpList_append_own_at _ rfl (.tmp 34) (.tmp 36) 28 rfl w2.heap.size 44 i0 _ 6 72 Tryz.underlying28 hi hzi0 hz1' hz2' rfl (by decide) _ _ _ rfl hrow5 ⟨w5.heap.size, 0, none⟩ 1 1 [.string x.nm, .int .i64 x.ty, .bool x.no, .slice x.a x.n x.c, .int .i64 x.un, .int .i64 x.us] rfl rfl (cell_kept6 w5 x) (one_cells6 x) ?e1 ?e2 ?e3 ?_))
            case e1 => unfold maxLen; omega
            case e2 => omega
            case e3 => exact hz6
            intro v8 w8 hown8 hgrow8 _ hat8
            have hk8 : Kpt (w5.alloc (.cells #[.string x.nm, .int .i64 x.ty, .bool x.no, .slice x.a x.n x.c, .int .i64 x.un, .int .i64 x.us] 44)) w8 (fun j => (Value.slice av M.length cv).ownBlock = some j) := grown_kpt hgrow8
            have HB8 : Hid (EBld w8 w2.heap.size v8 (M ++ [(x, R)])) := HB5.out.add HO5.out HOR.out.2.1 (fun g hg h => by have h1 := HU.out g h; have h2 := HOR.out.2.2 g hg; omega) hown8 hk8 (hat8.imp id (fun h g hg => by rw [h] at hg; rw [← Option.some.inj hg]; simp))
            have HK8 : Hid (Kpt W4 w8 (fun j => W4.heap.size ≤ j)) := HK5.out.trans (hk8.mono (fun j _ h => HU.out j h))
            have HU8 : Hid (∀ g, v8.ownBlock = some g → W4.heap.size ≤ g) := fun g hg => by
              rcases hat8 with h | h
              · rw [h] at hg; exact HU.out g hg
              · rw [h] at hg
                have e := Option.some.inj hg
                omega
            obtain ⟨a8, c8, hv8⟩ := own6_slice hown8
            subst hv8
            clear hown8 hgrow8 hat8 hk8 hrow5 HB5 HO5 HK5 hz6 c0 c1 c2 c3 c4 c5
            go_wp2_with fail
            go_roundw
            case rel => exact ⟨k + 1, _, by omega, by go_num, HB8, HM9, HU8, HK8⟩
            case measure => simp [intOf]; omega
        · have hkl : k = M0.length := by omega
          have HMF : Hid (M.map conT = L.filter (fun x => !belowB x.1 nm.data.toList)) := by
            have h := HMT.out
            rw [hkl, List.take_length] at h
            show _ = _
            rw [h, ← HM0.out, List.filter_map]
            rfl
          have HLN : Hid ((M0.length : Int) - (M.length : Int) = ((L.filter (fun x => belowB x.1 nm.data.toList)).length : Int)) := by
            show _ = _
            rw [← filt_len, ← HMF.out, List.length_map, HLL.out]
          have HCr : Hid (CBox wr w.heap.size (.int .i64 now) (.slice a3 M0.length cp3)) := HC4.out.kpt HK.out (by omega)
          have HRr : Hid (CBox wr (w.heap.size + 1) (.int .i64 0) (.slice none 0 0)) := HR4.out.kpt HK.out (by omega)
          obtain ⟨c0, c1⟩ := HCr.out.cells
          obtain ⟨e0, e1⟩ := HCr.out.free
          obtain ⟨d0, d1⟩ := HRr.out.cells
          obtain ⟨f0, f1⟩ := HRr.out.free
          have hne1 : ¬ w.heap.size = w.heap.size + 1 := by omega
          have hne2 : ¬ w.heap.size + 1 = w.heap.size := by omega
          have HBZ : Hid (Below w.heap.size w wr) := hbw4.trans (HBW.out.mono hbw4.size)
          clear hkl HMT
          go_wp2_with fail
          (try simp only [Exit.inBlock, Exit.then])
          have hk1 : Kpt wr (wr.setCell ⟨w.heap.size, 1, none⟩ (.slice av M.length cv)) (· = w.heap.size) := kpt_set wr w.heap.size 1 _ rfl
          have hk2 : Kpt (wr.setCell ⟨w.heap.size, 1, none⟩ (.slice av M.length cv)) (((wr.setCell ⟨w.heap.size, 1, none⟩ (.slice av M.length cv)).setCell ⟨w.heap.size + 1, 0, none⟩ (.int .i64 now)).setCell ⟨w.heap.size + 1, 1, none⟩ (.slice av M.length cv)) (· = w.heap.size + 1) := (kpt_set _ (w.heap.size + 1) 0 _ (S := (· = w.heap.size + 1)) rfl).trans (kpt_set _ (w.heap.size + 1) 1 _ rfl)
          have hE6 := (HB.out.kpt hk1 (fun g hg _ h => by omega)).kpt hk2 (fun g hg _ h => by omega)
          refine bodyPost_ret (results_row_tmp2 rfl _ _ (w.heap.size + 1) 30 #[.int .i64 now, .slice av M.length cv] (0, 0) _ (.int .i64 ((M0.length : Int) - (M.length : Int))) (.bool true) rfl rfl rfl (((HRr.out.kpt hk1 (by omega)).set0 _).set1 _) Tryz.underlying30 rfl (by kernel_rfl)) rfl ⟨?_, (HBZ.out.trans (hk1.below HBZ.out.size (fun j hj h => by omega))).trans (hk2.below (by have := HBZ.out.size; simpa using this) (fun j hj h => by omega))⟩
          rw [← HLN.out]
          exact cans_yes (by rfl) ⟨own_base hE6.row (by omega), fun p hp => (hE6.recs p hp).base (by omega), hE6.apart, hE6.off⟩ HMF.out
end Go.Proofs.YtgfiahfoghnpkaaGreatDoor
