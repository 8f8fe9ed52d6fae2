import Derived.Test.YtoanloballaclaaGreatDoorZ44
import Derived.Test.YtoanloballaclaaGreatDoorZ33
namespace Go.Proofs.YtoanloballaclaaGreatDoor
open Go.RowKit

theorem cellsL_idx {L : List ColT} {j : Nat} {u : Value} (h : (cellsL L)[j]? = some u) : ∃ k, ∃ hk : k < L.length, (j = k * 2 ∧ u = .int .i64 (L[k]).1) ∨ (j = k * 2 + 1 ∧ u = .int .i64 (L[k]).2) := by
  have hj : j < (cellsL L).length := (List.getElem?_eq_some_iff.1 h).1
  rw [cellsL_length] at hj
  have hk : j / 2 < L.length := by omega
  obtain ⟨h1, h2⟩ := cellsL_get L (j / 2) hk
  refine ⟨j / 2, hk, ?_⟩
  by_cases e : j % 2 = 0
  · left
    have e2 : j = j / 2 * 2 := by omega
    refine ⟨e2, ?_⟩
    rw [e2] at h
    rw [h1] at h
    exact (Option.some.inj h).symm
  · right
    have e2 : j = j / 2 * 2 + 1 := by omega
    refine ⟨e2, ?_⟩
    rw [e2] at h
    rw [h2] at h
    exact (Option.some.inj h).symm
theorem src_cols {W : World} {b o : Nat} {L : List ColT} (hc : ∀ j, (hj : j < L.length) → ColAt W b (o + j * 2) L[j]) : ∀ j u, (cellsL L)[j]? = some u → W.cell? ((⟨b, o, none⟩ : Addr).add j) = some u := fun j u h => by
  rw [add_0T]
  obtain ⟨k, hk, h1 | h1⟩ := cellsL_idx h
  · rw [h1.1, h1.2]; exact (hc k hk).1
  · rw [h1.1, h1.2]; exact (hc k hk).2
theorem cols_one (L : List ColT) : ∀ u ∈ cellsL L, u.oneCell' = true := fun u hu => by
  unfold cellsL at hu
  rw [List.mem_flatMap] at hu
  obtain ⟨c, _, hc⟩ := hu
  simp only [List.mem_cons, List.not_mem_nil, or_false] at hc
  rcases hc with rfl | rfl <;> rfl
theorem co_of_own {w : World} {base : Nat} {v : Value} {L : List ColT} (hp : 0 < L.length) (h : w.ownsRow base 116 2 v L.length (cellsL L)) : ∃ t cap, v = .slice (some ⟨t, 0, none⟩) L.length cap ∧ L.length ≤ cap ∧ cap ≤ maxLen ∧ base ≤ t ∧ CoRow w t L := by
  have h0 := h
  obtain ⟨_, ⟨_, hn⟩ | ⟨g, cap, cur, rfl, hg, _, h1, h2, _, _⟩⟩ := h
  · omega
  · refine ⟨g, cap, rfl, h1, h2, hg, (h0.lt g rfl).2, fun j hj => ⟨⟨?_, ?_⟩, ⟨h0.frozenAt _, h0.frozenAt _⟩⟩⟩
    · rw [h0.cellAt (j * 2) (by omega)]; exact (cellsL_get L j hj).1
    · rw [h0.cellAt (j * 2 + 1) (by omega)]; exact (cellsL_get L j hj).2
theorem own_emptyC (w : World) (e : TypeId) (size : Nat) : (w.alloc (.cells #[] e)).ownsRow w.heap.size e size (.slice (some ⟨w.heap.size, 0, none⟩) 0 0) 0 [] :=
  ⟨by simp, .inr ⟨w.heap.size, 0, #[], rfl, Nat.le_refl _, trn_new _ _, Nat.le_refl _, Nat.zero_le _, by simp, by simp⟩⟩
set_option maxRecDepth 20000 in
set_option maxHeartbeats 1000000 in
theorem cloneC_any (v : Value) (L : List ColT) (w : World) (hr : ColRow w v L) (hl : L.length ≤ 1048576) (hp : 0 < L.length) :
    Calls Tryz.prog 100 #[v] w fun e w' => ∃ t cap, e = .returned (.slice (some ⟨t, 0, none⟩) L.length cap) ∧ L.length ≤ cap ∧ cap ≤ maxLen ∧ w.heap.size ≤ t ∧ CoRow w' t L ∧ Below w.heap.size w w' := by
  obtain ⟨i0, hi, hz0, hz1, hz2⟩ := info_parts info_col
  obtain ⟨a, cap, rfl, hcap, hmax, HROW⟩ := col_value hr
  obtain ⟨b, o, ha, hbl, hc⟩ := HROW.out hp
  subst ha
  clear HROW hr
  have hb0 : Below w.heap.size w (w.alloc (.cells #[] 116)) := (Below.refl _ _).alloc (Nat.le_refl _) _
  have hc2 := src_cols (W := w.alloc (.cells #[] 116)) (b := b) (o := o) (L := L) (fun j hj => (hc j hj).kept hb0)
  have hnil : ∀ W : World, Sem.run Tryz.prog (binOp .eql 80 (.slice (some ⟨b, o, none⟩) L.length cap) (.slice none 0 0)) W = .ok (.bool false) W := fun W => by rfl
  have HP : Hid (0 < L.length) := hp
  have hcl := cellsL_length L
  clear hc hp
  go_enter Tryz.func100, Tryz.ntmps100
  go_wp2_with (at_builtin; refine wpList_append_own _ rfl (.tmp 5) (.tmp 6) 80 rfl w.heap.size 116 i0 (.agg #[.int .i64 0, .int .i64 0]) 2 16 Tryz.underlying80 hi hz0 hz1 hz2 rfl (by decide) _ _ _ rfl (own_emptyC w 116 2) ⟨b, o, none⟩ L.length cap (cellsL L) rfl hcl hc2 (cols_one L) ?d3 ?d4 ?d5 ?_)
  case d3 => unfold maxLen; omega
  case d4 => omega
  case d5 => simp
  intro v2 w2 hown2 hgrow2 _
  obtain ⟨t, cp, rfl, g1, g2, g3, g4⟩ := co_of_own HP.out (by simpa using hown2)
  have hb2 : Below w.heap.size w w2 := hb0.grown hgrow2 hb0.size (fun k e => by cases e; exact Nat.le_refl _)
  have HZ : Hid (CoRow w2 t L) := g4
  clear hown2 hgrow2 hc2 g4 hcl
  go_wp2_with fail
  go_ret
  exact ⟨t, cp, rfl, g1, g2, g3, HZ.out, hb2⟩
end Go.Proofs.YtoanloballaclaaGreatDoor

namespace Go.Proofs.YtoanloballaclaaGreatDoor
open Go.RowKit

theorem box_fresh (w : World) : BoxR (w.alloc (.cells #[.int .i64 0, .int .i64 0, .int .i64 0, .int .i64 0, .int .i64 0, .int .i64 0, .int .i64 0, .int .i64 0, .int .i64 0, .int .i64 0, .int .i64 0, .int .i64 0, .int .i64 0, .int .i64 0, .int .i64 0, .int .i64 0, .int .i64 0, .int .i64 0, .int .i64 0, .int .i64 0, .int .i64 0, .int .i64 0, .int .i64 0, .int .i64 0] 131)) w.heap.size (List.replicate 12 (0, 0)) := trn_new _ _
theorem fresh_below (w : World) (x : Obj) : Below w.heap.size w (w.alloc x) := (Below.refl _ _).alloc (Nat.le_refl _) _
theorem BoxR.front {w : World} {b : Nat} {T : Int} {R : List ColT} (h : BoxR w b (extR T R)) (hl : R.length ≤ 12) : CoRow w b R :=
  ⟨h.lt, fun j hj => by
    have h1 := h.corow.2 j (by rw [extR_length hl]; omega)
    have e : (extR T R)[j]'(by rw [extR_length hl]; omega) = R[j] := by rw [← cgetD, extR_lo hj, cgetD hj]
    rw [e] at h1; exact h1⟩
theorem BoxR.rowOf {w : World} {b : Nat} {T : Int} {R : List ColT} (h : BoxR w b (extR T R)) (hl : R.length ≤ 12) : ColRow w (.slice (some ⟨b, 0, none⟩) R.length 12) R :=
  (h.front hl).row hl (by unfold maxLen; omega)

set_option maxRecDepth 20000 in
set_option maxHeartbeats 8000000 in
theorem iAliasOf_any (v : Value) (A : List Int) (w : World) (hr : ZRow .i64 w v A) (hl : A.length ≤ 1048576) :
    Calls Tryz.prog 77 #[v] w fun e w' => AlA w' w.heap.size (goodW A) (aliL A) e ∧ Below w.heap.size w w' := by
  have HG : Hid (Calls Tryz.prog 97 #[v] w fun e w' => e = .returned (.bool (goodW A)) ∧ w' = w) := iGoodWeights_any v A w hr
  cases hg : goodW A with
  | false =>
    rw [hg] at HG
    obtain ⟨va, vc, rfl, _, _, _⟩ := zrow_value hr
    clear hr hg
    go_enter Tryz.func77, Tryz.ntmps77
    go_wp2_with fail
    refine HG.out.mono ?_
    rintro e w1 ⟨rfl, rfl⟩
    go_wp2_with fail
    go_ret2
    exact ⟨ala_off _ _ _, Below.refl _ _⟩
  | true =>
    rw [hg] at HG
    obtain ⟨⟨hp1, hp12⟩, hwt, hpos⟩ := goodW_parts hg
    have HTT : Hid (Calls Tryz.prog 52 #[v] w fun e w' => e = .returned (.int .i64 A.sum) ∧ w' = w) := sumOf_any v A w hr hl (all_sm hwt)
    have HI0 : Hid (InvR A.sum (begR A) ∧ cntU (begR A) = (A.length : Int)) := begR_inv hg
    have hT : 0 < A.sum ∧ A.sum ≤ 600 := by have := wt_sum A hwt; omega
    have HAL : Hid (aliL A = itR A.sum (begR A) A.length) := rfl
    obtain ⟨T, hTe⟩ : ∃ T, T = A.sum := ⟨_, rfl⟩
    rw [← hTe] at HTT HI0 hT HAL
    have HUF : Hid (Calls Tryz.prog 98 #[v, .int .i64 T] w fun e w' => e = .returned (.agg (cellsL (extR T (begR A))).toArray) ∧ Below w.heap.size w w') := unfilledRow_any v A T w hr hg
    have HBL : Hid ((begR A).length = A.length) := begR_length A
    have HFF : Hid (∀ R W, InvR T R → R.length = A.length → Calls Tryz.prog 99 #[.agg (cellsL (extR T R)).toArray, .int .i64 T] W fun e w' => e = .returned (.agg (cellsL (extR T (stepR T R))).toArray) ∧ Below W.heap.size W w') := fun R W hi he => by
      have hle : R.length ≤ 12 := by omega
      have h := fillFirst_any (extR T R) T W (extR_length hle) (ext_bound hi hT hle) hT (fun s hs => by
        rw [ext_sm hle] at hs
        rw [ext_gr hle]
        exact hi.great hs)
      rw [ext_step hle] at h
      exact h
    obtain ⟨va, vc, rfl, hvc, hvm, _⟩ := zrow_value hr
    obtain ⟨n, hn⟩ : ∃ n, n = A.length := ⟨_, rfl⟩
    have HNA : Hid (A.length = n) := hn.symm
    rw [HNA.out] at HG HTT HI0 HAL HUF HBL HFF ⊢
    have hpn : 0 < n ∧ n ≤ 12 := by omega
    have hni : (n : Int) ≤ 12 ∧ 0 ≤ (n : Int) := by omega
    have hlb : (extR T (begR A)).length = 12 := extR_length (by rw [HBL.out]; omega)
    have HGD : Hid (goodW A = true) := hg
    clear hr hg hwt hpos hTe hn hvc hl hp1 hp12 hT
    go_enter Tryz.func77, Tryz.ntmps77
    go_wp2_with fail
    refine HG.out.mono ?_
    rintro e w0 ⟨rfl, rfl⟩
    go_wp2_with fail
    refine HTT.out.mono ?_
    rintro e w ⟨rfl, rfl⟩
    clear HG HTT
    go_wp2_with fail
    refine HUF.out.mono ?_
    rintro e w1 ⟨rfl, hb1⟩
    clear HUF
    have hz1 := box_fresh w1
    have hrg1 : ∀ W, BoxR W w1.heap.size (extR T (begR A)) → W.rangeAt w1.heap.size 0 (cellsL (extR T (begR A))) := fun W h => h.range
    have hris1 := row_is _ hlb
    go_wp2_with (first | (refine wpList_store_rowT rfl (.tmp 5) (.tmp 14) rfl w1.heap.size (List.replicate 12 (0, 0)) (extR T (begR A)) rfl rfl hz1 rfl hlb ?_; intro w2 hbx2 hk2) | (refine wpList_load_mid rfl 131 (.tmp 5) rfl w1.heap.size 0 rfl (cellsL (extR T (begR A))) _ (hrg1 _ hbx2) Tryz.underlying131 rfl hris1 ?_))
    refine (HFF.out _ _ HI0.out.1 HBL.out).mono ?_
    rintro e w3 ⟨rfl, hb3⟩
    have h12 : w1.heap.size < w2.heap.size := hbx2.lt
    have hz3 := box_fresh w3
    have HX3 : Hid (BoxR (w3.alloc (.cells #[.int .i64 0, .int .i64 0, .int .i64 0, .int .i64 0, .int .i64 0, .int .i64 0, .int .i64 0, .int .i64 0, .int .i64 0, .int .i64 0, .int .i64 0, .int .i64 0, .int .i64 0, .int .i64 0, .int .i64 0, .int .i64 0, .int .i64 0, .int .i64 0, .int .i64 0, .int .i64 0, .int .i64 0, .int .i64 0, .int .i64 0, .int .i64 0] 131)) w1.heap.size (extR T (begR A))) := (hbx2.kept hb3).kept (fresh_below _ _)
    have hls : (extR T (stepR T (begR A))).length = 12 := extR_length (by rw [stepR_length, HBL.out]; omega)
    have h23 := hb3.size
    go_wp2_with (refine wpList_store_rowT rfl (.tmp 6) (.tmp 17) rfl w3.heap.size (List.replicate 12 (0, 0)) (extR T (stepR T (begR A))) rfl rfl hz3 rfl hls ?_; intro w4 hbx4 hk4)
    have hbw2 : Below w.heap.size w w2 := (hb1.trans ((fresh_below _ _).mono hb1.size)).trans (hk2.below (by have := hb1.size; simp; omega) (fun j hj h => by have := hb1.size; omega))
    have hbw4 : Below w.heap.size w w4 := ((hbw2.trans (hb3.mono hbw2.size)).trans ((fresh_below _ _).mono (by have := hbw2.size; omega))).trans (hk4.below (by have := hbw2.size; simp; omega) (fun j hj h => by have := hbw2.size; omega))
    have HX4 : Hid (BoxR w4 w1.heap.size (extR T (itR T (begR A) 0))) := HX3.out.apart hk4 (by omega)
    have HY4 : Hid (BoxR w4 w3.heap.size (extR T (stepR T (itR T (begR A) 0)))) := hbx4
    have HIN : Hid (InvR T (itR T (begR A) 0) ∧ cntU (itR T (begR A) 0) + (0 : Nat) = (n : Int)) := ⟨HI0.out.1, by have := HI0.out.2; show cntU (begR A) + _ = _; omega⟩
    obtain ⟨b5, hb5⟩ : ∃ b, b = w1.heap.size := ⟨_, rfl⟩
    have hw5 : w.heap.size ≤ b5 := by have := hb1.size; omega
    have hne4 : w3.heap.size ≠ b5 := by omega
    have hw3 : w.heap.size ≤ w3.heap.size := by have := hbw2.size; omega
    rw [← hb5] at HX4 ⊢
    clear hz1 hrg1 hris1 hbx2 hk2 hb3 hz3 HX3 hls h23 hbx4 hk4 hbw2 hb1 hb5 HI0 hlb
    simp only [Act.put]
    go_loopg [6] n (fun g p wr => ∃ (kk b6 : Nat), kk + g = n ∧ p = .pointer (some ⟨b6, 0, none⟩) ∧ b6 ≠ b5 ∧ w.heap.size ≤ b6 ∧ Hid (BoxR wr b5 (extR T (itR T (begR A) kk))) ∧ Hid (BoxR wr b6 (extR T (stepR T (itR T (begR A) kk)))) ∧ Hid (InvR T (itR T (begR A) kk) ∧ cntU (itR T (begR A) kk) + (kk : Int) = (n : Int)) ∧ Below w.heap.size w wr)
    case atStart => exact ⟨0, _, by omega, rfl, hne4, hw3, HX4, HY4, HIN, hbw4⟩
    case round =>
      obtain ⟨kk, b6, hkg, rfl, h65, hw6, HX, HY, HI, hb⟩ := hrel
      have HRL : Hid ((itR T (begR A) kk).length = n) := by show _ = _; rw [itR_length]; exact HBL.out
      have HAK : Hid (firstN (smP T (itR T (begR A) kk)) (itR T (begR A) kk).length = none → itR T (begR A) kk = aliL A) := fun h => by
        rw [HAL.out, show n = kk + gk by omega, itR_stop h gk]
      have HNK : Hid (itR T (begR A) (kk + 1) = stepR T (itR T (begR A) kk)) := rfl
      obtain ⟨R, hR⟩ : ∃ R, R = itR T (begR A) kk := ⟨_, rfl⟩
      rw [← hR] at HX HY HI HRL HAK HNK
      have hlR : R.length ≤ 12 := by rw [HRL.out]; omega
      have hlX : (extR T R).length = 12 := extR_length hlR
      have hlY : (extR T (stepR T R)).length = 12 := extR_length (by rw [stepR_length]; exact hlR)
      have hisX := row_is _ hlX
      have hisY := row_is _ hlY
      have hrX := HX.out.range
      have hrY := HY.out.range
      clear hR HX4 HY4 HIN hbw4
      by_cases hs : firstN (smP T R) R.length = none
      · have HDE : Hid ((!decide (extR T (stepR T R) = extR T R)) = false) := by show _ = _; rw [stepR_none hs]; simp
        have HRA : Hid (R = aliL A) := HAK.out hs
        have HRO : Hid (ColRow wr (.slice (some ⟨b5, 0, none⟩) n 12) R) := by
          have h := HX.out.rowOf hlR
          rw [HRL.out] at h; exact h
        have hRp : 0 < R.length := by rw [HRL.out]; exact hpn.1
        have HCL : Hid (Calls Tryz.prog 100 #[.slice (some ⟨b5, 0, none⟩) n 12] wr fun e w' => ∃ t cap, e = .returned (.slice (some ⟨t, 0, none⟩) R.length cap) ∧ R.length ≤ cap ∧ cap ≤ maxLen ∧ wr.heap.size ≤ t ∧ CoRow w' t R ∧ Below wr.heap.size wr w') := cloneC_any _ R wr HRO.out (by omega) hRp
        clear hs hRp HRO HAK HNK HFF HX HY HI
        go_wp2_with (first | (refine wpList_load_mid rfl 131 (.tmp 6) rfl b6 0 rfl (cellsL (extR T (stepR T R))) _ hrY Tryz.underlying131 rfl hisY ?_) | (refine wpList_load_mid rfl 131 (.tmp 5) rfl b5 0 rfl (cellsL (extR T R)) _ hrX Tryz.underlying131 rfl hisX ?_) | (refine wpList_neq_rowT rfl (.tmp 18) (.tmp 19) _ rfl (extR T (stepR T R)) (extR T R) rfl rfl hlY hlX ?_; rw [HDE.out]))
        refine HCL.out.mono ?_
        rintro e w5 ⟨t, cap, rfl, h1, h2, h3, h4, h5⟩
        have HCO : Hid (CoRow w5 t R) := h4
        clear hrX hrY hisX hisY hlX hlY h4
        go_wp2_with fail
        go_ret2
        refine ⟨⟨.slice (some ⟨t, 0, none⟩) R.length cap, rfl, .inr ⟨t, cap, by show _ = Value.slice _ (aliL A).length cap; rw [← HRA.out], by show (aliL A).length ≤ cap; rw [← HRA.out]; exact h1, h2, by have := hb.size; omega, by show CoRow _ t (aliL A); rw [← HRA.out]; exact HCO.out⟩⟩, hb.trans (h5.mono hb.size)⟩
      · obtain ⟨hI1, hI2, hI3⟩ := HI.out.1.step
        have hcc := hI3 hs
        have hcn := cntU_nonneg (stepR T R)
        have hc0 := HI.out.2
        have hgk : kk + 1 ≤ n := by omega
        have HDE : Hid ((!decide (extR T (stepR T R) = extR T R)) = true) := by
          show _ = _
          have h1 : ¬ (extR T (stepR T R) = extR T R) := fun e => hs (hI2.1 (ext_inj (stepR_length T R) e))
          simp [h1]
        have HIN : Hid (InvR T (itR T (begR A) (kk + 1)) ∧ cntU (itR T (begR A) (kk + 1)) + ((kk + 1 : Nat) : Int) = (n : Int)) := by
          rw [HNK.out]
          exact ⟨hI1, by omega⟩
        have HSL : Hid ((stepR T R).length = n) := by show _ = _; rw [stepR_length, HRL.out]
        have HI2 : Hid (InvR T (stepR T R)) := hI1
        have hX := HX.out
        have HYB : Hid (BoxR wr b6 (extR T (stepR T R))) := HY
        have hnk : kk + 1 + (gk - 1) = n := by omega
        have hgk0 : gk - 1 < gk := by omega
        clear hI1 hI2 hI3 hcc hcn hc0 hs HI HAK HX HY
        go_wp2_with (first | (refine wpList_load_mid rfl 131 (.tmp 6) rfl b6 0 rfl (cellsL (extR T (stepR T R))) _ hrY Tryz.underlying131 rfl hisY ?_) | (refine wpList_load_mid rfl 131 (.tmp 5) rfl b5 0 rfl (cellsL (extR T R)) _ hrX Tryz.underlying131 rfl hisX ?_) | (refine wpList_neq_rowT rfl (.tmp 18) (.tmp 19) _ rfl (extR T (stepR T R)) (extR T R) rfl rfl hlY hlX ?_; rw [HDE.out]) | (refine wpList_store_rowT rfl (.tmp 5) (.tmp 24) rfl b5 (extR T R) (extR T (stepR T R)) rfl rfl hX hlX hlY ?_; intro w5 hbx5 hk5; have hrY5 := (HYB.out.apart hk5 h65).range; have hz5 := box_fresh w5) | (refine wpList_load_mid rfl 131 (.tmp 6) rfl b6 0 rfl (cellsL (extR T (stepR T R))) _ hrY5 Tryz.underlying131 rfl hisY ?_) | (refine wpList_store_rowT rfl (.tmp 6) (.tmp 25) rfl w5.heap.size (List.replicate 12 (0, 0)) (extR T (stepR T R)) rfl rfl hz5 rfl hlY ?_; intro w6 hbx6 hk6; have hb56 := hbx5.lt; have hX6 := (hbx5.kept (fresh_below w5 _)).apart hk6 (by omega); have hrX6 := hX6.range) | (refine wpList_load_mid rfl 131 (.tmp 5) rfl b5 0 rfl (cellsL (extR T (stepR T R))) _ hrX6 Tryz.underlying131 rfl hisY ?_))
        refine (HFF.out _ _ HI2.out HSL.out).mono ?_
        rintro e w7 ⟨rfl, hb7⟩
        have HX7 : Hid (BoxR w7 b5 (extR T (stepR T R))) := hX6.kept hb7
        have hz7 : BoxR w7 w5.heap.size (extR T (stepR T R)) := hbx6.kept hb7
        have hl2 : (extR T (stepR T (stepR T R))).length = 12 := extR_length (by rw [stepR_length, HSL.out]; omega)
        have hbw5 : Below w.heap.size w w5 := hb.trans (hk5.below hb.size (fun j hj h => by omega))
        have hbw6 : Below w.heap.size w w6 := (hbw5.trans ((fresh_below _ _).mono hbw5.size)).trans (hk6.below (by have := hbw5.size; simp; omega) (fun j hj h => by have := hbw5.size; omega))
        have hbw7 : Below w.heap.size w w7 := hbw6.trans (hb7.mono hbw6.size)
        have hw65 : w5.heap.size ≠ b5 := by omega
        have hww5 := hbw5.size
        clear hrX hrY hrY5 hrX6 hz5 hX
        go_wp2_with (refine wpList_store_rowT rfl (.tmp 6) (.tmp 23) rfl w5.heap.size (extR T (stepR T R)) (extR T (stepR T (stepR T R))) rfl rfl hz7 hlY hl2 ?_; intro w8 hbx8 hk8)
        simp only [Act.put]
        have HX8 : Hid (BoxR w8 b5 (extR T (itR T (begR A) (kk + 1)))) := by rw [HNK.out]; exact HX7.out.apart hk8 (by omega)
        have HY8 : Hid (BoxR w8 w5.heap.size (extR T (stepR T (itR T (begR A) (kk + 1))))) := by rw [HNK.out]; exact hbx8
        have hbw8 : Below w.heap.size w w8 := hbw7.trans (hk8.below hbw7.size (fun j hj h => by omega))
        go_roundg (gk - 1)
        case measure => exact hgk0
        case rel => exact ⟨kk + 1, _, hnk, rfl, hw65, hww5, HX8, HY8, HIN, hbw8⟩
end Go.Proofs.YtoanloballaclaaGreatDoor
