import Derived.Test.YtoopfmebpjojiaaDoorHeK
import Derived.Test.YtoopfmebpjojiaaDoorHeR
namespace Go.Proofs.YtoopfmebpjojiaaDoor
open Go.RowKit

theorem three_boxes {w W : World} {a b c : Obj} (hb : Below (((w.alloc a).alloc b).alloc c).heap.size (((w.alloc a).alloc b).alloc c) W) : W.heap[w.heap.size]? = some a ∧ W.heap[w.heap.size + 1]? = some b ∧ W.heap[w.heap.size + 1 + 1]? = some c ∧ Below w.heap.size w W := by
  obtain ⟨h1, h2, h3, _, h5⟩ := hst_below3 hb
  exact ⟨h1, h2, h3, h5⟩
theorem put3h_kpt {w : World} {g b : Nat} {v0 v1 v2 : Value} (h : b ≠ g) : (put3h w g v0 v1 v2).heap[b]? = w.heap[b]? := by
  unfold put3h
  rw [heap_setCell_other _ _ _ _ h, heap_setCell_other _ _ _ _ h, heap_setCell_other _ _ _ _ h]

set_option maxRecDepth 20000 in
set_option maxHeartbeats 8000000 in
theorem sTakeProbe_any (ri fa : Int) (v : Value) (L : List HosT) (n : Int) (fi : Bool) (w : World) (hr : HstRow w v L) (hl : L.length ≤ 1048576) (hx : Hid (∀ x ∈ L, x.1.length ≤ 1048576)) :
    Calls Tryd.prog 23 #[HeaV ri fa v, .agg #[.int .i64 n, .bool fi]] w fun e w' => TAns w' w.heap.size (tkB ri fa L n) (tkC ri fa L n.toNat fi) ri fa (tkL ri fa L n.toNat fi) e ∧ Below w.heap.size w w' := by
  have HG : Hid (∀ W, Below w.heap.size w W → Calls Tryd.prog 20 #[HeaV ri fa v] W fun e w' => e = .returned (.bool (goodH ri fa L)) ∧ Below W.heap.size W w') := fun W hW => sGoodHealth_any ri fa v L W (hr.kept hW) hl hx
  have HN : Hid (∀ W, Calls Tryd.prog 39 #[.int .i64 n, .int .i64 0, .int .i64 ((L.length : Int) - 1)] W fun e w' => e = .returned (.bool (inB n 0 ((L.length : Int) - 1))) ∧ w' = W) := fun W => l1In_any n 0 _ W
  have HOW : Hid (0 < L.length → ∀ W, Below w.heap.size w W → Calls Tryd.prog 51 #[HeaV ri fa v] W fun e w' => (∃ g cap, e = .returned (HeaV ri fa (.slice (some ⟨g, 0, none⟩) L.length cap)) ∧ L.length ≤ cap ∧ cap ≤ maxLen ∧ W.heap.size ≤ g ∧ HoRow w' g L) ∧ Below W.heap.size W w') := fun hp W hW => l13Own_any ri fa v L W (hr.kept hW) hl hp
  have HMO : Hid (∀ (x : HosT) g cap W, Calls Tryd.prog 47 #[HeaV ri fa (.slice (some ⟨g, 0, none⟩) L.length cap), .agg #[.string ⟨x.1.toArray⟩, .bool x.2.1, .int .i64 x.2.2]] W fun e w' => e = .returned (.int .i64 (mostH ri fa x.2.1)) ∧ Below W.heap.size W w') := fun x g cap W => l13Most_any ri fa x.2.2 x.2.1 ⟨x.1.toArray⟩ _ W ⟨_, _, _, rfl⟩
  obtain ⟨ok, hok⟩ : ∃ ok, ok = tkB ri fa L n := ⟨_, rfl⟩
  have HOK : Hid (ok = (goodH ri fa L && inB n 0 ((L.length : Int) - 1))) := hok
  rw [← hok]
  unfold TAns
  unfold HeaV at HG HOW HMO ⊢
  obtain ⟨a, cap, rfl, hcap, hmax, _⟩ := hst_value hr
  obtain ⟨W0, hW0⟩ : ∃ W0, W0 = ((w.alloc (.cells #[.int .i64 ri, .int .i64 fa, .slice a L.length cap] 26)).alloc (.cells #[.int .i64 n, .bool fi] 45)).alloc (.cells #[.int .i64 0, .int .i64 0, .slice none 0 0] 26) := ⟨_, rfl⟩
  have hz0 : W0.heap.size = w.heap.size + 1 + 1 + 1 := by rw [hW0]; simp
  have HX : Hid (∀ W, Below W0.heap.size W0 W → W.heap[w.heap.size]? = some (.cells #[.int .i64 ri, .int .i64 fa, .slice a L.length cap] 26) ∧ W.heap[w.heap.size + 1]? = some (.cells #[.int .i64 n, .bool fi] 45) ∧ W.heap[w.heap.size + 1 + 1]? = some (.cells #[.int .i64 0, .int .i64 0, .slice none 0 0] 26) ∧ Below w.heap.size w W) := fun W hW => by rw [hW0] at hW; exact three_boxes hW
  have hb0 : Below w.heap.size w W0 := (HX.out _ (Below.refl _ _)).2.2.2
  have HW0 : Hid (((w.alloc (.cells #[.int .i64 ri, .int .i64 fa, .slice a L.length cap] 26)).alloc (.cells #[.int .i64 n, .bool fi] 45)).alloc (.cells #[.int .i64 0, .int .i64 0, .slice none 0 0] 26) = W0) := hW0.symm
  clear hW0 hok hr hx
  cases hg : goodH ri fa L with
  | false =>
    rw [hg] at HG HOK
    obtain rfl : ok = false := HOK.out
    go_enter Tryd.func23, Tryd.ntmps23
    go_wp2_with fail
    rw [HW0.out]
    refine (HG.out _ hb0).mono ?_
    rintro e w1 ⟨rfl, hb1⟩
    obtain ⟨x1, x2, x3, hbw⟩ := HX.out _ hb1
    have HX3 : Hid (w1.heap[w.heap.size + 1 + 1]? = some (.cells #[.int .i64 0, .int .i64 0, .slice none 0 0] 26)) := x3
    obtain ⟨⟨d0, d1, d2⟩, ⟨z0, z1, z2⟩⟩ := hst_cells x3
    clear x1 x2 x3
    go_wp2_with fail
    (try simp only [Exit.inBlock, Exit.then])
    refine bodyPost_ret (results_hea_tt rfl _ _ (w.heap.size + 1 + 1) 26 #[.int .i64 0, .int .i64 0, .slice none 0 0] (0, 0) _ (.bool false) (.bool false) rfl rfl rfl ?_ Tryd.underlying26 rfl (by kernel_rfl)) rfl ⟨⟨_, rfl, .inl ⟨rfl, rfl⟩⟩, ?_⟩
    · exact put3h_heap HX3.out
    · exact put3h_below hbw (by omega) _ _ _
  | true =>
    rw [hg] at HG HOK
    cases hn : inB n 0 ((L.length : Int) - 1) with
    | false =>
      rw [hn] at HN HOK
      obtain rfl : ok = false := HOK.out
      clear hn
      go_enter Tryd.func23, Tryd.ntmps23
      go_wp2_with fail
      rw [HW0.out]
      refine (HG.out _ hb0).mono ?_
      rintro e w1 ⟨rfl, hb1⟩
      obtain ⟨x1, x2, x3, hbw⟩ := HX.out _ hb1
      have HX3 : Hid (w1.heap[w.heap.size + 1 + 1]? = some (.cells #[.int .i64 0, .int .i64 0, .slice none 0 0] 26)) := x3
      obtain ⟨⟨c0, c1, c2⟩, _⟩ := hst_cells x1
      obtain ⟨p0, p1⟩ := prb_cells x2
      obtain ⟨⟨d0, d1, d2⟩, ⟨z0, z1, z2⟩⟩ := hst_cells x3
      clear x1 x2 x3
      go_wp2_with fail
      refine (HN.out _).mono ?_
      rintro e w2 ⟨rfl, rfl⟩
      go_wp2_with fail
      (try simp only [Exit.inBlock, Exit.then])
      refine bodyPost_ret (results_hea_tt rfl _ _ (w.heap.size + 1 + 1) 26 #[.int .i64 0, .int .i64 0, .slice none 0 0] (0, 0) _ (.bool false) (.bool false) rfl rfl rfl ?_ Tryd.underlying26 rfl (by kernel_rfl)) rfl ⟨⟨_, rfl, .inl ⟨rfl, rfl⟩⟩, ?_⟩
      · exact put3h_heap HX3.out
      · exact put3h_below hbw (by omega) _ _ _
    | true =>
      rw [hn] at HN HOK
      obtain rfl : ok = true := HOK.out
      obtain ⟨k, hk, hkl⟩ := in_at hn
      subst hk
      have HOC := HOW.out (by omega)
      have HTL : Hid (tkL ri fa L k fi = L.set k (tkH ri fa L[k] fi).1) := tkL_at hkl
      have HTC : Hid (tkC ri fa L k fi = (tkH ri fa L[k] fi).2) := tkC_at hkl
      have HLL : Hid ((L.set k (tkH ri fa L[k] fi).1).length = L.length) := by show _ = _; simp
      obtain ⟨hgri, hgfa, _, hgr, _⟩ := good_parts hg
      have hrow := hgr _ (List.getElem_mem hkl)
      have hml : mostH ri fa L[k].2.1 ≤ 10 := by unfold mostH; split <;> omega
      have HMX := HMO.out L[k]
      clear hn HOW HOK hgr hg HMO
      go_enter Tryd.func23, Tryd.ntmps23
      go_wp2_with fail
      rw [HW0.out]
      refine (HG.out _ hb0).mono ?_
      rintro e w1 ⟨rfl, hb1⟩
      obtain ⟨x1, x2, x3, hbw⟩ := HX.out _ hb1
      obtain ⟨⟨c0, c1, c2⟩, _⟩ := hst_cells x1
      obtain ⟨p0, p1⟩ := prb_cells x2
      clear x1 x2 x3
      go_wp2_with fail
      refine (HN.out _).mono ?_
      rintro e w2 ⟨rfl, rfl⟩
      go_wp2_with fail
      refine (HOC _ hbw).mono ?_
      rintro e w2 ⟨⟨g, cp, rfl, hcp1, hcp2, hbg, hs⟩, hb2⟩
      have hb12 := hb1.trans (hb2.mono hb1.size)
      have hzz := hb1.size
      clear c0 c1 c2 p0 p1
      obtain ⟨x1, x2, x3, hbw2⟩ := HX.out _ hb12
      obtain ⟨⟨c0, c1, c2⟩, ⟨f0, f1, f2⟩⟩ := hst_cells x1
      obtain ⟨p0, p1⟩ := prb_cells x2
      obtain ⟨⟨d0, d1, d2⟩, ⟨z0, z1, z2⟩⟩ := hst_cells x3
      have hgg : w.heap.size + 1 + 1 < g := by omega
      obtain ⟨W3, hW3⟩ : ∃ W3, W3 = put3h w2 w.heap.size (.int .i64 ri) (.int .i64 fa) (.slice (some ⟨g, 0, none⟩) L.length cp) := ⟨_, rfl⟩
      have hx1 : W3.heap[w.heap.size]? = some (.cells #[.int .i64 ri, .int .i64 fa, .slice (some ⟨g, 0, none⟩) L.length cp] 26) := by rw [hW3]; exact put3h_heap x1
      have hx2 : W3.heap[w.heap.size + 1]? = some (.cells #[.int .i64 (k : Int), .bool fi] 45) := by rw [hW3, put3h_kpt (by omega)]; exact x2
      have hx3 : W3.heap[w.heap.size + 1 + 1]? = some (.cells #[.int .i64 0, .int .i64 0, .slice none 0 0] 26) := by rw [hW3, put3h_kpt (by omega)]; exact x3
      have hs3 : HoRow W3 g L := by rw [hW3]; exact put3h_far hs (by omega)
      have hbw3 : Below w.heap.size w W3 := by rw [hW3]; exact put3h_below hbw2 (Nat.le_refl _) _ _ _
      have HW3 : Hid (((w2.setCell ⟨w.heap.size, 0, none⟩ (.int .i64 ri)).setCell ⟨w.heap.size, 1, none⟩ (.int .i64 fa)).setCell ⟨w.heap.size, 2, none⟩ (.slice (some ⟨g, 0, none⟩) L.length cp) = W3) := by rw [hW3]; rfl
      have HX1 : Hid (W3.heap[w.heap.size]? = some (.cells #[.int .i64 ri, .int .i64 fa, .slice (some ⟨g, 0, none⟩) L.length cp] 26)) := hx1
      have HX2 : Hid (W3.heap[w.heap.size + 1]? = some (.cells #[.int .i64 (k : Int), .bool fi] 45)) := hx2
      have HX3 : Hid (W3.heap[w.heap.size + 1 + 1]? = some (.cells #[.int .i64 0, .int .i64 0, .slice none 0 0] 26)) := hx3
      have HS3 : Hid (HoRow W3 g L) := hs3
      have hat := (hs.2 k hkl)
      unfold HstAt FzH at hat
      obtain ⟨⟨m0, m1, m2⟩, ⟨n0, n1, n2⟩⟩ := hat
      have HCP : Hid (L.length ≤ cp ∧ cp ≤ maxLen) := ⟨hcp1, hcp2⟩
      unfold maxLen at hcp2
      have hki : (k : Int) < (L.length : Int) := by omega
      have hg3 : g < W3.heap.size := hs3.1
      have hz3 : W3.heap.size = w2.heap.size := by rw [hW3]; unfold put3h; simp
      have hwz : w.heap.size + 1 + 1 < w2.heap.size := by have := hb2.size; omega
      have hw0 : w.heap.size < w2.heap.size := by omega
      have hw1 : w.heap.size + 1 < w2.heap.size := by omega
      have hgw2 : g < w2.heap.size := by omega
      clear x1 x2 x3 hx1 hx2 hx3 hs hs3 hW3 hb1 hb2 hb12 hbw2 hbw HX HG HN HOC
      obtain ⟨x, hxe⟩ : ∃ x, x = L[k] := ⟨_, rfl⟩
      rw [← hxe] at m0 m1 m2 HTL HTC hrow hml HMX HLL
      obtain ⟨xn, up, r⟩ := x
      simp only at m0 m1 m2 hrow hml HMX
      obtain ⟨W4, hW4⟩ : ∃ W4, W4 = W3.alloc (.cells #[.string ⟨xn.toArray⟩, .bool up, .int .i64 r] 68) := ⟨_, rfl⟩
      have hb34 : Below W3.heap.size W3 W4 := by rw [hW4]; exact (Below.refl _ _).alloc (Nat.le_refl _) _
      have HF : Hid (∀ W, Below W4.heap.size W4 W → (W.heap[w.heap.size]? = some (.cells #[.int .i64 ri, .int .i64 fa, .slice (some ⟨g, 0, none⟩) L.length cp] 26) ∧ W.heap[w.heap.size + 1]? = some (.cells #[.int .i64 (k : Int), .bool fi] 45) ∧ W.heap[w.heap.size + 1 + 1]? = some (.cells #[.int .i64 0, .int .i64 0, .slice none 0 0] 26) ∧ W.heap[w2.heap.size]? = some (.cells #[.string ⟨xn.toArray⟩, .bool up, .int .i64 r] 68)) ∧ HoRow W g L ∧ Below w.heap.size w W) := fun W hW => by
        have h2 := hb34.trans (hW.mono hb34.size)
        refine ⟨⟨(h2.block _ (by omega)).trans HX1.out, (h2.block _ (by omega)).trans HX2.out, (h2.block _ (by omega)).trans HX3.out, ?_⟩, HS3.out.kept h2, hbw3.trans (h2.mono hbw3.size)⟩
        rw [hW4] at hW
        rw [← hz3]
        exact (hst_below hW).1
      have HW4 : Hid (W3.alloc (.cells #[.string ⟨xn.toArray⟩, .bool up, .int .i64 r] 68) = W4) := hW4.symm
      have HAT : Hid (∀ W, HoRow W g L → (W.cell? ⟨g, k * 3, none⟩ = some (.string ⟨xn.toArray⟩) ∧ W.cell? ⟨g, k * 3 + 1, none⟩ = some (.bool up) ∧ W.cell? ⟨g, k * 3 + 2, none⟩ = some (.int .i64 r)) ∧ FzH W g (k * 3)) := fun W h => by
        have h1 := h.2 k hkl
        rw [← hxe] at h1
        exact h1
      have HS2 : Hid (∀ W (b : Int), HoRow W g L → HoRow (W.setCell ⟨g, k * 3 + 2, none⟩ (.int .i64 b)) g (L.set k (xn, up, b))) := fun W b h => by
        have h1 := h.set2 k hkl b
        rw [← hxe] at h1
        exact h1
      have HS1 : Hid (∀ W (b : Bool) (c : Int), HoRow W g L → HoRow ((W.setCell ⟨g, k * 3 + 1, none⟩ (.bool b)).setCell ⟨g, k * 3 + 2, none⟩ (.int .i64 c)) g (L.set k (xn, b, c))) := fun W b c h => by
        have h1 := (h.set1 k hkl b).set2 k (by simpa using hkl) c
        simp only [List.set_set, List.getElem_set_self] at h1
        rw [← hxe] at h1
        exact h1
      unfold FzH at HAT
      clear hW4 hxe hb34
      obtain ⟨⟨b0, b1, b2⟩, _⟩ := hst_cells HX1.out
      obtain ⟨b3, b4⟩ := prb_cells HX2.out
      obtain ⟨⟨b5, b6, b7⟩, _⟩ := HAT.out W3 HS3.out
      have hf4 := HF.out W4 (Below.refl _ _)
      obtain ⟨⟨y1, y2, y3, y4⟩, ys, yb⟩ := hf4
      have HY3 : Hid (W4.heap[w.heap.size + 1 + 1]? = some (.cells #[.int .i64 0, .int .i64 0, .slice none 0 0] 26)) := y3
      have HYS : Hid (HoRow W4 g L) := ys
      obtain ⟨⟨i0, i1, i2⟩, _⟩ := hst_cells y1
      obtain ⟨i3, i4⟩ := prb_cells y2
      obtain ⟨⟨i5, i6, i7⟩, ⟨j5, j6, j7⟩⟩ := HAT.out W4 ys
      obtain ⟨⟨i8, i9, i10⟩, _⟩ := hst_cells y4
      have hW4s : W4.heap.size = w2.heap.size + 1 := by rw [← HW4.out]; simp [hz3]
      clear m0 m1 m2 n0 n1 n2 p0 p1 d0 d1 d2 z0 z1 z2 y1 y2 y3 y4 ys HX1 HX2 HX3 HS3 hbw3
      by_cases hfu : fi = up
      · subst hfu
        have e1 : (fi == fi) = true := by simp
        have HTV : Hid (tkH ri fa (xn, fi, r) fi = ((xn, fi, 0), false)) := tkH_same ri fa r xn fi
        rw [HTV.out] at HTL HTC HLL
        obtain ⟨W5, hW5⟩ : ∃ W5, W5 = W4.setCell ⟨g, k * 3 + 2, none⟩ (.int .i64 0) := ⟨_, rfl⟩
        have HE3 : Hid (W5.heap[w.heap.size + 1 + 1]? = some (.cells #[.int .i64 0, .int .i64 0, .slice none 0 0] 26)) := by rw [hW5, heap_setCell_other _ _ _ _ (show w.heap.size + 1 + 1 ≠ g by omega)]; exact HY3.out
        have HES : Hid (HoRow W5 g (L.set k (xn, fi, 0))) := by rw [hW5]; exact HS2.out W4 0 HYS.out
        have hbe : Below w.heap.size w W5 := by rw [hW5]; exact yb.setCell (p := ⟨g, k * 3 + 2, none⟩) (by show w.heap.size ≤ g; omega) _
        have he1 : W5.heap[w.heap.size]? = some (.cells #[.int .i64 ri, .int .i64 fa, .slice (some ⟨g, 0, none⟩) L.length cp] 26) := by rw [hW5, heap_setCell_other _ _ _ _ (show w.heap.size ≠ g by omega)]; exact (HF.out W4 (Below.refl _ _)).1.1
        obtain ⟨⟨k0, k1, k2⟩, _⟩ := hst_cells he1
        obtain ⟨⟨k3, k4, k5⟩, ⟨k6, k7, k8⟩⟩ := hst_cells HE3.out
        have HW5 : Hid (W4.setCell ⟨g, k * 3 + 2, none⟩ (.int .i64 0) = W5) := hW5.symm
        clear he1 hW5 HF HAT HS2 HS1 HMX yb
        go_wp2_with (first | rw [HW3.out] | rw [HW4.out] | rw [HW5.out])
        (try simp only [Exit.inBlock, Exit.then])
        refine bodyPost_ret (results_hea_tt rfl _ _ (w.heap.size + 1 + 1) 26 #[.int .i64 ri, .int .i64 fa, .slice (some ⟨g, 0, none⟩) L.length cp] (0, 0) _ (.bool false) (.bool true) rfl rfl rfl ?_ Tryd.underlying26 rfl (by kernel_rfl)) rfl ⟨⟨.slice (some ⟨g, 0, none⟩) L.length cp, ?_, ?_⟩, ?_⟩
        · exact put3h_heap HE3.out
        · rw [HTC.out]
        · rw [HTL.out]; exact .inr ⟨g, cp, by simp, by simpa using HCP.out.1, HCP.out.2, by omega, put3h_far HES.out (by omega)⟩
        · exact put3h_below hbe (by omega) _ _ _
      · have e1 : (fi == up) = false := by simpa using hfu
        have hwr : IntKind.i64.wrap (r + 1) = r + 1 := IntWalk.i64_in _ (by omega)
        have HMC : Hid (∀ W, Calls Tryd.prog 47 #[.agg #[.int .i64 ri, .int .i64 fa, .slice (some ⟨g, 0, none⟩) L.length cp], .agg #[.string ⟨xn.toArray⟩, .bool up, .int .i64 r]] W fun e w' => e = .returned (.int .i64 (mostH ri fa up)) ∧ Below W.heap.size W w') := fun W => HMX g cp W
        have HLT : Hid (r + 1 < mostH ri fa up → tkH ri fa (xn, up, r) fi = ((xn, up, r + 1), false)) := fun h => tkH_less xn e1 h
        have HTU : Hid (¬ r + 1 < mostH ri fa up → tkH ri fa (xn, up, r) fi = ((xn, !up, 0), true)) := fun h => tkH_turn xn e1 h
        obtain ⟨m, hm⟩ : ∃ m, m = mostH ri fa up := ⟨_, rfl⟩
        rw [← hm] at HMC HLT HTU hrow hml
        have HTR : Hid (∀ W W', Below W4.heap.size W4 W → Below W.heap.size W W' → Below W4.heap.size W4 W') := fun W W' h1 h2 => h1.trans (h2.mono h1.size)
        have hbd : Below W4.heap.size W4 W4.drew := (Below.refl _ _).drew
        have HXC : Hid (∀ W, Below W4.heap.size W4 W → (W.cell? ⟨w.heap.size, 0, none⟩ = some (.int .i64 ri) ∧ W.cell? ⟨w.heap.size, 1, none⟩ = some (.int .i64 fa) ∧ W.cell? ⟨w.heap.size, 2, none⟩ = some (.slice (some ⟨g, 0, none⟩) L.length cp)) ∧ (W.cell? ⟨w2.heap.size, 0, none⟩ = some (.string ⟨xn.toArray⟩) ∧ W.cell? ⟨w2.heap.size, 1, none⟩ = some (.bool up) ∧ W.cell? ⟨w2.heap.size, 2, none⟩ = some (.int .i64 r))) := fun W hW => ⟨(hst_cells (HF.out W hW).1.1).1, (hst_cells (HF.out W hW).1.2.2.2).1⟩
        clear hm HMX
        by_cases hlt : r + 1 < m
        · have HTV := HLT.out hlt
          rw [HTV] at HTL HTC HLL
          go_wp2_with (first | rw [HW3.out] | rw [HW4.out])
          (try rw [HW4.out])
          refine wp_region_quiet (C := fun W => Below W4.heap.size W4 W) (by kernel_rfl) (by kernel_rfl) hbd ?_
          refine wpQuiet_step (fun K hK => ?_)
          rw [if_pos (by rfl)]
          refine ⟨.pointer (some ⟨w2.heap.size, 2, none⟩), fun W hW => quiet_ok ?_, hK _ ?_⟩
          · have z := HXC.out W hW
            obtain ⟨⟨b0, b1, b2⟩, ⟨s0, s1, s2⟩⟩ := z
            go_simp
            all_goals (try omega)
          clear hK K
          simp only [Act.put, List.setIfInBounds_toArray, List.set_cons_succ, List.set_cons_zero]
          refine wpQuiet_step (fun K hK => ?_)
          rw [if_pos (by rfl)]
          refine ⟨.int .i64 r, fun W hW => quiet_ok ?_, hK _ ?_⟩
          · have z := HXC.out W hW
            obtain ⟨⟨b0, b1, b2⟩, ⟨s0, s1, s2⟩⟩ := z
            go_simp
            all_goals (try omega)
          clear hK K
          simp only [Act.put, List.setIfInBounds_toArray, List.set_cons_succ, List.set_cons_zero]
          refine wpQuiet_step (fun K hK => ?_)
          rw [if_pos (by rfl)]
          refine ⟨.int .i64 (r + 1), fun W hW => quiet_ok ?_, hK _ ?_⟩
          · have z := HXC.out W hW
            obtain ⟨⟨b0, b1, b2⟩, ⟨s0, s1, s2⟩⟩ := z
            go_simp
            all_goals (try omega)
          clear hK K
          simp only [Act.put, List.setIfInBounds_toArray, List.set_cons_succ, List.set_cons_zero]
          refine wpQuiet_step (fun K hK => ?_)
          rw [if_pos (by rfl)]
          refine ⟨.agg #[.int .i64 ri, .int .i64 fa, .slice (some ⟨g, 0, none⟩) L.length cp], fun W hW => quiet_ok ?_, hK _ ?_⟩
          · have z := HXC.out W hW
            obtain ⟨⟨b0, b1, b2⟩, ⟨s0, s1, s2⟩⟩ := z
            go_simp
            all_goals (try omega)
          clear hK K
          simp only [Act.put, List.setIfInBounds_toArray, List.set_cons_succ, List.set_cons_zero]
          refine wpQuiet_step (fun K hK => ?_)
          rw [if_pos (by rfl)]
          refine ⟨.agg #[.string ⟨xn.toArray⟩, .bool up, .int .i64 r], fun W hW => quiet_ok ?_, hK _ ?_⟩
          · have z := HXC.out W hW
            obtain ⟨⟨b0, b1, b2⟩, ⟨s0, s1, s2⟩⟩ := z
            go_simp
            all_goals (try omega)
          clear hK K
          simp only [Act.put, List.setIfInBounds_toArray, List.set_cons_succ, List.set_cons_zero]
          refine wpQuiet_step (fun K hK => ?_)
          rw [if_pos (by rfl)]
          refine ⟨.int .i64 m, fun W hW => quiet_call (f := 47) (args := #[.agg #[.int .i64 ri, .int .i64 fa, .slice (some ⟨g, 0, none⟩) L.length cp], .agg #[.string ⟨xn.toArray⟩, .bool up, .int .i64 r]]) ?_ ?_, hK _ ?_⟩
          · go_simp
          · exact (HMC.out W).mono fun e w'' h => ⟨h.1, HTR.out _ _ hW h.2⟩
          clear hK K
          simp only [Act.put, List.setIfInBounds_toArray, List.set_cons_succ, List.set_cons_zero]
          refine wpQuiet_step (fun K hK => ?_)
          rw [if_pos (by rfl)]
          refine ⟨.bool true, fun W hW => quiet_ok ?_, hK _ ?_⟩
          · have z := HXC.out W hW
            obtain ⟨⟨b0, b1, b2⟩, ⟨s0, s1, s2⟩⟩ := z
            go_simp
            all_goals (try omega)
          clear hK K
          simp only [Act.put, List.setIfInBounds_toArray, List.set_cons_succ, List.set_cons_zero]
          refine wpQuiet_nil ?_
          intro W hW
          obtain ⟨⟨x1, x2, x3, x4⟩, hsW, hbW⟩ := HF.out W hW
          have HE3 : Hid ((W.setCell ⟨g, k * 3 + 2, none⟩ (.int .i64 (r + 1))).heap[w.heap.size + 1 + 1]? = some (.cells #[.int .i64 0, .int .i64 0, .slice none 0 0] 26)) := by rw [heap_setCell_other _ _ _ _ (show w.heap.size + 1 + 1 ≠ g by omega)]; exact x3
          have HES : Hid (HoRow (W.setCell ⟨g, k * 3 + 2, none⟩ (.int .i64 (r + 1))) g (L.set k (xn, up, r + 1))) := HS2.out W (r + 1) hsW
          have hbe : Below w.heap.size w (W.setCell ⟨g, k * 3 + 2, none⟩ (.int .i64 (r + 1))) := hbW.setCell (p := ⟨g, k * 3 + 2, none⟩) (by show w.heap.size ≤ g; omega) _
          obtain ⟨⟨m0', m1', m2'⟩, ⟨n0', n1', n2'⟩⟩ := HAT.out W hsW
          obtain ⟨⟨c0', c1', c2'⟩, _⟩ := hst_cells x1
          obtain ⟨p0', p1'⟩ := prb_cells x2
          obtain ⟨⟨d0', d1', d2'⟩, ⟨z0', z1', z2'⟩⟩ := hst_cells x3
          obtain ⟨⟨y0', y1', y2'⟩, _⟩ := hst_cells x4
          have hgW := hsW.1
          clear x1 x2 x3 x4 hsW HF HAT HS2 HS1 hbW HXC HTR HMC hW b0 b1 b2 b3 b4 b5 b6 b7 i0 i1 i2 i3 i4 i5 i6 i7 j5 j6 j7 i8 i9 i10 c0 c1 c2 f0 f1 f2
          go_wp2_with fail
          (try simp only [Exit.inBlock, Exit.then])
          refine bodyPost_ret (results_hea_tt rfl _ _ (w.heap.size + 1 + 1) 26 #[.int .i64 ri, .int .i64 fa, .slice (some ⟨g, 0, none⟩) L.length cp] (0, 0) _ (.bool false) (.bool true) rfl rfl rfl ?_ Tryd.underlying26 rfl (by kernel_rfl)) rfl ⟨⟨.slice (some ⟨g, 0, none⟩) L.length cp, ?_, ?_⟩, ?_⟩
          · exact put3h_heap HE3.out
          · rw [HTC.out]
          · rw [HTL.out]; exact .inr ⟨g, cp, by simp, by simpa using HCP.out.1, HCP.out.2, by omega, put3h_far HES.out (by omega)⟩
          · exact put3h_below hbe (by omega) _ _ _
        · have HTV := HTU.out hlt
          rw [HTV] at HTL HTC HLL
          go_wp2_with (first | rw [HW3.out] | rw [HW4.out])
          (try rw [HW4.out])
          refine wp_region_quiet (C := fun W => Below W4.heap.size W4 W) (by kernel_rfl) (by kernel_rfl) hbd ?_
          refine wpQuiet_step (fun K hK => ?_)
          rw [if_pos (by rfl)]
          refine ⟨.pointer (some ⟨w2.heap.size, 2, none⟩), fun W hW => quiet_ok ?_, hK _ ?_⟩
          · have z := HXC.out W hW
            obtain ⟨⟨b0, b1, b2⟩, ⟨s0, s1, s2⟩⟩ := z
            go_simp
            all_goals (try omega)
          clear hK K
          simp only [Act.put, List.setIfInBounds_toArray, List.set_cons_succ, List.set_cons_zero]
          refine wpQuiet_step (fun K hK => ?_)
          rw [if_pos (by rfl)]
          refine ⟨.int .i64 r, fun W hW => quiet_ok ?_, hK _ ?_⟩
          · have z := HXC.out W hW
            obtain ⟨⟨b0, b1, b2⟩, ⟨s0, s1, s2⟩⟩ := z
            go_simp
            all_goals (try omega)
          clear hK K
          simp only [Act.put, List.setIfInBounds_toArray, List.set_cons_succ, List.set_cons_zero]
          refine wpQuiet_step (fun K hK => ?_)
          rw [if_pos (by rfl)]
          refine ⟨.int .i64 (r + 1), fun W hW => quiet_ok ?_, hK _ ?_⟩
          · have z := HXC.out W hW
            obtain ⟨⟨b0, b1, b2⟩, ⟨s0, s1, s2⟩⟩ := z
            go_simp
            all_goals (try omega)
          clear hK K
          simp only [Act.put, List.setIfInBounds_toArray, List.set_cons_succ, List.set_cons_zero]
          refine wpQuiet_step (fun K hK => ?_)
          rw [if_pos (by rfl)]
          refine ⟨.agg #[.int .i64 ri, .int .i64 fa, .slice (some ⟨g, 0, none⟩) L.length cp], fun W hW => quiet_ok ?_, hK _ ?_⟩
          · have z := HXC.out W hW
            obtain ⟨⟨b0, b1, b2⟩, ⟨s0, s1, s2⟩⟩ := z
            go_simp
            all_goals (try omega)
          clear hK K
          simp only [Act.put, List.setIfInBounds_toArray, List.set_cons_succ, List.set_cons_zero]
          refine wpQuiet_step (fun K hK => ?_)
          rw [if_pos (by rfl)]
          refine ⟨.agg #[.string ⟨xn.toArray⟩, .bool up, .int .i64 r], fun W hW => quiet_ok ?_, hK _ ?_⟩
          · have z := HXC.out W hW
            obtain ⟨⟨b0, b1, b2⟩, ⟨s0, s1, s2⟩⟩ := z
            go_simp
            all_goals (try omega)
          clear hK K
          simp only [Act.put, List.setIfInBounds_toArray, List.set_cons_succ, List.set_cons_zero]
          refine wpQuiet_step (fun K hK => ?_)
          rw [if_pos (by rfl)]
          refine ⟨.int .i64 m, fun W hW => quiet_call (f := 47) (args := #[.agg #[.int .i64 ri, .int .i64 fa, .slice (some ⟨g, 0, none⟩) L.length cp], .agg #[.string ⟨xn.toArray⟩, .bool up, .int .i64 r]]) ?_ ?_, hK _ ?_⟩
          · go_simp
          · exact (HMC.out W).mono fun e w'' h => ⟨h.1, HTR.out _ _ hW h.2⟩
          clear hK K
          simp only [Act.put, List.setIfInBounds_toArray, List.set_cons_succ, List.set_cons_zero]
          refine wpQuiet_step (fun K hK => ?_)
          rw [if_pos (by rfl)]
          refine ⟨.bool false, fun W hW => quiet_ok ?_, hK _ ?_⟩
          · have z := HXC.out W hW
            obtain ⟨⟨b0, b1, b2⟩, ⟨s0, s1, s2⟩⟩ := z
            go_simp
            all_goals (try omega)
          clear hK K
          simp only [Act.put, List.setIfInBounds_toArray, List.set_cons_succ, List.set_cons_zero]
          refine wpQuiet_nil ?_
          intro W hW
          obtain ⟨⟨x1, x2, x3, x4⟩, hsW, hbW⟩ := HF.out W hW
          have HE3 : Hid (((W.setCell ⟨g, k * 3 + 1, none⟩ (.bool (!up))).setCell ⟨g, k * 3 + 2, none⟩ (.int .i64 0)).heap[w.heap.size + 1 + 1]? = some (.cells #[.int .i64 0, .int .i64 0, .slice none 0 0] 26)) := by rw [heap_setCell_other _ _ _ _ (show w.heap.size + 1 + 1 ≠ g by omega), heap_setCell_other _ _ _ _ (show w.heap.size + 1 + 1 ≠ g by omega)]; exact x3
          have HES : Hid (HoRow ((W.setCell ⟨g, k * 3 + 1, none⟩ (.bool (!up))).setCell ⟨g, k * 3 + 2, none⟩ (.int .i64 0)) g (L.set k (xn, !up, 0))) := HS1.out W (!up) 0 hsW
          have hbe : Below w.heap.size w ((W.setCell ⟨g, k * 3 + 1, none⟩ (.bool (!up))).setCell ⟨g, k * 3 + 2, none⟩ (.int .i64 0)) := (hbW.setCell (p := ⟨g, k * 3 + 1, none⟩) (by show w.heap.size ≤ g; omega) _).setCell (p := ⟨g, k * 3 + 2, none⟩) (by show w.heap.size ≤ g; omega) _
          obtain ⟨⟨m0', m1', m2'⟩, ⟨n0', n1', n2'⟩⟩ := HAT.out W hsW
          obtain ⟨⟨c0', c1', c2'⟩, _⟩ := hst_cells x1
          obtain ⟨p0', p1'⟩ := prb_cells x2
          obtain ⟨⟨d0', d1', d2'⟩, ⟨z0', z1', z2'⟩⟩ := hst_cells x3
          obtain ⟨⟨y0', y1', y2'⟩, _⟩ := hst_cells x4
          have hgW := hsW.1
          clear x1 x2 x3 x4 hsW HF HAT HS2 HS1 hbW HXC HTR HMC hW b0 b1 b2 b3 b4 b5 b6 b7 i0 i1 i2 i3 i4 i5 i6 i7 j5 j6 j7 i8 i9 i10 c0 c1 c2 f0 f1 f2
          go_wp2_with fail
          (try simp only [Exit.inBlock, Exit.then])
          refine bodyPost_ret (results_hea_tt rfl _ _ (w.heap.size + 1 + 1) 26 #[.int .i64 ri, .int .i64 fa, .slice (some ⟨g, 0, none⟩) L.length cp] (0, 0) _ (.bool true) (.bool true) rfl rfl rfl ?_ Tryd.underlying26 rfl (by kernel_rfl)) rfl ⟨⟨.slice (some ⟨g, 0, none⟩) L.length cp, ?_, ?_⟩, ?_⟩
          · exact put3h_heap HE3.out
          · rw [HTC.out]
          · rw [HTL.out]; exact .inr ⟨g, cp, by simp, by simpa using HCP.out.1, HCP.out.2, by omega, put3h_far HES.out (by omega)⟩
          · exact put3h_below hbe (by omega) _ _ _
end Go.Proofs.YtoopfmebpjojiaaDoor
