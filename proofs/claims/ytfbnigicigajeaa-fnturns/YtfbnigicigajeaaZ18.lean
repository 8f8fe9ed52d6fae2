import Derived.Test.YtfbnigicigajeaaZ17
import Derived.Test.YtfbnigicigajeaaZ16
import Derived.Test.YtfbnigicigajeaaZ06
namespace Go.Proofs.Ytfbnigicigajeaa.lawTurns
open Go.RowKit

theorem own_row {w : World} {base : Nat} {v : Value} {O : List Int} (h : w.ownsRow base 3 1 v O.length (O.map (Value.int .i64))) : ZRow .i64 w v O := by
  rcases h.2 with ⟨rfl, hn⟩ | ⟨g, cap, cur, rfl, hg, h2⟩
  · have : O = [] := List.eq_nil_of_length_eq_zero hn
    subst this
    exact zrow_nil .i64 w
  · have h3 := h2
    obtain ⟨_, hc1, hc2, _⟩ := h3
    unfold maxLen at hc2
    exact (zs_own h).rowc hc1 (by omega)
theorem ownz_kpt {w w' : World} {S : Nat → Prop} {base : Nat} {v : Value} {O : List Int} (h : OwnZ w base v O) (hk : Kpt w w' S) (hn : ∀ g, v.ownBlock = some g → ¬ S g) : OwnZ w' base v O := by
  rcases h with h | ⟨g, hg, rfl, hs⟩
  · exact .inl h
  · exact .inr ⟨g, hg, rfl, hs.apart hk (hn g rfl)⟩
theorem new_own {w' : World} {base : Nat} {P : List Int} {e : Ending} (h : NTAns w' base P e) : ∃ va vu n1 n2, e = .returned (.tuple #[TrnV va vu, .bool (goodW P)]) ∧ OwnT w' base va vu n1 n2 ∧ n2 = (if goodW P then zrs P.length else []) := by
  rcases h with ⟨h1, rfl⟩ | ⟨h1, t, ch, gr, rfl, h2, h3, h4, h5, h6, h7, h8⟩
  · rw [h1]; exact ⟨_, _, [], [], rfl, .inl ⟨rfl, rfl, rfl, rfl⟩, rfl⟩
  · rw [h1]
    have hz : (zrs P.length).length = P.length := by simp [zrs]
    refine ⟨_, _, P, zrs P.length, rfl, .inr ⟨t, ch, gr, P.length, rfl, by rw [hz], h2, h3, by rw [hz]; exact Nat.le_refl _, by omega, h4, h5, h6, h7, h8⟩, rfl⟩
theorem take_sum {L : List Int} {k : Nat} (h : k < L.length) : (L.take (k + 1)).sum = (L.take k).sum + L[k] := by
  rw [List.take_succ_eq_append_getElem h, List.sum_append]; simp
theorem pckN_le (A : List Int) (i : Nat) : ∀ j : Nat, pckN A i j ≤ (j : Int)
  | 0 => Int.le_refl _
  | j + 1 => by
    have ih := pckN_le A i j
    rw [pckN_next]
    split <;> omega
theorem pckL_zero (A : List Int) : pckL A 0 = List.replicate A.length 0 := by
  apply List.ext_getElem (by simp [pckL])
  intro i h1 h2
  simp [pckL, pckN]

set_option maxRecDepth 20000 in
set_option maxHeartbeats 16000000 in
theorem walk (v : Value) (P : List Int) (u : Value) (R : List Int) (w : World) (hr : ZRow .u8 w v P) (hb : Hid (∀ x ∈ P, 0 ≤ x ∧ x ≤ 255)) (hr2 : ZRow .u8 w u R) (hb2 : Hid (∀ x ∈ R, 0 ≤ x ∧ x ≤ 255)) :
    Calls Try.prog 3 #[v, u] w fun e w' => e = .returned (.bool true) ∧ Below w.heap.size w w' := by
  have HR : Hid (ZRow .u8 w v P) := hr
  have HR2 : Hid (ZRow .u8 w u R) := hr2
  obtain ⟨a1, cap1, rfl, hcap1, hmax1, _⟩ := zrow_value hr
  obtain ⟨a2, cap2, rfl, hcap2, hmax2, _⟩ := zrow_value hr2
  clear hr hr2
  have HDT : Hid (∀ W, Below w.heap.size w W → Calls Try.prog 4 #[.slice a1 P.length cap1] W fun e w' => (∃ u L m, e = .returned (.tuple #[u, .int .i64 m]) ∧ (1 ≤ L.length ∧ L.length ≤ 13) ∧ (-1 ≤ m ∧ m ≤ 601) ∧ DrW w' W.heap.size u L) ∧ Below W.heap.size W w') := fun W hW => drawTurnsOf_any _ P W (HR.out.kept hW) hb (by omega)
  have HDN : Hid (∀ W, Below w.heap.size w W → Calls Try.prog 8 #[.slice a2 R.length cap2] W fun e w' => (∃ va vu A U, e = .returned (TrnV va vu) ∧ (1 ≤ A.length ∧ A.length ≤ 13) ∧ U.length = A.length ∧ OwnT w' W.heap.size va vu A U) ∧ Below W.heap.size W w') := fun W hW => drawNextTurn_any _ R W (HR2.out.kept hW) hb2 (by omega)
  have HDW : Hid (∀ W, Below w.heap.size w W → Calls Try.prog 13 #[.slice a2 R.length cap2] W fun e w' => (∃ u L, e = .returned u ∧ (1 ≤ L.length ∧ L.length ≤ 13) ∧ DrW w' W.heap.size u L) ∧ Below W.heap.size W w') := fun W hW => drawNewTurn_any _ R W (HR2.out.kept hW) hb2 (by omega)
  by_cases hlen : (1048576 : Int) < wrap64 ((P.length : Int) + (R.length : Int))
  · go_enter Try.func3, Try.ntmps3
    go_wp2_with fail
    go_ret
    exact ⟨rfl, Below.refl _ _⟩
  · go_enter Try.func3, Try.ntmps3
    go_wp2_with fail
    refine (HDT.out _ (Below.refl _ _)).mono ?_
    rintro e w1 ⟨⟨x, L, m, rfl, hL, hm, t0, c0, rfl, hc0, hc1, hbt, hz⟩, hb1⟩
    have HI0 : Hid (∀ m W, ZSRow W t0 L → Calls Try.prog 5 #[.slice (some ⟨t0, 0, none⟩) L.length c0, .int .i64 m] W fun e w' => TuI w' W.heap.size (tuB L m) (tuL L m) e ∧ Below W.heap.size W w') := fun m W h => iTurnsOf_any _ L m W (h.rowc hc0 hc1) (by omega)
    have HS0 : Hid (Calls Try.prog 6 #[.slice (some ⟨t0, 0, none⟩) L.length c0, .int .i64 m] w1 fun e w' => TuA w' w1.heap.size (tuB L m) (tuL L m) e ∧ Below w1.heap.size w1 w') := sTurnsOf_any _ L m w1 (hz.rowc hc0 hc1) (by omega)
    have HS1 : Hid (∀ W, ZSRow W t0 L → Calls Try.prog 6 #[.slice (some ⟨t0, 0, none⟩) L.length c0, .int .i64 m] W fun e w' => TuA w' W.heap.size (tuB L m) (tuL L m) e ∧ Below W.heap.size W w') := fun W h => sTurnsOf_any _ L m W (h.rowc hc0 hc1) (by omega)
    have HI1 : Hid (∀ W, ZSRow W t0 L → Calls Try.prog 5 #[.slice (some ⟨t0, 0, none⟩) L.length c0, .int .i64 m] W fun e w' => TuI w' W.heap.size (tuB L m) (tuL L m) e ∧ Below W.heap.size W w') := fun W h => HI0.out m W h
    have HZ1 : Hid (ZSRow w1 t0 L) := hz
    have HRL : Hid (∀ W, ZSRow W t0 L → ZRow .i64 W (.slice (some ⟨t0, 0, none⟩) L.length c0) L) := fun W h => h.rowc hc0 hc1
    obtain ⟨ok, hok⟩ : ∃ ok, ok = tuB L m := ⟨_, rfl⟩
    obtain ⟨O, hO⟩ : ∃ O, O = tuL L m := ⟨_, rfl⟩
    have HOK : Hid (ok = tuB L m ∧ O = tuL L m) := ⟨hok, hO⟩
    rw [← hok, ← hO] at HS1 HI1
    have e1 : (ok != ok) = false := by simp
    obtain ⟨n, hn⟩ : ∃ n, n = L.length := ⟨_, rfl⟩
    have HNL : Hid (L.length = n) := hn.symm
    rw [HNL.out] at HS1 HI1 HI0 HRL hL ⊢
    have hc0n : n ≤ c0 := by omega
    clear HS0 hok hO hn hz hc0 hlen
    go_wp2_with fail
    refine (HI1.out _ HZ1.out).mono ?_
    rintro e w2 ⟨⟨p, rfl, hp⟩, hb2'⟩
    have HZ2 : Hid (ZSRow w2 t0 L) := HZ1.out.kept hb2'
    have HP2 : Hid (OwnZ w2 w1.heap.size p O) := hp
    have hbw2 := hb1.trans (hb2'.mono hb1.size)
    clear HZ1 hp hb1 hb2'
    go_wp2_with fail
    refine (HS1.out _ HZ2.out).mono ?_
    rintro e w3 ⟨⟨q, rfl, hq⟩, hb3⟩
    have HZ3 : Hid (ZSRow w3 t0 L) := HZ2.out.kept hb3
    have HP3 : Hid (OwnZ w3 w1.heap.size p O) := HP2.out.kept hb3
    have HQ3 : Hid (ZRow .i64 w3 q O) := own_row hq
    have hbw3 := hbw2.trans (hb3.mono hbw2.size)
    have HOL : Hid (O.length ≤ 600) := by show _ ≤ _; rw [HOK.out.2]; exact tuL_len L m
    clear HZ2 HP2 hq hbw2 hb3
    go_wp2_with fail
    refine (sameInts_same p q O _ (HP3.out.row (by have := HOL.out; omega)) HQ3.out).mono ?_
    rintro e w4 ⟨rfl, hb4⟩
    have HZ4 : Hid (ZSRow w4 t0 L) := HZ3.out.kept hb4
    have HP4 : Hid (OwnZ w4 w1.heap.size p O) := HP3.out.kept hb4
    have hbw4 := hbw3.trans (hb4.mono hbw3.size)
    clear HZ3 HP3 HQ3 hbw3 hb4
    cases ok with
    | false =>
      go_wp2_with fail
      refine (HDN.out _ hbw4).mono ?_
      rintro e x1 ⟨⟨va, vu, A, U, rfl, hA, hU, ho⟩, hc1⟩
      rcases ho with ⟨_, _, hA0, _⟩ | ⟨g1, f1, g2, f2, rfl, rfl, h3, h4, h5, h6, h7, h8, h9, zr1, zr2⟩
      · rw [hA0] at hA; exact absurd hA.1 (by decide)
      · unfold TrnV
        have HU : Hid (U.length = A.length) := hU
        have hU13 : U.length ≤ 13 := by omega
        clear hU
        have hbx1 := hbw4.trans (hc1.mono hbw4.size)
        obtain ⟨X2, hX2⟩ : ∃ X, X = x1.alloc (.cells #[.slice (some ⟨g1, 0, none⟩) A.length f1, .slice (some ⟨g2, 0, none⟩) U.length f2] 30) := ⟨_, rfl⟩
        have hc12 : Below x1.heap.size x1 X2 := by rw [hX2]; exact (Below.refl _ _).alloc (Nat.le_refl _) _
        have hbox2 : X2.heap[x1.heap.size]? = some (.cells #[.slice (some ⟨g1, 0, none⟩) A.length f1, .slice (some ⟨g2, 0, none⟩) U.length f2] 30) := by rw [hX2]; exact trn_new _ _
        have HXB2 : Hid (X2.heap[x1.heap.size]? = some (.cells #[.slice (some ⟨g1, 0, none⟩) A.length f1, .slice (some ⟨g2, 0, none⟩) U.length f2] 30)) := hbox2
        have HRT : Hid (∀ Y, Below X2.heap.size X2 Y → ZRow .i64 Y (.slice (some ⟨g1, 0, none⟩) A.length f1) A ∧ ZRow .i64 Y (.slice (some ⟨g2, 0, none⟩) U.length f2) U) := fun Y hY => ⟨((zr1.kept hc12).kept hY).rowc h3 h4, ((zr2.kept hc12).kept hY).rowc h5 h6⟩
        have HNI : Hid (∀ Y, Below X2.heap.size X2 Y → Calls Try.prog 9 #[.agg #[.slice (some ⟨g1, 0, none⟩) A.length f1, .slice (some ⟨g2, 0, none⟩) U.length f2]] Y fun e w' => NTA w' Y.heap.size (nxtB A U) (nxtK A U) A (nxtL A U) e ∧ Below Y.heap.size Y w') := fun Y hY => iNextTurn_any _ _ A U Y (HRT.out Y hY).1 (HRT.out Y hY).2 (by omega)
        have HNS : Hid (∀ Y, Below X2.heap.size X2 Y → Calls Try.prog 10 #[.agg #[.slice (some ⟨g1, 0, none⟩) A.length f1, .slice (some ⟨g2, 0, none⟩) U.length f2]] Y fun e w' => NTA w' Y.heap.size (nxtB A U) (nxtK A U) A (nxtL A U) e ∧ Below Y.heap.size Y w') := fun Y hY => sNextTurn_any _ _ A U Y (HRT.out Y hY).1 (HRT.out Y hY).2 (by omega)
        have HGI : Hid (∀ Y, Below X2.heap.size X2 Y → Calls Try.prog 11 #[.agg #[.slice (some ⟨g1, 0, none⟩) A.length f1, .slice (some ⟨g2, 0, none⟩) U.length f2]] Y fun e w' => e = .returned (.bool (goodT A U)) ∧ Below Y.heap.size Y w') := fun Y hY => iGoodTurn_any _ _ A U Y (HRT.out Y hY).1 (HRT.out Y hY).2
        have HGS : Hid (∀ Y, Below X2.heap.size X2 Y → Calls Try.prog 12 #[.agg #[.slice (some ⟨g1, 0, none⟩) A.length f1, .slice (some ⟨g2, 0, none⟩) U.length f2]] Y fun e w' => e = .returned (.bool (goodT A U)) ∧ Below Y.heap.size Y w') := fun Y hY => sGoodTurn_any _ _ A U Y (HRT.out Y hY).1 (HRT.out Y hY).2 (by omega)
        have hbX2 := hbx1.trans (hc12.mono hbx1.size)
        have HX2 : Hid (x1.alloc (.cells #[.slice (some ⟨g1, 0, none⟩) A.length f1, .slice (some ⟨g2, 0, none⟩) U.length f2] 30) = X2) := hX2.symm
        obtain ⟨⟨p0, p1⟩, _⟩ := trn_cells hbox2
        have hbt3 : x1.heap.size < X2.heap.size := (Array.getElem?_eq_some_iff.1 hbox2).1
        obtain ⟨is, his⟩ : ∃ is, is = nxtB A U := ⟨_, rfl⟩
        have HIS : Hid (is = nxtB A U) := his
        rw [← his] at HNI HNS
        clear hX2 hc12 hbox2 hc1 hbx1 zr1 zr2 h3 h4 h5 h6 h7 h8 h9 his
        go_wp2_with (rw [HX2.out])
        (try rw [HX2.out])
        refine (HNI.out X2 (Below.refl _ _)).mono ?_
        rintro e x3 ⟨⟨xa, xu, rfl, hx⟩, hd3⟩
        obtain ⟨XA, hXA⟩ : ∃ XA, XA = (if is then A else []) := ⟨_, rfl⟩
        obtain ⟨XU, hXU⟩ : ∃ XU, XU = (if is then nxtL A U else []) := ⟨_, rfl⟩
        obtain ⟨kv, hkv⟩ : ∃ kv : Int, kv = (if is then (nxtK A U : Int) else 0) := ⟨_, rfl⟩
        have HXE : Hid (XA = (if is then A else []) ∧ XU = (if is then nxtL A U else [])) := ⟨hXA, hXU⟩
        have HKV : Hid (kv = (if is then (nxtK A U : Int) else 0)) := hkv
        rw [← hXA, ← hXU] at hx
        rw [← hkv]
        obtain ⟨i1, j1, i2, j2, hxa, hxu⟩ := hx.shape
        subst hxa
        subst hxu
        unfold TrnV
        clear hXA hXU hkv
        have hbX3 := hbX2.trans (hd3.mono hbX2.size)
        have hs23 := hd3.size
        obtain ⟨X4, hX4⟩ : ∃ X, X = x3.alloc (.cells #[.slice i1 XA.length j1, .slice i2 XU.length j2] 30) := ⟨_, rfl⟩
        have hd34 : Below x3.heap.size x3 X4 := by rw [hX4]; exact (Below.refl _ _).alloc (Nat.le_refl _) _
        have HN4 : Hid (X4.heap[x3.heap.size]? = some (.cells #[.slice i1 XA.length j1, .slice i2 XU.length j2] 30)) := by rw [hX4]; exact trn_new _ _
        have HB24 : Hid (Below X2.heap.size X2 X4) := hd3.trans (hd34.mono hd3.size)
        have hbox4 := (HB24.out.block _ hbt3).trans HXB2.out
        have HO4 : Hid (OwnT X4 X2.heap.size (.slice i1 XA.length j1) (.slice i2 XU.length j2) XA XU) := hx.kept hd34
        have hbX4 := hbX3.trans (hd34.mono hbX3.size)
        have HX4 : Hid (x3.alloc (.cells #[.slice i1 XA.length j1, .slice i2 XU.length j2] 30) = X4) := hX4.symm
        have hlt4 : x3.heap.size < X4.heap.size := (Array.getElem?_eq_some_iff.1 HN4.out).1
        clear p0 p1 hd3 hX4 hd34 hx hbX3 hbX2 HX2
        obtain ⟨⟨p0, p1⟩, _⟩ := trn_cells hbox4
        clear hbox4
        go_wp2_with (rw [HX4.out])
        (try rw [HX4.out])
        refine (HNS.out X4 HB24.out).mono ?_
        rintro e x5 ⟨⟨ya, yu, rfl, hy⟩, hd5⟩
        rw [← HXE.out.1, ← HXE.out.2] at hy
        rw [← HKV.out]
        obtain ⟨i3, j3, i4, j4, hya, hyu⟩ := hy.shape
        subst hya
        subst hyu
        unfold TrnV
        have hs45 := hd5.size
        have hbX5 := hbX4.trans (hd5.mono hbX4.size)
        obtain ⟨X6, hX6⟩ : ∃ X, X = x5.alloc (.cells #[.slice i3 XA.length j3, .slice i4 XU.length j4] 30) := ⟨_, rfl⟩
        have hd56 : Below x5.heap.size x5 X6 := by rw [hX6]; exact (Below.refl _ _).alloc (Nat.le_refl _) _
        have hN6 : X6.heap[x5.heap.size]? = some (.cells #[.slice i3 XA.length j3, .slice i4 XU.length j4] 30) := by rw [hX6]; exact trn_new _ _
        have hlt6 : x5.heap.size < X6.heap.size := (Array.getElem?_eq_some_iff.1 hN6).1
        have hd46 : Below X4.heap.size X4 X6 := hd5.trans (hd56.mono hd5.size)
        have hs46 := hd46.size
        have hHB26 : Below X2.heap.size X2 X6 := HB24.out.trans (hd46.mono HB24.out.size)
        have HBOX6 : Hid (∀ W, Below X6.heap.size X6 W → ((W.cell? ⟨x1.heap.size, 0, none⟩ = some (.slice (some ⟨g1, 0, none⟩) A.length f1) ∧ W.cell? ⟨x1.heap.size, 1, none⟩ = some (.slice (some ⟨g2, 0, none⟩) U.length f2)) ∧ (W.cell? ⟨x3.heap.size, 0, none⟩ = some (.slice i1 XA.length j1) ∧ W.cell? ⟨x3.heap.size, 1, none⟩ = some (.slice i2 XU.length j2)) ∧ (W.cell? ⟨x5.heap.size, 0, none⟩ = some (.slice i3 XA.length j3) ∧ W.cell? ⟨x5.heap.size, 1, none⟩ = some (.slice i4 XU.length j4))) ∧ Below X6.heap.size X6 W) := fun W hW =>
          ⟨⟨(trn_cells ((hW.block _ (by omega)).trans ((hHB26.block _ hbt3).trans HXB2.out))).1, (trn_cells ((hW.block _ (by omega)).trans ((hd46.block _ hlt4).trans HN4.out))).1, (trn_cells ((hW.block _ hlt6).trans hN6)).1⟩, hW⟩
        have HXO6 : Hid (OwnT X6 X2.heap.size (.slice i1 XA.length j1) (.slice i2 XU.length j2) XA XU) := HO4.out.kept hd46
        have HYO6 : Hid (OwnT X6 X4.heap.size (.slice i3 XA.length j3) (.slice i4 XU.length j4) XA XU) := hy.kept hd56
        have HSI6 : Hid (∀ W, Below X6.heap.size X6 W → Calls Try.prog 7 #[.slice i2 XU.length j2, .slice i4 XU.length j4] W fun e w' => e = .returned (.bool true) ∧ Below X6.heap.size X6 w') := fun W hW => (sameInts_same _ _ XU W (HXO6.out.kept hW).rows.2 (HYO6.out.kept hW).rows.2).mono fun e w' h => ⟨h.1, hW.trans (h.2.mono hW.size)⟩
        obtain ⟨gt, hgt⟩ : ∃ gt, gt = goodT A U := ⟨_, rfl⟩
        rw [← hgt] at HGI HGS
        have HGI6 : Hid (∀ W, Below X6.heap.size X6 W → Calls Try.prog 11 #[.agg #[.slice (some ⟨g1, 0, none⟩) A.length f1, .slice (some ⟨g2, 0, none⟩) U.length f2]] W fun e w' => e = .returned (.bool gt) ∧ Below X6.heap.size X6 w') := fun W hW => (HGI.out W (hHB26.trans (hW.mono hHB26.size))).mono fun e w' h => ⟨h.1, hW.trans (h.2.mono hW.size)⟩
        have HGS6 : Hid (∀ W, Below X6.heap.size X6 W → Calls Try.prog 12 #[.agg #[.slice (some ⟨g1, 0, none⟩) A.length f1, .slice (some ⟨g2, 0, none⟩) U.length f2]] W fun e w' => e = .returned (.bool gt) ∧ Below X6.heap.size X6 w') := fun W hW => (HGS.out W (hHB26.trans (hW.mono hHB26.size))).mono fun e w' h => ⟨h.1, hW.trans (h.2.mono hW.size)⟩
        have HGX : Hid (is = true → ∀ W, Below X6.heap.size X6 W → Calls Try.prog 11 #[.agg #[.slice i1 XA.length j1, .slice i2 XU.length j2]] W fun e w' => e = .returned (.bool true) ∧ Below W.heap.size W w') := fun h W hW => by
          have h1 := iGoodTurn_any (.slice i1 XA.length j1) (.slice i2 XU.length j2) XA XU W (HXO6.out.kept hW).rows.1 (HXO6.out.kept hW).rows.2
          have h2 : goodT XA XU = true := by
            have h3 := HIS.out
            rw [h] at h3
            unfold nxtB at h3
            rw [HXE.out.1, HXE.out.2, h]
            simp only [if_true]
            have h4 : (goodT A U && goodT A (nxtL A U)) = true := h3.symm
            rw [Bool.and_eq_true] at h4
            exact h4.2
          rw [h2] at h1
          unfold TrnV at h1
          exact h1
        have hbX6 := hbX5.trans (hd56.mono hbX5.size)
        have HX6 : Hid (x5.alloc (.cells #[.slice i3 XA.length j3, .slice i4 XU.length j4] 30) = X6) := hX6.symm
        have HBW6 : Hid (∀ W, Below X6.heap.size X6 W → Below w.heap.size w W) := fun W hW => hbX6.trans (hW.mono hbX6.size)
        have hbd6 : Below X6.heap.size X6 X6.drew := (Below.refl _ _).drew
        have eis : (is != is) = false := by simp
        have ekv : (kv != kv) = false := by simp
        have egt : (gt != gt) = false := by simp
        clear hX6 hd56 hN6 hd46 hHB26 hd5 hy hbX4 hbX5 hbX6 HO4 HN4 HXB2 HB24 HRT HGI HGS HXE hgt HIS HKV p0 p1 HXO6 HYO6 HNI HNS
        go_wp2_with (rw [HX6.out])
        (try rw [HX6.out])
        refine wp_region_quiet (C := fun W => Below X6.heap.size X6 W) (by kernel_rfl) (by kernel_rfl) hbd6 ?_
        refine wpQuiet_step (fun K hK => ?_)
        rw [if_pos (by rfl)]
        refine ⟨.bool is, fun W hW => quiet_ok ?_, hK _ ?_⟩
        · have q := HBOX6.out W hW
          obtain ⟨⟨⟨a0, a1⟩, ⟨b0, b1⟩, ⟨c0, c1⟩⟩, _⟩ := q
          go_simp
          all_goals (try omega)
        clear hK K
        simp only [Act.put, List.setIfInBounds_toArray, List.set_cons_succ, List.set_cons_zero]
        refine wpQuiet_step (fun K hK => ?_)
        rw [if_pos (by rfl)]
        refine ⟨.bool is, fun W hW => quiet_ok ?_, hK _ ?_⟩
        · have q := HBOX6.out W hW
          obtain ⟨⟨⟨a0, a1⟩, ⟨b0, b1⟩, ⟨c0, c1⟩⟩, _⟩ := q
          go_simp
          all_goals (try omega)
        clear hK K
        simp only [Act.put, List.setIfInBounds_toArray, List.set_cons_succ, List.set_cons_zero]
        refine wpQuiet_step (fun K hK => ?_)
        rw [if_pos (by rfl)]
        refine ⟨.bool false, fun W hW => quiet_ok ?_, hK _ ?_⟩
        · have q := HBOX6.out W hW
          obtain ⟨⟨⟨a0, a1⟩, ⟨b0, b1⟩, ⟨c0, c1⟩⟩, _⟩ := q
          go_simp
          all_goals (try omega)
        clear hK K
        simp only [Act.put, List.setIfInBounds_toArray, List.set_cons_succ, List.set_cons_zero]
        refine wpQuiet_step (fun K hK => ?_)
        rw [if_pos (by rfl)]
        refine ⟨.bool false, fun W hW => quiet_ok ?_, hK _ ?_⟩
        · have q := HBOX6.out W hW
          obtain ⟨⟨⟨a0, a1⟩, ⟨b0, b1⟩, ⟨c0, c1⟩⟩, _⟩ := q
          go_simp
          all_goals (try omega)
        clear hK K
        simp only [Act.put, List.setIfInBounds_toArray, List.set_cons_succ, List.set_cons_zero]
        refine wpQuiet_step (fun K hK => ?_)
        rw [if_pos (by rfl)]
        refine ⟨.int .i64 kv, fun W hW => quiet_ok ?_, hK _ ?_⟩
        · have q := HBOX6.out W hW
          obtain ⟨⟨⟨a0, a1⟩, ⟨b0, b1⟩, ⟨c0, c1⟩⟩, _⟩ := q
          go_simp
          all_goals (try omega)
        clear hK K
        simp only [Act.put, List.setIfInBounds_toArray, List.set_cons_succ, List.set_cons_zero]
        refine wpQuiet_step (fun K hK => ?_)
        rw [if_pos (by rfl)]
        refine ⟨.int .i64 kv, fun W hW => quiet_ok ?_, hK _ ?_⟩
        · have q := HBOX6.out W hW
          obtain ⟨⟨⟨a0, a1⟩, ⟨b0, b1⟩, ⟨c0, c1⟩⟩, _⟩ := q
          go_simp
          all_goals (try omega)
        clear hK K
        simp only [Act.put, List.setIfInBounds_toArray, List.set_cons_succ, List.set_cons_zero]
        refine wpQuiet_step (fun K hK => ?_)
        rw [if_pos (by rfl)]
        refine ⟨.bool false, fun W hW => quiet_ok ?_, hK _ ?_⟩
        · have q := HBOX6.out W hW
          obtain ⟨⟨⟨a0, a1⟩, ⟨b0, b1⟩, ⟨c0, c1⟩⟩, _⟩ := q
          go_simp
          all_goals (try omega)
        clear hK K
        simp only [Act.put, List.setIfInBounds_toArray, List.set_cons_succ, List.set_cons_zero]
        refine wpQuiet_step (fun K hK => ?_)
        rw [if_pos (by rfl)]
        refine ⟨.bool false, fun W hW => quiet_ok ?_, hK _ ?_⟩
        · have q := HBOX6.out W hW
          obtain ⟨⟨⟨a0, a1⟩, ⟨b0, b1⟩, ⟨c0, c1⟩⟩, _⟩ := q
          go_simp
          all_goals (try omega)
        clear hK K
        simp only [Act.put, List.setIfInBounds_toArray, List.set_cons_succ, List.set_cons_zero]
        refine wpQuiet_step (fun K hK => ?_)
        rw [if_pos (by rfl)]
        refine ⟨.bool false, fun W hW => quiet_ok ?_, hK _ ?_⟩
        · have q := HBOX6.out W hW
          obtain ⟨⟨⟨a0, a1⟩, ⟨b0, b1⟩, ⟨c0, c1⟩⟩, _⟩ := q
          go_simp
          all_goals (try omega)
        clear hK K
        simp only [Act.put, List.setIfInBounds_toArray, List.set_cons_succ, List.set_cons_zero]
        refine wpQuiet_step (fun K hK => ?_)
        rw [if_pos (by rfl)]
        refine ⟨.pointer (some ⟨x3.heap.size, 1, none⟩), fun W hW => quiet_ok ?_, hK _ ?_⟩
        · have q := HBOX6.out W hW
          obtain ⟨⟨⟨a0, a1⟩, ⟨b0, b1⟩, ⟨c0, c1⟩⟩, _⟩ := q
          go_simp
          all_goals (try omega)
        clear hK K
        simp only [Act.put, List.setIfInBounds_toArray, List.set_cons_succ, List.set_cons_zero]
        refine wpQuiet_step (fun K hK => ?_)
        rw [if_pos (by rfl)]
        refine ⟨.slice i2 XU.length j2, fun W hW => quiet_ok ?_, hK _ ?_⟩
        · have q := HBOX6.out W hW
          obtain ⟨⟨⟨a0, a1⟩, ⟨b0, b1⟩, ⟨c0, c1⟩⟩, _⟩ := q
          go_simp
          all_goals (try omega)
        clear hK K
        simp only [Act.put, List.setIfInBounds_toArray, List.set_cons_succ, List.set_cons_zero]
        refine wpQuiet_step (fun K hK => ?_)
        rw [if_pos (by rfl)]
        refine ⟨.pointer (some ⟨x5.heap.size, 1, none⟩), fun W hW => quiet_ok ?_, hK _ ?_⟩
        · have q := HBOX6.out W hW
          obtain ⟨⟨⟨a0, a1⟩, ⟨b0, b1⟩, ⟨c0, c1⟩⟩, _⟩ := q
          go_simp
          all_goals (try omega)
        clear hK K
        simp only [Act.put, List.setIfInBounds_toArray, List.set_cons_succ, List.set_cons_zero]
        refine wpQuiet_step (fun K hK => ?_)
        rw [if_pos (by rfl)]
        refine ⟨.slice i4 XU.length j4, fun W hW => quiet_ok ?_, hK _ ?_⟩
        · have q := HBOX6.out W hW
          obtain ⟨⟨⟨a0, a1⟩, ⟨b0, b1⟩, ⟨c0, c1⟩⟩, _⟩ := q
          go_simp
          all_goals (try omega)
        clear hK K
        simp only [Act.put, List.setIfInBounds_toArray, List.set_cons_succ, List.set_cons_zero]
        refine wpQuiet_step (fun K hK => ?_)
        rw [if_pos (by rfl)]
        refine ⟨.bool true, fun W hW => quiet_call (f := 7) (args := #[.slice i2 XU.length j2, .slice i4 XU.length j4]) ?_ ?_, hK _ ?_⟩
        · go_simp
        · exact HSI6.out W hW
        clear hK K
        simp only [Act.put, List.setIfInBounds_toArray, List.set_cons_succ, List.set_cons_zero]
        refine wpQuiet_step (fun K hK => ?_)
        rw [if_pos (by rfl)]
        refine ⟨.bool false, fun W hW => quiet_ok ?_, hK _ ?_⟩
        · have q := HBOX6.out W hW
          obtain ⟨⟨⟨a0, a1⟩, ⟨b0, b1⟩, ⟨c0, c1⟩⟩, _⟩ := q
          go_simp
          all_goals (try omega)
        clear hK K
        simp only [Act.put, List.setIfInBounds_toArray, List.set_cons_succ, List.set_cons_zero]
        refine wpQuiet_step (fun K hK => ?_)
        rw [if_pos (by rfl)]
        refine ⟨.bool false, fun W hW => quiet_ok ?_, hK _ ?_⟩
        · have q := HBOX6.out W hW
          obtain ⟨⟨⟨a0, a1⟩, ⟨b0, b1⟩, ⟨c0, c1⟩⟩, _⟩ := q
          go_simp
          all_goals (try omega)
        clear hK K
        simp only [Act.put, List.setIfInBounds_toArray, List.set_cons_succ, List.set_cons_zero]
        refine wpQuiet_step (fun K hK => ?_)
        rw [if_pos (by rfl)]
        refine ⟨.bool false, fun W hW => quiet_ok ?_, hK _ ?_⟩
        · have q := HBOX6.out W hW
          obtain ⟨⟨⟨a0, a1⟩, ⟨b0, b1⟩, ⟨c0, c1⟩⟩, _⟩ := q
          go_simp
          all_goals (try omega)
        clear hK K
        simp only [Act.put, List.setIfInBounds_toArray, List.set_cons_succ, List.set_cons_zero]
        refine wpQuiet_step (fun K hK => ?_)
        rw [if_pos (by rfl)]
        refine ⟨.agg #[.slice (some ⟨g1, 0, none⟩) A.length f1, .slice (some ⟨g2, 0, none⟩) U.length f2], fun W hW => quiet_ok ?_, hK _ ?_⟩
        · have q := HBOX6.out W hW
          obtain ⟨⟨⟨a0, a1⟩, ⟨b0, b1⟩, ⟨c0, c1⟩⟩, _⟩ := q
          go_simp
          all_goals (try omega)
        clear hK K
        simp only [Act.put, List.setIfInBounds_toArray, List.set_cons_succ, List.set_cons_zero]
        refine wpQuiet_step (fun K hK => ?_)
        rw [if_pos (by rfl)]
        refine ⟨.bool gt, fun W hW => quiet_call (f := 11) (args := #[.agg #[.slice (some ⟨g1, 0, none⟩) A.length f1, .slice (some ⟨g2, 0, none⟩) U.length f2]]) ?_ ?_, hK _ ?_⟩
        · go_simp
        · exact HGI6.out W hW
        clear hK K
        simp only [Act.put, List.setIfInBounds_toArray, List.set_cons_succ, List.set_cons_zero]
        refine wpQuiet_step (fun K hK => ?_)
        rw [if_pos (by rfl)]
        refine ⟨.agg #[.slice (some ⟨g1, 0, none⟩) A.length f1, .slice (some ⟨g2, 0, none⟩) U.length f2], fun W hW => quiet_ok ?_, hK _ ?_⟩
        · have q := HBOX6.out W hW
          obtain ⟨⟨⟨a0, a1⟩, ⟨b0, b1⟩, ⟨c0, c1⟩⟩, _⟩ := q
          go_simp
          all_goals (try omega)
        clear hK K
        simp only [Act.put, List.setIfInBounds_toArray, List.set_cons_succ, List.set_cons_zero]
        refine wpQuiet_step (fun K hK => ?_)
        rw [if_pos (by rfl)]
        refine ⟨.bool gt, fun W hW => quiet_call (f := 12) (args := #[.agg #[.slice (some ⟨g1, 0, none⟩) A.length f1, .slice (some ⟨g2, 0, none⟩) U.length f2]]) ?_ ?_, hK _ ?_⟩
        · go_simp
        · exact HGS6.out W hW
        clear hK K
        simp only [Act.put, List.setIfInBounds_toArray, List.set_cons_succ, List.set_cons_zero]
        refine wpQuiet_step (fun K hK => ?_)
        rw [if_pos (by rfl)]
        refine ⟨.bool false, fun W hW => quiet_ok ?_, hK _ ?_⟩
        · have q := HBOX6.out W hW
          obtain ⟨⟨⟨a0, a1⟩, ⟨b0, b1⟩, ⟨c0, c1⟩⟩, _⟩ := q
          go_simp
          all_goals (try omega)
        clear hK K
        simp only [Act.put, List.setIfInBounds_toArray, List.set_cons_succ, List.set_cons_zero]
        refine wpQuiet_step (fun K hK => ?_)
        rw [if_pos (by rfl)]
        refine ⟨.bool false, fun W hW => quiet_ok ?_, hK _ ?_⟩
        · have q := HBOX6.out W hW
          obtain ⟨⟨⟨a0, a1⟩, ⟨b0, b1⟩, ⟨c0, c1⟩⟩, _⟩ := q
          go_simp
          all_goals (try omega)
        clear hK K
        simp only [Act.put, List.setIfInBounds_toArray, List.set_cons_succ, List.set_cons_zero]
        refine wpQuiet_nil ?_
        intro X7 hX67
        have hbw7 := HBW6.out X7 hX67
        clear HSI6 HGI6 HGS6 ekv egt eis HX6 hbd6
        go_wp2_with fail
        refine (HDW.out _ hbw7).mono ?_
        rintro e x8 ⟨⟨u8, L8, rfl, hL8, t8, c8, rfl, hc80, hc81, hbt8, hz8⟩, hd8⟩
        have hX68 := hX67.trans (hd8.mono hX67.size)
        have HZR : Hid (∀ Y, Below x8.heap.size x8 Y → ZRow .i64 Y (.slice (some ⟨t8, 0, none⟩) L8.length c8) L8) := fun Y hY => (hz8.kept hY).rowc hc80 hc81
        have HNW : Hid (∀ Y, Below x8.heap.size x8 Y → Calls Try.prog 14 #[.slice (some ⟨t8, 0, none⟩) L8.length c8] Y fun e w' => (∃ va vu n1 n2, e = .returned (.tuple #[TrnV va vu, .bool (goodW L8)]) ∧ OwnT w' Y.heap.size va vu n1 n2 ∧ n2 = (if goodW L8 then zrs L8.length else [])) ∧ Below Y.heap.size Y w') := fun Y hY => (iNewTurn_any _ L8 Y (HZR.out Y hY) (by omega)).mono fun e w' h => ⟨new_own h.1, h.2⟩
        have HNV : Hid (∀ Y, Below x8.heap.size x8 Y → Calls Try.prog 15 #[.slice (some ⟨t8, 0, none⟩) L8.length c8] Y fun e w' => (∃ va vu n1 n2, e = .returned (.tuple #[TrnV va vu, .bool (goodW L8)]) ∧ OwnT w' Y.heap.size va vu n1 n2 ∧ n2 = (if goodW L8 then zrs L8.length else [])) ∧ Below Y.heap.size Y w') := fun Y hY => (sNewTurn_any _ L8 Y (HZR.out Y hY) (by omega)).mono fun e w' h => ⟨new_own h.1, h.2⟩
        obtain ⟨ok8, hok8⟩ : ∃ ok8, ok8 = goodW L8 := ⟨_, rfl⟩
        obtain ⟨Z8, hZ8⟩ : ∃ Z, Z = (if goodW L8 then zrs L8.length else []) := ⟨_, rfl⟩
        rw [← hZ8] at HNW HNV
        rw [← hok8] at HNW HNV
        have hc8n : L8.length ≤ c8 := hc80
        clear hz8 hok8 hZ8 hX67 hbw7 hd8 hbt8
        go_wp2_with fail
        refine (HNW.out _ (Below.refl _ _)).mono ?_
        rintro e x9 ⟨⟨wa, wu, n1, n2, rfl, how, hn2⟩, hd9⟩
        subst hn2
        obtain ⟨k1, l1, k2, l2, hwa, hwu⟩ := how.shape
        subst hwa
        subst hwu
        unfold TrnV
        obtain ⟨Y9, hY9⟩ : ∃ Y, Y = x9.alloc (.cells #[.slice k1 n1.length l1, .slice k2 n2.length l2] 30) := ⟨_, rfl⟩
        have hd99 : Below x9.heap.size x9 Y9 := by rw [hY9]; exact (Below.refl _ _).alloc (Nat.le_refl _) _
        have hN9 : Y9.heap[x9.heap.size]? = some (.cells #[.slice k1 n1.length l1, .slice k2 n2.length l2] 30) := by rw [hY9]; exact trn_new _ _
        have HN9 : Hid (Y9.heap[x9.heap.size]? = some (.cells #[.slice k1 n1.length l1, .slice k2 n2.length l2] 30)) := hN9
        have hlt9 : x9.heap.size < Y9.heap.size := (Array.getElem?_eq_some_iff.1 hN9).1
        have HOW9 : Hid (OwnT Y9 x8.heap.size (.slice k1 n1.length l1) (.slice k2 n2.length l2) n1 n2) := how.kept hd99
        have HB89 : Hid (Below x8.heap.size x8 Y9) := hd9.trans (hd99.mono hd9.size)
        have HY9 : Hid (x9.alloc (.cells #[.slice k1 n1.length l1, .slice k2 n2.length l2] 30) = Y9) := hY9.symm
        clear hY9 hd99 hN9 how hd9
        go_wp2_with (rw [HY9.out])
        (try rw [HY9.out])
        refine (HNV.out _ HB89.out).mono ?_
        rintro e x10 ⟨⟨ya2, yu2, m1, m2, rfl, how2, hm2⟩, hd10⟩
        replace hm2 := hm2.symm
        subst hm2
        obtain ⟨k3, l3, k4, l4, hwa2, hwu2⟩ := how2.shape
        subst hwa2
        subst hwu2
        unfold TrnV
        obtain ⟨Y10, hY10⟩ : ∃ Y, Y = x10.alloc (.cells #[.slice k3 m1.length l3, .slice k4 n2.length l4] 30) := ⟨_, rfl⟩
        have hd1010 : Below x10.heap.size x10 Y10 := by rw [hY10]; exact (Below.refl _ _).alloc (Nat.le_refl _) _
        have hN10 : Y10.heap[x10.heap.size]? = some (.cells #[.slice k3 m1.length l3, .slice k4 n2.length l4] 30) := by rw [hY10]; exact trn_new _ _
        have hd910 : Below Y9.heap.size Y9 Y10 := hd10.trans (hd1010.mono hd10.size)
        have hS10 := sameInts_same (.slice k2 n2.length l2) (.slice k4 n2.length l4) n2 Y10 (HOW9.out.kept hd910).rows.2 (how2.kept hd1010).rows.2
        have HS10 : Hid (Calls Try.prog 7 #[.slice k2 n2.length l2, .slice k4 n2.length l4] Y10 fun e w' => e = .returned (.bool true) ∧ Below Y10.heap.size Y10 w') := hS10
        obtain ⟨⟨t0', t1'⟩, _⟩ := trn_cells ((hd910.block _ hlt9).trans HN9.out)
        obtain ⟨⟨s0', s1'⟩, _⟩ := trn_cells hN10
        have hX6Y : Below X6.heap.size X6 Y10 := (hX68.trans (HB89.out.mono hX68.size)).trans (hd910.mono (Nat.le_trans hX68.size HB89.out.size))
        obtain ⟨⟨_, ⟨b0, b1⟩, _⟩, _⟩ := HBOX6.out _ hX6Y
        have HY10 : Hid (x10.alloc (.cells #[.slice k3 m1.length l3, .slice k4 n2.length l4] 30) = Y10) := hY10.symm
        have e8 : (ok8 == ok8) = true := by simp
        clear hY10 hd1010 hN10 hd910 how2 hd10 hS10 HNV HNW HZR
        cases is with
        | false =>
          go_wp2_with (rw [HY10.out])
          (try rw [HY10.out])
          refine HS10.out.mono ?_
          rintro e x11 ⟨rfl, hd11⟩
          have hbz := HBW6.out _ (hX6Y.trans (hd11.mono hX6Y.size))
          go_wp2_with fail
          go_ret
          exact ⟨rfl, hbz⟩
        | true =>
          have HGX2 := HGX.out rfl
          have HGX3 : Hid (∀ W, Below X6.heap.size X6 W → Calls Try.prog 11 #[.agg #[.slice i1 XA.length j1, .slice i2 XU.length j2]] W fun e w' => e = .returned (.bool true) ∧ Below W.heap.size W w') := HGX2
          clear HGX HGX2
          go_wp2_with (rw [HY10.out])
          (try rw [HY10.out])
          refine HS10.out.mono ?_
          rintro e x11 ⟨rfl, hd11⟩
          have hX611 := hX6Y.trans (hd11.mono hX6Y.size)
          clear b0 b1 t0' t1' s0' s1'
          obtain ⟨⟨_, ⟨b0, b1⟩, _⟩, _⟩ := HBOX6.out _ hX611
          go_wp2_with fail
          refine (HGX3.out _ hX611).mono ?_
          rintro e x12 ⟨rfl, hd12⟩
          have hbz := HBW6.out _ (hX611.trans (hd12.mono hX611.size))
          go_wp2_with fail
          go_ret
          exact ⟨rfl, hbz⟩
    | true =>
      have HTB : Hid (tuB L m = true) := HOK.out.1.symm
      have HGW : Hid (goodW L = true ∧ inB m 0 600 = true) := by have h := HTB.out; unfold tuB at h; rw [Bool.and_eq_true] at h; exact h
      obtain ⟨M, hM⟩ : ∃ M : Nat, m = (M : Int) := ⟨m.toNat, by have h := HGW.out.2; simp only [inB, Bool.and_eq_true, decide_eq_true_eq] at h; omega⟩
      have hM6 : M ≤ 600 := by have h := HGW.out.2; simp only [inB, Bool.and_eq_true, decide_eq_true_eq] at h; omega
      have HOE : Hid (O = trnP L M) := by show _ = _; rw [HOK.out.2]; unfold tuL; rw [HTB.out, hM]; simp
      have hn12 : n ≤ 12 := by have := (goodW_parts HGW.out.1).1.2; have := HNL.out; omega
      have HTK : Hid (∀ k, k ≤ n → 0 ≤ (L.take k).sum ∧ (L.take k).sum ≤ 600) := fun k hk => by
        have h1 : (L.take k).all wtB = true := List.all_eq_true.2 fun x hx => List.all_eq_true.1 (goodW_parts HGW.out.1).2.1 x (List.mem_of_mem_take hx)
        have h2 := wt_sum _ h1
        have h3 : (L.take k).length ≤ 12 := by rw [List.length_take]; omega
        omega
      clear HS1 HI1 e1 hm HOL
      go_wp2_with fail
      go_loop [11, 68] (fun tv iv => ∃ k : Nat, k ≤ n ∧ iv = .int .i64 (k : Int) ∧ tv = .int .i64 (L.take k).sum) (fun _ iv => n - (intOf iv).toNat)
      case atStart => exact ⟨0, Nat.zero_le _, rfl, by simp⟩
      case round =>
        obtain ⟨k, hk, rfl, rfl⟩ := hrel
        by_cases hlt : k < n
        · have hkL : k < L.length := by rw [HNL.out]; exact hlt
          obtain ⟨r0, r1⟩ := HZ4.out.2 k hkL
          have hn1 := HTK.out k hk
          have hn2 := HTK.out (k + 1) hlt
          have hts := take_sum hkL
          obtain ⟨y, hy⟩ : ∃ y, y = L[k]'hkL := ⟨_, rfl⟩
          obtain ⟨s, hs⟩ : ∃ s, s = (L.take k).sum := ⟨_, rfl⟩
          rw [← hy] at r0 hts
          rw [← hs] at hn1 hts ⊢
          rw [hts] at hn2
          have HTS : Hid ((L.take (k + 1)).sum = s + y) := hts
          have hki : (k : Int) < (n : Int) := by omega
          have hwrp : IntKind.i64.wrap (s + y) = s + y := i64_wrap (by omega) (by omega)
          clear hkL hts hy hs
          go_wp2_with fail
          go_round
          case rel => exact ⟨k + 1, by omega, by go_num, congrArg (Value.int .i64) (by rw [HTS.out])⟩
          case measure => simp [intOf]; omega
        · have hkn : k = n := by omega
          subst hkn
          have hT0 : (L.take k).sum = L.sum := by rw [← HNL.out, List.take_length]
          obtain ⟨T, hT⟩ : ∃ T : Nat, L.sum = (T : Int) := ⟨L.sum.toNat, by have := (goodW_parts HGW.out.1).2.2; omega⟩
          have hTp : 0 < T ∧ T ≤ 600 := by
            have h1 := (goodW_parts HGW.out.1).2.2
            have h2 := HTK.out k (Nat.le_refl _)
            rw [hT0] at h2; omega
          have HT : Hid (L.sum = (T : Int) ∧ L.sum.toNat = T) := ⟨hT, by omega⟩
          rw [hT0, hT]
          have HI2 : Hid (∀ W, ZSRow W t0 L → Calls Try.prog 5 #[.slice (some ⟨t0, 0, none⟩) k c0, .int .i64 (T : Int)] W fun e w' => TuI w' W.heap.size true (trnP L T) e ∧ Below W.heap.size W w') := fun W h => by
            have h2 := HI0.out (T : Int) W h
            have h3 : tuB L (T : Int) = true := by
              unfold tuB; rw [HGW.out.1]
              simp only [inB, Bool.true_and, Bool.and_eq_true, decide_eq_true_eq]; omega
            have h4 : tuL L (T : Int) = trnP L T := by unfold tuL; rw [h3]; simp
            rw [h3, h4] at h2
            exact h2
          clear hT0 hT HI0 hlt hk
          go_wp2_with fail
          refine (HI2.out _ HZ4.out).mono ?_
          rintro e w5 ⟨⟨r, rfl, hr5⟩, hb5⟩
          rcases hr5 with ⟨_, hnil⟩ | ⟨gr, hgr, rfl, hzr⟩
          · have h := trnP_length L T
            rw [hnil] at h; simp at h; omega
          · have HZ5 : Hid (ZSRow w5 t0 L) := HZ4.out.kept hb5
            have HP5 : Hid (OwnZ w5 w1.heap.size p O) := HP4.out.kept hb5
            have HR5 : Hid (ZSRow w5 gr (trnP L T)) := hzr
            have hbw5 := hbw4.trans (hb5.mono hbw4.size)
            have hlt5 : t0 < w5.heap.size ∧ gr < w5.heap.size := ⟨HZ5.out.1, hzr.1⟩
            have HPL5 : Hid (∀ g, p.ownBlock = some g → g < w5.heap.size) := HP5.out.lt
            rw [trnP_length]
            obtain ⟨i0, hi, hz0, hz1, hz2⟩ := info_parts info_intY
            clear HZ4 HP4 hbw4 hb5 hzr HI2
            go_wp2_with (at_make; refine wpList_make_full _ rfl _ _ 23 rfl w5.heap.size 3 i0 (.int .i64 0) 1 Try.underlying23 hi hz0 hz1 _ _ _ _ k rfl rfl rfl rfl ?b2 ?b3 ?b4 ?_)
            case b2 => rw [hz2]; omega
            case b3 => unfold maxLen; omega
            case b4 => exact Nat.le_refl _
            intro w6 hown6 hgrow6
            have hb6 : Below w5.heap.size w5 w6 := (Below.refl _ _).grown hgrow6 (Nat.le_refl _) (fun k h => by cases h)
            have HC6 : Hid (ZSRow w6 w5.heap.size (pckL L 0)) := by rw [pckL_zero, HNL.out]; exact made_zeros (w := w5) hown6
            have HZ6 : Hid (ZSRow w6 t0 L) := HZ5.out.kept hb6
            have HP6 : Hid (OwnZ w6 w1.heap.size p O) := HP5.out.kept hb6
            have HR6 : Hid (ZSRow w6 gr (trnP L T)) := HR5.out.kept hb6
            have hbw6 := hbw5.trans (hb6.mono hbw5.size)
            have hws : w.heap.size ≤ w5.heap.size := hbw5.size
            obtain ⟨gc, hgc⟩ : ∃ g, g = w5.heap.size := ⟨_, rfl⟩
            have HGC : Hid (w5.heap.size = gc) := hgc.symm
            rw [← hgc] at HC6 hlt5 HPL5 hws
            clear HZ5 HP5 HR5 hbw5 hown6 hgrow6 hb6 hgc
            go_wp2_with fail
            (try rw [HGC.out])
            go_loopw [87] (fun iv wr => ∃ j : Nat, j ≤ T ∧ iv = .int .i64 (j : Int) ∧ Hid (ZSRow wr gc (pckL L j)) ∧ Hid (ZSRow wr gr (trnP L T)) ∧ Hid (ZSRow wr t0 L) ∧ Hid (OwnZ wr w1.heap.size p O) ∧ Below w.heap.size w wr) (fun iv _ => T - (intOf iv).toNat)
            case atStart => exact ⟨0, Nat.zero_le _, rfl, HC6, HR6, HZ6, HP6, hbw6⟩
            case round =>
              obtain ⟨j, hj, rfl, HC, HRR, HZ, HP, hb⟩ := hrel
              clear HC6 HR6 HZ6 HP6 hbw6
              by_cases hlt : j < T
              · obtain ⟨r0, r1⟩ := HRR.out.2 j (by rw [trnP_length]; exact hlt)
                rw [trnP_get L T j hlt] at r0
                have hkk : nxtK L (trnU L j) < k := by
                  have h1 := bestN_lt (addZ (trnU L j) L) (trnU L j).length (by rw [trnU_length, HNL.out]; omega)
                  rw [trnU_length, HNL.out] at h1
                  unfold nxtK; rw [trnU_length, HNL.out]; exact h1
                have hpl : nxtK L (trnU L j) < (pckL L j).length := by rw [pckL_length, HNL.out]; exact hkk
                obtain ⟨y0, y1⟩ := HC.out.2 _ hpl
                have hst := HC.out.set _ hpl ((pckL L j)[nxtK L (trnU L j)]'hpl + 1)
                rw [← pckL_next L j (by rw [HNL.out]; exact hkk)] at hst
                have hyb : 0 ≤ (pckL L j)[nxtK L (trnU L j)]'hpl ∧ (pckL L j)[nxtK L (trnU L j)]'hpl ≤ 600 := by
                  simp only [pckL, List.getElem_map, List.getElem_range]
                  have h1 := pckN_nonneg L (nxtK L (trnU L j)) j
                  have h2 := pckN_le L (nxtK L (trnU L j)) j
                  omega
                obtain ⟨y, hy⟩ : ∃ y, y = (pckL L j)[nxtK L (trnU L j)]'hpl := ⟨_, rfl⟩
                rw [← hy] at y0 hst hyb
                clear hy hpl
                obtain ⟨kk, hkk2⟩ : ∃ kk, kk = nxtK L (trnU L j) := ⟨_, rfl⟩
                rw [← hkk2] at r0 hkk y0 y1 hst
                clear hkk2
                have hks := kpt_set wr gc kk (.int .i64 (y + 1)) (S := fun q => q = gc) rfl
                have HC2 : Hid (ZSRow (wr.setCell ⟨gc, kk, none⟩ (.int .i64 (y + 1))) gc (pckL L (j + 1))) := hst
                have HR2 : Hid (ZSRow (wr.setCell ⟨gc, kk, none⟩ (.int .i64 (y + 1))) gr (trnP L T)) := HRR.out.apart hks (by omega)
                have HZ2 : Hid (ZSRow (wr.setCell ⟨gc, kk, none⟩ (.int .i64 (y + 1))) t0 L) := HZ.out.apart hks (by omega)
                have HP2 : Hid (OwnZ (wr.setCell ⟨gc, kk, none⟩ (.int .i64 (y + 1))) w1.heap.size p O) := ownz_kpt HP.out hks (fun q hq e => by have := HPL5.out q hq; omega)
                have hb2 : Below w.heap.size w (wr.setCell ⟨gc, kk, none⟩ (.int .i64 (y + 1))) := hb.trans (hks.below hb.size (fun q hq e => by omega))
                have hji : (j : Int) < (T : Int) := by omega
                have hki : (kk : Int) < (k : Int) := by omega
                clear hst hks HC HRR HZ HP
                go_wp2_with fail
                go_roundw
                case rel => exact ⟨j + 1, by omega, by go_num, HC2, HR2, HZ2, HP2, hb2⟩
                case measure => simp [intOf]; omega
              · have hjT : j = T := by omega
                subst hjT
                have HCL : Hid (ZSRow wr gc L) := by
                  have h := HC.out
                  have h2 := pckL_all HGW.out.1
                  rw [HT.out.2] at h2
                  rw [h2] at h; exact h
                have hrc := HCL.out.rowc (cap := k) (by rw [HNL.out]; exact Nat.le_refl _) (by omega)
                rw [HNL.out] at hrc
                have HRC : Hid (ZRow .i64 wr (.slice (some ⟨gc, 0, none⟩) k k) L) := hrc
                clear hlt hj HC HCL hrc
                go_wp2_with fail
                refine (sameInts_same _ _ L wr HRC.out (HRL.out _ HZ.out)).mono ?_
                rintro e w8 ⟨rfl, hb8⟩
                have HZ8 : Hid (ZSRow w8 t0 L) := HZ.out.kept hb8
                have HP8 : Hid (OwnZ w8 w1.heap.size p O) := HP.out.kept hb8
                have HR8 : Hid (ZSRow w8 gr (trnP L j)) := HRR.out.kept hb8
                have hbw8 := hb.trans (hb8.mono hb.size)
                have HOM : Hid (O.length = M) := by show _ = _; rw [HOE.out, trnP_length]
                have hpr := HP8.out.row (by rw [HOM.out]; omega)
                obtain ⟨pa, pc, hpv, hpc1, _, HPR⟩ := zrow_value hpr
                subst hpv
                rw [HOM.out]
                clear HZ HP HRR hb hb8 hpr HRC
                go_wp2_with fail
                go_loop [108] (fun iv => ∃ i : Nat, i ≤ M ∧ iv = .int .i64 (i : Int)) (fun iv => M - (intOf iv).toNat)
                case atStart => exact ⟨0, Nat.zero_le _, rfl⟩
                case round =>
                  obtain ⟨i, hi2, rfl⟩ := hrel
                  by_cases hlt : i < M
                  · obtain ⟨pb, po, hpa, _, hpcel⟩ := HPR.out (by rw [HOM.out]; omega)
                    rw [hpa]
                    have q0 := hpcel i (by rw [HOM.out]; exact hlt)
                    have him : i % j < j := Nat.mod_lt _ hTp.1
                    have hOi : O[i]'(by rw [HOM.out]; exact hlt) = (nxtK L (trnU L (i % j)) : Int) := by
                      simp only [HOE.out]
                      rw [trnP_get L M i hlt, trnU_mod HGW.out.1 i, HT.out.2]
                    rw [hOi] at q0
                    obtain ⟨z0, z1⟩ := HR8.out.2 (i % j) (by rw [trnP_length]; exact him)
                    rw [trnP_get L j (i % j) him] at z0
                    obtain ⟨kk, hkk⟩ : ∃ kk : Int, kk = (nxtK L (trnU L (i % j)) : Int) := ⟨_, rfl⟩
                    rw [← hkk] at q0 z0
                    have e2 : (kk != kk) = false := by simp
                    have hj0 : ¬ ((j : Int) = 0) := by omega
                    have hrem : Int.tmod (i : Int) (j : Int) = ((i % j : Nat) : Int) := by rw [Int.ofNat_tmod]
                    have hii : (i : Int) < (M : Int) := by omega
                    obtain ⟨d, hd⟩ : ∃ d, d = i % j := ⟨_, rfl⟩
                    rw [← hd] at him z0 z1 hrem
                    have hdi : (d : Int) < (j : Int) := by omega
                    clear hOi hkk hpcel hd
                    go_wp2_with fail
                    go_round
                    case rel => exact ⟨i + 1, by omega, by go_num⟩
                    case measure => simp [intOf]; omega
                  · go_wp2_with fail
                    refine (HDN.out _ hbw8).mono ?_
                    rintro e x1 ⟨⟨va, vu, A, U, rfl, hA, hU, ho⟩, hc1⟩
                    rcases ho with ⟨_, _, hA0, _⟩ | ⟨g1, f1, g2, f2, rfl, rfl, h3, h4, h5, h6, h7, h8, h9, zr1, zr2⟩
                    · rw [hA0] at hA; exact absurd hA.1 (by decide)
                    · unfold TrnV
                      have HU : Hid (U.length = A.length) := hU
                      have hU13 : U.length ≤ 13 := by omega
                      clear hU
                      have hbx1 := hbw8.trans (hc1.mono hbw8.size)
                      obtain ⟨X2, hX2⟩ : ∃ X, X = x1.alloc (.cells #[.slice (some ⟨g1, 0, none⟩) A.length f1, .slice (some ⟨g2, 0, none⟩) U.length f2] 30) := ⟨_, rfl⟩
                      have hc12 : Below x1.heap.size x1 X2 := by rw [hX2]; exact (Below.refl _ _).alloc (Nat.le_refl _) _
                      have hbox2 : X2.heap[x1.heap.size]? = some (.cells #[.slice (some ⟨g1, 0, none⟩) A.length f1, .slice (some ⟨g2, 0, none⟩) U.length f2] 30) := by rw [hX2]; exact trn_new _ _
                      have HXB2 : Hid (X2.heap[x1.heap.size]? = some (.cells #[.slice (some ⟨g1, 0, none⟩) A.length f1, .slice (some ⟨g2, 0, none⟩) U.length f2] 30)) := hbox2
                      have HRT : Hid (∀ Y, Below X2.heap.size X2 Y → ZRow .i64 Y (.slice (some ⟨g1, 0, none⟩) A.length f1) A ∧ ZRow .i64 Y (.slice (some ⟨g2, 0, none⟩) U.length f2) U) := fun Y hY => ⟨((zr1.kept hc12).kept hY).rowc h3 h4, ((zr2.kept hc12).kept hY).rowc h5 h6⟩
                      have HNI : Hid (∀ Y, Below X2.heap.size X2 Y → Calls Try.prog 9 #[.agg #[.slice (some ⟨g1, 0, none⟩) A.length f1, .slice (some ⟨g2, 0, none⟩) U.length f2]] Y fun e w' => NTA w' Y.heap.size (nxtB A U) (nxtK A U) A (nxtL A U) e ∧ Below Y.heap.size Y w') := fun Y hY => iNextTurn_any _ _ A U Y (HRT.out Y hY).1 (HRT.out Y hY).2 (by omega)
                      have HNS : Hid (∀ Y, Below X2.heap.size X2 Y → Calls Try.prog 10 #[.agg #[.slice (some ⟨g1, 0, none⟩) A.length f1, .slice (some ⟨g2, 0, none⟩) U.length f2]] Y fun e w' => NTA w' Y.heap.size (nxtB A U) (nxtK A U) A (nxtL A U) e ∧ Below Y.heap.size Y w') := fun Y hY => sNextTurn_any _ _ A U Y (HRT.out Y hY).1 (HRT.out Y hY).2 (by omega)
                      have HGI : Hid (∀ Y, Below X2.heap.size X2 Y → Calls Try.prog 11 #[.agg #[.slice (some ⟨g1, 0, none⟩) A.length f1, .slice (some ⟨g2, 0, none⟩) U.length f2]] Y fun e w' => e = .returned (.bool (goodT A U)) ∧ Below Y.heap.size Y w') := fun Y hY => iGoodTurn_any _ _ A U Y (HRT.out Y hY).1 (HRT.out Y hY).2
                      have HGS : Hid (∀ Y, Below X2.heap.size X2 Y → Calls Try.prog 12 #[.agg #[.slice (some ⟨g1, 0, none⟩) A.length f1, .slice (some ⟨g2, 0, none⟩) U.length f2]] Y fun e w' => e = .returned (.bool (goodT A U)) ∧ Below Y.heap.size Y w') := fun Y hY => sGoodTurn_any _ _ A U Y (HRT.out Y hY).1 (HRT.out Y hY).2 (by omega)
                      have hbX2 := hbx1.trans (hc12.mono hbx1.size)
                      have HX2 : Hid (x1.alloc (.cells #[.slice (some ⟨g1, 0, none⟩) A.length f1, .slice (some ⟨g2, 0, none⟩) U.length f2] 30) = X2) := hX2.symm
                      obtain ⟨⟨p0, p1⟩, _⟩ := trn_cells hbox2
                      have hbt3 : x1.heap.size < X2.heap.size := (Array.getElem?_eq_some_iff.1 hbox2).1
                      obtain ⟨is, his⟩ : ∃ is, is = nxtB A U := ⟨_, rfl⟩
                      have HIS : Hid (is = nxtB A U) := his
                      rw [← his] at HNI HNS
                      clear hX2 hc12 hbox2 hc1 hbx1 zr1 zr2 h3 h4 h5 h6 h7 h8 h9 his
                      go_wp2_with (rw [HX2.out])
                      (try rw [HX2.out])
                      refine (HNI.out X2 (Below.refl _ _)).mono ?_
                      rintro e x3 ⟨⟨xa, xu, rfl, hx⟩, hd3⟩
                      obtain ⟨XA, hXA⟩ : ∃ XA, XA = (if is then A else []) := ⟨_, rfl⟩
                      obtain ⟨XU, hXU⟩ : ∃ XU, XU = (if is then nxtL A U else []) := ⟨_, rfl⟩
                      obtain ⟨kv, hkv⟩ : ∃ kv : Int, kv = (if is then (nxtK A U : Int) else 0) := ⟨_, rfl⟩
                      have HXE : Hid (XA = (if is then A else []) ∧ XU = (if is then nxtL A U else [])) := ⟨hXA, hXU⟩
                      have HKV : Hid (kv = (if is then (nxtK A U : Int) else 0)) := hkv
                      rw [← hXA, ← hXU] at hx
                      rw [← hkv]
                      obtain ⟨i1, j1, i2, j2, hxa, hxu⟩ := hx.shape
                      subst hxa
                      subst hxu
                      unfold TrnV
                      clear hXA hXU hkv
                      have hbX3 := hbX2.trans (hd3.mono hbX2.size)
                      have hs23 := hd3.size
                      obtain ⟨X4, hX4⟩ : ∃ X, X = x3.alloc (.cells #[.slice i1 XA.length j1, .slice i2 XU.length j2] 30) := ⟨_, rfl⟩
                      have hd34 : Below x3.heap.size x3 X4 := by rw [hX4]; exact (Below.refl _ _).alloc (Nat.le_refl _) _
                      have HN4 : Hid (X4.heap[x3.heap.size]? = some (.cells #[.slice i1 XA.length j1, .slice i2 XU.length j2] 30)) := by rw [hX4]; exact trn_new _ _
                      have HB24 : Hid (Below X2.heap.size X2 X4) := hd3.trans (hd34.mono hd3.size)
                      have hbox4 := (HB24.out.block _ hbt3).trans HXB2.out
                      have HO4 : Hid (OwnT X4 X2.heap.size (.slice i1 XA.length j1) (.slice i2 XU.length j2) XA XU) := hx.kept hd34
                      have hbX4 := hbX3.trans (hd34.mono hbX3.size)
                      have HX4 : Hid (x3.alloc (.cells #[.slice i1 XA.length j1, .slice i2 XU.length j2] 30) = X4) := hX4.symm
                      have hlt4 : x3.heap.size < X4.heap.size := (Array.getElem?_eq_some_iff.1 HN4.out).1
                      clear p0 p1 hd3 hX4 hd34 hx hbX3 hbX2 HX2
                      obtain ⟨⟨p0, p1⟩, _⟩ := trn_cells hbox4
                      clear hbox4
                      go_wp2_with (rw [HX4.out])
                      (try rw [HX4.out])
                      refine (HNS.out X4 HB24.out).mono ?_
                      rintro e x5 ⟨⟨ya, yu, rfl, hy⟩, hd5⟩
                      rw [← HXE.out.1, ← HXE.out.2] at hy
                      rw [← HKV.out]
                      obtain ⟨i3, j3, i4, j4, hya, hyu⟩ := hy.shape
                      subst hya
                      subst hyu
                      unfold TrnV
                      have hs45 := hd5.size
                      have hbX5 := hbX4.trans (hd5.mono hbX4.size)
                      obtain ⟨X6, hX6⟩ : ∃ X, X = x5.alloc (.cells #[.slice i3 XA.length j3, .slice i4 XU.length j4] 30) := ⟨_, rfl⟩
                      have hd56 : Below x5.heap.size x5 X6 := by rw [hX6]; exact (Below.refl _ _).alloc (Nat.le_refl _) _
                      have hN6 : X6.heap[x5.heap.size]? = some (.cells #[.slice i3 XA.length j3, .slice i4 XU.length j4] 30) := by rw [hX6]; exact trn_new _ _
                      have hlt6 : x5.heap.size < X6.heap.size := (Array.getElem?_eq_some_iff.1 hN6).1
                      have hd46 : Below X4.heap.size X4 X6 := hd5.trans (hd56.mono hd5.size)
                      have hs46 := hd46.size
                      have hHB26 : Below X2.heap.size X2 X6 := HB24.out.trans (hd46.mono HB24.out.size)
                      have HBOX6 : Hid (∀ W, Below X6.heap.size X6 W → ((W.cell? ⟨x1.heap.size, 0, none⟩ = some (.slice (some ⟨g1, 0, none⟩) A.length f1) ∧ W.cell? ⟨x1.heap.size, 1, none⟩ = some (.slice (some ⟨g2, 0, none⟩) U.length f2)) ∧ (W.cell? ⟨x3.heap.size, 0, none⟩ = some (.slice i1 XA.length j1) ∧ W.cell? ⟨x3.heap.size, 1, none⟩ = some (.slice i2 XU.length j2)) ∧ (W.cell? ⟨x5.heap.size, 0, none⟩ = some (.slice i3 XA.length j3) ∧ W.cell? ⟨x5.heap.size, 1, none⟩ = some (.slice i4 XU.length j4))) ∧ Below X6.heap.size X6 W) := fun W hW =>
                        ⟨⟨(trn_cells ((hW.block _ (by omega)).trans ((hHB26.block _ hbt3).trans HXB2.out))).1, (trn_cells ((hW.block _ (by omega)).trans ((hd46.block _ hlt4).trans HN4.out))).1, (trn_cells ((hW.block _ hlt6).trans hN6)).1⟩, hW⟩
                      have HXO6 : Hid (OwnT X6 X2.heap.size (.slice i1 XA.length j1) (.slice i2 XU.length j2) XA XU) := HO4.out.kept hd46
                      have HYO6 : Hid (OwnT X6 X4.heap.size (.slice i3 XA.length j3) (.slice i4 XU.length j4) XA XU) := hy.kept hd56
                      have HSI6 : Hid (∀ W, Below X6.heap.size X6 W → Calls Try.prog 7 #[.slice i2 XU.length j2, .slice i4 XU.length j4] W fun e w' => e = .returned (.bool true) ∧ Below X6.heap.size X6 w') := fun W hW => (sameInts_same _ _ XU W (HXO6.out.kept hW).rows.2 (HYO6.out.kept hW).rows.2).mono fun e w' h => ⟨h.1, hW.trans (h.2.mono hW.size)⟩
                      obtain ⟨gt, hgt⟩ : ∃ gt, gt = goodT A U := ⟨_, rfl⟩
                      rw [← hgt] at HGI HGS
                      have HGI6 : Hid (∀ W, Below X6.heap.size X6 W → Calls Try.prog 11 #[.agg #[.slice (some ⟨g1, 0, none⟩) A.length f1, .slice (some ⟨g2, 0, none⟩) U.length f2]] W fun e w' => e = .returned (.bool gt) ∧ Below X6.heap.size X6 w') := fun W hW => (HGI.out W (hHB26.trans (hW.mono hHB26.size))).mono fun e w' h => ⟨h.1, hW.trans (h.2.mono hW.size)⟩
                      have HGS6 : Hid (∀ W, Below X6.heap.size X6 W → Calls Try.prog 12 #[.agg #[.slice (some ⟨g1, 0, none⟩) A.length f1, .slice (some ⟨g2, 0, none⟩) U.length f2]] W fun e w' => e = .returned (.bool gt) ∧ Below X6.heap.size X6 w') := fun W hW => (HGS.out W (hHB26.trans (hW.mono hHB26.size))).mono fun e w' h => ⟨h.1, hW.trans (h.2.mono hW.size)⟩
                      have HGX : Hid (is = true → ∀ W, Below X6.heap.size X6 W → Calls Try.prog 11 #[.agg #[.slice i1 XA.length j1, .slice i2 XU.length j2]] W fun e w' => e = .returned (.bool true) ∧ Below W.heap.size W w') := fun h W hW => by
                        have h1 := iGoodTurn_any (.slice i1 XA.length j1) (.slice i2 XU.length j2) XA XU W (HXO6.out.kept hW).rows.1 (HXO6.out.kept hW).rows.2
                        have h2 : goodT XA XU = true := by
                          have h3 := HIS.out
                          rw [h] at h3
                          unfold nxtB at h3
                          rw [HXE.out.1, HXE.out.2, h]
                          simp only [if_true]
                          have h4 : (goodT A U && goodT A (nxtL A U)) = true := h3.symm
                          rw [Bool.and_eq_true] at h4
                          exact h4.2
                        rw [h2] at h1
                        unfold TrnV at h1
                        exact h1
                      have hbX6 := hbX5.trans (hd56.mono hbX5.size)
                      have HX6 : Hid (x5.alloc (.cells #[.slice i3 XA.length j3, .slice i4 XU.length j4] 30) = X6) := hX6.symm
                      have HBW6 : Hid (∀ W, Below X6.heap.size X6 W → Below w.heap.size w W) := fun W hW => hbX6.trans (hW.mono hbX6.size)
                      have hbd6 : Below X6.heap.size X6 X6.drew := (Below.refl _ _).drew
                      have eis : (is != is) = false := by simp
                      have ekv : (kv != kv) = false := by simp
                      have egt : (gt != gt) = false := by simp
                      clear hX6 hd56 hN6 hd46 hHB26 hd5 hy hbX4 hbX5 hbX6 HO4 HN4 HXB2 HB24 HRT HGI HGS HXE hgt HIS HKV p0 p1 HXO6 HYO6 HNI HNS
                      go_wp2_with (rw [HX6.out])
                      (try rw [HX6.out])
                      refine wp_region_quiet (C := fun W => Below X6.heap.size X6 W) (by kernel_rfl) (by kernel_rfl) hbd6 ?_
                      refine wpQuiet_step (fun K hK => ?_)
                      rw [if_pos (by rfl)]
                      refine ⟨.bool is, fun W hW => quiet_ok ?_, hK _ ?_⟩
                      · have q := HBOX6.out W hW
                        obtain ⟨⟨⟨a0, a1⟩, ⟨b0, b1⟩, ⟨c0, c1⟩⟩, _⟩ := q
                        go_simp
                        all_goals (try omega)
                      clear hK K
                      simp only [Act.put, List.setIfInBounds_toArray, List.set_cons_succ, List.set_cons_zero]
                      refine wpQuiet_step (fun K hK => ?_)
                      rw [if_pos (by rfl)]
                      refine ⟨.bool is, fun W hW => quiet_ok ?_, hK _ ?_⟩
                      · have q := HBOX6.out W hW
                        obtain ⟨⟨⟨a0, a1⟩, ⟨b0, b1⟩, ⟨c0, c1⟩⟩, _⟩ := q
                        go_simp
                        all_goals (try omega)
                      clear hK K
                      simp only [Act.put, List.setIfInBounds_toArray, List.set_cons_succ, List.set_cons_zero]
                      refine wpQuiet_step (fun K hK => ?_)
                      rw [if_pos (by rfl)]
                      refine ⟨.bool false, fun W hW => quiet_ok ?_, hK _ ?_⟩
                      · have q := HBOX6.out W hW
                        obtain ⟨⟨⟨a0, a1⟩, ⟨b0, b1⟩, ⟨c0, c1⟩⟩, _⟩ := q
                        go_simp
                        all_goals (try omega)
                      clear hK K
                      simp only [Act.put, List.setIfInBounds_toArray, List.set_cons_succ, List.set_cons_zero]
                      refine wpQuiet_step (fun K hK => ?_)
                      rw [if_pos (by rfl)]
                      refine ⟨.bool false, fun W hW => quiet_ok ?_, hK _ ?_⟩
                      · have q := HBOX6.out W hW
                        obtain ⟨⟨⟨a0, a1⟩, ⟨b0, b1⟩, ⟨c0, c1⟩⟩, _⟩ := q
                        go_simp
                        all_goals (try omega)
                      clear hK K
                      simp only [Act.put, List.setIfInBounds_toArray, List.set_cons_succ, List.set_cons_zero]
                      refine wpQuiet_step (fun K hK => ?_)
                      rw [if_pos (by rfl)]
                      refine ⟨.int .i64 kv, fun W hW => quiet_ok ?_, hK _ ?_⟩
                      · have q := HBOX6.out W hW
                        obtain ⟨⟨⟨a0, a1⟩, ⟨b0, b1⟩, ⟨c0, c1⟩⟩, _⟩ := q
                        go_simp
                        all_goals (try omega)
                      clear hK K
                      simp only [Act.put, List.setIfInBounds_toArray, List.set_cons_succ, List.set_cons_zero]
                      refine wpQuiet_step (fun K hK => ?_)
                      rw [if_pos (by rfl)]
                      refine ⟨.int .i64 kv, fun W hW => quiet_ok ?_, hK _ ?_⟩
                      · have q := HBOX6.out W hW
                        obtain ⟨⟨⟨a0, a1⟩, ⟨b0, b1⟩, ⟨c0, c1⟩⟩, _⟩ := q
                        go_simp
                        all_goals (try omega)
                      clear hK K
                      simp only [Act.put, List.setIfInBounds_toArray, List.set_cons_succ, List.set_cons_zero]
                      refine wpQuiet_step (fun K hK => ?_)
                      rw [if_pos (by rfl)]
                      refine ⟨.bool false, fun W hW => quiet_ok ?_, hK _ ?_⟩
                      · have q := HBOX6.out W hW
                        obtain ⟨⟨⟨a0, a1⟩, ⟨b0, b1⟩, ⟨c0, c1⟩⟩, _⟩ := q
                        go_simp
                        all_goals (try omega)
                      clear hK K
                      simp only [Act.put, List.setIfInBounds_toArray, List.set_cons_succ, List.set_cons_zero]
                      refine wpQuiet_step (fun K hK => ?_)
                      rw [if_pos (by rfl)]
                      refine ⟨.bool false, fun W hW => quiet_ok ?_, hK _ ?_⟩
                      · have q := HBOX6.out W hW
                        obtain ⟨⟨⟨a0, a1⟩, ⟨b0, b1⟩, ⟨c0, c1⟩⟩, _⟩ := q
                        go_simp
                        all_goals (try omega)
                      clear hK K
                      simp only [Act.put, List.setIfInBounds_toArray, List.set_cons_succ, List.set_cons_zero]
                      refine wpQuiet_step (fun K hK => ?_)
                      rw [if_pos (by rfl)]
                      refine ⟨.bool false, fun W hW => quiet_ok ?_, hK _ ?_⟩
                      · have q := HBOX6.out W hW
                        obtain ⟨⟨⟨a0, a1⟩, ⟨b0, b1⟩, ⟨c0, c1⟩⟩, _⟩ := q
                        go_simp
                        all_goals (try omega)
                      clear hK K
                      simp only [Act.put, List.setIfInBounds_toArray, List.set_cons_succ, List.set_cons_zero]
                      refine wpQuiet_step (fun K hK => ?_)
                      rw [if_pos (by rfl)]
                      refine ⟨.pointer (some ⟨x3.heap.size, 1, none⟩), fun W hW => quiet_ok ?_, hK _ ?_⟩
                      · have q := HBOX6.out W hW
                        obtain ⟨⟨⟨a0, a1⟩, ⟨b0, b1⟩, ⟨c0, c1⟩⟩, _⟩ := q
                        go_simp
                        all_goals (try omega)
                      clear hK K
                      simp only [Act.put, List.setIfInBounds_toArray, List.set_cons_succ, List.set_cons_zero]
                      refine wpQuiet_step (fun K hK => ?_)
                      rw [if_pos (by rfl)]
                      refine ⟨.slice i2 XU.length j2, fun W hW => quiet_ok ?_, hK _ ?_⟩
                      · have q := HBOX6.out W hW
                        obtain ⟨⟨⟨a0, a1⟩, ⟨b0, b1⟩, ⟨c0, c1⟩⟩, _⟩ := q
                        go_simp
                        all_goals (try omega)
                      clear hK K
                      simp only [Act.put, List.setIfInBounds_toArray, List.set_cons_succ, List.set_cons_zero]
                      refine wpQuiet_step (fun K hK => ?_)
                      rw [if_pos (by rfl)]
                      refine ⟨.pointer (some ⟨x5.heap.size, 1, none⟩), fun W hW => quiet_ok ?_, hK _ ?_⟩
                      · have q := HBOX6.out W hW
                        obtain ⟨⟨⟨a0, a1⟩, ⟨b0, b1⟩, ⟨c0, c1⟩⟩, _⟩ := q
                        go_simp
                        all_goals (try omega)
                      clear hK K
                      simp only [Act.put, List.setIfInBounds_toArray, List.set_cons_succ, List.set_cons_zero]
                      refine wpQuiet_step (fun K hK => ?_)
                      rw [if_pos (by rfl)]
                      refine ⟨.slice i4 XU.length j4, fun W hW => quiet_ok ?_, hK _ ?_⟩
                      · have q := HBOX6.out W hW
                        obtain ⟨⟨⟨a0, a1⟩, ⟨b0, b1⟩, ⟨c0, c1⟩⟩, _⟩ := q
                        go_simp
                        all_goals (try omega)
                      clear hK K
                      simp only [Act.put, List.setIfInBounds_toArray, List.set_cons_succ, List.set_cons_zero]
                      refine wpQuiet_step (fun K hK => ?_)
                      rw [if_pos (by rfl)]
                      refine ⟨.bool true, fun W hW => quiet_call (f := 7) (args := #[.slice i2 XU.length j2, .slice i4 XU.length j4]) ?_ ?_, hK _ ?_⟩
                      · go_simp
                      · exact HSI6.out W hW
                      clear hK K
                      simp only [Act.put, List.setIfInBounds_toArray, List.set_cons_succ, List.set_cons_zero]
                      refine wpQuiet_step (fun K hK => ?_)
                      rw [if_pos (by rfl)]
                      refine ⟨.bool false, fun W hW => quiet_ok ?_, hK _ ?_⟩
                      · have q := HBOX6.out W hW
                        obtain ⟨⟨⟨a0, a1⟩, ⟨b0, b1⟩, ⟨c0, c1⟩⟩, _⟩ := q
                        go_simp
                        all_goals (try omega)
                      clear hK K
                      simp only [Act.put, List.setIfInBounds_toArray, List.set_cons_succ, List.set_cons_zero]
                      refine wpQuiet_step (fun K hK => ?_)
                      rw [if_pos (by rfl)]
                      refine ⟨.bool false, fun W hW => quiet_ok ?_, hK _ ?_⟩
                      · have q := HBOX6.out W hW
                        obtain ⟨⟨⟨a0, a1⟩, ⟨b0, b1⟩, ⟨c0, c1⟩⟩, _⟩ := q
                        go_simp
                        all_goals (try omega)
                      clear hK K
                      simp only [Act.put, List.setIfInBounds_toArray, List.set_cons_succ, List.set_cons_zero]
                      refine wpQuiet_step (fun K hK => ?_)
                      rw [if_pos (by rfl)]
                      refine ⟨.bool false, fun W hW => quiet_ok ?_, hK _ ?_⟩
                      · have q := HBOX6.out W hW
                        obtain ⟨⟨⟨a0, a1⟩, ⟨b0, b1⟩, ⟨c0, c1⟩⟩, _⟩ := q
                        go_simp
                        all_goals (try omega)
                      clear hK K
                      simp only [Act.put, List.setIfInBounds_toArray, List.set_cons_succ, List.set_cons_zero]
                      refine wpQuiet_step (fun K hK => ?_)
                      rw [if_pos (by rfl)]
                      refine ⟨.agg #[.slice (some ⟨g1, 0, none⟩) A.length f1, .slice (some ⟨g2, 0, none⟩) U.length f2], fun W hW => quiet_ok ?_, hK _ ?_⟩
                      · have q := HBOX6.out W hW
                        obtain ⟨⟨⟨a0, a1⟩, ⟨b0, b1⟩, ⟨c0, c1⟩⟩, _⟩ := q
                        go_simp
                        all_goals (try omega)
                      clear hK K
                      simp only [Act.put, List.setIfInBounds_toArray, List.set_cons_succ, List.set_cons_zero]
                      refine wpQuiet_step (fun K hK => ?_)
                      rw [if_pos (by rfl)]
                      refine ⟨.bool gt, fun W hW => quiet_call (f := 11) (args := #[.agg #[.slice (some ⟨g1, 0, none⟩) A.length f1, .slice (some ⟨g2, 0, none⟩) U.length f2]]) ?_ ?_, hK _ ?_⟩
                      · go_simp
                      · exact HGI6.out W hW
                      clear hK K
                      simp only [Act.put, List.setIfInBounds_toArray, List.set_cons_succ, List.set_cons_zero]
                      refine wpQuiet_step (fun K hK => ?_)
                      rw [if_pos (by rfl)]
                      refine ⟨.agg #[.slice (some ⟨g1, 0, none⟩) A.length f1, .slice (some ⟨g2, 0, none⟩) U.length f2], fun W hW => quiet_ok ?_, hK _ ?_⟩
                      · have q := HBOX6.out W hW
                        obtain ⟨⟨⟨a0, a1⟩, ⟨b0, b1⟩, ⟨c0, c1⟩⟩, _⟩ := q
                        go_simp
                        all_goals (try omega)
                      clear hK K
                      simp only [Act.put, List.setIfInBounds_toArray, List.set_cons_succ, List.set_cons_zero]
                      refine wpQuiet_step (fun K hK => ?_)
                      rw [if_pos (by rfl)]
                      refine ⟨.bool gt, fun W hW => quiet_call (f := 12) (args := #[.agg #[.slice (some ⟨g1, 0, none⟩) A.length f1, .slice (some ⟨g2, 0, none⟩) U.length f2]]) ?_ ?_, hK _ ?_⟩
                      · go_simp
                      · exact HGS6.out W hW
                      clear hK K
                      simp only [Act.put, List.setIfInBounds_toArray, List.set_cons_succ, List.set_cons_zero]
                      refine wpQuiet_step (fun K hK => ?_)
                      rw [if_pos (by rfl)]
                      refine ⟨.bool false, fun W hW => quiet_ok ?_, hK _ ?_⟩
                      · have q := HBOX6.out W hW
                        obtain ⟨⟨⟨a0, a1⟩, ⟨b0, b1⟩, ⟨c0, c1⟩⟩, _⟩ := q
                        go_simp
                        all_goals (try omega)
                      clear hK K
                      simp only [Act.put, List.setIfInBounds_toArray, List.set_cons_succ, List.set_cons_zero]
                      refine wpQuiet_step (fun K hK => ?_)
                      rw [if_pos (by rfl)]
                      refine ⟨.bool false, fun W hW => quiet_ok ?_, hK _ ?_⟩
                      · have q := HBOX6.out W hW
                        obtain ⟨⟨⟨a0, a1⟩, ⟨b0, b1⟩, ⟨c0, c1⟩⟩, _⟩ := q
                        go_simp
                        all_goals (try omega)
                      clear hK K
                      simp only [Act.put, List.setIfInBounds_toArray, List.set_cons_succ, List.set_cons_zero]
                      refine wpQuiet_nil ?_
                      intro X7 hX67
                      have hbw7 := HBW6.out X7 hX67
                      clear HSI6 HGI6 HGS6 ekv egt eis HX6 hbd6
                      go_wp2_with fail
                      refine (HDW.out _ hbw7).mono ?_
                      rintro e x8 ⟨⟨u8, L8, rfl, hL8, t8, c8, rfl, hc80, hc81, hbt8, hz8⟩, hd8⟩
                      have hX68 := hX67.trans (hd8.mono hX67.size)
                      have HZR : Hid (∀ Y, Below x8.heap.size x8 Y → ZRow .i64 Y (.slice (some ⟨t8, 0, none⟩) L8.length c8) L8) := fun Y hY => (hz8.kept hY).rowc hc80 hc81
                      have HNW : Hid (∀ Y, Below x8.heap.size x8 Y → Calls Try.prog 14 #[.slice (some ⟨t8, 0, none⟩) L8.length c8] Y fun e w' => (∃ va vu n1 n2, e = .returned (.tuple #[TrnV va vu, .bool (goodW L8)]) ∧ OwnT w' Y.heap.size va vu n1 n2 ∧ n2 = (if goodW L8 then zrs L8.length else [])) ∧ Below Y.heap.size Y w') := fun Y hY => (iNewTurn_any _ L8 Y (HZR.out Y hY) (by omega)).mono fun e w' h => ⟨new_own h.1, h.2⟩
                      have HNV : Hid (∀ Y, Below x8.heap.size x8 Y → Calls Try.prog 15 #[.slice (some ⟨t8, 0, none⟩) L8.length c8] Y fun e w' => (∃ va vu n1 n2, e = .returned (.tuple #[TrnV va vu, .bool (goodW L8)]) ∧ OwnT w' Y.heap.size va vu n1 n2 ∧ n2 = (if goodW L8 then zrs L8.length else [])) ∧ Below Y.heap.size Y w') := fun Y hY => (sNewTurn_any _ L8 Y (HZR.out Y hY) (by omega)).mono fun e w' h => ⟨new_own h.1, h.2⟩
                      obtain ⟨ok8, hok8⟩ : ∃ ok8, ok8 = goodW L8 := ⟨_, rfl⟩
                      obtain ⟨Z8, hZ8⟩ : ∃ Z, Z = (if goodW L8 then zrs L8.length else []) := ⟨_, rfl⟩
                      rw [← hZ8] at HNW HNV
                      rw [← hok8] at HNW HNV
                      have hc8n : L8.length ≤ c8 := hc80
                      clear hz8 hok8 hZ8 hX67 hbw7 hd8 hbt8
                      go_wp2_with fail
                      refine (HNW.out _ (Below.refl _ _)).mono ?_
                      rintro e x9 ⟨⟨wa, wu, n1, n2, rfl, how, hn2⟩, hd9⟩
                      subst hn2
                      obtain ⟨k1, l1, k2, l2, hwa, hwu⟩ := how.shape
                      subst hwa
                      subst hwu
                      unfold TrnV
                      obtain ⟨Y9, hY9⟩ : ∃ Y, Y = x9.alloc (.cells #[.slice k1 n1.length l1, .slice k2 n2.length l2] 30) := ⟨_, rfl⟩
                      have hd99 : Below x9.heap.size x9 Y9 := by rw [hY9]; exact (Below.refl _ _).alloc (Nat.le_refl _) _
                      have hN9 : Y9.heap[x9.heap.size]? = some (.cells #[.slice k1 n1.length l1, .slice k2 n2.length l2] 30) := by rw [hY9]; exact trn_new _ _
                      have HN9 : Hid (Y9.heap[x9.heap.size]? = some (.cells #[.slice k1 n1.length l1, .slice k2 n2.length l2] 30)) := hN9
                      have hlt9 : x9.heap.size < Y9.heap.size := (Array.getElem?_eq_some_iff.1 hN9).1
                      have HOW9 : Hid (OwnT Y9 x8.heap.size (.slice k1 n1.length l1) (.slice k2 n2.length l2) n1 n2) := how.kept hd99
                      have HB89 : Hid (Below x8.heap.size x8 Y9) := hd9.trans (hd99.mono hd9.size)
                      have HY9 : Hid (x9.alloc (.cells #[.slice k1 n1.length l1, .slice k2 n2.length l2] 30) = Y9) := hY9.symm
                      clear hY9 hd99 hN9 how hd9
                      go_wp2_with (rw [HY9.out])
                      (try rw [HY9.out])
                      refine (HNV.out _ HB89.out).mono ?_
                      rintro e x10 ⟨⟨ya2, yu2, m1, m2, rfl, how2, hm2⟩, hd10⟩
                      replace hm2 := hm2.symm
                      subst hm2
                      obtain ⟨k3, l3, k4, l4, hwa2, hwu2⟩ := how2.shape
                      subst hwa2
                      subst hwu2
                      unfold TrnV
                      obtain ⟨Y10, hY10⟩ : ∃ Y, Y = x10.alloc (.cells #[.slice k3 m1.length l3, .slice k4 n2.length l4] 30) := ⟨_, rfl⟩
                      have hd1010 : Below x10.heap.size x10 Y10 := by rw [hY10]; exact (Below.refl _ _).alloc (Nat.le_refl _) _
                      have hN10 : Y10.heap[x10.heap.size]? = some (.cells #[.slice k3 m1.length l3, .slice k4 n2.length l4] 30) := by rw [hY10]; exact trn_new _ _
                      have hd910 : Below Y9.heap.size Y9 Y10 := hd10.trans (hd1010.mono hd10.size)
                      have hS10 := sameInts_same (.slice k2 n2.length l2) (.slice k4 n2.length l4) n2 Y10 (HOW9.out.kept hd910).rows.2 (how2.kept hd1010).rows.2
                      have HS10 : Hid (Calls Try.prog 7 #[.slice k2 n2.length l2, .slice k4 n2.length l4] Y10 fun e w' => e = .returned (.bool true) ∧ Below Y10.heap.size Y10 w') := hS10
                      obtain ⟨⟨t0', t1'⟩, _⟩ := trn_cells ((hd910.block _ hlt9).trans HN9.out)
                      obtain ⟨⟨s0', s1'⟩, _⟩ := trn_cells hN10
                      have hX6Y : Below X6.heap.size X6 Y10 := (hX68.trans (HB89.out.mono hX68.size)).trans (hd910.mono (Nat.le_trans hX68.size HB89.out.size))
                      obtain ⟨⟨_, ⟨b0, b1⟩, _⟩, _⟩ := HBOX6.out _ hX6Y
                      have HY10 : Hid (x10.alloc (.cells #[.slice k3 m1.length l3, .slice k4 n2.length l4] 30) = Y10) := hY10.symm
                      have e8 : (ok8 == ok8) = true := by simp
                      clear hY10 hd1010 hN10 hd910 how2 hd10 hS10 HNV HNW HZR
                      cases is with
                      | false =>
                        go_wp2_with (rw [HY10.out])
                        (try rw [HY10.out])
                        refine HS10.out.mono ?_
                        rintro e x11 ⟨rfl, hd11⟩
                        have hbz := HBW6.out _ (hX6Y.trans (hd11.mono hX6Y.size))
                        go_wp2_with fail
                        go_ret
                        exact ⟨rfl, hbz⟩
                      | true =>
                        have HGX2 := HGX.out rfl
                        have HGX3 : Hid (∀ W, Below X6.heap.size X6 W → Calls Try.prog 11 #[.agg #[.slice i1 XA.length j1, .slice i2 XU.length j2]] W fun e w' => e = .returned (.bool true) ∧ Below W.heap.size W w') := HGX2
                        clear HGX HGX2
                        go_wp2_with (rw [HY10.out])
                        (try rw [HY10.out])
                        refine HS10.out.mono ?_
                        rintro e x11 ⟨rfl, hd11⟩
                        have hX611 := hX6Y.trans (hd11.mono hX6Y.size)
                        clear b0 b1 t0' t1' s0' s1'
                        obtain ⟨⟨_, ⟨b0, b1⟩, _⟩, _⟩ := HBOX6.out _ hX611
                        go_wp2_with fail
                        refine (HGX3.out _ hX611).mono ?_
                        rintro e x12 ⟨rfl, hd12⟩
                        have hbz := HBW6.out _ (hX611.trans (hd12.mono hX611.size))
                        go_wp2_with fail
                        go_ret
                        exact ⟨rfl, hbz⟩
end Go.Proofs.Ytfbnigicigajeaa.lawTurns
