import Derived.Test.YtacmipcjhbkdcaaZ13
import Derived.Test.YtacmipcjhbkdcaaZ10
import Derived.Test.YtacmipcjhbkdcaaZ08
import Derived.Laws.Tables
import Derived.Deep.RegionHeld3
namespace Go.Proofs.Ytacmipcjhbkdcaa
open Go.RowKit

theorem i64_wrapC {x : Int} (h1 : -9223372036854775808 ≤ x) (h2 : x ≤ 9223372036854775807) : IntKind.i64.wrap x = x := by
  simp [IntKind.wrap, IntKind.signed, IntKind.bits]; omega
def lkf (D : List (LkT × Value)) : List LkT := D.map (fun x => x.1)
theorem lkf_len (D : List (LkT × Value)) : (lkf D).length = D.length := by simp [lkf]
theorem lkf_get {D : List (LkT × Value)} {k : Nat} (h : k < D.length) : (lkf D).getD k zLk = D[k].1 := by
  unfold lkf
  rw [List.getD_eq_getElem?_getD, List.getElem?_map, List.getElem?_eq_getElem h]; rfl
theorem lkf_set (D : List (LkT × Value)) (k : Nat) (y : LkT × Value) : lkf (D.set k y) = (lkf D).set k y.1 := by
  unfold lkf; rw [List.map_set]
theorem set_split {D A B : List (LkT × Value)} {x y : LkT × Value} (e : D = A ++ x :: B) : D.set A.length y = A ++ y :: B := by
  subst e
  rw [List.set_append_right _ _ (Nat.le_refl _), Nat.sub_self]; rfl
/-- A number of the link number k written. -/
theorem LBld.putI {W : World} {base g cap n : Nat} {D : List (LkT × Value)} (h : LBld W base (.slice (some ⟨g, 0, Option.none⟩) n cap) D) {k : Nat} (hk : k < D.length) (y : LkT × Value) (r : Nat) (u : Value) (hr : r < 3) (hs : lkc y = (lkc D[k]).set r u) (hd : y.1.1 = D[k].1.1) (hv : y.2 = D[k].2) :
    LBld (W.setCell ⟨g, k * 3 + r, Option.none⟩ u) base (.slice (some ⟨g, 0, Option.none⟩) n cap) (D.set k y) := by
  obtain ⟨A, B, e, hA⟩ := lk_at k hk
  have h2 := h
  rw [e] at h2
  have h3 := (h2.put (y := y) r u hr hs hd hv).1
  rw [hA] at h3
  have h4 := set_split (y := y) e
  rw [hA] at h4
  rw [h4]; exact h3
theorem LBld.atI {W : World} {base g cap n : Nat} {D : List (LkT × Value)} (h : LBld W base (.slice (some ⟨g, 0, Option.none⟩) n cap) D) {k : Nat} (hk : k < D.length) :
    (W.cell? ⟨g, k * 3, Option.none⟩ = some D[k].2 ∧ W.cell? ⟨g, k * 3 + 1, Option.none⟩ = some (.int .i64 D[k].1.2.1) ∧ W.cell? ⟨g, k * 3 + 2, Option.none⟩ = some (.int .i64 D[k].1.2.2)) ∧ (∀ j, W.frozen? ⟨g, j, Option.none⟩ = false) ∧ base ≤ g := by
  obtain ⟨g2, c2, e, hb, h1, h2, _⟩ := place_lk h k hk
  cases e
  exact ⟨h1, h2, hb⟩
theorem LBld.relogI {W W' : World} {base g cap n : Nat} {D : List (LkT × Value)} (h : LBld W base (.slice (some ⟨g, 0, Option.none⟩) n cap) D) {k : Nat} (hk : k < D.length) {d : List (List UInt8)} {dv : Value}
    (ho : W'.ownsRow base 9 1 dv d.length (d.map S)) (hg : W.grownBy W' D[k].2.ownBlock) (hf : ∀ j, dv.ownBlock = some j → D[k].2.ownBlock = some j ∨ W.heap.size ≤ j) :
    LBld (W'.setCell ⟨g, k * 3, Option.none⟩ dv) base (.slice (some ⟨g, 0, Option.none⟩) n cap) (D.set k ((d, D[k].1.2), dv)) ∧ (∃ u, W'.cell? ⟨g, k * 3, Option.none⟩ = some u) ∧ ∀ j, W'.frozen? ⟨g, j, Option.none⟩ = false := by
  obtain ⟨A, B, e, hA⟩ := lk_at k hk
  have h2 := h
  rw [e] at h2
  obtain ⟨h3, _, _, h4, h5⟩ := h2.relog ho hg hf
  rw [hA] at h3 h4
  have h6 := set_split (y := ((d, D[k].1.2), dv)) e
  rw [hA] at h6
  rw [h6]
  exact ⟨h3, ⟨_, h4.1⟩, h5⟩
theorem LBld.logI {W : World} {base : Nat} {v : Value} {D : List (LkT × Value)} (h : LBld W base v D) {k : Nat} (hk : k < D.length) : W.ownsRow base 9 1 D[k].2 D[k].1.1.length (D[k].1.1.map S) := h.2.1 _ (List.getElem_mem hk)

set_option maxRecDepth 20000 in
set_option maxHeartbeats 400000 in
theorem tail_any (a : Option Addr) (n cap : Nat) (w : World) (hn : n ≤ 1000) : Calls Try.prog 66 #[.slice a n cap] w fun e w' => e = .returned (.int .i64 ((n : Int) - 1)) ∧ w' = w := by
  have wn : IntKind.i64.wrap ((n : Int) - 1) = (n : Int) - 1 := i64_wrapC (by omega) (by omega)
  have wm : wrap64 ((n : Int) - 1) = (n : Int) - 1 := by unfold wrap64; omega
  go_enter Try.func66, Try.ntmps66
  go_wp2_with fail
  go_ret
  exact ⟨by first | rfl | exact ret_int wn | exact ret_int wm, rfl⟩

set_option maxRecDepth 20000 in
set_option maxHeartbeats 400000 in
theorem hasNext_any (a : Option Addr) (n cap : Nat) (k : Int) (w : World) (hn : n ≤ 1000) : Calls Try.prog 63 #[.slice a n cap, .int .i64 k] w fun e w' => e = .returned (.bool (decide (0 ≤ k) && decide (k ≤ (n : Int) - 2))) ∧ w' = w := by
  have wn : IntKind.i64.wrap ((n : Int) - 1 - 1) = (n : Int) - 2 := by rw [i64_wrapC (by omega) (by omega)]; omega
  have wn2 : ((n : Int) - 1 - 1) = (n : Int) - 2 := by omega
  go_enter Try.func63, Try.ntmps63
  go_wp2_with fail
  refine (tail_any a n cap w hn).mono ?_
  rintro e w1 ⟨rfl, rfl⟩
  go_wp2_with fail
  refine (iWithin_anyC k 0 _ _).mono ?_
  rintro e w2 ⟨rfl, rfl⟩
  go_wp2_with fail
  go_ret
  exact ⟨rfl, rfl⟩

/-- What keep leaves. -/
def keepL (L : List LkT) (k : Nat) (s : List UInt8) : List LkT :=
  let x := L.getD k zLk
  let m : Int := (x.1.length : Int) + 1
  let L2 := L.set k (x.1 ++ [s], x.2.1, if k + 1 = L.length then m else x.2.2)
  if 0 < k then L2.set (k - 1) ((L.getD (k - 1) zLk).1, m, (L.getD (k - 1) zLk).2.2) else L2

set_option maxRecDepth 20000 in
set_option maxHeartbeats 4000000 in
theorem keep_any (base g cap n : Nat) (D : List (LkT × Value)) (k : Nat) (s : List UInt8) (w : World) (h : LBld w base (.slice (some ⟨g, 0, none⟩) n cap) D) (hn : n = D.length) (hk : k < n) (hn6 : n ≤ 1000) (hb : base ≤ w.heap.size) (hl : (D[k]'(by omega)).1.1.length ≤ 1000) :
    Calls Try.prog 62 #[.slice (some ⟨g, 0, none⟩) n cap, .int .i64 (k : Int), .string ⟨s.toArray⟩] w fun e w' => e = .returned (.tuple #[]) ∧ (∃ D', LBld w' base (.slice (some ⟨g, 0, none⟩) n cap) D' ∧ lkf D' = keepL (lkf D) k s) ∧ Below base w w' := by
  obtain ⟨i0, hi, hz0, hz1, hz2⟩ := info_parts info_string
  have hkD : k < D.length := by omega
  have HX : Hid ((lkf D).getD k zLk = (D[k]'hkD).1) := lkf_get hkD
  obtain ⟨x, hx⟩ : ∃ x, x = D[k]'hkD := ⟨_, rfl⟩
  have HXE : Hid (x = D[k]'hkD) := hx
  obtain ⟨wA, hwA⟩ : ∃ wA, wA = w.alloc (.cells #[.string ⟨s.toArray⟩] 9) := ⟨_, rfl⟩
  have hbA : Below w.heap.size w wA := by rw [hwA]; exact (Below.refl _ _).alloc (Nat.le_refl _) _
  have HWA : Hid (w.alloc (.cells #[.string ⟨s.toArray⟩] 9) = wA) := hwA.symm
  have hA := h.kept hbA
  have hnew : ∀ j u, [S s][j]? = some u → wA.cell? ((⟨w.heap.size, 0, none⟩ : Addr).add j) = some u := fun j u hj => by
    cases j with
    | zero => simp only [List.getElem?_cons_zero, Option.some.injEq] at hj; subst hj; rw [add_0C, hwA]; unfold World.cell?; rw [blk_new]; rfl
    | succ j => simp at hj
  obtain ⟨⟨c0, c1, c2⟩, hfz, hbg⟩ := h.atI hkD
  have HLA : Hid (LBld wA base (.slice (some ⟨g, 0, none⟩) n cap) D) := hA
  have hown := hA.logI hkD
  have hzA : base ≤ wA.heap.size := Nat.le_trans hb hbA.size
  have HBA : Hid (Below base w wA) := hbA.mono hb
  rw [← hx] at c0 hown hl
  obtain ⟨⟨xd, xs, xu⟩, dv⟩ := x
  simp only at c0 hown hl
  have hkn : (k : Int) < (n : Int) := by omega
  obtain ⟨ad, cd, hdv, hcd, hcm, _⟩ := own_sliceC hown
  subst hdv
  have HN : Hid (n = D.length) := hn
  have HKD : Hid (k < D.length) := hkD
  have HBG : Hid (base ≤ g) := hbg
  clear h hA hwA hx c1 c2 hbA hfz hn
  go_enter Try.func62, Try.ntmps62
  go_wp2_with (first | rw [HWA.out] | (at_builtin; refine Go.Proofs.Ytacmipcjhbkdcaa.wpList_append_own_at _ rfl (.tmp 12) (.tmp 14) 67 rfl base 9 i0 (.string ByteArray.empty) 1 16 Try.underlying67 hi hz0 hz1 hz2 rfl (by decide) _ _ _ rfl hown ⟨w.heap.size, 0, none⟩ 1 1 [S s] rfl rfl hnew (S_one [s]) ?d3 ?d4 ?d5 ?_))
  case d3 => unfold maxLen; omega
  case d4 => omega
  case d5 => exact hzA
  intro v2 w2 hown2 hgrow2 hfresh
  have hbd2 : Below base wA w2 := (Below.refl _ _).grown hgrow2 hzA (fun j hj => (hown.lt j hj).1)
  have hb2 : Below base w w2 := HBA.out.trans hbd2
  have hrl := HLA.out.relogI hkD (d := xd ++ [s]) (dv := v2) (by rw [List.length_append, List.map_append]; exact hown2) (by rw [← HXE.out]; exact hgrow2) (by rw [← HXE.out]; exact hfresh)
  obtain ⟨hL2, ⟨u2, z0⟩, zf⟩ := hrl
  rw [← HXE.out] at hL2
  obtain ⟨av, cv, hv2, _, _, _⟩ := own_sliceC hown2
  subst hv2
  have f0 := zf (k * 3)
  obtain ⟨D2, hD2⟩ : ∃ D2, D2 = D.set k (((xd ++ [s], xs, xu), Value.slice av (xd.length + 1) cv) : LkT × Value) := ⟨_, rfl⟩
  have HD2 : Hid (D2 = D.set k (((xd ++ [s], xs, xu), Value.slice av (xd.length + 1) cv) : LkT × Value)) := hD2
  have hD2l : D2.length = D.length := by rw [hD2]; simp
  have hkD2 : k < D2.length := by rw [hD2l]; exact hkD
  have HDK : Hid (D2[k]'hkD2 = ((xd ++ [s], xs, xu), Value.slice av (xd.length + 1) cv)) := by show _ = _; simp [hD2]
  have HDL : Hid (D2.length = D.length) := hD2l
  clear hD2l
  obtain ⟨W3, hW3⟩ : ∃ W3, W3 = w2.setCell ⟨g, k * 3, none⟩ (.slice av (xd.length + 1) cv) := ⟨_, rfl⟩
  have HW3 : Hid (w2.setCell ⟨g, k * 3, none⟩ (.slice av (xd.length + 1) cv) = W3) := hW3.symm
  have HB3 : Hid (Below base w W3) := by rw [hW3]; exact hb2.setCell (p := ⟨g, k * 3, none⟩) hbg _
  have HL3 : Hid (LBld W3 base (.slice (some ⟨g, 0, none⟩) n cap) D2) := by rw [hW3, hD2]; exact hL2
  clear hL2 hown2 hgrow2 hfresh hbd2 hb2 zf HLA HBA hzA hown hnew hD2 hW3 c0
  go_wp2_with fail
  rw [HW3.out]
  clear HW3 z0 f0 hbg hcd hcm
  go_wp2_with fail
  refine (tail_any _ n cap _ hn6).mono ?_
  rintro e w4 ⟨rfl, rfl⟩
  have HLL : Hid ((lkf D).length = n) := by show _ = _; rw [lkf_len, ← HN.out]
  have HKL : Hid (lkf D2 = (lkf D).set k (xd ++ [s], xs, xu)) := by show _ = _; rw [HD2.out, lkf_set]
  obtain ⟨m, hm⟩ : ∃ m : Nat, m = xd.length + 1 := ⟨_, rfl⟩
  have HM : Hid ((m : Int) = (xd.length : Int) + 1) := by show _ = _; omega
  have hml : m ≤ 1001 := by omega
  rw [← hm] at HDK
  clear hm HD2
  by_cases hkt : (k : Int) = (n : Int) - 1
  · have ekt : ((k : Int) == (n : Int) - 1) = true := by simp [hkt]
    have HKT : Hid (k + 1 = n) := by show _ = _; omega
    obtain ⟨⟨d0, d1, d2⟩, df, _⟩ := HL3.out.atI hkD2
    simp only [HDK.out] at d0 d1 d2
    have df2 := df (k * 3 + 2)
    have hP := HL3.out.putI hkD2 ((xd ++ [s], xs, (m : Int)), .slice av m cv) 2 (.int .i64 (m : Int)) (by omega) (by simp only [HDK.out]; rfl) (by simp only [HDK.out]) (by simp only [HDK.out])
    obtain ⟨D4, hD4⟩ : ∃ D4, D4 = D2.set k (((xd ++ [s], xs, (m : Int)), Value.slice av m cv) : LkT × Value) := ⟨_, rfl⟩
    rw [← hD4] at hP
    have HK4 : Hid (lkf D4 = (lkf D).set k (xd ++ [s], xs, (m : Int))) := by show _ = _; rw [hD4, lkf_set, HKL.out, List.set_set]
    have HD4L : Hid (D4.length = D.length) := by show _ = _; rw [hD4, List.length_set, HDL.out]
    have hkD4 : k < D4.length := by rw [HD4L.out]; exact HKD.out
    have HDK4 : Hid (D4[k]'hkD4 = ((xd ++ [s], xs, (m : Int)), Value.slice av m cv)) := by show _ = _; simp [hD4]
    obtain ⟨W5, hW5⟩ : ∃ W5, W5 = w4.setCell ⟨g, k * 3 + 2, none⟩ (.int .i64 (m : Int)) := ⟨_, rfl⟩
    have HW5 : Hid (w4.setCell ⟨g, k * 3 + 2, none⟩ (.int .i64 (m : Int)) = W5) := hW5.symm
    have HB5 : Hid (Below base w W5) := by rw [hW5]; exact HB3.out.setCell (p := ⟨g, k * 3 + 2, none⟩) HBG.out _
    have HL5 : Hid (LBld W5 base (.slice (some ⟨g, 0, none⟩) n cap) D4) := by rw [hW5]; exact hP
    clear hP hD4 hW5 df hkt
    by_cases hk0 : 0 < k
    · obtain ⟨⟨q0, q1, q2⟩, df, _⟩ := HL5.out.atI hkD4
      simp only [HDK4.out] at q0 q1 q2
      have hj : k - 1 < D4.length := by rw [HD4L.out]; have := HKD.out; omega
      obtain ⟨⟨j0, j1, j2⟩, _, _⟩ := HL5.out.atI hj
      obtain ⟨y, hy⟩ : ∃ y, y = D4[k - 1]'hj := ⟨_, rfl⟩
      rw [← hy] at j1
      have jf := df ((k - 1) * 3 + 1)
      have hP := HL5.out.putI hj ((y.1.1, (m : Int), y.1.2.2), y.2) 1 (.int .i64 (m : Int)) (by omega) (by rw [← hy]; rfl) (by rw [← hy]) (by rw [← hy])
      have HFIN : Hid (lkf (D4.set (k - 1) ((y.1.1, (m : Int), y.1.2.2), y.2)) = keepL (lkf D) k s) := by
        show _ = _
        have e1 : y.1 = (lkf D).getD (k - 1) zLk := by
          rw [hy, ← lkf_get hj, HK4.out]
          rw [List.getD_eq_getElem?_getD, List.getD_eq_getElem?_getD, List.getElem?_set_ne (by omega)]
        rw [lkf_set, HK4.out]
        unfold keepL
        simp only [HX.out, ← HXE.out, HLL.out, if_pos hk0]
        rw [if_pos HKT.out, e1, HM.out]
      obtain ⟨i1, hi1⟩ : ∃ i1, i1 = k - 1 := ⟨_, rfl⟩
      have wi : IntKind.i64.wrap ((k : Int) - 1) = (i1 : Int) := by rw [i64_wrapC (by omega) (by omega)]; omega
      have wi2 : wrap64 ((k : Int) - 1) = (i1 : Int) := by unfold wrap64; omega
      have wi3 : (k : Int) - 1 = (i1 : Int) := by omega
      have hin : (i1 : Int) < (n : Int) := by omega
      have hkp : (0 : Int) < (k : Int) := by omega
      rw [← hi1] at j1 jf hP HFIN
      have HP : Hid (LBld (W5.setCell ⟨g, i1 * 3 + 1, none⟩ (.int .i64 (m : Int))) base (.slice (some ⟨g, 0, none⟩) n cap) (D4.set i1 ((y.1.1, (m : Int), y.1.2.2), y.2))) := hP
      have HB6 : Hid (Below base w (W5.setCell ⟨g, i1 * 3 + 1, none⟩ (.int .i64 (m : Int)))) := HB5.out.setCell (p := ⟨g, i1 * 3 + 1, none⟩) HBG.out _
      clear hP df j0 j2 q1 q2 hi1 hy
      go_wp2_with (rw [HW5.out])
      (try simp only [Exit.inBlock, Exit.then])
      refine bodyPost_end (results_none rfl _ _ _) rfl ?_
      exact ⟨rfl, ⟨_, HP.out, HFIN.out⟩, HB6.out⟩
    · have hkn0 : ¬ (0 : Int) < (k : Int) := by omega
      have HFIN : Hid (lkf D4 = keepL (lkf D) k s) := by
        show _ = _
        rw [HK4.out]
        unfold keepL
        simp only [HX.out, ← HXE.out, HLL.out, if_neg hk0]
        rw [if_pos HKT.out, HM.out]
      go_wp2_with (rw [HW5.out])
      (try simp only [Exit.inBlock, Exit.then])
      refine bodyPost_end (results_none rfl _ _ _) rfl ?_
      exact ⟨rfl, ⟨_, HL5.out, HFIN.out⟩, HB5.out⟩
  · have ekt : ((k : Int) == (n : Int) - 1) = false := by simp [hkt]
    have HKT : Hid (¬ k + 1 = n) := by show ¬ _; omega
    clear hkt
    by_cases hk0 : 0 < k
    · obtain ⟨⟨d0, d1, d2⟩, df, _⟩ := HL3.out.atI hkD2
      simp only [HDK.out] at d0 d1 d2
      have hj : k - 1 < D2.length := by rw [HDL.out]; have := HKD.out; omega
      obtain ⟨⟨j0, j1, j2⟩, _, _⟩ := HL3.out.atI hj
      obtain ⟨y, hy⟩ : ∃ y, y = D2[k - 1]'hj := ⟨_, rfl⟩
      rw [← hy] at j1
      have jf := df ((k - 1) * 3 + 1)
      have hP := HL3.out.putI hj ((y.1.1, (m : Int), y.1.2.2), y.2) 1 (.int .i64 (m : Int)) (by omega) (by rw [← hy]; rfl) (by rw [← hy]) (by rw [← hy])
      have HFIN : Hid (lkf (D2.set (k - 1) ((y.1.1, (m : Int), y.1.2.2), y.2)) = keepL (lkf D) k s) := by
        show _ = _
        have e1 : y.1 = (lkf D).getD (k - 1) zLk := by
          rw [hy, ← lkf_get hj, HKL.out]
          rw [List.getD_eq_getElem?_getD, List.getD_eq_getElem?_getD, List.getElem?_set_ne (by omega)]
        rw [lkf_set, HKL.out]
        unfold keepL
        simp only [HX.out, ← HXE.out, HLL.out, if_pos hk0]
        rw [if_neg HKT.out, e1, HM.out]
      obtain ⟨i1, hi1⟩ : ∃ i1, i1 = k - 1 := ⟨_, rfl⟩
      have wi : IntKind.i64.wrap ((k : Int) - 1) = (i1 : Int) := by rw [i64_wrapC (by omega) (by omega)]; omega
      have wi2 : wrap64 ((k : Int) - 1) = (i1 : Int) := by unfold wrap64; omega
      have wi3 : (k : Int) - 1 = (i1 : Int) := by omega
      have hin : (i1 : Int) < (n : Int) := by omega
      have hkp : (0 : Int) < (k : Int) := by omega
      rw [← hi1] at j1 jf hP HFIN
      have HP : Hid (LBld (w4.setCell ⟨g, i1 * 3 + 1, none⟩ (.int .i64 (m : Int))) base (.slice (some ⟨g, 0, none⟩) n cap) (D2.set i1 ((y.1.1, (m : Int), y.1.2.2), y.2))) := hP
      have HB6 : Hid (Below base w (w4.setCell ⟨g, i1 * 3 + 1, none⟩ (.int .i64 (m : Int)))) := HB3.out.setCell (p := ⟨g, i1 * 3 + 1, none⟩) HBG.out _
      clear hP df j0 j2 d1 d2 hi1 hy
      go_wp2_with fail
      (try simp only [Exit.inBlock, Exit.then])
      refine bodyPost_end (results_none rfl _ _ _) rfl ?_
      exact ⟨rfl, ⟨_, HP.out, HFIN.out⟩, HB6.out⟩
    · have hkn0 : ¬ (0 : Int) < (k : Int) := by omega
      have HFIN : Hid (lkf D2 = keepL (lkf D) k s) := by
        show _ = _
        rw [HKL.out]
        unfold keepL
        simp only [HX.out, ← HXE.out, HLL.out, if_neg hk0]
        rw [if_neg HKT.out]
      go_wp2_with fail
      (try simp only [Exit.inBlock, Exit.then])
      refine bodyPost_end (results_none rfl _ _ _) rfl ?_
      exact ⟨rfl, ⟨_, HL3.out, HFIN.out⟩, HB3.out⟩
end Go.Proofs.Ytacmipcjhbkdcaa

namespace Go.Proofs.Ytacmipcjhbkdcaa
open Go.RowKit

def learnB (L : List LkT) (k : Nat) (su : Int) : Bool := decide ((L.getD k zLk).2.2 < su)
def learnL (L : List LkT) (k : Nat) (su : Int) : List LkT := if learnB L k su then L.set k ((L.getD k zLk).1, (L.getD k zLk).2.1, su) else L

set_option maxRecDepth 20000 in
set_option maxHeartbeats 2000000 in
theorem learn_any (base g cap n : Nat) (D : List (LkT × Value)) (k : Nat) (su : Int) (w : World) (h : LBld w base (.slice (some ⟨g, 0, none⟩) n cap) D) (hn : n = D.length) (hk : k < n) (_ : n ≤ 1000) :
    Calls Try.prog 65 #[.slice (some ⟨g, 0, none⟩) n cap, .int .i64 (k : Int), .int .i64 su] w fun e w' => e = .returned (.bool (learnB (lkf D) k su)) ∧ (∃ D', LBld w' base (.slice (some ⟨g, 0, none⟩) n cap) D' ∧ lkf D' = learnL (lkf D) k su) ∧ Below base w w' := by
  have hkD : k < D.length := by omega
  have HLB : Hid (learnB (lkf D) k su = decide ((D[k]'hkD).1.2.2 < su)) := by show _ = _; unfold learnB; rw [lkf_get hkD]
  obtain ⟨⟨c0, c1, c2⟩, hfz, hbg⟩ := h.atI hkD
  obtain ⟨x, hx⟩ : ∃ x, x = D[k]'hkD := ⟨_, rfl⟩
  have f2 := hfz (k * 3 + 2)
  have hP := h.putI hkD ((x.1.1, x.1.2.1, su), x.2) 2 (.int .i64 su) (by omega) (by rw [hx]; rfl) (by rw [hx]) (by rw [hx])
  have HLY : Hid (learnB (lkf D) k su = true → lkf (D.set k ((x.1.1, x.1.2.1, su), x.2)) = learnL (lkf D) k su) := fun h => by
    unfold learnL
    rw [if_pos h, lkf_set, lkf_get hkD, hx]
  have HLN : Hid (learnB (lkf D) k su = false → lkf D = learnL (lkf D) k su) := fun h => by
    unfold learnL
    rw [if_neg (by rw [h]; simp)]
  rw [← hx] at c0 c1 c2 HLB
  have HP : Hid (LBld (w.setCell ⟨g, k * 3 + 2, none⟩ (.int .i64 su)) base (.slice (some ⟨g, 0, none⟩) n cap) (D.set k ((x.1.1, x.1.2.1, su), x.2))) := hP
  have HB : Hid (Below base w (w.setCell ⟨g, k * 3 + 2, none⟩ (.int .i64 su))) := (Below.refl _ _).setCell (p := ⟨g, k * 3 + 2, none⟩) hbg _
  have HH : Hid (LBld w base (.slice (some ⟨g, 0, none⟩) n cap) D) := h
  have hkn : (k : Int) < (n : Int) := by omega
  obtain ⟨bb, hbb⟩ : ∃ bb, bb = learnB (lkf D) k su := ⟨_, rfl⟩
  rw [← hbb] at HLB HLY HLN ⊢
  clear h hP hx hn hfz hkD c0 c1 hbb
  by_cases hl : x.1.2.2 < su
  · have e1 : decide (su ≤ x.1.2.2) = false := by simp; omega
    have e2 : ¬ su ≤ x.1.2.2 := by omega
    have HBB : Hid (bb = true) := by show _ = _; rw [HLB.out, decide_eq_true hl]
    have HE := HLY.out HBB.out
    have HE2 : Hid (lkf (D.set k ((x.1.1, x.1.2.1, su), x.2)) = learnL (lkf D) k su) := HE
    clear hl HLB HLY HLN HE
    go_enter Try.func65, Try.ntmps65
    go_wp2_with fail
    go_ret
    exact ⟨ret_bool HBB.out.symm, ⟨_, HP.out, HE2.out⟩, HB.out⟩
  · have e1 : decide (su ≤ x.1.2.2) = true := by simp; omega
    have e2 : su ≤ x.1.2.2 := by omega
    have HBB : Hid (bb = false) := by show _ = _; rw [HLB.out, decide_eq_false hl]
    have HE2 : Hid (lkf D = learnL (lkf D) k su) := HLN.out HBB.out
    clear hl HLB HLY HLN
    go_enter Try.func65, Try.ntmps65
    go_wp2_with fail
    go_ret
    exact ⟨ret_bool HBB.out.symm, ⟨_, HH.out, HE2.out⟩, Below.refl _ _⟩

/-- What sealTail leaves. -/
def sealL (L : List LkT) : List LkT := L.set (L.length - 1) ((L.getD (L.length - 1) zLk).1, (L.getD (L.length - 1) zLk).2.1, ((L.getD (L.length - 1) zLk).1.length : Int))

set_option maxRecDepth 20000 in
set_option maxHeartbeats 2000000 in
theorem sealTail_any (base g cap n : Nat) (D : List (LkT × Value)) (w : World) (h : LBld w base (.slice (some ⟨g, 0, none⟩) n cap) D) (hn : n = D.length) (h1 : 1 ≤ n) (hn6 : n ≤ 1000) :
    Calls Try.prog 68 #[.slice (some ⟨g, 0, none⟩) n cap] w fun e w' => e = .returned (.tuple #[]) ∧ (∃ D', LBld w' base (.slice (some ⟨g, 0, none⟩) n cap) D' ∧ lkf D' = sealL (lkf D)) ∧ Below base w w' := by
  obtain ⟨k, hk⟩ : ∃ k, n = k + 1 := ⟨n - 1, by omega⟩
  have hkD : k < D.length := by omega
  have HS : Hid (sealL (lkf D) = (lkf D).set k (((lkf D).getD k zLk).1, ((lkf D).getD k zLk).2.1, (((lkf D).getD k zLk).1.length : Int))) := by
    show _ = _
    unfold sealL
    rw [lkf_len, show D.length - 1 = k by omega]
  rw [lkf_get hkD] at HS
  obtain ⟨⟨c0, c1, c2⟩, hfz, hbg⟩ := h.atI hkD
  obtain ⟨x, hx⟩ : ∃ x, x = D[k]'hkD := ⟨_, rfl⟩
  have f2 := hfz (k * 3 + 2)
  have hP := h.putI hkD ((x.1.1, x.1.2.1, (x.1.1.length : Int)), x.2) 2 (.int .i64 (x.1.1.length : Int)) (by omega) (by rw [hx]; rfl) (by rw [hx]) (by rw [hx])
  have hown := h.logI hkD
  rw [← hx] at c0 c1 c2 HS hown
  have HP : Hid (LBld (w.setCell ⟨g, k * 3 + 2, none⟩ (.int .i64 (x.1.1.length : Int))) base (.slice (some ⟨g, 0, none⟩) n cap) (D.set k ((x.1.1, x.1.2.1, (x.1.1.length : Int)), x.2))) := hP
  have HB : Hid (Below base w (w.setCell ⟨g, k * 3 + 2, none⟩ (.int .i64 (x.1.1.length : Int)))) := (Below.refl _ _).setCell (p := ⟨g, k * 3 + 2, none⟩) hbg _
  have HE : Hid (lkf (D.set k ((x.1.1, x.1.2.1, (x.1.1.length : Int)), x.2)) = sealL (lkf D)) := by show _ = _; rw [lkf_set, HS.out]
  have hkn : (k : Int) < (n : Int) := by omega
  have hnk : (n : Int) - 1 = (k : Int) := by omega
  obtain ⟨⟨xd, xs, xu⟩, dv⟩ := x
  obtain ⟨ad, cd, hdv, _, _, _⟩ := own_sliceC hown
  simp only at hdv
  subst hdv
  clear h hP hx hn hfz hkD hown HS
  have HT : Hid (∀ W, Calls Try.prog 66 #[.slice (some ⟨g, 0, none⟩) n cap] W fun e w' => e = .returned (.int .i64 (k : Int)) ∧ w' = W) := fun W => by rw [← hnk]; exact tail_any _ n cap W hn6
  clear hk hnk
  go_enter Try.func68, Try.ntmps68
  go_wp2_with fail
  refine (HT.out _).mono ?_
  rintro e w1 ⟨rfl, rfl⟩
  go_wp2_with fail
  refine (HT.out _).mono ?_
  rintro e w2 ⟨rfl, rfl⟩
  go_wp2_with fail
  (try simp only [Exit.inBlock, Exit.then])
  refine bodyPost_end (results_none rfl _ _ _) rfl ?_
  exact ⟨rfl, ⟨_, HP.out, HE.out⟩, HB.out⟩

theorem row_drop0 {w : World} {ad : Option Addr} {i : Nat} {P : List (List UInt8)} (h : Row w (.slice ad P.length i) P) : Row w (.slice ad (P.length - i) 0) (P.drop i) := by
  obtain ⟨a, c, e, h1, _, _⟩ := h
  have hc : c = i := by cases e; rfl
  subst hc
  have e1 : P.drop c = [] := List.drop_of_length_le h1
  exact ⟨ad, 0, by rw [e1, show P.length - c = 0 by omega]; rfl, by rw [e1]; exact Nat.le_refl _, Nat.zero_le _, .inl e1⟩
theorem row_drop1 {w : World} {ad : Option Addr} {cd i : Nat} {P : List (List UInt8)} (h : Row w (.slice ad P.length cd) P) (hi : i ≤ P.length) : Row w (.slice (Option.map (fun x => x.add i) ad) (P.length - i) (cd - i)) (P.drop i) := by
  obtain ⟨a, c, e, h1, h2, h3⟩ := h
  cases e
  refine ⟨_, _, by rw [List.length_drop], by rw [List.length_drop]; omega, by omega, ?_⟩
  rcases h3 with rfl | ⟨b, o, rfl, hb, hc⟩
  · exact .inl (by simp)
  · refine .inr ⟨b, o + i, by rw [Option.map_some, add_0C], hb, fun j hj => ?_⟩
    rw [List.length_drop] at hj
    rw [List.getElem_drop, Nat.add_assoc]
    exact hc (i + j) (by omega)

set_option maxRecDepth 20000 in
set_option maxHeartbeats 2000000 in
theorem lacked_any (base g cap n : Nat) (D : List (LkT × Value)) (k : Nat) (w : World) (h : LBld w base (.slice (some ⟨g, 0, none⟩) n cap) D) (hn : n = D.length) (hk : k + 1 < n) (hn6 : n ≤ 1000) (hle : ((lkf D).getD (k + 1) zLk).1.length ≤ ((lkf D).getD k zLk).1.length) :
    Calls Try.prog 64 #[.slice (some ⟨g, 0, none⟩) n cap, .int .i64 (k : Int)] w fun e w' => (∃ u, e = .returned u ∧ Row w u (((lkf D).getD k zLk).1.drop ((lkf D).getD (k + 1) zLk).1.length)) ∧ ∃ m, w' = w.drewN m := by
  have hkD : k < D.length := by omega
  have hkD1 : k + 1 < D.length := by omega
  rw [lkf_get hkD, lkf_get hkD1] at hle ⊢
  obtain ⟨⟨c0, _, _⟩, _, _⟩ := h.atI hkD
  obtain ⟨⟨d0, _, _⟩, _, _⟩ := h.atI hkD1
  have ho := h.logI hkD
  have ho1 := h.logI hkD1
  obtain ⟨x, hx⟩ : ∃ x, x = D[k]'hkD := ⟨_, rfl⟩
  obtain ⟨y, hy⟩ : ∃ y, y = D[k + 1]'hkD1 := ⟨_, rfl⟩
  rw [← hx] at c0 ho hle ⊢
  rw [← hy] at d0 ho1 hle ⊢
  obtain ⟨⟨xd, xs, xu⟩, dv⟩ := x
  obtain ⟨⟨yd, ys, yu⟩, ev⟩ := y
  simp only at c0 ho hle d0 ho1 ⊢
  obtain ⟨ad, cd, hdv, hc1, hc2, had⟩ := own_sliceC ho
  obtain ⟨ae, ce, hev, _, _, _⟩ := own_sliceC ho1
  subst hdv hev
  obtain ⟨j, hj⟩ : ∃ j, j = k + 1 := ⟨_, rfl⟩
  rw [← hj] at d0
  have wj : IntKind.i64.wrap ((k : Int) + 1) = (j : Int) := by rw [i64_wrapC (by omega) (by omega)]; omega
  have hkn : (k : Int) < (n : Int) := by omega
  have hjn : (j : Int) < (n : Int) := by omega
  have hlI : (yd.length : Int) ≤ (xd.length : Int) := by omega
  have hR : Row w (.slice ad xd.length cd) xd := row_own ho
  have HR : Hid (Row w (.slice ad xd.length cd) xd) := hR
  clear h hx hy hj hn ho ho1 had hR
  go_enter Try.func64, Try.ntmps64
  go_wp2_with fail
  go_quiet (fail)
  go_wp2_with fail
  · go_ret
    exact ⟨⟨_, rfl, row_drop0 (by have h := HR.out; rwa [show cd = yd.length by omega] at h)⟩, _, rfl⟩
  · go_ret
    exact ⟨⟨_, rfl, row_drop1 HR.out hle⟩, _, rfl⟩
end Go.Proofs.Ytacmipcjhbkdcaa

namespace Go.Proofs.Ytacmipcjhbkdcaa
open Go.RowKit

/-- Links as a chain has them: few, logs short, none longer than the one ahead's. -/
def ShapeL (L : List LkT) : Prop := (1 ≤ L.length ∧ L.length ≤ 6) ∧ (∀ k, k < L.length → (L.getD k zLk).1.length ≤ 100) ∧ ∀ k, k + 1 < L.length → (L.getD (k + 1) zLk).1.length ≤ (L.getD k zLk).1.length
def putB (L : List LkT) (s : List UInt8) : Bool := !(decide ((L.getD 0 zLk).1.length = 40) || decide (20 < s.length))
def putL (L : List LkT) (s : List UInt8) : List LkT := if putB L s then keepL L 0 s else L
def nextB (L : List LkT) (k : Int) : Bool := decide (0 ≤ k) && decide (k ≤ (L.length : Int) - 2)
def passB (L : List LkT) (k : Int) : Bool := nextB L k && decide ((L.getD (k.toNat + 1) zLk).1.length < (L.getD k.toNat zLk).1.length)
def passL (L : List LkT) (k : Int) : List LkT := if passB L k then keepL L (k.toNat + 1) ((L.getD k.toNat zLk).1.getD (L.getD (k.toNat + 1) zLk).1.length []) else L
def backB (L : List LkT) (k : Int) : Bool := nextB L k && learnB L k.toNat (L.getD (k.toNat + 1) zLk).2.2
def backL (L : List LkT) (k : Int) : List LkT := if backB L k then learnL L k.toNat (L.getD (k.toNat + 1) zLk).2.2 else L
theorem bel_drewN {w : World} {base : Nat} (m : Nat) : Below base w (w.drewN m) := below_drewN (Below.refl _ _) _

set_option maxRecDepth 20000 in
set_option maxHeartbeats 2000000 in
theorem put_any (base g cap n : Nat) (D : List (LkT × Value)) (s : List UInt8) (w : World) (h : LBld w base (.slice (some ⟨g, 0, none⟩) n cap) D) (hn : n = D.length) (hs : ShapeL (lkf D)) (hb : base ≤ w.heap.size) (hsl : s.length ≤ maxLen) :
    Calls Try.prog 48 #[.slice (some ⟨g, 0, none⟩) n cap, .string ⟨s.toArray⟩] w fun e w' => e = .returned (.bool (putB (lkf D) s)) ∧ (∃ D', LBld w' base (.slice (some ⟨g, 0, none⟩) n cap) D' ∧ lkf D' = putL (lkf D) s) ∧ Below base w w' := by
  obtain ⟨⟨hs1, hs6⟩, hs2, _⟩ := hs
  rw [lkf_len] at hs1 hs6 hs2
  have h0 : 0 < D.length := by omega
  have hx0 := hs2 0 h0
  rw [lkf_get h0] at hx0
  have HK : Hid (∀ W, LBld W base (.slice (some ⟨g, 0, none⟩) n cap) D → base ≤ W.heap.size → Calls Try.prog 62 #[.slice (some ⟨g, 0, none⟩) n cap, .int .i64 0, .string ⟨s.toArray⟩] W fun e w' => e = .returned (.tuple #[]) ∧ (∃ D', LBld w' base (.slice (some ⟨g, 0, none⟩) n cap) D' ∧ lkf D' = keepL (lkf D) 0 s) ∧ Below base W w') := fun W h1 h2 => keep_any base g cap n D 0 s W h1 hn (by omega) (by omega) h2 (by omega)
  obtain ⟨⟨c0, c1, c2⟩, _, _⟩ := h.atI h0
  have HB : Hid (putB (lkf D) s = !(decide ((D[0]'h0).1.1.length = 40) || decide (20 < s.length))) := by show _ = _; unfold putB; rw [lkf_get h0]
  have hown := h.logI h0
  obtain ⟨x, hx⟩ : ∃ x, x = D[0]'h0 := ⟨_, rfl⟩
  rw [← hx] at c0 HB hown hx0
  obtain ⟨⟨xd, xs, xu⟩, dv⟩ := x
  obtain ⟨ad, cd, hdv, _, _, _⟩ := own_sliceC hown
  simp only at hdv c0 HB hx0
  subst hdv
  rw [Nat.zero_mul] at c0
  have HY : Hid (putB (lkf D) s = true → keepL (lkf D) 0 s = putL (lkf D) s) := fun h => by unfold putL; rw [if_pos h]
  have HNO : Hid (putB (lkf D) s = false → lkf D = putL (lkf D) s) := fun h => by unfold putL; rw [if_neg (by rw [h]; simp)]
  have HH : Hid (LBld w base (.slice (some ⟨g, 0, none⟩) n cap) D) := h
  have hn0 : (0 : Int) < (n : Int) := by omega
  obtain ⟨bb, hbb⟩ : ∃ bb, bb = putB (lkf D) s := ⟨_, rfl⟩
  rw [← hbb] at HB HY HNO ⊢
  unfold maxLen at hsl
  clear h hx hown hbb hs2 c1 c2 hn h0
  by_cases e40 : xd.length = 40
  · have f40 : ((xd.length : Int) == 40) = true := by simp [e40]
    have HBB : Hid (bb = false) := by show _ = _; rw [HB.out]; simp [e40]
    have HE := HNO.out HBB.out
    have HE2 : Hid (lkf D = putL (lkf D) s) := HE
    clear HE e40 HB HY HNO
    go_enter Try.func48, Try.ntmps48
    go_wp2_with fail
    go_ret
    exact ⟨ret_bool HBB.out.symm, ⟨_, HH.out, HE2.out⟩, Below.refl _ _⟩
  · have f40 : ((xd.length : Int) == 40) = false := by rw [beq_eq_false_iff_ne]; omega
    by_cases h20 : 20 < s.length
    · have f20 : decide ((20 : Int) < (s.length : Int)) = true := by simp; omega
      have HBB : Hid (bb = false) := by show _ = _; rw [HB.out]; simp [h20]
      have HE2 : Hid (lkf D = putL (lkf D) s) := HNO.out HBB.out
      clear e40 HB HY HNO
      go_enter Try.func48, Try.ntmps48
      go_wp2_with fail
      go_ret
      exact ⟨ret_bool HBB.out.symm, ⟨_, HH.out, HE2.out⟩, Below.refl _ _⟩
    · have f20 : decide ((20 : Int) < (s.length : Int)) = false := by simp; omega
      have HBB : Hid (bb = true) := by show _ = _; rw [HB.out]; simp [h20, e40]
      have HE2 : Hid (keepL (lkf D) 0 s = putL (lkf D) s) := HY.out HBB.out
      clear e40 HB HY HNO
      go_enter Try.func48, Try.ntmps48
      go_wp2_with fail
      refine (HK.out w HH.out hb).mono ?_
      rintro e w1 ⟨rfl, ⟨D', hd1, hd2⟩, hb1⟩
      have HD1 : Hid (LBld w1 base (.slice (some ⟨g, 0, none⟩) n cap) D') := hd1
      have HD2 : Hid (lkf D' = putL (lkf D) s) := hd2.trans HE2.out
      clear hd1 hd2
      go_wp2_with fail
      go_ret
      exact ⟨ret_bool HBB.out.symm, ⟨D', HD1.out, HD2.out⟩, hb1⟩

set_option maxRecDepth 20000 in
set_option maxHeartbeats 4000000 in
theorem pass_any (base g cap n : Nat) (D : List (LkT × Value)) (k : Int) (w : World) (h : LBld w base (.slice (some ⟨g, 0, none⟩) n cap) D) (hn : n = D.length) (hs : ShapeL (lkf D)) (hb : base ≤ w.heap.size) :
    Calls Try.prog 49 #[.slice (some ⟨g, 0, none⟩) n cap, .int .i64 k] w fun e w' => e = .returned (.bool (passB (lkf D) k)) ∧ (∃ D', LBld w' base (.slice (some ⟨g, 0, none⟩) n cap) D' ∧ lkf D' = passL (lkf D) k) ∧ Below base w w' := by
  obtain ⟨⟨hs1, hs6⟩, hs2, hs3⟩ := hs
  rw [lkf_len] at hs1 hs6 hs2 hs3
  have HY : Hid (passB (lkf D) k = true → keepL (lkf D) (k.toNat + 1) (((lkf D).getD k.toNat zLk).1.getD ((lkf D).getD (k.toNat + 1) zLk).1.length []) = passL (lkf D) k) := fun h => by unfold passL; rw [if_pos h]
  have HNO : Hid (passB (lkf D) k = false → lkf D = passL (lkf D) k) := fun h => by unfold passL; rw [if_neg (by rw [h]; simp)]
  have HH : Hid (LBld w base (.slice (some ⟨g, 0, none⟩) n cap) D) := h
  have HX : Hid (∀ W, Calls Try.prog 63 #[.slice (some ⟨g, 0, none⟩) n cap, .int .i64 k] W fun e w' => e = .returned (.bool (nextB (lkf D) k)) ∧ w' = W) := fun W => by
    unfold nextB; rw [lkf_len, ← hn]; exact hasNext_any _ n cap k W (by omega)
  cases hx : nextB (lkf D) k with
  | false =>
    have HBB : Hid (passB (lkf D) k = false) := by show _ = _; unfold passB; rw [hx]; rfl
    have HE2 : Hid (lkf D = passL (lkf D) k) := HNO.out HBB.out
    rw [hx] at HX
    clear hx HY HNO h hn hs2 hs3
    go_enter Try.func49, Try.ntmps49
    go_wp2_with fail
    refine (HX.out _).mono ?_
    rintro e w1 ⟨rfl, rfl⟩
    go_wp2_with fail
    go_ret
    exact ⟨ret_bool HBB.out.symm, ⟨_, HH.out, HE2.out⟩, Below.refl _ _⟩
  | true =>
    have hk : 0 ≤ k ∧ k ≤ (n : Int) - 2 := by
      unfold nextB at hx
      rw [lkf_len, ← hn] at hx
      simpa using hx
    obtain ⟨j, rfl⟩ : ∃ j : Nat, k = (j : Int) := ⟨k.toNat, by omega⟩
    rw [show ((j : Int)).toNat = j by omega] at HY
    have hj1 : j + 1 < n := by omega
    have hle := hs3 j (by omega)
    have hlj := hs2 (j + 1) (by omega)
    have hlk := hs2 j (by omega)
    have HBE : Hid (passB (lkf D) (j : Int) = decide (((lkf D).getD (j + 1) zLk).1.length < ((lkf D).getD j zLk).1.length)) := by show _ = _; unfold passB; rw [hx, show ((j : Int)).toNat = j by omega]; rfl
    have HLA : Hid (∀ W, LBld W base (.slice (some ⟨g, 0, none⟩) n cap) D → Calls Try.prog 64 #[.slice (some ⟨g, 0, none⟩) n cap, .int .i64 (j : Int)] W fun e w' => (∃ u, e = .returned u ∧ Row W u (((lkf D).getD j zLk).1.drop ((lkf D).getD (j + 1) zLk).1.length)) ∧ ∃ m, w' = W.drewN m) := fun W hW => lacked_any base g cap n D j W hW hn hj1 (by omega) hle
    have HKE : Hid (∀ s W, LBld W base (.slice (some ⟨g, 0, none⟩) n cap) D → base ≤ W.heap.size → Calls Try.prog 62 #[.slice (some ⟨g, 0, none⟩) n cap, .int .i64 ((j + 1 : Nat) : Int), .string ⟨s.toArray⟩] W fun e w' => e = .returned (.tuple #[]) ∧ (∃ D', LBld w' base (.slice (some ⟨g, 0, none⟩) n cap) D' ∧ lkf D' = keepL (lkf D) (j + 1) s) ∧ Below base W w') := fun s W h1 h2 => keep_any base g cap n D (j + 1) s W h1 hn hj1 (by omega) h2 (by rw [← lkf_get]; omega)
    rw [hx] at HX
    obtain ⟨A, hA⟩ : ∃ A, A = ((lkf D).getD j zLk).1 := ⟨_, rfl⟩
    obtain ⟨i, hi⟩ : ∃ i, i = ((lkf D).getD (j + 1) zLk).1.length := ⟨_, rfl⟩
    rw [← hA, ← hi] at HLA HBE HY hle
    rw [← hA] at hlk
    obtain ⟨jj, hjj⟩ : ∃ jj, jj = j + 1 := ⟨_, rfl⟩
    have wj : IntKind.i64.wrap ((j : Int) + 1) = (jj : Int) := by rw [i64_wrapC (by omega) (by omega)]; omega
    rw [← hjj] at HKE HY
    obtain ⟨P, hP⟩ : ∃ P, P = A.drop i := ⟨_, rfl⟩
    have HPL : Hid (P.length = A.length - i) := by show _ = _; rw [hP, List.length_drop]
    have HP0 : Hid (∀ (h : 0 < P.length), P[0] = A.getD i []) := fun h => by
      rw [HPL.out] at h
      have hi2 : i < A.length := by omega
      simp only [hP, List.getElem_drop, Nat.add_zero]
      rw [List.getD_eq_getElem?_getD, List.getElem?_eq_getElem hi2]; rfl
    rw [← hP] at HLA
    clear hx h hs2 hs3 hA hi hP hk hjj hn hj1
    go_enter Try.func49, Try.ntmps49
    go_wp2_with fail
    refine (HX.out _).mono ?_
    rintro e w1 ⟨rfl, rfl⟩
    go_wp2_with fail
    refine (HLA.out _ HH.out).mono ?_
    rintro e w2 ⟨⟨u, rfl, hu⟩, m, rfl⟩
    have hL2 := HH.out.kept (bel_drewN m (base := w1.heap.size))
    have HL2 : Hid (LBld (w1.drewN m) base (.slice (some ⟨g, 0, none⟩) n cap) D) := hL2
    obtain ⟨au, cu, hue, _, _, _⟩ := row_value hu
    subst hue
    clear hL2 hu
    by_cases hlt : i < A.length
    · have e0 : ((P.length : Int) == 0) = false := by rw [beq_eq_false_iff_ne, HPL.out]; omega
      have HBB : Hid (passB (lkf D) (j : Int) = true) := by show _ = _; rw [HBE.out, decide_eq_true hlt]
      have HE2 : Hid (keepL (lkf D) jj (A.getD i []) = passL (lkf D) (j : Int)) := HY.out HBB.out
      have hpp : 0 < P.length := by rw [HPL.out]; omega
      clear HBE HY HNO hlt
      go_wp2_with fail
      refine (HLA.out _ HL2.out).mono ?_
      rintro e w3 ⟨⟨u, rfl, hu⟩, m2, rfl⟩
      have HL3 : Hid (LBld ((w1.drewN m).drewN m2) base (.slice (some ⟨g, 0, none⟩) n cap) D) := HL2.out.kept (bel_drewN m2 (base := (w1.drewN m).heap.size))
      obtain ⟨a3, c3, hue, hc31, _, HR3⟩ := row_value hu
      subst hue
      obtain ⟨b, o, ha3, _, hc⟩ := HR3.out hpp
      subst ha3
      have p0 := hc 0 hpp
      rw [HP0.out hpp, Nat.add_zero] at p0
      obtain ⟨s, hs⟩ : ∃ s, s = A.getD i [] := ⟨_, rfl⟩
      rw [← hs] at p0 HE2
      unfold S at p0
      have p1 : ((w1.drewN m).drewN m2).cell? ⟨b, o, none⟩ = some (.string ⟨s.toArray⟩) := p0
      have hpi : (0 : Int) < (P.length : Int) := by omega
      have HB3 : Hid (Below base w1 ((w1.drewN m).drewN m2)) := (bel_drewN m).trans (bel_drewN m2)
      have HK3 : Hid (Calls Try.prog 62 #[.slice (some ⟨g, 0, none⟩) n cap, .int .i64 (jj : Int), .string ⟨s.toArray⟩] ((w1.drewN m).drewN m2) fun e w' => e = .returned (.tuple #[]) ∧ (∃ D', LBld w' base (.slice (some ⟨g, 0, none⟩) n cap) D' ∧ lkf D' = keepL (lkf D) jj s) ∧ Below base ((w1.drewN m).drewN m2) w') := HKE.out s _ HL3.out (Nat.le_trans hb HB3.out.size)
      obtain ⟨W3, hW3⟩ : ∃ W3, W3 = (w1.drewN m).drewN m2 := ⟨_, rfl⟩
      rw [← hW3] at p1 HK3 HB3 ⊢
      clear hu HR3 hc p0 hs HP0 HLA HL2 HL3 hW3
      go_wp2_with fail
      refine HK3.out.mono ?_
      rintro e w4 ⟨rfl, ⟨D', hd1, hd2⟩, hb1⟩
      have HD1 : Hid (LBld w4 base (.slice (some ⟨g, 0, none⟩) n cap) D') := hd1
      have HD2 : Hid (lkf D' = passL (lkf D) (j : Int)) := hd2.trans HE2.out
      have HB4 : Hid (Below base w1 w4) := HB3.out.trans hb1
      clear hd1 hd2 hb1
      go_wp2_with fail
      go_ret
      exact ⟨ret_bool HBB.out.symm, ⟨D', HD1.out, HD2.out⟩, HB4.out⟩
    · have e0 : ((P.length : Int) == 0) = true := by rw [beq_iff_eq, HPL.out]; omega
      have HBB : Hid (passB (lkf D) (j : Int) = false) := by show _ = _; rw [HBE.out, decide_eq_false hlt]
      have HE2 : Hid (lkf D = passL (lkf D) (j : Int)) := HNO.out HBB.out
      have HB2 : Hid (Below base w1 (w1.drewN m)) := bel_drewN m
      clear HBE HY HNO hlt
      go_wp2_with fail
      go_ret
      exact ⟨ret_bool HBB.out.symm, ⟨_, HL2.out, HE2.out⟩, HB2.out⟩

set_option maxRecDepth 20000 in
set_option maxHeartbeats 2000000 in
theorem back_any (base g cap n : Nat) (D : List (LkT × Value)) (k : Int) (w : World) (h : LBld w base (.slice (some ⟨g, 0, none⟩) n cap) D) (hn : n = D.length) (hs : ShapeL (lkf D)) :
    Calls Try.prog 50 #[.slice (some ⟨g, 0, none⟩) n cap, .int .i64 k] w fun e w' => e = .returned (.bool (backB (lkf D) k)) ∧ (∃ D', LBld w' base (.slice (some ⟨g, 0, none⟩) n cap) D' ∧ lkf D' = backL (lkf D) k) ∧ Below base w w' := by
  obtain ⟨⟨hs1, hs6⟩, _, _⟩ := hs
  rw [lkf_len] at hs1 hs6
  have HH : Hid (LBld w base (.slice (some ⟨g, 0, none⟩) n cap) D) := h
  have HX : Hid (∀ W, Calls Try.prog 63 #[.slice (some ⟨g, 0, none⟩) n cap, .int .i64 k] W fun e w' => e = .returned (.bool (nextB (lkf D) k)) ∧ w' = W) := fun W => by
    unfold nextB; rw [lkf_len, ← hn]; exact hasNext_any _ n cap k W (by omega)
  cases hx : nextB (lkf D) k with
  | false =>
    have HBB : Hid (backB (lkf D) k = false) := by show _ = _; unfold backB; rw [hx]; rfl
    have HE2 : Hid (lkf D = backL (lkf D) k) := by show _ = _; unfold backL; rw [if_neg (by rw [HBB.out]; simp)]
    rw [hx] at HX
    clear hx h hn
    go_enter Try.func50, Try.ntmps50
    go_wp2_with fail
    refine (HX.out _).mono ?_
    rintro e w1 ⟨rfl, rfl⟩
    go_wp2_with fail
    go_ret
    exact ⟨ret_bool HBB.out.symm, ⟨_, HH.out, HE2.out⟩, Below.refl _ _⟩
  | true =>
    have hk : 0 ≤ k ∧ k ≤ (n : Int) - 2 := by
      unfold nextB at hx
      rw [lkf_len, ← hn] at hx
      simpa using hx
    obtain ⟨j, rfl⟩ : ∃ j : Nat, k = (j : Int) := ⟨k.toNat, by omega⟩
    have hj1 : j + 1 < D.length := by omega
    obtain ⟨⟨cx0, cx1, c2⟩, cxf, cxb⟩ := h.atI hj1
    clear cx0 cx1 cxf cxb
    rw [← lkf_get hj1] at c2
    have HLE : Hid (∀ W su, LBld W base (.slice (some ⟨g, 0, none⟩) n cap) D → Calls Try.prog 65 #[.slice (some ⟨g, 0, none⟩) n cap, .int .i64 (j : Int), .int .i64 su] W fun e w' => e = .returned (.bool (learnB (lkf D) j su)) ∧ (∃ D', LBld w' base (.slice (some ⟨g, 0, none⟩) n cap) D' ∧ lkf D' = learnL (lkf D) j su) ∧ Below base W w') := fun W su hW => learn_any base g cap n D j su W hW hn (by omega) (by omega)
    have HBE : Hid (backB (lkf D) (j : Int) = learnB (lkf D) j ((lkf D).getD (j + 1) zLk).2.2) := by show _ = _; unfold backB; rw [hx, show ((j : Int)).toNat = j by omega]; rfl
    have HBL : Hid (learnL (lkf D) j ((lkf D).getD (j + 1) zLk).2.2 = backL (lkf D) (j : Int)) := by
      show _ = _
      unfold backL
      rw [HBE.out, show ((j : Int)).toNat = j by omega]
      split
      · rfl
      · rename_i h; unfold learnL; rw [if_neg h]
    obtain ⟨su, hsu⟩ : ∃ su, su = ((lkf D).getD (j + 1) zLk).2.2 := ⟨_, rfl⟩
    rw [← hsu] at c2 HBE HBL
    obtain ⟨jj, hjj⟩ : ∃ jj, jj = j + 1 := ⟨_, rfl⟩
    have wj : IntKind.i64.wrap ((j : Int) + 1) = (jj : Int) := by rw [i64_wrapC (by omega) (by omega)]; omega
    have hjn : (jj : Int) < (n : Int) := by omega
    rw [← hjj] at c2
    rw [hx] at HX
    clear hx h hk hjj hsu hj1 hn
    go_enter Try.func50, Try.ntmps50
    go_wp2_with fail
    refine (HX.out _).mono ?_
    rintro e w1 ⟨rfl, rfl⟩
    go_wp2_with fail
    refine (HLE.out _ su HH.out).mono ?_
    rintro e w2 ⟨rfl, ⟨D', hd1, hd2⟩, hb2⟩
    have HD1 : Hid (LBld w2 base (.slice (some ⟨g, 0, none⟩) n cap) D') := hd1
    have HD2 : Hid (lkf D' = backL (lkf D) (j : Int)) := hd2.trans HBL.out
    clear hd1 hd2
    rw [← HBE.out]
    go_wp2_with fail
    go_ret
    exact ⟨rfl, ⟨D', HD1.out, HD2.out⟩, hb2⟩
end Go.Proofs.Ytacmipcjhbkdcaa

namespace Go.Proofs.Ytacmipcjhbkdcaa
open Go.RowKit

theorem lkcs_erase (D : List (LkT × Value)) (k : Nat) (hk : k < D.length) : lkcs (D.eraseIdx k) = (lkcs D).take (k * 3) ++ (lkcs D).drop ((k + 1) * 3) := by
  obtain ⟨A, B, e, hA⟩ := lk_at k hk
  obtain ⟨x, hx⟩ : ∃ x, x = D[k]'hk := ⟨_, rfl⟩
  rw [← hx] at e
  clear hx hk
  subst e
  subst hA
  have e1 : (A ++ x :: B).eraseIdx A.length = A ++ B := by
    rw [List.eraseIdx_append_of_length_le (Nat.le_refl _), Nat.sub_self]; rfl
  have h1 : (lkcs A).length = A.length * 3 := lkcs_length A
  have h2 : (lkc x).length = 3 := rfl
  rw [e1, lkcs_app, lkcs_app, lkcs, List.take_left' h1, ← List.append_assoc, List.drop_left' (by rw [List.length_append, h1, h2]; omega)]
theorem own_beyond {w : World} {base e size n cap g j : Nat} {xs : List Value} {u : Value} (h : w.ownsRow base e size (.slice (some ⟨g, 0, none⟩) n cap) n xs) (hj : n * size ≤ j) : (w.setCell ⟨g, j, none⟩ u).ownsRow base e size (.slice (some ⟨g, 0, none⟩) n cap) n xs := by
  refine ⟨h.1, ?_⟩
  rcases h.2 with ⟨h0, _⟩ | ⟨g2, c2, cur, e2, h1, h2, h3, h4, h5, h6⟩
  · cases h0
  · cases e2
    refine .inr ⟨g, cap, cur.setIfInBounds j u, rfl, h1, heap_setCell_same _ _ j _ _ u h2, h3, h4, by simpa using h5, ?_⟩
    rw [Array.toList_setIfInBounds, List.take_set_of_le hj]; exact h6
theorem own_setCells {base e size n cap g : Nat} {xs : List Value} : ∀ (Z : List Value) (j : Nat) {w : World}, w.ownsRow base e size (.slice (some ⟨g, 0, none⟩) n cap) n xs → n * size ≤ j → (w.setCells g j Z).ownsRow base e size (.slice (some ⟨g, 0, none⟩) n cap) n xs
  | [], _, _, h, _ => h
  | z :: Z, j, w, h, hj => by
    show ((w.setCell ⟨g, j, none⟩ z).setCells g (j + 1) Z).ownsRow _ _ _ _ _ _
    exact own_setCells Z (j + 1) (own_beyond h hj) (by omega)
theorem grown_setCellsC {w0 : World} {g : Nat} : ∀ (Z : List Value) (o : Nat) {w : World}, w0.grownBy w (some g) → w0.grownBy (w.setCells g o Z) (some g)
  | [], _, _, h => h
  | z :: Z, o, w, h => by
    show w0.grownBy ((w.setCell ⟨g, o, none⟩ z).setCells g (o + 1) Z) (some g)
    exact grown_setCellsC Z (o + 1) (grown_set h)
/-- 'clear' of one link that lies in a row. -/
theorem run_clear3 (w : World) (g o c : Nat) (hc : ∀ j, j < 3 → (w.cell? ⟨g, o + j, none⟩).isSome = true) (hf : ∀ j, j < 3 → w.frozen? ⟨g, o + j, none⟩ = false) :
    ∃ Z : List Value, ∀ ty, (Builtin.clear_ #[56] ty #[.slice (some ⟨g, o, none⟩) 1 c]).run Try.prog w = .ok (.tuple #[]) (w.setCells g o Z) := by
  obtain ⟨Z, hZ⟩ : ∃ Z, Z = (Builtin.zeroCells (Value.agg #[.slice none 0 0, .int .i64 0, .int .i64 0]).cells 1).toList := ⟨_, rfl⟩
  have hc4 : (Value.agg #[.slice none 0 0, .int .i64 0, .int .i64 0]).cells = #[.slice none 0 0, .int .i64 0, .int .i64 0] := by rfl
  have hl : Z.length = 3 := by
    rw [hZ, Array.length_toList, size_zeroCells, hc4]; rfl
  have h1 : ∀ v ∈ Z, v.oneCell' = true := by
    intro v hv
    rw [hZ, hc4] at hv
    simp only [Builtin.zeroCells, Array.toList_map, List.mem_map] at hv
    obtain ⟨i, _, rfl⟩ := hv
    have h4 : i % 3 < 3 := Nat.mod_lt _ (by decide)
    show (#[Value.slice none 0 0, .int .i64 0, .int .i64 0][i % 3]!).oneCell' = true
    obtain ⟨r, hr⟩ : ∃ r, r = i % 3 := ⟨_, rfl⟩
    rw [← hr] at h4 ⊢
    match r, h4 with
    | 0, _ => rfl
    | 1, _ => rfl
    | 2, _ => rfl
  refine ⟨Z, fun ty => ?_⟩
  have hst := run_storeCells_cells (P := Try.prog) g o Z 0 w (by rw [hl]; simpa using hc) (by rw [hl]; simpa using hf) h1
  simp only [Nat.add_zero] at hst
  simp [Builtin.clear_, run_underlying Try.underlying56, ← hZ, hst]
/-- s[:k] and s[k+1:] put together where s lies. -/
theorem lk_cells_one : ∀ {D : List (LkT × Value)} {u : Value}, (∀ x ∈ D, ∃ a n c, x.2 = .slice a n c) → u ∈ lkcs D → u.oneCell' = true
  | [], u, _, h => by simp [lkcs] at h
  | x :: r, u, hs, h => by
    rw [lkcs] at h
    rcases List.mem_append.1 h with h | h
    · unfold lkc at h
      simp only [List.mem_cons, List.not_mem_nil, or_false] at h
      rcases h with rfl | rfl | rfl
      · obtain ⟨a, n, c, e⟩ := hs x (by simp)
        rw [e]; rfl
      · rfl
      · rfl
    · exact lk_cells_one (fun y hy => hs y (by simp [hy])) h
theorem run_cut (base g cap n : Nat) (D : List (LkT × Value)) (k : Nat) (w : World) (h : LBld w base (.slice (some ⟨g, 0, none⟩) n cap) D) (hn : n = D.length) (hk : k < n) (a : Addr) (c : Nat) (ha : (k + 1 < n → a = ⟨g, (k + 1) * 3, none⟩)) :
    ∃ w', (∀ ty, (Builtin.append_ #[56, 56] ty #[.slice (some ⟨g, 0, none⟩) k cap, .slice (some a) (n - (k + 1)) c]).run Try.prog w = .ok (.slice (some ⟨g, 0, none⟩) (n - 1) cap) w') ∧ LBld w' base (.slice (some ⟨g, 0, none⟩) (n - 1) cap) (D.eraseIdx k) ∧ w.grownBy w' (some g) ∧ (∀ j, j < 3 → (w'.cell? ⟨g, (n - 1) * 3 + j, none⟩).isSome = true) ∧ (∀ j, w'.frozen? ⟨g, j, none⟩ = false) := by
  obtain ⟨i0, hi, hi0, hi1, hi2⟩ := info_parts info_link
  have hkD : k < D.length := by omega
  have ho := h.1
  rw [← hn] at ho
  have hlD := lkcs_length D
  obtain ⟨_, h0 | ⟨g2, c2, cur, e2, hb, hg, hnc, hcm, hcs, htk⟩⟩ := ho
  · cases h0.1
  · have hgg : g2 = g ∧ c2 = cap := by cases e2; exact ⟨rfl, rfl⟩
    obtain ⟨rfl, rfl⟩ := hgg
    have hls : cur.toList.length = c2 * 3 := by rw [Array.length_toList]; exact hcs
    have hnl : ((lkcs D).drop ((k + 1) * 3)).length = (n - (k + 1)) * 3 := by rw [List.length_drop, hlD]; omega
    have hnews : ∀ j u, ((lkcs D).drop ((k + 1) * 3))[j]? = some u → w.cell? (a.add j) = some u := fun j u hj => by
      rw [List.getElem?_drop] at hj
      have hjl : (k + 1) * 3 + j < (lkcs D).length := (List.getElem?_eq_some_iff.1 hj).1
      have hk2 : k + 1 < n := by omega
      rw [ha hk2, add_0C]
      have ho2 := h.1
      rw [← hn] at ho2
      rw [ho2.cellAt ((k + 1) * 3 + j) (by omega)]; exact hj
    have h1 : ∀ u ∈ (lkcs D).drop ((k + 1) * 3), u.oneCell' = true := fun u hu => lk_cells_one (fun x hx => by obtain ⟨a, c, e, _⟩ := own_sliceC (h.2.1 x hx); exact ⟨_, _, _, e⟩) (List.mem_of_mem_drop hu)
    have hrun := fun ty => run_append_room (P := Try.prog) w 56 ty 71 i0 Try.underlying56 hi g2 k c2 cur hg a (n - (k + 1)) c ((lkcs D).drop ((k + 1) * 3)) (by rw [hi1]; exact hnl) hnews h1 (by omega) (by rw [hi1, hnl, hcs]; omega)
    rw [hi1] at hrun
    have hn1 : k + (n - (k + 1)) = n - 1 := by omega
    rw [hn1] at hrun
    refine ⟨_, hrun, ?_⟩
    obtain ⟨A1, hA1⟩ : ∃ A1, A1 = cur.toList.take (k * 3) ++ (lkcs D).drop ((k + 1) * 3) ++ cur.toList.drop (k * 3 + ((lkcs D).drop ((k + 1) * 3)).length) := ⟨_, rfl⟩
    rw [← hA1]
    have hA1l : A1.length = c2 * 3 := by rw [hA1, List.length_append, List.length_append, List.length_take, hls, hnl, List.length_drop, hls]; omega
    have hgr : w.grownBy (w.setRow g2 A1.toArray) (some g2) := ⟨rfl, rfl, rfl, by simp, fun j _ hj => setRow_other w g2 j _ (fun e => hj (by rw [e]))⟩
    have hH : (w.setRow g2 A1.toArray).heap[g2]? = some (.cells A1.toArray 71 (0, 0)) := setRow_heap w g2 cur _ _ _ hg
    have htk2 : cur.toList.take (k * 3) = (lkcs D).take (k * 3) := by rw [← htk, List.take_take, Nat.min_eq_left (by omega)]
    have hEL : (D.eraseIdx k).length = n - 1 := by rw [List.length_eraseIdx, if_pos hkD, ← hn]
    have hown : (w.setRow g2 A1.toArray).ownsRow base 71 3 (.slice (some ⟨g2, 0, none⟩) (n - 1) c2) (n - 1) (lkcs (D.eraseIdx k)) := by
      refine ⟨by rw [lkcs_length, hEL], .inr ⟨g2, c2, A1.toArray, rfl, hb, hH, by omega, hcm, by simpa using hA1l, ?_⟩⟩
      rw [List.toList_toArray, hA1, lkcs_erase D k hkD, htk2]
      rw [List.take_left' (by rw [List.length_append, List.length_take, hnl, hlD]; omega)]
    refine ⟨⟨by rw [hEL]; exact hown, fun x hx => ?_, ?_⟩, hgr, fun j hj => ?_, fun j => hown.frozenAt j⟩
    · have h3 := h.2.1 x (List.mem_of_mem_eraseIdx hx)
      exact h3.kept hgr (own_types h3 h.1 (by decide))
    · exact h.2.2.sublist (List.eraseIdx_sublist D k)
    · rw [cell_setRow_same w g2 _ cur _ _ _ hg]
      rw [List.getElem?_toArray, List.getElem?_eq_getElem (by omega)]; rfl

end Go.Proofs.Ytacmipcjhbkdcaa

namespace Go.Proofs.Ytacmipcjhbkdcaa
open Go.RowKit

theorem step_append_run {w : World} {ops : Array Oper} {o : Oper} {a : Act} {Q : Exit → Act → World → Prop} {K : Act → World → Prop} {E : Prop} (hgd : o.guard = none) (s x : Operand) (t : Nat)
    (ho : o.op = .call { callee := .builtin .append, args := #[s, x], argTypes := #[t, t] }) (v u : Value) (hs : a.eval s = v) (hx : a.eval x = u) (v' : Value) (w' : World)
    (hr : ∀ ty, (Builtin.append_ #[t, t] ty #[v, u]).run Try.prog w = .ok v' w') (h : K (a.put o.dst v') w') :
    if Region.wanted o (yielded ops a.tmps) = true then Oper.wp Try.prog o a w K Q else E := by
  have hw : Region.wanted o (yielded ops a.tmps) = true := by simp [Region.wanted, hgd]
  rw [if_pos hw]
  unfold Oper.wp execOp
  simp only [ho, resolve, invoke, builtin, Sem.run_bind, Sem.run_pure, Result.andThen_ok, List.map_toArray, List.map_cons, List.map_nil, hs, hx, hr]
  exact h
theorem lbld_beyond {base g : Nat} (n cap : Nat) (E : List (LkT × Value)) (hE : E.length = n) (W : World) (Z : List Value) (h : LBld W base (.slice (some ⟨g, 0, none⟩) n cap) E) : LBld (W.setCells g (n * 3) Z) base (.slice (some ⟨g, 0, none⟩) n cap) E := by
  obtain ⟨h1, h2, h3⟩ := h
  have hg : W.grownBy (W.setCells g (n * 3) Z) (some g) := grown_setCellsC Z (n * 3) ⟨rfl, rfl, rfl, Nat.le_refl _, fun _ _ _ => rfl⟩
  refine ⟨?_, fun x hx => (h2 x hx).kept hg (own_types (h2 x hx) h1 (by decide)), h3⟩
  rw [hE] at h1 ⊢
  exact own_setCells Z (n * 3) h1 (Nat.le_refl _)
set_option linter.unusedSimpArgs false in
set_option maxRecDepth 20000 in
set_option maxHeartbeats 4000000 in
theorem delete_any (base g cap n : Nat) (D : List (LkT × Value)) (k : Nat) (w : World) (h : LBld w base (.slice (some ⟨g, 0, none⟩) n cap) D) (hn : n = D.length) (hk : k < n) (hn6 : n ≤ 1000) (hb : base ≤ w.heap.size) :
    Calls Try.prog 67 #[.slice (some ⟨g, 0, none⟩) n cap, .int .i64 (k : Int), .int .i64 ((k + 1 : Nat) : Int)] w fun e w' => e = .returned (.slice (some ⟨g, 0, none⟩) (n - 1) cap) ∧ LBld w' base (.slice (some ⟨g, 0, none⟩) (n - 1) cap) (D.eraseIdx k) ∧ Below base w w' := by
  obtain ⟨hcap, hcm⟩ : n ≤ cap ∧ cap ≤ maxLen := by
    obtain ⟨_, h0 | ⟨g2, c2, cur, e2, _, _, hnc, hcm, _⟩⟩ := h.1
    · cases h0.1
    · cases e2; exact ⟨hnc, hcm⟩
  unfold maxLen at hcm
  obtain ⟨m, hm⟩ : ∃ m, m = k + 1 := ⟨_, rfl⟩
  rw [← hm]
  have HH : Hid (LBld w base (.slice (some ⟨g, 0, none⟩) n cap) D) := h
  have hcapI : (n : Int) ≤ (cap : Int) := by omega
  have hmn : (m : Int) ≤ (n : Int) := by omega
  have hkm : (k : Int) ≤ (m : Int) := by omega
  have hkn : (k : Int) ≤ (n : Int) := by omega
  have hkc : (k : Int) ≤ (cap : Int) := by omega
  have hmc : (m : Int) ≤ (cap : Int) := by omega
  have hmk : ((k : Int) == (m : Int)) = false := by rw [beq_eq_false_iff_ne]; omega
  obtain ⟨n1, hn1⟩ : ∃ n1, n1 = n - 1 := ⟨_, rfl⟩
  have hN : n - n1 = 1 ∧ n1 < n := by omega
  have HCUT : Hid (∀ a c W, LBld W base (.slice (some ⟨g, 0, none⟩) n cap) D → (m < n → a = ⟨g, m * 3, none⟩) → ∃ w', (∀ ty, (Builtin.append_ #[56, 56] ty #[.slice (some ⟨g, 0, none⟩) k cap, .slice (some a) (n - m) c]).run Try.prog W = .ok (.slice (some ⟨g, 0, none⟩) n1 cap) w') ∧ LBld w' base (.slice (some ⟨g, 0, none⟩) n1 cap) (D.eraseIdx k) ∧ W.grownBy w' (some g) ∧ (∀ j, j < 3 → (w'.cell? ⟨g, n1 * 3 + j, none⟩).isSome = true) ∧ (∀ j, w'.frozen? ⟨g, j, none⟩ = false)) := fun a c W hW ha => by
    rw [hn1, hm]; rw [hm] at ha
    exact run_cut base g cap n D k W hW hn hk a c ha
  rw [← hn1]
  have hn1I : (n1 : Int) ≤ (n : Int) := by omega
  have hgb : base ≤ g := by
    obtain ⟨_, h0 | ⟨g2, c2, cur, e2, hbg, _⟩⟩ := h.1
    · cases h0.1
    · cases e2; exact hbg
  have hL1 : (D.eraseIdx k).length = n1 := by rw [List.length_eraseIdx, if_pos (by omega), ← hn, hn1]
  have HCL : Hid (∀ W Z, LBld W base (.slice (some ⟨g, 0, none⟩) n1 cap) (D.eraseIdx k) → LBld (W.setCells g (n1 * 3) Z) base (.slice (some ⟨g, 0, none⟩) n1 cap) (D.eraseIdx k)) := fun W Z hl => lbld_beyond n1 cap _ hL1 W Z hl
  have HCB : Hid (∀ W0 W Z, Below base w W0 → Below base W0 W → Below base w (W.setCells g (n1 * 3) Z)) := fun W0 W Z h1 h2 => by
    have h3 := h1.trans h2
    exact h3.grown (row := some g) (grown_setCellsC Z (n1 * 3) ⟨rfl, rfl, rfl, Nat.le_refl _, fun _ _ _ => rfl⟩) (Nat.le_trans hb h3.size) (fun k e => by cases e; exact hgb)
  clear h hn hm hn1 hL1
  go_enter Try.func67, Try.ntmps67
  go_wp2_with fail
  have hbd : Below w.heap.size w w.drew := (Below.refl _ _).drew
  have HD0 : Hid (LBld w.drew base (.slice (some ⟨g, 0, none⟩) n cap) D) := HH.out.kept hbd
  have HB0 : Hid (Below base w w.drew) := (Below.refl _ _).drew
  clear hbd
  refine wp_region_noPanic ?_
  refine wp_region_held_drew (S := fun _ : World => True) (by kernel_rfl) trivial (fun hHeld => ?_)
  generalize w.drew = wv at HD0 HB0 hHeld ⊢
  refine wpAnyH_take (i := 0) (v := .slice (some ⟨g, 0, none⟩) n cap) rfl (by kernel_rfl) (by kernel_rfl) (by kernel_rfl) (fun _ _ _ h => h) (Or.inl ⟨by rfl, ?_⟩) (by trivial) ?_
  · intro W hSW
    go_simp
  simp only [Act.put, List.getElem_toArray, List.getElem_cons_zero, List.setIfInBounds_toArray, List.set_cons_succ, List.set_cons_zero]
  refine wpAnyH_take (i := 1) (v := .int .i64 (k : Int)) rfl (by kernel_rfl) (by kernel_rfl) (by kernel_rfl) (fun _ _ _ h => h) (Or.inl ⟨by rfl, ?_⟩) (by trivial) ?_
  · intro W hSW
    go_simp
  simp only [Act.put, List.getElem_toArray, List.getElem_cons_succ, List.getElem_cons_zero, List.setIfInBounds_toArray, List.set_cons_succ, List.set_cons_zero]
  refine wpAnyH_take (i := 2) (v := .slice (some ⟨g, 0, none⟩) k cap) rfl (by kernel_rfl) (by kernel_rfl) (by kernel_rfl) (fun _ _ _ h => h) (Or.inl ⟨by rfl, ?_⟩) (by trivial) ?_
  · intro W hSW
    go_simp
  simp only [Act.put, List.getElem_toArray, List.getElem_cons_succ, List.getElem_cons_zero, List.setIfInBounds_toArray, List.set_cons_succ, List.set_cons_zero]
  refine wpAnyH_take (i := 3) (v := .slice (some ⟨g, 0, none⟩) n cap) rfl (by kernel_rfl) (by kernel_rfl) (by kernel_rfl) (fun _ _ _ h => h) (Or.inl ⟨by rfl, ?_⟩) (by trivial) ?_
  · intro W hSW
    go_simp
  simp only [Act.put, List.getElem_toArray, List.getElem_cons_succ, List.getElem_cons_zero, List.setIfInBounds_toArray, List.set_cons_succ, List.set_cons_zero]
  refine wpAnyH_take (i := 4) (v := .int .i64 (m : Int)) rfl (by kernel_rfl) (by kernel_rfl) (by kernel_rfl) (fun _ _ _ h => h) (Or.inl ⟨by rfl, ?_⟩) (by trivial) ?_
  · intro W hSW
    go_simp
  simp only [Act.put, List.getElem_toArray, List.getElem_cons_succ, List.getElem_cons_zero, List.setIfInBounds_toArray, List.set_cons_succ, List.set_cons_zero]
  by_cases hcm2 : cap = m
  · have hcI : ((cap : Int) == (m : Int)) = true := by rw [hcm2]; simp
    have HG : Hid (m < n → (⟨g, 0, none⟩ : Addr) = ⟨g, m * 3, none⟩) := fun h => absurd h (by omega)
    have HM2 : Hid (cap = m) := hcm2
    clear hcm2
    refine wpAnyH_take (i := 5) (v := .slice (some ⟨g, 0, none⟩) (n - m) 0) rfl (by kernel_rfl) (by kernel_rfl) (by kernel_rfl) (fun _ _ _ h => h) (Or.inl ⟨by rfl, ?_⟩) (by trivial) ?_
    · intro W hSW
      go_simp
      exact ⟨fun h => absurd HM2.out h, by have := HM2.out; omega⟩
    simp only [Act.put, List.getElem_toArray, List.getElem_cons_succ, List.getElem_cons_zero, List.setIfInBounds_toArray, List.set_cons_succ, List.set_cons_zero]
    obtain ⟨w6, hrun, hl6, hg6, hc6, hf6⟩ := HCUT.out ⟨g, 0, none⟩ 0 wv HD0.out HG.out
    have HL6 : Hid (LBld w6 base (.slice (some ⟨g, 0, none⟩) n1 cap) (D.eraseIdx k)) := hl6
    have HG6 : Hid (Below base wv w6) := (Below.refl _ _).grown hg6 (Nat.le_trans hb HB0.out.size) (fun k e => by cases e; exact hgb)
    refine wpAnyH_ready (rs := [6]) (by kernel_rfl) (by simp) ?_
    refine AllReadyH.cons rfl (fun K hK => ?_) AllReadyH.nil
    refine step_append_run rfl (.tmp 22) (.tmp 25) 56 rfl _ _ rfl rfl _ w6 hrun ?_
    simp only [Act.put, List.getElem_toArray, List.getElem_cons_succ, List.getElem_cons_zero, List.setIfInBounds_toArray, List.set_cons_succ, List.set_cons_zero]
    refine hK.out _ _ trivial (fun hSS => ?_)
    clear hK hrun hl6 hg6
    obtain ⟨Z, hz⟩ := run_clear3 w6 g (n1 * 3) (cap - n1) hc6 (fun j _ => hf6 _)
    have HZ1 : Hid (LBld (w6.setCells g (n1 * 3) Z) base (.slice (some ⟨g, 0, none⟩) n1 cap) (D.eraseIdx k)) := HCL.out w6 Z HL6.out
    have HZ2 : Hid (Below base w (w6.setCells g (n1 * 3) Z)) := HCB.out _ w6 Z HB0.out HG6.out
    refine wpAnyH_take (i := 7) (v := .slice (some ⟨g, 0, none⟩) n1 cap) rfl (by kernel_rfl) (by kernel_rfl) (by kernel_rfl) (fun _ _ _ h => h) (Or.inl ⟨by rfl, ?_⟩) (by trivial) ?_
    · intro W hSW
      go_simp
    simp only [Act.put, List.getElem_toArray, List.getElem_cons_succ, List.getElem_cons_zero, List.setIfInBounds_toArray, List.set_cons_succ, List.set_cons_zero]
    refine wpAnyH_done (by kernel_rfl) ?_ _
    refine NoPanic.normal ?_
    go_wp2_with fail
    go_ret
    exact ⟨rfl, HZ1.out, HZ2.out⟩
  · have hcI : ((cap : Int) == (m : Int)) = false := by rw [beq_eq_false_iff_ne]; omega
    have HG : Hid (m < n → (⟨g, m * 3, none⟩ : Addr) = ⟨g, m * 3, none⟩) := fun _ => rfl
    refine wpAnyH_take (i := 5) (v := .slice (some ⟨g, m * 3, none⟩) (n - m) (cap - m)) rfl (by kernel_rfl) (by kernel_rfl) (by kernel_rfl) (fun _ _ _ h => h) (Or.inl ⟨by rfl, ?_⟩) (by trivial) ?_
    · intro W hSW
      go_simp
    simp only [Act.put, List.getElem_toArray, List.getElem_cons_succ, List.getElem_cons_zero, List.setIfInBounds_toArray, List.set_cons_succ, List.set_cons_zero]
    obtain ⟨w6, hrun, hl6, hg6, hc6, hf6⟩ := HCUT.out ⟨g, m * 3, none⟩ (cap - m) wv HD0.out HG.out
    have HL6 : Hid (LBld w6 base (.slice (some ⟨g, 0, none⟩) n1 cap) (D.eraseIdx k)) := hl6
    have HG6 : Hid (Below base wv w6) := (Below.refl _ _).grown hg6 (Nat.le_trans hb HB0.out.size) (fun k e => by cases e; exact hgb)
    refine wpAnyH_ready (rs := [6]) (by kernel_rfl) (by simp) ?_
    refine AllReadyH.cons rfl (fun K hK => ?_) AllReadyH.nil
    refine step_append_run rfl (.tmp 22) (.tmp 25) 56 rfl _ _ rfl rfl _ w6 hrun ?_
    simp only [Act.put, List.getElem_toArray, List.getElem_cons_succ, List.getElem_cons_zero, List.setIfInBounds_toArray, List.set_cons_succ, List.set_cons_zero]
    refine hK.out _ _ trivial (fun hSS => ?_)
    clear hK hrun hl6 hg6
    obtain ⟨Z, hz⟩ := run_clear3 w6 g (n1 * 3) (cap - n1) hc6 (fun j _ => hf6 _)
    have HZ1 : Hid (LBld (w6.setCells g (n1 * 3) Z) base (.slice (some ⟨g, 0, none⟩) n1 cap) (D.eraseIdx k)) := HCL.out w6 Z HL6.out
    have HZ2 : Hid (Below base w (w6.setCells g (n1 * 3) Z)) := HCB.out _ w6 Z HB0.out HG6.out
    refine wpAnyH_take (i := 7) (v := .slice (some ⟨g, 0, none⟩) n1 cap) rfl (by kernel_rfl) (by kernel_rfl) (by kernel_rfl) (fun _ _ _ h => h) (Or.inl ⟨by rfl, ?_⟩) (by trivial) ?_
    · intro W hSW
      go_simp
    simp only [Act.put, List.getElem_toArray, List.getElem_cons_succ, List.getElem_cons_zero, List.setIfInBounds_toArray, List.set_cons_succ, List.set_cons_zero]
    refine wpAnyH_done (by kernel_rfl) ?_ _
    refine NoPanic.normal ?_
    go_wp2_with fail
    go_ret
    exact ⟨rfl, HZ1.out, HZ2.out⟩
end Go.Proofs.Ytacmipcjhbkdcaa

namespace Go.Proofs.Ytacmipcjhbkdcaa
open Go.RowKit

def failB (L : List LkT) (k : Int) : Bool := (decide (0 ≤ k) && decide (k ≤ (L.length : Int) - 1)) && !decide (L.length = 1)
def sent0L (L : List LkT) (k : Nat) : List LkT := if 0 < k then L.set (k - 1) ((L.getD (k - 1) zLk).1, 0, (L.getD (k - 1) zLk).2.2) else L
def failL (L : List LkT) (k : Int) : List LkT := if failB L k then sealL (sent0L (L.eraseIdx k.toNat) k.toNat) else L
theorem lkf_erase (D : List (LkT × Value)) (k : Nat) : lkf (D.eraseIdx k) = (lkf D).eraseIdx k := by
  unfold lkf
  simp [List.eraseIdx_eq_take_drop_succ, List.map_take, List.map_drop]
theorem lbld_len {W : World} {base g cap n : Nat} {D : List (LkT × Value)} (h : LBld W base (.slice (some ⟨g, 0, none⟩) n cap) D) : n = D.length := by
  obtain ⟨a, c, e, _⟩ := h.shape
  cases e; rfl
/-- What a step of links tells. -/
def LkAns (w w' : World) (base : Nat) (e : Ending) (L : List LkT) (b : Bool) : Prop :=
  ∃ g cap n D, e = .returned (.tuple #[.slice (some ⟨g, 0, none⟩) n cap, .bool b]) ∧ n = D.length ∧ LBld w' base (.slice (some ⟨g, 0, none⟩) n cap) D ∧ lkf D = L ∧ Below base w w'

set_option maxRecDepth 20000 in
set_option maxHeartbeats 4000000 in
theorem fail_any (base g cap n : Nat) (D : List (LkT × Value)) (k : Int) (w : World) (h : LBld w base (.slice (some ⟨g, 0, none⟩) n cap) D) (hn : n = D.length) (hs : 1 ≤ n ∧ n ≤ 6) (hb : base ≤ w.heap.size) :
    Calls Try.prog 51 #[.slice (some ⟨g, 0, none⟩) n cap, .int .i64 k] w fun e w' => LkAns w w' base e (failL (lkf D) k) (failB (lkf D) k) := by
  have HH : Hid (LBld w base (.slice (some ⟨g, 0, none⟩) n cap) D) := h
  have HN : Hid (n = D.length) := hn
  have HT : Hid (∀ W, Calls Try.prog 66 #[.slice (some ⟨g, 0, none⟩) n cap] W fun e w' => e = .returned (.int .i64 ((n : Int) - 1)) ∧ w' = W) := fun W => tail_any _ n cap W (by omega)
  have HNO : Hid (failB (lkf D) k = false → lkf D = failL (lkf D) k) := fun h => by unfold failL; rw [if_neg (by rw [h]; simp)]
  have HYE : Hid (failB (lkf D) k = true → sealL (sent0L ((lkf D).eraseIdx k.toNat) k.toNat) = failL (lkf D) k) := fun h => by unfold failL; rw [if_pos h]
  have HBB : Hid (failB (lkf D) k = ((decide (0 ≤ k) && decide (k ≤ (n : Int) - 1)) && !decide (n = 1))) := by
    show _ = _
    unfold failB; rw [lkf_len, ← hn]
  have HW : Hid (∀ W, Calls Try.prog 44 #[.int .i64 k, .int .i64 0, .int .i64 ((n : Int) - 1)] W fun e w' => e = .returned (.bool (decide (0 ≤ k) && decide (k ≤ (n : Int) - 1))) ∧ w' = W) := fun W => iWithin_anyC k 0 _ W
  clear h hn
  cases hw : (decide (0 ≤ k) && decide (k ≤ (n : Int) - 1)) with
  | false =>
    rw [hw] at HW HBB
    have HB0 : Hid (failB (lkf D) k = false) := HBB.out
    have HE : Hid (lkf D = failL (lkf D) k) := HNO.out HB0.out
    clear hw HBB HNO HYE
    go_enter Try.func51, Try.ntmps51
    go_wp2_with fail
    refine (HT.out _).mono ?_
    rintro e w1 ⟨rfl, rfl⟩
    go_wp2_with fail
    refine (HW.out _).mono ?_
    rintro e w2 ⟨rfl, rfl⟩
    go_wp2_with fail
    go_ret2
    exact ⟨g, cap, n, D, by rw [HB0.out]; rfl, HN.out, HH.out, HE.out, Below.refl _ _⟩
  | true =>
    rw [hw] at HW HBB
    by_cases h1 : n = 1
    · have HB0 : Hid (failB (lkf D) k = false) := by show _ = _; rw [HBB.out]; simp [h1]
      have HE : Hid (lkf D = failL (lkf D) k) := HNO.out HB0.out
      have e1 : ((n : Int) == 1) = true := by simp [h1]
      clear hw HBB HNO HYE h1 hs
      go_enter Try.func51, Try.ntmps51
      go_wp2_with fail
      refine (HT.out _).mono ?_
      rintro e w1 ⟨rfl, rfl⟩
      go_wp2_with fail
      refine (HW.out _).mono ?_
      rintro e w2 ⟨rfl, rfl⟩
      go_wp2_with fail
      go_ret2
      exact ⟨g, cap, n, D, by rw [HB0.out]; rfl, HN.out, HH.out, HE.out, Below.refl _ _⟩
    · have HB0 : Hid (failB (lkf D) k = true) := by show _ = _; rw [HBB.out]; simp [h1]
      have HE := HYE.out HB0.out
      have e1 : ((n : Int) == 1) = false := by rw [beq_eq_false_iff_ne]; omega
      have hk : 0 ≤ k ∧ k ≤ (n : Int) - 1 := by simpa using hw
      obtain ⟨j, rfl⟩ : ∃ j : Nat, k = (j : Int) := ⟨k.toNat, by omega⟩
      rw [show ((j : Int)).toNat = j by omega] at HE
      have hjn : j < n := by omega
      obtain ⟨n1, hn1⟩ : ∃ n1, n1 = n - 1 := ⟨_, rfl⟩
      have hDl : (D.eraseIdx j).length = n1 := by rw [List.length_eraseIdx, ← HN.out, if_pos hjn, hn1]
      have HDE : Hid (∀ W, LBld W base (.slice (some ⟨g, 0, none⟩) n cap) D → base ≤ W.heap.size → Calls Try.prog 67 #[.slice (some ⟨g, 0, none⟩) n cap, .int .i64 (j : Int), .int .i64 ((j + 1 : Nat) : Int)] W fun e w' => e = .returned (.slice (some ⟨g, 0, none⟩) n1 cap) ∧ LBld w' base (.slice (some ⟨g, 0, none⟩) n1 cap) (D.eraseIdx j) ∧ Below base W w') := fun W hW hbW => by
        have hx := delete_any base g cap n D j W hW HN.out hjn (by omega) hbW
        rw [← hn1] at hx; exact hx
      have hn1p : 1 ≤ n1 ∧ n1 ≤ 6 := by omega
      have HSE : Hid (∀ W E, LBld W base (.slice (some ⟨g, 0, none⟩) n1 cap) E → n1 = E.length → Calls Try.prog 68 #[.slice (some ⟨g, 0, none⟩) n1 cap] W fun e w' => e = .returned (.tuple #[]) ∧ (∃ D', LBld w' base (.slice (some ⟨g, 0, none⟩) n1 cap) D' ∧ lkf D' = sealL (lkf E)) ∧ Below base W w') := fun W E hW hE => sealTail_any base g cap n1 E W hW hE (by omega) (by omega)
      obtain ⟨j1, hj1⟩ : ∃ j1, j1 = j + 1 := ⟨_, rfl⟩
      have wj : IntKind.i64.wrap ((j : Int) + 1) = (j1 : Int) := by rw [i64_wrapC (by omega) (by omega)]; omega
      have wj2 : (j : Int) + 1 = (j1 : Int) := by omega
      have HJ1 : Hid (j ≤ n1) := by show _ ≤ _; omega
      rw [← hj1] at HDE
      have HE2 : Hid (sealL (sent0L (lkf (D.eraseIdx j)) j) = failL (lkf D) (j : Int)) := by show _ = _; rw [lkf_erase]; exact HE
      obtain ⟨D1, hD1⟩ : ∃ D1, D1 = D.eraseIdx j := ⟨_, rfl⟩
      rw [← hD1] at HDE HE2 hDl
      have HDL : Hid (n1 = D1.length) := hDl.symm
      clear hw HBB HNO HYE h1 hs HE hk hj1 hn1 hD1 hDl hjn
      by_cases hj0 : 0 < j
      · have hj0I : (0 : Int) < (j : Int) := by omega
        have hjb : j ≤ n1 := HJ1.out
        obtain ⟨i, hi⟩ : ∃ i, i = j - 1 := ⟨_, rfl⟩
        have wi : IntKind.i64.wrap ((j : Int) - 1) = (i : Int) := by rw [i64_wrapC (by omega) (by omega)]; omega
        have wi2 : (j : Int) - 1 = (i : Int) := by omega
        have hin : (i : Int) < (n1 : Int) := by have := HJ1.out; omega
        have HI : Hid (j - 1 = i) := hi.symm
        have HJ0 : Hid (0 < j) := hj0
        have HIN : Hid (i < n1) := by have := HJ1.out; show i < n1; omega
        clear hi hj0 hjb
        go_enter Try.func51, Try.ntmps51
        go_wp2_with fail
        refine (HT.out _).mono ?_
        rintro e w1 ⟨rfl, rfl⟩
        go_wp2_with fail
        refine (HW.out _).mono ?_
        rintro e w2 ⟨rfl, rfl⟩
        go_wp2_with fail
        refine (HDE.out _ HH.out hb).mono ?_
        rintro e w3 ⟨rfl, hl3, hb3⟩
        have hiD : i < D1.length := by rw [← HDL.out]; exact HIN.out
        obtain ⟨⟨c0, c1, c2⟩, hfz, hbg⟩ := hl3.atI hiD
        have f1 := hfz (i * 3 + 1)
        obtain ⟨x, hx⟩ : ∃ x, x = D1[i]'hiD := ⟨_, rfl⟩
        have hP := hl3.putI hiD ((x.1.1, 0, x.1.2.2), x.2) 1 (.int .i64 0) (by omega) (by rw [hx]; rfl) (by rw [hx]) (by rw [hx])
        have HP : Hid (LBld (w3.setCell ⟨g, i * 3 + 1, none⟩ (.int .i64 0)) base (.slice (some ⟨g, 0, none⟩) n1 cap) (D1.set i ((x.1.1, 0, x.1.2.2), x.2))) := hP
        have HB3 : Hid (Below base w2 (w3.setCell ⟨g, i * 3 + 1, none⟩ (.int .i64 0))) := hb3.setCell (p := ⟨g, i * 3 + 1, none⟩) hbg _
        have HEL : Hid (lkf (D1.set i ((x.1.1, 0, x.1.2.2), x.2)) = sent0L (lkf D1) j) := by
          show _ = _
          unfold sent0L
          rw [if_pos HJ0.out, HI.out, lkf_set, lkf_get hiD, ← hx]
        have HLL : Hid (n1 = (D1.set i ((x.1.1, 0, x.1.2.2), x.2)).length) := by show _ = _; rw [List.length_set]; exact HDL.out
        obtain ⟨W4, hW4⟩ : ∃ W4, W4 = w3.setCell ⟨g, i * 3 + 1, none⟩ (.int .i64 0) := ⟨_, rfl⟩
        have HW4 : Hid (w3.setCell ⟨g, i * 3 + 1, none⟩ (.int .i64 0) = W4) := hW4.symm
        rw [← hW4] at HP HB3
        clear hl3 hb3 c0 c2 hfz hbg hx hP hW4
        go_wp2_with (rw [HW4.out])
        refine (HSE.out _ _ HP.out HLL.out).mono ?_
        rintro e w5 ⟨rfl, ⟨D5, hd5, hl5⟩, hb5⟩
        have HB5 : Hid (Below base w2 w5) := HB3.out.trans hb5
        have HD5 : Hid (LBld w5 base (.slice (some ⟨g, 0, none⟩) n1 cap) D5) := hd5
        have HL5 : Hid (lkf D5 = failL (lkf D) (j : Int)) := by show _ = _; rw [hl5, HEL.out, HE2.out]
        clear hd5 hl5 hb5 c1 f1
        go_wp2_with fail
        go_ret2
        exact ⟨g, cap, n1, D5, by rw [HB0.out]; rfl, lbld_len HD5.out, HD5.out, HL5.out, HB5.out⟩
      · have hj0I : ¬ (0 : Int) < (j : Int) := by omega
        have HEL : Hid (lkf D1 = sent0L (lkf D1) j) := by show _ = _; unfold sent0L; rw [if_neg hj0]
        clear hj0
        go_enter Try.func51, Try.ntmps51
        go_wp2_with fail
        refine (HT.out _).mono ?_
        rintro e w1 ⟨rfl, rfl⟩
        go_wp2_with fail
        refine (HW.out _).mono ?_
        rintro e w2 ⟨rfl, rfl⟩
        go_wp2_with fail
        refine (HDE.out _ HH.out hb).mono ?_
        rintro e w3 ⟨rfl, hl3, hb3⟩
        have HP : Hid (LBld w3 base (.slice (some ⟨g, 0, none⟩) n1 cap) D1) := hl3
        have HB3 : Hid (Below base w2 w3) := hb3
        clear hl3 hb3
        go_wp2_with fail
        refine (HSE.out _ _ HP.out HDL.out).mono ?_
        rintro e w5 ⟨rfl, ⟨D5, hd5, hl5⟩, hb5⟩
        have HB5 : Hid (Below base w2 w5) := HB3.out.trans hb5
        have HD5 : Hid (LBld w5 base (.slice (some ⟨g, 0, none⟩) n1 cap) D5) := hd5
        have HL5 : Hid (lkf D5 = failL (lkf D) (j : Int)) := by show _ = _; rw [hl5, HEL.out, HE2.out]
        clear hd5 hl5 hb5
        go_wp2_with fail
        go_ret2
        exact ⟨g, cap, n1, D5, by rw [HB0.out]; rfl, lbld_len HD5.out, HD5.out, HL5.out, HB5.out⟩
end Go.Proofs.Ytacmipcjhbkdcaa

namespace Go.Proofs.Ytacmipcjhbkdcaa
open Go.RowKit

def joinB (L : List LkT) : Bool := !decide (L.length = 6)
def joinL (L : List LkT) : List LkT :=
  if joinB L then sealL (L.set (L.length - 1) ((L.getD (L.length - 1) zLk).1, ((L.getD (L.length - 1) zLk).1.length : Int), (L.getD (L.length - 1) zLk).2.2) ++ [((L.getD (L.length - 1) zLk).1, 0, 0)]) else L
theorem LBld.more {W W' : World} {base B : Nat} {v v' : Value} {D : List (LkT × Value)} {y : LkT × Value} (h : LBld W base v D) (hy : W.ownsRow B 9 1 y.2 y.1.1.length (y.1.1.map S)) (hB : base ≤ B) (hD : ∀ x ∈ D, ∀ k, x.2.ownBlock = some k → k < B)
    (ho : W'.ownsRow base 71 3 v' (D.length + 1) (lkcs D ++ lkcs [y])) (hg : W.grownBy W' v.ownBlock) : LBld W' base v' (D ++ [y]) := by
  refine ⟨by rw [List.length_append, lkcs_app]; exact ho, fun x hx => ?_, ?_⟩
  · rcases List.mem_append.1 hx with hx | hx
    · have k := h.2.1 x hx; exact k.kept hg (own_types k h.1 (by decide))
    · rw [List.mem_singleton.1 hx]
      have k := own_mono hy hB; exact k.kept hg (own_types k h.1 (by decide))
  · rw [List.pairwise_append]
    refine ⟨h.2.2, List.pairwise_singleton _ _, fun x hx z hz g h1 h2 => ?_⟩
    rw [List.mem_singleton.1 hz] at h2
    have k1 := hD x hx g h1
    have k2 := (hy.lt g h2).1
    omega

set_option maxRecDepth 20000 in
set_option maxHeartbeats 4000000 in
theorem join_any (base g cap n : Nat) (D : List (LkT × Value)) (w : World) (h : LBld w base (.slice (some ⟨g, 0, none⟩) n cap) D) (hn : n = D.length) (hs : 1 ≤ n ∧ n ≤ 6) (hb : base ≤ w.heap.size) (hl : ∀ k, k < n → ((lkf D).getD k zLk).1.length ≤ 1000) :
    Calls Try.prog 52 #[.slice (some ⟨g, 0, none⟩) n cap] w fun e w' => LkAns w w' base e (joinL (lkf D)) (joinB (lkf D)) := by
  have HH : Hid (LBld w base (.slice (some ⟨g, 0, none⟩) n cap) D) := h
  have HN : Hid (n = D.length) := hn
  have HNO : Hid (joinB (lkf D) = false → lkf D = joinL (lkf D)) := fun h => by unfold joinL; rw [if_neg (by rw [h]; simp)]
  have HBB : Hid (joinB (lkf D) = !decide (n = 6)) := by
    show _ = _
    unfold joinB; rw [lkf_len, ← hn]
  by_cases h6 : n = 6
  · have HB0 : Hid (joinB (lkf D) = false) := by show _ = _; rw [HBB.out]; simp [h6]
    have HE : Hid (lkf D = joinL (lkf D)) := HNO.out HB0.out
    have e1 : ((n : Int) == 6) = true := by simp [h6]
    clear h hn hl HNO HBB h6 hs
    go_enter Try.func52, Try.ntmps52
    go_wp2_with fail
    go_ret2
    exact ⟨g, cap, n, D, by rw [HB0.out]; rfl, HN.out, HH.out, HE.out, Below.refl _ _⟩
  · have HB0 : Hid (joinB (lkf D) = true) := by show _ = _; rw [HBB.out]; simp [h6]
    have e1 : ((n : Int) == 6) = false := by rw [beq_eq_false_iff_ne]; omega
    obtain ⟨t, ht⟩ : ∃ t, n = t + 1 := ⟨n - 1, by omega⟩
    have htD : t < D.length := by omega
    have HJ : Hid (joinL (lkf D) = sealL ((lkf D).set t (((lkf D).getD t zLk).1, (((lkf D).getD t zLk).1.length : Int), ((lkf D).getD t zLk).2.2) ++ [(((lkf D).getD t zLk).1, 0, 0)])) := by
      show _ = _
      unfold joinL
      rw [if_pos HB0.out, lkf_len, show D.length - 1 = t by omega]
    have hl0 := hl t (by omega)
    rw [lkf_get htD] at HJ hl0
    have HT : Hid (∀ W, Calls Try.prog 66 #[.slice (some ⟨g, 0, none⟩) n cap] W fun e w' => e = .returned (.int .i64 (t : Int)) ∧ w' = W) := fun W => by
      rw [show (t : Int) = (n : Int) - 1 by omega]; exact tail_any _ n cap W (by omega)
    have htn : (t : Int) < (n : Int) := by omega
    have hno : n + 1 ≤ 7 := by omega
    have HT1 : Hid (n = t + 1) := ht
    obtain ⟨⟨c0, c1, c2⟩, _, _⟩ := h.atI htD
    have hrow := h.text (List.getElem_mem htD)
    obtain ⟨x, hx⟩ : ∃ x, x = D[t]'htD := ⟨_, rfl⟩
    have HX : Hid (x = D[t]'htD) := hx
    rw [← hx] at c0 hrow HJ hl0
    clear c1 c2 h hn hl HNO HBB h6 ht hx hs
    have HTD : Hid (t < D.length) := htD
    obtain ⟨⟨xd, xs, xu⟩, dv⟩ := x
    simp only at c0 hrow HJ hl0
    have HC : Hid (∀ W, Row W dv xd → Calls Try.prog 60 #[dv] W fun e w' => ∃ u, e = .returned u ∧ w'.ownsRow W.heap.size 9 1 u xd.length (xd.map S) ∧ Below W.heap.size W w') := fun W hW => cloneS_any dv xd W hW (by omega)
    obtain ⟨m, hm⟩ : ∃ m, m = xd.length := ⟨_, rfl⟩
    rw [← hm] at HC hl0 HJ
    have HM : Hid (m = xd.length) := hm
    clear hm
    have HR : Hid (Row w dv xd) := hrow
    obtain ⟨ad, cd, hdv, _, _, _⟩ := row_value hrow
    subst hdv
    clear hrow
    go_enter Try.func52, Try.ntmps52
    go_wp2_with fail
    refine (HT.out _).mono ?_
    rintro e w1 ⟨rfl, rfl⟩
    go_wp2_with fail
    refine (HC.out _ HR.out).mono ?_
    rintro e w3 ⟨u, rfl, ho3, hb3⟩
    obtain ⟨au, cu, hu, _, _, _⟩ := own_sliceC ho3
    subst hu
    have HO3 : Hid (w3.ownsRow w1.heap.size 9 1 (.slice au m cu) m (xd.map S)) := ho3
    have hL3 := HH.out.kept hb3
    have hlt := HH.out.lt
    obtain ⟨⟨_, c1, _⟩, hfz, hbg⟩ := hL3.atI HTD.out
    have f1 := hfz (t * 3 + 1)
    have hP := hL3.putI HTD.out ((xd, (m : Int), xu), .slice ad xd.length cd) 1 (.int .i64 (m : Int)) (by omega) (by rw [← HX.out]; rfl) (by rw [← HX.out]) (by rw [← HX.out])
    obtain ⟨D4, hD4⟩ : ∃ D4, D4 = D.set t ((xd, (m : Int), xu), Value.slice ad xd.length cd) := ⟨_, rfl⟩
    rw [← hD4] at hP
    obtain ⟨y, hy⟩ : ∃ y : LkT × Value, y = ((xd, 0, 0), Value.slice au m cu) := ⟨_, rfl⟩
    have HLK : Hid (sealL (lkf (D4 ++ [y])) = joinL (lkf D)) := by
      show _ = _
      rw [HJ.out, hD4, hy]
      unfold lkf
      rw [List.map_append, List.map_set]; rfl
    have HL4 : Hid (D4.length = n) := by show _ = _; rw [hD4, List.length_set]; exact HN.out.symm
    have HOW : Hid (∀ z ∈ D4, ∀ k, z.2.ownBlock = some k → k < w1.heap.size) := fun z hz k hk => by
      rw [hD4] at hz
      rcases List.mem_or_eq_of_mem_set hz with hz | hz
      · exact (hlt.2 z hz k hk).2
      · have h9 := (hlt.2 _ (List.getElem_mem HTD.out) k)
        rw [← HX.out] at h9
        rw [hz] at hk
        exact (h9 hk).2
    obtain ⟨W4, hW4⟩ : ∃ W4, W4 = w3.setCell ⟨g, t * 3 + 1, none⟩ (.int .i64 (m : Int)) := ⟨_, rfl⟩
    have HW4 : Hid (w3.setCell ⟨g, t * 3 + 1, none⟩ (.int .i64 (m : Int)) = W4) := hW4.symm
    have hz4 : W4.heap.size = w3.heap.size := by rw [hW4]; simp
    have hgw : w3.grownBy W4 (some g) := by rw [hW4]; exact grown_set (grown_refl _ _)
    have hO4 : W4.ownsRow w1.heap.size 9 1 (.slice au m cu) m (xd.map S) := HO3.out.kept hgw (own_types (own_mono HO3.out (Nat.zero_le _)) (hL3.mono (Nat.zero_le _)).1 (by decide))
    rw [← hW4] at hP
    have hB4 : Below base w1 W4 := by rw [hW4]; exact (hb3.mono hb).setCell (p := ⟨g, t * 3 + 1, none⟩) hbg _
    obtain ⟨wA, hwA⟩ : ∃ wA, wA = W4.alloc (.cells #[.slice au m cu, .int .i64 0, .int .i64 0] 71) := ⟨_, rfl⟩
    have HWA : Hid (W4.alloc (.cells #[.slice au m cu, .int .i64 0, .int .i64 0] 71) = wA) := hwA.symm
    have hbA : Below W4.heap.size W4 wA := by rw [hwA]; exact (Below.refl _ _).alloc (Nat.le_refl _) _
    have hPA := hP.kept hbA
    have hOA : wA.ownsRow w1.heap.size 9 1 (.slice au m cu) m (xd.map S) := own_below hO4 hbA
    have hnew : ∀ j q, (lkcs [y])[j]? = some q → wA.cell? ((⟨W4.heap.size, 0, none⟩ : Addr).add j) = some q := fun j q hq => by
      rw [hy, lkcs_one, lkc] at hq
      rw [add_0C, hwA]
      unfold World.cell?
      rw [blk_new]
      match j, hq with
      | 0, hq => simpa using hq
      | 1, hq => simpa using hq
      | 2, hq => simpa using hq
    have hone : ∀ q ∈ lkcs [y], q.oneCell' = true := fun q hq => lk_cells_one (fun z hz => ⟨au, m, cu, by rw [List.mem_singleton.1 hz, hy]⟩) hq
    have hzA : base ≤ wA.heap.size := Nat.le_trans hb (Nat.le_trans hB4.size hbA.size)
    have HBA : Hid (Below base w1 wA) := hB4.trans (hbA.mono (Nat.le_trans hb hB4.size))
    have HPA : Hid (LBld wA base (.slice (some ⟨g, 0, none⟩) n cap) D4) := hPA
    have HOA : Hid (wA.ownsRow w1.heap.size 9 1 y.2 y.1.1.length (y.1.1.map S)) := by
      show wA.ownsRow w1.heap.size 9 1 y.2 y.1.1.length (y.1.1.map S)
      rw [hy]
      simp only
      rw [← HM.out]; exact hOA
    have hown := hPA.1
    rw [HL4.out] at hown
    have hnl : (lkcs [y]).length = 1 * 3 := lkcs_length _
    obtain ⟨i0, hi, hz0, hz1, hz2⟩ := info_parts info_link
    clear ho3 hb3 hL3 hlt hfz hP hD4 hW4 hz4 hgw hO4 hB4 hwA hbA hPA hOA c0
    go_wp2_with fail
    refine (HT.out _).mono ?_
    rintro e w5 ⟨rfl, rfl⟩
    go_wp2_with (first | rw [HWA.out] | rw [HW4.out] | (at_builtin; refine Go.Proofs.Ytacmipcjhbkdcaa.wpList_append_own_at _ rfl (.tmp 23) (.tmp 26) 56 rfl base 71 i0 (.agg #[.slice none 0 0, .int .i64 0, .int .i64 0]) 3 40 Try.underlying56 hi hz0 hz1 hz2 rfl (by decide) _ _ _ rfl hown ⟨W4.heap.size, 0, none⟩ 1 1 (lkcs [y]) rfl hnl hnew hone ?d3 ?d4 ?d5 ?_))
    case d3 => unfold maxLen; omega
    case d4 => omega
    case d5 => exact hzA
    intro v6 w6 hown6 hgrow6 _
    have hL6 : LBld w6 base v6 (D4 ++ [y]) := HPA.out.more HOA.out hb HOW.out (by rw [HL4.out, hy]; exact hown6) hgrow6
    have HB6 : Hid (Below base w1 w6) := HBA.out.trans ((Below.refl _ _).grown hgrow6 hzA (fun j hj => (HPA.out.lt.1 j hj).1))
    obtain ⟨g6, cap6, hv6, _, _, _⟩ := hL6.form (by simp)
    have hlen : (D4 ++ [y]).length = n + 1 := by rw [List.length_append, HL4.out]; rfl
    rw [hlen] at hv6
    subst hv6
    have HSE : Hid (Calls Try.prog 68 #[.slice (some ⟨g6, 0, none⟩) (n + 1) cap6] w6 fun e w' => e = .returned (.tuple #[]) ∧ (∃ D', LBld w' base (.slice (some ⟨g6, 0, none⟩) (n + 1) cap6) D' ∧ lkf D' = sealL (lkf (D4 ++ [y]))) ∧ Below base w6 w') := sealTail_any base g6 cap6 (n + 1) (D4 ++ [y]) w6 hL6 hlen.symm (by omega) (by omega)
    clear hown6 hgrow6 hL6 hlen hown hnl hnew hone hzA hi hz0 hz1 hz2 HOW HOA HPA HBA
    obtain ⟨n7, hn7⟩ : ∃ n7, n7 = n + 1 := ⟨_, rfl⟩
    rw [← hn7] at HSE ⊢
    clear hn7 hno htn hbg
    go_wp2_with fail
    refine HSE.out.mono ?_
    rintro e w7 ⟨rfl, ⟨D7, hd7, hl7⟩, hb7⟩
    have HB7 : Hid (Below base w1 w7) := HB6.out.trans hb7
    have HD7 : Hid (LBld w7 base (.slice (some ⟨g6, 0, none⟩) n7 cap6) D7) := hd7
    have HL7 : Hid (lkf D7 = joinL (lkf D)) := by show _ = _; rw [hl7, HLK.out]
    clear hd7 hl7 hb7
    go_wp2_with fail
    go_ret2
    exact ⟨g6, cap6, n7, D7, by rw [HB0.out]; rfl, lbld_len HD7.out, HD7.out, HL7.out, HB7.out⟩
end Go.Proofs.Ytacmipcjhbkdcaa

namespace Go.Proofs.Ytacmipcjhbkdcaa
open Go.RowKit

abbrev StepT := Int × Int × List UInt8
def stepB (L : List LkT) (t : StepT) : Bool :=
  if t.1 = 1 then putB L t.2.2 else if t.1 = 2 then passB L t.2.1 else if t.1 = 3 then backB L t.2.1 else if t.1 = 4 then failB L t.2.1 else if t.1 = 5 then joinB L else false
def stepL (L : List LkT) (t : StepT) : List LkT :=
  if t.1 = 1 then putL L t.2.2 else if t.1 = 2 then passL L t.2.1 else if t.1 = 3 then backL L t.2.1 else if t.1 = 4 then failL L t.2.1 else if t.1 = 5 then joinL L else L

set_option maxRecDepth 20000 in
set_option maxHeartbeats 4000000 in
theorem step_any (base g cap n : Nat) (D : List (LkT × Value)) (kd k : Int) (s : List UInt8) (w : World) (h : LBld w base (.slice (some ⟨g, 0, none⟩) n cap) D) (hn : n = D.length) (hs : ShapeL (lkf D)) (hb : base ≤ w.heap.size) (hsl : s.length ≤ maxLen) :
    Calls Try.prog 30 #[.slice (some ⟨g, 0, none⟩) n cap, .agg #[.int .i64 kd, .int .i64 k, .string ⟨s.toArray⟩]] w fun e w' => LkAns w w' base e (stepL (lkf D) (kd, k, s)) (stepB (lkf D) (kd, k, s)) := by
  obtain ⟨wB, hwB⟩ : ∃ wB, wB = w.alloc (.cells #[.int .i64 kd, .int .i64 k, .string ⟨s.toArray⟩] 35) := ⟨_, rfl⟩
  have HWB : Hid (w.alloc (.cells #[.int .i64 kd, .int .i64 k, .string ⟨s.toArray⟩] 35) = wB) := hwB.symm
  have hbB : Below w.heap.size w wB := by rw [hwB]; exact (Below.refl _ _).alloc (Nat.le_refl _) _
  have c0 : wB.cell? ⟨w.heap.size, 0, none⟩ = some (.int .i64 kd) := by rw [hwB]; unfold World.cell?; rw [blk_new]; rfl
  have c1 : wB.cell? ⟨w.heap.size, 1, none⟩ = some (.int .i64 k) := by rw [hwB]; unfold World.cell?; rw [blk_new]; rfl
  have c2 : wB.cell? ⟨w.heap.size, 2, none⟩ = some (.string ⟨s.toArray⟩) := by rw [hwB]; unfold World.cell?; rw [blk_new]; rfl
  have HL : Hid (LBld wB base (.slice (some ⟨g, 0, none⟩) n cap) D) := h.kept hbB
  have HB : Hid (Below base w wB) := hbB.mono hb
  have HZ : Hid (base ≤ wB.heap.size) := Nat.le_trans hb hbB.size
  have HN : Hid (n = D.length) := hn
  have hn6 : 1 ≤ n ∧ n ≤ 6 := by have := hs.1; rw [lkf_len] at this; omega
  have hS0 := hs
  have HS : Hid (ShapeL (lkf D)) := hS0
  have HP1 : Hid (Calls Try.prog 48 #[.slice (some ⟨g, 0, none⟩) n cap, .string ⟨s.toArray⟩] wB fun e w' => e = .returned (.bool (putB (lkf D) s)) ∧ (∃ D', LBld w' base (.slice (some ⟨g, 0, none⟩) n cap) D' ∧ lkf D' = putL (lkf D) s) ∧ Below base wB w') := put_any base g cap n D s wB HL.out hn hs HZ.out hsl
  have HP2 : Hid (Calls Try.prog 49 #[.slice (some ⟨g, 0, none⟩) n cap, .int .i64 k] wB fun e w' => e = .returned (.bool (passB (lkf D) k)) ∧ (∃ D', LBld w' base (.slice (some ⟨g, 0, none⟩) n cap) D' ∧ lkf D' = passL (lkf D) k) ∧ Below base wB w') := pass_any base g cap n D k wB HL.out hn hs HZ.out
  have HP3 : Hid (Calls Try.prog 50 #[.slice (some ⟨g, 0, none⟩) n cap, .int .i64 k] wB fun e w' => e = .returned (.bool (backB (lkf D) k)) ∧ (∃ D', LBld w' base (.slice (some ⟨g, 0, none⟩) n cap) D' ∧ lkf D' = backL (lkf D) k) ∧ Below base wB w') := back_any base g cap n D k wB HL.out hn hs
  have HP4 : Hid (Calls Try.prog 51 #[.slice (some ⟨g, 0, none⟩) n cap, .int .i64 k] wB fun e w' => LkAns wB w' base e (failL (lkf D) k) (failB (lkf D) k)) := fail_any base g cap n D k wB HL.out hn hn6 HZ.out
  have HP5 : Hid (Calls Try.prog 52 #[.slice (some ⟨g, 0, none⟩) n cap] wB fun e w' => LkAns wB w' base e (joinL (lkf D)) (joinB (lkf D))) := join_any base g cap n D wB HL.out hn hn6 HZ.out (fun j hj => by have := hs.2.1 j (by rw [lkf_len, ← hn]; exact hj); omega)
  have HQL : Hid (∀ L, stepL L (kd, k, s) = if kd = 1 then putL L s else if kd = 2 then passL L k else if kd = 3 then backL L k else if kd = 4 then failL L k else if kd = 5 then joinL L else L) := fun L => rfl
  have HQB : Hid (∀ L, stepB L (kd, k, s) = if kd = 1 then putB L s else if kd = 2 then passB L k else if kd = 3 then backB L k else if kd = 4 then failB L k else if kd = 5 then joinB L else false) := fun L => rfl
  clear h hn hs hS0 hwB hbB hsl hn6
  by_cases hk1 : kd = 1
  · have HFL : Hid (putL (lkf D) s = stepL (lkf D) (kd, k, s)) := by show _ = _; rw [HQL.out]; simp [hk1]
    have HFB : Hid (putB (lkf D) s = stepB (lkf D) (kd, k, s)) := by show _ = _; rw [HQB.out]; simp [hk1]
    have e1 : (kd == (1 : Int)) = true := by simp [hk1]
    clear HQL HQB hk1
    go_enter Try.func30, Try.ntmps30
    go_wp2_with (rw [HWB.out])
    refine HP1.out.mono ?_
    rintro e w1 ⟨rfl, ⟨D1, hd1, hl1⟩, hb1⟩
    have HD1 : Hid (LBld w1 base (.slice (some ⟨g, 0, none⟩) n cap) D1) := hd1
    have HL1 : Hid (lkf D1 = stepL (lkf D) (kd, k, s)) := by show _ = _; rw [hl1, HFL.out]
    have HB1 : Hid (Below base w w1) := HB.out.trans hb1
    clear hd1 hl1 hb1
    go_wp2_with fail
    go_ret2
    exact ⟨g, cap, n, D1, by rw [← HFB.out]; rfl, lbld_len HD1.out, HD1.out, HL1.out, HB1.out⟩
  · have e1 : (kd == (1 : Int)) = false := by rw [beq_eq_false_iff_ne]; exact hk1
    by_cases hk2 : kd = 2
    · have HFL : Hid (passL (lkf D) k = stepL (lkf D) (kd, k, s)) := by show _ = _; rw [HQL.out]; simp [hk2]
      have HFB : Hid (passB (lkf D) k = stepB (lkf D) (kd, k, s)) := by show _ = _; rw [HQB.out]; simp [hk2]
      have e2 : (kd == (2 : Int)) = true := by simp [hk2]
      clear HQL HQB hk2
      go_enter Try.func30, Try.ntmps30
      go_wp2_with (rw [HWB.out])
      refine HP2.out.mono ?_
      rintro e w1 ⟨rfl, ⟨D1, hd1, hl1⟩, hb1⟩
      have HD1 : Hid (LBld w1 base (.slice (some ⟨g, 0, none⟩) n cap) D1) := hd1
      have HL1 : Hid (lkf D1 = stepL (lkf D) (kd, k, s)) := by show _ = _; rw [hl1, HFL.out]
      have HB1 : Hid (Below base w w1) := HB.out.trans hb1
      clear hd1 hl1 hb1
      go_wp2_with fail
      go_ret2
      exact ⟨g, cap, n, D1, by rw [← HFB.out]; rfl, lbld_len HD1.out, HD1.out, HL1.out, HB1.out⟩
    · have e2 : (kd == (2 : Int)) = false := by rw [beq_eq_false_iff_ne]; exact hk2
      by_cases hk3 : kd = 3
      · have HFL : Hid (backL (lkf D) k = stepL (lkf D) (kd, k, s)) := by show _ = _; rw [HQL.out]; simp [hk3]
        have HFB : Hid (backB (lkf D) k = stepB (lkf D) (kd, k, s)) := by show _ = _; rw [HQB.out]; simp [hk3]
        have e3 : (kd == (3 : Int)) = true := by simp [hk3]
        clear HQL HQB hk3
        go_enter Try.func30, Try.ntmps30
        go_wp2_with (rw [HWB.out])
        refine HP3.out.mono ?_
        rintro e w1 ⟨rfl, ⟨D1, hd1, hl1⟩, hb1⟩
        have HD1 : Hid (LBld w1 base (.slice (some ⟨g, 0, none⟩) n cap) D1) := hd1
        have HL1 : Hid (lkf D1 = stepL (lkf D) (kd, k, s)) := by show _ = _; rw [hl1, HFL.out]
        have HB1 : Hid (Below base w w1) := HB.out.trans hb1
        clear hd1 hl1 hb1
        go_wp2_with fail
        go_ret2
        exact ⟨g, cap, n, D1, by rw [← HFB.out]; rfl, lbld_len HD1.out, HD1.out, HL1.out, HB1.out⟩
      · have e3 : (kd == (3 : Int)) = false := by rw [beq_eq_false_iff_ne]; exact hk3
        by_cases hk4 : kd = 4
        · have HFL : Hid (failL (lkf D) k = stepL (lkf D) (kd, k, s)) := by show _ = _; rw [HQL.out]; simp [hk4]
          have HFB : Hid (failB (lkf D) k = stepB (lkf D) (kd, k, s)) := by show _ = _; rw [HQB.out]; simp [hk4]
          have e4 : (kd == (4 : Int)) = true := by simp [hk4]
          clear HQL HQB hk4
          go_enter Try.func30, Try.ntmps30
          go_wp2_with (rw [HWB.out])
          refine HP4.out.mono ?_
          rintro e w1 ⟨g1, cap1, n1, D1, rfl, hn1, hd1, hl1, hb1⟩
          have HD1 : Hid (LBld w1 base (.slice (some ⟨g1, 0, none⟩) n1 cap1) D1) := hd1
          have HL1 : Hid (lkf D1 = stepL (lkf D) (kd, k, s)) := by show _ = _; rw [hl1, HFL.out]
          have HB1 : Hid (Below base w w1) := HB.out.trans hb1
          clear hn1 hd1 hl1 hb1
          go_wp2_with fail
          go_ret2
          exact ⟨g1, cap1, n1, D1, by rw [← HFB.out]; rfl, lbld_len HD1.out, HD1.out, HL1.out, HB1.out⟩
        · have e4 : (kd == (4 : Int)) = false := by rw [beq_eq_false_iff_ne]; exact hk4
          by_cases hk5 : kd = 5
          · have HFL : Hid (joinL (lkf D) = stepL (lkf D) (kd, k, s)) := by show _ = _; rw [HQL.out]; simp [hk5]
            have HFB : Hid (joinB (lkf D) = stepB (lkf D) (kd, k, s)) := by show _ = _; rw [HQB.out]; simp [hk5]
            have e5 : (kd == (5 : Int)) = true := by simp [hk5]
            clear HQL HQB hk5
            go_enter Try.func30, Try.ntmps30
            go_wp2_with (rw [HWB.out])
            refine HP5.out.mono ?_
            rintro e w1 ⟨g1, cap1, n1, D1, rfl, hn1, hd1, hl1, hb1⟩
            have HD1 : Hid (LBld w1 base (.slice (some ⟨g1, 0, none⟩) n1 cap1) D1) := hd1
            have HL1 : Hid (lkf D1 = stepL (lkf D) (kd, k, s)) := by show _ = _; rw [hl1, HFL.out]
            have HB1 : Hid (Below base w w1) := HB.out.trans hb1
            clear hn1 hd1 hl1 hb1
            go_wp2_with fail
            go_ret2
            exact ⟨g1, cap1, n1, D1, by rw [← HFB.out]; rfl, lbld_len HD1.out, HD1.out, HL1.out, HB1.out⟩
          · have e5 : (kd == (5 : Int)) = false := by rw [beq_eq_false_iff_ne]; exact hk5
            have HFL : Hid (lkf D = stepL (lkf D) (kd, k, s)) := by show _ = _; rw [HQL.out]; simp [hk1, hk2, hk3, hk4, hk5]
            have HFB : Hid (false = stepB (lkf D) (kd, k, s)) := by show _ = _; rw [HQB.out]; simp [hk1, hk2, hk3, hk4, hk5]
            clear HQL HQB hk1 hk2 hk3 hk4 hk5
            go_enter Try.func30, Try.ntmps30
            go_wp2_with (rw [HWB.out])
            go_ret2
            exact ⟨g, cap, n, D, by rw [← HFB.out]; rfl, HN.out, HL.out, HFL.out, HB.out⟩
end Go.Proofs.Ytacmipcjhbkdcaa

namespace Go.Proofs.Ytacmipcjhbkdcaa
open Go.RowKit

set_option linter.unusedSimpArgs false in
set_option maxRecDepth 20000 in
set_option maxHeartbeats 4000000 in
/-- Links copied: apart from what was there. -/
theorem linksOf_any (v : Value) (L : List LkT) (w : World) (hr : LkRow w v L) (hl : L.length ≤ 1000) (hx : Hid (∀ x ∈ L, KBig x)) :
    Calls Try.prog 29 #[.agg #[v]] w fun e w' => ∃ g D, lkf D = L ∧ e = .returned (.slice (some ⟨g, 0, none⟩) L.length L.length) ∧ LBld w' w.heap.size (.slice (some ⟨g, 0, none⟩) L.length L.length) D ∧ Below w.heap.size w w' := by
  obtain ⟨i0, hi, hz0, hz1, hz2⟩ := info_parts info_link
  obtain ⟨a, cap, rfl, hcap, hmax, HROW⟩ := lkrow_value hr
  have HCT : Hid (∀ (x : LkT) (va : Value) W, Row W va x.1 → KBig x → Calls Try.prog 47 #[va] W fun e w' => ∃ u, e = .returned u ∧ w'.ownsRow W.heap.size 9 1 u x.1.length (x.1.map S) ∧ Below W.heap.size W w') := fun x va W h1 h2 => copyTexts_any va x.1 W h1 h2.1 h2.2
  clear hr
  obtain ⟨w0, hw0⟩ : ∃ w0, w0 = w.alloc (.cells #[.slice a L.length cap] 31) := ⟨_, rfl⟩
  have HW0 : Hid (w.alloc (.cells #[.slice a L.length cap] 31) = w0) := hw0.symm
  have c0 : w0.cell? ⟨w.heap.size, 0, none⟩ = some (.slice a L.length cap) := by rw [hw0]; unfold World.cell?; rw [blk_new]; rfl
  have HB0 : Hid (Below w.heap.size w w0) := by show Below _ _ _; rw [hw0]; exact (Below.refl _ _).alloc (Nat.le_refl _) _
  have HC0 : Hid (∀ W, Below w0.heap.size w0 W → W.cell? ⟨w.heap.size, 0, none⟩ = some (.slice a L.length cap)) := fun W hW => by rw [hW.cell (p := ⟨w.heap.size, 0, none⟩) (World.block_lt_of_cell? _ _ c0)]; exact c0
  clear hw0
  obtain ⟨g0, hg0⟩ : ∃ g0, g0 = w0.heap.size := ⟨_, rfl⟩
  have HG0 : Hid (w.heap.size ≤ g0) := by show _ ≤ _; rw [hg0]; exact HB0.out.size
  go_enter Try.func29, Try.ntmps29
  go_wp2_with (first | rw [HW0.out] | (at_make; refine wpList_make_full _ rfl _ _ 56 rfl w0.heap.size 71 i0 (.agg #[.slice none 0 0, .int .i64 0, .int .i64 0]) 3 Try.underlying56 hi hz0 hz1 _ _ _ _ L.length rfl rfl rfl rfl ?b2 ?b3 ?b4 ?_))
  case b2 => rw [hz2]; omega
  case b3 => unfold maxLen; omega
  case b4 => exact Nat.le_refl _
  intro w1 hown hgrow
  have hb01 : Below w0.heap.size w0 w1 := (Below.refl _ _).grown hgrow (Nat.le_refl _) (fun k h => by cases h)
  have hb1 : Below w.heap.size w w1 := HB0.out.trans (hb01.mono HB0.out.size)
  have HC1 : Hid (∀ W, Below w1.heap.size w1 W → W.cell? ⟨w.heap.size, 0, none⟩ = some (.slice a L.length cap)) := fun W hW => HC0.out W (hb01.trans (hW.mono hb01.size))
  have d0 := HC1.out w1 (Below.refl _ _)
  rw [← hg0] at hown ⊢
  have hm1 : LBld w1 g0 (.slice (some ⟨g0, 0, none⟩) L.length L.length) (List.replicate L.length (([], 0, 0), .slice none 0 0)) := made_links hown
  have HS1 : Hid (LBld w1 w.heap.size (.slice (some ⟨g0, 0, none⟩) L.length L.length) (List.replicate L.length (([], 0, 0), .slice none 0 0))) := hm1.mono HG0.out
  clear hown hgrow hm1 c0 hb01 hg0
  go_wp2_with fail
  clear d0
  go_loopw [13] (fun i wr => ∃ (k : Nat) (D : List (LkT × Value)), (k ≤ L.length ∧ D.length = k) ∧ i = .int .i64 (k : Int) ∧ Hid (lkf D = L.take k) ∧ Hid (LBld wr w.heap.size (.slice (some ⟨g0, 0, none⟩) L.length L.length) (D ++ List.replicate (L.length - k) (([], 0, 0), .slice none 0 0))) ∧ Below w.heap.size w wr) (fun i _ => L.length - (intOf i).toNat)
  case atStart => exact ⟨0, [], ⟨Nat.zero_le _, rfl⟩, rfl, rfl, HS1, hb1⟩
  case round =>
    obtain ⟨k, D, ⟨hk, hDk⟩, rfl, HM, HR, hb⟩ := hrel
    have HDK : Hid (D.length = k) := hDk
    clear HS1 hb1 hDk HC1 HC0 HW0
    by_cases hlt : k < L.length
    · obtain ⟨b, o, ha, hbl, hcel⟩ := HROW.out (by omega)
      rw [ha]
      obtain ⟨va, hcx0⟩ := hcel k hlt
      have hcx := hcx0.kept hb
      have hkb := hx.out _ (List.getElem_mem hlt)
      have HMN : Hid (∀ y : LkT × Value, y.1 = L[k]'hlt → lkf (D ++ [y]) = L.take (k + 1)) := fun y hy => by
        have hM := HM.out
        unfold lkf at hM ⊢
        rw [List.map_append, hM, List.take_succ_eq_append_getElem hlt]; simp [hy]
      obtain ⟨x, hxe⟩ : ∃ x, x = L[k]'hlt := ⟨_, rfl⟩
      rw [← hxe] at hcx hkb HMN
      have HRX : Hid (∀ W, Below wr.heap.size wr W → Row W va x.1) := fun W hW => hcx.2.kept hW
      unfold LkAt at hcx
      obtain ⟨⟨c0, c1, c2⟩, hrx⟩ := hcx
      obtain ⟨⟨xd, xs, xu⟩, hxx⟩ : ∃ y : LkT, x = y := ⟨x, rfl⟩
      subst hxx
      simp only at c1 c2 HRX
      obtain ⟨aa, ca, rfl, _, _, _⟩ := hrx
      have HKB : Hid (KBig (xd, xs, xu)) := hkb
      obtain ⟨wX, hwX⟩ : ∃ wX, wX = wr.alloc (.cells #[.slice aa xd.length ca, .int .i64 xs, .int .i64 xu] 71) := ⟨_, rfl⟩
      have HWX : Hid (wr.alloc (.cells #[.slice aa xd.length ca, .int .i64 xs, .int .i64 xu] 71) = wX) := hwX.symm
      have hbX : Below wr.heap.size wr wX := by rw [hwX]; exact (Below.refl _ _).alloc (Nat.le_refl _) _
      have x0 : wX.cell? ⟨wr.heap.size, 0, none⟩ = some (.slice aa xd.length ca) := by rw [hwX]; unfold World.cell?; rw [blk_new]; rfl
      have x1 : wX.cell? ⟨wr.heap.size, 1, none⟩ = some (.int .i64 xs) := by rw [hwX]; unfold World.cell?; rw [blk_new]; rfl
      have x2 : wX.cell? ⟨wr.heap.size, 2, none⟩ = some (.int .i64 xu) := by rw [hwX]; unfold World.cell?; rw [blk_new]; rfl
      have HCX : Hid (∀ W, Below wX.heap.size wX W → W.cell? ⟨wr.heap.size, 0, none⟩ = some (.slice aa xd.length ca) ∧ W.cell? ⟨wr.heap.size, 1, none⟩ = some (.int .i64 xs) ∧ W.cell? ⟨wr.heap.size, 2, none⟩ = some (.int .i64 xu)) := fun W hW => by
        have hlt := World.block_lt_of_cell? _ _ x0
        rw [hW.cell (p := ⟨wr.heap.size, 0, none⟩) hlt, hW.cell (p := ⟨wr.heap.size, 1, none⟩) hlt, hW.cell (p := ⟨wr.heap.size, 2, none⟩) hlt]
        exact ⟨x0, x1, x2⟩
      have HBX : Hid (Below wr.heap.size wr wX) := hbX
      have HB : Hid (Below w.heap.size w wr) := hb
      clear hcel hxe hcx0 hwX x0 x1 x2 hbX hkb hb ha
      go_wp2_with (rw [HWX.out])
      have hbd : Below wX.heap.size wX wX.drew := (Below.refl _ _).drew
      refine wp_region_noPanic ?_
      refine wp_region_held_drew (S := fun W : World => W.cell? ⟨wr.heap.size, 0, none⟩ = some (.slice aa xd.length ca) ∧ W.cell? ⟨wr.heap.size, 1, none⟩ = some (.int .i64 xs) ∧ W.cell? ⟨wr.heap.size, 2, none⟩ = some (.int .i64 xu)) (by kernel_rfl) (HCX.out _ hbd) (fun hHeld => ?_)
      generalize wX.drew = wv at hbd hHeld ⊢
      refine wpAnyH_take (i := 0) (v := .slice (some ⟨g0, 0, none⟩) L.length L.length) rfl (by kernel_rfl) (by kernel_rfl) (by kernel_rfl) (fun _ _ _ h => h) (Or.inl ⟨by rfl, ?_⟩) (by assumption) ?_
      · intro W hSW
        go_simp
        all_goals (try omega)
      simp only [Act.put, List.getElem_toArray, List.getElem_cons_succ, List.getElem_cons_zero, List.setIfInBounds_toArray, List.set_cons_succ, List.set_cons_zero]
      refine wpAnyH_take (i := 1) (v := .int .i64 (k : Int)) rfl (by kernel_rfl) (by kernel_rfl) (by kernel_rfl) (fun _ _ _ h => h) (Or.inl ⟨by rfl, ?_⟩) (by assumption) ?_
      · intro W hSW
        go_simp
        all_goals (try omega)
      simp only [Act.put, List.getElem_toArray, List.getElem_cons_succ, List.getElem_cons_zero, List.setIfInBounds_toArray, List.set_cons_succ, List.set_cons_zero]
      refine wpAnyH_take (i := 2) (v := .pointer (some ⟨wr.heap.size, 0, none⟩)) rfl (by kernel_rfl) (by kernel_rfl) (by kernel_rfl) (fun _ _ _ h => h) (Or.inl ⟨by rfl, ?_⟩) (by assumption) ?_
      · intro W hSW
        go_simp
        all_goals (try omega)
      simp only [Act.put, List.getElem_toArray, List.getElem_cons_succ, List.getElem_cons_zero, List.setIfInBounds_toArray, List.set_cons_succ, List.set_cons_zero]
      refine wpAnyH_take (i := 3) (v := .slice aa xd.length ca) rfl (by kernel_rfl) (by kernel_rfl) (by kernel_rfl) (fun _ _ _ h => h) (Or.inl ⟨by rfl, ?_⟩) (by assumption) ?_
      · intro W hSW
        obtain ⟨z0, z1, z2⟩ := hSW
        go_simp
        all_goals (try omega)
      simp only [Act.put, List.getElem_toArray, List.getElem_cons_succ, List.getElem_cons_zero, List.setIfInBounds_toArray, List.set_cons_succ, List.set_cons_zero]
      refine wpAnyH_take (i := 5) (v := .pointer (some ⟨wr.heap.size, 1, none⟩)) rfl (by kernel_rfl) (by kernel_rfl) (by kernel_rfl) (fun _ _ _ h => h) (Or.inl ⟨by rfl, ?_⟩) (by assumption) ?_
      · intro W hSW
        go_simp
        all_goals (try omega)
      simp only [Act.put, List.getElem_toArray, List.getElem_cons_succ, List.getElem_cons_zero, List.setIfInBounds_toArray, List.set_cons_succ, List.set_cons_zero]
      refine wpAnyH_take (i := 6) (v := .int .i64 xs) rfl (by kernel_rfl) (by kernel_rfl) (by kernel_rfl) (fun _ _ _ h => h) (Or.inl ⟨by rfl, ?_⟩) (by assumption) ?_
      · intro W hSW
        obtain ⟨z0, z1, z2⟩ := hSW
        go_simp
        all_goals (try omega)
      simp only [Act.put, List.getElem_toArray, List.getElem_cons_succ, List.getElem_cons_zero, List.setIfInBounds_toArray, List.set_cons_succ, List.set_cons_zero]
      refine wpAnyH_take (i := 7) (v := .pointer (some ⟨wr.heap.size, 2, none⟩)) rfl (by kernel_rfl) (by kernel_rfl) (by kernel_rfl) (fun _ _ _ h => h) (Or.inl ⟨by rfl, ?_⟩) (by assumption) ?_
      · intro W hSW
        go_simp
        all_goals (try omega)
      simp only [Act.put, List.getElem_toArray, List.getElem_cons_succ, List.getElem_cons_zero, List.setIfInBounds_toArray, List.set_cons_succ, List.set_cons_zero]
      refine wpAnyH_take (i := 8) (v := .int .i64 xu) rfl (by kernel_rfl) (by kernel_rfl) (by kernel_rfl) (fun _ _ _ h => h) (Or.inl ⟨by rfl, ?_⟩) (by assumption) ?_
      · intro W hSW
        obtain ⟨z0, z1, z2⟩ := hSW
        go_simp
        all_goals (try omega)
      simp only [Act.put, List.getElem_toArray, List.getElem_cons_succ, List.getElem_cons_zero, List.setIfInBounds_toArray, List.set_cons_succ, List.set_cons_zero]
      have hrv : Row wv (.slice aa xd.length ca) xd := HRX.out wv (HBX.out.trans (hbd.mono HBX.out.size))
      refine wpAnyH_ready (rs := [4]) (by kernel_rfl) (by simp) ?_
      refine AllReadyH.cons rfl (fun K hK => ?_) AllReadyH.nil
      rw [if_pos (by rfl)]
      go_simp
      refine (HCT.out (xd, xs, xu) _ wv hrv HKB.out).mono ?_
      rintro e w2 ⟨u, rfl, ho, hb2⟩
      go_simp
      have hS2 : Below wX.heap.size wX w2 := hbd.trans (hb2.mono hbd.size)
      refine hK.out _ _ (HCX.out _ hS2) (fun hSS => ?_)
      clear hK
      have ho' : w2.ownsRow wv.heap.size 9 1 u xd.length (xd.map S) := ho
      clear ho
      obtain ⟨au, cu, hu, _, _, _⟩ := own_sliceC ho'
      subst hu
      refine wpAnyH_take (i := 9) (v := .agg #[.slice au xd.length cu, .int .i64 xs, .int .i64 xu]) rfl (by kernel_rfl) (by kernel_rfl) (by kernel_rfl) (fun _ _ _ h => h) (Or.inl ⟨by rfl, ?_⟩) (by assumption) ?_
      · intro W hSW
        go_simp
        all_goals (try omega)
      simp only [Act.put, List.getElem_toArray, List.getElem_cons_succ, List.getElem_cons_zero, List.setIfInBounds_toArray, List.set_cons_succ, List.set_cons_zero]
      refine wpAnyH_take (i := 10) (v := .pointer (some ⟨g0, k * 3, none⟩)) rfl (by kernel_rfl) (by kernel_rfl) (by kernel_rfl) (fun _ _ _ h => h) (Or.inl ⟨by rfl, ?_⟩) (by assumption) ?_
      · intro W hSW
        go_simp
        all_goals (try omega)
      simp only [Act.put, List.getElem_toArray, List.getElem_cons_succ, List.getElem_cons_zero, List.setIfInBounds_toArray, List.set_cons_succ, List.set_cons_zero]
      obtain ⟨m, hm⟩ : ∃ m, L.length - k = m + 1 := ⟨L.length - k - 1, by omega⟩
      have hm1 : L.length - (k + 1) = m := by rw [Nat.sub_add_eq, hm, Nat.add_sub_cancel]
      have hbr2 : Below wr.heap.size wr w2 := HBX.out.trans (hS2.mono HBX.out.size)
      have hT2 := HR.out.kept hbr2
      have hDl := HDK.out
      rw [hm, List.replicate_succ] at hT2
      have hvr : wr.heap.size ≤ wv.heap.size := Nat.le_trans HBX.out.size hbd.size
      have hob : w2.ownsRow w.heap.size 9 1 (.slice au xd.length cu) xd.length (xd.map S) := own_mono ho' (Nat.le_trans HB.out.size hvr)
      have hpt := hT2.store (y := ((xd, xs, xu), .slice au xd.length cu)) hob (fun z hz q hq e2 => by
        have h3 : z.2.ownBlock = some q → q < wr.heap.size := fun h => (HR.out.lt.2 z (by rw [hm, List.replicate_succ]; rcases hz with hz | hz <;> simp [hz]) q h).2
        have h4 := h3 hq
        have h5 := (ho'.lt q e2).1
        omega)
      obtain ⟨⟨m0, m1, m2⟩, hfz⟩ := hT2.at
      have f0 := hfz (k * 3)
      have f1 := hfz (k * 3 + 1)
      have f2 := hfz (k * 3 + 2)
      rw [hDl] at hpt m0 m1 m2
      have hbw2 : Below w.heap.size w w2 := HB.out.trans (hbr2.mono HB.out.size)
      obtain ⟨w6, hw6⟩ : ∃ w6, w6 = ((w2.setCell ⟨g0, k * 3, none⟩ (.slice au xd.length cu)).setCell ⟨g0, k * 3 + 1, none⟩ (.int .i64 xs)).setCell ⟨g0, k * 3 + 2, none⟩ (.int .i64 xu) := ⟨_, rfl⟩
      have HW6 : Hid (((w2.setCell ⟨g0, k * 3, none⟩ (.slice au xd.length cu)).setCell ⟨g0, k * 3 + 1, none⟩ (.int .i64 xs)).setCell ⟨g0, k * 3 + 2, none⟩ (.int .i64 xu) = w6) := hw6.symm
      have HB6 : Hid (Below w.heap.size w w6) := by
        show Below _ _ _
        rw [hw6]; exact ((hbw2.setCell (p := ⟨g0, k * 3, none⟩) HG0.out _).setCell (p := ⟨g0, k * 3 + 1, none⟩) HG0.out _).setCell (p := ⟨g0, k * 3 + 2, none⟩) HG0.out _
      have HQ : Hid (LBld w6 w.heap.size (.slice (some ⟨g0, 0, none⟩) L.length L.length) ((D ++ [((xd, xs, xu), .slice au xd.length cu)]) ++ List.replicate (L.length - (k + 1)) (([], 0, 0), .slice none 0 0))) := by
        show LBld _ _ _ _
        rw [hw6, hm1, List.append_assoc]; exact hpt
      have HMX : Hid (lkf (D ++ [(((xd, xs, xu) : LkT), Value.slice au xd.length cu)]) = L.take (k + 1)) := HMN.out _ rfl
      have hgw : g0 < wr.heap.size := (HR.out.lt.1 g0 (by simp [Value.ownBlock])).2
      have HS6 : Hid (w6.cell? ⟨wr.heap.size, 0, none⟩ = some (.slice aa xd.length ca) ∧ w6.cell? ⟨wr.heap.size, 1, none⟩ = some (.int .i64 xs) ∧ w6.cell? ⟨wr.heap.size, 2, none⟩ = some (.int .i64 xu)) := by
        have hne : ∀ i j : Nat, (⟨g0, i, none⟩ : Addr).block ≠ (⟨wr.heap.size, j, none⟩ : Addr).block := fun i j h => absurd h (Nat.ne_of_lt hgw)
        have h2 := HCX.out _ hS2
        refine ⟨?_, ?_, ?_⟩ <;> rw [hw6, World.cell?_setCell_far _ _ _ _ (hne _ _), World.cell?_setCell_far _ _ _ _ (hne _ _), World.cell?_setCell_far _ _ _ _ (hne _ _)]
        · exact h2.1
        · exact h2.2.1
        · exact h2.2.2
      have HDL : Hid ((D ++ [(((xd, xs, xu) : LkT), Value.slice au xd.length cu)]).length = k + 1) := by show _ = _; rw [List.length_append, hDl]; rfl
      clear hpt hT2 hfz hb2 c0 c1 c2 ho' hob HCT hDl HMN hm hm1 hbw2 hbr2 hvr hrv
      refine wpAnyH_ready (rs := [11]) (by kernel_rfl) (by simp) ?_
      refine AllReadyH.cons rfl (fun K hK => ?_) AllReadyH.nil
      rw [if_pos (by rfl)]
      go_simp
      rw [HW6.out]
      refine hK.out _ _ HS6.out (fun hSS6 => ?_)
      clear hK hSS6 hSS hS2 hw6 HW6 m0 m1 m2 f0 f1 f2 hgw HRX HCX HWX HBX HKB HB HR HM
      refine wpAnyH_done (by kernel_rfl) ?_ _
      refine NoPanic.normal ?_
      clear hHeld
      go_wp2_with fail
      go_roundw
      case rel => exact ⟨k + 1, _, ⟨by omega, HDL.out⟩, by go_num, HMX, HQ, HB6.out⟩
      case measure => simp [intOf]; omega
    · have HF : Hid (LBld wr w.heap.size (.slice (some ⟨g0, 0, none⟩) L.length L.length) D) := by have h := HR.out; rw [show L.length - k = 0 by omega, List.replicate_zero, List.append_nil] at h; exact h
      have HFM : Hid (lkf D = L) := by have h := HM.out; rw [List.take_of_length_le (by omega)] at h; exact h
      clear HR HM
      go_wp2_with fail
      go_ret
      exact ⟨g0, D, HFM.out, rfl, HF.out, hb⟩
end Go.Proofs.Ytacmipcjhbkdcaa
