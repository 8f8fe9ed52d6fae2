import Derived.Test.YtdbbcepjdojdcaaGreatDoorZ33
import Derived.Test.YtdbbcepjdojdcaaGreatDoorZ25
import Derived.Test.YtdbbcepjdojdcaaGreatDoorZ36
import Derived.Test.YtdbbcepjdojdcaaGreatDoorZ24
import Derived.Test.YtdbbcepjdojdcaaGreatDoorZ15
import Derived.Deep.RegionHeld3
namespace Go.Proofs.YtdbbcepjdojdcaaGreatDoor
open Go.RowKit

/-- A row of records does not lie in a box of an empty zone. -/
theorem RRow.apartZ {W W' : World} {g : Nat} {t : TypeId} {v : Value} {L : List (List UInt8 × Int × Int × List UInt8)} (hr : RRow W v L) (hk : W.heap[g]? = some (.cells #[.string ⟨#[]⟩, .int .i64 0, .slice none 0 0] t)) (hkpt : Kpt W W' (fun k => k = g)) : RRow W' v L := by
  refine hr.kpt hkpt (fun b o n c e hne h => ?_)
  subst h
  obtain ⟨a, cap, e2, _, _, hrow⟩ := hr
  rcases hrow with h0 | ⟨b', o', e3, _, hcel⟩
  · exact hne h0
  · rw [e2, e3] at e
    injection e with e4 _ _
    injection e4 with e5
    injection e5 with e6 e7 _
    subst e6
    have hl : 0 < L.length := List.length_pos_iff.2 hne
    have h1 := (hcel 0 hl).1
    have h3 := (hcel 0 hl).2.2.1
    obtain ⟨k, hkk⟩ : ∃ k, k = o' + 0 * 4 := ⟨_, rfl⟩
    rw [← hkk] at h1 h3
    unfold World.cell? at h1 h3
    rw [hk] at h1 h3
    match k, h1, h3 with
    | 0, _, h3 => simp at h3
    | 1, h1, _ => simp at h1
    | 2, h1, _ => simp at h1
    | k + 3, h1, _ => simp at h1
theorem ownq_nil {w : World} {base : Nat} {v : Value} {L : List (List UInt8 × Int × Int × List UInt8)} (h : OwnQ w base v L) : ∀ n c, v = .slice none n c → c = 0 := by
  rcases h with ⟨rfl, _⟩ | ⟨g, cap, rfl, _⟩
  · intro n c e; cases e; rfl
  · intro n c e; cases e
theorem zres_no (w : World) : ZRes w false ⟨#[]⟩ 0 [] (.returned (.tuple #[ZonV ⟨#[]⟩ 0 (.slice none 0 0), .bool false])) := ⟨_, rfl, rrow_nil _⟩
theorem goodq_of {L : List (List UInt8 × Int × Int × List UInt8)} (h : aresB L = true) (hx : ∀ x ∈ L, x.1.length ≤ 1048576 ∧ x.2.2.2.length ≤ 1048576) : ∀ x ∈ L, GoodQ x := fun x hm => by
  unfold aresB at h
  rw [List.all_eq_true] at h
  have h1 := recB_name (h x hm)
  exact ⟨h1.1, h1.2, (hx x hm).1, (hx x hm).2⟩
theorem list_ares {L : List (List UInt8 × Int × Int × List UInt8)} (h : listB L = true) : aresB L = true := by
  unfold listB at h
  simp only [Bool.and_eq_true] at h
  exact h.2.1
theorem zone_list {n : List UInt8} {c : Int} {L : List (List UInt8 × Int × Int × List UInt8)} (h : zoneB n c L = true) : listB L = true := by
  unfold zoneB at h
  simp only [Bool.and_eq_true, decide_eq_true_eq] at h
  obtain ⟨_, h, _⟩ := h
  unfold ruleB at h
  by_cases hc : (apexB n && listB L) = true
  · rw [Bool.and_eq_true] at hc
    exact hc.2
  · rw [if_neg hc] at h
    omega
theorem dif_lists {f t : Int} {A U : List (List UInt8 × Int × Int × List UInt8)} (h : difB f t A U = true) : listB A = true ∧ listB U = true := by
  unfold difB at h
  simp only [Bool.and_eq_true] at h
  exact ⟨h.1.1.2, h.1.2⟩
/-- Whether a diff can be put to a zone. -/
def canB (n : List UInt8) (ct : Int) (L : List (List UInt8 × Int × Int × List UInt8)) (f t : Int) (A U : List (List UInt8 × Int × Int × List UInt8)) : Bool := zoneB n ct L && (difB f t A U && (decide (ct = f) && (A.all (fun x => hasR L x) && U.all (fun x => !hasR L x))))
theorem list_rises {L : List (List UInt8 × Int × Int × List UInt8)} (h : listB L = true) : risesB L = true := by
  unfold listB at h
  simp only [Bool.and_eq_true] at h
  exact h.2.2
/-- Records that rise one by one rise. -/
theorem list_ris {L : List (List UInt8 × Int × Int × List UInt8)} (h : listB L = true) (hG : ∀ x ∈ L, GoodQ x) : risQ L := by
  have ha := list_rises h
  unfold risesB at ha
  rw [adj_iff] at ha
  unfold risQ
  rw [List.pairwise_iff_getElem]
  intro i j hi hj hij
  have g : ∀ j, (hj : j < L.length) → GoodQ L[j] := fun j hj => hG _ (List.getElem_mem hj)
  induction j with
  | zero => omega
  | succ j ih =>
    have h1 : cmp4 (L[j]'(by omega)) L[j + 1] < 0 := by simpa using ha j hj
    by_cases e : i = j
    · subst e; exact h1
    · exact c4_ltr (g i hi) (g j (by omega)) (g (j + 1) hj) (ih (by omega) (by omega)) (by omega)
theorem wth_ris {L : List (List UInt8 × Int × Int × List UInt8)} (h : risQ L) (G : List (List UInt8 × Int × Int × List UInt8)) : risQ (wthR L G) := List.Pairwise.sublist List.filter_sublist h
theorem none_swap (L U : List (List UInt8 × Int × Int × List UInt8)) : L.all (fun r => !hasR U r) = U.all (fun r => !hasR L r) := by
  rw [Bool.eq_iff_iff, List.all_eq_true, List.all_eq_true]
  constructor
  · intro h x hx
    cases k : hasR L x with
    | false => rfl
    | true => exact absurd (h x (hasR_iff.1 k)) (by simp [hasR_iff.2 hx])
  · intro h x hx
    cases k : hasR U x with
    | false => rfl
    | true => exact absurd (h x (hasR_iff.1 k)) (by simp [hasR_iff.2 hx])
end Go.Proofs.YtdbbcepjdojdcaaGreatDoor

namespace Go.Proofs.YtdbbcepjdojdcaaGreatDoor.joinDiffs
open Go.RowKit

theorem own_of {w : World} {base g : Nat} {L : List (List UInt8 × Int × Int × List UInt8)} (h : QRow w g L) (hb : base ≤ g) (hl : L.length ≤ 1048576) : OwnQ w base (.slice (some ⟨g, 0, none⟩) L.length L.length) L :=
  .inr ⟨g, L.length, rfl, Nat.le_refl _, by unfold maxLen; omega, hb, h⟩

set_option maxRecDepth 20000 in
set_option maxHeartbeats 64000000 in
theorem core (f1 t1 : Int) (v10 : Value) (v11 : Value) (A1 : List (List UInt8 × Int × Int × List UInt8)) (U1 : List (List UInt8 × Int × Int × List UInt8)) (f2 t2 : Int) (v20 : Value) (v21 : Value) (A2 : List (List UInt8 × Int × Int × List UInt8)) (U2 : List (List UInt8 × Int × Int × List UInt8)) (ok : Bool) (fR tR : Int) (AR : List (List UInt8 × Int × Int × List UInt8)) (UR : List (List UInt8 × Int × Int × List UInt8)) (w : World)
    (hr10 : RRow w v10 A1) (hx10 : Hid (∀ x ∈ A1, x.1.length ≤ maxLen ∧ x.2.2.2.length ≤ maxLen)) (hr11 : RRow w v11 U1) (hx11 : Hid (∀ x ∈ U1, x.1.length ≤ maxLen ∧ x.2.2.2.length ≤ maxLen)) (hr20 : RRow w v20 A2) (hx20 : Hid (∀ x ∈ A2, x.1.length ≤ maxLen ∧ x.2.2.2.length ≤ maxLen)) (hr21 : RRow w v21 U2) (hx21 : Hid (∀ x ∈ U2, x.1.length ≤ maxLen ∧ x.2.2.2.length ≤ maxLen)) (hE : EnvR w)
    (hLR : A1.length ≤ 1048576 → U1.length ≤ 1048576 → A2.length ≤ 1048576 → U2.length ≤ 1048576 → AR.length ≤ 1048576 ∧ UR.length ≤ 1048576)
    (HS0 : Hid (A1.length ≤ 1048576 → U1.length ≤ 1048576 → Hid (∀ x ∈ A1, x.1.length ≤ 1048576 ∧ x.2.2.2.length ≤ 1048576) → Hid (∀ x ∈ U1, x.1.length ≤ 1048576 ∧ x.2.2.2.length ≤ 1048576) → A2.length ≤ 1048576 → U2.length ≤ 1048576 → Hid (∀ x ∈ A2, x.1.length ≤ 1048576 ∧ x.2.2.2.length ≤ 1048576) → Hid (∀ x ∈ U2, x.1.length ≤ 1048576 ∧ x.2.2.2.length ≤ 1048576) → ∀ g1a g1b g2a g2b W, QRow W g1a A1 → QRow W g1b U1 → QRow W g2a A2 → QRow W g2b U2 → Calls Tryz.prog 17 #[DifV f1 t1 (.slice (some ⟨g1a, 0, none⟩) A1.length A1.length) (.slice (some ⟨g1b, 0, none⟩) U1.length U1.length), DifV f2 t2 (.slice (some ⟨g2a, 0, none⟩) A2.length A2.length) (.slice (some ⟨g2b, 0, none⟩) U2.length U2.length)] W fun e w' => (∃ vr0 vr1, e = .returned (.tuple #[DifV fR tR (vr0) (vr1), .bool ok]) ∧ RRow w' vr0 AR ∧ RRow w' vr1 UR) ∧ Below W.heap.size W w'))
    (HI0 : Hid (A1.length ≤ 1048576 → U1.length ≤ 1048576 → Hid (∀ x ∈ A1, x.1.length ≤ 1048576 ∧ x.2.2.2.length ≤ 1048576) → Hid (∀ x ∈ U1, x.1.length ≤ 1048576 ∧ x.2.2.2.length ≤ 1048576) → A2.length ≤ 1048576 → U2.length ≤ 1048576 → Hid (∀ x ∈ A2, x.1.length ≤ 1048576 ∧ x.2.2.2.length ≤ 1048576) → Hid (∀ x ∈ U2, x.1.length ≤ 1048576 ∧ x.2.2.2.length ≤ 1048576) → ∀ g1a g1b g2a g2b W, EnvR W → QRow W g1a A1 → QRow W g1b U1 → QRow W g2a A2 → QRow W g2b U2 → Calls Tryz.prog 18 #[DifV f1 t1 (.slice (some ⟨g1a, 0, none⟩) A1.length A1.length) (.slice (some ⟨g1b, 0, none⟩) U1.length U1.length), DifV f2 t2 (.slice (some ⟨g2a, 0, none⟩) A2.length A2.length) (.slice (some ⟨g2b, 0, none⟩) U2.length U2.length)] W fun e w' => (∃ vr0 vr1, e = .returned (.tuple #[DifV fR tR (vr0) (vr1), .bool ok]) ∧ OwnQ w' W.heap.size vr0 AR ∧ OwnQ w' W.heap.size vr1 UR ∧ ∀ g, vr0.ownBlock = some g → vr1.ownBlock ≠ some g) ∧ Below W.heap.size W w')) :
    Calls Tryz.prog 4 #[DifV f1 t1 (v10) (v11), DifV f2 t2 (v20) (v21)] w fun e w' => e = .returned (.bool true) ∧ Below w.heap.size w w' := by
  obtain ⟨a10, k10, hv10, _, hk10, _⟩ := id hr10
  obtain ⟨a11, k11, hv11, _, hk11, _⟩ := id hr11
  obtain ⟨a20, k20, hv20, _, hk20, _⟩ := id hr20
  obtain ⟨a21, k21, hv21, _, hk21, _⟩ := id hr21
  have HZ1 : Hid (∀ W, Below w.heap.size w W → Calls Tryz.prog 7 #[DifV f1 t1 (v10) (v11), .int .i64 1048576] W fun e w' => (∃ q : Int, e = .returned (.int .i64 q) ∧ (q = -1 ∨ (0 ≤ q ∧ q = 1048576 - (A1.length : Int) - (wtR A1 : Int) - (U1.length : Int) - (wtR U1 : Int)))) ∧ Below W.heap.size W w') := fun W hW => szDiff_any f1 t1 v10 v11 A1 U1 1048576 W (hr10.kept hW) (hr11.kept hW) hx10 hx11 (by omega) (by omega)
  have HZ2 : Hid (∀ (q : Int) W, 0 ≤ q → q ≤ 1048576 → Below w.heap.size w W → Calls Tryz.prog 7 #[DifV f2 t2 (v20) (v21), .int .i64 q] W fun e w' => (∃ r : Int, e = .returned (.int .i64 r) ∧ (r = -1 ∨ (0 ≤ r ∧ r = q - (A2.length : Int) - (wtR A2 : Int) - (U2.length : Int) - (wtR U2 : Int)))) ∧ Below W.heap.size W w') := fun q W h0 h1 hW => szDiff_any f2 t2 v20 v21 A2 U2 q W (hr20.kept hW) (hr21.kept hW) hx20 hx21 h0 h1
  have HT1' : Hid (A1.length ≤ 1048576 → U1.length ≤ 1048576 → ∀ W, Below w.heap.size w W → Calls Tryz.prog 10 #[DifV f1 t1 (v10) (v11)] W fun e w' => (∃ g g', e = .returned (DifV f1 t1 (.slice (some ⟨g, 0, none⟩) A1.length A1.length) (.slice (some ⟨g', 0, none⟩) U1.length U1.length)) ∧ W.heap.size ≤ g ∧ g < g' ∧ QRow w' g A1 ∧ QRow w' g' U1) ∧ Below W.heap.size W w') := fun h1 h2 W hW => toDiff_any f1 t1 v10 v11 A1 U1 W (hr10.kept hW) (hr11.kept hW) h1 h2
  have HT2' : Hid (A2.length ≤ 1048576 → U2.length ≤ 1048576 → ∀ W, Below w.heap.size w W → Calls Tryz.prog 10 #[DifV f2 t2 (v20) (v21)] W fun e w' => (∃ g g', e = .returned (DifV f2 t2 (.slice (some ⟨g, 0, none⟩) A2.length A2.length) (.slice (some ⟨g', 0, none⟩) U2.length U2.length)) ∧ W.heap.size ≤ g ∧ g < g' ∧ QRow w' g A2 ∧ QRow w' g' U2) ∧ Below W.heap.size W w') := fun h1 h2 W hW => toDiff_any f2 t2 v20 v21 A2 U2 W (hr20.kept hW) (hr21.kept hW) h1 h2
  have e2 : (ok != ok) = false := by simp
  subst hv10
  subst hv11
  subst hv20
  subst hv21
  clear hr10 hr11 hr20 hr21
  obtain ⟨W0, hW0⟩ : ∃ W0, W0 = (w.alloc (.cells #[.int .i64 f1, .int .i64 t1, .slice a10 A1.length k10, .slice a11 U1.length k11] 26)).alloc (.cells #[.int .i64 f2, .int .i64 t2, .slice a20 A2.length k20, .slice a21 U2.length k21] 26) := ⟨_, rfl⟩
  have HW0 : Hid ((w.alloc (.cells #[.int .i64 f1, .int .i64 t1, .slice a10 A1.length k10, .slice a11 U1.length k11] 26)).alloc (.cells #[.int .i64 f2, .int .i64 t2, .slice a20 A2.length k20, .slice a21 U2.length k21] 26) = W0) := hW0.symm
  have HX : Hid (∀ W, Below W0.heap.size W0 W → ((W.cell? ⟨w.heap.size, 0, none⟩ = some (.int .i64 f1) ∧ W.cell? ⟨w.heap.size, 1, none⟩ = some (.int .i64 t1) ∧ W.cell? ⟨w.heap.size, 2, none⟩ = some (.slice a10 A1.length k10) ∧ W.cell? ⟨w.heap.size, 3, none⟩ = some (.slice a11 U1.length k11)) ∧ (W.cell? ⟨w.heap.size + 1, 0, none⟩ = some (.int .i64 f2) ∧ W.cell? ⟨w.heap.size + 1, 1, none⟩ = some (.int .i64 t2) ∧ W.cell? ⟨w.heap.size + 1, 2, none⟩ = some (.slice a20 A2.length k20) ∧ W.cell? ⟨w.heap.size + 1, 3, none⟩ = some (.slice a21 U2.length k21))) ∧ Below w.heap.size w W ∧ w.heap.size + 1 < W.heap.size) := fun W hW => by
    have hs := hW.size
    rw [hW0] at hW hs
    obtain ⟨q1, q2, q4⟩ := heaps2 hW
    exact ⟨⟨(dif_cells q1).1, (dif_cells q2).1⟩, q4, by simp at hs; omega⟩
  have HTR : Hid (∀ W W', Below W0.heap.size W0 W → Below W.heap.size W W' → Below W0.heap.size W0 W') := fun W W' h1 h2 => h1.trans (h2.mono h1.size)
  have hb0 : Below W0.heap.size W0 W0 := Below.refl _ _
  clear hW0
  unfold DifV at HZ1 HT1' ⊢
  unfold DifV at HZ2 HT2'
  go_enter Tryz.func4, Tryz.ntmps4
  go_wp2_with fail
  rw [HW0.out]
  refine (HZ1.out _ (HX.out _ hb0).2.1).mono ?_
  rintro e w1 ⟨⟨q, rfl, hq⟩, hb1⟩
  have hb01 := HTR.out _ _ hb0 hb1
  obtain ⟨⟨⟨c0, c1, c2, c3⟩, ⟨d0, d1, d2, d3⟩⟩, hbw1, _⟩ := HX.out _ hb01
  rcases hq with rfl | ⟨hq0, hqe⟩
  · go_wp2_with fail
    go_ret
    exact ⟨rfl, hbw1⟩
  have hq1 : q ≤ 1048576 := by omega
  have HQE : Hid (q = 1048576 - (A1.length : Int) - (wtR A1 : Int) - (U1.length : Int) - (wtR U1 : Int)) := hqe
  clear hqe
  go_wp2_with fail
  refine (HZ2.out q _ hq0 hq1 hbw1).mono ?_
  rintro e w2 ⟨⟨r, rfl, hr⟩, hb2⟩
  have hb02 := HTR.out _ _ hb01 hb2
  clear c0 c1 c2 c3 d0 d1 d2 d3
  obtain ⟨⟨⟨c0, c1, c2, c3⟩, ⟨d0, d1, d2, d3⟩⟩, hbw2, hz2⟩ := HX.out _ hb02
  rcases hr with rfl | ⟨hr0, hre⟩
  · go_wp2_with fail
    go_ret
    exact ⟨rfl, hbw2⟩
  have hqe := HQE.out
  have hL10 : A1.length ≤ 1048576 := by omega
  have hX10 : ∀ x ∈ A1, x.1.length ≤ 1048576 ∧ x.2.2.2.length ≤ 1048576 := fun x hx => by have := wtR_mem hx; omega
  have hL11 : U1.length ≤ 1048576 := by omega
  have hX11 : ∀ x ∈ U1, x.1.length ≤ 1048576 ∧ x.2.2.2.length ≤ 1048576 := fun x hx => by have := wtR_mem hx; omega
  have hL20 : A2.length ≤ 1048576 := by omega
  have hX20 : ∀ x ∈ A2, x.1.length ≤ 1048576 ∧ x.2.2.2.length ≤ 1048576 := fun x hx => by have := wtR_mem hx; omega
  have hL21 : U2.length ≤ 1048576 := by omega
  have hX21 : ∀ x ∈ U2, x.1.length ≤ 1048576 ∧ x.2.2.2.length ≤ 1048576 := fun x hx => by have := wtR_mem hx; omega
  have HLR : Hid (AR.length ≤ 1048576 ∧ UR.length ≤ 1048576) := hLR hL10 hL11 hL20 hL21
  have HT1 : Hid (∀ W, Below w.heap.size w W → Calls Tryz.prog 10 #[.agg #[.int .i64 f1, .int .i64 t1, .slice a10 A1.length k10, .slice a11 U1.length k11]] W fun e w' => (∃ g g', e = .returned (.agg #[.int .i64 f1, .int .i64 t1, .slice (some ⟨g, 0, none⟩) A1.length A1.length, .slice (some ⟨g', 0, none⟩) U1.length U1.length]) ∧ W.heap.size ≤ g ∧ g < g' ∧ QRow w' g A1 ∧ QRow w' g' U1) ∧ Below W.heap.size W w') := HT1'.out hL10 hL11
  have HT2 : Hid (∀ W, Below w.heap.size w W → Calls Tryz.prog 10 #[.agg #[.int .i64 f2, .int .i64 t2, .slice a20 A2.length k20, .slice a21 U2.length k21]] W fun e w' => (∃ g g', e = .returned (.agg #[.int .i64 f2, .int .i64 t2, .slice (some ⟨g, 0, none⟩) A2.length A2.length, .slice (some ⟨g', 0, none⟩) U2.length U2.length]) ∧ W.heap.size ≤ g ∧ g < g' ∧ QRow w' g A2 ∧ QRow w' g' U2) ∧ Below W.heap.size W w') := HT2'.out hL20 hL21
  have HS : Hid (∀ g1a g1b g2a g2b W, QRow W g1a A1 → QRow W g1b U1 → QRow W g2a A2 → QRow W g2b U2 → Calls Tryz.prog 17 #[DifV f1 t1 (.slice (some ⟨g1a, 0, none⟩) A1.length A1.length) (.slice (some ⟨g1b, 0, none⟩) U1.length U1.length), DifV f2 t2 (.slice (some ⟨g2a, 0, none⟩) A2.length A2.length) (.slice (some ⟨g2b, 0, none⟩) U2.length U2.length)] W fun e w' => (∃ vr0 vr1, e = .returned (.tuple #[DifV fR tR (vr0) (vr1), .bool ok]) ∧ RRow w' vr0 AR ∧ RRow w' vr1 UR) ∧ Below W.heap.size W w') := HS0.out hL10 hL11 hX10 hX11 hL20 hL21 hX20 hX21
  have HI : Hid (∀ g1a g1b g2a g2b W, EnvR W → QRow W g1a A1 → QRow W g1b U1 → QRow W g2a A2 → QRow W g2b U2 → Calls Tryz.prog 18 #[DifV f1 t1 (.slice (some ⟨g1a, 0, none⟩) A1.length A1.length) (.slice (some ⟨g1b, 0, none⟩) U1.length U1.length), DifV f2 t2 (.slice (some ⟨g2a, 0, none⟩) A2.length A2.length) (.slice (some ⟨g2b, 0, none⟩) U2.length U2.length)] W fun e w' => (∃ vr0 vr1, e = .returned (.tuple #[DifV fR tR (vr0) (vr1), .bool ok]) ∧ OwnQ w' W.heap.size vr0 AR ∧ OwnQ w' W.heap.size vr1 UR ∧ ∀ g, vr0.ownBlock = some g → vr1.ownBlock ≠ some g) ∧ Below W.heap.size W w') := HI0.out hL10 hL11 hX10 hX11 hL20 hL21 hX20 hX21
  have HE1 : Hid (∀ p p' g g' W, QRow W p A1 → QRow W p' U1 → QRow W g A1 → QRow W g' U1 → Calls Tryz.prog 13 #[.agg #[.int .i64 f1, .int .i64 t1, .slice (some ⟨p, 0, none⟩) A1.length A1.length, .slice (some ⟨p', 0, none⟩) U1.length U1.length], .agg #[.int .i64 f1, .int .i64 t1, .slice (some ⟨g, 0, none⟩) A1.length A1.length, .slice (some ⟨g', 0, none⟩) U1.length U1.length]] W fun e w' => e = .returned (.bool true) ∧ Below W.heap.size W w') := fun p p' g g' W h1 h2 h3 h4 => eqDiff_same f1 t1 _ _ _ _ A1 U1 W (h1.row (Nat.le_refl _) (by unfold maxLen; omega)) (h2.row (Nat.le_refl _) (by unfold maxLen; omega)) (h3.row (Nat.le_refl _) (by unfold maxLen; omega)) (h4.row (Nat.le_refl _) (by unfold maxLen; omega))
  have HE2 : Hid (∀ p p' g g' W, QRow W p A2 → QRow W p' U2 → QRow W g A2 → QRow W g' U2 → Calls Tryz.prog 13 #[.agg #[.int .i64 f2, .int .i64 t2, .slice (some ⟨p, 0, none⟩) A2.length A2.length, .slice (some ⟨p', 0, none⟩) U2.length U2.length], .agg #[.int .i64 f2, .int .i64 t2, .slice (some ⟨g, 0, none⟩) A2.length A2.length, .slice (some ⟨g', 0, none⟩) U2.length U2.length]] W fun e w' => e = .returned (.bool true) ∧ Below W.heap.size W w') := fun p p' g g' W h1 h2 h3 h4 => eqDiff_same f2 t2 _ _ _ _ A2 U2 W (h1.row (Nat.le_refl _) (by unfold maxLen; omega)) (h2.row (Nat.le_refl _) (by unfold maxLen; omega)) (h3.row (Nat.le_refl _) (by unfold maxLen; omega)) (h4.row (Nat.le_refl _) (by unfold maxLen; omega))
  have HEG : Hid (∀ x0 x1 y0 y1 W, RRow W x0 AR → RRow W x1 UR → RRow W y0 AR → RRow W y1 UR → Calls Tryz.prog 13 #[DifV fR tR (x0) (x1), DifV fR tR (y0) (y1)] W fun e w' => e = .returned (.bool true) ∧ Below W.heap.size W w') := fun x0 x1 y0 y1 W h0 h1 h2 h3 => eqDiff_same fR tR x0 x1 y0 y1 AR UR W h0 h1 h2 h3
  have HM1 : Hid (∀ x0 x1 base W, OwnQ W base x0 A1 → OwnQ W base x1 U1 → (∀ g, x0.ownBlock = some g → x1.ownBlock ≠ some g) → Calls Tryz.prog 15 #[DifV f1 t1 (x0) (x1), .int .i64 1] W fun e w' => e = .returned (.int .i64 (1 + 4 * (A1.length : Int) + 4 * (U1.length : Int))) ∧ Kpt W w' (fun k => x0.ownBlock = some k ∨ x1.ownBlock = some k)) := fun x0 x1 base W h1 h2 h3 => by
      have h := markDiff_any f1 t1 x0 x1 A1 U1 base (1) W h1 h2 h3 hL10 hL11 (by omega) (by omega)
      have e : (((1 : Nat) : Int)) = 1 := by omega
      rw [e] at h
      exact h.mono fun e w' h' => ⟨h'.1, h'.2.2.2⟩
  have HM2 : Hid (∀ x0 x1 base W, OwnQ W base x0 A2 → OwnQ W base x1 U2 → (∀ g, x0.ownBlock = some g → x1.ownBlock ≠ some g) → Calls Tryz.prog 15 #[DifV f2 t2 (x0) (x1), .int .i64 (1 + 4 * (A1.length : Int) + 4 * (U1.length : Int))] W fun e w' => e = .returned (.int .i64 (1 + 4 * (A1.length : Int) + 4 * (U1.length : Int) + 4 * (A2.length : Int) + 4 * (U2.length : Int))) ∧ Kpt W w' (fun k => x0.ownBlock = some k ∨ x1.ownBlock = some k)) := fun x0 x1 base W h1 h2 h3 => by
      have h := markDiff_any f2 t2 x0 x1 A2 U2 base (1 + 4 * A1.length + 4 * U1.length) W h1 h2 h3 hL20 hL21 (by omega) (by omega)
      have e : (((1 + 4 * A1.length + 4 * U1.length : Nat) : Int)) = 1 + 4 * (A1.length : Int) + 4 * (U1.length : Int) := by omega
      rw [e] at h
      exact h.mono fun e w' h' => ⟨h'.1, h'.2.2.2⟩
  have HMG : Hid (∀ x0 x1 base W, OwnQ W base x0 AR → OwnQ W base x1 UR → (∀ g, x0.ownBlock = some g → x1.ownBlock ≠ some g) → Calls Tryz.prog 15 #[DifV fR tR (x0) (x1), .int .i64 1] W fun e w' => e = .returned (.int .i64 (1 + 4 * (AR.length : Int) + 4 * (UR.length : Int))) ∧ OwnQ w' base x0 (mrks 1 AR.length) ∧ OwnQ w' base x1 (mrks (1 + 4 * AR.length) UR.length) ∧ Kpt W w' (fun k => x0.ownBlock = some k ∨ x1.ownBlock = some k)) := fun x0 x1 base W h1 h2 h3 => by
      have h := markDiff_any fR tR x0 x1 AR UR base 1 W h1 h2 h3 HLR.out.1 HLR.out.2 (by omega) (by omega)
      exact h
  have HHG : Hid (∀ x0 x1 base W, OwnQ W base x0 (mrks 1 AR.length) → OwnQ W base x1 (mrks (1 + 4 * AR.length) UR.length) → Calls Tryz.prog 19 #[DifV fR tR (x0) (x1), .int .i64 1] W fun e w' => e = .returned (.int .i64 (1 + 4 * (AR.length : Int) + 4 * (UR.length : Int))) ∧ Below W.heap.size W w') := fun x0 x1 base W h1 h2 => by
      have h := heldDiff_any fR tR x0 x1 AR.length UR.length 1 W h1.row h2.row HLR.out.1 HLR.out.2 (by omega) (by omega)
      exact h
  obtain ⟨qx, hqx⟩ : ∃ q : Int, q = 1 + 4 * (A1.length : Int) + 4 * (U1.length : Int) := ⟨_, rfl⟩
  obtain ⟨qy, hqy⟩ : ∃ q : Int, q = 1 + 4 * (A1.length : Int) + 4 * (U1.length : Int) + 4 * (A2.length : Int) + 4 * (U2.length : Int) := ⟨_, rfl⟩
  obtain ⟨qg, hqg⟩ : ∃ q : Int, q = 1 + 4 * (AR.length : Int) + 4 * (UR.length : Int) := ⟨_, rfl⟩
  rw [← hqy, ← hqx] at HM2
  rw [← hqx] at HM1
  rw [← hqg] at HMG HHG
  have hqy0 : decide (qy < 0) = false := by simp; omega
  have hqy1 : ¬ qy < 0 := by omega
  have hqg0 : decide (qg < 0) = false := by simp; omega
  have hqg1 : ¬ qg < 0 := by omega
  have hqq : (qg != qg) = false := by simp
  unfold DifV at HS HI
  unfold DifV at HEG HMG HHG
  unfold DifV at HM1
  unfold DifV at HM2
  clear hqx hqy hqg hre hqe HQE hX10 hX11 hX20 hX21 HS0 HI0 HT1' HT2' HZ1 HZ2 hLR
  have HC2 : Hid (∀ W, Below w2.heap.size w2 W → ((W.cell? ⟨w.heap.size, 0, none⟩ = some (.int .i64 f1) ∧ W.cell? ⟨w.heap.size, 1, none⟩ = some (.int .i64 t1) ∧ W.cell? ⟨w.heap.size, 2, none⟩ = some (.slice a10 A1.length k10) ∧ W.cell? ⟨w.heap.size, 3, none⟩ = some (.slice a11 U1.length k11)) ∧ (W.cell? ⟨w.heap.size + 1, 0, none⟩ = some (.int .i64 f2) ∧ W.cell? ⟨w.heap.size + 1, 1, none⟩ = some (.int .i64 t2) ∧ W.cell? ⟨w.heap.size + 1, 2, none⟩ = some (.slice a20 A2.length k20) ∧ W.cell? ⟨w.heap.size + 1, 3, none⟩ = some (.slice a21 U2.length k21))) ∧ Below w2.heap.size w2 W) := fun W hW => ⟨(HX.out _ (HTR.out _ _ hb02 hW)).1, hW⟩
  have HBW : Hid (∀ W, Below w2.heap.size w2 W → Below w.heap.size w W) := fun W hW => (HX.out _ (HTR.out _ _ hb02 hW)).2.1
  have HT22 : Hid (∀ W W', Below w2.heap.size w2 W → Below W.heap.size W W' → Below w2.heap.size w2 W') := fun W W' h1 h2 => h1.trans (h2.mono h1.size)
  have hbz : Below w2.heap.size w2 w2 := Below.refl _ _
  have hbd : Below w2.heap.size w2 w2.drew := (Below.refl _ _).drew
  clear c0 c1 c2 c3 d0 d1 d2 d3
  go_wp2_with fail
  have hS2 : Below w2.heap.size w2 w2.drew := (Below.refl _ _).drew
  have HTS2 := HT22
  have HBW2 := HBW
  refine Code.wp_mono (Q := fun e a W => e = Exit.normal ∧ ∃ (g3a g3b g4a g4b gX : Nat) (aw0 : Option Addr) (cw0 : Nat) (aw1 : Option Addr) (cw1 : Nat), a = { tmps := #[.agg #[.int .i64 f1, .int .i64 t1, .slice a10 A1.length k10, .slice a11 U1.length k11], .agg #[.int .i64 f2, .int .i64 t2, .slice a20 A2.length k20, .slice a21 U2.length k21], .pointer (some ⟨w.heap.size, 0, none⟩), .pointer (some ⟨w.heap.size + 1, 0, none⟩), .bool false, .int .i64 r, .pointer (some ⟨gX, 0, none⟩), .bool ok, undef, undef, undef, undef, undef, undef, undef, undef, undef, .agg #[.int .i64 f1, .int .i64 t1, .slice a10 A1.length k10, .slice a11 U1.length k11], .int .i64 1048576, .int .i64 q, .int .i64 q, .bool (decide (q < 0)), .agg #[.int .i64 f2, .int .i64 t2, .slice a20 A2.length k20, .slice a21 U2.length k21], .int .i64 q, .int .i64 r, .int .i64 r, .bool (decide (r < 0)), .tuple #[.agg #[.int .i64 fR, .int .i64 tR, .slice aw0 AR.length cw0, .slice aw1 UR.length cw1], .bool ok], .agg #[.int .i64 f1, .int .i64 t1, .slice a10 A1.length k10, .slice a11 U1.length k11], .agg #[.int .i64 f1, .int .i64 t1, .slice (some ⟨g3a, 0, none⟩) A1.length A1.length, .slice (some ⟨g3b, 0, none⟩) U1.length U1.length], .agg #[.int .i64 f2, .int .i64 t2, .slice a20 A2.length k20, .slice a21 U2.length k21], .agg #[.int .i64 f2, .int .i64 t2, .slice (some ⟨g4a, 0, none⟩) A2.length A2.length, .slice (some ⟨g4b, 0, none⟩) U2.length U2.length], .tuple #[.agg #[.int .i64 fR, .int .i64 tR, .slice aw0 AR.length cw0, .slice aw1 UR.length cw1], .bool ok], .agg #[.int .i64 fR, .int .i64 tR, .slice aw0 AR.length cw0, .slice aw1 UR.length cw1], .bool ok, undef, undef, undef, undef, undef, undef, undef, undef, undef, undef, undef, undef, undef, undef, undef, undef, undef, undef, undef, undef, undef, undef, undef, undef, undef, undef, undef, undef, undef, undef, undef, undef, undef, undef, undef, undef, undef, undef, undef, undef, undef, undef, undef, undef, undef, undef, undef, undef, undef, undef, undef, undef, undef, undef, undef, undef, undef, undef, undef, undef, undef, undef, undef, undef, undef, undef, undef, undef, undef, undef, undef, undef, undef, undef, undef, undef, undef, undef, undef, undef, undef, undef, undef, undef], defers := [] } ∧ cw0 ≤ maxLen ∧ cw1 ≤ maxLen ∧ W.heap[gX]? = some (.cells #[.int .i64 fR, .int .i64 tR, .slice aw0 AR.length cw0, .slice aw1 UR.length cw1] 36) ∧ RRow W (.slice aw0 AR.length cw0) AR ∧ RRow W (.slice aw1 UR.length cw1) UR ∧ Below w2.heap.size w2 W ∧ w2.heap.size ≤ gX) ?_ ?_
  rotate_left
  · refine wp_region_held_drew (S := fun W : World => Below w2.heap.size w2 W) (by kernel_rfl) hS2 (fun hHeld => ?_)
    refine wpAnyH_take (i := 0) (v := .agg #[.int .i64 f1, .int .i64 t1, .slice a10 A1.length k10, .slice a11 U1.length k11]) rfl (by kernel_rfl) (by kernel_rfl) (by kernel_rfl) (fun _ _ _ h => (by cases h.1)) (Or.inl ⟨by rfl, ?_⟩) (by assumption) ?_
    · intro W hSW
      obtain ⟨⟨⟨q0, q1, q2, q3⟩, ⟨y0, y1, y2, y3⟩⟩, _⟩ := HC2.out _ hSW
      go_simp
    simp only [Act.put, List.setIfInBounds_toArray]
    refine wpAnyH_take (i := 2) (v := .agg #[.int .i64 f2, .int .i64 t2, .slice a20 A2.length k20, .slice a21 U2.length k21]) rfl (by kernel_rfl) (by kernel_rfl) (by kernel_rfl) (fun _ _ _ h => (by cases h.1)) (Or.inl ⟨by rfl, ?_⟩) (by assumption) ?_
    · intro W hSW
      obtain ⟨⟨⟨q0, q1, q2, q3⟩, ⟨y0, y1, y2, y3⟩⟩, _⟩ := HC2.out _ hSW
      go_simp
    simp only [Act.put]
    refine wpAnyH_ready (rs := [1, 8]) (by kernel_rfl) (by simp) ?_
    refine AllReadyH.cons rfl (fun K hK => ?_) (AllReadyH.cons rfl (fun K hK => ?_) AllReadyH.nil)
    · rw [if_pos (by rfl)]
      go_simp
      refine (HT1.out _ (HBW2.out _ hS2)).mono ?_
      rintro e w3 ⟨⟨g3a, g3b, rfl, hgz3, hgz3l, hq3a, hq3b⟩, hb3⟩
      go_simp
      have hS3 := HTS2.out _ _ hS2 hb3
      refine hK.out _ _ hS3 (fun hSS => ?_)
      clear hK
      refine wpAnyH_ready (rs := [3, 8]) (by kernel_rfl) (by simp) ?_
      refine AllReadyH.cons rfl (fun K hK => ?_) (AllReadyH.cons rfl (fun K hK => ?_) AllReadyH.nil)
      · rw [if_pos (by rfl)]
        go_simp
        refine (HT2.out _ (HBW2.out _ hS3)).mono ?_
        rintro e w4 ⟨⟨g4a, g4b, rfl, hgz4, hgz4l, hq4a, hq4b⟩, hb4⟩
        go_simp
        have hS4 := HTS2.out _ _ hS3 hb4
        have hq3ax := hq3a.kept hb4
        have hq3bx := hq3b.kept hb4
        refine hK.out _ _ hS4 (fun hSS => ?_)
        clear hK
        refine wpAnyH_ready (rs := [4, 8]) (by kernel_rfl) (by simp) ?_
        refine AllReadyH.cons rfl (fun K hK => ?_) (AllReadyH.cons rfl (fun K hK => ?_) AllReadyH.nil)
        · rw [if_pos (by rfl)]
          go_simp
          refine (HS.out g3a g3b g4a g4b _ (hq3ax) (hq3bx) (hq4a) (hq4b)).mono ?_
          rintro e w5 ⟨⟨vw0, vw1, rfl, hrr0, hrr1⟩, hb5⟩
          obtain ⟨aw0, cw0, hvw0, _, hcw0, _⟩ := id hrr0
          subst hvw0
          obtain ⟨aw1, cw1, hvw1, _, hcw1, _⟩ := id hrr1
          subst hvw1
          go_simp
          have hS5 := HTS2.out _ _ hS4 hb5
          refine hK.out _ _ hS5 (fun hSS => ?_)
          clear hK
          refine wpAnyH_take (i := 5) (v := .tuple #[.agg #[.int .i64 fR, .int .i64 tR, .slice aw0 AR.length cw0, .slice aw1 UR.length cw1], .bool ok]) rfl (by kernel_rfl) (by kernel_rfl) (by kernel_rfl) (fun _ _ _ h => (by cases h.1)) (Or.inl ⟨by rfl, ?_⟩) (by assumption) ?_
          · intro W hSW
            go_simp
          simp only [Act.put]
          refine wpAnyH_take (i := 6) (v := .agg #[.int .i64 fR, .int .i64 tR, .slice aw0 AR.length cw0, .slice aw1 UR.length cw1]) rfl (by kernel_rfl) (by kernel_rfl) (by kernel_rfl) (fun _ _ _ h => (by cases h.1)) (Or.inl ⟨by rfl, ?_⟩) (by assumption) ?_
          · intro W hSW
            go_simp
          simp only [Act.put]
          refine wpAnyH_take (i := 7) (v := .bool ok) rfl (by kernel_rfl) (by kernel_rfl) (by kernel_rfl) (fun _ _ _ h => (by cases h.1)) (Or.inl ⟨by rfl, ?_⟩) (by assumption) ?_
          · intro W hSW
            go_simp
          simp only [Act.put]
          refine wpAnyH_ready (rs := [8]) (by kernel_rfl) (by simp) ?_
          refine AllReadyH.cons rfl (fun K hK => ?_) AllReadyH.nil
          rw [if_pos (by rfl)]
          go_simp
          have hS8x := Below.alloc hS5 (Below.size hS5) (.cells #[.int .i64 0, .int .i64 0, .slice none 0 0, .slice none 0 0] 36)
          refine hK.out _ _ hS8x (fun hSS => ?_)
          clear hK
          refine wpAnyH_ready (rs := [9]) (by kernel_rfl) (by simp) ?_
          refine AllReadyH.cons rfl (fun K hK => ?_) AllReadyH.nil
          rw [if_pos (by rfl)]
          have hF : (w5.alloc (.cells #[.int .i64 fR, .int .i64 tR, .slice aw0 AR.length cw0, .slice aw1 UR.length cw1] 36)).heap[w5.heap.size]? = some (.cells #[.int .i64 fR, .int .i64 tR, .slice aw0 AR.length cw0, .slice aw1 UR.length cw1] 36) := blk_new _ _
          have hR0 := hrr0.kept ((Below.refl w5.heap.size w5).alloc (Nat.le_refl _) (.cells #[.int .i64 fR, .int .i64 tR, .slice aw0 AR.length cw0, .slice aw1 UR.length cw1] 36))
          have hR1 := hrr1.kept ((Below.refl w5.heap.size w5).alloc (Nat.le_refl _) (.cells #[.int .i64 fR, .int .i64 tR, .slice aw0 AR.length cw0, .slice aw1 UR.length cw1] 36))
          have hSF := Below.alloc hS5 (Below.size hS5) (.cells #[.int .i64 fR, .int .i64 tR, .slice aw0 AR.length cw0, .slice aw1 UR.length cw1] 36)
          have hgB : w2.heap.size ≤ w5.heap.size := hS5.size
          go_simp
          refine hK.out _ _ hSF (fun hSS => ?_)
          clear hK
          refine wpAnyH_take (i := 10) (v := .bool ok) rfl (by kernel_rfl) (by kernel_rfl) (by kernel_rfl) (fun _ _ _ h => (by cases h.1)) (Or.inl ⟨by rfl, ?_⟩) (by assumption) ?_
          · intro W hSW
            go_simp
          simp only [Act.put]
          refine wpAnyH_done (by kernel_rfl) ?_ _
          exact ⟨rfl, g3a, g3b, g4a, g4b, w5.heap.size, aw0, cw0, aw1, cw1, rfl, hcw0, hcw1, hF, hR0, hR1, hSF, hgB⟩
        · rw [if_pos (by rfl)]
          go_simp
          have hS8x := Below.alloc hS4 (Below.size hS4) (.cells #[.int .i64 0, .int .i64 0, .slice none 0 0, .slice none 0 0] 36)
          refine hK.out _ _ hS8x (fun hSS => ?_)
          clear hK
          refine wpAnyH_ready (rs := [4]) (by kernel_rfl) (by simp) ?_
          refine AllReadyH.cons rfl (fun K hK => ?_) AllReadyH.nil
          rw [if_pos (by rfl)]
          go_simp
          refine (HS.out g3a g3b g4a g4b _ (hq3ax.kept ((Below.refl _ _).alloc (Nat.le_refl _) _)) (hq3bx.kept ((Below.refl _ _).alloc (Nat.le_refl _) _)) (hq4a.kept ((Below.refl _ _).alloc (Nat.le_refl _) _)) (hq4b.kept ((Below.refl _ _).alloc (Nat.le_refl _) _))).mono ?_
          rintro e w5 ⟨⟨vw0, vw1, rfl, hrr0, hrr1⟩, hb5⟩
          obtain ⟨aw0, cw0, hvw0, _, hcw0, _⟩ := id hrr0
          subst hvw0
          obtain ⟨aw1, cw1, hvw1, _, hcw1, _⟩ := id hrr1
          subst hvw1
          go_simp
          have hS5 := HTS2.out _ _ hS8x hb5
          refine hK.out _ _ hS5 (fun hSS => ?_)
          clear hK
          refine wpAnyH_take (i := 5) (v := .tuple #[.agg #[.int .i64 fR, .int .i64 tR, .slice aw0 AR.length cw0, .slice aw1 UR.length cw1], .bool ok]) rfl (by kernel_rfl) (by kernel_rfl) (by kernel_rfl) (fun _ _ _ h => (by cases h.1)) (Or.inl ⟨by rfl, ?_⟩) (by assumption) ?_
          · intro W hSW
            go_simp
          simp only [Act.put]
          refine wpAnyH_take (i := 6) (v := .agg #[.int .i64 fR, .int .i64 tR, .slice aw0 AR.length cw0, .slice aw1 UR.length cw1]) rfl (by kernel_rfl) (by kernel_rfl) (by kernel_rfl) (fun _ _ _ h => (by cases h.1)) (Or.inl ⟨by rfl, ?_⟩) (by assumption) ?_
          · intro W hSW
            go_simp
          simp only [Act.put]
          refine wpAnyH_take (i := 7) (v := .bool ok) rfl (by kernel_rfl) (by kernel_rfl) (by kernel_rfl) (fun _ _ _ h => (by cases h.1)) (Or.inl ⟨by rfl, ?_⟩) (by assumption) ?_
          · intro W hSW
            go_simp
          simp only [Act.put]
          refine wpAnyH_ready (rs := [9]) (by kernel_rfl) (by simp) ?_
          refine AllReadyH.cons rfl (fun K hK => ?_) AllReadyH.nil
          rw [if_pos (by rfl)]
          have hk4 : (w5).heap[w4.heap.size]? = some (.cells #[.int .i64 0, .int .i64 0, .slice none 0 0, .slice none 0 0] 36) := (hb5.block w4.heap.size (by simp)).trans (blk_new _ _)
          have hgB : w2.heap.size ≤ w4.heap.size := hS4.size
          have hgk := kpt_put4v (w5) (w4.heap.size) (.int .i64 fR) (.int .i64 tR) (.slice aw0 AR.length cw0) (.slice aw1 UR.length cw1) (S := fun k => k = w4.heap.size) rfl
          have hF := put4v_heap (v0 := .int .i64 fR) (v1 := .int .i64 tR) (v2 := .slice aw0 AR.length cw0) (v3 := .slice aw1 UR.length cw1) hk4
          have hR0 := hrr0.apart4 hk4 hgk
          have hR1 := hrr1.apart4 hk4 hgk
          have hSF := put4v_below hS5 (g := w4.heap.size) hgB (.int .i64 fR) (.int .i64 tR) (.slice aw0 AR.length cw0) (.slice aw1 UR.length cw1)
          obtain ⟨⟨rr0, rr1, rr2, rr3⟩, ⟨ff0, ff1, ff2, ff3⟩⟩ := dif_cells hk4
          go_simp
          unfold put4v at hF hR0 hR1 hSF
          refine hK.out _ _ hSF (fun hSS => ?_)
          clear hK rr0 rr1 rr2 rr3 ff0 ff1 ff2 ff3 hgk hk4
          refine wpAnyH_take (i := 10) (v := .bool ok) rfl (by kernel_rfl) (by kernel_rfl) (by kernel_rfl) (fun _ _ _ h => (by cases h.1)) (Or.inl ⟨by rfl, ?_⟩) (by assumption) ?_
          · intro W hSW
            go_simp
          simp only [Act.put]
          refine wpAnyH_done (by kernel_rfl) ?_ _
          exact ⟨rfl, g3a, g3b, g4a, g4b, w4.heap.size, aw0, cw0, aw1, cw1, rfl, hcw0, hcw1, hF, hR0, hR1, hSF, hgB⟩
      · rw [if_pos (by rfl)]
        go_simp
        have hS8x := Below.alloc hS3 (Below.size hS3) (.cells #[.int .i64 0, .int .i64 0, .slice none 0 0, .slice none 0 0] 36)
        refine hK.out _ _ hS8x (fun hSS => ?_)
        clear hK
        refine wpAnyH_ready (rs := [3]) (by kernel_rfl) (by simp) ?_
        refine AllReadyH.cons rfl (fun K hK => ?_) AllReadyH.nil
        rw [if_pos (by rfl)]
        go_simp
        refine (HT2.out _ (HBW2.out _ hS8x)).mono ?_
        rintro e w4 ⟨⟨g4a, g4b, rfl, hgz4, hgz4l, hq4a, hq4b⟩, hb4⟩
        go_simp
        have hS4 := HTS2.out _ _ hS8x hb4
        have hq3ax := (hq3a.kept ((Below.refl _ _).alloc (Nat.le_refl _) _)).kept hb4
        have hq3bx := (hq3b.kept ((Below.refl _ _).alloc (Nat.le_refl _) _)).kept hb4
        refine hK.out _ _ hS4 (fun hSS => ?_)
        clear hK
        refine wpAnyH_ready (rs := [4]) (by kernel_rfl) (by simp) ?_
        refine AllReadyH.cons rfl (fun K hK => ?_) AllReadyH.nil
        rw [if_pos (by rfl)]
        go_simp
        refine (HS.out g3a g3b g4a g4b _ (hq3ax) (hq3bx) (hq4a) (hq4b)).mono ?_
        rintro e w5 ⟨⟨vw0, vw1, rfl, hrr0, hrr1⟩, hb5⟩
        obtain ⟨aw0, cw0, hvw0, _, hcw0, _⟩ := id hrr0
        subst hvw0
        obtain ⟨aw1, cw1, hvw1, _, hcw1, _⟩ := id hrr1
        subst hvw1
        go_simp
        have hS5 := HTS2.out _ _ hS4 hb5
        refine hK.out _ _ hS5 (fun hSS => ?_)
        clear hK
        refine wpAnyH_take (i := 5) (v := .tuple #[.agg #[.int .i64 fR, .int .i64 tR, .slice aw0 AR.length cw0, .slice aw1 UR.length cw1], .bool ok]) rfl (by kernel_rfl) (by kernel_rfl) (by kernel_rfl) (fun _ _ _ h => (by cases h.1)) (Or.inl ⟨by rfl, ?_⟩) (by assumption) ?_
        · intro W hSW
          go_simp
        simp only [Act.put]
        refine wpAnyH_take (i := 6) (v := .agg #[.int .i64 fR, .int .i64 tR, .slice aw0 AR.length cw0, .slice aw1 UR.length cw1]) rfl (by kernel_rfl) (by kernel_rfl) (by kernel_rfl) (fun _ _ _ h => (by cases h.1)) (Or.inl ⟨by rfl, ?_⟩) (by assumption) ?_
        · intro W hSW
          go_simp
        simp only [Act.put]
        refine wpAnyH_take (i := 7) (v := .bool ok) rfl (by kernel_rfl) (by kernel_rfl) (by kernel_rfl) (fun _ _ _ h => (by cases h.1)) (Or.inl ⟨by rfl, ?_⟩) (by assumption) ?_
        · intro W hSW
          go_simp
        simp only [Act.put]
        refine wpAnyH_ready (rs := [9]) (by kernel_rfl) (by simp) ?_
        refine AllReadyH.cons rfl (fun K hK => ?_) AllReadyH.nil
        rw [if_pos (by rfl)]
        have hk4 : (w5).heap[w3.heap.size]? = some (.cells #[.int .i64 0, .int .i64 0, .slice none 0 0, .slice none 0 0] 36) := (hb5.block w3.heap.size (by have h := hb4.size; simp at h; omega)).trans ((hb4.block w3.heap.size (by simp)).trans (blk_new _ _))
        have hgB : w2.heap.size ≤ w3.heap.size := hS3.size
        have hgk := kpt_put4v (w5) (w3.heap.size) (.int .i64 fR) (.int .i64 tR) (.slice aw0 AR.length cw0) (.slice aw1 UR.length cw1) (S := fun k => k = w3.heap.size) rfl
        have hF := put4v_heap (v0 := .int .i64 fR) (v1 := .int .i64 tR) (v2 := .slice aw0 AR.length cw0) (v3 := .slice aw1 UR.length cw1) hk4
        have hR0 := hrr0.apart4 hk4 hgk
        have hR1 := hrr1.apart4 hk4 hgk
        have hSF := put4v_below hS5 (g := w3.heap.size) hgB (.int .i64 fR) (.int .i64 tR) (.slice aw0 AR.length cw0) (.slice aw1 UR.length cw1)
        obtain ⟨⟨rr0, rr1, rr2, rr3⟩, ⟨ff0, ff1, ff2, ff3⟩⟩ := dif_cells hk4
        go_simp
        unfold put4v at hF hR0 hR1 hSF
        refine hK.out _ _ hSF (fun hSS => ?_)
        clear hK rr0 rr1 rr2 rr3 ff0 ff1 ff2 ff3 hgk hk4
        refine wpAnyH_take (i := 10) (v := .bool ok) rfl (by kernel_rfl) (by kernel_rfl) (by kernel_rfl) (fun _ _ _ h => (by cases h.1)) (Or.inl ⟨by rfl, ?_⟩) (by assumption) ?_
        · intro W hSW
          go_simp
        simp only [Act.put]
        refine wpAnyH_done (by kernel_rfl) ?_ _
        exact ⟨rfl, g3a, g3b, g4a, g4b, w3.heap.size, aw0, cw0, aw1, cw1, rfl, hcw0, hcw1, hF, hR0, hR1, hSF, hgB⟩
    · rw [if_pos (by rfl)]
      go_simp
      have hS8x := Below.alloc hS2 (Below.size hS2) (.cells #[.int .i64 0, .int .i64 0, .slice none 0 0, .slice none 0 0] 36)
      refine hK.out _ _ hS8x (fun hSS => ?_)
      clear hK
      refine wpAnyH_ready (rs := [1]) (by kernel_rfl) (by simp) ?_
      refine AllReadyH.cons rfl (fun K hK => ?_) AllReadyH.nil
      rw [if_pos (by rfl)]
      go_simp
      refine (HT1.out _ (HBW2.out _ hS8x)).mono ?_
      rintro e w3 ⟨⟨g3a, g3b, rfl, hgz3, hgz3l, hq3a, hq3b⟩, hb3⟩
      go_simp
      have hS3 := HTS2.out _ _ hS8x hb3
      refine hK.out _ _ hS3 (fun hSS => ?_)
      clear hK
      refine wpAnyH_ready (rs := [3]) (by kernel_rfl) (by simp) ?_
      refine AllReadyH.cons rfl (fun K hK => ?_) AllReadyH.nil
      rw [if_pos (by rfl)]
      go_simp
      refine (HT2.out _ (HBW2.out _ hS3)).mono ?_
      rintro e w4 ⟨⟨g4a, g4b, rfl, hgz4, hgz4l, hq4a, hq4b⟩, hb4⟩
      go_simp
      have hS4 := HTS2.out _ _ hS3 hb4
      have hq3ax := hq3a.kept hb4
      have hq3bx := hq3b.kept hb4
      refine hK.out _ _ hS4 (fun hSS => ?_)
      clear hK
      refine wpAnyH_ready (rs := [4]) (by kernel_rfl) (by simp) ?_
      refine AllReadyH.cons rfl (fun K hK => ?_) AllReadyH.nil
      rw [if_pos (by rfl)]
      go_simp
      refine (HS.out g3a g3b g4a g4b _ (hq3ax) (hq3bx) (hq4a) (hq4b)).mono ?_
      rintro e w5 ⟨⟨vw0, vw1, rfl, hrr0, hrr1⟩, hb5⟩
      obtain ⟨aw0, cw0, hvw0, _, hcw0, _⟩ := id hrr0
      subst hvw0
      obtain ⟨aw1, cw1, hvw1, _, hcw1, _⟩ := id hrr1
      subst hvw1
      go_simp
      have hS5 := HTS2.out _ _ hS4 hb5
      refine hK.out _ _ hS5 (fun hSS => ?_)
      clear hK
      refine wpAnyH_take (i := 5) (v := .tuple #[.agg #[.int .i64 fR, .int .i64 tR, .slice aw0 AR.length cw0, .slice aw1 UR.length cw1], .bool ok]) rfl (by kernel_rfl) (by kernel_rfl) (by kernel_rfl) (fun _ _ _ h => (by cases h.1)) (Or.inl ⟨by rfl, ?_⟩) (by assumption) ?_
      · intro W hSW
        go_simp
      simp only [Act.put]
      refine wpAnyH_take (i := 6) (v := .agg #[.int .i64 fR, .int .i64 tR, .slice aw0 AR.length cw0, .slice aw1 UR.length cw1]) rfl (by kernel_rfl) (by kernel_rfl) (by kernel_rfl) (fun _ _ _ h => (by cases h.1)) (Or.inl ⟨by rfl, ?_⟩) (by assumption) ?_
      · intro W hSW
        go_simp
      simp only [Act.put]
      refine wpAnyH_take (i := 7) (v := .bool ok) rfl (by kernel_rfl) (by kernel_rfl) (by kernel_rfl) (fun _ _ _ h => (by cases h.1)) (Or.inl ⟨by rfl, ?_⟩) (by assumption) ?_
      · intro W hSW
        go_simp
      simp only [Act.put]
      refine wpAnyH_ready (rs := [9]) (by kernel_rfl) (by simp) ?_
      refine AllReadyH.cons rfl (fun K hK => ?_) AllReadyH.nil
      rw [if_pos (by rfl)]
      have hk4 : (w5).heap[w2.heap.size]? = some (.cells #[.int .i64 0, .int .i64 0, .slice none 0 0, .slice none 0 0] 36) := (hb5.block w2.heap.size (by have h := hb4.size; have h' := hb3.size; simp at h'; omega)).trans ((hb4.block w2.heap.size (by have h' := hb3.size; simp at h'; omega)).trans ((hb3.block w2.heap.size (by simp)).trans (blk_new w2.drew _)))
      have hgB : w2.heap.size ≤ w2.heap.size := Nat.le_refl _
      have hgk := kpt_put4v (w5) (w2.heap.size) (.int .i64 fR) (.int .i64 tR) (.slice aw0 AR.length cw0) (.slice aw1 UR.length cw1) (S := fun k => k = w2.heap.size) rfl
      have hF := put4v_heap (v0 := .int .i64 fR) (v1 := .int .i64 tR) (v2 := .slice aw0 AR.length cw0) (v3 := .slice aw1 UR.length cw1) hk4
      have hR0 := hrr0.apart4 hk4 hgk
      have hR1 := hrr1.apart4 hk4 hgk
      have hSF := put4v_below hS5 (g := w2.heap.size) hgB (.int .i64 fR) (.int .i64 tR) (.slice aw0 AR.length cw0) (.slice aw1 UR.length cw1)
      obtain ⟨⟨rr0, rr1, rr2, rr3⟩, ⟨ff0, ff1, ff2, ff3⟩⟩ := dif_cells hk4
      go_simp
      unfold put4v at hF hR0 hR1 hSF
      refine hK.out _ _ hSF (fun hSS => ?_)
      clear hK rr0 rr1 rr2 rr3 ff0 ff1 ff2 ff3 hgk hk4
      refine wpAnyH_take (i := 10) (v := .bool ok) rfl (by kernel_rfl) (by kernel_rfl) (by kernel_rfl) (fun _ _ _ h => (by cases h.1)) (Or.inl ⟨by rfl, ?_⟩) (by assumption) ?_
      · intro W hSW
        go_simp
      simp only [Act.put]
      refine wpAnyH_done (by kernel_rfl) ?_ _
      exact ⟨rfl, g3a, g3b, g4a, g4b, w2.heap.size, aw0, cw0, aw1, cw1, rfl, hcw0, hcw1, hF, hR0, hR1, hSF, hgB⟩
  rintro e act WFX ⟨rfl, g3a, g3b, g4a, g4b, gX, aw0, cw0, aw1, cw1, rfl, hcw0, hcw1, hF, hR0, hR1, hSF, hgB⟩
  have hgl : gX < WFX.heap.size := (Array.getElem?_eq_some_iff.1 hF).1
  have hb0F : Below W0.heap.size W0 WFX := HTR.out _ _ hb02 hSF
  have HWF : Hid (∀ W, Below WFX.heap.size WFX W → W.heap[gX]? = some (.cells #[.int .i64 fR, .int .i64 tR, .slice aw0 AR.length cw0, .slice aw1 UR.length cw1] 36) ∧ RRow W (.slice aw0 AR.length cw0) AR ∧ RRow W (.slice aw1 UR.length cw1) UR ∧ Below W0.heap.size W0 W) := fun W hW => ⟨(hW.block _ hgl).trans hF, hR0.kept hW, hR1.kept hW, HTR.out _ _ hb0F hW⟩
  have HTF : Hid (∀ W W', Below WFX.heap.size WFX W → Below W.heap.size W W' → Below WFX.heap.size WFX W') := fun W W' h1 h2 => h1.trans (h2.mono h1.size)
  obtain ⟨⟨⟨c0, c1, c2, c3⟩, ⟨d0, d1, d2, d3⟩⟩, hbwF, hzF⟩ := HX.out _ hb0F
  clear hF hR0 hR1 HS HC2 HBW HT22 HTS2 HBW2 hbz hbd hS2
  go_wp2_with fail
  refine (HT1.out _ hbwF).mono ?_
  rintro e w6 ⟨⟨g6a, g6b, rfl, hg6, hg6l, hq6a, hq6b⟩, hb6⟩
  have hg6l : g6b < w6.heap.size := hq6b.1
  have hbF6 : Below WFX.heap.size WFX w6 := hb6
  have hbF6a : Below WFX.heap.size WFX (w6.alloc (.cells #[.int .i64 f1, .int .i64 t1, .slice (some ⟨g6a, 0, none⟩) A1.length A1.length, .slice (some ⟨g6b, 0, none⟩) U1.length U1.length] 36)) := hb6.alloc hb6.size _
  clear c0 c1 c2 c3 d0 d1 d2 d3
  obtain ⟨⟨⟨c0, c1, c2, c3⟩, ⟨d0, d1, d2, d3⟩⟩, hbw6, hz6⟩ := HX.out _ (HWF.out _ hbF6a).2.2.2
  obtain ⟨⟨⟨y0, y1, y2, y3⟩, ⟨z0, z1, z2, z3⟩⟩, _, hz6'⟩ := HX.out _ (HWF.out _ hbF6).2.2.2
  go_wp2_with fail
  refine (HT2.out _ hbw6).mono ?_
  rintro e w7 ⟨⟨g7a, g7b, rfl, hg7, hg7l, hq7a, hq7b⟩, hb7⟩
  have hg7l : g7b < w7.heap.size := hq7b.1
  have hg67 : w6.heap.size + 1 ≤ g7a := by simpa using hg7
  have hb67 : Below w6.heap.size w6 w7 := ((Below.refl w6.heap.size w6).alloc (Nat.le_refl _) _).trans (hb7.mono (by simp))
  have hbF7 := HTF.out _ _ hbF6 hb67
  have HX1a : Hid (w7.heap[w6.heap.size]? = some (.cells #[.int .i64 f1, .int .i64 t1, .slice (some ⟨g6a, 0, none⟩) A1.length A1.length, .slice (some ⟨g6b, 0, none⟩) U1.length U1.length] 36)) := (hb7.block w6.heap.size (by simp)).trans (blk_new _ _)
  have hz67 : w6.heap.size < w7.heap.size := Nat.lt_of_lt_of_le (by simp) hb7.size
  have HQ1a0 : Hid (QRow w7 g6a A1) := hq6a.kept hb67
  have HQ1a1 : Hid (QRow w7 g6b U1) := hq6b.kept hb67
  have HQ2a0 : Hid (QRow w7 g7a A2) := hq7a
  have HQ2a1 : Hid (QRow w7 g7b U2) := hq7b
  have hbF7a : Below WFX.heap.size WFX (w7.alloc (.cells #[.int .i64 f2, .int .i64 t2, .slice (some ⟨g7a, 0, none⟩) A2.length A2.length, .slice (some ⟨g7b, 0, none⟩) U2.length U2.length] 36)) := hbF7.alloc hbF7.size _
  clear c0 c1 c2 c3 d0 d1 d2 d3
  clear y0 y1 y2 y3 z0 z1 z2 z3 hb7 hg7 hq6a hq6b hq7a hq7b
  obtain ⟨⟨x0, x1, x2, x3⟩, _⟩ := dif_cells HX1a.out
  go_wp2_with fail
  refine (HI.out g6a g6b g7a g7b _ (hE.below (HX.out _ (HWF.out _ hbF7a).2.2.2).2.1) (HQ1a0.out.kept ((Below.refl w7.heap.size w7).alloc (Nat.le_refl _) _)) (HQ1a1.out.kept ((Below.refl w7.heap.size w7).alloc (Nat.le_refl _) _)) (HQ2a0.out.kept ((Below.refl w7.heap.size w7).alloc (Nat.le_refl _) _)) (HQ2a1.out.kept ((Below.refl w7.heap.size w7).alloc (Nat.le_refl _) _))).mono ?_
  rintro e w8 ⟨⟨vg0, vg1, rfl, hoo0, hoo1, hap⟩, hb8⟩
  obtain ⟨ag0, cg0, hvg0, hcg0⟩ := hoo0.shape
  subst hvg0
  obtain ⟨ag1, cg1, hvg1, hcg1⟩ := hoo1.shape
  subst hvg1
  have hb78 : Below w7.heap.size w7 w8 := ((Below.refl w7.heap.size w7).alloc (Nat.le_refl _) _).trans (hb8.mono (by simp))
  have hz78 : w7.heap.size < w8.heap.size := Nat.lt_of_lt_of_le (by simp) hb8.size
  have hbF8 := HTF.out _ _ hbF7 hb78
  have HX2b : Hid (w8.heap[w7.heap.size]? = some (.cells #[.int .i64 f2, .int .i64 t2, .slice (some ⟨g7a, 0, none⟩) A2.length A2.length, .slice (some ⟨g7b, 0, none⟩) U2.length U2.length] 36)) := (hb8.block w7.heap.size (by simp)).trans (blk_new _ _)
  have HX1b : Hid (w8.heap[w6.heap.size]? = some (.cells #[.int .i64 f1, .int .i64 t1, .slice (some ⟨g6a, 0, none⟩) A1.length A1.length, .slice (some ⟨g6b, 0, none⟩) U1.length U1.length] 36)) := (hb78.block _ hz67).trans HX1a.out
  have HO8_0 : Hid (OwnQ w8 (w7.heap.size + 1) (.slice ag0 AR.length cg0) AR) := by
    have h : OwnQ w8 (w7.heap.size + 1) (.slice ag0 AR.length cg0) AR := by simpa using hoo0
    exact h
  have HO8_1 : Hid (OwnQ w8 (w7.heap.size + 1) (.slice ag1 UR.length cg1) UR) := by
    have h : OwnQ w8 (w7.heap.size + 1) (.slice ag1 UR.length cg1) UR := by simpa using hoo1
    exact h
  have HAP : Hid (∀ g, (Value.slice ag0 AR.length cg0).ownBlock = some g → (Value.slice ag1 UR.length cg1).ownBlock ≠ some g) := hap
  have HLG : Hid (∀ k, (Value.slice ag0 AR.length cg0).ownBlock = some k ∨ (Value.slice ag1 UR.length cg1).ownBlock = some k → w7.heap.size + 1 ≤ k ∧ k < w8.heap.size) := fun k h => by
    rcases h with h | h
    · exact HO8_0.out.lt k h
    · exact HO8_1.out.lt k h
  have HQ1b0 : Hid (QRow w8 g6a A1) := HQ1a0.out.kept hb78
  have HQ1b1 : Hid (QRow w8 g6b U1) := HQ1a1.out.kept hb78
  have HQ2b0 : Hid (QRow w8 g7a A2) := HQ2a0.out.kept hb78
  have HQ2b1 : Hid (QRow w8 g7b U2) := HQ2a1.out.kept hb78
  obtain ⟨hW8, hA0, hA1, _⟩ := HWF.out _ (hbF8.alloc hbF8.size (.cells #[.int .i64 fR, .int .i64 tR, .slice ag0 AR.length cg0, .slice ag1 UR.length cg1] 36))
  obtain ⟨hW8', _⟩ := HWF.out _ hbF8
  obtain ⟨⟨c0, c1, c2, c3⟩, _⟩ := dif_cells hW8'
  have hltX : gX < w8.heap.size := Nat.lt_of_lt_of_le hgl hbF8.size
  clear x0 x1 x2 x3 hoo0 hoo1 hap hb8 hb67 hb78 HX1a HQ1a0 HQ1a1 HQ2a0 HQ2a1 hW8
  go_wp2_with fail
  refine (HEG.out _ _ _ _ _ (HO8_0.out.row.kept ((Below.refl w8.heap.size w8).alloc (Nat.le_refl _) _)) (HO8_1.out.row.kept ((Below.refl w8.heap.size w8).alloc (Nat.le_refl _) _)) hA0 hA1).mono ?_
  rintro e w9 ⟨rfl, hb9⟩
  have hb89 : Below w8.heap.size w8 w9 := ((Below.refl w8.heap.size w8).alloc (Nat.le_refl _) _).trans (hb9.mono (by simp))
  have hz89 : w8.heap.size < w9.heap.size := Nat.lt_of_lt_of_le (by simp) hb9.size
  have HG9 : Hid (w9.heap[w8.heap.size]? = some (.cells #[.int .i64 fR, .int .i64 tR, .slice ag0 AR.length cg0, .slice ag1 UR.length cg1] 36)) := (hb9.block w8.heap.size (by simp)).trans (blk_new _ _)
  have hbF9 := HTF.out _ _ hbF8 hb89
  have HX1c : Hid (w9.heap[w6.heap.size]? = some (.cells #[.int .i64 f1, .int .i64 t1, .slice (some ⟨g6a, 0, none⟩) A1.length A1.length, .slice (some ⟨g6b, 0, none⟩) U1.length U1.length] 36)) := (hb89.block _ (by omega)).trans HX1b.out
  have HX2c : Hid (w9.heap[w7.heap.size]? = some (.cells #[.int .i64 f2, .int .i64 t2, .slice (some ⟨g7a, 0, none⟩) A2.length A2.length, .slice (some ⟨g7b, 0, none⟩) U2.length U2.length] 36)) := (hb89.block _ (by omega)).trans HX2b.out
  have HO9_0 : Hid (OwnQ w9 (w7.heap.size + 1) (.slice ag0 AR.length cg0) AR) := HO8_0.out.kept hb89
  have HO9_1 : Hid (OwnQ w9 (w7.heap.size + 1) (.slice ag1 UR.length cg1) UR) := HO8_1.out.kept hb89
  have HQ1c0 : Hid (QRow w9 g6a A1) := HQ1b0.out.kept hb89
  have HQ1c1 : Hid (QRow w9 g6b U1) := HQ1b1.out.kept hb89
  have HQ2c0 : Hid (QRow w9 g7a A2) := HQ2b0.out.kept hb89
  have HQ2c1 : Hid (QRow w9 g7b U2) := HQ2b1.out.kept hb89
  have HC9 : Hid (∀ W, Below w9.heap.size w9 W → ((W.cell? ⟨w.heap.size, 0, none⟩ = some (.int .i64 f1) ∧ W.cell? ⟨w.heap.size, 1, none⟩ = some (.int .i64 t1) ∧ W.cell? ⟨w.heap.size, 2, none⟩ = some (.slice a10 A1.length k10) ∧ W.cell? ⟨w.heap.size, 3, none⟩ = some (.slice a11 U1.length k11)) ∧ (W.cell? ⟨w.heap.size + 1, 0, none⟩ = some (.int .i64 f2) ∧ W.cell? ⟨w.heap.size + 1, 1, none⟩ = some (.int .i64 t2) ∧ W.cell? ⟨w.heap.size + 1, 2, none⟩ = some (.slice a20 A2.length k20) ∧ W.cell? ⟨w.heap.size + 1, 3, none⟩ = some (.slice a21 U2.length k21))) ∧ (W.cell? ⟨w6.heap.size, 0, none⟩ = some (.int .i64 f1) ∧ W.cell? ⟨w6.heap.size, 1, none⟩ = some (.int .i64 t1) ∧ W.cell? ⟨w6.heap.size, 2, none⟩ = some (.slice (some ⟨g6a, 0, none⟩) A1.length A1.length) ∧ W.cell? ⟨w6.heap.size, 3, none⟩ = some (.slice (some ⟨g6b, 0, none⟩) U1.length U1.length)) ∧ Below w9.heap.size w9 W) := fun W hW => ⟨(HX.out _ (HWF.out _ (HTF.out _ _ hbF9 hW)).2.2.2).1, (dif_cells ((hW.block w6.heap.size (by omega)).trans HX1c.out)).1, hW⟩
  have HT9 : Hid (∀ W, Below w9.heap.size w9 W → Calls Tryz.prog 10 #[.agg #[.int .i64 f1, .int .i64 t1, .slice a10 A1.length k10, .slice a11 U1.length k11]] W fun e w' => (∃ g g', e = .returned (.agg #[.int .i64 f1, .int .i64 t1, .slice (some ⟨g, 0, none⟩) A1.length A1.length, .slice (some ⟨g', 0, none⟩) U1.length U1.length]) ∧ W.heap.size ≤ g ∧ g < g' ∧ QRow w' g A1 ∧ QRow w' g' U1) ∧ Below W.heap.size W w') := fun W hW => HT1.out W (HX.out _ (HWF.out _ (HTF.out _ _ hbF9 hW)).2.2.2).2.1
  have HE9 : Hid (∀ g g' W, Below w9.heap.size w9 W → QRow W g A1 → QRow W g' U1 → Calls Tryz.prog 13 #[.agg #[.int .i64 f1, .int .i64 t1, .slice (some ⟨g6a, 0, none⟩) A1.length A1.length, .slice (some ⟨g6b, 0, none⟩) U1.length U1.length], .agg #[.int .i64 f1, .int .i64 t1, .slice (some ⟨g, 0, none⟩) A1.length A1.length, .slice (some ⟨g', 0, none⟩) U1.length U1.length]] W fun e w' => e = .returned (.bool true) ∧ Below W.heap.size W w') := fun g g' W hW h0 h1 => HE1.out g6a g6b g g' W (HQ1c0.out.kept hW) (HQ1c1.out.kept hW) h0 h1
  have HTR9 : Hid (∀ W W', Below w9.heap.size w9 W → Below W.heap.size W W' → Below w9.heap.size w9 W') := fun W W' h1 h2 => h1.trans (h2.mono h1.size)
  have hbz : Below w9.heap.size w9 w9 := Below.refl _ _
  have hbd : Below w9.heap.size w9 w9.drew := (Below.refl _ _).drew
  clear c0 c1 c2 c3 hb9 hb89 hA0 hA1 hW8' HX1b HX2b HQ1b0 HQ1b1 HQ2b0 HQ2b1 HO8_0 HO8_1
  go_wp2_with fail
  go_region_held3 (fun W => ((W.cell? ⟨w.heap.size, 0, none⟩ = some (.int .i64 f1) ∧ W.cell? ⟨w.heap.size, 1, none⟩ = some (.int .i64 t1) ∧ W.cell? ⟨w.heap.size, 2, none⟩ = some (.slice a10 A1.length k10) ∧ W.cell? ⟨w.heap.size, 3, none⟩ = some (.slice a11 U1.length k11)) ∧ (W.cell? ⟨w.heap.size + 1, 0, none⟩ = some (.int .i64 f2) ∧ W.cell? ⟨w.heap.size + 1, 1, none⟩ = some (.int .i64 t2) ∧ W.cell? ⟨w.heap.size + 1, 2, none⟩ = some (.slice a20 A2.length k20) ∧ W.cell? ⟨w.heap.size + 1, 3, none⟩ = some (.slice a21 U2.length k21))) ∧ (W.cell? ⟨w6.heap.size, 0, none⟩ = some (.int .i64 f1) ∧ W.cell? ⟨w6.heap.size, 1, none⟩ = some (.int .i64 t1) ∧ W.cell? ⟨w6.heap.size, 2, none⟩ = some (.slice (some ⟨g6a, 0, none⟩) A1.length A1.length) ∧ W.cell? ⟨w6.heap.size, 3, none⟩ = some (.slice (some ⟨g6b, 0, none⟩) U1.length U1.length)) ∧ Below w9.heap.size w9 W) (first | exact HC9.out _ (by assumption) | exact HC9.out _ (Below.drew (by assumption)))
    (first
    | (go_at_call 10; refine (HT9.out _ (by assumption)).mono ?_; rintro e w10 ⟨⟨g10a, g10b, rfl, _hgz10, _hgz10l, hq10a, hq10b⟩, hb10⟩; have hb910 := HTR9.out _ _ (by assumption) hb10)
    | (go_at_call 13; refine (HE9.out _ _ _ (by assumption) (by assumption) (by assumption)).mono ?_; rintro e w11 ⟨rfl, hb11⟩; have hb911 := HTR9.out _ _ (by assumption) hb11))
  have hz911 : w9.heap.size ≤ w11.heap.size := hb911.size
  have hbF11 := HTF.out _ _ hbF9 hb911
  have HG11 : Hid (w11.heap[w8.heap.size]? = some (.cells #[.int .i64 fR, .int .i64 tR, .slice ag0 AR.length cg0, .slice ag1 UR.length cg1] 36)) := (hb911.block _ (by omega)).trans HG9.out
  have HX1d : Hid (w11.heap[w6.heap.size]? = some (.cells #[.int .i64 f1, .int .i64 t1, .slice (some ⟨g6a, 0, none⟩) A1.length A1.length, .slice (some ⟨g6b, 0, none⟩) U1.length U1.length] 36)) := (hb911.block _ (by omega)).trans HX1c.out
  have HX2d : Hid (w11.heap[w7.heap.size]? = some (.cells #[.int .i64 f2, .int .i64 t2, .slice (some ⟨g7a, 0, none⟩) A2.length A2.length, .slice (some ⟨g7b, 0, none⟩) U2.length U2.length] 36)) := (hb911.block _ (by omega)).trans HX2c.out
  have HO11_0 : Hid (OwnQ w11 (w7.heap.size + 1) (.slice ag0 AR.length cg0) AR) := HO9_0.out.kept hb911
  have HO11_1 : Hid (OwnQ w11 (w7.heap.size + 1) (.slice ag1 UR.length cg1) UR) := HO9_1.out.kept hb911
  have HQ1d0 : Hid (QRow w11 g6a A1) := HQ1c0.out.kept hb911
  have HQ1d1 : Hid (QRow w11 g6b U1) := HQ1c1.out.kept hb911
  have HQ2d0 : Hid (QRow w11 g7a A2) := HQ2c0.out.kept hb911
  have HQ2d1 : Hid (QRow w11 g7b U2) := HQ2c1.out.kept hb911
  have HC11 : Hid (∀ W, Below w11.heap.size w11 W → ((W.cell? ⟨w.heap.size, 0, none⟩ = some (.int .i64 f1) ∧ W.cell? ⟨w.heap.size, 1, none⟩ = some (.int .i64 t1) ∧ W.cell? ⟨w.heap.size, 2, none⟩ = some (.slice a10 A1.length k10) ∧ W.cell? ⟨w.heap.size, 3, none⟩ = some (.slice a11 U1.length k11)) ∧ (W.cell? ⟨w.heap.size + 1, 0, none⟩ = some (.int .i64 f2) ∧ W.cell? ⟨w.heap.size + 1, 1, none⟩ = some (.int .i64 t2) ∧ W.cell? ⟨w.heap.size + 1, 2, none⟩ = some (.slice a20 A2.length k20) ∧ W.cell? ⟨w.heap.size + 1, 3, none⟩ = some (.slice a21 U2.length k21))) ∧ (W.cell? ⟨w7.heap.size, 0, none⟩ = some (.int .i64 f2) ∧ W.cell? ⟨w7.heap.size, 1, none⟩ = some (.int .i64 t2) ∧ W.cell? ⟨w7.heap.size, 2, none⟩ = some (.slice (some ⟨g7a, 0, none⟩) A2.length A2.length) ∧ W.cell? ⟨w7.heap.size, 3, none⟩ = some (.slice (some ⟨g7b, 0, none⟩) U2.length U2.length)) ∧ Below w11.heap.size w11 W) := fun W hW => ⟨(HX.out _ (HWF.out _ (HTF.out _ _ hbF11 hW)).2.2.2).1, (dif_cells ((hW.block w7.heap.size (by omega)).trans HX2d.out)).1, hW⟩
  have HT11 : Hid (∀ W, Below w11.heap.size w11 W → Calls Tryz.prog 10 #[.agg #[.int .i64 f2, .int .i64 t2, .slice a20 A2.length k20, .slice a21 U2.length k21]] W fun e w' => (∃ g g', e = .returned (.agg #[.int .i64 f2, .int .i64 t2, .slice (some ⟨g, 0, none⟩) A2.length A2.length, .slice (some ⟨g', 0, none⟩) U2.length U2.length]) ∧ W.heap.size ≤ g ∧ g < g' ∧ QRow w' g A2 ∧ QRow w' g' U2) ∧ Below W.heap.size W w') := fun W hW => HT2.out W (HX.out _ (HWF.out _ (HTF.out _ _ hbF11 hW)).2.2.2).2.1
  have HE11 : Hid (∀ g g' W, Below w11.heap.size w11 W → QRow W g A2 → QRow W g' U2 → Calls Tryz.prog 13 #[.agg #[.int .i64 f2, .int .i64 t2, .slice (some ⟨g7a, 0, none⟩) A2.length A2.length, .slice (some ⟨g7b, 0, none⟩) U2.length U2.length], .agg #[.int .i64 f2, .int .i64 t2, .slice (some ⟨g, 0, none⟩) A2.length A2.length, .slice (some ⟨g', 0, none⟩) U2.length U2.length]] W fun e w' => e = .returned (.bool true) ∧ Below W.heap.size W w') := fun g g' W hW h0 h1 => HE2.out g7a g7b g g' W (HQ2d0.out.kept hW) (HQ2d1.out.kept hW) h0 h1
  have HTR11 : Hid (∀ W W', Below w11.heap.size w11 W → Below W.heap.size W W' → Below w11.heap.size w11 W') := fun W W' h1 h2 => h1.trans (h2.mono h1.size)
  have hby : Below w11.heap.size w11 w11 := Below.refl _ _
  have hbe : Below w11.heap.size w11 w11.drew := (Below.refl _ _).drew
  clear hbz hbd HC9 HT9 HE9 HTR9 HG9 HX1c HX2c HO9_0 HO9_1 HQ1c0 HQ1c1 HQ2c0 HQ2c1 hb911
  go_wp2_with fail
  go_region_held3 (fun W => ((W.cell? ⟨w.heap.size, 0, none⟩ = some (.int .i64 f1) ∧ W.cell? ⟨w.heap.size, 1, none⟩ = some (.int .i64 t1) ∧ W.cell? ⟨w.heap.size, 2, none⟩ = some (.slice a10 A1.length k10) ∧ W.cell? ⟨w.heap.size, 3, none⟩ = some (.slice a11 U1.length k11)) ∧ (W.cell? ⟨w.heap.size + 1, 0, none⟩ = some (.int .i64 f2) ∧ W.cell? ⟨w.heap.size + 1, 1, none⟩ = some (.int .i64 t2) ∧ W.cell? ⟨w.heap.size + 1, 2, none⟩ = some (.slice a20 A2.length k20) ∧ W.cell? ⟨w.heap.size + 1, 3, none⟩ = some (.slice a21 U2.length k21))) ∧ (W.cell? ⟨w7.heap.size, 0, none⟩ = some (.int .i64 f2) ∧ W.cell? ⟨w7.heap.size, 1, none⟩ = some (.int .i64 t2) ∧ W.cell? ⟨w7.heap.size, 2, none⟩ = some (.slice (some ⟨g7a, 0, none⟩) A2.length A2.length) ∧ W.cell? ⟨w7.heap.size, 3, none⟩ = some (.slice (some ⟨g7b, 0, none⟩) U2.length U2.length)) ∧ Below w11.heap.size w11 W) (first | exact HC11.out _ (by assumption) | exact HC11.out _ (Below.drew (by assumption)))
    (first
    | (go_at_call 10; refine (HT11.out _ (by assumption)).mono ?_; rintro e w12 ⟨⟨g12a, g12b, rfl, _hgz12, _hgz12l, hq12a, hq12b⟩, hb12⟩; have hb1112 := HTR11.out _ _ (by assumption) hb12)
    | (go_at_call 13; refine (HE11.out _ _ _ (by assumption) (by assumption) (by assumption)).mono ?_; rintro e w13 ⟨rfl, hb13⟩; have hb1113 := HTR11.out _ _ (by assumption) hb13))
  have hz1113 : w11.heap.size ≤ w13.heap.size := hb1113.size
  have hbF13 := HTF.out _ _ hbF11 hb1113
  have HG13 : Hid (w13.heap[w8.heap.size]? = some (.cells #[.int .i64 fR, .int .i64 tR, .slice ag0 AR.length cg0, .slice ag1 UR.length cg1] 36)) := (hb1113.block _ (by omega)).trans HG11.out
  have HX1e : Hid (w13.heap[w6.heap.size]? = some (.cells #[.int .i64 f1, .int .i64 t1, .slice (some ⟨g6a, 0, none⟩) A1.length A1.length, .slice (some ⟨g6b, 0, none⟩) U1.length U1.length] 36)) := (hb1113.block _ (by omega)).trans HX1d.out
  have HX2e : Hid (w13.heap[w7.heap.size]? = some (.cells #[.int .i64 f2, .int .i64 t2, .slice (some ⟨g7a, 0, none⟩) A2.length A2.length, .slice (some ⟨g7b, 0, none⟩) U2.length U2.length] 36)) := (hb1113.block _ (by omega)).trans HX2d.out
  have HO13_0 : Hid (OwnQ w13 (w7.heap.size + 1) (.slice ag0 AR.length cg0) AR) := HO11_0.out.kept hb1113
  have HO13_1 : Hid (OwnQ w13 (w7.heap.size + 1) (.slice ag1 UR.length cg1) UR) := HO11_1.out.kept hb1113
  have HQ1e0 : Hid (QRow w13 g6a A1) := HQ1d0.out.kept hb1113
  have HQ1e1 : Hid (QRow w13 g6b U1) := HQ1d1.out.kept hb1113
  have HQ2e0 : Hid (QRow w13 g7a A2) := HQ2d0.out.kept hb1113
  have HQ2e1 : Hid (QRow w13 g7b U2) := HQ2d1.out.kept hb1113
  obtain ⟨⟨x0, x1, x2, x3⟩, _⟩ := dif_cells HX1e.out
  clear hby hbe HC11 HT11 HE11 HTR11 HG11 HX1d HX2d HO11_0 HO11_1 HQ1d0 HQ1d1 HQ2d0 HQ2d1 hb1113
  go_wp2_with fail
  refine (HM1.out _ _ WFX.heap.size _ (own_of HQ1e0.out (by omega) hL10) (own_of HQ1e1.out (by omega) hL11) (fun g h h' => by simp only [Value.ownBlock, Option.some.injEq] at h h'; omega)).mono ?_
  rintro e w14 ⟨rfl, hk14⟩
  clear x0 x1 x2 x3
  have HLX : Hid (∀ k, (Value.slice (some ⟨g6a, 0, none⟩) A1.length A1.length).ownBlock = some k ∨ (Value.slice (some ⟨g6b, 0, none⟩) U1.length U1.length).ownBlock = some k → WFX.heap.size ≤ k ∧ k < w6.heap.size) := fun k h => by
    simp only [Value.ownBlock, Option.some.injEq] at h
    omega
  have hz1314 : w13.heap.size ≤ w14.heap.size := hk14.size
  have hbF14 : Below WFX.heap.size WFX w14 := hbF13.trans (hk14.below hbF13.size (fun k hk h => by have h1 := HLX.out _ h; omega))
  have HG14 : Hid (w14.heap[w8.heap.size]? = some (.cells #[.int .i64 fR, .int .i64 tR, .slice ag0 AR.length cg0, .slice ag1 UR.length cg1] 36)) := (hk14.block _ (by omega) (fun h => by have h1 := HLX.out _ h; omega)).trans HG13.out
  have HX2f : Hid (w14.heap[w7.heap.size]? = some (.cells #[.int .i64 f2, .int .i64 t2, .slice (some ⟨g7a, 0, none⟩) A2.length A2.length, .slice (some ⟨g7b, 0, none⟩) U2.length U2.length] 36)) := (hk14.block _ (by omega) (fun h => by have h1 := HLX.out _ h; omega)).trans HX2e.out
  have HO14_0 : Hid (OwnQ w14 (w7.heap.size + 1) (.slice ag0 AR.length cg0) AR) := HO13_0.out.kpt hk14 (fun g hg h => by have h1 := HLX.out _ h; have h2 := HLG.out g (.inl hg); omega)
  have HO14_1 : Hid (OwnQ w14 (w7.heap.size + 1) (.slice ag1 UR.length cg1) UR) := HO13_1.out.kpt hk14 (fun g hg h => by have h1 := HLX.out _ h; have h2 := HLG.out g (.inr hg); omega)
  have HQ2f0 : Hid (QRow w14 g7a A2) := HQ2e0.out.kpt hk14 (fun h => by have h1 := HLX.out _ h; omega)
  have HQ2f1 : Hid (QRow w14 g7b U2) := HQ2e1.out.kpt hk14 (fun h => by have h1 := HLX.out _ h; omega)
  obtain ⟨⟨x0, x1, x2, x3⟩, _⟩ := dif_cells HX2f.out
  clear hk14 HG13 HX1e HX2e HO13_0 HO13_1 HQ1e0 HQ1e1 HQ2e0 HQ2e1 HLX hbF13
  go_wp2_with fail
  refine (HM2.out _ _ WFX.heap.size _ (own_of HQ2f0.out (by omega) hL20) (own_of HQ2f1.out (by omega) hL21) (fun g h h' => by simp only [Value.ownBlock, Option.some.injEq] at h h'; omega)).mono ?_
  rintro e w14b ⟨rfl, hk14b⟩
  clear x0 x1 x2 x3
  have HLY : Hid (∀ k, (Value.slice (some ⟨g7a, 0, none⟩) A2.length A2.length).ownBlock = some k ∨ (Value.slice (some ⟨g7b, 0, none⟩) U2.length U2.length).ownBlock = some k → w6.heap.size + 1 ≤ k ∧ k < w7.heap.size) := fun k h => by
    simp only [Value.ownBlock, Option.some.injEq] at h
    omega
  have hz14b : w14.heap.size ≤ w14b.heap.size := hk14b.size
  have hbF14b : Below WFX.heap.size WFX w14b := hbF14.trans (hk14b.below hbF14.size (fun k hk h => by have h1 := HLY.out _ h; omega))
  have HG14b : Hid (w14b.heap[w8.heap.size]? = some (.cells #[.int .i64 fR, .int .i64 tR, .slice ag0 AR.length cg0, .slice ag1 UR.length cg1] 36)) := (hk14b.block _ (by omega) (fun h => by have h1 := HLY.out _ h; omega)).trans HG14.out
  have HO14b_0 : Hid (OwnQ w14b (w7.heap.size + 1) (.slice ag0 AR.length cg0) AR) := HO14_0.out.kpt hk14b (fun g hg h => by have h1 := HLY.out _ h; have h2 := HLG.out g (.inl hg); omega)
  have HO14b_1 : Hid (OwnQ w14b (w7.heap.size + 1) (.slice ag1 UR.length cg1) UR) := HO14_1.out.kpt hk14b (fun g hg h => by have h1 := HLY.out _ h; have h2 := HLG.out g (.inr hg); omega)
  obtain ⟨hWc, hA0, hA1, _⟩ := HWF.out _ hbF14b
  obtain ⟨⟨c0, c1, c2, c3⟩, _⟩ := dif_cells hWc
  obtain ⟨⟨h0, h1, h2, h3⟩, _⟩ := dif_cells HG14b.out
  clear hk14b HG14 HX2f HO14_0 HO14_1 HQ2f0 HQ2f1 HLY hbF14 hWc
  go_wp2_with fail
  refine (HEG.out _ _ _ _ _ HO14b_0.out.row HO14b_1.out.row hA0 hA1).mono ?_
  rintro e w15 ⟨rfl, hb15⟩
  clear c0 c1 c2 c3 h0 h1 h2 h3 hA0 hA1
  have hz15 : w14b.heap.size ≤ w15.heap.size := hb15.size
  have hbF15 := HTF.out _ _ hbF14b hb15
  have HG15 : Hid (w15.heap[w8.heap.size]? = some (.cells #[.int .i64 fR, .int .i64 tR, .slice ag0 AR.length cg0, .slice ag1 UR.length cg1] 36)) := (hb15.block _ (by omega)).trans HG14b.out
  have HO15_0 : Hid (OwnQ w15 (w7.heap.size + 1) (.slice ag0 AR.length cg0) AR) := HO14b_0.out.kept hb15
  have HO15_1 : Hid (OwnQ w15 (w7.heap.size + 1) (.slice ag1 UR.length cg1) UR) := HO14b_1.out.kept hb15
  obtain ⟨⟨c0, c1, c2, c3⟩, _⟩ := dif_cells HG15.out
  clear hb15 HG14b HO14b_0 HO14b_1
  go_wp2_with fail
  refine (HMG.out _ _ (w7.heap.size + 1) _ HO15_0.out HO15_1.out HAP.out).mono ?_
  rintro e w15b ⟨rfl, ho15_0, ho15_1, hk15⟩
  clear c0 c1 c2 c3
  have hz15b : w15.heap.size ≤ w15b.heap.size := hk15.size
  have hbF15b : Below WFX.heap.size WFX w15b := hbF15.trans (hk15.below hbF15.size (fun k hk h => by have h1 := HLG.out _ h; have h2 := hbF7.size; omega))
  have HG15b : Hid (w15b.heap[w8.heap.size]? = some (.cells #[.int .i64 fR, .int .i64 tR, .slice ag0 AR.length cg0, .slice ag1 UR.length cg1] 36)) := (hk15.block _ (by omega) (fun h => by have h1 := HLG.out _ h; omega)).trans HG15.out
  obtain ⟨⟨c0, c1, c2, c3⟩, _⟩ := dif_cells HG15b.out
  clear hk15 HG15 HO15_0 HO15_1 hbF15
  go_wp2_with fail
  refine (HHG.out _ _ _ _ ho15_0 ho15_1).mono ?_
  rintro e w16 ⟨rfl, hb16⟩
  clear c0 c1 c2 c3
  have hz16 : w15b.heap.size ≤ w16.heap.size := hb16.size
  have hbF16 := HTF.out _ _ hbF15b hb16
  have HG16 : Hid (w16.heap[w8.heap.size]? = some (.cells #[.int .i64 fR, .int .i64 tR, .slice ag0 AR.length cg0, .slice ag1 UR.length cg1] 36)) := (hb16.block _ (by omega)).trans HG15b.out
  have HO16_0 : Hid (OwnQ w16 (w7.heap.size + 1) (.slice ag0 AR.length cg0) (mrks 1 AR.length)) := ho15_0.kept hb16
  have HO16_1 : Hid (OwnQ w16 (w7.heap.size + 1) (.slice ag1 UR.length cg1) (mrks (1 + 4 * AR.length) UR.length)) := ho15_1.kept hb16
  have HC16 : Hid (∀ W, Below w16.heap.size w16 W → ((W.cell? ⟨w.heap.size, 0, none⟩ = some (.int .i64 f1) ∧ W.cell? ⟨w.heap.size, 1, none⟩ = some (.int .i64 t1) ∧ W.cell? ⟨w.heap.size, 2, none⟩ = some (.slice a10 A1.length k10) ∧ W.cell? ⟨w.heap.size, 3, none⟩ = some (.slice a11 U1.length k11)) ∧ (W.cell? ⟨w.heap.size + 1, 0, none⟩ = some (.int .i64 f2) ∧ W.cell? ⟨w.heap.size + 1, 1, none⟩ = some (.int .i64 t2) ∧ W.cell? ⟨w.heap.size + 1, 2, none⟩ = some (.slice a20 A2.length k20) ∧ W.cell? ⟨w.heap.size + 1, 3, none⟩ = some (.slice a21 U2.length k21))) ∧ Below w16.heap.size w16 W) := fun W hW => ⟨(HX.out _ (HWF.out _ (HTF.out _ _ hbF16 hW)).2.2.2).1, hW⟩
  have HBW16 : Hid (∀ W, Below w16.heap.size w16 W → Below w.heap.size w W) := fun W hW => (HX.out _ (HWF.out _ (HTF.out _ _ hbF16 hW)).2.2.2).2.1
  have HTS16 : Hid (∀ W W', Below w16.heap.size w16 W → Below W.heap.size W W' → Below w16.heap.size w16 W') := fun W W' h1 h2 => h1.trans (h2.mono h1.size)
  have hS16 : Below w16.heap.size w16 w16.drew := (Below.refl _ _).drew
  clear ho15_0 ho15_1 hb16 HG15b hbF15b
  go_wp2_with fail
  refine wp_region_held_drew (S := fun W : World => Below w16.heap.size w16 W) (by kernel_rfl) hS16 (fun hHeld => ?_)
  refine wpAnyH_take (i := 0) (v := .agg #[.int .i64 f1, .int .i64 t1, .slice a10 A1.length k10, .slice a11 U1.length k11]) rfl (by kernel_rfl) (by kernel_rfl) (by kernel_rfl) (fun _ _ _ h => h) (Or.inl ⟨by rfl, ?_⟩) (by assumption) ?_
  · intro W hSW
    obtain ⟨⟨⟨q0, q1, q2, q3⟩, ⟨y0, y1, y2, y3⟩⟩, _⟩ := HC16.out _ hSW
    go_simp
  simp only [Act.put, List.setIfInBounds_toArray]
  refine wpAnyH_take (i := 2) (v := .agg #[.int .i64 f2, .int .i64 t2, .slice a20 A2.length k20, .slice a21 U2.length k21]) rfl (by kernel_rfl) (by kernel_rfl) (by kernel_rfl) (fun _ _ _ h => h) (Or.inl ⟨by rfl, ?_⟩) (by assumption) ?_
  · intro W hSW
    obtain ⟨⟨⟨q0, q1, q2, q3⟩, ⟨y0, y1, y2, y3⟩⟩, _⟩ := HC16.out _ hSW
    go_simp
  simp only [Act.put]
  refine wpAnyH_ready (rs := [1, 8]) (by kernel_rfl) (by simp) ?_
  refine AllReadyH.cons rfl (fun K hK => ?_) (AllReadyH.cons rfl (fun K hK => ?_) AllReadyH.nil)
  · rw [if_pos (by rfl)]
    go_simp
    refine (HT1.out _ (HBW16.out _ hS16)).mono ?_
    rintro e w17 ⟨⟨g17a, g17b, rfl, hgz17, hgz17l, hq17a, hq17b⟩, hb17⟩
    go_simp
    have hS17 := HTS16.out _ _ hS16 hb17
    refine hK.out _ _ hS17 (fun hSS => ?_)
    clear hK
    refine wpAnyH_ready (rs := [3, 8]) (by kernel_rfl) (by simp) ?_
    refine AllReadyH.cons rfl (fun K hK => ?_) (AllReadyH.cons rfl (fun K hK => ?_) AllReadyH.nil)
    · rw [if_pos (by rfl)]
      go_simp
      refine (HT2.out _ (HBW16.out _ hS17)).mono ?_
      rintro e w18 ⟨⟨g18a, g18b, rfl, hgz18, hgz18l, hq18a, hq18b⟩, hb18⟩
      go_simp
      have hS18 := HTS16.out _ _ hS17 hb18
      have hq17ax := hq17a.kept hb18
      have hq17bx := hq17b.kept hb18
      refine hK.out _ _ hS18 (fun hSS => ?_)
      clear hK
      refine wpAnyH_ready (rs := [4, 8]) (by kernel_rfl) (by simp) ?_
      refine AllReadyH.cons rfl (fun K hK => ?_) (AllReadyH.cons rfl (fun K hK => ?_) AllReadyH.nil)
      · rw [if_pos (by rfl)]
        go_simp
        refine (HI.out g17a g17b g18a g18b _ (hE.below (HBW16.out _ hS18)) (hq17ax) (hq17bx) (hq18a) (hq18b)).mono ?_
        rintro e w19 ⟨⟨vh0, vh1, rfl, hoo0, hoo1, _⟩, hb19⟩
        obtain ⟨ah0, ch0, hvh0, hch0⟩ := hoo0.shape
        subst hvh0
        have hrr0 := hoo0.row
        obtain ⟨ah1, ch1, hvh1, hch1⟩ := hoo1.shape
        subst hvh1
        have hrr1 := hoo1.row
        go_simp
        have hS19 := HTS16.out _ _ hS18 hb19
        refine hK.out _ _ hS19 (fun hSS => ?_)
        clear hK
        refine wpAnyH_take (i := 5) (v := .tuple #[.agg #[.int .i64 fR, .int .i64 tR, .slice ah0 AR.length ch0, .slice ah1 UR.length ch1], .bool ok]) rfl (by kernel_rfl) (by kernel_rfl) (by kernel_rfl) (fun _ _ _ h => h) (Or.inl ⟨by rfl, ?_⟩) (by assumption) ?_
        · intro W hSW
          go_simp
        simp only [Act.put]
        refine wpAnyH_take (i := 6) (v := .agg #[.int .i64 fR, .int .i64 tR, .slice ah0 AR.length ch0, .slice ah1 UR.length ch1]) rfl (by kernel_rfl) (by kernel_rfl) (by kernel_rfl) (fun _ _ _ h => h) (Or.inl ⟨by rfl, ?_⟩) (by assumption) ?_
        · intro W hSW
          go_simp
        simp only [Act.put]
        refine wpAnyH_take (i := 7) (v := .bool ok) rfl (by kernel_rfl) (by kernel_rfl) (by kernel_rfl) (fun _ _ _ h => h) (Or.inl ⟨by rfl, ?_⟩) (by assumption) ?_
        · intro W hSW
          go_simp
        simp only [Act.put]
        refine wpAnyH_ready (rs := [8]) (by kernel_rfl) (by simp) ?_
        refine AllReadyH.cons rfl (fun K hK => ?_) AllReadyH.nil
        rw [if_pos (by rfl)]
        go_simp
        have hS8x := Below.alloc hS19 (Below.size hS19) (.cells #[.int .i64 0, .int .i64 0, .slice none 0 0, .slice none 0 0] 36)
        refine hK.out _ _ hS8x (fun hSS => ?_)
        clear hK
        refine wpAnyH_ready (rs := [9]) (by kernel_rfl) (by simp) ?_
        refine AllReadyH.cons rfl (fun K hK => ?_) AllReadyH.nil
        rw [if_pos (by rfl)]
        have hF : (w19.alloc (.cells #[.int .i64 fR, .int .i64 tR, .slice ah0 AR.length ch0, .slice ah1 UR.length ch1] 36)).heap[w19.heap.size]? = some (.cells #[.int .i64 fR, .int .i64 tR, .slice ah0 AR.length ch0, .slice ah1 UR.length ch1] 36) := blk_new _ _
        have hR0 := hrr0.kept ((Below.refl w19.heap.size w19).alloc (Nat.le_refl _) (.cells #[.int .i64 fR, .int .i64 tR, .slice ah0 AR.length ch0, .slice ah1 UR.length ch1] 36))
        have hR1 := hrr1.kept ((Below.refl w19.heap.size w19).alloc (Nat.le_refl _) (.cells #[.int .i64 fR, .int .i64 tR, .slice ah0 AR.length ch0, .slice ah1 UR.length ch1] 36))
        have hSF := Below.alloc hS19 (Below.size hS19) (.cells #[.int .i64 fR, .int .i64 tR, .slice ah0 AR.length ch0, .slice ah1 UR.length ch1] 36)
        have hgB : w16.heap.size ≤ w19.heap.size := hS19.size
        go_simp
        refine hK.out _ _ hSF (fun hSS => ?_)
        clear hK
        refine wpAnyH_take (i := 10) (v := .bool ok) rfl (by kernel_rfl) (by kernel_rfl) (by kernel_rfl) (fun _ _ _ h => h) (Or.inl ⟨by rfl, ?_⟩) (by assumption) ?_
        · intro W hSW
          go_simp
        simp only [Act.put]
        refine wpAnyH_done (by kernel_rfl) ?_ _
        obtain ⟨WF, hWF⟩ : ∃ WF, WF = w19.alloc (.cells #[.int .i64 fR, .int .i64 tR, .slice ah0 AR.length ch0, .slice ah1 UR.length ch1] 36) := ⟨_, rfl⟩
        obtain ⟨gF, hgF⟩ : ∃ g, g = w19.heap.size := ⟨_, rfl⟩
        rw [← hWF] at hF hR0 hR1 hSF ⊢
        rw [← hgF] at hF hgB ⊢
        clear hWF hgF
        have hglH : gF < WF.heap.size := (Array.getElem?_eq_some_iff.1 hF).1
        have hbF17 : Below WFX.heap.size WFX WF := HTF.out _ _ hbF16 hSF
        obtain ⟨hW17, hA0, hA1, _⟩ := HWF.out _ hbF17
        obtain ⟨⟨c0, c1, c2, c3⟩, _⟩ := dif_cells hW17
        obtain ⟨⟨h0, h1, h2, h3⟩, _⟩ := dif_cells hF
        have HO17_0 : Hid (OwnQ WF (w7.heap.size + 1) (.slice ag0 AR.length cg0) (mrks 1 AR.length)) := HO16_0.out.kept hSF
        have HO17_1 : Hid (OwnQ WF (w7.heap.size + 1) (.slice ag1 UR.length cg1) (mrks (1 + 4 * AR.length) UR.length)) := HO16_1.out.kept hSF
        have HG17 : Hid (WF.heap[w8.heap.size]? = some (.cells #[.int .i64 fR, .int .i64 tR, .slice ag0 AR.length cg0, .slice ag1 UR.length cg1] 36)) := (hSF.block _ (by omega)).trans HG16.out
        have hzz : w16.heap.size ≤ WF.heap.size := hSF.size
        have HRR0 : Hid (RRow WF (.slice ah0 AR.length ch0) AR) := hR0
        have HRR1 : Hid (RRow WF (.slice ah1 UR.length ch1) UR) := hR1
        clear hW17 hF hR0 hR1 hSS
        go_wp2_with fail
        refine (HEG.out _ _ _ _ _ HRR0.out HRR1.out hA0 hA1).mono ?_
        rintro e w18 ⟨rfl, hb18⟩
        clear c0 c1 c2 c3 h0 h1 h2 h3 hA0 hA1
        have hbF18 := HTF.out _ _ hbF17 hb18
        have HG18 : Hid (w18.heap[w8.heap.size]? = some (.cells #[.int .i64 fR, .int .i64 tR, .slice ag0 AR.length cg0, .slice ag1 UR.length cg1] 36)) := (hb18.block _ (by omega)).trans HG17.out
        obtain ⟨⟨c0, c1, c2, c3⟩, _⟩ := dif_cells HG18.out
        have HO18_0 := HO17_0.out.kept hb18
        have HO18_1 := HO17_1.out.kept hb18
        clear HG17
        go_wp2_with fail
        refine (HHG.out _ _ _ _ HO18_0 HO18_1).mono ?_
        rintro e w19 ⟨rfl, hb19⟩
        have hbF19 := HTF.out _ _ hbF18 hb19
        have hbw19 := (HX.out _ (HWF.out _ hbF19).2.2.2).2.1
        clear c0 c1 c2 c3
        go_wp2_with fail
        go_ret
        exact ⟨rfl, hbw19⟩
      · rw [if_pos (by rfl)]
        go_simp
        have hS8x := Below.alloc hS18 (Below.size hS18) (.cells #[.int .i64 0, .int .i64 0, .slice none 0 0, .slice none 0 0] 36)
        refine hK.out _ _ hS8x (fun hSS => ?_)
        clear hK
        refine wpAnyH_ready (rs := [4]) (by kernel_rfl) (by simp) ?_
        refine AllReadyH.cons rfl (fun K hK => ?_) AllReadyH.nil
        rw [if_pos (by rfl)]
        go_simp
        refine (HI.out g17a g17b g18a g18b _ (hE.below (HBW16.out _ hS8x)) (hq17ax.kept ((Below.refl _ _).alloc (Nat.le_refl _) _)) (hq17bx.kept ((Below.refl _ _).alloc (Nat.le_refl _) _)) (hq18a.kept ((Below.refl _ _).alloc (Nat.le_refl _) _)) (hq18b.kept ((Below.refl _ _).alloc (Nat.le_refl _) _))).mono ?_
        rintro e w19 ⟨⟨vh0, vh1, rfl, hoo0, hoo1, _⟩, hb19⟩
        obtain ⟨ah0, ch0, hvh0, hch0⟩ := hoo0.shape
        subst hvh0
        have hrr0 := hoo0.row
        obtain ⟨ah1, ch1, hvh1, hch1⟩ := hoo1.shape
        subst hvh1
        have hrr1 := hoo1.row
        go_simp
        have hS19 := HTS16.out _ _ hS8x hb19
        refine hK.out _ _ hS19 (fun hSS => ?_)
        clear hK
        refine wpAnyH_take (i := 5) (v := .tuple #[.agg #[.int .i64 fR, .int .i64 tR, .slice ah0 AR.length ch0, .slice ah1 UR.length ch1], .bool ok]) rfl (by kernel_rfl) (by kernel_rfl) (by kernel_rfl) (fun _ _ _ h => h) (Or.inl ⟨by rfl, ?_⟩) (by assumption) ?_
        · intro W hSW
          go_simp
        simp only [Act.put]
        refine wpAnyH_take (i := 6) (v := .agg #[.int .i64 fR, .int .i64 tR, .slice ah0 AR.length ch0, .slice ah1 UR.length ch1]) rfl (by kernel_rfl) (by kernel_rfl) (by kernel_rfl) (fun _ _ _ h => h) (Or.inl ⟨by rfl, ?_⟩) (by assumption) ?_
        · intro W hSW
          go_simp
        simp only [Act.put]
        refine wpAnyH_take (i := 7) (v := .bool ok) rfl (by kernel_rfl) (by kernel_rfl) (by kernel_rfl) (fun _ _ _ h => h) (Or.inl ⟨by rfl, ?_⟩) (by assumption) ?_
        · intro W hSW
          go_simp
        simp only [Act.put]
        refine wpAnyH_ready (rs := [9]) (by kernel_rfl) (by simp) ?_
        refine AllReadyH.cons rfl (fun K hK => ?_) AllReadyH.nil
        rw [if_pos (by rfl)]
        have hk4 : (w19).heap[w18.heap.size]? = some (.cells #[.int .i64 0, .int .i64 0, .slice none 0 0, .slice none 0 0] 36) := (hb19.block w18.heap.size (by simp)).trans (blk_new _ _)
        have hgB : w16.heap.size ≤ w18.heap.size := hS18.size
        have hgk := kpt_put4v (w19) (w18.heap.size) (.int .i64 fR) (.int .i64 tR) (.slice ah0 AR.length ch0) (.slice ah1 UR.length ch1) (S := fun k => k = w18.heap.size) rfl
        have hF := put4v_heap (v0 := .int .i64 fR) (v1 := .int .i64 tR) (v2 := .slice ah0 AR.length ch0) (v3 := .slice ah1 UR.length ch1) hk4
        have hR0 := hrr0.apart4 hk4 hgk
        have hR1 := hrr1.apart4 hk4 hgk
        have hSF := put4v_below hS19 (g := w18.heap.size) hgB (.int .i64 fR) (.int .i64 tR) (.slice ah0 AR.length ch0) (.slice ah1 UR.length ch1)
        obtain ⟨⟨rr0, rr1, rr2, rr3⟩, ⟨ff0, ff1, ff2, ff3⟩⟩ := dif_cells hk4
        go_simp
        unfold put4v at hF hR0 hR1 hSF
        refine hK.out _ _ hSF (fun hSS => ?_)
        clear hK rr0 rr1 rr2 rr3 ff0 ff1 ff2 ff3 hgk hk4
        refine wpAnyH_take (i := 10) (v := .bool ok) rfl (by kernel_rfl) (by kernel_rfl) (by kernel_rfl) (fun _ _ _ h => h) (Or.inl ⟨by rfl, ?_⟩) (by assumption) ?_
        · intro W hSW
          go_simp
        simp only [Act.put]
        refine wpAnyH_done (by kernel_rfl) ?_ _
        obtain ⟨WF, hWF⟩ : ∃ WF, WF = (((((w19).setCell ⟨w18.heap.size, 0, none⟩ (.int .i64 fR)).setCell ⟨w18.heap.size, 1, none⟩ (.int .i64 tR)).setCell ⟨w18.heap.size, 2, none⟩ (.slice ah0 AR.length ch0)).setCell ⟨w18.heap.size, 3, none⟩ (.slice ah1 UR.length ch1)) := ⟨_, rfl⟩
        obtain ⟨gF, hgF⟩ : ∃ g, g = w18.heap.size := ⟨_, rfl⟩
        rw [← hWF] at hF hR0 hR1 hSF ⊢
        rw [← hgF] at hF hgB ⊢
        clear hWF hgF
        have hglH : gF < WF.heap.size := (Array.getElem?_eq_some_iff.1 hF).1
        have hbF17 : Below WFX.heap.size WFX WF := HTF.out _ _ hbF16 hSF
        obtain ⟨hW17, hA0, hA1, _⟩ := HWF.out _ hbF17
        obtain ⟨⟨c0, c1, c2, c3⟩, _⟩ := dif_cells hW17
        obtain ⟨⟨h0, h1, h2, h3⟩, _⟩ := dif_cells hF
        have HO17_0 : Hid (OwnQ WF (w7.heap.size + 1) (.slice ag0 AR.length cg0) (mrks 1 AR.length)) := HO16_0.out.kept hSF
        have HO17_1 : Hid (OwnQ WF (w7.heap.size + 1) (.slice ag1 UR.length cg1) (mrks (1 + 4 * AR.length) UR.length)) := HO16_1.out.kept hSF
        have HG17 : Hid (WF.heap[w8.heap.size]? = some (.cells #[.int .i64 fR, .int .i64 tR, .slice ag0 AR.length cg0, .slice ag1 UR.length cg1] 36)) := (hSF.block _ (by omega)).trans HG16.out
        have hzz : w16.heap.size ≤ WF.heap.size := hSF.size
        have HRR0 : Hid (RRow WF (.slice ah0 AR.length ch0) AR) := hR0
        have HRR1 : Hid (RRow WF (.slice ah1 UR.length ch1) UR) := hR1
        clear hW17 hF hR0 hR1 hSS
        go_wp2_with fail
        refine (HEG.out _ _ _ _ _ HRR0.out HRR1.out hA0 hA1).mono ?_
        rintro e w18 ⟨rfl, hb18⟩
        clear c0 c1 c2 c3 h0 h1 h2 h3 hA0 hA1
        have hbF18 := HTF.out _ _ hbF17 hb18
        have HG18 : Hid (w18.heap[w8.heap.size]? = some (.cells #[.int .i64 fR, .int .i64 tR, .slice ag0 AR.length cg0, .slice ag1 UR.length cg1] 36)) := (hb18.block _ (by omega)).trans HG17.out
        obtain ⟨⟨c0, c1, c2, c3⟩, _⟩ := dif_cells HG18.out
        have HO18_0 := HO17_0.out.kept hb18
        have HO18_1 := HO17_1.out.kept hb18
        clear HG17
        go_wp2_with fail
        refine (HHG.out _ _ _ _ HO18_0 HO18_1).mono ?_
        rintro e w19 ⟨rfl, hb19⟩
        have hbF19 := HTF.out _ _ hbF18 hb19
        have hbw19 := (HX.out _ (HWF.out _ hbF19).2.2.2).2.1
        clear c0 c1 c2 c3
        go_wp2_with fail
        go_ret
        exact ⟨rfl, hbw19⟩
    · rw [if_pos (by rfl)]
      go_simp
      have hS8x := Below.alloc hS17 (Below.size hS17) (.cells #[.int .i64 0, .int .i64 0, .slice none 0 0, .slice none 0 0] 36)
      refine hK.out _ _ hS8x (fun hSS => ?_)
      clear hK
      refine wpAnyH_ready (rs := [3]) (by kernel_rfl) (by simp) ?_
      refine AllReadyH.cons rfl (fun K hK => ?_) AllReadyH.nil
      rw [if_pos (by rfl)]
      go_simp
      refine (HT2.out _ (HBW16.out _ hS8x)).mono ?_
      rintro e w18 ⟨⟨g18a, g18b, rfl, hgz18, hgz18l, hq18a, hq18b⟩, hb18⟩
      go_simp
      have hS18 := HTS16.out _ _ hS8x hb18
      have hq17ax := (hq17a.kept ((Below.refl _ _).alloc (Nat.le_refl _) _)).kept hb18
      have hq17bx := (hq17b.kept ((Below.refl _ _).alloc (Nat.le_refl _) _)).kept hb18
      refine hK.out _ _ hS18 (fun hSS => ?_)
      clear hK
      refine wpAnyH_ready (rs := [4]) (by kernel_rfl) (by simp) ?_
      refine AllReadyH.cons rfl (fun K hK => ?_) AllReadyH.nil
      rw [if_pos (by rfl)]
      go_simp
      refine (HI.out g17a g17b g18a g18b _ (hE.below (HBW16.out _ hS18)) (hq17ax) (hq17bx) (hq18a) (hq18b)).mono ?_
      rintro e w19 ⟨⟨vh0, vh1, rfl, hoo0, hoo1, _⟩, hb19⟩
      obtain ⟨ah0, ch0, hvh0, hch0⟩ := hoo0.shape
      subst hvh0
      have hrr0 := hoo0.row
      obtain ⟨ah1, ch1, hvh1, hch1⟩ := hoo1.shape
      subst hvh1
      have hrr1 := hoo1.row
      go_simp
      have hS19 := HTS16.out _ _ hS18 hb19
      refine hK.out _ _ hS19 (fun hSS => ?_)
      clear hK
      refine wpAnyH_take (i := 5) (v := .tuple #[.agg #[.int .i64 fR, .int .i64 tR, .slice ah0 AR.length ch0, .slice ah1 UR.length ch1], .bool ok]) rfl (by kernel_rfl) (by kernel_rfl) (by kernel_rfl) (fun _ _ _ h => h) (Or.inl ⟨by rfl, ?_⟩) (by assumption) ?_
      · intro W hSW
        go_simp
      simp only [Act.put]
      refine wpAnyH_take (i := 6) (v := .agg #[.int .i64 fR, .int .i64 tR, .slice ah0 AR.length ch0, .slice ah1 UR.length ch1]) rfl (by kernel_rfl) (by kernel_rfl) (by kernel_rfl) (fun _ _ _ h => h) (Or.inl ⟨by rfl, ?_⟩) (by assumption) ?_
      · intro W hSW
        go_simp
      simp only [Act.put]
      refine wpAnyH_take (i := 7) (v := .bool ok) rfl (by kernel_rfl) (by kernel_rfl) (by kernel_rfl) (fun _ _ _ h => h) (Or.inl ⟨by rfl, ?_⟩) (by assumption) ?_
      · intro W hSW
        go_simp
      simp only [Act.put]
      refine wpAnyH_ready (rs := [9]) (by kernel_rfl) (by simp) ?_
      refine AllReadyH.cons rfl (fun K hK => ?_) AllReadyH.nil
      rw [if_pos (by rfl)]
      have hk4 : (w19).heap[w17.heap.size]? = some (.cells #[.int .i64 0, .int .i64 0, .slice none 0 0, .slice none 0 0] 36) := (hb19.block w17.heap.size (by have h := hb18.size; simp at h; omega)).trans ((hb18.block w17.heap.size (by simp)).trans (blk_new _ _))
      have hgB : w16.heap.size ≤ w17.heap.size := hS17.size
      have hgk := kpt_put4v (w19) (w17.heap.size) (.int .i64 fR) (.int .i64 tR) (.slice ah0 AR.length ch0) (.slice ah1 UR.length ch1) (S := fun k => k = w17.heap.size) rfl
      have hF := put4v_heap (v0 := .int .i64 fR) (v1 := .int .i64 tR) (v2 := .slice ah0 AR.length ch0) (v3 := .slice ah1 UR.length ch1) hk4
      have hR0 := hrr0.apart4 hk4 hgk
      have hR1 := hrr1.apart4 hk4 hgk
      have hSF := put4v_below hS19 (g := w17.heap.size) hgB (.int .i64 fR) (.int .i64 tR) (.slice ah0 AR.length ch0) (.slice ah1 UR.length ch1)
      obtain ⟨⟨rr0, rr1, rr2, rr3⟩, ⟨ff0, ff1, ff2, ff3⟩⟩ := dif_cells hk4
      go_simp
      unfold put4v at hF hR0 hR1 hSF
      refine hK.out _ _ hSF (fun hSS => ?_)
      clear hK rr0 rr1 rr2 rr3 ff0 ff1 ff2 ff3 hgk hk4
      refine wpAnyH_take (i := 10) (v := .bool ok) rfl (by kernel_rfl) (by kernel_rfl) (by kernel_rfl) (fun _ _ _ h => h) (Or.inl ⟨by rfl, ?_⟩) (by assumption) ?_
      · intro W hSW
        go_simp
      simp only [Act.put]
      refine wpAnyH_done (by kernel_rfl) ?_ _
      obtain ⟨WF, hWF⟩ : ∃ WF, WF = (((((w19).setCell ⟨w17.heap.size, 0, none⟩ (.int .i64 fR)).setCell ⟨w17.heap.size, 1, none⟩ (.int .i64 tR)).setCell ⟨w17.heap.size, 2, none⟩ (.slice ah0 AR.length ch0)).setCell ⟨w17.heap.size, 3, none⟩ (.slice ah1 UR.length ch1)) := ⟨_, rfl⟩
      obtain ⟨gF, hgF⟩ : ∃ g, g = w17.heap.size := ⟨_, rfl⟩
      rw [← hWF] at hF hR0 hR1 hSF ⊢
      rw [← hgF] at hF hgB ⊢
      clear hWF hgF
      have hglH : gF < WF.heap.size := (Array.getElem?_eq_some_iff.1 hF).1
      have hbF17 : Below WFX.heap.size WFX WF := HTF.out _ _ hbF16 hSF
      obtain ⟨hW17, hA0, hA1, _⟩ := HWF.out _ hbF17
      obtain ⟨⟨c0, c1, c2, c3⟩, _⟩ := dif_cells hW17
      obtain ⟨⟨h0, h1, h2, h3⟩, _⟩ := dif_cells hF
      have HO17_0 : Hid (OwnQ WF (w7.heap.size + 1) (.slice ag0 AR.length cg0) (mrks 1 AR.length)) := HO16_0.out.kept hSF
      have HO17_1 : Hid (OwnQ WF (w7.heap.size + 1) (.slice ag1 UR.length cg1) (mrks (1 + 4 * AR.length) UR.length)) := HO16_1.out.kept hSF
      have HG17 : Hid (WF.heap[w8.heap.size]? = some (.cells #[.int .i64 fR, .int .i64 tR, .slice ag0 AR.length cg0, .slice ag1 UR.length cg1] 36)) := (hSF.block _ (by omega)).trans HG16.out
      have hzz : w16.heap.size ≤ WF.heap.size := hSF.size
      have HRR0 : Hid (RRow WF (.slice ah0 AR.length ch0) AR) := hR0
      have HRR1 : Hid (RRow WF (.slice ah1 UR.length ch1) UR) := hR1
      clear hW17 hF hR0 hR1 hSS
      go_wp2_with fail
      refine (HEG.out _ _ _ _ _ HRR0.out HRR1.out hA0 hA1).mono ?_
      rintro e w18 ⟨rfl, hb18⟩
      clear c0 c1 c2 c3 h0 h1 h2 h3 hA0 hA1
      have hbF18 := HTF.out _ _ hbF17 hb18
      have HG18 : Hid (w18.heap[w8.heap.size]? = some (.cells #[.int .i64 fR, .int .i64 tR, .slice ag0 AR.length cg0, .slice ag1 UR.length cg1] 36)) := (hb18.block _ (by omega)).trans HG17.out
      obtain ⟨⟨c0, c1, c2, c3⟩, _⟩ := dif_cells HG18.out
      have HO18_0 := HO17_0.out.kept hb18
      have HO18_1 := HO17_1.out.kept hb18
      clear HG17
      go_wp2_with fail
      refine (HHG.out _ _ _ _ HO18_0 HO18_1).mono ?_
      rintro e w19 ⟨rfl, hb19⟩
      have hbF19 := HTF.out _ _ hbF18 hb19
      have hbw19 := (HX.out _ (HWF.out _ hbF19).2.2.2).2.1
      clear c0 c1 c2 c3
      go_wp2_with fail
      go_ret
      exact ⟨rfl, hbw19⟩
  · rw [if_pos (by rfl)]
    go_simp
    have hS8x := Below.alloc hS16 (Below.size hS16) (.cells #[.int .i64 0, .int .i64 0, .slice none 0 0, .slice none 0 0] 36)
    refine hK.out _ _ hS8x (fun hSS => ?_)
    clear hK
    refine wpAnyH_ready (rs := [1]) (by kernel_rfl) (by simp) ?_
    refine AllReadyH.cons rfl (fun K hK => ?_) AllReadyH.nil
    rw [if_pos (by rfl)]
    go_simp
    refine (HT1.out _ (HBW16.out _ hS8x)).mono ?_
    rintro e w17 ⟨⟨g17a, g17b, rfl, hgz17, hgz17l, hq17a, hq17b⟩, hb17⟩
    go_simp
    have hS17 := HTS16.out _ _ hS8x hb17
    refine hK.out _ _ hS17 (fun hSS => ?_)
    clear hK
    refine wpAnyH_ready (rs := [3]) (by kernel_rfl) (by simp) ?_
    refine AllReadyH.cons rfl (fun K hK => ?_) AllReadyH.nil
    rw [if_pos (by rfl)]
    go_simp
    refine (HT2.out _ (HBW16.out _ hS17)).mono ?_
    rintro e w18 ⟨⟨g18a, g18b, rfl, hgz18, hgz18l, hq18a, hq18b⟩, hb18⟩
    go_simp
    have hS18 := HTS16.out _ _ hS17 hb18
    have hq17ax := hq17a.kept hb18
    have hq17bx := hq17b.kept hb18
    refine hK.out _ _ hS18 (fun hSS => ?_)
    clear hK
    refine wpAnyH_ready (rs := [4]) (by kernel_rfl) (by simp) ?_
    refine AllReadyH.cons rfl (fun K hK => ?_) AllReadyH.nil
    rw [if_pos (by rfl)]
    go_simp
    refine (HI.out g17a g17b g18a g18b _ (hE.below (HBW16.out _ hS18)) (hq17ax) (hq17bx) (hq18a) (hq18b)).mono ?_
    rintro e w19 ⟨⟨vh0, vh1, rfl, hoo0, hoo1, _⟩, hb19⟩
    obtain ⟨ah0, ch0, hvh0, hch0⟩ := hoo0.shape
    subst hvh0
    have hrr0 := hoo0.row
    obtain ⟨ah1, ch1, hvh1, hch1⟩ := hoo1.shape
    subst hvh1
    have hrr1 := hoo1.row
    go_simp
    have hS19 := HTS16.out _ _ hS18 hb19
    refine hK.out _ _ hS19 (fun hSS => ?_)
    clear hK
    refine wpAnyH_take (i := 5) (v := .tuple #[.agg #[.int .i64 fR, .int .i64 tR, .slice ah0 AR.length ch0, .slice ah1 UR.length ch1], .bool ok]) rfl (by kernel_rfl) (by kernel_rfl) (by kernel_rfl) (fun _ _ _ h => h) (Or.inl ⟨by rfl, ?_⟩) (by assumption) ?_
    · intro W hSW
      go_simp
    simp only [Act.put]
    refine wpAnyH_take (i := 6) (v := .agg #[.int .i64 fR, .int .i64 tR, .slice ah0 AR.length ch0, .slice ah1 UR.length ch1]) rfl (by kernel_rfl) (by kernel_rfl) (by kernel_rfl) (fun _ _ _ h => h) (Or.inl ⟨by rfl, ?_⟩) (by assumption) ?_
    · intro W hSW
      go_simp
    simp only [Act.put]
    refine wpAnyH_take (i := 7) (v := .bool ok) rfl (by kernel_rfl) (by kernel_rfl) (by kernel_rfl) (fun _ _ _ h => h) (Or.inl ⟨by rfl, ?_⟩) (by assumption) ?_
    · intro W hSW
      go_simp
    simp only [Act.put]
    refine wpAnyH_ready (rs := [9]) (by kernel_rfl) (by simp) ?_
    refine AllReadyH.cons rfl (fun K hK => ?_) AllReadyH.nil
    rw [if_pos (by rfl)]
    have hk4 : (w19).heap[w16.heap.size]? = some (.cells #[.int .i64 0, .int .i64 0, .slice none 0 0, .slice none 0 0] 36) := (hb19.block w16.heap.size (by have h := hb18.size; have h' := hb17.size; simp at h'; omega)).trans ((hb18.block w16.heap.size (by have h' := hb17.size; simp at h'; omega)).trans ((hb17.block w16.heap.size (by simp)).trans (blk_new w16.drew _)))
    have hgB : w16.heap.size ≤ w16.heap.size := Nat.le_refl _
    have hgk := kpt_put4v (w19) (w16.heap.size) (.int .i64 fR) (.int .i64 tR) (.slice ah0 AR.length ch0) (.slice ah1 UR.length ch1) (S := fun k => k = w16.heap.size) rfl
    have hF := put4v_heap (v0 := .int .i64 fR) (v1 := .int .i64 tR) (v2 := .slice ah0 AR.length ch0) (v3 := .slice ah1 UR.length ch1) hk4
    have hR0 := hrr0.apart4 hk4 hgk
    have hR1 := hrr1.apart4 hk4 hgk
    have hSF := put4v_below hS19 (g := w16.heap.size) hgB (.int .i64 fR) (.int .i64 tR) (.slice ah0 AR.length ch0) (.slice ah1 UR.length ch1)
    obtain ⟨⟨rr0, rr1, rr2, rr3⟩, ⟨ff0, ff1, ff2, ff3⟩⟩ := dif_cells hk4
    go_simp
    unfold put4v at hF hR0 hR1 hSF
    refine hK.out _ _ hSF (fun hSS => ?_)
    clear hK rr0 rr1 rr2 rr3 ff0 ff1 ff2 ff3 hgk hk4
    refine wpAnyH_take (i := 10) (v := .bool ok) rfl (by kernel_rfl) (by kernel_rfl) (by kernel_rfl) (fun _ _ _ h => h) (Or.inl ⟨by rfl, ?_⟩) (by assumption) ?_
    · intro W hSW
      go_simp
    simp only [Act.put]
    refine wpAnyH_done (by kernel_rfl) ?_ _
    obtain ⟨WF, hWF⟩ : ∃ WF, WF = (((((w19).setCell ⟨w16.heap.size, 0, none⟩ (.int .i64 fR)).setCell ⟨w16.heap.size, 1, none⟩ (.int .i64 tR)).setCell ⟨w16.heap.size, 2, none⟩ (.slice ah0 AR.length ch0)).setCell ⟨w16.heap.size, 3, none⟩ (.slice ah1 UR.length ch1)) := ⟨_, rfl⟩
    obtain ⟨gF, hgF⟩ : ∃ g, g = w16.heap.size := ⟨_, rfl⟩
    rw [← hWF] at hF hR0 hR1 hSF ⊢
    rw [← hgF] at hF hgB ⊢
    clear hWF hgF
    have hglH : gF < WF.heap.size := (Array.getElem?_eq_some_iff.1 hF).1
    have hbF17 : Below WFX.heap.size WFX WF := HTF.out _ _ hbF16 hSF
    obtain ⟨hW17, hA0, hA1, _⟩ := HWF.out _ hbF17
    obtain ⟨⟨c0, c1, c2, c3⟩, _⟩ := dif_cells hW17
    obtain ⟨⟨h0, h1, h2, h3⟩, _⟩ := dif_cells hF
    have HO17_0 : Hid (OwnQ WF (w7.heap.size + 1) (.slice ag0 AR.length cg0) (mrks 1 AR.length)) := HO16_0.out.kept hSF
    have HO17_1 : Hid (OwnQ WF (w7.heap.size + 1) (.slice ag1 UR.length cg1) (mrks (1 + 4 * AR.length) UR.length)) := HO16_1.out.kept hSF
    have HG17 : Hid (WF.heap[w8.heap.size]? = some (.cells #[.int .i64 fR, .int .i64 tR, .slice ag0 AR.length cg0, .slice ag1 UR.length cg1] 36)) := (hSF.block _ (by omega)).trans HG16.out
    have hzz : w16.heap.size ≤ WF.heap.size := hSF.size
    have HRR0 : Hid (RRow WF (.slice ah0 AR.length ch0) AR) := hR0
    have HRR1 : Hid (RRow WF (.slice ah1 UR.length ch1) UR) := hR1
    clear hW17 hF hR0 hR1 hSS
    go_wp2_with fail
    refine (HEG.out _ _ _ _ _ HRR0.out HRR1.out hA0 hA1).mono ?_
    rintro e w18 ⟨rfl, hb18⟩
    clear c0 c1 c2 c3 h0 h1 h2 h3 hA0 hA1
    have hbF18 := HTF.out _ _ hbF17 hb18
    have HG18 : Hid (w18.heap[w8.heap.size]? = some (.cells #[.int .i64 fR, .int .i64 tR, .slice ag0 AR.length cg0, .slice ag1 UR.length cg1] 36)) := (hb18.block _ (by omega)).trans HG17.out
    obtain ⟨⟨c0, c1, c2, c3⟩, _⟩ := dif_cells HG18.out
    have HO18_0 := HO17_0.out.kept hb18
    have HO18_1 := HO17_1.out.kept hb18
    clear HG17
    go_wp2_with fail
    refine (HHG.out _ _ _ _ HO18_0 HO18_1).mono ?_
    rintro e w19 ⟨rfl, hb19⟩
    have hbF19 := HTF.out _ _ hbF18 hb19
    have hbw19 := (HX.out _ (HWF.out _ hbF19).2.2.2).2.1
    clear c0 c1 c2 c3
    go_wp2_with fail
    go_ret
    exact ⟨rfl, hbw19⟩
end Go.Proofs.YtdbbcepjdojdcaaGreatDoor.joinDiffs

namespace Go.Proofs.YtdbbcepjdojdcaaGreatDoor
open Go.RowKit

/-- Whether two diffs follow each other. -/
def joiB (f1 t1 : Int) (A1 U1 : List (List UInt8 × Int × Int × List UInt8)) (f2 t2 : Int) (A2 U2 : List (List UInt8 × Int × Int × List UInt8)) : Bool := difB f1 t1 A1 U1 && (difB f2 t2 A2 U2 && decide (t1 = f2))
theorem dif_ends {f t : Int} {A U : List (List UInt8 × Int × Int × List UInt8)} (h : f = t) : difB f t A U = false := by
  unfold difB
  subst h
  simp
/-- A row of records does not lie in a box of a diff. -/
theorem RRow.apartD {W W' : World} {g : Nat} {t : TypeId} {v : Value} {L : List (List UInt8 × Int × Int × List UInt8)} {n1 n2 : Int} {p q : Option Addr} {l1 k1 l2 k2 : Nat} (hr : RRow W v L) (hk : W.heap[g]? = some (.cells #[.int .i64 n1, .int .i64 n2, .slice p l1 k1, .slice q l2 k2] t)) (hkpt : Kpt W W' (fun k => k = g)) : RRow W' v L := by
  refine hr.kpt hkpt (fun b o n c e hne h => ?_)
  subst h
  obtain ⟨a, cap, e2, _, _, hrow⟩ := hr
  rcases hrow with h0 | ⟨b', o', e3, _, hcel⟩
  · exact hne h0
  · rw [e2, e3] at e
    injection e with e4 _ _
    injection e4 with e5
    injection e5 with e6 e7 _
    subst e6
    have hl : 0 < L.length := List.length_pos_iff.2 hne
    have h1 := (hcel 0 hl).1
    obtain ⟨k, hkk⟩ : ∃ k, k = o' + 0 * 4 := ⟨_, rfl⟩
    rw [← hkk] at h1
    unfold World.cell? at h1
    rw [hk] at h1
    match k, h1 with
    | 0, h1 => simp at h1
    | 1, h1 => simp at h1
    | 2, h1 => simp at h1
    | 3, h1 => simp at h1
    | k + 4, h1 => simp at h1
theorem joi_len {f1 t1 : Int} {A1 U1 : List (List UInt8 × Int × Int × List UInt8)} {f2 t2 : Int} {A2 U2 : List (List UInt8 × Int × Int × List UInt8)} (h : joiB f1 t1 A1 U1 f2 t2 A2 U2 = true) : (andQ (wthR A1 U2) (wthR A2 U1)).length ≤ 80 ∧ (andQ (wthR U1 A2) (wthR U2 A1)).length ≤ 80 := by
  unfold joiB at h
  rw [Bool.and_eq_true, Bool.and_eq_true] at h
  have k1 := difB_lens h.1
  have k2 := difB_lens h.2.1
  have m1 := andQ_len (wthR A1 U2) (wthR A2 U1)
  have m2 := andQ_len (wthR U1 A2) (wthR U2 A1)
  have n1 := wthR_le A1 U2
  have n2 := wthR_le A2 U1
  have n3 := wthR_le U1 A2
  have n4 := wthR_le U2 A1
  omega
end Go.Proofs.YtdbbcepjdojdcaaGreatDoor
