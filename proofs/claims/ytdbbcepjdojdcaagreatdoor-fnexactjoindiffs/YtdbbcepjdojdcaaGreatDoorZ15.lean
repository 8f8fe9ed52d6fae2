import Derived.Test.YtdbbcepjdojdcaaGreatDoorZ14
import Derived.Test.YtdbbcepjdojdcaaGreatDoorZ13
import Derived.Test.YtdbbcepjdojdcaaGreatDoorZ09
namespace Go.Proofs.YtdbbcepjdojdcaaGreatDoor
open Go.RowKit

/-- A diff. -/
def DifV (f t : Int) (va vu : Value) : Value := .agg #[.int .i64 f, .int .i64 t, va, vu]
theorem dif_cells {W : World} {b : Nat} {v0 v1 v2 v3 : Value} {t : TypeId} (h : W.heap[b]? = some (.cells #[v0, v1, v2, v3] t)) :
    (W.cell? ⟨b, 0, none⟩ = some v0 ∧ W.cell? ⟨b, 1, none⟩ = some v1 ∧ W.cell? ⟨b, 2, none⟩ = some v2 ∧ W.cell? ⟨b, 3, none⟩ = some v3) ∧ (W.frozen? ⟨b, 0, none⟩ = false ∧ W.frozen? ⟨b, 1, none⟩ = false ∧ W.frozen? ⟨b, 2, none⟩ = false ∧ W.frozen? ⟨b, 3, none⟩ = false) := by
  refine ⟨⟨?_, ?_, ?_, ?_⟩, ⟨?_, ?_, ?_, ?_⟩⟩
  all_goals first
    | (unfold World.cell?; rw [h]; rfl)
    | (unfold World.frozen?; rw [h]; simp)
theorem dif4 {W : World} {b : Nat} {v0 v1 v2 v3 : Value} {t : TypeId} (h : W.heap[b]? = some (.cells #[v0, v1, v2, v3] t)) :
    W.cell? ⟨b, 0, none⟩ = some v0 ∧ W.cell? ⟨b, 1, none⟩ = some v1 ∧ W.cell? ⟨b, 2, none⟩ = some v2 ∧ W.cell? ⟨b, 3, none⟩ = some v3 := (dif_cells h).1
theorem sz_dif {A U : List (List UInt8 × Int × Int × List UInt8)} {q : Int} (h0 : 0 ≤ q) (h : q = 1048576 - (A.length : Int) - (wtR A : Int) - (U.length : Int) - (wtR U : Int)) :
    A.length ≤ 1048576 ∧ U.length ≤ 1048576 ∧ (∀ x ∈ A, x.1.length ≤ 1048576 ∧ x.2.2.2.length ≤ 1048576) ∧ (∀ x ∈ U, x.1.length ≤ 1048576 ∧ x.2.2.2.length ≤ 1048576) := by
  refine ⟨by omega, by omega, fun x hx => ?_, fun x hx => ?_⟩
  · have := wtR_mem hx; omega
  · have := wtR_mem hx; omega
theorem dif_below {w W : World} {a : Array Value} {t : TypeId} (hb : Below (w.alloc (.cells a t)).heap.size (w.alloc (.cells a t)) W) :
    W.heap[w.heap.size]? = some (.cells a t) ∧ Below w.heap.size w W :=
  ⟨(hb.block _ (by simp)).trans (blk_new _ _), ((Below.refl w.heap.size w).alloc (Nat.le_refl _) _).trans (hb.mono (by simp))⟩
def put4v (w : World) (g : Nat) (v0 v1 v2 v3 : Value) : World := (((w.setCell ⟨g, 0, none⟩ v0).setCell ⟨g, 1, none⟩ v1).setCell ⟨g, 2, none⟩ v2).setCell ⟨g, 3, none⟩ v3
theorem put4v_heap {w : World} {g : Nat} {t : TypeId} {v0 v1 v2 v3 u0 u1 u2 u3 : Value} (h : w.heap[g]? = some (.cells #[u0, u1, u2, u3] t)) : (put4v w g v0 v1 v2 v3).heap[g]? = some (.cells #[v0, v1, v2, v3] t) := by
  have e0 := heap_setCell_same _ _ 0 _ _ v0 h
  have e1 := heap_setCell_same _ _ 1 _ _ v1 e0
  have e2 := heap_setCell_same _ _ 2 _ _ v2 e1
  have e3 := heap_setCell_same _ _ 3 _ _ v3 e2
  unfold put4v
  simpa using e3
theorem put4v_far {w : World} {g g' : Nat} {v0 v1 v2 v3 : Value} {L : List (List UInt8 × Int × Int × List UInt8)} (h : QRow w g L) (hne : g' ≠ g) : QRow (put4v w g' v0 v1 v2 v3) g L := (((h.far hne _).far hne _).far hne _).far hne _
theorem put4v_below {B : Nat} {a w : World} (h : Below B a w) {g : Nat} (hg : B ≤ g) (v0 v1 v2 v3 : Value) : Below B a (put4v w g v0 v1 v2 v3) :=
  (((h.setCell (p := ⟨g, 0, none⟩) hg _).setCell (p := ⟨g, 1, none⟩) hg _).setCell (p := ⟨g, 2, none⟩) hg _).setCell (p := ⟨g, 3, none⟩) hg _

set_option maxRecDepth 20000 in
set_option maxHeartbeats 2000000 in
theorem szDiff_any (f t : Int) (va vu : Value) (A U : List (List UInt8 × Int × Int × List UInt8)) (left : Int) (w : World) (ha : RRow w va A) (hu : RRow w vu U)
    (hxa : Hid (∀ x ∈ A, x.1.length ≤ maxLen ∧ x.2.2.2.length ≤ maxLen)) (hxu : Hid (∀ x ∈ U, x.1.length ≤ maxLen ∧ x.2.2.2.length ≤ maxLen)) (h0 : 0 ≤ left) (h1 : left ≤ 1048576) :
    Calls Tryz.prog 7 #[DifV f t va vu, .int .i64 left] w fun e w' => (∃ q : Int, e = .returned (.int .i64 q) ∧ (q = -1 ∨ (0 ≤ q ∧ q = left - (A.length : Int) - (wtR A : Int) - (U.length : Int) - (wtR U : Int)))) ∧ Below w.heap.size w w' := by
  unfold DifV
  obtain ⟨aa, ca, rfl, _, hca, _⟩ := id ha
  obtain ⟨au, cu, rfl, _, hcu, _⟩ := id hu
  have HRA : Hid (∀ W, Below w.heap.size w W → RRow W (.slice aa A.length ca) A) := fun W hW => ha.kept hW
  have HRU : Hid (∀ W, Below w.heap.size w W → RRow W (.slice au U.length cu) U) := fun W hW => hu.kept hW
  clear ha hu
  go_enter Tryz.func7, Tryz.ntmps7
  go_wp2_with fail
  refine (szRecordS_any _ A left _ (HRA.out _ ((Below.refl w.heap.size w).alloc (Nat.le_refl _) _)) hxa h0 h1).mono ?_
  rintro e w1 ⟨⟨q1, rfl, hq1⟩, hb1⟩
  obtain ⟨hk1, hbw⟩ := dif_below hb1
  obtain ⟨⟨_, _, _, c3⟩, _⟩ := dif_cells hk1
  clear hk1
  rcases hq1 with ⟨rfl, _⟩ | ⟨hq1, hp1⟩
  · go_wp2_with fail
    go_ret
    exact ⟨⟨-1, rfl, .inl rfl⟩, hbw⟩
  · have HQ1 : Hid (q1 = left - (A.length : Int) - (wtR A : Int)) := hq1
    have hle : q1 ≤ 1048576 := by omega
    clear hq1
    go_wp2_with fail
    refine (szRecordS_any _ U q1 _ (HRU.out _ hbw) hxu hp1 hle).mono ?_
    rintro e w2 ⟨⟨q2, rfl, hq2⟩, hb2⟩
    have hbw2 := hbw.trans (hb2.mono hbw.size)
    rcases hq2 with ⟨rfl, _⟩ | ⟨hq2, hp2⟩
    · go_wp2_with fail
      go_ret
      exact ⟨⟨-1, rfl, .inl rfl⟩, hbw2⟩
    · have HQ2 : Hid (q2 = q1 - (U.length : Int) - (wtR U : Int)) := hq2
      clear hq2
      go_wp2_with fail
      go_ret
      exact ⟨⟨q2, rfl, .inr ⟨hp2, by have h1 := HQ1.out; have h2 := HQ2.out; omega⟩⟩, hbw2⟩

set_option maxRecDepth 20000 in
set_option maxHeartbeats 2000000 in
theorem toDiff_any (f t : Int) (va vu : Value) (A U : List (List UInt8 × Int × Int × List UInt8)) (w : World) (ha : RRow w va A) (hu : RRow w vu U) (hla : A.length ≤ 1048576) (hlu : U.length ≤ 1048576) :
    Calls Tryz.prog 10 #[DifV f t va vu] w fun e w' => (∃ g1 g2, e = .returned (DifV f t (.slice (some ⟨g1, 0, none⟩) A.length A.length) (.slice (some ⟨g2, 0, none⟩) U.length U.length)) ∧ w.heap.size ≤ g1 ∧ g1 < g2 ∧ QRow w' g1 A ∧ QRow w' g2 U) ∧ Below w.heap.size w w' := by
  unfold DifV
  obtain ⟨aa, ca, rfl, _, hca, _⟩ := id ha
  obtain ⟨au, cu, rfl, _, hcu, _⟩ := id hu
  have HRA : Hid (∀ W, Below w.heap.size w W → RRow W (.slice aa A.length ca) A) := fun W hW => ha.kept hW
  have HRU : Hid (∀ W, Below w.heap.size w W → RRow W (.slice au U.length cu) U) := fun W hW => hu.kept hW
  clear ha hu
  go_enter Tryz.func10, Tryz.ntmps10
  go_wp2_with fail
  refine (toRecordS_any _ A _ (HRA.out _ ((((Below.refl w.heap.size w).alloc (Nat.le_refl _) _).alloc (by simp) _).alloc (by simp; omega) _)) hla).mono ?_
  rintro e w1 ⟨rfl, hq1, hb1⟩
  obtain ⟨c, d, fz, r, rz, hsz, hblk, hbw⟩ := box3 hb1
  have HK3 : Hid (w1.heap[w.heap.size + 1 + 1]? = some (.cells #[.int .i64 f, .int .i64 t, .slice none 0 0, .slice none 0 0] 36)) := (hb1.block _ (by simp)).trans (by have h := blk_new ((w.alloc (.cells #[.int .i64 f, .int .i64 t, .slice aa A.length ca, .slice au U.length cu] 26)).alloc (.cells #[.int .i64 0, .int .i64 0, .slice none 0 0, .slice none 0 0] 36)) (.cells #[.int .i64 f, .int .i64 t, .slice none 0 0, .slice none 0 0] 36); simpa using h)
  have HK2 : Hid (w1.heap[w.heap.size + 1]? = some (.cells #[.int .i64 0, .int .i64 0, .slice none 0 0, .slice none 0 0] 36)) := hblk
  have c3 := c 3
  simp at c3
  have HQ1 : Hid (QRow w1 (w.heap.size + 1 + 1 + 1) A) := by
    have h : QRow w1 (w.heap.size + 1 + 1 + 1) A := by simpa using hq1
    exact h
  obtain ⟨⟨d0, d1, d2, d3⟩, ⟨f0, f1, f2, f3⟩⟩ := dif_cells HK3.out
  clear c d fz r rz hq1 hblk hb1
  go_wp2_with fail
  refine (toRecordS_any _ U _ (HRU.out _ (hbw.setCell (p := ⟨w.heap.size + 1 + 1, 2, none⟩) (by show w.heap.size ≤ w.heap.size + 1 + 1; omega) _)) hlu).mono ?_
  rintro e w2 ⟨rfl, hq2, hb2⟩
  have hs1 : (w1.setCell ⟨w.heap.size + 1 + 1, 2, none⟩ (.slice (some ⟨w.heap.size + 1 + 1 + 1, 0, none⟩) A.length A.length)).heap.size = w1.heap.size := by simp
  have HK32 : Hid (w2.heap[w.heap.size + 1 + 1]? = some (.cells #[.int .i64 f, .int .i64 t, .slice (some ⟨w.heap.size + 1 + 1 + 1, 0, none⟩) A.length A.length, .slice none 0 0] 36)) := (hb2.block _ (by rw [hs1]; exact hsz)).trans (by have h := heap_setCell_same _ _ 2 _ _ (.slice (some ⟨w.heap.size + 1 + 1 + 1, 0, none⟩) A.length A.length) HK3.out; simpa using h)
  have HK22 : Hid (w2.heap[w.heap.size + 1]? = some (.cells #[.int .i64 0, .int .i64 0, .slice none 0 0, .slice none 0 0] 36)) := (hb2.block _ (by rw [hs1]; omega)).trans (by rw [heap_setCell_other _ _ _ _ (show w.heap.size + 1 ≠ w.heap.size + 1 + 1 by omega)]; exact HK2.out)
  have HQ2 : Hid (QRow w2 w1.heap.size U) := by
    have h : QRow w2 w1.heap.size U := by rw [hs1] at hq2; exact hq2
    exact h
  have HQ12 : Hid (QRow w2 (w.heap.size + 1 + 1 + 1) A) := (HQ1.out.far (show w.heap.size + 1 + 1 ≠ w.heap.size + 1 + 1 + 1 by omega) _).kept hb2
  have hg2 : w.heap.size + 1 + 1 + 1 < w1.heap.size := HQ1.out.1
  have hbw2 : Below w.heap.size w w2 := (hbw.setCell (p := ⟨w.heap.size + 1 + 1, 2, none⟩) (by show w.heap.size ≤ w.heap.size + 1 + 1; omega) _).trans (hb2.mono (by rw [hs1]; exact hbw.size))
  have hsz2 : w1.heap.size < w2.heap.size := HQ2.out.1
  clear d0 d1 d2 d3 f0 f1 f2 f3
  obtain ⟨⟨d0, d1, d2, d3⟩, ⟨f0, f1, f2, f3⟩⟩ := dif_cells HK32.out
  obtain ⟨⟨e0, e1, e2, e3⟩, ⟨n0, n1, n2, n3⟩⟩ := dif_cells HK22.out
  clear hq2 hb2 HQ1 HK3 HK2 c3 hs1
  go_wp2_with fail
  (try simp only [Exit.inBlock, Exit.then])
  refine bodyPost_ret (results_cell_row rfl _ _ (w.heap.size + 1) 36 #[.int .i64 f, .int .i64 t, .slice (some ⟨w.heap.size + 1 + 1 + 1, 0, none⟩) A.length A.length, .slice (some ⟨w1.heap.size, 0, none⟩) U.length U.length] (0, 0) _ rfl ?_ Tryz.underlying36 rfl (by kernel_rfl)) rfl ⟨⟨w.heap.size + 1 + 1 + 1, w1.heap.size, rfl, by omega, hg2, ?_, ?_⟩, ?_⟩
  · exact put4v_heap (by rw [heap_setCell_other _ _ _ _ (show w.heap.size + 1 ≠ w.heap.size + 1 + 1 by omega)]; exact HK22.out)
  · exact put4v_far (HQ12.out.far (by omega) _) (by omega)
  · exact put4v_far (HQ2.out.far (by omega) _) (by omega)
  · exact put4v_below (hbw2.setCell (p := ⟨w.heap.size + 1 + 1, 3, none⟩) (by show w.heap.size ≤ w.heap.size + 1 + 1; omega) _) (by omega) _ _ _ _

set_option maxRecDepth 20000 in
set_option maxHeartbeats 2000000 in
theorem eqDiff_same (f t : Int) (va vu va2 vu2 : Value) (A U : List (List UInt8 × Int × Int × List UInt8)) (w : World) (ha : RRow w va A) (hu : RRow w vu U) (ha2 : RRow w va2 A) (hu2 : RRow w vu2 U) :
    Calls Tryz.prog 13 #[DifV f t va vu, DifV f t va2 vu2] w fun e w' => e = .returned (.bool true) ∧ Below w.heap.size w w' := by
  unfold DifV
  obtain ⟨aa, ca, rfl, _, hca, _⟩ := id ha
  obtain ⟨au, cu, rfl, _, hcu, _⟩ := id hu
  obtain ⟨aa2, ca2, rfl, _, hca2, _⟩ := id ha2
  obtain ⟨au2, cu2, rfl, _, hcu2, _⟩ := id hu2
  have HRA : Hid (∀ W, Below w.heap.size w W → RRow W (.slice aa A.length ca) A ∧ RRow W (.slice aa2 A.length ca2) A) := fun W hW => ⟨ha.kept hW, ha2.kept hW⟩
  have HRU : Hid (∀ W, Below w.heap.size w W → RRow W (.slice au U.length cu) U ∧ RRow W (.slice au2 U.length cu2) U) := fun W hW => ⟨hu.kept hW, hu2.kept hW⟩
  have e1 : (f != f) = false := by simp
  have e2 : (t != t) = false := by simp
  clear ha hu ha2 hu2
  go_enter Tryz.func13, Tryz.ntmps13
  go_wp2_with fail
  have hA := HRA.out _ (((Below.refl w.heap.size w).alloc (Nat.le_refl _) (.cells #[.int .i64 f, .int .i64 t, .slice aa A.length ca, .slice au U.length cu] 36)).alloc (by simp) (.cells #[.int .i64 f, .int .i64 t, .slice aa2 A.length ca2, .slice au2 U.length cu2] 36))
  refine (eqRecordS_same _ _ A _ hA.1 hA.2).mono ?_
  rintro e w1 ⟨rfl, hb1⟩
  obtain ⟨c, d, hbw⟩ := box2 hb1
  have c3 := c 3
  have d3 := d 3
  simp at c3 d3
  clear c d hA
  have hU := HRU.out _ hbw
  go_wp2_with fail
  refine (eqRecordS_same _ _ U _ hU.1 hU.2).mono ?_
  rintro e w2 ⟨rfl, hb2⟩
  go_wp2_with fail
  go_ret
  exact ⟨rfl, hbw.trans (hb2.mono hbw.size)⟩
end Go.Proofs.YtdbbcepjdojdcaaGreatDoor

namespace Go.Proofs.YtdbbcepjdojdcaaGreatDoor
open Go.RowKit

set_option maxRecDepth 20000 in
set_option maxHeartbeats 2000000 in
theorem markDiff_any (f t : Int) (va vu : Value) (A U : List (List UInt8 × Int × Int × List UInt8)) (base K : Nat) (w : World) (ha : OwnQ w base va A) (hu : OwnQ w base vu U) (hne : ∀ g, va.ownBlock = some g → vu.ownBlock ≠ some g) (hA : A.length ≤ 1048576) (hU : U.length ≤ 1048576) (hK0 : 0 < K) (hK : K ≤ 16777216) :
    Calls Tryz.prog 15 #[DifV f t va vu, .int .i64 (K : Int)] w fun e w' => e = .returned (.int .i64 ((K : Int) + 4 * (A.length : Int) + 4 * (U.length : Int))) ∧ OwnQ w' base va (mrks K A.length) ∧ OwnQ w' base vu (mrks (K + 4 * A.length) U.length) ∧ Kpt w w' (fun k => va.ownBlock = some k ∨ vu.ownBlock = some k) := by
  unfold DifV
  obtain ⟨aa, ca, hva, hca⟩ := ha.shape
  obtain ⟨au, cu, hvu, hcu⟩ := hu.shape
  subst hva
  subst hvu
  have HA : Hid (OwnQ w base (.slice aa A.length ca) A) := ha
  have HU : Hid (OwnQ w base (.slice au U.length cu) U) := hu
  have HN : Hid (∀ g, (Value.slice aa A.length ca).ownBlock = some g → (Value.slice au U.length cu).ownBlock ≠ some g) := hne
  clear ha hu hne
  go_enter Tryz.func15, Tryz.ntmps15
  go_wp2_with fail
  refine (markRecordS_any _ A base K _ (HA.out.kept ((Below.refl w.heap.size w).alloc (Nat.le_refl _) _)) hA hK0 (by omega)).mono ?_
  rintro e w1 ⟨rfl, ho1, hg1⟩
  have hk1 := grown_kpt hg1
  have c3 : w1.cell? ⟨w.heap.size, 3, none⟩ = some (.slice au U.length cu) := hk1.cell (by simp) (fun e => by have h := (HA.out.lt _ e).2; exact absurd h (Nat.lt_irrefl _))
  have HU1 : Hid (OwnQ w1 base (.slice au U.length cu) U) := (HU.out.kept ((Below.refl w.heap.size w).alloc (Nat.le_refl _) _)).kpt hk1 (fun g hg e => HN.out g e hg)
  have HO1 : Hid (OwnQ w1 base (.slice aa A.length ca) (mrks K A.length)) := ho1
  have HK1 : Hid (Kpt w w1 (fun k => (Value.slice aa A.length ca).ownBlock = some k ∨ (Value.slice au U.length cu).ownBlock = some k)) := (below_kpt0 ((Below.refl w.heap.size w).alloc (Nat.le_refl _) _) _).trans (hk1.mono (fun k _ h => .inl h))
  clear ho1 hg1 hk1
  obtain ⟨K2, hK2⟩ : ∃ K2 : Nat, K2 = K + 4 * A.length := ⟨_, rfl⟩
  have hE : (K : Int) + 4 * (A.length : Int) = (K2 : Int) := by omega
  have HC : Hid (Calls Tryz.prog 40 #[.slice au U.length cu, .int .i64 (K2 : Int)] w1 fun e w' => e = .returned (.int .i64 ((K2 : Int) + 4 * (U.length : Int))) ∧ OwnQ w' base (.slice au U.length cu) (mrks K2 U.length) ∧ w1.grownBy w' (Value.slice au U.length cu).ownBlock) := markRecordS_any (.slice au U.length cu) U base K2 w1 HU1.out hU (by omega) (by omega)
  rw [hE]
  have HE : Hid ((K : Int) + 4 * (A.length : Int) = (K2 : Int) ∧ K2 = K + 4 * A.length) := ⟨hE, hK2⟩
  clear hE hK2
  go_wp2_with fail
  refine HC.out.mono ?_
  rintro e w2 ⟨rfl, ho2, hg2⟩
  have hk2 := grown_kpt hg2
  have HO2 : Hid (OwnQ w2 base (.slice aa A.length ca) (mrks K A.length)) := HO1.out.kpt hk2 (fun g hg e => HN.out g hg e)
  have HO3 : Hid (OwnQ w2 base (.slice au U.length cu) (mrks K2 U.length)) := ho2
  have HK2 : Hid (Kpt w w2 (fun k => (Value.slice aa A.length ca).ownBlock = some k ∨ (Value.slice au U.length cu).ownBlock = some k)) := HK1.out.trans (hk2.mono (fun k _ h => .inr h))
  clear ho2 hg2 hk2
  go_wp2_with fail
  go_ret
  exact ⟨ret_intI (by have h := HE.out.1; omega), HO2.out, by rw [← HE.out.2]; exact HO3.out, HK2.out⟩

set_option maxRecDepth 20000 in
set_option maxHeartbeats 2000000 in
theorem heldDiff_any (f t : Int) (va vu : Value) (n m K : Nat) (w : World) (ha : RRow w va (mrks K n)) (hu : RRow w vu (mrks (K + 4 * n) m)) (hn : n ≤ 1048576) (hm : m ≤ 1048576) (hK0 : 0 < K) (hK : K ≤ 1048576) :
    Calls Tryz.prog 19 #[DifV f t va vu, .int .i64 (K : Int)] w fun e w' => e = .returned (.int .i64 ((K : Int) + 4 * (n : Int) + 4 * (m : Int))) ∧ Below w.heap.size w w' := by
  unfold DifV
  obtain ⟨aa, ca, rfl, _, hca, _⟩ := id ha
  obtain ⟨au, cu, rfl, _, hcu, _⟩ := id hu
  rw [mrks_length] at ha hu ⊢
  rw [mrks_length]
  have HRA : Hid (∀ W, Below w.heap.size w W → RRow W (.slice aa n ca) (mrks K n)) := fun W hW => ha.kept hW
  have HRU : Hid (∀ W, Below w.heap.size w W → RRow W (.slice au m cu) (mrks (K + 4 * n) m)) := fun W hW => hu.kept hW
  clear ha hu
  go_enter Tryz.func19, Tryz.ntmps19
  go_wp2_with fail
  refine (heldRecordS_any _ n K _ (HRA.out _ ((Below.refl w.heap.size w).alloc (Nat.le_refl _) _)) hn hK0 (by omega)).mono ?_
  rintro e w1 ⟨rfl, hb1⟩
  obtain ⟨hk1, hbw⟩ := dif_below hb1
  obtain ⟨⟨_, _, _, c3⟩, _⟩ := dif_cells hk1
  clear hk1
  obtain ⟨K2, hK2⟩ : ∃ K2 : Nat, K2 = K + 4 * n := ⟨_, rfl⟩
  have hE : (K : Int) + 4 * (n : Int) = (K2 : Int) := by omega
  have HC : Hid (Calls Tryz.prog 41 #[.slice au m cu, .int .i64 (K2 : Int)] w1 fun e w' => e = .returned (.int .i64 ((K2 : Int) + 4 * (m : Int))) ∧ Below w1.heap.size w1 w') := heldRecordS_any (.slice au m cu) m K2 w1 (by rw [hK2]; exact HRU.out _ hbw) hm (by omega) (by omega)
  have hlt : (K2 : Int) ≤ 8388608 := by omega
  rw [hE]
  have HE : Hid ((K : Int) + 4 * (n : Int) = (K2 : Int)) := hE
  clear hE hK2
  go_wp2_with fail
  refine HC.out.mono ?_
  rintro e w2 ⟨rfl, hb2⟩
  go_wp2_with fail
  go_ret
  exact ⟨ret_intI (by have h := HE.out; omega), hbw.trans (hb2.mono hbw.size)⟩

end Go.Proofs.YtdbbcepjdojdcaaGreatDoor
