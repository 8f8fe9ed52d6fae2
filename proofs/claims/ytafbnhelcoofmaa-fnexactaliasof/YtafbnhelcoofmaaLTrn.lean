import Derived.Test.YtafbnhelcoofmaaPkW
import Derived.Laws.ResultCell
namespace Go.Proofs.Ytafbnhelcoofmaa
open Go.RowKit

/-- A turn. -/
def TrnV (va vu : Value) : Value := .agg #[va, vu]
theorem trn_new (w : World) (o : Obj) : (w.alloc o).heap[w.heap.size]? = some o := by
  show (w.heap.push o)[w.heap.size]? = some o
  simp
theorem trn_new3 (w : World) (a b c : Obj) : (((w.alloc a).alloc b).alloc c).heap[w.heap.size + 1 + 1]? = some c := by
  have h := trn_new ((w.alloc a).alloc b) c
  simpa using h
theorem trn_cells {W : World} {b : Nat} {v0 v1 : Value} {t : TypeId} (h : W.heap[b]? = some (.cells #[v0, v1] t)) :
    (W.cell? ⟨b, 0, none⟩ = some v0 ∧ W.cell? ⟨b, 1, none⟩ = some v1) ∧ (W.frozen? ⟨b, 0, none⟩ = false ∧ W.frozen? ⟨b, 1, none⟩ = false) := by
  refine ⟨⟨?_, ?_⟩, ⟨?_, ?_⟩⟩
  all_goals first
    | (unfold World.cell?; rw [h]; rfl)
    | (unfold World.frozen?; rw [h]; simp)
theorem trn_below {w W : World} {o : Obj} (hb : Below (w.alloc o).heap.size (w.alloc o) W) : W.heap[w.heap.size]? = some o ∧ Below w.heap.size w W :=
  ⟨(hb.block _ (by simp)).trans (trn_new _ _), ((Below.refl w.heap.size w).alloc (Nat.le_refl _) _).trans (hb.mono (by simp))⟩
theorem trn_below2 {w W : World} {a b : Obj} (hb : Below ((w.alloc a).alloc b).heap.size ((w.alloc a).alloc b) W) : W.heap[w.heap.size]? = some a ∧ W.heap[w.heap.size + 1]? = some b ∧ Below w.heap.size w W := by
  have hA : Below (w.alloc a).heap.size (w.alloc a) W := ((Below.refl _ _).alloc (Nat.le_refl _) _).trans (hb.mono (by simp))
  obtain ⟨h1, h2⟩ := trn_below hA
  exact ⟨h1, (hb.block _ (by simp)).trans (heap_alloc2_new _ _ _), h2⟩
theorem trn_below3 {w W : World} {a b c : Obj} (hb : Below (((w.alloc a).alloc b).alloc c).heap.size (((w.alloc a).alloc b).alloc c) W) : W.heap[w.heap.size]? = some a ∧ W.heap[w.heap.size + 1]? = some b ∧ W.heap[w.heap.size + 1 + 1]? = some c ∧ w.heap.size + 1 + 1 < W.heap.size ∧ Below w.heap.size w W := by
  have hA : Below ((w.alloc a).alloc b).heap.size ((w.alloc a).alloc b) W := ((Below.refl _ _).alloc (Nat.le_refl _) _).trans (hb.mono (by simp))
  obtain ⟨h1, h2, h3⟩ := trn_below2 hA
  exact ⟨h1, h2, (hb.block _ (by simp)).trans (trn_new3 _ _ _ _), Nat.lt_of_lt_of_le (by simp) hb.size, h3⟩
theorem ZSRow.far {w : World} {g g' k : Nat} {L : List Int} (h : ZSRow w g L) (hne : g' ≠ g) (u : Value) : ZSRow (w.setCell ⟨g', k, none⟩ u) g L := by
  refine ⟨by simpa using h.1, fun j hj => ⟨?_, by simpa using (h.2 j hj).2⟩⟩
  rw [World.cell?_setCell_other _ _ _ _ (show (⟨g', k, none⟩ : Addr) ≠ ⟨g, j, none⟩ from fun e => hne (by injection e))]
  exact (h.2 j hj).1
/-- Two cells stored. -/
def put2v (w : World) (g : Nat) (v0 v1 : Value) : World := (w.setCell ⟨g, 0, none⟩ v0).setCell ⟨g, 1, none⟩ v1
theorem put2v_heap {w : World} {g : Nat} {t : TypeId} {v0 v1 u0 u1 : Value} (h : w.heap[g]? = some (.cells #[u0, u1] t)) : (put2v w g v0 v1).heap[g]? = some (.cells #[v0, v1] t) := by
  have e0 := heap_setCell_same _ _ 0 _ _ v0 h
  have e1 := heap_setCell_same _ _ 1 _ _ v1 e0
  unfold put2v
  simpa using e1
theorem put2v_far {w : World} {g g' : Nat} {v0 v1 : Value} {L : List Int} (h : ZSRow w g L) (hne : g' ≠ g) : ZSRow (put2v w g' v0 v1) g L := (h.far hne _).far hne _
theorem put2v_below {B : Nat} {a w : World} (h : Below B a w) {g : Nat} (hg : B ≤ g) (v0 v1 : Value) : Below B a (put2v w g v0 v1) :=
  (h.setCell (p := ⟨g, 0, none⟩) hg _).setCell (p := ⟨g, 1, none⟩) hg _

set_option maxRecDepth 20000 in
set_option maxHeartbeats 400000 in
theorem szI_any (v : Value) (P : List Int) (left : Int) (w : World) (hr : ZRow .i64 w v P) (h0 : 0 ≤ left) (h1 : left ≤ 1048576) :
    Calls Try.prog 36 #[v, .int .i64 left] w fun e w' => (∃ q : Int, e = .returned (.int .i64 q) ∧ ((q = -1) ∨ (q = left - (P.length : Int) ∧ 0 ≤ q))) ∧ w' = w := by
  obtain ⟨a, cap, rfl, hcap, hmax, _⟩ := hr
  unfold maxLen at hmax
  by_cases g : left - (P.length : Int) < 0
  · go_enter Try.func36, Try.ntmps36
    go_wp2_with fail
    go_ret
    exact ⟨⟨-1, rfl, .inl rfl⟩, rfl⟩
  · go_enter Try.func36, Try.ntmps36
    go_wp2_with fail
    go_ret
    exact ⟨⟨_, rfl, .inr ⟨rfl, by omega⟩⟩, rfl⟩

set_option maxRecDepth 20000 in
set_option maxHeartbeats 2000000 in
theorem szTurn_any (va vu : Value) (A U : List Int) (w : World) (ha : ZRow .i64 w va A) (hu : ZRow .i64 w vu U) :
    Calls Try.prog 20 #[TrnV va vu, .int .i64 1048576] w fun e w' => (∃ q : Int, e = .returned (.int .i64 q) ∧ (q = -1 ∨ (0 ≤ q ∧ q = 1048576 - (A.length : Int) - (U.length : Int)))) ∧ Below w.heap.size w w' := by
  unfold TrnV
  obtain ⟨aa, ca, rfl, _, hca, _⟩ := id ha
  obtain ⟨au, cu, rfl, _, hcu, _⟩ := id hu
  have HRA : Hid (∀ W, Below w.heap.size w W → ZRow .i64 W (.slice aa A.length ca) A) := fun W hW => ha.kept hW
  have HRU : Hid (∀ W, Below w.heap.size w W → ZRow .i64 W (.slice au U.length cu) U) := fun W hW => hu.kept hW
  have hb0 : Below w.heap.size w (w.alloc (.cells #[.slice aa A.length ca, .slice au U.length cu] 38)) := (Below.refl w.heap.size w).alloc (Nat.le_refl _) _
  clear ha hu
  go_enter Try.func20, Try.ntmps20
  go_wp2_with fail
  refine (szI_any _ A 1048576 _ (HRA.out _ hb0) (by omega) (by omega)).mono ?_
  rintro e w1 ⟨⟨q1, rfl, hq1⟩, rfl⟩
  rcases hq1 with rfl | ⟨hq1, hp1⟩
  · go_wp2_with fail
    go_ret
    exact ⟨⟨-1, rfl, .inl rfl⟩, hb0⟩
  · have HQ1 : Hid (q1 = 1048576 - (A.length : Int)) := hq1
    have hle : q1 ≤ 1048576 := by omega
    clear hq1
    go_wp2_with fail
    refine (szI_any _ U q1 _ (HRU.out _ hb0) hp1 hle).mono ?_
    rintro e w2 ⟨⟨q2, rfl, hq2⟩, rfl⟩
    rcases hq2 with rfl | ⟨hq2, hp2⟩
    · go_wp2_with fail
      go_ret
      exact ⟨⟨-1, rfl, .inl rfl⟩, hb0⟩
    · have HQ2 : Hid (q2 = q1 - (U.length : Int)) := hq2
      clear hq2
      go_wp2_with fail
      go_ret
      exact ⟨⟨q2, rfl, .inr ⟨hp2, by have h1 := HQ1.out; have h2 := HQ2.out; omega⟩⟩, hb0⟩

set_option maxRecDepth 20000 in
set_option maxHeartbeats 2000000 in
theorem toTurn_any (va vu : Value) (A U : List Int) (w : World) (ha : ZRow .i64 w va A) (hu : ZRow .i64 w vu U) (hla : A.length ≤ 1048576) (hlu : U.length ≤ 1048576) :
    Calls Try.prog 22 #[TrnV va vu] w fun e w' => (∃ g1 g2, e = .returned (TrnV (.slice (some ⟨g1, 0, none⟩) A.length A.length) (.slice (some ⟨g2, 0, none⟩) U.length U.length)) ∧ w.heap.size ≤ g1 ∧ g1 < g2 ∧ ZSRow w' g1 A ∧ ZSRow w' g2 U) ∧ Below w.heap.size w w' := by
  unfold TrnV
  obtain ⟨aa, ca, rfl, _, hca, _⟩ := id ha
  obtain ⟨au, cu, rfl, _, hcu, _⟩ := id hu
  have HRA : Hid (∀ W, Below w.heap.size w W → ZRow .i64 W (.slice aa A.length ca) A) := fun W hW => ha.kept hW
  have HRU : Hid (∀ W, Below w.heap.size w W → ZRow .i64 W (.slice au U.length cu) U) := fun W hW => hu.kept hW
  clear ha hu
  go_enter Try.func22, Try.ntmps22
  go_wp2_with fail
  refine (toIntS_any _ A _ (HRA.out _ ((((Below.refl w.heap.size w).alloc (Nat.le_refl _) _).alloc (by simp) _).alloc (by simp; omega) _)) hla).mono ?_
  rintro e w1 ⟨rfl, hq1, hb1⟩
  obtain ⟨hk1, hk2, hk3, hsz, hbw⟩ := trn_below3 hb1
  have HK3 : Hid (w1.heap[w.heap.size + 1 + 1]? = some (.cells #[.slice none 0 0, .slice none 0 0] 33)) := hk3
  have HK2 : Hid (w1.heap[w.heap.size + 1]? = some (.cells #[.slice none 0 0, .slice none 0 0] 33)) := hk2
  have c1 := (trn_cells hk1).1.2
  have HQ1 : Hid (ZSRow w1 (w.heap.size + 1 + 1 + 1) A) := by
    have h : ZSRow w1 (w.heap.size + 1 + 1 + 1) A := by simpa using hq1
    exact h
  obtain ⟨⟨d0, d1⟩, ⟨f0, f1⟩⟩ := trn_cells HK3.out
  clear hk1 hk2 hk3 hq1 hb1
  go_wp2_with fail
  refine (toIntS_any _ U _ (HRU.out _ (hbw.setCell (p := ⟨w.heap.size + 1 + 1, 0, none⟩) (by show w.heap.size ≤ w.heap.size + 1 + 1; omega) _)) hlu).mono ?_
  rintro e w2 ⟨rfl, hq2, hb2⟩
  have hs1 : (w1.setCell ⟨w.heap.size + 1 + 1, 0, none⟩ (.slice (some ⟨w.heap.size + 1 + 1 + 1, 0, none⟩) A.length A.length)).heap.size = w1.heap.size := by simp
  have HK32 : Hid (w2.heap[w.heap.size + 1 + 1]? = some (.cells #[.slice (some ⟨w.heap.size + 1 + 1 + 1, 0, none⟩) A.length A.length, .slice none 0 0] 33)) := (hb2.block _ (by rw [hs1]; exact hsz)).trans (by have h := heap_setCell_same _ _ 0 _ _ (.slice (some ⟨w.heap.size + 1 + 1 + 1, 0, none⟩) A.length A.length) HK3.out; simpa using h)
  have HK22 : Hid (w2.heap[w.heap.size + 1]? = some (.cells #[.slice none 0 0, .slice none 0 0] 33)) := (hb2.block _ (by rw [hs1]; omega)).trans (by rw [heap_setCell_other _ _ _ _ (show w.heap.size + 1 ≠ w.heap.size + 1 + 1 by omega)]; exact HK2.out)
  have HQ2 : Hid (ZSRow w2 w1.heap.size U) := by
    have h : ZSRow w2 w1.heap.size U := by rw [hs1] at hq2; exact hq2
    exact h
  have HQ12 : Hid (ZSRow w2 (w.heap.size + 1 + 1 + 1) A) := (HQ1.out.far (show w.heap.size + 1 + 1 ≠ w.heap.size + 1 + 1 + 1 by omega) _).kept hb2
  have hg2 : w.heap.size + 1 + 1 + 1 < w1.heap.size := HQ1.out.1
  have hbw2 : Below w.heap.size w w2 := (hbw.setCell (p := ⟨w.heap.size + 1 + 1, 0, none⟩) (by show w.heap.size ≤ w.heap.size + 1 + 1; omega) _).trans (hb2.mono (by rw [hs1]; exact hbw.size))
  have hsz2 : w1.heap.size < w2.heap.size := HQ2.out.1
  clear d0 d1 f0 f1
  obtain ⟨⟨d0, d1⟩, ⟨f0, f1⟩⟩ := trn_cells HK32.out
  obtain ⟨⟨e0, e1⟩, ⟨n0, n1⟩⟩ := trn_cells HK22.out
  clear hq2 hb2 HQ1 HK3 HK2 c1 hs1
  go_wp2_with fail
  (try simp only [Exit.inBlock, Exit.then])
  refine bodyPost_ret (results_cell_row rfl _ _ (w.heap.size + 1) 33 #[.slice (some ⟨w.heap.size + 1 + 1 + 1, 0, none⟩) A.length A.length, .slice (some ⟨w1.heap.size, 0, none⟩) U.length U.length] (0, 0) _ rfl ?_ Try.underlying33 rfl (by kernel_rfl)) rfl ⟨⟨w.heap.size + 1 + 1 + 1, w1.heap.size, rfl, by omega, hg2, ?_, ?_⟩, ?_⟩
  · exact put2v_heap (by rw [heap_setCell_other _ _ _ _ (show w.heap.size + 1 ≠ w.heap.size + 1 + 1 by omega)]; exact HK22.out)
  · exact put2v_far (HQ12.out.far (by omega) _) (by omega)
  · exact put2v_far (HQ2.out.far (by omega) _) (by omega)
  · exact put2v_below (hbw2.setCell (p := ⟨w.heap.size + 1 + 1, 1, none⟩) (by show w.heap.size ≤ w.heap.size + 1 + 1; omega) _) (by omega) _ _

set_option maxRecDepth 20000 in
set_option maxHeartbeats 2000000 in
theorem eqTurn_same (va vu va2 vu2 : Value) (A U : List Int) (w : World) (ha : ZRow .i64 w va A) (hu : ZRow .i64 w vu U) (ha2 : ZRow .i64 w va2 A) (hu2 : ZRow .i64 w vu2 U) :
    Calls Try.prog 17 #[TrnV va vu, TrnV va2 vu2] w fun e w' => e = .returned (.bool true) ∧ Below w.heap.size w w' := by
  unfold TrnV
  obtain ⟨aa, ca, rfl, _, hca, _⟩ := id ha
  obtain ⟨au, cu, rfl, _, hcu, _⟩ := id hu
  obtain ⟨aa2, ca2, rfl, _, hca2, _⟩ := id ha2
  obtain ⟨au2, cu2, rfl, _, hcu2, _⟩ := id hu2
  have HRA : Hid (∀ W, Below w.heap.size w W → ZRow .i64 W (.slice aa A.length ca) A ∧ ZRow .i64 W (.slice aa2 A.length ca2) A) := fun W hW => ⟨ha.kept hW, ha2.kept hW⟩
  have HRU : Hid (∀ W, Below w.heap.size w W → ZRow .i64 W (.slice au U.length cu) U ∧ ZRow .i64 W (.slice au2 U.length cu2) U) := fun W hW => ⟨hu.kept hW, hu2.kept hW⟩
  have eA : (A == A) = true := by simp
  have eU : (U == U) = true := by simp
  clear ha hu ha2 hu2
  go_enter Try.func17, Try.ntmps17
  go_wp2_with fail
  have hA := HRA.out _ (((Below.refl w.heap.size w).alloc (Nat.le_refl _) (.cells #[.slice aa A.length ca, .slice au U.length cu] 33)).alloc (by simp) (.cells #[.slice aa2 A.length ca2, .slice au2 U.length cu2] 33))
  refine (eqIntS_any _ _ A A _ hA.1 hA.2).mono ?_
  rintro e w1 ⟨rfl, hb1⟩
  rw [eA]
  obtain ⟨hk1, hk2, hbw⟩ := trn_below2 hb1
  have c1 := (trn_cells hk1).1.2
  have d1 := (trn_cells hk2).1.2
  clear hk1 hk2 hA
  have hU := HRU.out _ hbw
  go_wp2_with fail
  refine (eqIntS_any _ _ U U _ hU.1 hU.2).mono ?_
  rintro e w2 ⟨rfl, hb2⟩
  rw [eU]
  go_wp2_with fail
  go_ret
  exact ⟨rfl, hbw.trans (hb2.mono hbw.size)⟩
end Go.Proofs.Ytafbnhelcoofmaa
