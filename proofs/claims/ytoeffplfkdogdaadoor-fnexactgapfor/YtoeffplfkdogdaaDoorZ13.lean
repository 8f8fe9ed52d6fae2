import Derived.Test.YtoeffplfkdogdaaDoorZ11
import Derived.Test.YtoeffplfkdogdaaDoorZ12
import Derived.Laws.ResultCell
namespace Go.Proofs.YtoeffplfkdogdaaDoor
open Go.RowKit

/-- A gap. -/
def GapV (o n : ByteArray) (v : Value) : Value := .agg #[.string o, .string n, v]
theorem gap_new (w : World) (o : Obj) : (w.alloc o).heap[w.heap.size]? = some o := by unfold World.alloc; simp
theorem gap_cells {W : World} {b : Nat} {v0 v1 v2 : Value} {t : TypeId} (h : W.heap[b]? = some (.cells #[v0, v1, v2] t)) :
    (W.cell? ⟨b, 0, none⟩ = some v0 ∧ W.cell? ⟨b, 1, none⟩ = some v1 ∧ W.cell? ⟨b, 2, none⟩ = some v2) ∧ (W.frozen? ⟨b, 0, none⟩ = false ∧ W.frozen? ⟨b, 1, none⟩ = false ∧ W.frozen? ⟨b, 2, none⟩ = false) := by
  refine ⟨⟨?_, ?_, ?_⟩, ⟨?_, ?_, ?_⟩⟩
  all_goals first
    | (unfold World.cell?; rw [h]; rfl)
    | (unfold World.frozen?; rw [h]; simp)
theorem gap_below {w W : World} {a b c : Value} {t : TypeId} (hb : Below (w.alloc (.cells #[a, b, c] t)).heap.size (w.alloc (.cells #[a, b, c] t)) W) :
    W.heap[w.heap.size]? = some (.cells #[a, b, c] t) ∧ Below w.heap.size w W :=
  ⟨(hb.block _ (by simp)).trans (gap_new _ _), ((Below.refl w.heap.size w).alloc (Nat.le_refl _) _).trans (hb.mono (by simp))⟩
theorem gap_below2 {w W : World} {a b : Array Value} {t1 t2 : TypeId} (hb : Below ((w.alloc (.cells a t1)).alloc (.cells b t2)).heap.size ((w.alloc (.cells a t1)).alloc (.cells b t2)) W) :
    W.heap[w.heap.size]? = some (.cells a t1) ∧ W.heap[w.heap.size + 1]? = some (.cells b t2) ∧ Below w.heap.size w W := by
  have hA : Below (w.alloc (.cells a t1)).heap.size (w.alloc (.cells a t1)) W := ((Below.refl _ _).alloc (Nat.le_refl _) _).trans (hb.mono (by simp))
  have h2 : ((w.alloc (.cells a t1)).alloc (.cells b t2)).heap[w.heap.size + 1]? = some (.cells b t2) := by
    have h := gap_new (w.alloc (.cells a t1)) (.cells b t2)
    simpa using h
  refine ⟨?_, ?_, ((Below.refl w.heap.size w).alloc (Nat.le_refl _) _).trans (hA.mono (by simp))⟩
  · rw [hA.block _ (by simp)]; exact gap_new _ _
  · rw [hb.block _ (by simp)]; exact h2

set_option maxRecDepth 20000 in
set_option maxHeartbeats 400000 in
theorem szIntS_any (v : Value) (P : List Int) (left : Int) (w : World) (hr : ZRow .i64 w v P) (h0 : 0 ≤ left) (h1 : left ≤ 1048576) :
    Calls Tryd.prog 41 #[v, .int .i64 left] w fun e w' => (∃ q : Int, e = .returned (.int .i64 q) ∧ ((q = -1) ∨ (q = left - (P.length : Int) ∧ 0 ≤ q))) ∧ w' = w := by
  obtain ⟨a, cap, rfl, hcap, hmax, _⟩ := hr
  unfold maxLen at hmax
  by_cases g : left - (P.length : Int) < 0
  · go_enter Tryd.func41, Tryd.ntmps41
    go_wp2_with fail
    go_ret
    exact ⟨⟨-1, rfl, .inl rfl⟩, rfl⟩
  · go_enter Tryd.func41, Tryd.ntmps41
    go_wp2_with fail
    go_ret
    exact ⟨⟨_, rfl, .inr ⟨rfl, by omega⟩⟩, rfl⟩

set_option maxRecDepth 20000 in
set_option maxHeartbeats 1000000 in
theorem szGap_any (o n : ByteArray) (v : Value) (P : List Int) (left : Int) (w : World) (ho : o.size ≤ maxLen) (hn : n.size ≤ maxLen) (hr : ZRow .i64 w v P) (h0 : 0 ≤ left) (h1 : left ≤ 1048576) :
    Calls Tryd.prog 16 #[GapV o n v, .int .i64 left] w fun e w' => (∃ q : Int, e = .returned (.int .i64 q) ∧ (q = -1 ∨ (0 ≤ q ∧ q = left - (o.size : Int) - (n.size : Int) - (P.length : Int)))) ∧ Below w.heap.size w w' := by
  unfold GapV
  obtain ⟨a, cap, rfl, _, hca, _⟩ := id hr
  have hb0 : Below w.heap.size w (w.alloc (.cells #[.string o, .string n, .slice a P.length cap] 40)) := (Below.refl _ _).alloc (Nat.le_refl _) _
  have HRA : Hid (ZRow .i64 (w.alloc (.cells #[.string o, .string n, .slice a P.length cap] 40)) (.slice a P.length cap) P) := hr.kept hb0
  clear hr
  unfold maxLen at ho hn
  by_cases g1 : left - (o.size : Int) < 0
  · go_enter Tryd.func16, Tryd.ntmps16
    go_wp2_with fail
    go_ret
    exact ⟨⟨-1, rfl, .inl rfl⟩, hb0⟩
  · by_cases g2 : left - (o.size : Int) - (n.size : Int) < 0
    · go_enter Tryd.func16, Tryd.ntmps16
      go_wp2_with fail
      go_ret
      exact ⟨⟨-1, rfl, .inl rfl⟩, hb0⟩
    · go_enter Tryd.func16, Tryd.ntmps16
      go_wp2_with fail
      refine (szIntS_any _ P (left - (o.size : Int) - (n.size : Int)) _ HRA.out (by omega) (by omega)).mono ?_
      rintro e w1 ⟨⟨q1, rfl, hq1⟩, rfl⟩
      rcases hq1 with rfl | ⟨hq1, hp1⟩
      · go_wp2_with fail
        go_ret
        exact ⟨⟨-1, rfl, .inl rfl⟩, hb0⟩
      · have HQ1 : Hid (q1 = left - (o.size : Int) - (n.size : Int) - (P.length : Int)) := hq1
        clear hq1
        go_wp2_with fail
        go_ret
        exact ⟨⟨q1, rfl, .inr ⟨hp1, HQ1.out⟩⟩, hb0⟩

set_option maxRecDepth 20000 in
set_option maxHeartbeats 1000000 in
theorem eqGap_same (o n : ByteArray) (v v2 : Value) (P : List Int) (w : World) (ha : ZRow .i64 w v P) (ha2 : ZRow .i64 w v2 P) :
    Calls Tryd.prog 9 #[GapV o n v, GapV o n v2] w fun e w' => e = .returned (.bool true) ∧ Below w.heap.size w w' := by
  unfold GapV
  obtain ⟨aa, ca, rfl, _, hca, _⟩ := id ha
  obtain ⟨aa2, ca2, rfl, _, hca2, _⟩ := id ha2
  have hb0 : Below w.heap.size w ((w.alloc (.cells #[.string o, .string n, .slice aa P.length ca] 26)).alloc (.cells #[.string o, .string n, .slice aa2 P.length ca2] 26)) := ((Below.refl _ _).alloc (Nat.le_refl _) _).alloc (by simp) _
  have HEQ : Hid (Calls Tryd.prog 31 #[.slice aa P.length ca, .slice aa2 P.length ca2] ((w.alloc (.cells #[.string o, .string n, .slice aa P.length ca] 26)).alloc (.cells #[.string o, .string n, .slice aa2 P.length ca2] 26)) fun e w' => e = .returned (.bool true) ∧ Below ((w.alloc (.cells #[.string o, .string n, .slice aa P.length ca] 26)).alloc (.cells #[.string o, .string n, .slice aa2 P.length ca2] 26)).heap.size ((w.alloc (.cells #[.string o, .string n, .slice aa P.length ca] 26)).alloc (.cells #[.string o, .string n, .slice aa2 P.length ca2] 26)) w') := by
    have h := eqIntS_any _ _ P P _ (ha.kept hb0) (ha2.kept hb0)
    rw [show (P == P) = true by simp] at h
    exact h
  clear ha ha2
  go_enter Tryd.func9, Tryd.ntmps9
  go_wp2_with fail
  refine HEQ.out.mono ?_
  rintro e w1 ⟨rfl, hb1⟩
  obtain ⟨_, _, hbw⟩ := gap_below2 hb1
  go_wp2_with fail
  go_ret
  exact ⟨rfl, hbw⟩
theorem gap_heap3 (w : World) (a b c : Obj) : (((w.alloc a).alloc b).alloc c).heap[w.heap.size + 1 + 1]? = some c := by
  have h := gap_new ((w.alloc a).alloc b) c
  simpa using h
theorem gap_box3 {w W : World} {a b c : Array Value} {t1 t2 t3 : TypeId} (hb : Below (((w.alloc (.cells a t1)).alloc (.cells b t2)).alloc (.cells c t3)).heap.size (((w.alloc (.cells a t1)).alloc (.cells b t2)).alloc (.cells c t3)) W) :
    (∀ j, W.cell? ⟨w.heap.size, j, none⟩ = a[j]?) ∧ (∀ j, W.cell? ⟨w.heap.size + 1 + 1, j, none⟩ = c[j]?) ∧ (∀ j, W.frozen? ⟨w.heap.size + 1 + 1, j, none⟩ = false) ∧ (∀ j, W.cell? ⟨w.heap.size + 1, j, none⟩ = b[j]?) ∧ (∀ j, W.frozen? ⟨w.heap.size + 1, j, none⟩ = false) ∧ w.heap.size + 1 + 1 < W.heap.size ∧ W.heap[w.heap.size + 1]? = some (.cells b t2) ∧ Below w.heap.size w W := by
  have hA : Below (w.alloc (.cells a t1)).heap.size (w.alloc (.cells a t1)) W := (((Below.refl _ _).alloc (Nat.le_refl _) _).alloc (by simp) _).trans (hb.mono (by simp))
  have hB : Below ((w.alloc (.cells a t1)).alloc (.cells b t2)).heap.size ((w.alloc (.cells a t1)).alloc (.cells b t2)) W := ((Below.refl _ _).alloc (Nat.le_refl _) _).trans (hb.mono (by simp))
  have h2 : ((w.alloc (.cells a t1)).alloc (.cells b t2)).heap[w.heap.size + 1]? = some (.cells b t2) := by
    have h := gap_new (w.alloc (.cells a t1)) (.cells b t2)
    simpa using h
  refine ⟨fun j => ?_, fun j => ?_, fun j => ?_, fun j => ?_, fun j => ?_, Nat.lt_of_lt_of_le (by simp) hb.size, by rw [hB.block _ (by simp)]; exact h2, ((Below.refl w.heap.size w).alloc (Nat.le_refl _) _).trans (hA.mono (by simp))⟩
  · rw [hA.cell (p := ⟨w.heap.size, j, none⟩) (by simp)]
    unfold World.cell?
    rw [gap_new]; rfl
  · rw [hb.cell (p := ⟨w.heap.size + 1 + 1, j, none⟩) (by simp)]
    unfold World.cell?
    rw [gap_heap3]; rfl
  · rw [hb.frozen (p := ⟨w.heap.size + 1 + 1, j, none⟩) (by simp)]
    unfold World.frozen?
    rw [gap_heap3]; simp
  · rw [hB.cell (p := ⟨w.heap.size + 1, j, none⟩) (by simp)]
    unfold World.cell?
    rw [h2]; rfl
  · rw [hB.frozen (p := ⟨w.heap.size + 1, j, none⟩) (by simp)]
    unfold World.frozen?
    rw [h2]; simp

def gput3 (w : World) (g : Nat) (v0 v1 v2 : Value) : World := ((w.setCell ⟨g, 0, none⟩ v0).setCell ⟨g, 1, none⟩ v1).setCell ⟨g, 2, none⟩ v2
theorem gput3_heap {w : World} {g : Nat} {t : TypeId} {v0 v1 v2 u0 u1 u2 : Value} (h : w.heap[g]? = some (.cells #[u0, u1, u2] t)) : (gput3 w g v0 v1 v2).heap[g]? = some (.cells #[v0, v1, v2] t) := by
  have e0 := heap_setCell_same _ _ 0 _ _ v0 h
  have e1 := heap_setCell_same _ _ 1 _ _ v1 e0
  have e2 := heap_setCell_same _ _ 2 _ _ v2 e1
  unfold gput3
  simpa using e2
theorem ZSRow.far {w : World} {g g' : Nat} {zs : List Int} (h : ZSRow w g zs) (hne : g' ≠ g) {k : Nat} (v : Value) : ZSRow (w.setCell ⟨g', k, none⟩ v) g zs := by
  refine ⟨by simpa using h.1, fun j hj => ⟨?_, by simpa using (h.2 j hj).2⟩⟩
  rw [World.cell?_setCell_other _ _ _ _ (show (⟨g', k, none⟩ : Addr) ≠ ⟨g, j, none⟩ by intro e; cases e; exact hne rfl)]
  exact (h.2 j hj).1
theorem gput3_far {w : World} {g g' : Nat} {v0 v1 v2 : Value} {L : List Int} (h : ZSRow w g L) (hne : g' ≠ g) : ZSRow (gput3 w g' v0 v1 v2) g L := ((h.far hne _).far hne _).far hne _
theorem gput3_below {B : Nat} {a w : World} (h : Below B a w) {g : Nat} (hg : B ≤ g) (v0 v1 v2 : Value) : Below B a (gput3 w g v0 v1 v2) :=
  ((h.setCell (p := ⟨g, 0, none⟩) hg _).setCell (p := ⟨g, 1, none⟩) hg _).setCell (p := ⟨g, 2, none⟩) hg _

set_option maxRecDepth 20000 in
set_option maxHeartbeats 2000000 in
theorem toGap_any (o n : ByteArray) (v : Value) (P : List Int) (w : World) (hr : ZRow .i64 w v P) (hl : P.length ≤ 1048576) :
    Calls Tryd.prog 22 #[GapV o n v] w fun e w' => (∃ g, e = .returned (GapV o n (.slice (some ⟨g, 0, none⟩) P.length P.length)) ∧ w.heap.size ≤ g ∧ ZSRow w' g P) ∧ Below w.heap.size w w' := by
  unfold GapV
  obtain ⟨aa, ca, rfl, _, hca, _⟩ := id hr
  have HRA : Hid (∀ W, Below w.heap.size w W → ZRow .i64 W (.slice aa P.length ca) P) := fun W hW => hr.kept hW
  clear hr
  go_enter Tryd.func22, Tryd.ntmps22
  go_wp2_with fail
  refine (toIntS_any _ P _ (HRA.out _ ((((Below.refl w.heap.size w).alloc (Nat.le_refl _) _).alloc (by simp) _).alloc (by simp; omega) _)) hl).mono ?_
  rintro e w1 ⟨rfl, hq1, hb1⟩
  obtain ⟨c, d, fz, r, rz, hsz, hblk, hbw⟩ := gap_box3 hb1
  have d0 := d 0
  have d1 := d 1
  have d2 := d 2
  have fz2 := fz 2
  have r0 := r 0
  have r1 := r 1
  have r2 := r 2
  have s0 := rz 0
  have s1 := rz 1
  have s2 := rz 2
  simp at d0 d1 d2 r0 r1 r2
  have HQ : Hid (ZSRow w1 (w.heap.size + 1 + 1 + 1) P) := by
    have h : ZSRow w1 (w.heap.size + 1 + 1 + 1) P := by simpa using hq1
    exact h
  have HK : Hid (w1.heap[w.heap.size + 1]? = some (.cells #[.string ⟨#[]⟩, .string ⟨#[]⟩, .slice none 0 0] 26)) := hblk
  clear c d fz r rz hq1 hblk
  go_wp2_with fail
  (try simp only [Exit.inBlock, Exit.then])
  refine bodyPost_ret (results_cell_row rfl _ _ (w.heap.size + 1) 26 #[.string o, .string n, .slice (some ⟨w.heap.size + 1 + 1 + 1, 0, none⟩) P.length P.length] (0, 0) _ rfl ?_ Tryd.underlying26 rfl (by kernel_rfl)) rfl ⟨⟨w.heap.size + 1 + 1 + 1, rfl, by omega, ?_⟩, ?_⟩
  · exact gput3_heap (by rw [heap_setCell_other _ _ _ _ (show w.heap.size + 1 ≠ w.heap.size + 1 + 1 by omega)]; exact HK.out)
  · exact gput3_far (HQ.out.far (by omega) _) (by omega)
  · exact gput3_below (hbw.setCell (p := ⟨w.heap.size + 1 + 1, 2, none⟩) (by show w.heap.size ≤ w.heap.size + 1 + 1; omega) _) (by omega) _ _ _
end Go.Proofs.YtoeffplfkdogdaaDoor
