import Derived.Test.YtbgkocjpenkijaaGreatDoorSMsgG
import Derived.Test.YtbgkocjpenkijaaGreatDoorLRecE
namespace Go.Proofs.YtbgkocjpenkijaaGreatDoor
open Go.RowKit

set_option maxRecDepth 20000 in
set_option maxHeartbeats 2000000 in
theorem szMessage_any (mi : Int) (reply cutm : Bool) (code : Int) (nm : ByteArray) (ty : Int) (va vu : Value) (A U : List (List UInt8 × Int × Int × List UInt8)) (left : Int) (w : World) (hn : nm.size ≤ maxLen) (ha : RRow w va A) (hu : RRow w vu U)
    (hxa : Hid (∀ x ∈ A, x.1.length ≤ maxLen ∧ x.2.2.2.length ≤ maxLen)) (hxu : Hid (∀ x ∈ U, x.1.length ≤ maxLen ∧ x.2.2.2.length ≤ maxLen)) (h0 : 0 ≤ left) (h1 : left ≤ 1048576) :
    Calls Tryz.prog 16 #[MsgV mi reply cutm code nm ty va vu, .int .i64 left] w fun e w' => (∃ q : Int, e = .returned (.int .i64 q) ∧ (q = -1 ∨ (0 ≤ q ∧ q = left - (nm.size : Int) - (A.length : Int) - (wtR A : Int) - (U.length : Int) - (wtR U : Int)))) ∧ Below w.heap.size w w' := by
  unfold MsgV
  obtain ⟨aa, ca, rfl, _, hca, _⟩ := id ha
  obtain ⟨au, cu, rfl, _, hcu, _⟩ := id hu
  have HRA : Hid (∀ W, Below w.heap.size w W → RRow W (.slice aa A.length ca) A) := fun W hW => ha.kept hW
  have HRU : Hid (∀ W, Below w.heap.size w W → RRow W (.slice au U.length cu) U) := fun W hW => hu.kept hW
  clear ha hu
  unfold maxLen at hn
  by_cases g1 : left - (nm.size : Int) < 0
  · go_enter Tryz.func16, Tryz.ntmps16
    go_wp2_with fail
    go_ret
    exact ⟨⟨-1, rfl, .inl rfl⟩, (Below.refl w.heap.size w).alloc (Nat.le_refl _) _⟩
  · go_enter Tryz.func16, Tryz.ntmps16
    go_wp2_with fail
    refine (szRecordS_any _ A (left - (nm.size : Int)) _ (HRA.out _ ((Below.refl w.heap.size w).alloc (Nat.le_refl _) _)) hxa (by omega) (by omega)).mono ?_
    rintro e w1 ⟨⟨q1, rfl, hq1⟩, hb1⟩
    obtain ⟨⟨_, _, _, _, _, _, c6, c7⟩, hbw⟩ := box8 hb1
    rcases hq1 with ⟨rfl, _⟩ | ⟨hq1, hp1⟩
    · go_wp2_with fail
      go_ret
      exact ⟨⟨-1, rfl, .inl rfl⟩, hbw⟩
    · have HQ1 : Hid (q1 = left - (nm.size : Int) - (A.length : Int) - (wtR A : Int)) := hq1
      have hle : q1 ≤ 1048576 := by omega
      clear hq1
      go_wp2_with fail
      refine (szRecordS_any _ U q1 _ (HRU.out _ hbw) hxu hp1 hle).mono ?_
      rintro e w2 ⟨⟨q2, rfl, hq2⟩, hb2⟩
      have hbw2 := hbw.trans (hb2.mono hbw.size)
      rcases hq2 with ⟨rfl, _⟩ | ⟨hq2, hp2⟩
      · go_wp2_with fail
        go_ret
        exact ⟨⟨-1, rfl, .inl rfl⟩, hbw2⟩
      · have HQ2 : Hid (q2 = q1 - (U.length : Int) - (wtR U : Int)) := hq2
        clear hq2
        go_wp2_with fail
        go_ret
        exact ⟨⟨q2, rfl, .inr ⟨hp2, by have h1 := HQ1.out; have h2 := HQ2.out; omega⟩⟩, hbw2⟩
theorem blk_new (w : World) (o : Obj) : (w.alloc o).heap[w.heap.size]? = some o := by
  show (w.heap.push o)[w.heap.size]? = some o
  simp
theorem heap3_new (w : World) (a b c : Obj) : (((w.alloc a).alloc b).alloc c).heap[w.heap.size + 1 + 1]? = some c := by
  have h := blk_new ((w.alloc a).alloc b) c
  simpa using h
theorem QRow.far {w : World} {g g' k : Nat} {L : List (List UInt8 × Int × Int × List UInt8)} (h : QRow w g L) (hne : g' ≠ g) (u : Value) : QRow (w.setCell ⟨g', k, none⟩ u) g L := by
  refine ⟨by simpa using h.1, fun j hj => ⟨?_, ?_⟩⟩
  · have h0 := (h.2 j hj).1
    have n : ∀ o, (⟨g', k, none⟩ : Addr) ≠ ⟨g, o, none⟩ := fun o e => hne (by injection e)
    unfold RecAt at h0 ⊢
    rw [World.cell?_setCell_other _ _ _ _ (n _), World.cell?_setCell_other _ _ _ _ (n _), World.cell?_setCell_other _ _ _ _ (n _), World.cell?_setCell_other _ _ _ _ (n _)]
    exact h0
  · have h0 := (h.2 j hj).2
    unfold FzAt at h0 ⊢
    simpa using h0
theorem box3 {w W : World} {a b c : Array Value} {t1 t2 t3 : TypeId} (hb : Below (((w.alloc (.cells a t1)).alloc (.cells b t2)).alloc (.cells c t3)).heap.size (((w.alloc (.cells a t1)).alloc (.cells b t2)).alloc (.cells c t3)) W) :
    (∀ j, W.cell? ⟨w.heap.size, j, none⟩ = a[j]?) ∧ (∀ j, W.cell? ⟨w.heap.size + 1 + 1, j, none⟩ = c[j]?) ∧ (∀ j, W.frozen? ⟨w.heap.size + 1 + 1, j, none⟩ = false) ∧ (∀ j, W.cell? ⟨w.heap.size + 1, j, none⟩ = b[j]?) ∧ (∀ j, W.frozen? ⟨w.heap.size + 1, j, none⟩ = false) ∧ w.heap.size + 1 + 1 < W.heap.size ∧ W.heap[w.heap.size + 1]? = some (.cells b t2) ∧ Below w.heap.size w W := by
  have hA : Below (w.alloc (.cells a t1)).heap.size (w.alloc (.cells a t1)) W := (((Below.refl _ _).alloc (Nat.le_refl _) _).alloc (by simp) _).trans (hb.mono (by simp))
  have hB : Below ((w.alloc (.cells a t1)).alloc (.cells b t2)).heap.size ((w.alloc (.cells a t1)).alloc (.cells b t2)) W := ((Below.refl _ _).alloc (Nat.le_refl _) _).trans (hb.mono (by simp))
  have h2 : ((w.alloc (.cells a t1)).alloc (.cells b t2)).heap[w.heap.size + 1]? = some (.cells b t2) := by
    have h := blk_new (w.alloc (.cells a t1)) (.cells b t2)
    simpa using h
  refine ⟨fun j => ?_, fun j => ?_, fun j => ?_, fun j => ?_, fun j => ?_, Nat.lt_of_lt_of_le (by simp) hb.size, by rw [hB.block _ (by simp)]; exact h2, ((Below.refl w.heap.size w).alloc (Nat.le_refl _) _).trans (hA.mono (by simp))⟩
  · rw [hA.cell (p := ⟨w.heap.size, j, none⟩) (by simp)]
    unfold World.cell?
    rw [blk_new]; rfl
  · rw [hb.cell (p := ⟨w.heap.size + 1 + 1, j, none⟩) (by simp)]
    unfold World.cell?
    rw [heap3_new]; rfl
  · rw [hb.frozen (p := ⟨w.heap.size + 1 + 1, j, none⟩) (by simp)]
    unfold World.frozen?
    rw [heap3_new]; simp
  · rw [hB.cell (p := ⟨w.heap.size + 1, j, none⟩) (by simp)]
    unfold World.cell?
    rw [h2]; rfl
  · rw [hB.frozen (p := ⟨w.heap.size + 1, j, none⟩) (by simp)]
    unfold World.frozen?
    rw [h2]; simp

/-- Eight cells stored. -/
def put8 (w : World) (g : Nat) (v0 v1 v2 v3 v4 v5 v6 v7 : Value) : World := ((((((((w.setCell ⟨g, 0, none⟩ v0).setCell ⟨g, 1, none⟩ v1).setCell ⟨g, 2, none⟩ v2).setCell ⟨g, 3, none⟩ v3).setCell ⟨g, 4, none⟩ v4).setCell ⟨g, 5, none⟩ v5).setCell ⟨g, 6, none⟩ v6).setCell ⟨g, 7, none⟩ v7)
theorem put8_heap {w : World} {g : Nat} {t : TypeId} {v0 v1 v2 v3 v4 v5 v6 v7 u0 u1 u2 u3 u4 u5 u6 u7 : Value} (h : w.heap[g]? = some (.cells #[u0, u1, u2, u3, u4, u5, u6, u7] t)) : (put8 w g v0 v1 v2 v3 v4 v5 v6 v7).heap[g]? = some (.cells #[v0, v1, v2, v3, v4, v5, v6, v7] t) := by
  unfold put8
  have e0 := heap_setCell_same _ _ 0 _ _ v0 h
  have e1 := heap_setCell_same _ _ 1 _ _ v1 e0
  have e2 := heap_setCell_same _ _ 2 _ _ v2 e1
  have e3 := heap_setCell_same _ _ 3 _ _ v3 e2
  have e4 := heap_setCell_same _ _ 4 _ _ v4 e3
  have e5 := heap_setCell_same _ _ 5 _ _ v5 e4
  have e6 := heap_setCell_same _ _ 6 _ _ v6 e5
  have e7 := heap_setCell_same _ _ 7 _ _ v7 e6
  simpa using e7
theorem put8_far {w : World} {g g' : Nat} {v0 v1 v2 v3 v4 v5 v6 v7 : Value} {L : List (List UInt8 × Int × Int × List UInt8)} (h : QRow w g L) (hne : g' ≠ g) : QRow (put8 w g' v0 v1 v2 v3 v4 v5 v6 v7) g L :=
  (((((((h.far hne _).far hne _).far hne _).far hne _).far hne _).far hne _).far hne _).far hne _
theorem put8_below {B : Nat} {a w : World} (h : Below B a w) {g : Nat} (hg : B ≤ g) (v0 v1 v2 v3 v4 v5 v6 v7 : Value) : Below B a (put8 w g v0 v1 v2 v3 v4 v5 v6 v7) :=
  (((((((h.setCell (p := ⟨g, 0, none⟩) hg _).setCell (p := ⟨g, 1, none⟩) hg _).setCell (p := ⟨g, 2, none⟩) hg _).setCell (p := ⟨g, 3, none⟩) hg _).setCell (p := ⟨g, 4, none⟩) hg _).setCell (p := ⟨g, 5, none⟩) hg _).setCell (p := ⟨g, 6, none⟩) hg _).setCell (p := ⟨g, 7, none⟩) hg _

set_option maxRecDepth 20000 in
set_option maxHeartbeats 2000000 in
theorem toMessage_any (mi : Int) (reply cutm : Bool) (code : Int) (nm : ByteArray) (ty : Int) (va vu : Value) (A U : List (List UInt8 × Int × Int × List UInt8)) (w : World) (ha : RRow w va A) (hu : RRow w vu U) (hla : A.length ≤ 1048576) (hlu : U.length ≤ 1048576) :
    Calls Tryz.prog 18 #[MsgV mi reply cutm code nm ty va vu] w fun e w' => (∃ g1 g2, e = .returned (MsgV mi reply cutm code nm ty (.slice (some ⟨g1, 0, none⟩) A.length A.length) (.slice (some ⟨g2, 0, none⟩) U.length U.length)) ∧ w.heap.size ≤ g1 ∧ g1 < g2 ∧ QRow w' g1 A ∧ QRow w' g2 U) ∧ Below w.heap.size w w' := by
  unfold MsgV
  obtain ⟨aa, ca, rfl, _, hca, _⟩ := id ha
  obtain ⟨au, cu, rfl, _, hcu, _⟩ := id hu
  have HRA : Hid (∀ W, Below w.heap.size w W → RRow W (.slice aa A.length ca) A) := fun W hW => ha.kept hW
  have HRU : Hid (∀ W, Below w.heap.size w W → RRow W (.slice au U.length cu) U) := fun W hW => hu.kept hW
  clear ha hu
  go_enter Tryz.func18, Tryz.ntmps18
  go_wp2_with fail
  refine (toRecordS_any _ A _ (HRA.out _ ((((Below.refl w.heap.size w).alloc (Nat.le_refl _) _).alloc (by simp) _).alloc (by simp; omega) _)) hla).mono ?_
  rintro e w1 ⟨rfl, hq1, hb1⟩
  obtain ⟨c, d, fz, r, rz, hsz, hblk, hbw⟩ := box3 hb1
  have c7 := c 7
  have d6 := d 6
  have fz6 := fz 6
  simp at d6 c7
  have HD : Hid (∀ j, w1.cell? ⟨w.heap.size + 1 + 1, j, none⟩ = #[Value.int .i64 mi, .bool reply, .bool cutm, .int .i64 code, .string nm, .int .i64 ty, .slice none 0 0, .slice none 0 0][j]?) := d
  have HR : Hid (∀ j, w1.cell? ⟨w.heap.size + 1, j, none⟩ = #[Value.int .i64 0, .bool false, .bool false, .int .i64 0, .string ⟨#[]⟩, .int .i64 0, .slice none 0 0, .slice none 0 0][j]?) := r
  have HF : Hid (∀ j, w1.frozen? ⟨w.heap.size + 1 + 1, j, none⟩ = false) := fz
  have HG : Hid (∀ j, w1.frozen? ⟨w.heap.size + 1, j, none⟩ = false) := rz
  clear c d fz r rz
  go_wp2_with fail
  refine (toRecordS_any _ U _ (HRU.out _ (hbw.setCell (p := ⟨w.heap.size + 1 + 1, 6, none⟩) (by show w.heap.size ≤ w.heap.size + 1 + 1; omega) _)) hlu).mono ?_
  rintro e w2 ⟨rfl, hq2, hb2⟩
  have d0 : w2.cell? ⟨w.heap.size + 1 + 1, 0, none⟩ = some (.int .i64 mi) := by
    rw [hb2.cell (p := ⟨w.heap.size + 1 + 1, 0, none⟩) (by simpa using hsz)]
    rw [World.cell?_setCell_other _ _ _ _ (by intro h; injection h with _ h; cases h)]; exact HD.out 0
  have d1 : w2.cell? ⟨w.heap.size + 1 + 1, 1, none⟩ = some (.bool reply) := by
    rw [hb2.cell (p := ⟨w.heap.size + 1 + 1, 1, none⟩) (by simpa using hsz)]
    rw [World.cell?_setCell_other _ _ _ _ (by intro h; injection h with _ h; cases h)]; exact HD.out 1
  have d2 : w2.cell? ⟨w.heap.size + 1 + 1, 2, none⟩ = some (.bool cutm) := by
    rw [hb2.cell (p := ⟨w.heap.size + 1 + 1, 2, none⟩) (by simpa using hsz)]
    rw [World.cell?_setCell_other _ _ _ _ (by intro h; injection h with _ h; cases h)]; exact HD.out 2
  have d3 : w2.cell? ⟨w.heap.size + 1 + 1, 3, none⟩ = some (.int .i64 code) := by
    rw [hb2.cell (p := ⟨w.heap.size + 1 + 1, 3, none⟩) (by simpa using hsz)]
    rw [World.cell?_setCell_other _ _ _ _ (by intro h; injection h with _ h; cases h)]; exact HD.out 3
  have d4 : w2.cell? ⟨w.heap.size + 1 + 1, 4, none⟩ = some (.string nm) := by
    rw [hb2.cell (p := ⟨w.heap.size + 1 + 1, 4, none⟩) (by simpa using hsz)]
    rw [World.cell?_setCell_other _ _ _ _ (by intro h; injection h with _ h; cases h)]; exact HD.out 4
  have d5 : w2.cell? ⟨w.heap.size + 1 + 1, 5, none⟩ = some (.int .i64 ty) := by
    rw [hb2.cell (p := ⟨w.heap.size + 1 + 1, 5, none⟩) (by simpa using hsz)]
    rw [World.cell?_setCell_other _ _ _ _ (by intro h; injection h with _ h; cases h)]; exact HD.out 5
  have d6 : w2.cell? ⟨w.heap.size + 1 + 1, 6, none⟩ = some (.slice (some ⟨w.heap.size + 1 + 1 + 1, 0, none⟩) A.length A.length) := by
    rw [hb2.cell (p := ⟨w.heap.size + 1 + 1, 6, none⟩) (by simpa using hsz)]
    exact World.cell?_setCell_same _ _ _ (HD.out 6)
  have d7 : w2.cell? ⟨w.heap.size + 1 + 1, 7, none⟩ = some (.slice none 0 0) := by
    rw [hb2.cell (p := ⟨w.heap.size + 1 + 1, 7, none⟩) (by simpa using hsz)]
    rw [World.cell?_setCell_other _ _ _ _ (by intro h; injection h with _ h; cases h)]; exact HD.out 7
  have r0 : w2.cell? ⟨w.heap.size + 1, 0, none⟩ = some (.int .i64 0) := by
    rw [hb2.cell (p := ⟨w.heap.size + 1, 0, none⟩) (by simp; omega), World.cell?_setCell_other _ _ _ _ (by intro h; injection h with h _; omega)]; exact HR.out 0
  have s0 : w2.frozen? ⟨w.heap.size + 1, 0, none⟩ = false := by
    rw [hb2.frozen (p := ⟨w.heap.size + 1, 0, none⟩) (by simp; omega)]; simpa using HG.out 0
  have r1 : w2.cell? ⟨w.heap.size + 1, 1, none⟩ = some (.bool false) := by
    rw [hb2.cell (p := ⟨w.heap.size + 1, 1, none⟩) (by simp; omega), World.cell?_setCell_other _ _ _ _ (by intro h; injection h with h _; omega)]; exact HR.out 1
  have s1 : w2.frozen? ⟨w.heap.size + 1, 1, none⟩ = false := by
    rw [hb2.frozen (p := ⟨w.heap.size + 1, 1, none⟩) (by simp; omega)]; simpa using HG.out 1
  have r2 : w2.cell? ⟨w.heap.size + 1, 2, none⟩ = some (.bool false) := by
    rw [hb2.cell (p := ⟨w.heap.size + 1, 2, none⟩) (by simp; omega), World.cell?_setCell_other _ _ _ _ (by intro h; injection h with h _; omega)]; exact HR.out 2
  have s2 : w2.frozen? ⟨w.heap.size + 1, 2, none⟩ = false := by
    rw [hb2.frozen (p := ⟨w.heap.size + 1, 2, none⟩) (by simp; omega)]; simpa using HG.out 2
  have r3 : w2.cell? ⟨w.heap.size + 1, 3, none⟩ = some (.int .i64 0) := by
    rw [hb2.cell (p := ⟨w.heap.size + 1, 3, none⟩) (by simp; omega), World.cell?_setCell_other _ _ _ _ (by intro h; injection h with h _; omega)]; exact HR.out 3
  have s3 : w2.frozen? ⟨w.heap.size + 1, 3, none⟩ = false := by
    rw [hb2.frozen (p := ⟨w.heap.size + 1, 3, none⟩) (by simp; omega)]; simpa using HG.out 3
  have r4 : w2.cell? ⟨w.heap.size + 1, 4, none⟩ = some (.string ⟨#[]⟩) := by
    rw [hb2.cell (p := ⟨w.heap.size + 1, 4, none⟩) (by simp; omega), World.cell?_setCell_other _ _ _ _ (by intro h; injection h with h _; omega)]; exact HR.out 4
  have s4 : w2.frozen? ⟨w.heap.size + 1, 4, none⟩ = false := by
    rw [hb2.frozen (p := ⟨w.heap.size + 1, 4, none⟩) (by simp; omega)]; simpa using HG.out 4
  have r5 : w2.cell? ⟨w.heap.size + 1, 5, none⟩ = some (.int .i64 0) := by
    rw [hb2.cell (p := ⟨w.heap.size + 1, 5, none⟩) (by simp; omega), World.cell?_setCell_other _ _ _ _ (by intro h; injection h with h _; omega)]; exact HR.out 5
  have s5 : w2.frozen? ⟨w.heap.size + 1, 5, none⟩ = false := by
    rw [hb2.frozen (p := ⟨w.heap.size + 1, 5, none⟩) (by simp; omega)]; simpa using HG.out 5
  have r6 : w2.cell? ⟨w.heap.size + 1, 6, none⟩ = some (.slice none 0 0) := by
    rw [hb2.cell (p := ⟨w.heap.size + 1, 6, none⟩) (by simp; omega), World.cell?_setCell_other _ _ _ _ (by intro h; injection h with h _; omega)]; exact HR.out 6
  have s6 : w2.frozen? ⟨w.heap.size + 1, 6, none⟩ = false := by
    rw [hb2.frozen (p := ⟨w.heap.size + 1, 6, none⟩) (by simp; omega)]; simpa using HG.out 6
  have r7 : w2.cell? ⟨w.heap.size + 1, 7, none⟩ = some (.slice none 0 0) := by
    rw [hb2.cell (p := ⟨w.heap.size + 1, 7, none⟩) (by simp; omega), World.cell?_setCell_other _ _ _ _ (by intro h; injection h with h _; omega)]; exact HR.out 7
  have s7 : w2.frozen? ⟨w.heap.size + 1, 7, none⟩ = false := by
    rw [hb2.frozen (p := ⟨w.heap.size + 1, 7, none⟩) (by simp; omega)]; simpa using HG.out 7
  have f7 : w2.frozen? ⟨w.heap.size + 1 + 1, 7, none⟩ = false := by
    rw [hb2.frozen (p := ⟨w.heap.size + 1 + 1, 7, none⟩) (by simpa using hsz)]; simpa using HF.out 7
  have HK : Hid (w2.heap[w.heap.size + 1]? = some (.cells #[Value.int .i64 0, .bool false, .bool false, .int .i64 0, .string ⟨#[]⟩, .int .i64 0, .slice none 0 0, .slice none 0 0] 25)) := by
    show w2.heap[w.heap.size + 1]? = _
    rw [hb2.block _ (by simp; omega), heap_setCell_other _ _ _ _ (show w.heap.size + 1 ≠ w.heap.size + 1 + 1 by omega)]; exact hblk
  have HQ1 : Hid (QRow w1 (w.heap.size + 1 + 1 + 1) A) := by
    have h : QRow w1 (w.heap.size + 1 + 1 + 1) A := by simpa using hq1
    exact h
  have HQ2 : Hid (QRow w2 w1.heap.size U) := by
    have h : QRow w2 w1.heap.size U := by simpa using hq2
    exact h
  have HQA : Hid (QRow w2 (w.heap.size + 1 + 1 + 1) A) := (HQ1.out.far (by omega) _).kept hb2
  have HBW : Hid (Below w.heap.size w w2) := by
    have h : Below w.heap.size w w2 := (hbw.setCell (p := ⟨w.heap.size + 1 + 1, 6, none⟩) (by show w.heap.size ≤ w.heap.size + 1 + 1; omega) _).trans (hb2.mono (by simpa using hbw.size))
    exact h
  clear hblk hq1 hq2
  go_wp2_with fail
  (try simp only [Exit.inBlock, Exit.then])
  refine bodyPost_ret (results_cell_row rfl _ _ (w.heap.size + 1) 25 #[.int .i64 mi, .bool reply, .bool cutm, .int .i64 code, .string nm, .int .i64 ty, .slice (some ⟨w.heap.size + 1 + 1 + 1, 0, none⟩) A.length A.length, .slice (some ⟨w1.heap.size, 0, none⟩) U.length U.length] (0, 0) _ rfl ?_ Tryz.underlying25 rfl (by kernel_rfl)) rfl ⟨⟨_, _, rfl, ?_, HQ1.out.1, ?_, ?_⟩, ?_⟩
  · exact put8_heap (by rw [heap_setCell_other _ _ _ _ (show w.heap.size + 1 ≠ w.heap.size + 1 + 1 by omega)]; exact HK.out)
  · omega
  · exact put8_far (HQA.out.far (by omega) _) (by omega)
  · exact put8_far (HQ2.out.far (by omega) _) (by omega)
  · exact put8_below (HBW.out.setCell (p := ⟨w.heap.size + 1 + 1, 7, none⟩) (by show w.heap.size ≤ w.heap.size + 1 + 1; omega) _) (by omega) _ _ _ _ _ _ _ _
end Go.Proofs.YtbgkocjpenkijaaGreatDoor
