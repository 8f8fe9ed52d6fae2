import Derived.Test.YtpghpeombednkaaGreatDoorZ15
import Derived.Test.YtpghpeombednkaaGreatDoorZ25
import Derived.Test.YtpghpeombednkaaGreatDoorZ24
import Derived.Test.YtpghpeombednkaaGreatDoorZ09
import Derived.Laws.ResultCell
import Derived.Test.YtpghpeombednkaaGreatDoorZ12
namespace Go.Proofs.YtpghpeombednkaaGreatDoor
open Go.RowKit

set_option maxRecDepth 20000 in
set_option maxHeartbeats 2000000 in
theorem szMessage_any (mi : Int) (reply cutm : Bool) (code : Int) (nm : ByteArray) (ty : Int) (va vu : Value) (A U : List (List UInt8 × Int × Int × List UInt8)) (left : Int) (w : World) (hn : nm.size ≤ maxLen) (ha : RRow w va A) (hu : RRow w vu U)
    (hxa : Hid (∀ x ∈ A, x.1.length ≤ maxLen ∧ x.2.2.2.length ≤ maxLen)) (hxu : Hid (∀ x ∈ U, x.1.length ≤ maxLen ∧ x.2.2.2.length ≤ maxLen)) (h0 : 0 ≤ left) (h1 : left ≤ 1048576) :
    Calls Tryz.prog 19 #[MsgV mi reply cutm code nm ty va vu, .int .i64 left] w fun e w' => (∃ q : Int, e = .returned (.int .i64 q) ∧ (q = -1 ∨ (0 ≤ q ∧ q = left - (nm.size : Int) - (A.length : Int) - (wtR A : Int) - (U.length : Int) - (wtR U : Int)))) ∧ Below w.heap.size w w' := by
  unfold MsgV
  obtain ⟨aa, ca, rfl, _, hca, _⟩ := id ha
  obtain ⟨au, cu, rfl, _, hcu, _⟩ := id hu
  have HRA : Hid (∀ W, Below w.heap.size w W → RRow W (.slice aa A.length ca) A) := fun W hW => ha.kept hW
  have HRU : Hid (∀ W, Below w.heap.size w W → RRow W (.slice au U.length cu) U) := fun W hW => hu.kept hW
  clear ha hu
  unfold maxLen at hn
  by_cases g1 : left - (nm.size : Int) < 0
  · go_enter Tryz.func19, Tryz.ntmps19
    go_wp2_with fail
    go_ret
    exact ⟨⟨-1, rfl, .inl rfl⟩, (Below.refl w.heap.size w).alloc (Nat.le_refl _) _⟩
  · go_enter Tryz.func19, Tryz.ntmps19
    go_wp2_with fail
    refine (szRecordS_any _ A (left - (nm.size : Int)) _ (HRA.out _ ((Below.refl w.heap.size w).alloc (Nat.le_refl _) _)) hxa (by omega) (by omega)).mono ?_
    rintro e w1 ⟨⟨q1, rfl, hq1⟩, hb1⟩
    obtain ⟨⟨_, _, _, _, _, _, c6, c7⟩, hbw⟩ := box8 hb1
    rcases hq1 with ⟨rfl, _⟩ | ⟨hq1, hp1⟩
    · go_wp2_with fail
      go_ret
      exact ⟨⟨-1, rfl, .inl rfl⟩, hbw⟩
    · have HQ1 : Hid (q1 = left - (nm.size : Int) - (A.length : Int) - (wtR A : Int)) := hq1
      have hle : q1 ≤ 1048576 := by omega
      clear hq1
      go_wp2_with fail
      refine (szRecordS_any _ U q1 _ (HRU.out _ hbw) hxu hp1 hle).mono ?_
      rintro e w2 ⟨⟨q2, rfl, hq2⟩, hb2⟩
      have hbw2 := hbw.trans (hb2.mono hbw.size)
      rcases hq2 with ⟨rfl, _⟩ | ⟨hq2, hp2⟩
      · go_wp2_with fail
        go_ret
        exact ⟨⟨-1, rfl, .inl rfl⟩, hbw2⟩
      · have HQ2 : Hid (q2 = q1 - (U.length : Int) - (wtR U : Int)) := hq2
        clear hq2
        go_wp2_with fail
        go_ret
        exact ⟨⟨q2, rfl, .inr ⟨hp2, by have h1 := HQ1.out; have h2 := HQ2.out; omega⟩⟩, hbw2⟩
theorem blk_new (w : World) (o : Obj) : (w.alloc o).heap[w.heap.size]? = some o := by
  show (w.heap.push o)[w.heap.size]? = some o
  simp
theorem heap3_new (w : World) (a b c : Obj) : (((w.alloc a).alloc b).alloc c).heap[w.heap.size + 1 + 1]? = some c := by
  have h := blk_new ((w.alloc a).alloc b) c
  simpa using h
theorem QRow.far {w : World} {g g' k : Nat} {L : List (List UInt8 × Int × Int × List UInt8)} (h : QRow w g L) (hne : g' ≠ g) (u : Value) : QRow (w.setCell ⟨g', k, none⟩ u) g L := by
  refine ⟨by simpa using h.1, fun j hj => ⟨?_, ?_⟩⟩
  · have h0 := (h.2 j hj).1
    have n : ∀ o, (⟨g', k, none⟩ : Addr) ≠ ⟨g, o, none⟩ := fun o e => hne (by injection e)
    unfold RecAt at h0 ⊢
    rw [World.cell?_setCell_other _ _ _ _ (n _), World.cell?_setCell_other _ _ _ _ (n _), World.cell?_setCell_other _ _ _ _ (n _), World.cell?_setCell_other _ _ _ _ (n _)]
    exact h0
  · have h0 := (h.2 j hj).2
    unfold FzAt at h0 ⊢
    simpa using h0
theorem box3 {w W : World} {a b c : Array Value} {t1 t2 t3 : TypeId} (hb : Below (((w.alloc (.cells a t1)).alloc (.cells b t2)).alloc (.cells c t3)).heap.size (((w.alloc (.cells a t1)).alloc (.cells b t2)).alloc (.cells c t3)) W) :
    (∀ j, W.cell? ⟨w.heap.size, j, none⟩ = a[j]?) ∧ (∀ j, W.cell? ⟨w.heap.size + 1 + 1, j, none⟩ = c[j]?) ∧ (∀ j, W.frozen? ⟨w.heap.size + 1 + 1, j, none⟩ = false) ∧ (∀ j, W.cell? ⟨w.heap.size + 1, j, none⟩ = b[j]?) ∧ (∀ j, W.frozen? ⟨w.heap.size + 1, j, none⟩ = false) ∧ w.heap.size + 1 + 1 < W.heap.size ∧ W.heap[w.heap.size + 1]? = some (.cells b t2) ∧ Below w.heap.size w W := by
  have hA : Below (w.alloc (.cells a t1)).heap.size (w.alloc (.cells a t1)) W := (((Below.refl _ _).alloc (Nat.le_refl _) _).alloc (by simp) _).trans (hb.mono (by simp))
  have hB : Below ((w.alloc (.cells a t1)).alloc (.cells b t2)).heap.size ((w.alloc (.cells a t1)).alloc (.cells b t2)) W := ((Below.refl _ _).alloc (Nat.le_refl _) _).trans (hb.mono (by simp))
  have h2 : ((w.alloc (.cells a t1)).alloc (.cells b t2)).heap[w.heap.size + 1]? = some (.cells b t2) := by
    have h := blk_new (w.alloc (.cells a t1)) (.cells b t2)
    simpa using h
  refine ⟨fun j => ?_, fun j => ?_, fun j => ?_, fun j => ?_, fun j => ?_, Nat.lt_of_lt_of_le (by simp) hb.size, by rw [hB.block _ (by simp)]; exact h2, ((Below.refl w.heap.size w).alloc (Nat.le_refl _) _).trans (hA.mono (by simp))⟩
  · rw [hA.cell (p := ⟨w.heap.size, j, none⟩) (by simp)]
    unfold World.cell?
    rw [blk_new]; rfl
  · rw [hb.cell (p := ⟨w.heap.size + 1 + 1, j, none⟩) (by simp)]
    unfold World.cell?
    rw [heap3_new]; rfl
  · rw [hb.frozen (p := ⟨w.heap.size + 1 + 1, j, none⟩) (by simp)]
    unfold World.frozen?
    rw [heap3_new]; simp
  · rw [hB.cell (p := ⟨w.heap.size + 1, j, none⟩) (by simp)]
    unfold World.cell?
    rw [h2]; rfl
  · rw [hB.frozen (p := ⟨w.heap.size + 1, j, none⟩) (by simp)]
    unfold World.frozen?
    rw [h2]; simp

/-- Eight cells stored. -/
def put8 (w : World) (g : Nat) (v0 v1 v2 v3 v4 v5 v6 v7 : Value) : World := ((((((((w.setCell ⟨g, 0, none⟩ v0).setCell ⟨g, 1, none⟩ v1).setCell ⟨g, 2, none⟩ v2).setCell ⟨g, 3, none⟩ v3).setCell ⟨g, 4, none⟩ v4).setCell ⟨g, 5, none⟩ v5).setCell ⟨g, 6, none⟩ v6).setCell ⟨g, 7, none⟩ v7)
theorem put8_heap {w : World} {g : Nat} {t : TypeId} {v0 v1 v2 v3 v4 v5 v6 v7 u0 u1 u2 u3 u4 u5 u6 u7 : Value} (h : w.heap[g]? = some (.cells #[u0, u1, u2, u3, u4, u5, u6, u7] t)) : (put8 w g v0 v1 v2 v3 v4 v5 v6 v7).heap[g]? = some (.cells #[v0, v1, v2, v3, v4, v5, v6, v7] t) := by
  unfold put8
  have e0 := heap_setCell_same _ _ 0 _ _ v0 h
  have e1 := heap_setCell_same _ _ 1 _ _ v1 e0
  have e2 := heap_setCell_same _ _ 2 _ _ v2 e1
  have e3 := heap_setCell_same _ _ 3 _ _ v3 e2
  have e4 := heap_setCell_same _ _ 4 _ _ v4 e3
  have e5 := heap_setCell_same _ _ 5 _ _ v5 e4
  have e6 := heap_setCell_same _ _ 6 _ _ v6 e5
  have e7 := heap_setCell_same _ _ 7 _ _ v7 e6
  simpa using e7
theorem put8_far {w : World} {g g' : Nat} {v0 v1 v2 v3 v4 v5 v6 v7 : Value} {L : List (List UInt8 × Int × Int × List UInt8)} (h : QRow w g L) (hne : g' ≠ g) : QRow (put8 w g' v0 v1 v2 v3 v4 v5 v6 v7) g L :=
  (((((((h.far hne _).far hne _).far hne _).far hne _).far hne _).far hne _).far hne _).far hne _
theorem put8_below {B : Nat} {a w : World} (h : Below B a w) {g : Nat} (hg : B ≤ g) (v0 v1 v2 v3 v4 v5 v6 v7 : Value) : Below B a (put8 w g v0 v1 v2 v3 v4 v5 v6 v7) :=
  (((((((h.setCell (p := ⟨g, 0, none⟩) hg _).setCell (p := ⟨g, 1, none⟩) hg _).setCell (p := ⟨g, 2, none⟩) hg _).setCell (p := ⟨g, 3, none⟩) hg _).setCell (p := ⟨g, 4, none⟩) hg _).setCell (p := ⟨g, 5, none⟩) hg _).setCell (p := ⟨g, 6, none⟩) hg _).setCell (p := ⟨g, 7, none⟩) hg _

set_option maxRecDepth 20000 in
set_option maxHeartbeats 2000000 in
theorem toMessage_any (mi : Int) (reply cutm : Bool) (code : Int) (nm : ByteArray) (ty : Int) (va vu : Value) (A U : List (List UInt8 × Int × Int × List UInt8)) (w : World) (ha : RRow w va A) (hu : RRow w vu U) (hla : A.length ≤ 1048576) (hlu : U.length ≤ 1048576) :
    Calls Tryz.prog 20 #[MsgV mi reply cutm code nm ty va vu] w fun e w' => (∃ g1 g2, e = .returned (MsgV mi reply cutm code nm ty (.slice (some ⟨g1, 0, none⟩) A.length A.length) (.slice (some ⟨g2, 0, none⟩) U.length U.length)) ∧ w.heap.size ≤ g1 ∧ g1 < g2 ∧ QRow w' g1 A ∧ QRow w' g2 U) ∧ Below w.heap.size w w' := by
  unfold MsgV
  obtain ⟨aa, ca, rfl, _, hca, _⟩ := id ha
  obtain ⟨au, cu, rfl, _, hcu, _⟩ := id hu
  have HRA : Hid (∀ W, Below w.heap.size w W → RRow W (.slice aa A.length ca) A) := fun W hW => ha.kept hW
  have HRU : Hid (∀ W, Below w.heap.size w W → RRow W (.slice au U.length cu) U) := fun W hW => hu.kept hW
  clear ha hu
  go_enter Tryz.func20, Tryz.ntmps20
  go_wp2_with fail
  refine (toRecordS_any _ A _ (HRA.out _ ((((Below.refl w.heap.size w).alloc (Nat.le_refl _) _).alloc (by simp) _).alloc (by simp; omega) _)) hla).mono ?_
  rintro e w1 ⟨rfl, hq1, hb1⟩
  obtain ⟨c, d, fz, r, rz, hsz, hblk, hbw⟩ := box3 hb1
  have c7 := c 7
  have d6 := d 6
  have fz6 := fz 6
  simp at d6 c7
  have HD : Hid (∀ j, w1.cell? ⟨w.heap.size + 1 + 1, j, none⟩ = #[Value.int .i64 mi, .bool reply, .bool cutm, .int .i64 code, .string nm, .int .i64 ty, .slice none 0 0, .slice none 0 0][j]?) := d
  have HR : Hid (∀ j, w1.cell? ⟨w.heap.size + 1, j, none⟩ = #[Value.int .i64 0, .bool false, .bool false, .int .i64 0, .string ⟨#[]⟩, .int .i64 0, .slice none 0 0, .slice none 0 0][j]?) := r
  have HF : Hid (∀ j, w1.frozen? ⟨w.heap.size + 1 + 1, j, none⟩ = false) := fz
  have HG : Hid (∀ j, w1.frozen? ⟨w.heap.size + 1, j, none⟩ = false) := rz
  clear c d fz r rz
  go_wp2_with fail
  refine (toRecordS_any _ U _ (HRU.out _ (hbw.setCell (p := ⟨w.heap.size + 1 + 1, 6, none⟩) (by show w.heap.size ≤ w.heap.size + 1 + 1; omega) _)) hlu).mono ?_
  rintro e w2 ⟨rfl, hq2, hb2⟩
  have d0 : w2.cell? ⟨w.heap.size + 1 + 1, 0, none⟩ = some (.int .i64 mi) := by
    rw [hb2.cell (p := ⟨w.heap.size + 1 + 1, 0, none⟩) (by simpa using hsz)]
    rw [World.cell?_setCell_other _ _ _ _ (by intro h; injection h with _ h; cases h)]; exact HD.out 0
  have d1 : w2.cell? ⟨w.heap.size + 1 + 1, 1, none⟩ = some (.bool reply) := by
    rw [hb2.cell (p := ⟨w.heap.size + 1 + 1, 1, none⟩) (by simpa using hsz)]
    rw [World.cell?_setCell_other _ _ _ _ (by intro h; injection h with _ h; cases h)]; exact HD.out 1
  have d2 : w2.cell? ⟨w.heap.size + 1 + 1, 2, none⟩ = some (.bool cutm) := by
    rw [hb2.cell (p := ⟨w.heap.size + 1 + 1, 2, none⟩) (by simpa using hsz)]
    rw [World.cell?_setCell_other _ _ _ _ (by intro h; injection h with _ h; cases h)]; exact HD.out 2
  have d3 : w2.cell? ⟨w.heap.size + 1 + 1, 3, none⟩ = some (.int .i64 code) := by
    rw [hb2.cell (p := ⟨w.heap.size + 1 + 1, 3, none⟩) (by simpa using hsz)]
    rw [World.cell?_setCell_other _ _ _ _ (by intro h; injection h with _ h; cases h)]; exact HD.out 3
  have d4 : w2.cell? ⟨w.heap.size + 1 + 1, 4, none⟩ = some (.string nm) := by
    rw [hb2.cell (p := ⟨w.heap.size + 1 + 1, 4, none⟩) (by simpa using hsz)]
    rw [World.cell?_setCell_other _ _ _ _ (by intro h; injection h with _ h; cases h)]; exact HD.out 4
  have d5 : w2.cell? ⟨w.heap.size + 1 + 1, 5, none⟩ = some (.int .i64 ty) := by
    rw [hb2.cell (p := ⟨w.heap.size + 1 + 1, 5, none⟩) (by simpa using hsz)]
    rw [World.cell?_setCell_other _ _ _ _ (by intro h; injection h with _ h; cases h)]; exact HD.out 5
  have d6 : w2.cell? ⟨w.heap.size + 1 + 1, 6, none⟩ = some (.slice (some ⟨w.heap.size + 1 + 1 + 1, 0, none⟩) A.length A.length) := by
    rw [hb2.cell (p := ⟨w.heap.size + 1 + 1, 6, none⟩) (by simpa using hsz)]
    exact World.cell?_setCell_same _ _ _ (HD.out 6)
  have d7 : w2.cell? ⟨w.heap.size + 1 + 1, 7, none⟩ = some (.slice none 0 0) := by
    rw [hb2.cell (p := ⟨w.heap.size + 1 + 1, 7, none⟩) (by simpa using hsz)]
    rw [World.cell?_setCell_other _ _ _ _ (by intro h; injection h with _ h; cases h)]; exact HD.out 7
  have r0 : w2.cell? ⟨w.heap.size + 1, 0, none⟩ = some (.int .i64 0) := by
    rw [hb2.cell (p := ⟨w.heap.size + 1, 0, none⟩) (by simp; omega), World.cell?_setCell_other _ _ _ _ (by intro h; injection h with h _; omega)]; exact HR.out 0
  have s0 : w2.frozen? ⟨w.heap.size + 1, 0, none⟩ = false := by
    rw [hb2.frozen (p := ⟨w.heap.size + 1, 0, none⟩) (by simp; omega)]; simpa using HG.out 0
  have r1 : w2.cell? ⟨w.heap.size + 1, 1, none⟩ = some (.bool false) := by
    rw [hb2.cell (p := ⟨w.heap.size + 1, 1, none⟩) (by simp; omega), World.cell?_setCell_other _ _ _ _ (by intro h; injection h with h _; omega)]; exact HR.out 1
  have s1 : w2.frozen? ⟨w.heap.size + 1, 1, none⟩ = false := by
    rw [hb2.frozen (p := ⟨w.heap.size + 1, 1, none⟩) (by simp; omega)]; simpa using HG.out 1
  have r2 : w2.cell? ⟨w.heap.size + 1, 2, none⟩ = some (.bool false) := by
    rw [hb2.cell (p := ⟨w.heap.size + 1, 2, none⟩) (by simp; omega), World.cell?_setCell_other _ _ _ _ (by intro h; injection h with h _; omega)]; exact HR.out 2
  have s2 : w2.frozen? ⟨w.heap.size + 1, 2, none⟩ = false := by
    rw [hb2.frozen (p := ⟨w.heap.size + 1, 2, none⟩) (by simp; omega)]; simpa using HG.out 2
  have r3 : w2.cell? ⟨w.heap.size + 1, 3, none⟩ = some (.int .i64 0) := by
    rw [hb2.cell (p := ⟨w.heap.size + 1, 3, none⟩) (by simp; omega), World.cell?_setCell_other _ _ _ _ (by intro h; injection h with h _; omega)]; exact HR.out 3
  have s3 : w2.frozen? ⟨w.heap.size + 1, 3, none⟩ = false := by
    rw [hb2.frozen (p := ⟨w.heap.size + 1, 3, none⟩) (by simp; omega)]; simpa using HG.out 3
  have r4 : w2.cell? ⟨w.heap.size + 1, 4, none⟩ = some (.string ⟨#[]⟩) := by
    rw [hb2.cell (p := ⟨w.heap.size + 1, 4, none⟩) (by simp; omega), World.cell?_setCell_other _ _ _ _ (by intro h; injection h with h _; omega)]; exact HR.out 4
  have s4 : w2.frozen? ⟨w.heap.size + 1, 4, none⟩ = false := by
    rw [hb2.frozen (p := ⟨w.heap.size + 1, 4, none⟩) (by simp; omega)]; simpa using HG.out 4
  have r5 : w2.cell? ⟨w.heap.size + 1, 5, none⟩ = some (.int .i64 0) := by
    rw [hb2.cell (p := ⟨w.heap.size + 1, 5, none⟩) (by simp; omega), World.cell?_setCell_other _ _ _ _ (by intro h; injection h with h _; omega)]; exact HR.out 5
  have s5 : w2.frozen? ⟨w.heap.size + 1, 5, none⟩ = false := by
    rw [hb2.frozen (p := ⟨w.heap.size + 1, 5, none⟩) (by simp; omega)]; simpa using HG.out 5
  have r6 : w2.cell? ⟨w.heap.size + 1, 6, none⟩ = some (.slice none 0 0) := by
    rw [hb2.cell (p := ⟨w.heap.size + 1, 6, none⟩) (by simp; omega), World.cell?_setCell_other _ _ _ _ (by intro h; injection h with h _; omega)]; exact HR.out 6
  have s6 : w2.frozen? ⟨w.heap.size + 1, 6, none⟩ = false := by
    rw [hb2.frozen (p := ⟨w.heap.size + 1, 6, none⟩) (by simp; omega)]; simpa using HG.out 6
  have r7 : w2.cell? ⟨w.heap.size + 1, 7, none⟩ = some (.slice none 0 0) := by
    rw [hb2.cell (p := ⟨w.heap.size + 1, 7, none⟩) (by simp; omega), World.cell?_setCell_other _ _ _ _ (by intro h; injection h with h _; omega)]; exact HR.out 7
  have s7 : w2.frozen? ⟨w.heap.size + 1, 7, none⟩ = false := by
    rw [hb2.frozen (p := ⟨w.heap.size + 1, 7, none⟩) (by simp; omega)]; simpa using HG.out 7
  have f7 : w2.frozen? ⟨w.heap.size + 1 + 1, 7, none⟩ = false := by
    rw [hb2.frozen (p := ⟨w.heap.size + 1 + 1, 7, none⟩) (by simpa using hsz)]; simpa using HF.out 7
  have HK : Hid (w2.heap[w.heap.size + 1]? = some (.cells #[Value.int .i64 0, .bool false, .bool false, .int .i64 0, .string ⟨#[]⟩, .int .i64 0, .slice none 0 0, .slice none 0 0] 25)) := by
    show w2.heap[w.heap.size + 1]? = _
    rw [hb2.block _ (by simp; omega), heap_setCell_other _ _ _ _ (show w.heap.size + 1 ≠ w.heap.size + 1 + 1 by omega)]; exact hblk
  have HQ1 : Hid (QRow w1 (w.heap.size + 1 + 1 + 1) A) := by
    have h : QRow w1 (w.heap.size + 1 + 1 + 1) A := by simpa using hq1
    exact h
  have HQ2 : Hid (QRow w2 w1.heap.size U) := by
    have h : QRow w2 w1.heap.size U := by simpa using hq2
    exact h
  have HQA : Hid (QRow w2 (w.heap.size + 1 + 1 + 1) A) := (HQ1.out.far (by omega) _).kept hb2
  have HBW : Hid (Below w.heap.size w w2) := by
    have h : Below w.heap.size w w2 := (hbw.setCell (p := ⟨w.heap.size + 1 + 1, 6, none⟩) (by show w.heap.size ≤ w.heap.size + 1 + 1; omega) _).trans (hb2.mono (by simpa using hbw.size))
    exact h
  clear hblk hq1 hq2
  go_wp2_with fail
  (try simp only [Exit.inBlock, Exit.then])
  refine bodyPost_ret (results_cell_row rfl _ _ (w.heap.size + 1) 25 #[.int .i64 mi, .bool reply, .bool cutm, .int .i64 code, .string nm, .int .i64 ty, .slice (some ⟨w.heap.size + 1 + 1 + 1, 0, none⟩) A.length A.length, .slice (some ⟨w1.heap.size, 0, none⟩) U.length U.length] (0, 0) _ rfl ?_ Tryz.underlying25 rfl (by kernel_rfl)) rfl ⟨⟨_, _, rfl, ?_, HQ1.out.1, ?_, ?_⟩, ?_⟩
  · exact put8_heap (by rw [heap_setCell_other _ _ _ _ (show w.heap.size + 1 ≠ w.heap.size + 1 + 1 by omega)]; exact HK.out)
  · omega
  · exact put8_far (HQA.out.far (by omega) _) (by omega)
  · exact put8_far (HQ2.out.far (by omega) _) (by omega)
  · exact put8_below (HBW.out.setCell (p := ⟨w.heap.size + 1 + 1, 7, none⟩) (by show w.heap.size ≤ w.heap.size + 1 + 1; omega) _) (by omega) _ _ _ _ _ _ _ _
end Go.Proofs.YtpghpeombednkaaGreatDoor

namespace Go.Proofs.YtpghpeombednkaaGreatDoor
open Go.RowKit

theorem box2 {w W : World} {a b : Array Value} {t1 t2 : TypeId} (hb : Below ((w.alloc (.cells a t1)).alloc (.cells b t2)).heap.size ((w.alloc (.cells a t1)).alloc (.cells b t2)) W) :
    (∀ j, W.cell? ⟨w.heap.size, j, none⟩ = a[j]?) ∧ (∀ j, W.cell? ⟨w.heap.size + 1, j, none⟩ = b[j]?) ∧ Below w.heap.size w W := by
  have hA : Below (w.alloc (.cells a t1)).heap.size (w.alloc (.cells a t1)) W := ((Below.refl _ _).alloc (Nat.le_refl _) _).trans (hb.mono (by simp))
  have h2 : ((w.alloc (.cells a t1)).alloc (.cells b t2)).heap[w.heap.size + 1]? = some (.cells b t2) := by
    have h := blk_new (w.alloc (.cells a t1)) (.cells b t2)
    simpa using h
  refine ⟨fun j => ?_, fun j => ?_, ((Below.refl w.heap.size w).alloc (Nat.le_refl _) _).trans (hA.mono (by simp))⟩
  · rw [hA.cell (p := ⟨w.heap.size, j, none⟩) (by simp)]
    unfold World.cell?
    rw [blk_new]; rfl
  · rw [hb.cell (p := ⟨w.heap.size + 1, j, none⟩) (by simp)]
    unfold World.cell?
    rw [h2]; rfl

set_option maxRecDepth 20000 in
set_option maxHeartbeats 2000000 in
theorem eqMessage_same (mi : Int) (reply cutm : Bool) (code : Int) (nm : ByteArray) (ty : Int) (va vu va2 vu2 : Value) (A U : List (List UInt8 × Int × Int × List UInt8)) (w : World) (ha : RRow w va A) (hu : RRow w vu U) (ha2 : RRow w va2 A) (hu2 : RRow w vu2 U) :
    Calls Tryz.prog 21 #[MsgV mi reply cutm code nm ty va vu, MsgV mi reply cutm code nm ty va2 vu2] w fun e w' => e = .returned (.bool true) ∧ Below w.heap.size w w' := by
  unfold MsgV
  obtain ⟨aa, ca, rfl, _, hca, _⟩ := id ha
  obtain ⟨au, cu, rfl, _, hcu, _⟩ := id hu
  obtain ⟨aa2, ca2, rfl, _, hca2, _⟩ := id ha2
  obtain ⟨au2, cu2, rfl, _, hcu2, _⟩ := id hu2
  have HRA : Hid (∀ W, Below w.heap.size w W → RRow W (.slice aa A.length ca) A ∧ RRow W (.slice aa2 A.length ca2) A) := fun W hW => ⟨ha.kept hW, ha2.kept hW⟩
  have HRU : Hid (∀ W, Below w.heap.size w W → RRow W (.slice au U.length cu) U ∧ RRow W (.slice au2 U.length cu2) U) := fun W hW => ⟨hu.kept hW, hu2.kept hW⟩
  clear ha hu ha2 hu2
  go_enter Tryz.func21, Tryz.ntmps21
  go_wp2_with fail
  have hA := HRA.out _ (((Below.refl w.heap.size w).alloc (Nat.le_refl _) (.cells #[.int .i64 mi, .bool reply, .bool cutm, .int .i64 code, .string nm, .int .i64 ty, .slice aa A.length ca, .slice au U.length cu] 25)).alloc (by simp) (.cells #[.int .i64 mi, .bool reply, .bool cutm, .int .i64 code, .string nm, .int .i64 ty, .slice aa2 A.length ca2, .slice au2 U.length cu2] 25))
  refine (eqRecordS_same _ _ A _ hA.1 hA.2).mono ?_
  rintro e w1 ⟨rfl, hb1⟩
  obtain ⟨c, d, hbw⟩ := box2 hb1
  have c7 := c 7
  have d7 := d 7
  simp at c7 d7
  clear c d hA
  have hU := HRU.out _ hbw
  go_wp2_with fail
  refine (eqRecordS_same _ _ U _ hU.1 hU.2).mono ?_
  rintro e w2 ⟨rfl, hb2⟩
  go_wp2_with fail
  go_ret
  exact ⟨rfl, hbw.trans (hb2.mono hbw.size)⟩

set_option maxRecDepth 20000 in
set_option maxHeartbeats 2000000 in
theorem heldMessage_any (mi : Int) (reply cutm : Bool) (code : Int) (nm : ByteArray) (ty : Int) (va vu : Value) (n m K : Nat) (w : World) (ha : RRow w va (mrks K n)) (hu : RRow w vu (mrks (K + 4 * n) m)) (hn : n ≤ 1048576) (hm : m ≤ 1048576) (hK0 : 0 < K) (hK : K ≤ 1048576) :
    Calls Tryz.prog 23 #[MsgV mi reply cutm code nm ty va vu, .int .i64 (K : Int)] w fun e w' => e = .returned (.int .i64 ((K : Int) + 4 * (n : Int) + 4 * (m : Int))) ∧ Below w.heap.size w w' := by
  unfold MsgV
  obtain ⟨aa, ca, rfl, _, hca, _⟩ := id ha
  obtain ⟨au, cu, rfl, _, hcu, _⟩ := id hu
  rw [mrks_length] at ha hu ⊢
  rw [mrks_length]
  have HRA : Hid (∀ W, Below w.heap.size w W → RRow W (.slice aa n ca) (mrks K n)) := fun W hW => ha.kept hW
  have HRU : Hid (∀ W, Below w.heap.size w W → RRow W (.slice au m cu) (mrks (K + 4 * n) m)) := fun W hW => hu.kept hW
  clear ha hu
  go_enter Tryz.func23, Tryz.ntmps23
  go_wp2_with fail
  refine (heldRecordS_any _ n K _ (HRA.out _ ((Below.refl w.heap.size w).alloc (Nat.le_refl _) _)) hn hK0 (by omega)).mono ?_
  rintro e w1 ⟨rfl, hb1⟩
  obtain ⟨⟨_, _, _, _, _, _, _, c7⟩, hbw⟩ := box8 hb1
  obtain ⟨K2, hK2⟩ : ∃ K2 : Nat, K2 = K + 4 * n := ⟨_, rfl⟩
  have hE : (K : Int) + 4 * (n : Int) = (K2 : Int) := by omega
  have HC : Hid (Calls Tryz.prog 56 #[.slice au m cu, .int .i64 (K2 : Int)] w1 fun e w' => e = .returned (.int .i64 ((K2 : Int) + 4 * (m : Int))) ∧ Below w1.heap.size w1 w') := heldRecordS_any (.slice au m cu) m K2 w1 (by rw [hK2]; exact HRU.out _ hbw) hm (by omega) (by omega)
  have hlt : (K2 : Int) ≤ 8388608 := by omega
  rw [hE]
  have HE : Hid ((K : Int) + 4 * (n : Int) = (K2 : Int)) := hE
  clear hE hK2
  go_wp2_with fail
  refine HC.out.mono ?_
  rintro e w2 ⟨rfl, hb2⟩
  go_wp2_with fail
  go_ret
  exact ⟨ret_intI (by have h := HE.out; omega), hbw.trans (hb2.mono hbw.size)⟩
end Go.Proofs.YtpghpeombednkaaGreatDoor

namespace Go.Proofs.YtpghpeombednkaaGreatDoor
open Go.RowKit

theorem Kpt.recAt {a b : World} {S : Nat → Prop} (h : Kpt a b S) {g o : Nat} {x : (List UInt8 × Int × Int × List UInt8)} (hr : RecAt a g o x) (hn : ¬ S g) : RecAt b g o x :=
  ⟨h.cell hr.1 hn, h.cell hr.2.1 hn, h.cell hr.2.2.1 hn, h.cell hr.2.2.2 hn⟩
theorem QRow.kpt {a b : World} {S : Nat → Prop} {g : Nat} {L : List (List UInt8 × Int × Int × List UInt8)} (hq : QRow a g L) (h : Kpt a b S) (hn : ¬ S g) : QRow b g L := by
  refine ⟨Nat.lt_of_lt_of_le hq.1 h.size, fun j hj => ⟨h.recAt (hq.2 j hj).1 hn, ?_⟩⟩
  have h0 := (hq.2 j hj).2
  have hb := h.block g hq.1 hn
  unfold FzAt at h0 ⊢
  rw [World.frozen?_of_block (w := a) (w' := b) (a := ⟨g, j * 4, none⟩) hb, World.frozen?_of_block (w := a) (w' := b) (a := ⟨g, j * 4 + 1, none⟩) hb, World.frozen?_of_block (w := a) (w' := b) (a := ⟨g, j * 4 + 2, none⟩) hb, World.frozen?_of_block (w := a) (w' := b) (a := ⟨g, j * 4 + 3, none⟩) hb]
  exact h0
theorem RRow.kpt {a b : World} {S : Nat → Prop} {v : Value} {L : List (List UInt8 × Int × Int × List UInt8)} (hq : RRow a v L) (h : Kpt a b S) (hn : ∀ g o n c, v = .slice (some ⟨g, o, none⟩) n c → L ≠ [] → ¬ S g) : RRow b v L := by
  obtain ⟨x, cap, rfl, h1, h2, h3⟩ := hq
  refine ⟨x, cap, rfl, h1, h2, ?_⟩
  rcases h3 with h3 | ⟨g, o, rfl, hl, hr⟩
  · exact .inl h3
  · by_cases h0 : L = []
    · exact .inl h0
    · exact .inr ⟨g, o, rfl, Nat.lt_of_lt_of_le hl h.size, fun j hj => h.recAt (hr j hj) (hn g o _ _ rfl h0)⟩
theorem OwnQ.kpt {a b : World} {S : Nat → Prop} {base : Nat} {v : Value} {L : List (List UInt8 × Int × Int × List UInt8)} (hq : OwnQ a base v L) (h : Kpt a b S) (hn : ∀ g, v.ownBlock = some g → ¬ S g) : OwnQ b base v L := by
  rcases hq with hq | ⟨g, cap, rfl, h1, h2, h3, hs⟩
  · exact .inl hq
  · exact .inr ⟨g, cap, rfl, h1, h2, h3, hs.kpt h (hn g rfl)⟩
theorem OwnQ.lt {w : World} {base : Nat} {v : Value} {L : List (List UInt8 × Int × Int × List UInt8)} (hq : OwnQ w base v L) : ∀ g, v.ownBlock = some g → base ≤ g ∧ g < w.heap.size := by
  intro g hg
  rcases hq with ⟨rfl, _⟩ | ⟨g', cap, rfl, h1, h2, h3, hs⟩
  · cases hg
  · injection hg with hg
    subst hg; exact ⟨h3, hs.1⟩
theorem OwnQ.shape {w : World} {base : Nat} {v : Value} {L : List (List UInt8 × Int × Int × List UInt8)} (hq : OwnQ w base v L) : ∃ a cap, v = .slice a L.length cap ∧ cap ≤ maxLen := by
  rcases hq with ⟨rfl, rfl⟩ | ⟨g, cap, rfl, h1, h2, h3, hs⟩
  · exact ⟨none, 0, rfl, by unfold maxLen; omega⟩
  · exact ⟨_, cap, rfl, h2⟩
theorem kpt_put8 (w : World) (g : Nat) (v0 v1 v2 v3 v4 v5 v6 v7 : Value) {S : Nat → Prop} (hs : S g) : Kpt w (put8 w g v0 v1 v2 v3 v4 v5 v6 v7) S := by
  unfold put8
  exact (((((((kpt_set _ _ _ _ hs).trans (kpt_set _ _ _ _ hs)).trans (kpt_set _ _ _ _ hs)).trans (kpt_set _ _ _ _ hs)).trans (kpt_set _ _ _ _ hs)).trans (kpt_set _ _ _ _ hs)).trans (kpt_set _ _ _ _ hs)).trans (kpt_set _ _ _ _ hs)

set_option maxRecDepth 20000 in
set_option maxHeartbeats 2000000 in
theorem markMessage_any (mi : Int) (reply cutm : Bool) (code : Int) (nm : ByteArray) (ty : Int) (va vu : Value) (A U : List (List UInt8 × Int × Int × List UInt8)) (base K : Nat) (w : World) (ha : OwnQ w base va A) (hu : OwnQ w base vu U) (hne : ∀ g, va.ownBlock = some g → vu.ownBlock ≠ some g) (hA : A.length ≤ 1048576) (hU : U.length ≤ 1048576) (hK0 : 0 < K) (hK : K ≤ 1048576) :
    Calls Tryz.prog 22 #[MsgV mi reply cutm code nm ty va vu, .int .i64 (K : Int)] w fun e w' => e = .returned (.int .i64 ((K : Int) + 4 * (A.length : Int) + 4 * (U.length : Int))) ∧ OwnQ w' base va (mrks K A.length) ∧ OwnQ w' base vu (mrks (K + 4 * A.length) U.length) ∧ Kpt w w' (fun k => va.ownBlock = some k ∨ vu.ownBlock = some k) := by
  unfold MsgV
  obtain ⟨aa, ca, hva, hca⟩ := ha.shape
  obtain ⟨au, cu, hvu, hcu⟩ := hu.shape
  subst hva
  subst hvu
  have HA : Hid (OwnQ w base (.slice aa A.length ca) A) := ha
  have HU : Hid (OwnQ w base (.slice au U.length cu) U) := hu
  have HN : Hid (∀ g, (Value.slice aa A.length ca).ownBlock = some g → (Value.slice au U.length cu).ownBlock ≠ some g) := hne
  clear ha hu hne
  go_enter Tryz.func22, Tryz.ntmps22
  go_wp2_with fail
  refine (markRecordS_any _ A base K _ (HA.out.kept ((Below.refl w.heap.size w).alloc (Nat.le_refl _) _)) hA hK0 (by omega)).mono ?_
  rintro e w1 ⟨rfl, ho1, hg1⟩
  have hk1 := grown_kpt hg1
  have c7 : w1.cell? ⟨w.heap.size, 7, none⟩ = some (.slice au U.length cu) := hk1.cell (by simp) (fun e => by have h := (HA.out.lt _ e).2; exact absurd h (Nat.lt_irrefl _))
  have HU1 : Hid (OwnQ w1 base (.slice au U.length cu) U) := (HU.out.kept ((Below.refl w.heap.size w).alloc (Nat.le_refl _) _)).kpt hk1 (fun g hg e => HN.out g e hg)
  have HO1 : Hid (OwnQ w1 base (.slice aa A.length ca) (mrks K A.length)) := ho1
  have HK1 : Hid (Kpt w w1 (fun k => (Value.slice aa A.length ca).ownBlock = some k ∨ (Value.slice au U.length cu).ownBlock = some k)) := (below_kpt0 ((Below.refl w.heap.size w).alloc (Nat.le_refl _) _) _).trans (hk1.mono (fun k _ h => .inl h))
  clear ho1 hg1 hk1
  obtain ⟨K2, hK2⟩ : ∃ K2 : Nat, K2 = K + 4 * A.length := ⟨_, rfl⟩
  have hE : (K : Int) + 4 * (A.length : Int) = (K2 : Int) := by omega
  have HC : Hid (Calls Tryz.prog 55 #[.slice au U.length cu, .int .i64 (K2 : Int)] w1 fun e w' => e = .returned (.int .i64 ((K2 : Int) + 4 * (U.length : Int))) ∧ OwnQ w' base (.slice au U.length cu) (mrks K2 U.length) ∧ w1.grownBy w' (Value.slice au U.length cu).ownBlock) := markRecordS_any (.slice au U.length cu) U base K2 w1 HU1.out hU (by omega) (by omega)
  rw [hE]
  have HE : Hid ((K : Int) + 4 * (A.length : Int) = (K2 : Int) ∧ K2 = K + 4 * A.length) := ⟨hE, hK2⟩
  clear hE hK2
  go_wp2_with fail
  refine HC.out.mono ?_
  rintro e w2 ⟨rfl, ho2, hg2⟩
  have hk2 := grown_kpt hg2
  have HO2 : Hid (OwnQ w2 base (.slice aa A.length ca) (mrks K A.length)) := HO1.out.kpt hk2 (fun g hg e => HN.out g hg e)
  have HO3 : Hid (OwnQ w2 base (.slice au U.length cu) (mrks K2 U.length)) := ho2
  have HK2 : Hid (Kpt w w2 (fun k => (Value.slice aa A.length ca).ownBlock = some k ∨ (Value.slice au U.length cu).ownBlock = some k)) := HK1.out.trans (hk2.mono (fun k _ h => .inr h))
  clear ho2 hg2 hk2
  go_wp2_with fail
  go_ret
  exact ⟨ret_intI (by have h := HE.out.1; omega), HO2.out, by rw [← HE.out.2]; exact HO3.out, HK2.out⟩
end Go.Proofs.YtpghpeombednkaaGreatDoor

namespace Go.Proofs.YtpghpeombednkaaGreatDoor
open Go.RowKit

theorem msg_cells {W : World} {b : Nat} {v0 v1 v2 v3 v4 v5 v6 v7 : Value} {t : TypeId} (h : W.heap[b]? = some (.cells #[v0, v1, v2, v3, v4, v5, v6, v7] t)) :
    W.cell? ⟨b, 0, none⟩ = some v0 ∧ W.cell? ⟨b, 1, none⟩ = some v1 ∧ W.cell? ⟨b, 2, none⟩ = some v2 ∧ W.cell? ⟨b, 3, none⟩ = some v3 ∧ W.cell? ⟨b, 4, none⟩ = some v4 ∧ W.cell? ⟨b, 5, none⟩ = some v5 ∧ W.cell? ⟨b, 6, none⟩ = some v6 ∧ W.cell? ⟨b, 7, none⟩ = some v7 := by
  refine ⟨?_, ?_, ?_, ?_, ?_, ?_, ?_, ?_⟩ <;> (unfold World.cell?; rw [h]; rfl)
theorem msg_frozen {W : World} {b : Nat} {cs : Array Value} {t : TypeId} (h : W.heap[b]? = some (.cells cs t)) :
    W.frozen? ⟨b, 0, none⟩ = false ∧ W.frozen? ⟨b, 1, none⟩ = false ∧ W.frozen? ⟨b, 2, none⟩ = false ∧ W.frozen? ⟨b, 3, none⟩ = false ∧ W.frozen? ⟨b, 4, none⟩ = false ∧ W.frozen? ⟨b, 5, none⟩ = false ∧ W.frozen? ⟨b, 6, none⟩ = false ∧ W.frozen? ⟨b, 7, none⟩ = false := by
  refine ⟨?_, ?_, ?_, ?_, ?_, ?_, ?_, ?_⟩ <;> (unfold World.frozen?; rw [h]; simp)
theorem heaps2 {w W : World} {a b : Array Value} {t1 t2 : TypeId} (hb : Below ((w.alloc (.cells a t1)).alloc (.cells b t2)).heap.size ((w.alloc (.cells a t1)).alloc (.cells b t2)) W) :
    W.heap[w.heap.size]? = some (.cells a t1) ∧ W.heap[w.heap.size + 1]? = some (.cells b t2) ∧ Below w.heap.size w W := by
  have hA : Below (w.alloc (.cells a t1)).heap.size (w.alloc (.cells a t1)) W := ((Below.refl _ _).alloc (Nat.le_refl _) _).trans (hb.mono (by simp))
  have h2 : ((w.alloc (.cells a t1)).alloc (.cells b t2)).heap[w.heap.size + 1]? = some (.cells b t2) := by
    have h := blk_new (w.alloc (.cells a t1)) (.cells b t2)
    simpa using h
  refine ⟨?_, ?_, ((Below.refl w.heap.size w).alloc (Nat.le_refl _) _).trans (hA.mono (by simp))⟩
  · rw [hA.block _ (by simp)]; exact blk_new _ _
  · rw [hb.block _ (by simp)]; exact h2
/-- A struct and a bool, told. -/
theorem results_row_tmp {P : Program} {fn : Func} {p u : Tmp} {ty : TypeId} (h : fn.results = #[.cell p ty, .tmp u]) (tmps : Array Value) (w : World) (g : Nat) (t : TypeId) (cs : Array Value) (fr : Nat × Nat) (d : TypeDesc) (x : Value)
    (hp : tmps.getD p undef = .pointer (some ⟨g, 0, none⟩)) (hu : tmps.getD u undef = x) (hg : w.heap[g]? = some (.cells cs t fr))
    (hd0 : P.underlying ty = some d) (hd : (match d with | .struct _ | .array _ _ => true | _ => false) = true) (hi : (P.info? ty).map (·.size) = some cs.size) :
    (results fn tmps).run P w = .ok (.tuple #[.agg cs, x]) w := by
  have hp' : tmps[p]?.getD undef = .pointer (some ⟨g, 0, none⟩) := by simpa using hp
  have hu' : tmps[u]?.getD undef = x := by simpa using hu
  rw [results_cell_tmp h]
  simp [hp', hu', asAddr, run_loadVar_row w g t ty cs fr d hg hd0 hd hi, Result.andThen]
/-- No message. -/
def noMsg : Value := MsgV 0 false false 0 ⟨#[]⟩ 0 (.slice none 0 0) (.slice none 0 0)
/-- What QuestionFor tells. -/
def qVal (ok : Bool) (mi : Int) (nm : ByteArray) (ty : Int) : Value := .tuple #[if ok = true then MsgV mi false false 0 nm ty (.slice none 0 0) (.slice none 0 0) else noMsg, .bool ok]

set_option maxRecDepth 20000 in
set_option maxHeartbeats 2000000 in
theorem sQuestionFor_any (mi : Int) (nm : ByteArray) (ty : Int) (w : World) (hn : nm.size ≤ 1048576) :
    Calls Tryz.prog 57 #[.int .i64 mi, .string nm, .int .i64 ty] w fun e w' => e = .returned (qVal (msgB mi false false 0 nm.data.toList ty [] []) mi nm ty) ∧ Below w.heap.size w w' := by
  have HG : Hid (∀ W, Calls Tryz.prog 30 #[MsgV mi false false 0 nm ty (.slice none 0 0) (.slice none 0 0)] W fun e w' => e = .returned (.bool (msgB mi false false 0 nm.data.toList ty [] [])) ∧ Below W.heap.size W w') := fun W => sGoodMessage_any mi false false 0 nm ty _ _ [] [] W hn (rrow_nil _) (rrow_nil _) (fun x hx => by cases hx) (fun x hx => by cases hx)
  obtain ⟨ok, hok⟩ : ∃ ok, ok = msgB mi false false 0 nm.data.toList ty [] [] := ⟨_, rfl⟩
  rw [← hok] at HG ⊢
  clear hok
  unfold MsgV at HG
  go_enter Tryz.func57, Tryz.ntmps57
  go_wp2_with fail
  refine (HG.out _).mono ?_
  rintro e w1 ⟨rfl, hb1⟩
  obtain ⟨hr, hm, hbw⟩ := heaps2 hb1
  obtain ⟨c0, c1, c2, c3, c4, c5, c6, c7⟩ := msg_cells hr
  obtain ⟨d0, d1, d2, d3, d4, d5, d6, d7⟩ := msg_cells hm
  obtain ⟨f0, f1, f2, f3, f4, f5, f6, f7⟩ := msg_frozen hr
  have HR : Hid (w1.heap[w.heap.size]? = some (.cells #[.int .i64 0, .bool false, .bool false, .int .i64 0, .string ⟨#[]⟩, .int .i64 0, .slice none 0 0, .slice none 0 0] 25)) := hr
  clear hr hm hb1
  cases ok with
  | false =>
    go_wp2_with fail
    (try simp only [Exit.inBlock, Exit.then])
    refine bodyPost_ret (results_row_tmp rfl _ _ w.heap.size 25 #[.int .i64 0, .bool false, .bool false, .int .i64 0, .string ⟨#[]⟩, .int .i64 0, .slice none 0 0, .slice none 0 0] (0, 0) _ (.bool false) rfl rfl ?_ Tryz.underlying25 rfl (by kernel_rfl)) rfl ⟨rfl, ?_⟩
    · exact put8_heap HR.out
    · exact put8_below hbw (Nat.le_refl _) _ _ _ _ _ _ _ _
  | true =>
    go_wp2_with fail
    (try simp only [Exit.inBlock, Exit.then])
    refine bodyPost_ret (results_row_tmp rfl _ _ w.heap.size 25 #[.int .i64 mi, .bool false, .bool false, .int .i64 0, .string nm, .int .i64 ty, .slice none 0 0, .slice none 0 0] (0, 0) _ (.bool true) rfl rfl ?_ Tryz.underlying25 rfl (by kernel_rfl)) rfl ⟨rfl, ?_⟩
    · exact put8_heap HR.out
    · exact put8_below hbw (Nat.le_refl _) _ _ _ _ _ _ _ _
end Go.Proofs.YtpghpeombednkaaGreatDoor

namespace Go.Proofs.YtpghpeombednkaaGreatDoor
open Go.RowKit

theorem wtR_mem {A : List (List UInt8 × Int × Int × List UInt8)} {x : List UInt8 × Int × Int × List UInt8} (h : x ∈ A) : x.1.length + x.2.2.2.length ≤ wtR A := by
  unfold wtR
  induction A with
  | nil => cases h
  | cons y r ih =>
    rcases List.mem_cons.1 h with rfl | h
    · simp
    · have := ih h; simp; omega
/-- What is small enough to be asked about. -/
theorem sz_small {A U : List (List UInt8 × Int × Int × List UInt8)} {n : Nat} {q : Int} (h0 : 0 ≤ q) (h : q = 1048576 - (n : Int) - (A.length : Int) - (wtR A : Int) - (U.length : Int) - (wtR U : Int)) :
    n ≤ 1048576 ∧ A.length ≤ 1048576 ∧ U.length ≤ 1048576 ∧ A.length + U.length ≤ 1048576 ∧ (∀ x ∈ A, x.1.length ≤ 1048576 ∧ x.2.2.2.length ≤ 1048576) ∧ (∀ x ∈ U, x.1.length ≤ 1048576 ∧ x.2.2.2.length ≤ 1048576) := by
  refine ⟨by omega, by omega, by omega, by omega, fun x hx => ?_, fun x hx => ?_⟩
  · have := wtR_mem hx; omega
  · have := wtR_mem hx; omega
theorem some_nil (b n m : Nat) : ∀ n' c, Value.slice (some ⟨b, 0, none⟩) n m = .slice none n' c → c = 0 := fun n' c h => by cases h
end Go.Proofs.YtpghpeombednkaaGreatDoor

namespace Go.Proofs.YtpghpeombednkaaGreatDoor
open Go.RowKit

set_option maxRecDepth 20000 in
set_option maxHeartbeats 400000 in
theorem isCode_any (n : Int) (w : World) : Calls Tryz.prog 63 #[.int .i64 n] w fun e w' => e = .returned (.bool (codeB n)) ∧ w' = w := by
  by_cases h : n = 0 ∨ n = 1 ∨ n = 3 ∨ n = 5
  · have HR : Hid (codeB n = true) := by rcases h with rfl | rfl | rfl | rfl <;> rfl
    rcases h with rfl | rfl | rfl | rfl <;> (go_enter Tryz.func63, Tryz.ntmps63; go_wp2_with fail; go_ret; exact ⟨ret_bool HR.out.symm, rfl⟩)
  · have HR : Hid (codeB n = false) := by
      cases hc : codeB n with
      | false => exact rfl
      | true => exfalso; unfold codeB hasB at hc; simp at hc; omega
    have h0 : ¬ n = 0 := by omega
    have h1 : ¬ n = 1 := by omega
    have h3 : ¬ n = 3 := by omega
    have h5 : ¬ n = 5 := by omega
    clear h
    go_enter Tryz.func63, Tryz.ntmps63
    go_wp2_with fail
    go_ret
    exact ⟨ret_bool HR.out.symm, rfl⟩

set_option maxRecDepth 20000 in
set_option maxHeartbeats 400000 in
theorem isType_any (n : Int) (w : World) : Calls Tryz.prog 105 #[.int .i64 n] w fun e w' => e = .returned (.bool (typB n)) ∧ w' = w := by
  by_cases h : n = 1 ∨ n = 2 ∨ n = 5 ∨ n = 6 ∨ n = 15 ∨ n = 16
  · have HR : Hid (typB n = true) := by rcases h with rfl | rfl | rfl | rfl | rfl | rfl <;> rfl
    rcases h with rfl | rfl | rfl | rfl | rfl | rfl <;> (go_enter Tryz.func105, Tryz.ntmps105; go_wp2_with fail; go_ret; exact ⟨ret_bool HR.out.symm, rfl⟩)
  · have HR : Hid (typB n = false) := by
      cases hc : typB n with
      | false => exact rfl
      | true => exfalso; unfold typB hasB at hc; simp at hc; omega
    have h1 : ¬ n = 1 := by omega
    have h2 : ¬ n = 2 := by omega
    have h5 : ¬ n = 5 := by omega
    have h6 : ¬ n = 6 := by omega
    have h15 : ¬ n = 15 := by omega
    have h16 : ¬ n = 16 := by omega
    clear h
    go_enter Tryz.func105, Tryz.ntmps105
    go_wp2_with fail
    go_ret
    exact ⟨ret_bool HR.out.symm, rfl⟩

/-- All of a list are good records. -/
def aresB (L : List (List UInt8 × Int × Int × List UInt8)) : Bool := L.all (fun x => recB x.1 x.2.1 x.2.2.1 x.2.2.2)
theorem aresB_bad {L : List (List UInt8 × Int × Int × List UInt8)} (k : Nat) (hk : k < L.length) (h : recB L[k].1 L[k].2.1 L[k].2.2.1 L[k].2.2.2 = false) : aresB L = false := by
  unfold aresB; rw [List.all_eq_false]; exact ⟨_, List.getElem_mem hk, by simpa using h⟩
theorem aresB_all {L : List (List UInt8 × Int × Int × List UInt8)} (h : ∀ j, (hj : j < L.length) → recB L[j].1 L[j].2.1 L[j].2.2.1 L[j].2.2.2 = true) : aresB L = true := by
  unfold aresB; rw [List.all_eq_true]; intro x hx
  obtain ⟨j, hj, rfl⟩ := List.getElem_of_mem hx
  exact h j hj
theorem recsB_are (L : List (List UInt8 × Int × Int × List UInt8)) : recsB L = (aresB L && decide ((L.length : Int) ≤ 12)) := rfl

set_option maxRecDepth 20000 in
set_option maxHeartbeats 1000000 in
theorem areRecords_any (v : Value) (L : List (List UInt8 × Int × Int × List UInt8)) (w : World) (hr : RRow w v L) (hx : Hid (∀ x ∈ L, x.1.length ≤ 1048576 ∧ x.2.2.2.length ≤ 1048576)) (hE : EnvR w) :
    Calls Tryz.prog 66 #[v] w fun e w' => e = .returned (.bool (aresB L)) ∧ Below w.heap.size w w' := by
  obtain ⟨a, cap, rfl, hcap, hmax, hrow⟩ := hr
  have HROW : Hid (L = [] ∨ ∃ b o, a = some ⟨b, o, none⟩ ∧ b < w.heap.size ∧ ∀ j, (hj : j < L.length) → RecAt w b (o + j * 4) L[j]) := hrow
  have HGR : Hid (∀ (x : List UInt8 × Int × Int × List UInt8) W, EnvR W → x.2.2.2.length ≤ 1048576 → Calls Tryz.prog 50 #[.agg #[.string ⟨x.1.toArray⟩, .int .i64 x.2.1, .int .i64 x.2.2.1, .string ⟨x.2.2.2.toArray⟩]] W fun e w' => e = .returned (.bool (recB x.1 x.2.1 x.2.2.1 x.2.2.2)) ∧ Below W.heap.size W w') := fun x W g1 g2 =>
    iGoodRecord_any ⟨x.1.toArray⟩ ⟨x.2.2.2.toArray⟩ x.2.1 x.2.2.1 W (by rw [size_list]; exact g2) g1
  unfold maxLen at hmax
  clear hrow
  go_enter Tryz.func66, Tryz.ntmps66
  go_wp2_with fail
  go_loopw [7] (fun i wr => ∃ k : Nat, k ≤ L.length ∧ i = .int .i64 (k : Int) ∧ Hid (∀ j, (hj : j < L.length) → j < k → recB L[j].1 L[j].2.1 L[j].2.2.1 L[j].2.2.2 = true) ∧ Below w.heap.size w wr) (fun i _ => L.length - (intOf i).toNat)
  case atStart => exact ⟨0, Nat.zero_le _, rfl, fun j _ h => absurd h (Nat.not_lt_zero _), Below.refl _ _⟩
  case round =>
    obtain ⟨k, hk, rfl, HA, hb⟩ := hrel
    by_cases hlt : k < L.length
    · rcases HROW.out with hr | ⟨b, o, ha, hbl, hcel⟩
      · rw [hr] at hlt; simp at hlt
      · rw [ha]
        have hcx := (hcel k hlt).kept hb
        unfold RecAt at hcx
        obtain ⟨c0, c1, c2, c3⟩ := hcx
        have hxl := hx.out _ (List.getElem_mem hlt)
        have HBAD : Hid (recB (L[k]'hlt).1 (L[k]'hlt).2.1 (L[k]'hlt).2.2.1 (L[k]'hlt).2.2.2 = false → aresB L = false) := aresB_bad k hlt
        have HOK : Hid (recB (L[k]'hlt).1 (L[k]'hlt).2.1 (L[k]'hlt).2.2.1 (L[k]'hlt).2.2.2 = true → ∀ j, (hj : j < L.length) → j < k + 1 → recB L[j].1 L[j].2.1 L[j].2.2.1 L[j].2.2.2 = true) := fun h j hj h1 => by
          rcases Nat.lt_or_ge j k with h' | h'
          · exact HA.out j hj h'
          · obtain rfl : j = k := by omega
            exact h
        obtain ⟨x, hxe⟩ : ∃ x, x = L[k]'hlt := ⟨_, rfl⟩
        rw [← hxe] at c0 c1 c2 c3 hxl HBAD HOK
        have HCC := HGR.out x
        have HC : Hid (∀ W, Below wr.heap.size wr W → Calls Tryz.prog 50 #[.agg #[.string ⟨x.1.toArray⟩, .int .i64 x.2.1, .int .i64 x.2.2.1, .string ⟨x.2.2.2.toArray⟩]] W fun e w' => e = .returned (.bool (recB x.1 x.2.1 x.2.2.1 x.2.2.2)) ∧ Below W.heap.size W w') := fun W hW => HCC W (hE.below (hb.trans (hW.mono hb.size))) hxl.2
        clear hcel hxe HCC
        cases hR : recB x.1 x.2.1 x.2.2.1 x.2.2.2 with
        | false =>
          have HR : Hid (aresB L = false) := HBAD.out hR
          rw [hR] at HC
          clear hR HBAD HOK
          go_wp2_with fail
          refine (HC.out _ ((Below.refl _ _).alloc (Nat.le_refl _) _)).mono ?_
          rintro e w2 ⟨rfl, hb2⟩
          go_wp2_with fail
          go_ret
          exact ⟨ret_bool HR.out.symm, hb.trans ((box4 hb2).2.2.2.2.mono hb.size)⟩
        | true =>
          have HR : Hid (∀ j, (hj : j < L.length) → j < k + 1 → recB L[j].1 L[j].2.1 L[j].2.2.1 L[j].2.2.2 = true) := HOK.out hR
          rw [hR] at HC
          clear hR HBAD HOK
          go_wp2_with fail
          refine (HC.out _ ((Below.refl _ _).alloc (Nat.le_refl _) _)).mono ?_
          rintro e w2 ⟨rfl, hb2⟩
          go_wp2_with fail
          go_roundw
          case rel => exact ⟨k + 1, by omega, by go_num, HR, hb.trans ((box4 hb2).2.2.2.2.mono hb.size)⟩
          case measure => simp [intOf]; omega
    · have HR : Hid (aresB L = true) := aresB_all (fun j hj => HA.out j hj (by omega))
      go_wp2_with fail
      go_ret
      exact ⟨ret_bool HR.out.symm, hb⟩

/-- The byte of what a message is. -/
def marksI (reply cutm : Bool) : Int := (if reply = true then 128 else 0) + (if cutm = true then 1 else 0)
/-- The head of a message. -/
def HeadV (nm : ByteArray) (ty mi marks code la lu : Int) : Value := .agg #[.string nm, .int .i64 ty, .int .i64 mi, .int .i64 marks, .int .i64 code, .int .i64 la, .int .i64 lu]

set_option maxRecDepth 20000 in
set_option maxHeartbeats 400000 in
theorem ownerGood_any (nm : ByteArray) (ty : Int) (w : World) (hE : EnvR w) :
    Calls Tryz.prog 64 #[.agg #[.string nm, .int .i64 ty]] w fun e w' => e = .returned (.bool (nameB nm.data.toList && typB ty)) ∧ Below w.heap.size w w' := by
  have HB : Hid (∀ (t : TypeId) W, Below (w.alloc (.cells #[.string nm, .int .i64 ty] t)).heap.size (w.alloc (.cells #[.string nm, .int .i64 ty] t)) W → W.cell? ⟨w.heap.size, 0, none⟩ = some (.string nm) ∧ W.cell? ⟨w.heap.size, 1, none⟩ = some (.int .i64 ty) ∧ Below w.heap.size w W) := fun t W hb => by
    have hz : w.heap.size < (w.alloc (.cells #[.string nm, .int .i64 ty] t)).heap.size := by simp
    refine ⟨?_, ?_, ((Below.refl w.heap.size w).alloc (Nat.le_refl _) _).trans (hb.mono (Nat.le_of_lt hz))⟩
    all_goals (rw [hb.cell (p := ⟨w.heap.size, _, none⟩) hz]; simp)
  go_enter Tryz.func64, Tryz.ntmps64
  go_wp2_with fail
  refine (iGoodName_any nm _ (hE.1.below ((Below.refl _ _).alloc (Nat.le_refl _) _))).mono ?_
  rintro e w1 ⟨rfl, hb1⟩
  obtain ⟨c0, c1, hbw⟩ := HB.out _ _ hb1
  clear hb1
  cases hN : nameB nm.data.toList with
  | false =>
    go_wp2_with fail
    go_ret
    exact ⟨ret_bool (by rw [hN]; rfl), hbw⟩
  | true =>
    go_wp2_with fail
    refine (isType_any ty _).mono ?_
    rintro e w2 ⟨rfl, rfl⟩
    go_wp2_with fail
    go_ret
    exact ⟨ret_bool (by rw [hN]; rfl), hbw⟩

set_option maxRecDepth 20000 in
set_option maxHeartbeats 400000 in
theorem isBare_any (nm : ByteArray) (ty mi marks code la lu : Int) (w : World) (h1 : 0 ≤ la) (h2 : la ≤ 12) (h3 : 0 ≤ lu) (h4 : lu ≤ 12) :
    Calls Tryz.prog 65 #[HeadV nm ty mi marks code la lu] w fun e w' => e = .returned (.bool (decide (marks = 0) && (decide (code = 0) && decide (la + lu = 0)))) ∧ Below w.heap.size w w' := by
  unfold HeadV
  by_cases hm : marks = 0
  · by_cases hc : code = 0
    · subst hm hc
      go_enter Tryz.func65, Tryz.ntmps65
      go_wp2_with fail
      go_ret
      exact ⟨ret_bool (by simp; rfl), (Below.refl w.heap.size w).alloc (Nat.le_refl _) _⟩
    · subst hm
      go_enter Tryz.func65, Tryz.ntmps65
      go_wp2_with fail
      go_ret
      exact ⟨ret_bool (by simp [hc]), (Below.refl w.heap.size w).alloc (Nat.le_refl _) _⟩
  · go_enter Tryz.func65, Tryz.ntmps65
    go_wp2_with fail
    go_ret
    exact ⟨ret_bool (by simp [hm]), (Below.refl w.heap.size w).alloc (Nat.le_refl _) _⟩

set_option maxRecDepth 20000 in
set_option maxHeartbeats 1000000 in
theorem headOf_any (mi : Int) (reply cutm : Bool) (code : Int) (nm : ByteArray) (ty : Int) (va vu : Value) (A U : List (List UInt8 × Int × Int × List UInt8)) (w : World) (ha : RRow w va A) (hu : RRow w vu U) :
    Calls Tryz.prog 34 #[MsgV mi reply cutm code nm ty va vu] w fun e w' => e = .returned (HeadV nm ty mi (marksI reply cutm) code A.length U.length) ∧ Below w.heap.size w w' := by
  unfold MsgV HeadV
  obtain ⟨aa, ca, rfl, _, hca, _⟩ := ha
  obtain ⟨au, cu, rfl, _, hcu, _⟩ := hu
  cases reply <;> cases cutm
  all_goals
    go_enter Tryz.func34, Tryz.ntmps34
    go_wp2_with fail
    (try simp only [Exit.inBlock, Exit.then])
    refine bodyPost_ret (results_cell_row rfl _ _ (w.heap.size + 1) 68 _ (0, 0) _ rfl ?_ Tryz.underlying68 rfl (by kernel_rfl)) rfl ⟨rfl, ((Below.refl w.heap.size w).alloc (Nat.le_refl _) _).alloc (by simp) _⟩
    rw [heap_alloc2_new]; rfl

theorem head_cells {W : World} {b : Nat} {v0 v1 v2 v3 v4 v5 v6 : Value} {t : TypeId} (h : W.heap[b]? = some (.cells #[v0, v1, v2, v3, v4, v5, v6] t)) :
    W.cell? ⟨b, 0, none⟩ = some v0 ∧ W.cell? ⟨b, 1, none⟩ = some v1 ∧ W.cell? ⟨b, 2, none⟩ = some v2 ∧ W.cell? ⟨b, 3, none⟩ = some v3 ∧ W.cell? ⟨b, 4, none⟩ = some v4 ∧ W.cell? ⟨b, 5, none⟩ = some v5 ∧ W.cell? ⟨b, 6, none⟩ = some v6 := by
  refine ⟨?_, ?_, ?_, ?_, ?_, ?_, ?_⟩ <;> (unfold World.cell?; rw [h]; rfl)
theorem marks_zero (reply cutm : Bool) : decide (marksI reply cutm = 0) = (!reply && !cutm) := by cases reply <;> cases cutm <;> rfl
theorem msgB_la {mi : Int} {reply cutm : Bool} {code : Int} {nm : List UInt8} {ty : Int} {A U : List (List UInt8 × Int × Int × List UInt8)} (h : (12 : Int) < A.length) : msgB mi reply cutm code nm ty A U = false := by
  unfold msgB
  have : recsB A = false := by unfold recsB; rw [decide_eq_false (by omega), Bool.and_false]
  rw [this]; simp
theorem msgB_lu {mi : Int} {reply cutm : Bool} {code : Int} {nm : List UInt8} {ty : Int} {A U : List (List UInt8 × Int × Int × List UInt8)} (h : (12 : Int) < U.length) : msgB mi reply cutm code nm ty A U = false := by
  unfold msgB
  have : recsB U = false := by unfold recsB; rw [decide_eq_false (by omega), Bool.and_false]
  rw [this]; simp
/-- The same in the program's order. -/
theorem msgB_by {mi : Int} {reply cutm : Bool} {code : Int} {nm : List UInt8} {ty : Int} {A U : List (List UInt8 × Int × Int × List UInt8)} (ha : A.length ≤ 12) (hu : U.length ≤ 12) :
    msgB mi reply cutm code nm ty A U = ((decide (0 ≤ mi) && decide (mi ≤ 65535)) && (codeB code && ((nameB nm && typB ty) && ((reply || (decide (marksI reply cutm = 0) && (decide (code = 0) && decide ((A.length : Int) + (U.length : Int) = 0)))) && (aresB A && aresB U))))) := by
  unfold msgB
  have e1 : recsB A = aresB A := by rw [recsB_are, decide_eq_true (by omega), Bool.and_true]
  have e2 : recsB U = aresB U := by rw [recsB_are, decide_eq_true (by omega), Bool.and_true]
  have e3 : decide ((A.length : Int) + (U.length : Int) = 0) = (decide ((A.length : Int) = 0) && decide ((U.length : Int) = 0)) := by
    rw [← Bool.decide_and]; exact decide_eq_decide.2 (by omega)
  rw [e1, e2, e3, marks_zero]
  cases (decide (0 ≤ mi) && decide (mi ≤ 65535)) <;> cases codeB code <;> cases nameB nm <;> cases typB ty <;> cases reply <;> cases cutm <;> cases decide (code = 0) <;> cases decide ((A.length : Int) = 0) <;> cases decide ((U.length : Int) = 0) <;> cases aresB A <;> cases aresB U <;> rfl

set_option maxRecDepth 20000 in
set_option maxHeartbeats 2000000 in
theorem iGoodMessage_any (mi : Int) (reply cutm : Bool) (code : Int) (nm : ByteArray) (ty : Int) (va vu : Value) (A U : List (List UInt8 × Int × Int × List UInt8)) (w : World) (ha : RRow w va A) (hu : RRow w vu U)
    (hxa : Hid (∀ x ∈ A, x.1.length ≤ 1048576 ∧ x.2.2.2.length ≤ 1048576)) (hxu : Hid (∀ x ∈ U, x.1.length ≤ 1048576 ∧ x.2.2.2.length ≤ 1048576)) (hE : EnvR w) :
    Calls Tryz.prog 26 #[MsgV mi reply cutm code nm ty va vu] w fun e w' => e = .returned (.bool (msgB mi reply cutm code nm.data.toList ty A U)) ∧ Below w.heap.size w w' := by
  have HD : Hid (∀ W, Below w.heap.size w W → Calls Tryz.prog 34 #[MsgV mi reply cutm code nm ty va vu] W fun e w' => e = .returned (HeadV nm ty mi (marksI reply cutm) code A.length U.length) ∧ Below W.heap.size W w') := fun W hW => headOf_any mi reply cutm code nm ty va vu A U W (ha.kept hW) (hu.kept hW)
  unfold MsgV at HD ⊢
  obtain ⟨aa, ca, rfl, _, hca, _⟩ := id ha
  obtain ⟨au, cu, rfl, _, hcu, _⟩ := id hu
  have HRA : Hid (∀ W, Below w.heap.size w W → RRow W (.slice aa A.length ca) A) := fun W hW => ha.kept hW
  have HRU : Hid (∀ W, Below w.heap.size w W → RRow W (.slice au U.length cu) U) := fun W hW => hu.kept hW
  clear ha hu
  have hb0 : Below w.heap.size w (w.alloc (.cells #[.int .i64 mi, .bool reply, .bool cutm, .int .i64 code, .string nm, .int .i64 ty, .slice aa A.length ca, .slice au U.length cu] 25)) := (Below.refl w.heap.size w).alloc (Nat.le_refl _) _
  by_cases g1 : (12 : Int) < A.length
  · have HR : Hid (msgB mi reply cutm code nm.data.toList ty A U = false) := msgB_la g1
    go_enter Tryz.func26, Tryz.ntmps26
    go_wp2_with fail
    go_ret
    exact ⟨ret_bool HR.out.symm, hb0⟩
  · by_cases g2 : (12 : Int) < U.length
    · have HR : Hid (msgB mi reply cutm code nm.data.toList ty A U = false) := msgB_lu g2
      go_enter Tryz.func26, Tryz.ntmps26
      go_wp2_with fail
      go_ret
      exact ⟨ret_bool HR.out.symm, hb0⟩
    · have HM : Hid (msgB mi reply cutm code nm.data.toList ty A U = ((decide (0 ≤ mi) && decide (mi ≤ 65535)) && (codeB code && ((nameB nm.data.toList && typB ty) && ((reply || (decide (marksI reply cutm = 0) && (decide (code = 0) && decide ((A.length : Int) + (U.length : Int) = 0)))) && (aresB A && aresB U)))))) := msgB_by (by omega) (by omega)
      obtain ⟨mk, hmk⟩ : ∃ mk, mk = marksI reply cutm := ⟨_, rfl⟩
      rw [← hmk] at HM HD
      clear hmk
      obtain ⟨ok, hok⟩ : ∃ ok, ok = msgB mi reply cutm code nm.data.toList ty A U := ⟨_, rfl⟩
      rw [← hok] at HM ⊢
      clear hok
      go_enter Tryz.func26, Tryz.ntmps26
      go_wp2_with fail
      refine (HD.out _ hb0).mono ?_
      rintro e w1 ⟨rfl, hb1⟩
      unfold HeadV
      obtain ⟨⟨c0, c1, c2, c3, c4, c5, c6, c7⟩, hbw1⟩ := box8 hb1
      have hz1 : w.heap.size < w1.heap.size := Nat.lt_of_lt_of_le (by simp) hb1.size
      have HB : Hid (∀ W, Below (w1.alloc (.cells #[.string nm, .int .i64 ty, .int .i64 mi, .int .i64 mk, .int .i64 code, .int .i64 A.length, .int .i64 U.length] 68)).heap.size (w1.alloc (.cells #[.string nm, .int .i64 ty, .int .i64 mi, .int .i64 mk, .int .i64 code, .int .i64 A.length, .int .i64 U.length] 68)) W →
          MsgAt W w.heap.size mi reply cutm code nm ty (.slice aa A.length ca) (.slice au U.length cu) ∧ W.heap[w1.heap.size]? = some (.cells #[.string nm, .int .i64 ty, .int .i64 mi, .int .i64 mk, .int .i64 code, .int .i64 A.length, .int .i64 U.length] 68) ∧ Below w.heap.size w W) := fun W hW => by
        have h1 : Below w1.heap.size w1 W := ((Below.refl w1.heap.size w1).alloc (Nat.le_refl _) _).trans (hW.mono (by simp))
        have h2 := box8 (hb1.trans (h1.mono hb1.size))
        exact ⟨h2.1, (hW.block _ (by simp)).trans (blk_new _ _), h2.2⟩
      have hbz := Below.refl (w1.alloc (.cells #[.string nm, .int .i64 ty, .int .i64 mi, .int .i64 mk, .int .i64 code, .int .i64 A.length, .int .i64 U.length] 68)).heap.size (w1.alloc (.cells #[.string nm, .int .i64 ty, .int .i64 mi, .int .i64 mk, .int .i64 code, .int .i64 A.length, .int .i64 U.length] 68))
      have hbwz := (HB.out _ hbz).2.2
      by_cases h1 : mi < 0
      · have HR : Hid (ok = false) := by rw [HM.out, decide_eq_false (by omega : ¬ (0 : Int) ≤ mi)]; rfl
        go_wp2_with fail
        go_ret
        exact ⟨ret_bool HR.out.symm, hbwz⟩
      · by_cases h2 : (65535 : Int) < mi
        · have HR : Hid (ok = false) := by rw [HM.out, decide_eq_false (by omega : ¬ mi ≤ 65535), Bool.and_false]; rfl
          go_wp2_with fail
          go_ret
          exact ⟨ret_bool HR.out.symm, hbwz⟩
        · rw [decide_eq_true (by omega : (0 : Int) ≤ mi), decide_eq_true (by omega : mi ≤ 65535)] at HM
          go_wp2_with fail
          refine (isCode_any code _).mono ?_
          rintro e w2 ⟨rfl, rfl⟩
          cases h3 : codeB code with
          | false =>
            have HR : Hid (ok = false) := by rw [HM.out, h3]; rfl
            clear h3
            go_wp2_with fail
            go_ret
            exact ⟨ret_bool HR.out.symm, hbwz⟩
          | true =>
            rw [h3] at HM
            clear h3
            go_wp2_with fail
            refine (ownerGood_any nm ty _ (hE.below hbwz)).mono ?_
            rintro e w3 ⟨rfl, hb3⟩
            clear c0 c1 c2 c3 c4 c5 c6 c7
            obtain ⟨⟨c0, c1, c2, c3, c4, c5, c6, c7⟩, HH, hbw3⟩ := HB.out _ hb3
            obtain ⟨d0, d1, d2, d3, d4, d5, d6⟩ := head_cells HH
            clear HH
            cases h4 : (nameB nm.data.toList && typB ty) with
            | false =>
              have HR : Hid (ok = false) := by rw [HM.out, h4]; rfl
              clear h4
              go_wp2_with fail
              go_ret
              exact ⟨ret_bool HR.out.symm, hbw3⟩
            | true =>
              rw [h4] at HM
              clear h4
              cases reply with
              | true =>
                have HZ : Hid (w1.heap.size ≤ w3.heap.size) := Nat.le_trans (by simp) hb3.size
                go_wp2_with fail
                refine (areRecords_any _ A _ (HRA.out _ hbw3) hxa (hE.below hbw3)).mono ?_
                rintro e w5 ⟨rfl, hb5⟩
                have hbw5 := hbw3.trans (hb5.mono hbw3.size)
                have c7' : w5.cell? ⟨w.heap.size, 7, none⟩ = some (.slice au U.length cu) := (hb5.cell (p := ⟨w.heap.size, 7, none⟩) (Nat.lt_of_lt_of_le hz1 HZ.out)).trans c7
                clear c0 c1 c2 c3 c4 c5 c6 c7
                cases h6 : aresB A with
                | false =>
                  have HR : Hid (ok = false) := by rw [HM.out, h6]; rfl
                  clear h6
                  go_wp2_with fail
                  go_ret
                  exact ⟨ret_bool HR.out.symm, hbw5⟩
                | true =>
                  have HR : Hid (ok = aresB U) := by rw [HM.out, h6]; rfl
                  clear h6
                  go_wp2_with fail
                  refine (areRecords_any _ U _ (HRU.out _ hbw5) hxu (hE.below hbw5)).mono ?_
                  rintro e w6 ⟨rfl, hb6⟩
                  go_wp2_with fail
                  go_ret
                  exact ⟨ret_bool HR.out.symm, hbw5.trans (hb6.mono hbw5.size)⟩
              | false =>
                go_wp2_with fail
                refine (isBare_any nm ty mi mk code A.length U.length _ (by omega) (by omega) (by omega) (by omega)).mono ?_
                rintro e w4 ⟨rfl, hb4⟩
                have hb34 := hb3.trans (hb4.mono hb3.size)
                clear c0 c1 c2 c3 c4 c5 c6 c7 d0 d1 d2 d3 d4 d5 d6
                obtain ⟨⟨c0, c1, c2, c3, c4, c5, c6, c7⟩, _, hbw4⟩ := HB.out _ hb34
                have HZ : Hid (w1.heap.size ≤ w4.heap.size) := Nat.le_trans (by simp) hb34.size
                cases h5 : (decide (mk = 0) && (decide (code = 0) && decide ((A.length : Int) + (U.length : Int) = 0))) with
                | false =>
                  have HR : Hid (ok = false) := by rw [HM.out, h5]; rfl
                  clear h5
                  go_wp2_with fail
                  go_ret
                  exact ⟨ret_bool HR.out.symm, hbw4⟩
                | true =>
                  rw [h5] at HM
                  clear h5
                  go_wp2_with fail
                  refine (areRecords_any _ A _ (HRA.out _ hbw4) hxa (hE.below hbw4)).mono ?_
                  rintro e w5 ⟨rfl, hb5⟩
                  have hbw5 := hbw4.trans (hb5.mono hbw4.size)
                  have c7' : w5.cell? ⟨w.heap.size, 7, none⟩ = some (.slice au U.length cu) := (hb5.cell (p := ⟨w.heap.size, 7, none⟩) (Nat.lt_of_lt_of_le hz1 HZ.out)).trans c7
                  clear c0 c1 c2 c3 c4 c5 c6 c7
                  cases h6 : aresB A with
                  | false =>
                    have HR : Hid (ok = false) := by rw [HM.out, h6]; rfl
                    clear h6
                    go_wp2_with fail
                    go_ret
                    exact ⟨ret_bool HR.out.symm, hbw5⟩
                  | true =>
                    have HR : Hid (ok = aresB U) := by rw [HM.out, h6]; rfl
                    clear h6
                    go_wp2_with fail
                    refine (areRecords_any _ U _ (HRU.out _ hbw5) hxu (hE.below hbw5)).mono ?_
                    rintro e w6 ⟨rfl, hb6⟩
                    go_wp2_with fail
                    go_ret
                    exact ⟨ret_bool HR.out.symm, hbw5.trans (hb6.mono hbw5.size)⟩
end Go.Proofs.YtpghpeombednkaaGreatDoor
