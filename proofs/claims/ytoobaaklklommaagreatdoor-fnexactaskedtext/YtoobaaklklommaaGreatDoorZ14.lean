import Derived.Test.YtoobaaklklommaaGreatDoorZ12
import Derived.Test.YtoobaaklklommaaGreatDoorZ07
import Derived.Deep.RegionHeld3
import Derived.Test.YtoobaaklklommaaGreatDoorZ09
import Derived.Laws.ResultCell
namespace Go.Proofs.YtoobaaklklommaaGreatDoor
open Go.RowKit

theorem addr_ne {g o a b : Nat} (h : a ≠ b) : (⟨g, o + a, none⟩ : Addr) ≠ ⟨g, o + b, none⟩ := fun e => by injection e with _ e2; omega
theorem QRow.upd {w : World} {g : Nat} {L : List (List UInt8 × Int × Int × List UInt8)} (h : QRow w g L) (k : Nat) (r : Nat) (hr : r < 4) (u : Value) (y : (List UInt8 × Int × Int × List UInt8)) (hy : RecAt (w.setCell ⟨g, k * 4 + r, none⟩ u) g (k * 4) y) : QRow (w.setCell ⟨g, k * 4 + r, none⟩ u) g (L.set k y) := by
  refine ⟨by simpa using h.1, fun j hj => ?_⟩
  have hj' : j < L.length := by simpa using hj
  refine ⟨?_, ?_⟩
  · rw [List.getElem_set]
    split
    · rename_i e; subst e; exact hy
    · rename_i e
      have h0 := (h.2 j hj').1
      have n : ∀ q, q < 4 → (⟨g, k * 4 + r, none⟩ : Addr) ≠ ⟨g, j * 4 + q, none⟩ := fun q hq e2 => by injection e2 with _ e3; omega
      unfold RecAt at h0 ⊢
      rw [World.cell?_setCell_other _ _ _ _ (show (⟨g, k * 4 + r, none⟩ : Addr) ≠ ⟨g, j * 4, none⟩ from n 0 (by omega)), World.cell?_setCell_other _ _ _ _ (n 1 (by omega)), World.cell?_setCell_other _ _ _ _ (n 2 (by omega)), World.cell?_setCell_other _ _ _ _ (n 3 (by omega))]
      exact h0
  · have h0 := (h.2 j hj').2
    unfold FzAt at h0 ⊢
    simpa using h0

theorem RecAt.set0 {w : World} {g o : Nat} {x : (List UInt8 × Int × Int × List UInt8)} (h : RecAt w g o x) (a : List UInt8) : RecAt (w.setCell ⟨g, o, none⟩ (.string ⟨a.toArray⟩)) g o (a, x.2.1, x.2.2.1, x.2.2.2) := by
  obtain ⟨h0, h1, h2, h3⟩ := h
  unfold RecAt
  refine ⟨?_, ?_, ?_, ?_⟩
  · exact World.cell?_setCell_same _ _ _ h0
  · rw [World.cell?_setCell_other _ _ _ _ (show (⟨g, o, none⟩ : Addr) ≠ ⟨g, o + 1, none⟩ from addr_ne (o := o) (a := 0) (b := 1) (by omega))]; exact h1
  · rw [World.cell?_setCell_other _ _ _ _ (show (⟨g, o, none⟩ : Addr) ≠ ⟨g, o + 2, none⟩ from addr_ne (o := o) (a := 0) (b := 2) (by omega))]; exact h2
  · rw [World.cell?_setCell_other _ _ _ _ (show (⟨g, o, none⟩ : Addr) ≠ ⟨g, o + 3, none⟩ from addr_ne (o := o) (a := 0) (b := 3) (by omega))]; exact h3
theorem RecAt.set1 {w : World} {g o : Nat} {x : (List UInt8 × Int × Int × List UInt8)} (h : RecAt w g o x) (a : Int) : RecAt (w.setCell ⟨g, o + 1, none⟩ (.int .i64 a)) g o (x.1, a, x.2.2.1, x.2.2.2) := by
  obtain ⟨h0, h1, h2, h3⟩ := h
  unfold RecAt
  refine ⟨?_, ?_, ?_, ?_⟩
  · rw [World.cell?_setCell_other _ _ _ _ (show (⟨g, o + 1, none⟩ : Addr) ≠ ⟨g, o, none⟩ from addr_ne (o := o) (a := 1) (b := 0) (by omega))]; exact h0
  · exact World.cell?_setCell_same _ _ _ h1
  · rw [World.cell?_setCell_other _ _ _ _ (show (⟨g, o + 1, none⟩ : Addr) ≠ ⟨g, o + 2, none⟩ from addr_ne (o := o) (a := 1) (b := 2) (by omega))]; exact h2
  · rw [World.cell?_setCell_other _ _ _ _ (show (⟨g, o + 1, none⟩ : Addr) ≠ ⟨g, o + 3, none⟩ from addr_ne (o := o) (a := 1) (b := 3) (by omega))]; exact h3
theorem RecAt.set2 {w : World} {g o : Nat} {x : (List UInt8 × Int × Int × List UInt8)} (h : RecAt w g o x) (a : Int) : RecAt (w.setCell ⟨g, o + 2, none⟩ (.int .i64 a)) g o (x.1, x.2.1, a, x.2.2.2) := by
  obtain ⟨h0, h1, h2, h3⟩ := h
  unfold RecAt
  refine ⟨?_, ?_, ?_, ?_⟩
  · rw [World.cell?_setCell_other _ _ _ _ (show (⟨g, o + 2, none⟩ : Addr) ≠ ⟨g, o, none⟩ from addr_ne (o := o) (a := 2) (b := 0) (by omega))]; exact h0
  · rw [World.cell?_setCell_other _ _ _ _ (show (⟨g, o + 2, none⟩ : Addr) ≠ ⟨g, o + 1, none⟩ from addr_ne (o := o) (a := 2) (b := 1) (by omega))]; exact h1
  · exact World.cell?_setCell_same _ _ _ h2
  · rw [World.cell?_setCell_other _ _ _ _ (show (⟨g, o + 2, none⟩ : Addr) ≠ ⟨g, o + 3, none⟩ from addr_ne (o := o) (a := 2) (b := 3) (by omega))]; exact h3
theorem RecAt.set3 {w : World} {g o : Nat} {x : (List UInt8 × Int × Int × List UInt8)} (h : RecAt w g o x) (a : List UInt8) : RecAt (w.setCell ⟨g, o + 3, none⟩ (.string ⟨a.toArray⟩)) g o (x.1, x.2.1, x.2.2.1, a) := by
  obtain ⟨h0, h1, h2, h3⟩ := h
  unfold RecAt
  refine ⟨?_, ?_, ?_, ?_⟩
  · rw [World.cell?_setCell_other _ _ _ _ (show (⟨g, o + 3, none⟩ : Addr) ≠ ⟨g, o, none⟩ from addr_ne (o := o) (a := 3) (b := 0) (by omega))]; exact h0
  · rw [World.cell?_setCell_other _ _ _ _ (show (⟨g, o + 3, none⟩ : Addr) ≠ ⟨g, o + 1, none⟩ from addr_ne (o := o) (a := 3) (b := 1) (by omega))]; exact h1
  · rw [World.cell?_setCell_other _ _ _ _ (show (⟨g, o + 3, none⟩ : Addr) ≠ ⟨g, o + 2, none⟩ from addr_ne (o := o) (a := 3) (b := 2) (by omega))]; exact h2
  · exact World.cell?_setCell_same _ _ _ h3
theorem QRow.set0 {w : World} {g : Nat} {L : List (List UInt8 × Int × Int × List UInt8)} (h : QRow w g L) (k : Nat) (hk : k < L.length) (a : List UInt8) : QRow (w.setCell ⟨g, k * 4, none⟩ (.string ⟨a.toArray⟩)) g (L.set k (a, L[k].2.1, L[k].2.2.1, L[k].2.2.2)) := by
  have h1 := (h.2 k hk).1.set0 a
  exact h.upd k 0 (by omega) _ _ h1
theorem QRow.set1 {w : World} {g : Nat} {L : List (List UInt8 × Int × Int × List UInt8)} (h : QRow w g L) (k : Nat) (hk : k < L.length) (a : Int) : QRow (w.setCell ⟨g, k * 4 + 1, none⟩ (.int .i64 a)) g (L.set k (L[k].1, a, L[k].2.2.1, L[k].2.2.2)) := by
  have h1 := (h.2 k hk).1.set1 a
  exact h.upd k 1 (by omega) _ _ h1
theorem QRow.set2 {w : World} {g : Nat} {L : List (List UInt8 × Int × Int × List UInt8)} (h : QRow w g L) (k : Nat) (hk : k < L.length) (a : Int) : QRow (w.setCell ⟨g, k * 4 + 2, none⟩ (.int .i64 a)) g (L.set k (L[k].1, L[k].2.1, a, L[k].2.2.2)) := by
  have h1 := (h.2 k hk).1.set2 a
  exact h.upd k 2 (by omega) _ _ h1
theorem QRow.set3 {w : World} {g : Nat} {L : List (List UInt8 × Int × Int × List UInt8)} (h : QRow w g L) (k : Nat) (hk : k < L.length) (a : List UInt8) : QRow (w.setCell ⟨g, k * 4 + 3, none⟩ (.string ⟨a.toArray⟩)) g (L.set k (L[k].1, L[k].2.1, L[k].2.2.1, a)) := by
  have h1 := (h.2 k hk).1.set3 a
  exact h.upd k 3 (by omega) _ _ h1

/-- The records that markRecordS lays, from a number on. -/
def mrk (K i : Nat) : (List UInt8 × Int × Int × List UInt8) := (mark (K + 4 * i), ((K + 4 * i + 1 : Nat) : Int), ((K + 4 * i + 2 : Nat) : Int), mark (K + 4 * i + 3))
def mrks (K n : Nat) : List (List UInt8 × Int × Int × List UInt8) := (List.range n).map (mrk K)
theorem mrks_length (K n : Nat) : (mrks K n).length = n := by simp [mrks]
theorem mrks_get (K n k : Nat) (h : k < n) : (mrks K n)[k]'(by rw [mrks_length]; exact h) = mrk K k := by simp [mrks]
def halfQ (K : Nat) (L : List (List UInt8 × Int × Int × List UInt8)) (k : Nat) : List (List UInt8 × Int × Int × List UInt8) := mrks K k ++ L.drop k
theorem halfQ_length (K : Nat) (L : List (List UInt8 × Int × Int × List UInt8)) (k : Nat) (h : k ≤ L.length) : (halfQ K L k).length = L.length := by simp [halfQ, mrks]; omega
theorem halfQ_zero (K : Nat) (L : List (List UInt8 × Int × Int × List UInt8)) : halfQ K L 0 = L := by simp [halfQ, mrks]
theorem halfQ_end (K : Nat) (L : List (List UInt8 × Int × Int × List UInt8)) : halfQ K L L.length = mrks K L.length := by simp [halfQ]
theorem halfQ_next (K : Nat) (L : List (List UInt8 × Int × Int × List UInt8)) (k : Nat) (h : k < L.length) : halfQ K L (k + 1) = (halfQ K L k).set k (mrk K k) := by
  unfold halfQ
  have hm : (mrks K k).length = k := mrks_length K k
  rw [List.set_append_right _ _ (by omega), hm, Nat.sub_self, List.drop_eq_getElem_cons h]
  simp only [mrks, List.range_succ, List.map_append, List.map_cons, List.map_nil, List.set_cons_zero, List.append_assoc, List.singleton_append]
/-- Records that the call owns, or nil. -/
def OwnQ (w : World) (base : Nat) (v : Value) (L : List (List UInt8 × Int × Int × List UInt8)) : Prop :=
  (v = .slice none 0 0 ∧ L = []) ∨ ∃ g cap, v = .slice (some ⟨g, 0, none⟩) L.length cap ∧ L.length ≤ cap ∧ cap ≤ maxLen ∧ base ≤ g ∧ QRow w g L
theorem rrow_nil (w : World) : RRow w (.slice none 0 0) [] := ⟨none, 0, rfl, Nat.le_refl _, by unfold maxLen; omega, .inl rfl⟩
theorem OwnQ.row {w : World} {base : Nat} {v : Value} {L : List (List UInt8 × Int × Int × List UInt8)} (h : OwnQ w base v L) : RRow w v L := by
  rcases h with ⟨rfl, rfl⟩ | ⟨g, cap, rfl, h1, h2, _, hs⟩
  · exact rrow_nil w
  · exact hs.row h1 h2
theorem OwnQ.kept {w w' : World} {base : Nat} {v : Value} {L : List (List UInt8 × Int × Int × List UInt8)} (h : OwnQ w base v L) (hb : Below w.heap.size w w') : OwnQ w' base v L := by
  rcases h with h | ⟨g, cap, rfl, h1, h2, h3, hs⟩
  · exact .inl h
  · exact .inr ⟨g, cap, rfl, h1, h2, h3, hs.kept hb⟩

set_option maxRecDepth 20000 in
set_option maxHeartbeats 2000000 in
theorem markRecordS_any (v : Value) (L : List (List UInt8 × Int × Int × List UInt8)) (base K : Nat) (w : World) (h : OwnQ w base v L) (hL : L.length ≤ 1048576) (hK0 : 0 < K) (hK : K ≤ 1073741824) :
    Calls Tryz.prog 100 #[v, .int .i64 (K : Int)] w fun e w' => e = .returned (.int .i64 ((K : Int) + 4 * (L.length : Int))) ∧ OwnQ w' base v (mrks K L.length) ∧ w.grownBy w' v.ownBlock := by
  rcases h with ⟨rfl, rfl⟩ | ⟨g, cap, rfl, hcap, hmax, hbase, hs⟩
  · go_enter Tryz.func100, Tryz.ntmps100
    go_wp2_with fail
    go_rounds 1
    go_ret
    exact ⟨ret_int (by simp), .inl ⟨rfl, rfl⟩, grown_refl _ _⟩
  · have HS : Hid (QRow w g L) := hs
    unfold maxLen at hmax
    clear hs
    go_enter Tryz.func100, Tryz.ntmps100
    go_wp2_with fail
    go_loopw [1, 5] (fun q i wr => ∃ k : Nat, k ≤ L.length ∧ i = .int .i64 (k : Int) ∧ q = .int .i64 ((K : Int) + 4 * (k : Int)) ∧ Hid (QRow wr g (halfQ K L k)) ∧ w.grownBy wr (some g)) (fun _ i _ => L.length - (intOf i).toNat)
    case atStart => exact ⟨0, Nat.zero_le _, rfl, by simp, by rw [halfQ_zero]; exact HS, grown_refl _ _⟩
    case round =>
      obtain ⟨k, hk, rfl, rfl, HR, hgr⟩ := hrel
      by_cases hlt : k < L.length
      · have hlq : k < (halfQ K L k).length := by rw [halfQ_length K L k hk]; exact hlt
        have HLQ : Hid (k < (halfQ K L k).length) := hlq
        have HN : Hid (halfQ K L (k + 1) = (halfQ K L k).set k (mrk K k)) := halfQ_next K L k hlt
        have HMK : Hid (mrk K k = (mark (K + 4 * k), (K : Int) + 4 * (k : Int) + 1, (K : Int) + 4 * (k : Int) + 1 + 1, mark (K + 4 * k + 3))) := by
          unfold mrk; show ((_, _, _, _) : (List UInt8 × Int × Int × List UInt8)) = _; congr 3 <;> omega
        obtain ⟨H, hH⟩ : ∃ H, H = halfQ K L k := ⟨_, rfl⟩
        rw [← hH] at HLQ HN HR
        clear hH hlq
        go_wp2_with fail
        refine (markText_any _ (K + 4 * k) _ (by exact (by omega : (K : Int) + 4 * (k : Int) = ((K + 4 * k : Nat) : Int))) (by omega) (by omega)).mono ?_
        rintro e w1 ⟨rfl, hb1⟩
        have hq1 := HR.out.kept hb1
        have hgr1 := grown_below hgr hb1
        obtain ⟨⟨m0, m1, m2, m3⟩, ⟨f0, f1, f2, f3⟩⟩ := hq1.2 k HLQ.out
        obtain ⟨y, hy⟩ : ∃ y, y = mark (K + 4 * k) := ⟨_, rfl⟩
        rw [← hy] at HMK ⊢
        have hq2 := hq1.set0 k HLQ.out y
        have hq3 := hq2.set1 k (by simpa using HLQ.out) ((K : Int) + 4 * (k : Int) + 1)
        have hq4 := hq3.set2 k (by simpa using HLQ.out) ((K : Int) + 4 * (k : Int) + 1 + 1)
        simp only [List.set_set, List.getElem_set_self] at hq3 hq4
        obtain ⟨x, hxe⟩ : ∃ x, x = H[k]'HLQ.out := ⟨_, rfl⟩
        rw [← hxe] at m0 m1 m2 m3 hq4
        have HQ4 : Hid (QRow (((w1.setCell ⟨g, k * 4, none⟩ (.string ⟨y.toArray⟩)).setCell ⟨g, k * 4 + 1, none⟩ (.int .i64 ((K : Int) + 4 * (k : Int) + 1))).setCell ⟨g, k * 4 + 2, none⟩ (.int .i64 ((K : Int) + 4 * (k : Int) + 1 + 1))) g (H.set k (y, (K : Int) + 4 * (k : Int) + 1, (K : Int) + 4 * (k : Int) + 1 + 1, x.2.2.2))) := hq4
        have hgr2 : w.grownBy (((w1.setCell ⟨g, k * 4, none⟩ (.string ⟨y.toArray⟩)).setCell ⟨g, k * 4 + 1, none⟩ (.int .i64 ((K : Int) + 4 * (k : Int) + 1))).setCell ⟨g, k * 4 + 2, none⟩ (.int .i64 ((K : Int) + 4 * (k : Int) + 1 + 1))) (some g) := grown_set (grown_set (grown_set hgr1))
        clear hq1 hq2 hq3 hq4 hb1 hgr hgr1 hy hxe HR
        go_wp2_with fail
        refine (markText_any _ (K + 4 * k + 3) _ (by exact (by omega : (K : Int) + 4 * (k : Int) + 1 + 1 + 1 = ((K + 4 * k + 3 : Nat) : Int))) (by omega) (by omega)).mono ?_
        rintro e w2 ⟨rfl, hb2⟩
        have hq5 := HQ4.out.kept hb2
        have hgr3 := grown_below hgr2 hb2
        have hl5 : k < (H.set k (y, (K : Int) + 4 * (k : Int) + 1, (K : Int) + 4 * (k : Int) + 1 + 1, x.2.2.2)).length := by simpa using HLQ.out
        obtain ⟨⟨n0, n1, n2, n3⟩, ⟨g0, g1, g2, g3⟩⟩ := hq5.2 k hl5
        simp only [List.getElem_set_self] at n0 n1 n2 n3
        obtain ⟨z, hz⟩ : ∃ z, z = mark (K + 4 * k + 3) := ⟨_, rfl⟩
        rw [← hz] at HMK ⊢
        have hq6 := hq5.set3 k hl5 z
        simp only [List.set_set, List.getElem_set_self] at hq6
        have HQ6 : Hid (QRow (w2.setCell ⟨g, k * 4 + 3, none⟩ (.string ⟨z.toArray⟩)) g (halfQ K L (k + 1))) := by rw [HN.out, HMK.out]; exact hq6
        have hgr4 : w.grownBy (w2.setCell ⟨g, k * 4 + 3, none⟩ (.string ⟨z.toArray⟩)) (some g) := grown_set hgr3
        clear hq5 hq6 hb2 hgr2 hgr3 hz m0 m1 m2 m3 f0 f1 f2 f3 hl5 HQ4
        go_wp2_with fail
        go_roundw
        case rel => exact ⟨k + 1, by omega, by go_num, congrArg (Value.int .i64) (by omega), HQ6, hgr4⟩
        case measure => simp [intOf]; omega
      · have hkk : k = L.length := by omega
        have HF : Hid (QRow wr g (mrks K L.length)) := by have := HR.out; rw [hkk, halfQ_end] at this; exact this
        have HK : Hid (k = L.length) := hkk
        clear hkk
        go_wp2_with fail
        go_ret
        exact ⟨ret_int (by rw [HK.out]), .inr ⟨g, cap, by rw [mrks_length], by rw [mrks_length]; exact hcap, by unfold maxLen; omega, hbase, HF.out⟩, hgr⟩
end Go.Proofs.YtoobaaklklommaaGreatDoor

namespace Go.Proofs.YtoobaaklklommaaGreatDoor
open Go.RowKit

theorem blk_new (w : World) (o : Obj) : (w.alloc o).heap[w.heap.size]? = some o := by
  show (w.heap.push o)[w.heap.size]? = some o
  simp
theorem heap3_new (w : World) (a b c : Obj) : (((w.alloc a).alloc b).alloc c).heap[w.heap.size + 1 + 1]? = some c := by
  have h := blk_new ((w.alloc a).alloc b) c
  simpa using h
theorem QRow.far {w : World} {g g' k : Nat} {L : List (List UInt8 × Int × Int × List UInt8)} (h : QRow w g L) (hne : g' ≠ g) (u : Value) : QRow (w.setCell ⟨g', k, none⟩ u) g L := by
  refine ⟨by simpa using h.1, fun j hj => ⟨?_, ?_⟩⟩
  · have h0 := (h.2 j hj).1
    have n : ∀ o, (⟨g', k, none⟩ : Addr) ≠ ⟨g, o, none⟩ := fun o e => hne (by injection e)
    unfold RecAt at h0 ⊢
    rw [World.cell?_setCell_other _ _ _ _ (n _), World.cell?_setCell_other _ _ _ _ (n _), World.cell?_setCell_other _ _ _ _ (n _), World.cell?_setCell_other _ _ _ _ (n _)]
    exact h0
  · have h0 := (h.2 j hj).2
    unfold FzAt at h0 ⊢
    simpa using h0
theorem box3 {w W : World} {a b c : Array Value} {t1 t2 t3 : TypeId} (hb : Below (((w.alloc (.cells a t1)).alloc (.cells b t2)).alloc (.cells c t3)).heap.size (((w.alloc (.cells a t1)).alloc (.cells b t2)).alloc (.cells c t3)) W) :
    (∀ j, W.cell? ⟨w.heap.size, j, none⟩ = a[j]?) ∧ (∀ j, W.cell? ⟨w.heap.size + 1 + 1, j, none⟩ = c[j]?) ∧ (∀ j, W.frozen? ⟨w.heap.size + 1 + 1, j, none⟩ = false) ∧ (∀ j, W.cell? ⟨w.heap.size + 1, j, none⟩ = b[j]?) ∧ (∀ j, W.frozen? ⟨w.heap.size + 1, j, none⟩ = false) ∧ w.heap.size + 1 + 1 < W.heap.size ∧ W.heap[w.heap.size + 1]? = some (.cells b t2) ∧ Below w.heap.size w W := by
  have hA : Below (w.alloc (.cells a t1)).heap.size (w.alloc (.cells a t1)) W := (((Below.refl _ _).alloc (Nat.le_refl _) _).alloc (by simp) _).trans (hb.mono (by simp))
  have hB : Below ((w.alloc (.cells a t1)).alloc (.cells b t2)).heap.size ((w.alloc (.cells a t1)).alloc (.cells b t2)) W := ((Below.refl _ _).alloc (Nat.le_refl _) _).trans (hb.mono (by simp))
  have h2 : ((w.alloc (.cells a t1)).alloc (.cells b t2)).heap[w.heap.size + 1]? = some (.cells b t2) := by
    have h := blk_new (w.alloc (.cells a t1)) (.cells b t2)
    simpa using h
  refine ⟨fun j => ?_, fun j => ?_, fun j => ?_, fun j => ?_, fun j => ?_, Nat.lt_of_lt_of_le (by simp) hb.size, by rw [hB.block _ (by simp)]; exact h2, ((Below.refl w.heap.size w).alloc (Nat.le_refl _) _).trans (hA.mono (by simp))⟩
  · rw [hA.cell (p := ⟨w.heap.size, j, none⟩) (by simp)]
    unfold World.cell?
    rw [blk_new]; rfl
  · rw [hb.cell (p := ⟨w.heap.size + 1 + 1, j, none⟩) (by simp)]
    unfold World.cell?
    rw [heap3_new]; rfl
  · rw [hb.frozen (p := ⟨w.heap.size + 1 + 1, j, none⟩) (by simp)]
    unfold World.frozen?
    rw [heap3_new]; simp
  · rw [hB.cell (p := ⟨w.heap.size + 1, j, none⟩) (by simp)]
    unfold World.cell?
    rw [h2]; rfl
  · rw [hB.frozen (p := ⟨w.heap.size + 1, j, none⟩) (by simp)]
    unfold World.frozen?
    rw [h2]; simp

theorem box2 {w W : World} {a b : Array Value} {t1 t2 : TypeId} (hb : Below ((w.alloc (.cells a t1)).alloc (.cells b t2)).heap.size ((w.alloc (.cells a t1)).alloc (.cells b t2)) W) :
    (∀ j, W.cell? ⟨w.heap.size, j, none⟩ = a[j]?) ∧ (∀ j, W.cell? ⟨w.heap.size + 1, j, none⟩ = b[j]?) ∧ Below w.heap.size w W := by
  have hA : Below (w.alloc (.cells a t1)).heap.size (w.alloc (.cells a t1)) W := ((Below.refl _ _).alloc (Nat.le_refl _) _).trans (hb.mono (by simp))
  have h2 : ((w.alloc (.cells a t1)).alloc (.cells b t2)).heap[w.heap.size + 1]? = some (.cells b t2) := by
    have h := blk_new (w.alloc (.cells a t1)) (.cells b t2)
    simpa using h
  refine ⟨fun j => ?_, fun j => ?_, ((Below.refl w.heap.size w).alloc (Nat.le_refl _) _).trans (hA.mono (by simp))⟩
  · rw [hA.cell (p := ⟨w.heap.size, j, none⟩) (by simp)]
    unfold World.cell?
    rw [blk_new]; rfl
  · rw [hb.cell (p := ⟨w.heap.size + 1, j, none⟩) (by simp)]
    unfold World.cell?
    rw [h2]; rfl

theorem Kpt.recAt {a b : World} {S : Nat → Prop} (h : Kpt a b S) {g o : Nat} {x : (List UInt8 × Int × Int × List UInt8)} (hr : RecAt a g o x) (hn : ¬ S g) : RecAt b g o x :=
  ⟨h.cell hr.1 hn, h.cell hr.2.1 hn, h.cell hr.2.2.1 hn, h.cell hr.2.2.2 hn⟩
theorem QRow.kpt {a b : World} {S : Nat → Prop} {g : Nat} {L : List (List UInt8 × Int × Int × List UInt8)} (hq : QRow a g L) (h : Kpt a b S) (hn : ¬ S g) : QRow b g L := by
  refine ⟨Nat.lt_of_lt_of_le hq.1 h.size, fun j hj => ⟨h.recAt (hq.2 j hj).1 hn, ?_⟩⟩
  have h0 := (hq.2 j hj).2
  have hb := h.block g hq.1 hn
  unfold FzAt at h0 ⊢
  rw [World.frozen?_of_block (w := a) (w' := b) (a := ⟨g, j * 4, none⟩) hb, World.frozen?_of_block (w := a) (w' := b) (a := ⟨g, j * 4 + 1, none⟩) hb, World.frozen?_of_block (w := a) (w' := b) (a := ⟨g, j * 4 + 2, none⟩) hb, World.frozen?_of_block (w := a) (w' := b) (a := ⟨g, j * 4 + 3, none⟩) hb]
  exact h0
theorem RRow.kpt {a b : World} {S : Nat → Prop} {v : Value} {L : List (List UInt8 × Int × Int × List UInt8)} (hq : RRow a v L) (h : Kpt a b S) (hn : ∀ g o n c, v = .slice (some ⟨g, o, none⟩) n c → L ≠ [] → ¬ S g) : RRow b v L := by
  obtain ⟨x, cap, rfl, h1, h2, h3⟩ := hq
  refine ⟨x, cap, rfl, h1, h2, ?_⟩
  rcases h3 with h3 | ⟨g, o, rfl, hl, hr⟩
  · exact .inl h3
  · by_cases h0 : L = []
    · exact .inl h0
    · exact .inr ⟨g, o, rfl, Nat.lt_of_lt_of_le hl h.size, fun j hj => h.recAt (hr j hj) (hn g o _ _ rfl h0)⟩
theorem OwnQ.kpt {a b : World} {S : Nat → Prop} {base : Nat} {v : Value} {L : List (List UInt8 × Int × Int × List UInt8)} (hq : OwnQ a base v L) (h : Kpt a b S) (hn : ∀ g, v.ownBlock = some g → ¬ S g) : OwnQ b base v L := by
  rcases hq with hq | ⟨g, cap, rfl, h1, h2, h3, hs⟩
  · exact .inl hq
  · exact .inr ⟨g, cap, rfl, h1, h2, h3, hs.kpt h (hn g rfl)⟩
theorem OwnQ.lt {w : World} {base : Nat} {v : Value} {L : List (List UInt8 × Int × Int × List UInt8)} (hq : OwnQ w base v L) : ∀ g, v.ownBlock = some g → base ≤ g ∧ g < w.heap.size := by
  intro g hg
  rcases hq with ⟨rfl, _⟩ | ⟨g', cap, rfl, h1, h2, h3, hs⟩
  · cases hg
  · injection hg with hg
    subst hg; exact ⟨h3, hs.1⟩
theorem OwnQ.shape {w : World} {base : Nat} {v : Value} {L : List (List UInt8 × Int × Int × List UInt8)} (hq : OwnQ w base v L) : ∃ a cap, v = .slice a L.length cap ∧ cap ≤ maxLen := by
  rcases hq with ⟨rfl, rfl⟩ | ⟨g, cap, rfl, h1, h2, h3, hs⟩
  · exact ⟨none, 0, rfl, by unfold maxLen; omega⟩
  · exact ⟨_, cap, rfl, h2⟩
theorem wtR_mem {A : List (List UInt8 × Int × Int × List UInt8)} {x : List UInt8 × Int × Int × List UInt8} (h : x ∈ A) : x.1.length + x.2.2.2.length ≤ wtR A := by
  unfold wtR
  induction A with
  | nil => cases h
  | cons y r ih =>
    rcases List.mem_cons.1 h with rfl | h
    · simp
    · have := ih h; simp; omega
theorem some_nil (b n m : Nat) : ∀ n' c, Value.slice (some ⟨b, 0, none⟩) n m = .slice none n' c → c = 0 := fun n' c h => by cases h
theorem heaps2 {w W : World} {a b : Array Value} {t1 t2 : TypeId} (hb : Below ((w.alloc (.cells a t1)).alloc (.cells b t2)).heap.size ((w.alloc (.cells a t1)).alloc (.cells b t2)) W) :
    W.heap[w.heap.size]? = some (.cells a t1) ∧ W.heap[w.heap.size + 1]? = some (.cells b t2) ∧ Below w.heap.size w W := by
  have hA : Below (w.alloc (.cells a t1)).heap.size (w.alloc (.cells a t1)) W := ((Below.refl _ _).alloc (Nat.le_refl _) _).trans (hb.mono (by simp))
  have h2 : ((w.alloc (.cells a t1)).alloc (.cells b t2)).heap[w.heap.size + 1]? = some (.cells b t2) := by
    have h := blk_new (w.alloc (.cells a t1)) (.cells b t2)
    simpa using h
  refine ⟨?_, ?_, ((Below.refl w.heap.size w).alloc (Nat.le_refl _) _).trans (hA.mono (by simp))⟩
  · rw [hA.block _ (by simp)]; exact blk_new _ _
  · rw [hb.block _ (by simp)]; exact h2
/-- A struct and a bool, told. -/
theorem results_row_tmp {P : Program} {fn : Func} {p u : Tmp} {ty : TypeId} (h : fn.results = #[.cell p ty, .tmp u]) (tmps : Array Value) (w : World) (g : Nat) (t : TypeId) (cs : Array Value) (fr : Nat × Nat) (d : TypeDesc) (x : Value)
    (hp : tmps.getD p undef = .pointer (some ⟨g, 0, none⟩)) (hu : tmps.getD u undef = x) (hg : w.heap[g]? = some (.cells cs t fr))
    (hd0 : P.underlying ty = some d) (hd : (match d with | .struct _ | .array _ _ => true | _ => false) = true) (hi : (P.info? ty).map (·.size) = some cs.size) :
    (results fn tmps).run P w = .ok (.tuple #[.agg cs, x]) w := by
  have hp' : tmps[p]?.getD undef = .pointer (some ⟨g, 0, none⟩) := by simpa using hp
  have hu' : tmps[u]?.getD undef = x := by simpa using hu
  rw [results_cell_tmp h]
  simp [hp', hu', asAddr, run_loadVar_row w g t ty cs fr d hg hd0 hd hi, Result.andThen]
end Go.Proofs.YtoobaaklklommaaGreatDoor
