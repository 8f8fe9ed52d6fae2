import Derived.Test.YtphhgjdpfcmpgaaGreatDoorZ20
import Derived.Test.YtphhgjdpfcmpgaaGreatDoorZ08
import Derived.Deep.RegionHeld3
import Derived.Test.YtphhgjdpfcmpgaaGreatDoorZ10
namespace Go.Proofs.YtphhgjdpfcmpgaaGreatDoor
open Go.RowKit

theorem addr_ne {g o a b : Nat} (h : a ≠ b) : (⟨g, o + a, none⟩ : Addr) ≠ ⟨g, o + b, none⟩ := fun e => by injection e with _ e2; omega
theorem QRow.upd {w : World} {g : Nat} {L : List (List UInt8 × Int × Int × List UInt8)} (h : QRow w g L) (k : Nat) (r : Nat) (hr : r < 4) (u : Value) (y : (List UInt8 × Int × Int × List UInt8)) (hy : RecAt (w.setCell ⟨g, k * 4 + r, none⟩ u) g (k * 4) y) : QRow (w.setCell ⟨g, k * 4 + r, none⟩ u) g (L.set k y) := by
  refine ⟨by simpa using h.1, fun j hj => ?_⟩
  have hj' : j < L.length := by simpa using hj
  refine ⟨?_, ?_⟩
  · rw [List.getElem_set]
    split
    · rename_i e; subst e; exact hy
    · rename_i e
      have h0 := (h.2 j hj').1
      have n : ∀ q, q < 4 → (⟨g, k * 4 + r, none⟩ : Addr) ≠ ⟨g, j * 4 + q, none⟩ := fun q hq e2 => by injection e2 with _ e3; omega
      unfold RecAt at h0 ⊢
      rw [World.cell?_setCell_other _ _ _ _ (show (⟨g, k * 4 + r, none⟩ : Addr) ≠ ⟨g, j * 4, none⟩ from n 0 (by omega)), World.cell?_setCell_other _ _ _ _ (n 1 (by omega)), World.cell?_setCell_other _ _ _ _ (n 2 (by omega)), World.cell?_setCell_other _ _ _ _ (n 3 (by omega))]
      exact h0
  · have h0 := (h.2 j hj').2
    unfold FzAt at h0 ⊢
    simpa using h0

theorem RecAt.set0 {w : World} {g o : Nat} {x : (List UInt8 × Int × Int × List UInt8)} (h : RecAt w g o x) (a : List UInt8) : RecAt (w.setCell ⟨g, o, none⟩ (.string ⟨a.toArray⟩)) g o (a, x.2.1, x.2.2.1, x.2.2.2) := by
  obtain ⟨h0, h1, h2, h3⟩ := h
  unfold RecAt
  refine ⟨?_, ?_, ?_, ?_⟩
  · exact World.cell?_setCell_same _ _ _ h0
  · rw [World.cell?_setCell_other _ _ _ _ (show (⟨g, o, none⟩ : Addr) ≠ ⟨g, o + 1, none⟩ from addr_ne (o := o) (a := 0) (b := 1) (by omega))]; exact h1
  · rw [World.cell?_setCell_other _ _ _ _ (show (⟨g, o, none⟩ : Addr) ≠ ⟨g, o + 2, none⟩ from addr_ne (o := o) (a := 0) (b := 2) (by omega))]; exact h2
  · rw [World.cell?_setCell_other _ _ _ _ (show (⟨g, o, none⟩ : Addr) ≠ ⟨g, o + 3, none⟩ from addr_ne (o := o) (a := 0) (b := 3) (by omega))]; exact h3
theorem RecAt.set1 {w : World} {g o : Nat} {x : (List UInt8 × Int × Int × List UInt8)} (h : RecAt w g o x) (a : Int) : RecAt (w.setCell ⟨g, o + 1, none⟩ (.int .i64 a)) g o (x.1, a, x.2.2.1, x.2.2.2) := by
  obtain ⟨h0, h1, h2, h3⟩ := h
  unfold RecAt
  refine ⟨?_, ?_, ?_, ?_⟩
  · rw [World.cell?_setCell_other _ _ _ _ (show (⟨g, o + 1, none⟩ : Addr) ≠ ⟨g, o, none⟩ from addr_ne (o := o) (a := 1) (b := 0) (by omega))]; exact h0
  · exact World.cell?_setCell_same _ _ _ h1
  · rw [World.cell?_setCell_other _ _ _ _ (show (⟨g, o + 1, none⟩ : Addr) ≠ ⟨g, o + 2, none⟩ from addr_ne (o := o) (a := 1) (b := 2) (by omega))]; exact h2
  · rw [World.cell?_setCell_other _ _ _ _ (show (⟨g, o + 1, none⟩ : Addr) ≠ ⟨g, o + 3, none⟩ from addr_ne (o := o) (a := 1) (b := 3) (by omega))]; exact h3
theorem RecAt.set2 {w : World} {g o : Nat} {x : (List UInt8 × Int × Int × List UInt8)} (h : RecAt w g o x) (a : Int) : RecAt (w.setCell ⟨g, o + 2, none⟩ (.int .i64 a)) g o (x.1, x.2.1, a, x.2.2.2) := by
  obtain ⟨h0, h1, h2, h3⟩ := h
  unfold RecAt
  refine ⟨?_, ?_, ?_, ?_⟩
  · rw [World.cell?_setCell_other _ _ _ _ (show (⟨g, o + 2, none⟩ : Addr) ≠ ⟨g, o, none⟩ from addr_ne (o := o) (a := 2) (b := 0) (by omega))]; exact h0
  · rw [World.cell?_setCell_other _ _ _ _ (show (⟨g, o + 2, none⟩ : Addr) ≠ ⟨g, o + 1, none⟩ from addr_ne (o := o) (a := 2) (b := 1) (by omega))]; exact h1
  · exact World.cell?_setCell_same _ _ _ h2
  · rw [World.cell?_setCell_other _ _ _ _ (show (⟨g, o + 2, none⟩ : Addr) ≠ ⟨g, o + 3, none⟩ from addr_ne (o := o) (a := 2) (b := 3) (by omega))]; exact h3
theorem RecAt.set3 {w : World} {g o : Nat} {x : (List UInt8 × Int × Int × List UInt8)} (h : RecAt w g o x) (a : List UInt8) : RecAt (w.setCell ⟨g, o + 3, none⟩ (.string ⟨a.toArray⟩)) g o (x.1, x.2.1, x.2.2.1, a) := by
  obtain ⟨h0, h1, h2, h3⟩ := h
  unfold RecAt
  refine ⟨?_, ?_, ?_, ?_⟩
  · rw [World.cell?_setCell_other _ _ _ _ (show (⟨g, o + 3, none⟩ : Addr) ≠ ⟨g, o, none⟩ from addr_ne (o := o) (a := 3) (b := 0) (by omega))]; exact h0
  · rw [World.cell?_setCell_other _ _ _ _ (show (⟨g, o + 3, none⟩ : Addr) ≠ ⟨g, o + 1, none⟩ from addr_ne (o := o) (a := 3) (b := 1) (by omega))]; exact h1
  · rw [World.cell?_setCell_other _ _ _ _ (show (⟨g, o + 3, none⟩ : Addr) ≠ ⟨g, o + 2, none⟩ from addr_ne (o := o) (a := 3) (b := 2) (by omega))]; exact h2
  · exact World.cell?_setCell_same _ _ _ h3
theorem QRow.set0 {w : World} {g : Nat} {L : List (List UInt8 × Int × Int × List UInt8)} (h : QRow w g L) (k : Nat) (hk : k < L.length) (a : List UInt8) : QRow (w.setCell ⟨g, k * 4, none⟩ (.string ⟨a.toArray⟩)) g (L.set k (a, L[k].2.1, L[k].2.2.1, L[k].2.2.2)) := by
  have h1 := (h.2 k hk).1.set0 a
  exact h.upd k 0 (by omega) _ _ h1
theorem QRow.set1 {w : World} {g : Nat} {L : List (List UInt8 × Int × Int × List UInt8)} (h : QRow w g L) (k : Nat) (hk : k < L.length) (a : Int) : QRow (w.setCell ⟨g, k * 4 + 1, none⟩ (.int .i64 a)) g (L.set k (L[k].1, a, L[k].2.2.1, L[k].2.2.2)) := by
  have h1 := (h.2 k hk).1.set1 a
  exact h.upd k 1 (by omega) _ _ h1
theorem QRow.set2 {w : World} {g : Nat} {L : List (List UInt8 × Int × Int × List UInt8)} (h : QRow w g L) (k : Nat) (hk : k < L.length) (a : Int) : QRow (w.setCell ⟨g, k * 4 + 2, none⟩ (.int .i64 a)) g (L.set k (L[k].1, L[k].2.1, a, L[k].2.2.2)) := by
  have h1 := (h.2 k hk).1.set2 a
  exact h.upd k 2 (by omega) _ _ h1
theorem QRow.set3 {w : World} {g : Nat} {L : List (List UInt8 × Int × Int × List UInt8)} (h : QRow w g L) (k : Nat) (hk : k < L.length) (a : List UInt8) : QRow (w.setCell ⟨g, k * 4 + 3, none⟩ (.string ⟨a.toArray⟩)) g (L.set k (L[k].1, L[k].2.1, L[k].2.2.1, a)) := by
  have h1 := (h.2 k hk).1.set3 a
  exact h.upd k 3 (by omega) _ _ h1

/-- The records that markRecordS lays, from a number on. -/
def mrk (K i : Nat) : (List UInt8 × Int × Int × List UInt8) := (mark (K + 4 * i), ((K + 4 * i + 1 : Nat) : Int), ((K + 4 * i + 2 : Nat) : Int), mark (K + 4 * i + 3))
def mrks (K n : Nat) : List (List UInt8 × Int × Int × List UInt8) := (List.range n).map (mrk K)
theorem mrks_length (K n : Nat) : (mrks K n).length = n := by simp [mrks]
theorem mrks_get (K n k : Nat) (h : k < n) : (mrks K n)[k]'(by rw [mrks_length]; exact h) = mrk K k := by simp [mrks]
def halfQ (K : Nat) (L : List (List UInt8 × Int × Int × List UInt8)) (k : Nat) : List (List UInt8 × Int × Int × List UInt8) := mrks K k ++ L.drop k
theorem halfQ_length (K : Nat) (L : List (List UInt8 × Int × Int × List UInt8)) (k : Nat) (h : k ≤ L.length) : (halfQ K L k).length = L.length := by simp [halfQ, mrks]; omega
theorem halfQ_zero (K : Nat) (L : List (List UInt8 × Int × Int × List UInt8)) : halfQ K L 0 = L := by simp [halfQ, mrks]
theorem halfQ_end (K : Nat) (L : List (List UInt8 × Int × Int × List UInt8)) : halfQ K L L.length = mrks K L.length := by simp [halfQ]
theorem halfQ_next (K : Nat) (L : List (List UInt8 × Int × Int × List UInt8)) (k : Nat) (h : k < L.length) : halfQ K L (k + 1) = (halfQ K L k).set k (mrk K k) := by
  unfold halfQ
  have hm : (mrks K k).length = k := mrks_length K k
  rw [List.set_append_right _ _ (by omega), hm, Nat.sub_self, List.drop_eq_getElem_cons h]
  simp only [mrks, List.range_succ, List.map_append, List.map_cons, List.map_nil, List.set_cons_zero, List.append_assoc, List.singleton_append]
/-- Records that the call owns, or nil. -/
def OwnQ (w : World) (base : Nat) (v : Value) (L : List (List UInt8 × Int × Int × List UInt8)) : Prop :=
  (v = .slice none 0 0 ∧ L = []) ∨ ∃ g cap, v = .slice (some ⟨g, 0, none⟩) L.length cap ∧ L.length ≤ cap ∧ cap ≤ maxLen ∧ base ≤ g ∧ QRow w g L
theorem rrow_nil (w : World) : RRow w (.slice none 0 0) [] := ⟨none, 0, rfl, Nat.le_refl _, by unfold maxLen; omega, .inl rfl⟩
theorem OwnQ.row {w : World} {base : Nat} {v : Value} {L : List (List UInt8 × Int × Int × List UInt8)} (h : OwnQ w base v L) : RRow w v L := by
  rcases h with ⟨rfl, rfl⟩ | ⟨g, cap, rfl, h1, h2, _, hs⟩
  · exact rrow_nil w
  · exact hs.row h1 h2
theorem OwnQ.kept {w w' : World} {base : Nat} {v : Value} {L : List (List UInt8 × Int × Int × List UInt8)} (h : OwnQ w base v L) (hb : Below w.heap.size w w') : OwnQ w' base v L := by
  rcases h with h | ⟨g, cap, rfl, h1, h2, h3, hs⟩
  · exact .inl h
  · exact .inr ⟨g, cap, rfl, h1, h2, h3, hs.kept hb⟩

set_option maxRecDepth 20000 in
set_option maxHeartbeats 2000000 in
theorem markRecordS_any (v : Value) (L : List (List UInt8 × Int × Int × List UInt8)) (base K : Nat) (w : World) (h : OwnQ w base v L) (hL : L.length ≤ 1048576) (hK0 : 0 < K) (hK : K ≤ 1073741824) :
    Calls Tryz.prog 34 #[v, .int .i64 (K : Int)] w fun e w' => e = .returned (.int .i64 ((K : Int) + 4 * (L.length : Int))) ∧ OwnQ w' base v (mrks K L.length) ∧ w.grownBy w' v.ownBlock := by
  rcases h with ⟨rfl, rfl⟩ | ⟨g, cap, rfl, hcap, hmax, hbase, hs⟩
  · go_enter Tryz.func34, Tryz.ntmps34
    go_wp2_with fail
    go_rounds 1
    go_ret
    exact ⟨ret_int (by simp), .inl ⟨rfl, rfl⟩, grown_refl _ _⟩
  · have HS : Hid (QRow w g L) := hs
    unfold maxLen at hmax
    clear hs
    go_enter Tryz.func34, Tryz.ntmps34
    go_wp2_with fail
    go_loopw [1, 5] (fun q i wr => ∃ k : Nat, k ≤ L.length ∧ i = .int .i64 (k : Int) ∧ q = .int .i64 ((K : Int) + 4 * (k : Int)) ∧ Hid (QRow wr g (halfQ K L k)) ∧ w.grownBy wr (some g)) (fun _ i _ => L.length - (intOf i).toNat)
    case atStart => exact ⟨0, Nat.zero_le _, rfl, by simp, by rw [halfQ_zero]; exact HS, grown_refl _ _⟩
    case round =>
      obtain ⟨k, hk, rfl, rfl, HR, hgr⟩ := hrel
      by_cases hlt : k < L.length
      · have hlq : k < (halfQ K L k).length := by rw [halfQ_length K L k hk]; exact hlt
        have HLQ : Hid (k < (halfQ K L k).length) := hlq
        have HN : Hid (halfQ K L (k + 1) = (halfQ K L k).set k (mrk K k)) := halfQ_next K L k hlt
        have HMK : Hid (mrk K k = (mark (K + 4 * k), (K : Int) + 4 * (k : Int) + 1, (K : Int) + 4 * (k : Int) + 1 + 1, mark (K + 4 * k + 3))) := by
          unfold mrk; show ((_, _, _, _) : (List UInt8 × Int × Int × List UInt8)) = _; congr 3 <;> omega
        obtain ⟨H, hH⟩ : ∃ H, H = halfQ K L k := ⟨_, rfl⟩
        rw [← hH] at HLQ HN HR
        clear hH hlq
        go_wp2_with fail
        refine (markText_any _ (K + 4 * k) _ (by exact (by omega : (K : Int) + 4 * (k : Int) = ((K + 4 * k : Nat) : Int))) (by omega) (by omega)).mono ?_
        rintro e w1 ⟨rfl, hb1⟩
        have hq1 := HR.out.kept hb1
        have hgr1 := grown_below hgr hb1
        obtain ⟨⟨m0, m1, m2, m3⟩, ⟨f0, f1, f2, f3⟩⟩ := hq1.2 k HLQ.out
        obtain ⟨y, hy⟩ : ∃ y, y = mark (K + 4 * k) := ⟨_, rfl⟩
        rw [← hy] at HMK ⊢
        have hq2 := hq1.set0 k HLQ.out y
        have hq3 := hq2.set1 k (by simpa using HLQ.out) ((K : Int) + 4 * (k : Int) + 1)
        have hq4 := hq3.set2 k (by simpa using HLQ.out) ((K : Int) + 4 * (k : Int) + 1 + 1)
        simp only [List.set_set, List.getElem_set_self] at hq3 hq4
        obtain ⟨x, hxe⟩ : ∃ x, x = H[k]'HLQ.out := ⟨_, rfl⟩
        rw [← hxe] at m0 m1 m2 m3 hq4
        have HQ4 : Hid (QRow (((w1.setCell ⟨g, k * 4, none⟩ (.string ⟨y.toArray⟩)).setCell ⟨g, k * 4 + 1, none⟩ (.int .i64 ((K : Int) + 4 * (k : Int) + 1))).setCell ⟨g, k * 4 + 2, none⟩ (.int .i64 ((K : Int) + 4 * (k : Int) + 1 + 1))) g (H.set k (y, (K : Int) + 4 * (k : Int) + 1, (K : Int) + 4 * (k : Int) + 1 + 1, x.2.2.2))) := hq4
        have hgr2 : w.grownBy (((w1.setCell ⟨g, k * 4, none⟩ (.string ⟨y.toArray⟩)).setCell ⟨g, k * 4 + 1, none⟩ (.int .i64 ((K : Int) + 4 * (k : Int) + 1))).setCell ⟨g, k * 4 + 2, none⟩ (.int .i64 ((K : Int) + 4 * (k : Int) + 1 + 1))) (some g) := grown_set (grown_set (grown_set hgr1))
        clear hq1 hq2 hq3 hq4 hb1 hgr hgr1 hy hxe HR
        go_wp2_with fail
        refine (markText_any _ (K + 4 * k + 3) _ (by exact (by omega : (K : Int) + 4 * (k : Int) + 1 + 1 + 1 = ((K + 4 * k + 3 : Nat) : Int))) (by omega) (by omega)).mono ?_
        rintro e w2 ⟨rfl, hb2⟩
        have hq5 := HQ4.out.kept hb2
        have hgr3 := grown_below hgr2 hb2
        have hl5 : k < (H.set k (y, (K : Int) + 4 * (k : Int) + 1, (K : Int) + 4 * (k : Int) + 1 + 1, x.2.2.2)).length := by simpa using HLQ.out
        obtain ⟨⟨n0, n1, n2, n3⟩, ⟨g0, g1, g2, g3⟩⟩ := hq5.2 k hl5
        simp only [List.getElem_set_self] at n0 n1 n2 n3
        obtain ⟨z, hz⟩ : ∃ z, z = mark (K + 4 * k + 3) := ⟨_, rfl⟩
        rw [← hz] at HMK ⊢
        have hq6 := hq5.set3 k hl5 z
        simp only [List.set_set, List.getElem_set_self] at hq6
        have HQ6 : Hid (QRow (w2.setCell ⟨g, k * 4 + 3, none⟩ (.string ⟨z.toArray⟩)) g (halfQ K L (k + 1))) := by rw [HN.out, HMK.out]; exact hq6
        have hgr4 : w.grownBy (w2.setCell ⟨g, k * 4 + 3, none⟩ (.string ⟨z.toArray⟩)) (some g) := grown_set hgr3
        clear hq5 hq6 hb2 hgr2 hgr3 hz m0 m1 m2 m3 f0 f1 f2 f3 hl5 HQ4
        go_wp2_with fail
        go_roundw
        case rel => exact ⟨k + 1, by omega, by go_num, congrArg (Value.int .i64) (by omega), HQ6, hgr4⟩
        case measure => simp [intOf]; omega
      · have hkk : k = L.length := by omega
        have HF : Hid (QRow wr g (mrks K L.length)) := by have := HR.out; rw [hkk, halfQ_end] at this; exact this
        have HK : Hid (k = L.length) := hkk
        clear hkk
        go_wp2_with fail
        go_ret
        exact ⟨ret_int (by rw [HK.out]), .inr ⟨g, cap, by rw [mrks_length], by rw [mrks_length]; exact hcap, by unfold maxLen; omega, hbase, HF.out⟩, hgr⟩
end Go.Proofs.YtphhgjdpfcmpgaaGreatDoor

namespace Go.Proofs.YtphhgjdpfcmpgaaGreatDoor
open Go.RowKit

theorem rrow_value {w : World} {v : Value} {L : List (List UInt8 × Int × Int × List UInt8)} (h : RRow w v L) : ∃ a cap, v = .slice a L.length cap ∧ L.length ≤ cap ∧ cap ≤ 2 ^ 63 - 1 ∧ Hid (0 < L.length → ∃ b o, a = some ⟨b, o, none⟩ ∧ b < w.heap.size ∧ ∀ j, (hj : j < L.length) → RecAt w b (o + j * 4) L[j]) := by
  obtain ⟨a, cap, rfl, h1, h2, h3⟩ := h
  unfold maxLen at h2
  refine ⟨a, cap, rfl, h1, h2, fun hp => ?_⟩
  rcases h3 with rfl | h3
  · simp at hp
  · exact h3
set_option maxRecDepth 20000 in
set_option maxHeartbeats 400000 in
theorem eqRecordQ_same (x : (List UInt8 × Int × Int × List UInt8)) (w : World) :
    Calls Tryz.prog 54 #[.agg #[.string ⟨x.1.toArray⟩, .int .i64 x.2.1, .int .i64 x.2.2.1, .string ⟨x.2.2.2.toArray⟩], .agg #[.string ⟨x.1.toArray⟩, .int .i64 x.2.1, .int .i64 x.2.2.1, .string ⟨x.2.2.2.toArray⟩]] w fun e w' => e = .returned (.bool true) ∧ Below w.heap.size w w' := by
  have e1 : ((⟨x.1.toArray⟩ : ByteArray).toList != (⟨x.1.toArray⟩ : ByteArray).toList) = false := by simp
  have e2 : ((⟨x.2.2.2.toArray⟩ : ByteArray).toList != (⟨x.2.2.2.toArray⟩ : ByteArray).toList) = false := by simp
  have e3 : (x.2.1 != x.2.1) = false := by simp
  have e4 : (x.2.2.1 != x.2.2.1) = false := by simp
  go_enter Tryz.func54, Tryz.ntmps54
  go_wp2_with fail
  go_ret
  exact ⟨rfl, ((Below.refl _ _).alloc (Nat.le_refl _) _).alloc (by simp) _⟩
set_option maxRecDepth 20000 in
set_option maxHeartbeats 1000000 in
theorem eqRecordS_same (v1 v2 : Value) (L : List (List UInt8 × Int × Int × List UInt8)) (w : World) (h1 : RRow w v1 L) (h2 : RRow w v2 L) :
    Calls Tryz.prog 28 #[v1, v2] w fun e w' => e = .returned (.bool true) ∧ Below w.heap.size w w' := by
  obtain ⟨a1, cap1, rfl, hc1, hm1, HR1⟩ := rrow_value h1
  obtain ⟨a2, cap2, rfl, hc2, hm2, HR2⟩ := rrow_value h2
  have HEQ : Hid (∀ (x : (List UInt8 × Int × Int × List UInt8)) W, Calls Tryz.prog 54 #[.agg #[.string ⟨x.1.toArray⟩, .int .i64 x.2.1, .int .i64 x.2.2.1, .string ⟨x.2.2.2.toArray⟩], .agg #[.string ⟨x.1.toArray⟩, .int .i64 x.2.1, .int .i64 x.2.2.1, .string ⟨x.2.2.2.toArray⟩]] W fun e w' => e = .returned (.bool true) ∧ Below W.heap.size W w') := fun x W => eqRecordQ_same x W
  have el : ((L.length : Int) != (L.length : Int)) = false := by simp
  clear h1 h2
  go_enter Tryz.func28, Tryz.ntmps28
  go_wp2_with fail
  go_loopw [5] (fun i wr => ∃ k : Nat, k ≤ L.length ∧ i = .int .i64 (k : Int) ∧ Below w.heap.size w wr) (fun i _ => L.length - (intOf i).toNat)
  case atStart => exact ⟨0, Nat.zero_le _, rfl, Below.refl _ _⟩
  case round =>
    obtain ⟨k, hk, rfl, hb⟩ := hrel
    by_cases hlt : k < L.length
    · obtain ⟨b1, o1, ha1, hbl1, hcel1⟩ := HR1.out (by omega)
      obtain ⟨b2, o2, ha2, hbl2, hcel2⟩ := HR2.out (by omega)
      rw [ha1, ha2]
      have q1 := hcel1 k hlt
      have q2 := hcel2 k hlt
      obtain ⟨x, hx⟩ : ∃ x, x = L[k]'hlt := ⟨_, rfl⟩
      rw [← hx] at q1 q2
      have HC : Hid (∀ W, Below w.heap.size w W → RecAt W b1 (o1 + k * 4) x ∧ RecAt W b2 (o2 + k * 4) x) := fun W hW => ⟨q1.kept hW, q2.kept hW⟩
      have hki : (k : Int) < (L.length : Int) := by omega
      have hbd := hb.drew
      unfold RecAt at HC
      clear hcel1 hcel2 hx q1 q2
      go_wp2_with fail
      refine wp_region_quiet (C := fun W => Below w.heap.size w W) (by kernel_rfl) (by kernel_rfl) hbd ?_
      refine wpQuiet_step (fun K hK => ?_)
      rw [if_pos (by rfl)]
      refine ⟨.slice (some ⟨b1, o1, none⟩) L.length cap1, fun W hW => quiet_ok ?_, hK _ ?_⟩
      · have f := HC.out W hW
        obtain ⟨⟨c0, c1, c2, c3⟩, ⟨e0, e1, e2, e3⟩⟩ := f
        go_simp
        all_goals (try omega)
      clear hK K
      simp only [Act.put, List.setIfInBounds_toArray, List.set_cons_succ, List.set_cons_zero]
      refine wpQuiet_step (fun K hK => ?_)
      rw [if_pos (by rfl)]
      refine ⟨.int .i64 (k : Int), fun W hW => quiet_ok ?_, hK _ ?_⟩
      · have f := HC.out W hW
        obtain ⟨⟨c0, c1, c2, c3⟩, ⟨e0, e1, e2, e3⟩⟩ := f
        go_simp
        all_goals (try omega)
      clear hK K
      simp only [Act.put, List.setIfInBounds_toArray, List.set_cons_succ, List.set_cons_zero]
      refine wpQuiet_step (fun K hK => ?_)
      rw [if_pos (by rfl)]
      refine ⟨.pointer (some ⟨b1, o1 + k * 4, none⟩), fun W hW => quiet_ok ?_, hK _ ?_⟩
      · have f := HC.out W hW
        obtain ⟨⟨c0, c1, c2, c3⟩, ⟨e0, e1, e2, e3⟩⟩ := f
        go_simp
        all_goals (try omega)
      clear hK K
      simp only [Act.put, List.setIfInBounds_toArray, List.set_cons_succ, List.set_cons_zero]
      refine wpQuiet_step (fun K hK => ?_)
      rw [if_pos (by rfl)]
      refine ⟨.agg #[.string ⟨x.1.toArray⟩, .int .i64 x.2.1, .int .i64 x.2.2.1, .string ⟨x.2.2.2.toArray⟩], fun W hW => quiet_ok ?_, hK _ ?_⟩
      · have f := HC.out W hW
        obtain ⟨⟨c0, c1, c2, c3⟩, ⟨e0, e1, e2, e3⟩⟩ := f
        go_simp
        all_goals (try omega)
      clear hK K
      simp only [Act.put, List.setIfInBounds_toArray, List.set_cons_succ, List.set_cons_zero]
      refine wpQuiet_step (fun K hK => ?_)
      rw [if_pos (by rfl)]
      refine ⟨.slice (some ⟨b2, o2, none⟩) L.length cap2, fun W hW => quiet_ok ?_, hK _ ?_⟩
      · have f := HC.out W hW
        obtain ⟨⟨c0, c1, c2, c3⟩, ⟨e0, e1, e2, e3⟩⟩ := f
        go_simp
        all_goals (try omega)
      clear hK K
      simp only [Act.put, List.setIfInBounds_toArray, List.set_cons_succ, List.set_cons_zero]
      refine wpQuiet_step (fun K hK => ?_)
      rw [if_pos (by rfl)]
      refine ⟨.int .i64 (k : Int), fun W hW => quiet_ok ?_, hK _ ?_⟩
      · have f := HC.out W hW
        obtain ⟨⟨c0, c1, c2, c3⟩, ⟨e0, e1, e2, e3⟩⟩ := f
        go_simp
        all_goals (try omega)
      clear hK K
      simp only [Act.put, List.setIfInBounds_toArray, List.set_cons_succ, List.set_cons_zero]
      refine wpQuiet_step (fun K hK => ?_)
      rw [if_pos (by rfl)]
      refine ⟨.pointer (some ⟨b2, o2 + k * 4, none⟩), fun W hW => quiet_ok ?_, hK _ ?_⟩
      · have f := HC.out W hW
        obtain ⟨⟨c0, c1, c2, c3⟩, ⟨e0, e1, e2, e3⟩⟩ := f
        go_simp
        all_goals (try omega)
      clear hK K
      simp only [Act.put, List.setIfInBounds_toArray, List.set_cons_succ, List.set_cons_zero]
      refine wpQuiet_step (fun K hK => ?_)
      rw [if_pos (by rfl)]
      refine ⟨.agg #[.string ⟨x.1.toArray⟩, .int .i64 x.2.1, .int .i64 x.2.2.1, .string ⟨x.2.2.2.toArray⟩], fun W hW => quiet_ok ?_, hK _ ?_⟩
      · have f := HC.out W hW
        obtain ⟨⟨c0, c1, c2, c3⟩, ⟨e0, e1, e2, e3⟩⟩ := f
        go_simp
        all_goals (try omega)
      clear hK K
      simp only [Act.put, List.setIfInBounds_toArray, List.set_cons_succ, List.set_cons_zero]
      refine wpQuiet_step (fun K hK => ?_)
      rw [if_pos (by rfl)]
      refine ⟨.bool true, fun W hW => quiet_call (f := 54) (args := #[.agg #[.string ⟨x.1.toArray⟩, .int .i64 x.2.1, .int .i64 x.2.2.1, .string ⟨x.2.2.2.toArray⟩], .agg #[.string ⟨x.1.toArray⟩, .int .i64 x.2.1, .int .i64 x.2.2.1, .string ⟨x.2.2.2.toArray⟩]]) ?_ ?_, hK _ ?_⟩
      · go_simp
      · exact (HEQ.out x W).mono fun e w'' h => ⟨h.1, hW.trans (h.2.mono hW.size)⟩
      clear hK K
      simp only [Act.put, List.setIfInBounds_toArray, List.set_cons_succ, List.set_cons_zero]
      refine wpQuiet_step (fun K hK => ?_)
      rw [if_pos (by rfl)]
      refine ⟨.bool false, fun W hW => quiet_ok ?_, hK _ ?_⟩
      · have f := HC.out W hW
        obtain ⟨⟨c0, c1, c2, c3⟩, ⟨e0, e1, e2, e3⟩⟩ := f
        go_simp
        all_goals (try omega)
      clear hK K
      simp only [Act.put, List.setIfInBounds_toArray, List.set_cons_succ, List.set_cons_zero]
      refine wpQuiet_nil ?_
      intro W hW
      go_wp2_with fail
      go_roundw
      case rel => exact ⟨k + 1, by omega, by go_num, hW⟩
      case measure => simp [intOf]; omega
    · go_wp2_with fail
      go_ret
      exact ⟨rfl, hb⟩
set_option maxRecDepth 20000 in
set_option maxHeartbeats 2000000 in
theorem heldRecordS_any (v : Value) (n K : Nat) (w : World) (hr : RRow w v (mrks K n)) (hL : n ≤ 1048576) (hK0 : 0 < K) (hK : K ≤ 1073741824) :
    Calls Tryz.prog 35 #[v, .int .i64 (K : Int)] w fun e w' => e = .returned (.int .i64 ((K : Int) + 4 * (n : Int))) ∧ Below w.heap.size w w' := by
  obtain ⟨a, cap, rfl, hcap, hmax, HROW⟩ := rrow_value hr
  rw [mrks_length] at hcap ⊢
  have HMT : Hid (∀ (m : Int) (M : Nat) W, m = (M : Int) → 0 < m → m ≤ 4294967280 → Calls Tryz.prog 65 #[.int .i64 m] W fun e w' => e = .returned (.string ⟨(mark M).toArray⟩) ∧ Below W.heap.size W w') := fun m M W h1 h2 h3 => markText_any m M W h1 h2 h3
  clear hr
  go_enter Tryz.func35, Tryz.ntmps35
  go_wp2_with fail
  go_loopw [1, 5] (fun q i wr => ∃ k : Nat, k ≤ n ∧ i = .int .i64 (k : Int) ∧ q = .int .i64 ((K : Int) + 4 * (k : Int)) ∧ Below w.heap.size w wr) (fun _ i _ => n - (intOf i).toNat)
  case atStart => exact ⟨0, Nat.zero_le _, rfl, by simp, Below.refl _ _⟩
  case round =>
    obtain ⟨k, hk, rfl, rfl, hb⟩ := hrel
    by_cases hlt : k < n
    · obtain ⟨b, o, ha, hbl, hc⟩ := HROW.out (by rw [mrks_length]; omega)
      rw [ha]
      have hcx := hc k (by rw [mrks_length]; exact hlt)
      rw [mrks_get K n k hlt] at hcx
      have HC : Hid (∀ W, Below w.heap.size w W → RecAt W b (o + k * 4) (mark (K + 4 * k), (K : Int) + 4 * (k : Int) + 1, (K : Int) + 4 * (k : Int) + 1 + 1, mark (K + 4 * k + 3))) := fun W hW => by
        have h := hcx.kept hW
        rw [show mrk K k = (mark (K + 4 * k), (K : Int) + 4 * (k : Int) + 1, (K : Int) + 4 * (k : Int) + 1 + 1, mark (K + 4 * k + 3)) by unfold mrk; show ((_, _, _, _) : (List UInt8 × Int × Int × List UInt8)) = _; congr 3 <;> omega] at h
        exact h
      unfold RecAt at HC
      obtain ⟨y, hy⟩ : ∃ y, y = mark (K + 4 * k) := ⟨_, rfl⟩
      obtain ⟨z, hz⟩ : ∃ z, z = mark (K + 4 * k + 3) := ⟨_, rfl⟩
      obtain ⟨m, hm⟩ : ∃ m : Int, m = (K : Int) + 4 * (k : Int) := ⟨_, rfl⟩
      rw [← hm, ← hy, ← hz] at HC
      rw [← hm]
      have HM1 : Hid (∀ W, Calls Tryz.prog 65 #[.int .i64 m] W fun e w' => e = .returned (.string ⟨y.toArray⟩) ∧ Below W.heap.size W w') := fun W => by rw [hy]; exact HMT.out m (K + 4 * k) W (by omega) (by omega) (by omega)
      have HM2 : Hid (∀ W, Calls Tryz.prog 65 #[.int .i64 (m + 1 + 1 + 1)] W fun e w' => e = .returned (.string ⟨z.toArray⟩) ∧ Below W.heap.size W w') := fun W => by rw [hz]; exact HMT.out (m + 1 + 1 + 1) (K + 4 * k + 3) W (by omega) (by omega) (by omega)
      have HMK : Hid (m = (K : Int) + 4 * (k : Int)) := hm
      have hm0 : 0 < m := by omega
      have hm1 : m ≤ 4294967000 := by omega
      have hki : (k : Int) < (n : Int) := by omega
      have ey : (y != y) = false := by simp
      have ez : (z != z) = false := by simp
      have et1 : (m + 1 != m + 1) = false := by simp
      have et2 : (m + 1 + 1 != m + 1 + 1) = false := by simp
      have hbd := hb.drew
      clear hc hcx hy hz hm
      go_wp2_with fail
      refine wp_region_quiet (C := fun W => Below w.heap.size w W) (by kernel_rfl) (by kernel_rfl) hbd ?_
      refine wpQuiet_step (fun K hK => ?_)
      rw [if_pos (by rfl)]
      refine ⟨.slice (some ⟨b, o, none⟩) n cap, fun W hW => quiet_ok ?_, hK _ ?_⟩
      · have f := HC.out W hW
        obtain ⟨c0, c1, c2, c3⟩ := f
        go_simp
        all_goals (try omega)
      clear hK K
      simp only [Act.put, List.setIfInBounds_toArray, List.set_cons_succ, List.set_cons_zero]
      refine wpQuiet_step (fun K hK => ?_)
      rw [if_pos (by rfl)]
      refine ⟨.int .i64 (k : Int), fun W hW => quiet_ok ?_, hK _ ?_⟩
      · have f := HC.out W hW
        obtain ⟨c0, c1, c2, c3⟩ := f
        go_simp
        all_goals (try omega)
      clear hK K
      simp only [Act.put, List.setIfInBounds_toArray, List.set_cons_succ, List.set_cons_zero]
      refine wpQuiet_step (fun K hK => ?_)
      rw [if_pos (by rfl)]
      refine ⟨.pointer (some ⟨b, o + k * 4, none⟩), fun W hW => quiet_ok ?_, hK _ ?_⟩
      · have f := HC.out W hW
        obtain ⟨c0, c1, c2, c3⟩ := f
        go_simp
        all_goals (try omega)
      clear hK K
      simp only [Act.put, List.setIfInBounds_toArray, List.set_cons_succ, List.set_cons_zero]
      refine wpQuiet_step (fun K hK => ?_)
      rw [if_pos (by rfl)]
      refine ⟨.pointer (some ⟨b, o + k * 4, none⟩), fun W hW => quiet_ok ?_, hK _ ?_⟩
      · have f := HC.out W hW
        obtain ⟨c0, c1, c2, c3⟩ := f
        go_simp
        all_goals (try omega)
      clear hK K
      simp only [Act.put, List.setIfInBounds_toArray, List.set_cons_succ, List.set_cons_zero]
      refine wpQuiet_step (fun K hK => ?_)
      rw [if_pos (by rfl)]
      refine ⟨.string ⟨y.toArray⟩, fun W hW => quiet_ok ?_, hK _ ?_⟩
      · have f := HC.out W hW
        obtain ⟨c0, c1, c2, c3⟩ := f
        go_simp
        all_goals (try omega)
      clear hK K
      simp only [Act.put, List.setIfInBounds_toArray, List.set_cons_succ, List.set_cons_zero]
      refine wpQuiet_step (fun K hK => ?_)
      rw [if_pos (by rfl)]
      refine ⟨.int .i64 m, fun W hW => quiet_ok ?_, hK _ ?_⟩
      · have f := HC.out W hW
        obtain ⟨c0, c1, c2, c3⟩ := f
        go_simp
        all_goals (try omega)
      clear hK K
      simp only [Act.put, List.setIfInBounds_toArray, List.set_cons_succ, List.set_cons_zero]
      refine wpQuiet_step (fun K hK => ?_)
      rw [if_pos (by rfl)]
      refine ⟨.string ⟨y.toArray⟩, fun W hW => quiet_call (f := 65) (args := #[.int .i64 m]) ?_ ?_, hK _ ?_⟩
      · go_simp
      · exact (HM1.out W).mono fun e w'' h => ⟨h.1, hW.trans (h.2.mono hW.size)⟩
      clear hK K
      simp only [Act.put, List.setIfInBounds_toArray, List.set_cons_succ, List.set_cons_zero]
      refine wpQuiet_step (fun K hK => ?_)
      rw [if_pos (by rfl)]
      refine ⟨.bool false, fun W hW => quiet_ok ?_, hK _ ?_⟩
      · have f := HC.out W hW
        obtain ⟨c0, c1, c2, c3⟩ := f
        go_simp
        all_goals (try omega)
      clear hK K
      simp only [Act.put, List.setIfInBounds_toArray, List.set_cons_succ, List.set_cons_zero]
      refine wpQuiet_nil ?_
      intro w1 hb1
      have f1 := HC.out w1 hb1
      obtain ⟨c0, c1, c2, c3⟩ := f1
      have hbd := hb1.drew
      clear hb
      go_wp2_with fail
      refine wp_region_quiet (C := fun W => Below w.heap.size w W) (by kernel_rfl) (by kernel_rfl) hbd ?_
      refine wpQuiet_step (fun K hK => ?_)
      rw [if_pos (by rfl)]
      refine ⟨.slice (some ⟨b, o, none⟩) n cap, fun W hW => quiet_ok ?_, hK _ ?_⟩
      · have f := HC.out W hW
        obtain ⟨c0, c1, c2, c3⟩ := f
        go_simp
        all_goals (try omega)
      clear hK K
      simp only [Act.put, List.setIfInBounds_toArray, List.set_cons_succ, List.set_cons_zero]
      refine wpQuiet_step (fun K hK => ?_)
      rw [if_pos (by rfl)]
      refine ⟨.int .i64 (k : Int), fun W hW => quiet_ok ?_, hK _ ?_⟩
      · have f := HC.out W hW
        obtain ⟨c0, c1, c2, c3⟩ := f
        go_simp
        all_goals (try omega)
      clear hK K
      simp only [Act.put, List.setIfInBounds_toArray, List.set_cons_succ, List.set_cons_zero]
      refine wpQuiet_step (fun K hK => ?_)
      rw [if_pos (by rfl)]
      refine ⟨.pointer (some ⟨b, o + k * 4, none⟩), fun W hW => quiet_ok ?_, hK _ ?_⟩
      · have f := HC.out W hW
        obtain ⟨c0, c1, c2, c3⟩ := f
        go_simp
        all_goals (try omega)
      clear hK K
      simp only [Act.put, List.setIfInBounds_toArray, List.set_cons_succ, List.set_cons_zero]
      refine wpQuiet_step (fun K hK => ?_)
      rw [if_pos (by rfl)]
      refine ⟨.pointer (some ⟨b, o + k * 4 + 3, none⟩), fun W hW => quiet_ok ?_, hK _ ?_⟩
      · have f := HC.out W hW
        obtain ⟨c0, c1, c2, c3⟩ := f
        go_simp
        all_goals (try omega)
      clear hK K
      simp only [Act.put, List.setIfInBounds_toArray, List.set_cons_succ, List.set_cons_zero]
      refine wpQuiet_step (fun K hK => ?_)
      rw [if_pos (by rfl)]
      refine ⟨.string ⟨z.toArray⟩, fun W hW => quiet_ok ?_, hK _ ?_⟩
      · have f := HC.out W hW
        obtain ⟨c0, c1, c2, c3⟩ := f
        go_simp
        all_goals (try omega)
      clear hK K
      simp only [Act.put, List.setIfInBounds_toArray, List.set_cons_succ, List.set_cons_zero]
      refine wpQuiet_step (fun K hK => ?_)
      rw [if_pos (by rfl)]
      refine ⟨.int .i64 (m + 1 + 1 + 1), fun W hW => quiet_ok ?_, hK _ ?_⟩
      · have f := HC.out W hW
        obtain ⟨c0, c1, c2, c3⟩ := f
        go_simp
        all_goals (try omega)
      clear hK K
      simp only [Act.put, List.setIfInBounds_toArray, List.set_cons_succ, List.set_cons_zero]
      refine wpQuiet_step (fun K hK => ?_)
      rw [if_pos (by rfl)]
      refine ⟨.string ⟨z.toArray⟩, fun W hW => quiet_call (f := 65) (args := #[.int .i64 (m + 1 + 1 + 1)]) ?_ ?_, hK _ ?_⟩
      · go_simp
      · exact (HM2.out W).mono fun e w'' h => ⟨h.1, hW.trans (h.2.mono hW.size)⟩
      clear hK K
      simp only [Act.put, List.setIfInBounds_toArray, List.set_cons_succ, List.set_cons_zero]
      refine wpQuiet_step (fun K hK => ?_)
      rw [if_pos (by rfl)]
      refine ⟨.bool false, fun W hW => quiet_ok ?_, hK _ ?_⟩
      · have f := HC.out W hW
        obtain ⟨c0, c1, c2, c3⟩ := f
        go_simp
        all_goals (try omega)
      clear hK K
      simp only [Act.put, List.setIfInBounds_toArray, List.set_cons_succ, List.set_cons_zero]
      refine wpQuiet_nil ?_
      intro w2 hb2
      clear c0 c1 c2 c3 hb1
      go_wp2_with fail
      go_roundw
      case rel => exact ⟨k + 1, by omega, by go_num, congrArg (Value.int .i64) (by have := HMK.out; omega), hb2⟩
      case measure => simp [intOf]; omega
    · have HK : Hid (k = n) := (show k = n by omega)
      go_wp2_with fail
      go_ret
      exact ⟨ret_int (by rw [HK.out]), hb⟩
end Go.Proofs.YtphhgjdpfcmpgaaGreatDoor
