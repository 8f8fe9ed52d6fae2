import Derived.Test.YtoanloballaclaaGreatDoorZ14
import Derived.Test.YtoanloballaclaaGreatDoorZ08
import Derived.Test.YtoanloballaclaaGreatDoorZ09
import Derived.Deep.RegionHeld3
namespace Go.Proofs.YtoanloballaclaaGreatDoor
open Go.RowKit

theorem tgt_ne {g o a b : Nat} (h : a ≠ b) : (⟨g, o + a, none⟩ : Addr) ≠ ⟨g, o + b, none⟩ := fun e => by injection e with _ e2; omega
theorem TgoRow.upd {w : World} {g : Nat} {L : List TgtT} (h : TgoRow w g L) (k : Nat) (r : Nat) (hr : r < 4) (u : Value) (y : TgtT) (hy : TgtAt (w.setCell ⟨g, k * 4 + r, none⟩ u) g (k * 4) y) : TgoRow (w.setCell ⟨g, k * 4 + r, none⟩ u) g (L.set k y) := by
  refine ⟨by simpa using h.1, fun j hj => ?_⟩
  have hj' : j < L.length := by simpa using hj
  refine ⟨?_, ?_⟩
  · rw [List.getElem_set]
    split
    · rename_i e; subst e; exact hy
    · rename_i e
      have h0 := (h.2 j hj').1
      have n : ∀ q, q < 4 → (⟨g, k * 4 + r, none⟩ : Addr) ≠ ⟨g, j * 4 + q, none⟩ := fun q hq e2 => by injection e2 with _ e3; omega
      unfold TgtAt at h0 ⊢
      rw [World.cell?_setCell_other _ _ _ _ (show (⟨g, k * 4 + r, none⟩ : Addr) ≠ ⟨g, j * 4, none⟩ from n 0 (by omega)), World.cell?_setCell_other _ _ _ _ (n 1 (by omega)), World.cell?_setCell_other _ _ _ _ (n 2 (by omega)), World.cell?_setCell_other _ _ _ _ (n 3 (by omega))]
      exact h0
  · have h0 := (h.2 j hj').2
    unfold FzG at h0 ⊢
    simpa using h0
theorem TgtAt.set0 {w : World} {g o : Nat} {x : TgtT} (h : TgtAt w g o x) (a : List UInt8) : TgtAt (w.setCell ⟨g, o, none⟩ (.string ⟨a.toArray⟩)) g o (a, x.2.1, x.2.2.1, x.2.2.2) := by
  obtain ⟨h0, h1, h2, h3⟩ := h
  unfold TgtAt
  refine ⟨?_, ?_, ?_, ?_⟩
  · exact World.cell?_setCell_same _ _ _ h0
  · rw [World.cell?_setCell_other _ _ _ _ (show (⟨g, o, none⟩ : Addr) ≠ ⟨g, o + 1, none⟩ from tgt_ne (o := o) (a := 0) (b := 1) (by omega))]; exact h1
  · rw [World.cell?_setCell_other _ _ _ _ (show (⟨g, o, none⟩ : Addr) ≠ ⟨g, o + 2, none⟩ from tgt_ne (o := o) (a := 0) (b := 2) (by omega))]; exact h2
  · rw [World.cell?_setCell_other _ _ _ _ (show (⟨g, o, none⟩ : Addr) ≠ ⟨g, o + 3, none⟩ from tgt_ne (o := o) (a := 0) (b := 3) (by omega))]; exact h3
theorem TgtAt.set1 {w : World} {g o : Nat} {x : TgtT} (h : TgtAt w g o x) (a : List UInt8) : TgtAt (w.setCell ⟨g, o + 1, none⟩ (.string ⟨a.toArray⟩)) g o (x.1, a, x.2.2.1, x.2.2.2) := by
  obtain ⟨h0, h1, h2, h3⟩ := h
  unfold TgtAt
  refine ⟨?_, ?_, ?_, ?_⟩
  · rw [World.cell?_setCell_other _ _ _ _ (show (⟨g, o + 1, none⟩ : Addr) ≠ ⟨g, o, none⟩ from tgt_ne (o := o) (a := 1) (b := 0) (by omega))]; exact h0
  · exact World.cell?_setCell_same _ _ _ h1
  · rw [World.cell?_setCell_other _ _ _ _ (show (⟨g, o + 1, none⟩ : Addr) ≠ ⟨g, o + 2, none⟩ from tgt_ne (o := o) (a := 1) (b := 2) (by omega))]; exact h2
  · rw [World.cell?_setCell_other _ _ _ _ (show (⟨g, o + 1, none⟩ : Addr) ≠ ⟨g, o + 3, none⟩ from tgt_ne (o := o) (a := 1) (b := 3) (by omega))]; exact h3
theorem TgtAt.set2 {w : World} {g o : Nat} {x : TgtT} (h : TgtAt w g o x) (a : Int) : TgtAt (w.setCell ⟨g, o + 2, none⟩ (.int .i64 a)) g o (x.1, x.2.1, a, x.2.2.2) := by
  obtain ⟨h0, h1, h2, h3⟩ := h
  unfold TgtAt
  refine ⟨?_, ?_, ?_, ?_⟩
  · rw [World.cell?_setCell_other _ _ _ _ (show (⟨g, o + 2, none⟩ : Addr) ≠ ⟨g, o, none⟩ from tgt_ne (o := o) (a := 2) (b := 0) (by omega))]; exact h0
  · rw [World.cell?_setCell_other _ _ _ _ (show (⟨g, o + 2, none⟩ : Addr) ≠ ⟨g, o + 1, none⟩ from tgt_ne (o := o) (a := 2) (b := 1) (by omega))]; exact h1
  · exact World.cell?_setCell_same _ _ _ h2
  · rw [World.cell?_setCell_other _ _ _ _ (show (⟨g, o + 2, none⟩ : Addr) ≠ ⟨g, o + 3, none⟩ from tgt_ne (o := o) (a := 2) (b := 3) (by omega))]; exact h3
theorem TgtAt.set3 {w : World} {g o : Nat} {x : TgtT} (h : TgtAt w g o x) (a : Int) : TgtAt (w.setCell ⟨g, o + 3, none⟩ (.int .i64 a)) g o (x.1, x.2.1, x.2.2.1, a) := by
  obtain ⟨h0, h1, h2, h3⟩ := h
  unfold TgtAt
  refine ⟨?_, ?_, ?_, ?_⟩
  · rw [World.cell?_setCell_other _ _ _ _ (show (⟨g, o + 3, none⟩ : Addr) ≠ ⟨g, o, none⟩ from tgt_ne (o := o) (a := 3) (b := 0) (by omega))]; exact h0
  · rw [World.cell?_setCell_other _ _ _ _ (show (⟨g, o + 3, none⟩ : Addr) ≠ ⟨g, o + 1, none⟩ from tgt_ne (o := o) (a := 3) (b := 1) (by omega))]; exact h1
  · rw [World.cell?_setCell_other _ _ _ _ (show (⟨g, o + 3, none⟩ : Addr) ≠ ⟨g, o + 2, none⟩ from tgt_ne (o := o) (a := 3) (b := 2) (by omega))]; exact h2
  · exact World.cell?_setCell_same _ _ _ h3
/-- Targets that are written to. -/
def AnyT (w : World) (g n : Nat) : Prop := ∃ L : List TgtT, L.length = n ∧ TgoRow w g L
theorem AnyT.kept {w w' : World} {g n : Nat} (h : AnyT w g n) (hb : Below w.heap.size w w') : AnyT w' g n := by obtain ⟨L, hl, hs⟩ := h; exact ⟨L, hl, hs.kept hb⟩
theorem AnyT.get {w : World} {g n k : Nat} (h : AnyT w g n) (hk : k < n) : ∃ y : TgtT, TgtAt w g (k * 4) y ∧ FzG w g (k * 4) := by
  obtain ⟨L, hl, hs⟩ := h
  exact ⟨_, hs.2 k (by omega)⟩
theorem AnyT.put0 {w : World} {g n k : Nat} (h : AnyT w g n) (hk : k < n) (a : List UInt8) : AnyT (w.setCell ⟨g, k * 4, none⟩ (.string ⟨a.toArray⟩)) g n := by
  obtain ⟨L, hl, hs⟩ := h
  exact ⟨L.set k _, by simpa using hl, hs.upd k 0 (by omega) _ _ ((hs.2 k (by omega)).1.set0 a)⟩
theorem AnyT.put1 {w : World} {g n k : Nat} (h : AnyT w g n) (hk : k < n) (a : List UInt8) : AnyT (w.setCell ⟨g, k * 4 + 1, none⟩ (.string ⟨a.toArray⟩)) g n := by
  obtain ⟨L, hl, hs⟩ := h
  exact ⟨L.set k _, by simpa using hl, hs.upd k 1 (by omega) _ _ ((hs.2 k (by omega)).1.set1 a)⟩
theorem AnyT.put2 {w : World} {g n k : Nat} (h : AnyT w g n) (hk : k < n) (a : Int) : AnyT (w.setCell ⟨g, k * 4 + 2, none⟩ (.int .i64 a)) g n := by
  obtain ⟨L, hl, hs⟩ := h
  exact ⟨L.set k _, by simpa using hl, hs.upd k 2 (by omega) _ _ ((hs.2 k (by omega)).1.set2 a)⟩
theorem AnyT.put3 {w : World} {g n k : Nat} (h : AnyT w g n) (hk : k < n) (a : Int) : AnyT (w.setCell ⟨g, k * 4 + 3, none⟩ (.int .i64 a)) g n := by
  obtain ⟨L, hl, hs⟩ := h
  exact ⟨L.set k _, by simpa using hl, hs.upd k 3 (by omega) _ _ ((hs.2 k (by omega)).1.set3 a)⟩

set_option maxRecDepth 20000 in
set_option maxHeartbeats 4000000 in
theorem markTargetS_any (g n : Nat) (K : Int) (w : World) (h : AnyT w g n) (hL : n ≤ 1048576) (hK0 : 0 < K) (hK : K ≤ 1073741824) :
    Calls Tryz.prog 44 #[.slice (some ⟨g, 0, none⟩) n n, .int .i64 K] w fun e w' => e = .returned (.int .i64 (K + 4 * (n : Int))) ∧ AnyT w' g n ∧ w.grownBy w' (some g) := by
  have HMT : Hid (∀ (m : Int) W, 0 < m → m ≤ 4294967280 → Calls Tryz.prog 74 #[.int .i64 m] W fun e w' => e = .returned (.string ⟨(mark m.toNat).toArray⟩) ∧ Below W.heap.size W w') := fun m W h1 h2 => markText_any m m.toNat W (Int.toNat_of_nonneg (Int.le_of_lt h1)).symm h1 h2
  have HS : Hid (AnyT w g n) := h
  clear h
  go_enter Tryz.func44, Tryz.ntmps44
  go_wp2_with fail
  go_loopw [1, 5] (fun q i wr => ∃ k : Nat, k ≤ n ∧ i = .int .i64 (k : Int) ∧ q = .int .i64 (K + 4 * (k : Int)) ∧ Hid (AnyT wr g n) ∧ w.grownBy wr (some g)) (fun _ i _ => n - (intOf i).toNat)
  case atStart => exact ⟨0, Nat.zero_le _, rfl, by simp, HS, grown_refl _ _⟩
  case round =>
    obtain ⟨k, hk, rfl, rfl, HR, hgr⟩ := hrel
    by_cases hlt : k < n
    · obtain ⟨q, hq⟩ : ∃ q : Int, q = K + 4 * (k : Int) := ⟨_, rfl⟩
      have HQ : Hid (q = K + 4 * (k : Int)) := hq
      have hq0 : 0 < q := by omega
      have hq1 : q ≤ 1077936128 := by omega
      rw [← hq]
      have HM1 : Hid (∀ W, Calls Tryz.prog 74 #[.int .i64 q] W fun e w' => e = .returned (.string ⟨(mark q.toNat).toArray⟩) ∧ Below W.heap.size W w') := fun W => HMT.out q W hq0 (by omega)
      have HM2 : Hid (∀ W, Calls Tryz.prog 74 #[.int .i64 (q + 1)] W fun e w' => e = .returned (.string ⟨(mark (q + 1).toNat).toArray⟩) ∧ Below W.heap.size W w') := fun W => HMT.out (q + 1) W (by omega) (by omega)
      clear hq
      have hki : (k : Int) < (n : Int) := by omega
      go_wp2_with fail
      refine (HM1.out _).mono ?_
      rintro e w1 ⟨rfl, hb1⟩
      obtain ⟨y, hy⟩ : ∃ y, y = mark q.toNat := ⟨_, rfl⟩
      rw [← hy]
      have hr1 := HR.out.kept hb1
      have hgr1 := grown_below hgr hb1
      obtain ⟨z, ⟨m0, m1, m2, m3⟩, ⟨f0, f1, f2, f3⟩⟩ := hr1.get hlt
      have hr2 := hr1.put0 hlt y
      have hgr2 : w.grownBy (w1.setCell ⟨g, k * 4, none⟩ (.string ⟨y.toArray⟩)) (some g) := grown_set hgr1
      have HR2 : Hid (AnyT (w1.setCell ⟨g, k * 4, none⟩ (.string ⟨y.toArray⟩)) g n) := hr2
      clear hr1 hr2 hb1 hgr hgr1 hy HR
      go_wp2_with fail
      refine (HM2.out _).mono ?_
      rintro e w2 ⟨rfl, hb2⟩
      obtain ⟨y2, hy2⟩ : ∃ y, y = mark (q + 1).toNat := ⟨_, rfl⟩
      rw [← hy2]
      have hr3 := HR2.out.kept hb2
      have hgr3 := grown_below hgr2 hb2
      clear m0 m1 m2 m3 f0 f1 f2 f3
      obtain ⟨z2, ⟨m0, m1, m2, m3⟩, ⟨f0, f1, f2, f3⟩⟩ := hr3.get hlt
      have hr4 := ((hr3.put1 hlt y2).put2 hlt (q + 1 + 1)).put3 hlt (q + 1 + 1 + 1)
      have hgr4 : w.grownBy (((w2.setCell ⟨g, k * 4 + 1, none⟩ (.string ⟨y2.toArray⟩)).setCell ⟨g, k * 4 + 2, none⟩ (.int .i64 (q + 1 + 1))).setCell ⟨g, k * 4 + 3, none⟩ (.int .i64 (q + 1 + 1 + 1))) (some g) := grown_set (grown_set (grown_set hgr3))
      have HR4 : Hid (AnyT (((w2.setCell ⟨g, k * 4 + 1, none⟩ (.string ⟨y2.toArray⟩)).setCell ⟨g, k * 4 + 2, none⟩ (.int .i64 (q + 1 + 1))).setCell ⟨g, k * 4 + 3, none⟩ (.int .i64 (q + 1 + 1 + 1))) g n) := hr4
      clear hr3 hr4 hb2 hgr2 hgr3 hy2 HR2
      go_wp2_with fail
      go_roundw
      case rel => exact ⟨k + 1, by omega, by go_num, congrArg (Value.int .i64) (by have := HQ.out; omega), HR4, hgr4⟩
      case measure => simp [intOf]; omega
    · have hkk : k = n := by omega
      have HK : Hid (k = n) := hkk
      clear hkk
      go_wp2_with fail
      go_ret
      exact ⟨ret_int (by rw [HK.out]), HR.out, hgr⟩

set_option maxRecDepth 20000 in
set_option maxHeartbeats 1000000 in
theorem markPolicy_any (nm : ByteArray) (g n : Nat) (K : Int) (w : World) (h : AnyT w g n) (hL : n ≤ 1048576) (hK0 : 0 < K) (hK : K ≤ 1073741824) :
    Calls Tryz.prog 20 #[PolV nm (.slice (some ⟨g, 0, none⟩) n n), .int .i64 K] w fun e w' => e = .returned (.int .i64 (K + 4 * (n : Int))) ∧ Kpt w w' (fun k => k = g) := by
  unfold PolV
  have HA : Hid (AnyT w g n) := h
  clear h
  go_enter Tryz.func20, Tryz.ntmps20
  go_wp2_with fail
  refine (markTargetS_any g n K _ (HA.out.kept ((Below.refl w.heap.size w).alloc (Nat.le_refl _) _)) hL hK0 hK).mono ?_
  rintro e w1 ⟨rfl, _, hg1⟩
  have HK1 : Hid (Kpt w w1 (fun k => k = g)) := (below_kpt0 ((Below.refl w.heap.size w).alloc (Nat.le_refl _) _) _).trans ((grown_kpt hg1).mono (fun k _ h => (Option.some.inj h).symm))
  clear hg1
  go_wp2_with fail
  go_ret
  exact ⟨rfl, HK1.out⟩
end Go.Proofs.YtoanloballaclaaGreatDoor
