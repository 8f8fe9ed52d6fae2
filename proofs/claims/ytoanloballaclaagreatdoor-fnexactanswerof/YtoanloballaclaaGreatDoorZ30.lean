import Derived.Test.YtoanloballaclaaGreatDoorZ16
import Derived.Test.YtoanloballaclaaGreatDoorZ08
import Derived.Test.YtoanloballaclaaGreatDoorZ09
import Derived.Deep.RegionHeld3
namespace Go.Proofs.YtoanloballaclaaGreatDoor
open Go.RowKit

theorem hst_ne {g o a b : Nat} (h : a ≠ b) : (⟨g, o + a, none⟩ : Addr) ≠ ⟨g, o + b, none⟩ := fun e => by injection e with _ e2; omega
theorem HoRow.upd {w : World} {g : Nat} {L : List HosT} (h : HoRow w g L) (k : Nat) (r : Nat) (hr : r < 3) (u : Value) (y : HosT) (hy : HstAt (w.setCell ⟨g, k * 3 + r, none⟩ u) g (k * 3) y) : HoRow (w.setCell ⟨g, k * 3 + r, none⟩ u) g (L.set k y) := by
  refine ⟨by simpa using h.1, fun j hj => ?_⟩
  have hj' : j < L.length := by simpa using hj
  refine ⟨?_, ?_⟩
  · rw [List.getElem_set]
    split
    · rename_i e; subst e; exact hy
    · rename_i e
      have h0 := (h.2 j hj').1
      have n : ∀ q, q < 3 → (⟨g, k * 3 + r, none⟩ : Addr) ≠ ⟨g, j * 3 + q, none⟩ := fun q hq e2 => by injection e2 with _ e3; omega
      unfold HstAt at h0 ⊢
      rw [World.cell?_setCell_other _ _ _ _ (show (⟨g, k * 3 + r, none⟩ : Addr) ≠ ⟨g, j * 3, none⟩ from n 0 (by omega)), World.cell?_setCell_other _ _ _ _ (n 1 (by omega)), World.cell?_setCell_other _ _ _ _ (n 2 (by omega))]
      exact h0
  · have h0 := (h.2 j hj').2
    unfold FzH at h0 ⊢
    simpa using h0
theorem HstAt.set0 {w : World} {g o : Nat} {x : HosT} (h : HstAt w g o x) (a : List UInt8) : HstAt (w.setCell ⟨g, o, none⟩ (.string ⟨a.toArray⟩)) g o (a, x.2.1, x.2.2) := by
  obtain ⟨h0, h1, h2⟩ := h
  unfold HstAt
  refine ⟨?_, ?_, ?_⟩
  · exact World.cell?_setCell_same _ _ _ h0
  · rw [World.cell?_setCell_other _ _ _ _ (show (⟨g, o, none⟩ : Addr) ≠ ⟨g, o + 1, none⟩ from hst_ne (o := o) (a := 0) (b := 1) (by omega))]; exact h1
  · rw [World.cell?_setCell_other _ _ _ _ (show (⟨g, o, none⟩ : Addr) ≠ ⟨g, o + 2, none⟩ from hst_ne (o := o) (a := 0) (b := 2) (by omega))]; exact h2
theorem HstAt.set1 {w : World} {g o : Nat} {x : HosT} (h : HstAt w g o x) (a : Bool) : HstAt (w.setCell ⟨g, o + 1, none⟩ (.bool a)) g o (x.1, a, x.2.2) := by
  obtain ⟨h0, h1, h2⟩ := h
  unfold HstAt
  refine ⟨?_, ?_, ?_⟩
  · rw [World.cell?_setCell_other _ _ _ _ (show (⟨g, o + 1, none⟩ : Addr) ≠ ⟨g, o, none⟩ from hst_ne (o := o) (a := 1) (b := 0) (by omega))]; exact h0
  · exact World.cell?_setCell_same _ _ _ h1
  · rw [World.cell?_setCell_other _ _ _ _ (hst_ne (o := o) (a := 1) (b := 2) (by omega))]; exact h2
theorem HstAt.set2 {w : World} {g o : Nat} {x : HosT} (h : HstAt w g o x) (a : Int) : HstAt (w.setCell ⟨g, o + 2, none⟩ (.int .i64 a)) g o (x.1, x.2.1, a) := by
  obtain ⟨h0, h1, h2⟩ := h
  unfold HstAt
  refine ⟨?_, ?_, ?_⟩
  · rw [World.cell?_setCell_other _ _ _ _ (show (⟨g, o + 2, none⟩ : Addr) ≠ ⟨g, o, none⟩ from hst_ne (o := o) (a := 2) (b := 0) (by omega))]; exact h0
  · rw [World.cell?_setCell_other _ _ _ _ (hst_ne (o := o) (a := 2) (b := 1) (by omega))]; exact h1
  · exact World.cell?_setCell_same _ _ _ h2
theorem HoRow.set0 {w : World} {g : Nat} {L : List HosT} (h : HoRow w g L) (k : Nat) (hk : k < L.length) (a : List UInt8) : HoRow (w.setCell ⟨g, k * 3, none⟩ (.string ⟨a.toArray⟩)) g (L.set k (a, L[k].2.1, L[k].2.2)) :=
  h.upd k 0 (by omega) _ _ ((h.2 k hk).1.set0 a)
theorem HoRow.set1 {w : World} {g : Nat} {L : List HosT} (h : HoRow w g L) (k : Nat) (hk : k < L.length) (a : Bool) : HoRow (w.setCell ⟨g, k * 3 + 1, none⟩ (.bool a)) g (L.set k (L[k].1, a, L[k].2.2)) :=
  h.upd k 1 (by omega) _ _ ((h.2 k hk).1.set1 a)
theorem HoRow.set2 {w : World} {g : Nat} {L : List HosT} (h : HoRow w g L) (k : Nat) (hk : k < L.length) (a : Int) : HoRow (w.setCell ⟨g, k * 3 + 2, none⟩ (.int .i64 a)) g (L.set k (L[k].1, L[k].2.1, a)) :=
  h.upd k 2 (by omega) _ _ ((h.2 k hk).1.set2 a)

/-- The hosts that markHostS lays, from a number on. -/
def mrkH (K i : Nat) : HosT := (mark (K + 3 * i), ((K : Int) + 3 * (i : Int) + 1) % 3 == 0, (K : Int) + 3 * (i : Int) + 1 + 1)
def mrksH (K n : Nat) : List HosT := (List.range n).map (mrkH K)
theorem mrksH_length (K n : Nat) : (mrksH K n).length = n := by simp [mrksH]
theorem mrksH_get (K n k : Nat) (h : k < n) : (mrksH K n)[k]'(by rw [mrksH_length]; exact h) = mrkH K k := by simp [mrksH]
def halfH (K : Nat) (L : List HosT) (k : Nat) : List HosT := mrksH K k ++ L.drop k
theorem halfH_length (K : Nat) (L : List HosT) (k : Nat) (h : k ≤ L.length) : (halfH K L k).length = L.length := by simp [halfH, mrksH]; omega
theorem halfH_zero (K : Nat) (L : List HosT) : halfH K L 0 = L := by simp [halfH, mrksH]
theorem halfH_end (K : Nat) (L : List HosT) : halfH K L L.length = mrksH K L.length := by simp [halfH]
theorem halfH_next (K : Nat) (L : List HosT) (k : Nat) (h : k < L.length) : halfH K L (k + 1) = (halfH K L k).set k (mrkH K k) := by
  unfold halfH
  have hm : (mrksH K k).length = k := mrksH_length K k
  rw [List.set_append_right _ _ (by omega), hm, Nat.sub_self, List.drop_eq_getElem_cons h]
  simp only [mrksH, List.range_succ, List.map_append, List.map_cons, List.map_nil, List.set_cons_zero, List.append_assoc, List.singleton_append]
/-- Hosts that the call owns, or nil. -/
def OwnH (w : World) (base : Nat) (v : Value) (L : List HosT) : Prop :=
  (v = .slice none 0 0 ∧ L = []) ∨ ∃ g cap, v = .slice (some ⟨g, 0, none⟩) L.length cap ∧ L.length ≤ cap ∧ cap ≤ maxLen ∧ base ≤ g ∧ HoRow w g L
theorem hstrow_nil (w : World) : HstRow w (.slice none 0 0) [] := ⟨none, 0, rfl, Nat.le_refl _, by unfold maxLen; omega, .inl rfl⟩
theorem OwnH.row {w : World} {base : Nat} {v : Value} {L : List HosT} (h : OwnH w base v L) : HstRow w v L := by
  rcases h with ⟨rfl, rfl⟩ | ⟨g, cap, rfl, h1, h2, _, hs⟩
  · exact hstrow_nil w
  · exact hs.row h1 h2
theorem OwnH.kept {w w' : World} {base : Nat} {v : Value} {L : List HosT} (h : OwnH w base v L) (hb : Below w.heap.size w w') : OwnH w' base v L := by
  rcases h with h | ⟨g, cap, rfl, h1, h2, h3, hs⟩
  · exact .inl h
  · exact .inr ⟨g, cap, rfl, h1, h2, h3, hs.kept hb⟩
theorem OwnH.lt {w : World} {base : Nat} {v : Value} {L : List HosT} (h : OwnH w base v L) : ∀ g, v.ownBlock = some g → base ≤ g ∧ g < w.heap.size := by
  rcases h with ⟨rfl, _⟩ | ⟨g, cap, rfl, _, _, hb, hs⟩
  · intro k hk; cases hk
  · intro k hk; cases hk; exact ⟨hb, hs.1⟩
theorem OwnH.shape {w : World} {base : Nat} {v : Value} {L : List HosT} (h : OwnH w base v L) : ∃ a cap, v = .slice a L.length cap ∧ cap ≤ maxLen := by
  rcases h with ⟨rfl, rfl⟩ | ⟨g, cap, rfl, _, hm, _, _⟩
  · exact ⟨none, 0, rfl, Nat.zero_le _⟩
  · exact ⟨_, cap, rfl, hm⟩
theorem OwnH.base {w : World} {b b' : Nat} {v : Value} {L : List HosT} (h : OwnH w b v L) (hb : b' ≤ b) : OwnH w b' v L := by
  rcases h with h | ⟨g, cap, rfl, h1, h2, h3, hs⟩
  · exact .inl h
  · exact .inr ⟨g, cap, rfl, h1, h2, Nat.le_trans hb h3, hs⟩
theorem HoRow.kpt {a b : World} {T : Nat → Prop} {g : Nat} {L : List HosT} (hs : HoRow a g L) (h : Kpt a b T) (hne : ¬ T g) : HoRow b g L := by
  have hb : b.heap[g]? = a.heap[g]? := h.block g hs.1 hne
  refine ⟨Nat.lt_of_lt_of_le hs.1 h.size, fun j hj => ?_⟩
  have h0 := hs.2 j hj
  unfold HstAt FzH at h0 ⊢
  rw [World.cell?_of_block (a := ⟨g, j * 3, none⟩) hb, World.cell?_of_block (a := ⟨g, j * 3 + 1, none⟩) hb, World.cell?_of_block (a := ⟨g, j * 3 + 2, none⟩) hb, World.frozen?_of_block (a := ⟨g, j * 3, none⟩) hb, World.frozen?_of_block (a := ⟨g, j * 3 + 1, none⟩) hb, World.frozen?_of_block (a := ⟨g, j * 3 + 2, none⟩) hb]
  exact h0
theorem OwnH.kpt {a b : World} {T : Nat → Prop} {base : Nat} {v : Value} {L : List HosT} (ho : OwnH a base v L) (h : Kpt a b T) (hne : ∀ g, v.ownBlock = some g → ¬ T g) : OwnH b base v L := by
  rcases ho with ho | ⟨g, cap, rfl, h1, h2, h3, hs⟩
  · exact .inl ho
  · exact .inr ⟨g, cap, rfl, h1, h2, h3, hs.kpt h (hne g rfl)⟩
theorem hstrow_kpt {a b : World} {T : Nat → Prop} {v : Value} {L : List HosT} (hr : HstRow a v L) (h : Kpt a b T) (hne : ∀ g o n c, v = .slice (some ⟨g, o, none⟩) n c → L ≠ [] → ¬ T g) : HstRow b v L := by
  obtain ⟨x, cap, rfl, h1, h2, h3⟩ := hr
  refine ⟨x, cap, rfl, h1, h2, ?_⟩
  rcases h3 with h3 | ⟨g, o, rfl, hb1, hc⟩
  · exact .inl h3
  · by_cases hp : L = []
    · exact .inl hp
    · have hn := hne g o _ _ rfl hp
      exact .inr ⟨g, o, rfl, Nat.lt_of_lt_of_le hb1 h.size, fun j hj => ⟨h.cell (hc j hj).1 hn, h.cell (hc j hj).2.1 hn, h.cell (hc j hj).2.2 hn⟩⟩

set_option maxRecDepth 20000 in
set_option maxHeartbeats 2000000 in
theorem markHostS_any (v : Value) (L : List HosT) (base K : Nat) (w : World) (h : OwnH w base v L) (hL : L.length ≤ 1048576) (hK0 : 0 < K) (hK : K ≤ 1073741824) :
    Calls Tryz.prog 45 #[v, .int .i64 (K : Int)] w fun e w' => e = .returned (.int .i64 ((K : Int) + 3 * (L.length : Int))) ∧ OwnH w' base v (mrksH K L.length) ∧ w.grownBy w' v.ownBlock := by
  rcases h with ⟨rfl, rfl⟩ | ⟨g, cap, rfl, hcap, hmax, hbase, hs⟩
  · go_enter Tryz.func45, Tryz.ntmps45
    go_wp2_with fail
    go_rounds 1
    go_ret
    exact ⟨ret_int (by simp), .inl ⟨rfl, rfl⟩, grown_refl _ _⟩
  · have HS : Hid (HoRow w g L) := hs
    unfold maxLen at hmax
    clear hs
    go_enter Tryz.func45, Tryz.ntmps45
    go_wp2_with fail
    go_loopw [1, 5] (fun q i wr => ∃ k : Nat, k ≤ L.length ∧ i = .int .i64 (k : Int) ∧ q = .int .i64 ((K : Int) + 3 * (k : Int)) ∧ Hid (HoRow wr g (halfH K L k)) ∧ w.grownBy wr (some g)) (fun _ i _ => L.length - (intOf i).toNat)
    case atStart => exact ⟨0, Nat.zero_le _, rfl, by simp, by rw [halfH_zero]; exact HS, grown_refl _ _⟩
    case round =>
      obtain ⟨k, hk, rfl, rfl, HR, hgr⟩ := hrel
      by_cases hlt : k < L.length
      · have hlq : k < (halfH K L k).length := by rw [halfH_length K L k hk]; exact hlt
        have HLQ : Hid (k < (halfH K L k).length) := hlq
        have HN : Hid (halfH K L (k + 1) = (halfH K L k).set k (mrkH K k)) := halfH_next K L k hlt
        obtain ⟨bb, hbb⟩ : ∃ bb, bb = (((K : Int) + 3 * (k : Int) + 1) % 3 == 0) := ⟨_, rfl⟩
        have HMK : Hid (mrkH K k = (mark (K + 3 * k), bb, (K : Int) + 3 * (k : Int) + 1 + 1)) := by rw [hbb]; rfl
        obtain ⟨H, hH⟩ : ∃ H, H = halfH K L k := ⟨_, rfl⟩
        rw [← hH] at HLQ HN HR
        clear hH hlq
        go_wp2_with fail
        refine (markText_any _ (K + 3 * k) _ (by exact (by omega : (K : Int) + 3 * (k : Int) = ((K + 3 * k : Nat) : Int))) (by omega) (by omega)).mono ?_
        rintro e w1 ⟨rfl, hb1⟩
        have hq1 := HR.out.kept hb1
        have hgr1 := grown_below hgr hb1
        obtain ⟨⟨m0, m1, m2⟩, ⟨f0, f1, f2⟩⟩ := hq1.2 k HLQ.out
        obtain ⟨y, hy⟩ : ∃ y, y = mark (K + 3 * k) := ⟨_, rfl⟩
        rw [← hy] at HMK ⊢
        have hq2 := hq1.set0 k HLQ.out y
        have hq3 := hq2.set1 k (by simpa using HLQ.out) bb
        have hq4 := hq3.set2 k (by simpa using HLQ.out) ((K : Int) + 3 * (k : Int) + 1 + 1)
        simp only [List.set_set, List.getElem_set_self] at hq3 hq4
        obtain ⟨x, hxe⟩ : ∃ x, x = H[k]'HLQ.out := ⟨_, rfl⟩
        rw [← hxe] at m0 m1 m2
        have HQ4 : Hid (HoRow (((w1.setCell ⟨g, k * 3, none⟩ (.string ⟨y.toArray⟩)).setCell ⟨g, k * 3 + 1, none⟩ (.bool bb)).setCell ⟨g, k * 3 + 2, none⟩ (.int .i64 ((K : Int) + 3 * (k : Int) + 1 + 1))) g (halfH K L (k + 1))) := by rw [HN.out, HMK.out]; exact hq4
        have hgr2 : w.grownBy (((w1.setCell ⟨g, k * 3, none⟩ (.string ⟨y.toArray⟩)).setCell ⟨g, k * 3 + 1, none⟩ (.bool bb)).setCell ⟨g, k * 3 + 2, none⟩ (.int .i64 ((K : Int) + 3 * (k : Int) + 1 + 1))) (some g) := grown_set (grown_set (grown_set hgr1))
        rw [hbb] at HQ4 hgr2
        clear hq1 hq2 hq3 hq4 hb1 hgr hgr1 hy hxe HR HMK hbb
        go_wp2_with fail
        go_roundw
        case rel => exact ⟨k + 1, by omega, by go_num, congrArg (Value.int .i64) (by omega), HQ4, hgr2⟩
        case measure => simp [intOf]; omega
      · have hkk : k = L.length := by omega
        have HF : Hid (HoRow wr g (mrksH K L.length)) := by have := HR.out; rw [hkk, halfH_end] at this; exact this
        have HK : Hid (k = L.length) := hkk
        clear hkk
        go_wp2_with fail
        go_ret
        exact ⟨ret_int (by rw [HK.out]), .inr ⟨g, cap, by rw [mrksH_length], by rw [mrksH_length]; exact hcap, by unfold maxLen; omega, hbase, HF.out⟩, hgr⟩


set_option maxRecDepth 20000 in
set_option maxHeartbeats 1000000 in
theorem markHealth_any (ri fa : Int) (v : Value) (L : List HosT) (base K : Nat) (w : World) (ha : OwnH w base v L) (hA : L.length ≤ 1048576) (hK0 : 0 < K) (hK : K ≤ 1073741824) :
    Calls Tryz.prog 21 #[HeaV ri fa v, .int .i64 (K : Int)] w fun e w' => e = .returned (.int .i64 ((K : Int) + 3 * (L.length : Int))) ∧ OwnH w' base v (mrksH K L.length) ∧ Kpt w w' (fun k => v.ownBlock = some k) := by
  unfold HeaV
  obtain ⟨aa, ca, hva, hca⟩ := ha.shape
  subst hva
  have HA : Hid (OwnH w base (.slice aa L.length ca) L) := ha
  clear ha
  go_enter Tryz.func21, Tryz.ntmps21
  go_wp2_with fail
  refine (markHostS_any _ L base K _ (HA.out.kept ((Below.refl w.heap.size w).alloc (Nat.le_refl _) _)) hA hK0 (by omega)).mono ?_
  rintro e w1 ⟨rfl, ho1, hg1⟩
  have hk1 := grown_kpt hg1
  have HK1 : Hid (Kpt w w1 (fun k => (Value.slice aa L.length ca).ownBlock = some k)) := (below_kpt0 ((Below.refl w.heap.size w).alloc (Nat.le_refl _) _) _).trans (hk1.mono (fun k _ h => h))
  have HO1 : Hid (OwnH w1 base (.slice aa L.length ca) (mrksH K L.length)) := ho1
  clear ho1 hg1 hk1
  go_wp2_with fail
  go_ret
  exact ⟨rfl, HO1.out, HK1.out⟩

end Go.Proofs.YtoanloballaclaaGreatDoor
