import Derived.Test.YtoobaaklklommaaGreatDoorZ16
import Derived.Test.YtoobaaklklommaaGreatDoorZ08
import Derived.Test.YtoobaaklklommaaGreatDoorZ17
import Derived.Deep.QuietTactic
import Derived.BigQuiet
namespace Go.Proofs.YtoobaaklklommaaGreatDoor
open Go.RowKit

/-! What was done for a client last: four numbers; rows of such in memory, for the laws. -/
abbrev DonT : Type := Int × Int × Int × Int
def donc (x : DonT) : List Value := [.int .i64 x.1, .int .i64 x.2.1, .int .i64 x.2.2.1, .int .i64 x.2.2.2]
/-- The four cells of one at a place of a block. -/
def DonAt (w : World) (b o : Nat) (x : DonT) : Prop := ∀ r, r < 4 → w.cell? ⟨b, o + r, none⟩ = (donc x)[r]?
theorem DonAt.cells {w : World} {b o : Nat} {x : DonT} (h : DonAt w b o x) : w.cell? ⟨b, o, none⟩ = some (.int .i64 x.1) ∧ w.cell? ⟨b, o + 1, none⟩ = some (.int .i64 x.2.1) ∧ w.cell? ⟨b, o + 2, none⟩ = some (.int .i64 x.2.2.1) ∧ w.cell? ⟨b, o + 3, none⟩ = some (.int .i64 x.2.2.2) :=
  ⟨h 0 (by omega), h 1 (by omega), h 2 (by omega), h 3 (by omega)⟩
theorem DonAt.of {w : World} {b o : Nat} {x : DonT} (h0 : w.cell? ⟨b, o, none⟩ = some (.int .i64 x.1)) (h1 : w.cell? ⟨b, o + 1, none⟩ = some (.int .i64 x.2.1)) (h2 : w.cell? ⟨b, o + 2, none⟩ = some (.int .i64 x.2.2.1)) (h3 : w.cell? ⟨b, o + 3, none⟩ = some (.int .i64 x.2.2.2)) : DonAt w b o x := fun r hr => by
  match r, hr with
  | 0, _ => exact h0
  | 1, _ => exact h1
  | 2, _ => exact h2
  | 3, _ => exact h3
/-- A list of such as it lies in memory. -/
def DonRow (w : World) (v : Value) (L : List DonT) : Prop :=
  ∃ a cap, v = .slice a L.length cap ∧ L.length ≤ cap ∧ cap ≤ maxLen ∧ (L = [] ∨ ∃ b o, a = some ⟨b, o, none⟩ ∧ b < w.heap.size ∧ ∀ j, (hj : j < L.length) → DonAt w b (o + j * 4) L[j])
theorem DonAt.kept {w w' : World} {b o : Nat} {x : DonT} (h : DonAt w b o x) (hb : Below w.heap.size w w') : DonAt w' b o x := fun r hr => by
  have hlt := World.block_lt_of_cell? _ _ h.cells.1
  rw [hb.cell (p := ⟨b, o + r, none⟩) hlt]
  exact h r hr
theorem DonRow.kept {w w' : World} {v : Value} {L : List DonT} (h : DonRow w v L) (hb : Below w.heap.size w w') : DonRow w' v L := by
  obtain ⟨a, cap, rfl, h1, h2, h3⟩ := h
  refine ⟨a, cap, rfl, h1, h2, ?_⟩
  rcases h3 with h3 | ⟨b, o, rfl, hb1, hc⟩
  · exact .inl h3
  · exact .inr ⟨b, o, rfl, Nat.lt_of_lt_of_le hb1 hb.size, fun j hj => (hc j hj).kept hb⟩
theorem don_value {w : World} {v : Value} {L : List DonT} (h : DonRow w v L) : ∃ a cap, v = .slice a L.length cap ∧ L.length ≤ cap ∧ cap ≤ 9223372036854775807 ∧ Hid (0 < L.length → ∃ b o, a = some ⟨b, o, none⟩ ∧ b < w.heap.size ∧ ∀ j, (hj : j < L.length) → DonAt w b (o + j * 4) L[j]) := by
  obtain ⟨a, cap, rfl, h1, h2, h3⟩ := h
  unfold maxLen at h2
  refine ⟨a, cap, rfl, h1, by omega, fun hp => ?_⟩
  rcases h3 with rfl | h3
  · simp at hp
  · exact h3
theorem DonRow.nil (w : World) : DonRow w (.slice none 0 0) [] := ⟨none, 0, rfl, Nat.le_refl _, Nat.zero_le _, .inl rfl⟩
def FzD (w : World) (b o : Nat) : Prop := ∀ r, r < 4 → w.frozen? ⟨b, o + r, none⟩ = false
/-- Such in a block of the call's own. -/
def DoR (w : World) (g : Nat) (L : List DonT) : Prop := g < w.heap.size ∧ ∀ j, (hj : j < L.length) → DonAt w g (j * 4) L[j] ∧ FzD w g (j * 4)
theorem DoR.kept {w w' : World} {g : Nat} {L : List DonT} (h : DoR w g L) (hb : Below w.heap.size w w') : DoR w' g L := by
  refine ⟨Nat.lt_of_lt_of_le h.1 hb.size, fun j hj => ⟨(h.2 j hj).1.kept hb, fun r hr => ?_⟩⟩
  rw [hb.frozen (p := ⟨g, j * 4 + r, none⟩) h.1]
  exact (h.2 j hj).2 r hr
theorem DoR.row {w : World} {g cap : Nat} {L : List DonT} (h : DoR w g L) (hc : L.length ≤ cap) (hm : cap ≤ maxLen) : DonRow w (.slice (some ⟨g, 0, none⟩) L.length cap) L :=
  ⟨_, cap, rfl, hc, hm, .inr ⟨g, 0, rfl, h.1, fun j hj => by rw [Nat.zero_add]; exact (h.2 j hj).1⟩⟩
theorem DoR.row1 {w : World} {g : Nat} {L : List DonT} (h : DoR w g L) (hl : L.length ≤ 1048576) : DonRow w (.slice (some ⟨g, 0, none⟩) L.length L.length) L := h.row (Nat.le_refl _) (by unfold maxLen; omega)
theorem DoR.kpt {w w' : World} {S : Nat → Prop} {g : Nat} {L : List DonT} (h : DoR w g L) (hk : Kpt w w' S) (hn : ¬ S g) : DoR w' g L := by
  refine ⟨Nat.lt_of_lt_of_le h.1 hk.size, fun j hj => ?_⟩
  have hb := hk.block g h.1 hn
  have h0 := h.2 j hj
  refine ⟨fun r hr => ?_, fun r hr => ?_⟩
  · have h1 := h0.1 r hr
    unfold World.cell? at h1 ⊢
    simp only [hb] at h1 ⊢
    exact h1
  · have h1 := h0.2 r hr
    unfold World.frozen? at h1 ⊢
    simp only [hb] at h1 ⊢
    exact h1
theorem DoR.put {w : World} {g : Nat} {L : List DonT} (h : DoR w g L) (k : Nat) (hk : k < L.length) (r : Nat) (hr : r < 4) (u : Value) (x : DonT) (hx : donc x = (donc L[k]).set r u) : DoR (w.setCell ⟨g, k * 4 + r, none⟩ u) g (L.set k x) := by
  refine ⟨by simp; exact h.1, fun j hj => ?_⟩
  have hj' : j < L.length := by simpa using hj
  refine ⟨fun q hq => ?_, ?_⟩
  · rw [List.getElem_set]
    by_cases e : k = j
    · subst e
      rw [if_pos rfl, hx]
      have h0 := (h.2 k hk).1 q hq
      by_cases e2 : q = r
      · subst e2
        have hs : (donc L[k])[q]? = some ((donc L[k])[q]'hq) := List.getElem?_eq_getElem hq
        rw [World.cell?_setCell_same _ _ _ (h0.trans hs), List.getElem?_set_self (by exact hq)]
      · rw [World.cell?_setCell_other _ _ _ _ (fun e => by injection e with _ e; omega), h0, List.getElem?_set_ne (fun e => e2 e.symm)]
    · rw [if_neg e, World.cell?_setCell_other _ _ _ _ (fun e => by injection e with _ e; omega)]
      exact (h.2 j hj').1 q hq
  · have h0 := (h.2 j hj').2
    unfold FzD at h0 ⊢
    simpa using h0
/-- One stored. -/
def putD4 (w : World) (g o : Nat) (x : DonT) : World := (((w.setCell ⟨g, o, none⟩ (.int .i64 x.1)).setCell ⟨g, o + 1, none⟩ (.int .i64 x.2.1)).setCell ⟨g, o + 2, none⟩ (.int .i64 x.2.2.1)).setCell ⟨g, o + 3, none⟩ (.int .i64 x.2.2.2)
theorem putD4_below {B : Nat} {a w : World} (h : Below B a w) {g o : Nat} (hg : B ≤ g) (x : DonT) : Below B a (putD4 w g o x) :=
  (((h.setCell (p := ⟨g, o, none⟩) hg _).setCell (p := ⟨g, o + 1, none⟩) hg _).setCell (p := ⟨g, o + 2, none⟩) hg _).setCell (p := ⟨g, o + 3, none⟩) hg _
theorem DoR.set {w : World} {g : Nat} {L : List DonT} (h : DoR w g L) (k : Nat) (hk : k < L.length) (x : DonT) : DoR (putD4 w g (k * 4) x) g (L.set k x) := by
  obtain ⟨y, hy⟩ : ∃ y, y = L[k] := ⟨_, rfl⟩
  have h1 := h.put k hk 0 (by omega) (.int .i64 x.1) (x.1, y.2) (by rw [hy]; rfl)
  have h2 := h1.put k (by simpa using hk) 1 (by omega) (.int .i64 x.2.1) (x.1, x.2.1, y.2.2) (by rw [List.getElem_set_self]; rfl)
  rw [List.set_set] at h2
  have h3 := h2.put k (by simpa using hk) 2 (by omega) (.int .i64 x.2.2.1) (x.1, x.2.1, x.2.2.1, y.2.2.2) (by rw [List.getElem_set_self]; rfl)
  rw [List.set_set] at h3
  have h4 := h3.put k (by simpa using hk) 3 (by omega) (.int .i64 x.2.2.2) x (by rw [List.getElem_set_self]; rfl)
  rw [List.set_set] at h4
  exact h4
/-- What has been copied behind k rounds. -/
def partD (L : List DonT) (k : Nat) : List DonT := L.take k ++ List.replicate (L.length - k) (0, 0, 0, 0)
theorem partD_length (L : List DonT) (k : Nat) (h : k ≤ L.length) : (partD L k).length = L.length := by simp [partD]; omega
theorem partD_next (L : List DonT) (k : Nat) (h : k < L.length) : partD L (k + 1) = (partD L k).set k L[k] := by
  unfold partD
  have hm : (L.take k).length = k := by simp; omega
  rw [List.take_succ_eq_append_getElem h, List.set_append_right _ _ (by omega), hm, Nat.sub_self]
  obtain ⟨m, hm2⟩ : ∃ m, L.length - k = m + 1 := ⟨L.length - k - 1, by omega⟩
  rw [hm2, show L.length - (k + 1) = m by omega, List.replicate_succ]
  simp only [List.set_cons_zero, List.append_assoc, List.singleton_append]
theorem partD_end (L : List DonT) : partD L L.length = L := by simp [partD]
theorem info_don : (Tryz.prog.info? 44).map (fun i => (i.zero, i.size, i.bytes)) = some (some (.agg #[.int .i64 0, .int .i64 0, .int .i64 0, .int .i64 0]), 4, 32) := by kernel_rfl
theorem made_atD {n k r : Nat} {a b c d : Value} (hk : k < n) (hr : r < 4) : (madeCells #[a, b, c, d] (n * 4)).toList[k * 4 + r]? = [a, b, c, d][r]? := by
  unfold madeCells
  have h1 : k * 4 + r < n * 4 := by omega
  simp only [Array.toList_map, Array.toList_range, List.getElem?_map, List.getElem?_range h1, Option.map_some]
  rw [show (#[a, b, c, d] : Array Value).size = 4 from rfl, show (k * 4 + r) % 4 = r by omega]
  match r, hr with
  | 0, _ => rfl
  | 1, _ => rfl
  | 2, _ => rfl
  | 3, _ => rfl
theorem made_dor {w w1 : World} {L : List DonT} (hg : w.heap.size < w1.heap.size) (h : w1.ownsRow w.heap.size 44 4 (.slice (some ⟨w.heap.size, 0, none⟩) L.length L.length) L.length (madeCells #[.int .i64 0, .int .i64 0, .int .i64 0, .int .i64 0] (L.length * 4)).toList) : DoR w1 w.heap.size (partD L 0) := by
  have hp : partD L 0 = List.replicate L.length (0, 0, 0, 0) := by simp [partD]
  refine ⟨hg, fun j hj => ⟨fun r hr => ?_, fun r _ => h.frozenAt _⟩⟩
  have hj' : j < L.length := by rw [hp] at hj; simpa using hj
  have hx : (partD L 0)[j] = (0, 0, 0, 0) := by simp only [hp]; exact List.getElem_replicate _
  rw [hx, h.cellAt (j * 4 + r) (by omega), made_atD hj' hr]; rfl
set_option maxRecDepth 20000 in
set_option maxHeartbeats 400000 in
theorem toDone_any (x : DonT) (w : World) :
    Calls Tryz.prog 83 #[.agg #[.int .i64 x.1, .int .i64 x.2.1, .int .i64 x.2.2.1, .int .i64 x.2.2.2]] w fun e w' => e = .returned (.agg #[.int .i64 x.1, .int .i64 x.2.1, .int .i64 x.2.2.1, .int .i64 x.2.2.2]) ∧ Below w.heap.size w w' := by
  have hs1 : (w.alloc (.cells #[.int .i64 x.1, .int .i64 x.2.1, .int .i64 x.2.2.1, .int .i64 x.2.2.2] 119)).heap.size = w.heap.size + 1 := by simp
  go_enter Tryz.func83, Tryz.ntmps83
  go_wp2_with fail
  (try simp only [Exit.inBlock, Exit.then])
  refine bodyPost_ret (results_cell_row rfl _ _ (w.heap.size + 1) 44 #[.int .i64 x.1, .int .i64 x.2.1, .int .i64 x.2.2.1, .int .i64 x.2.2.2] (0, 0) _ rfl ?_ Tryz.underlying44 rfl (by kernel_rfl)) rfl ⟨rfl, ?_⟩
  · rw [Below.heap_alloc _ _ _ (by simp), ← hs1]; exact blk_new _ _
  · exact (((Below.refl _ _).alloc (Nat.le_refl _) _).alloc (by simp) _).alloc (by simp; omega) _
set_option maxRecDepth 20000 in
set_option maxHeartbeats 1000000 in
theorem toDoneS_any (v : Value) (L : List DonT) (w : World) (hr : DonRow w v L) (hl : L.length ≤ 1048576) :
    Calls Tryz.prog 46 #[v] w fun e w' => e = .returned (.slice (some ⟨w.heap.size, 0, none⟩) L.length L.length) ∧ DoR w' w.heap.size L ∧ Below w.heap.size w w' := by
  obtain ⟨i0, hi, hz0, hz1, hz2⟩ := info_parts info_don
  obtain ⟨a, cap, rfl, hcap, hmax, HROW⟩ := don_value hr
  have HTO : Hid (∀ (x : DonT) W, Calls Tryz.prog 83 #[.agg #[.int .i64 x.1, .int .i64 x.2.1, .int .i64 x.2.2.1, .int .i64 x.2.2.2]] W fun e w' => e = .returned (.agg #[.int .i64 x.1, .int .i64 x.2.1, .int .i64 x.2.2.1, .int .i64 x.2.2.2]) ∧ Below W.heap.size W w') := fun x W => toDone_any x W
  clear hr
  go_enter Tryz.func46, Tryz.ntmps46
  go_wp2_with (at_make; refine wpList_make_full _ rfl _ _ 33 rfl w.heap.size 44 i0 (.agg #[.int .i64 0, .int .i64 0, .int .i64 0, .int .i64 0]) 4 Tryz.underlying33 hi hz0 hz1 _ _ _ _ L.length rfl rfl rfl rfl ?b2 ?b3 ?b4 ?_)
  case b2 => rw [hz2]; omega
  case b3 => unfold maxLen; omega
  case b4 => exact Nat.le_refl _
  intro w1 hown hgrow
  have hb1 : Below w.heap.size w w1 := (Below.refl _ _).grown hgrow (Nat.le_refl _) (fun k h => by cases h)
  have hlt1 : w.heap.size < w1.heap.size := (hown.lt w.heap.size rfl).2
  have HS1 : Hid (DoR w1 w.heap.size (partD L 0)) := made_dor hlt1 hown
  clear hown hgrow hlt1
  go_wp2_with fail
  go_loopw [4] (fun i wr => ∃ k : Nat, k ≤ L.length ∧ i = .int .i64 (k : Int) ∧ Hid (DoR wr w.heap.size (partD L k)) ∧ Below w.heap.size w wr) (fun i _ => L.length - (intOf i).toNat)
  case atStart => exact ⟨0, Nat.zero_le _, rfl, HS1, hb1⟩
  case round =>
    obtain ⟨k, hk, rfl, HR, hb⟩ := hrel
    clear HS1 hb1
    by_cases hlt : k < L.length
    · obtain ⟨b, o, ha, hbl, hcel⟩ := HROW.out (by omega)
      rw [ha]
      obtain ⟨c0, c1, c2, c3⟩ := ((hcel k hlt).kept hb).cells
      have HN : Hid (partD L (k + 1) = (partD L k).set k (L[k]'hlt)) := partD_next L k hlt
      have hlp : k < (partD L k).length := by rw [partD_length L k hk]; exact hlt
      obtain ⟨x, hxe⟩ : ∃ x, x = L[k]'hlt := ⟨_, rfl⟩
      rw [← hxe] at c0 c1 c2 c3 HN
      have HST : Hid (∀ W, Below wr.heap.size wr W → DoR W w.heap.size (partD L k) ∧ DoR (putD4 W w.heap.size (k * 4) x) w.heap.size (partD L (k + 1))) := fun W hW => by
        have h1 := HR.out.kept hW
        exact ⟨h1, by rw [HN.out]; exact h1.set k hlp x⟩
      have HLP : Hid (k < (partD L k).length) := hlp
      clear hcel hxe hlp
      go_wp2_with fail
      refine (HTO.out x _).mono ?_
      rintro e w2 ⟨rfl, hb2⟩
      have hst := HST.out w2 hb2
      obtain ⟨m0, m1, m2, m3⟩ := (hst.1.2 k HLP.out).1.cells
      have f0 := (hst.1.2 k HLP.out).2 0 (by omega)
      have f1 := (hst.1.2 k HLP.out).2 1 (by omega)
      have f2 := (hst.1.2 k HLP.out).2 2 (by omega)
      have f3 := (hst.1.2 k HLP.out).2 3 (by omega)
      rw [Nat.add_zero] at f0
      have HQ : Hid (DoR (putD4 w2 w.heap.size (k * 4) x) w.heap.size (partD L (k + 1))) := hst.2
      have hb3 : Below w.heap.size w (putD4 w2 w.heap.size (k * 4) x) := putD4_below (hb.trans (hb2.mono hb.size)) (Nat.le_refl _) x
      unfold putD4 at HQ hb3
      obtain ⟨y, hy⟩ : ∃ y, y = (partD L k)[k]'HLP.out := ⟨_, rfl⟩
      rw [← hy] at m0 m1 m2 m3
      clear hst hb2 hy c0 c1 c2 c3
      go_wp2_with fail
      go_roundw
      case rel => exact ⟨k + 1, by omega, by go_num, HQ, hb3⟩
      case measure => simp [intOf]; omega
    · have hfull : partD L k = L := by rw [show k = L.length by omega]; exact partD_end L
      rw [hfull] at HR
      have HRR : Hid (DoR wr w.heap.size L) := HR
      clear hfull HR
      go_wp2_with fail
      go_ret
      exact ⟨rfl, HRR.out, hb⟩

set_option maxRecDepth 20000 in
set_option maxHeartbeats 400000 in
theorem eqDone_same (x : DonT) (w : World) :
    Calls Tryz.prog 18 #[.agg #[.int .i64 x.1, .int .i64 x.2.1, .int .i64 x.2.2.1, .int .i64 x.2.2.2], .agg #[.int .i64 x.1, .int .i64 x.2.1, .int .i64 x.2.2.1, .int .i64 x.2.2.2]] w fun e w' => e = .returned (.bool true) ∧ Below w.heap.size w w' := by
  have e1 : (x.1 != x.1) = false := by simp
  have e2 : (x.2.1 != x.2.1) = false := by simp
  have e3 : (x.2.2.1 != x.2.2.1) = false := by simp
  have e4 : (x.2.2.2 != x.2.2.2) = false := by simp
  go_enter Tryz.func18, Tryz.ntmps18
  go_wp2_with fail
  go_ret
  exact ⟨rfl, ((Below.refl _ _).alloc (Nat.le_refl _) _).alloc (by simp) _⟩

set_option maxRecDepth 20000 in
set_option maxHeartbeats 1000000 in
theorem eqDoneS_same (v1 v2 : Value) (L : List DonT) (w : World) (h1 : DonRow w v1 L) (h2 : DonRow w v2 L) :
    Calls Tryz.prog 27 #[v1, v2] w fun e w' => e = .returned (.bool true) ∧ Below w.heap.size w w' := by
  obtain ⟨a1, cap1, rfl, hc1, hm1, HR1⟩ := don_value h1
  obtain ⟨a2, cap2, rfl, hc2, hm2, HR2⟩ := don_value h2
  have el : ((L.length : Int) != (L.length : Int)) = false := by simp
  clear h1 h2
  go_enter Tryz.func27, Tryz.ntmps27
  go_wp2_with fail
  go_loopw [5] (fun i wr => ∃ k : Nat, k ≤ L.length ∧ i = .int .i64 (k : Int) ∧ Below w.heap.size w wr) (fun i _ => L.length - (intOf i).toNat)
  case atStart => exact ⟨0, Nat.zero_le _, rfl, Below.refl _ _⟩
  case round =>
    obtain ⟨k, hk, rfl, hb⟩ := hrel
    by_cases hlt : k < L.length
    · obtain ⟨b1, o1, ha1, hbl1, hcel1⟩ := HR1.out (by omega)
      obtain ⟨b2, o2, ha2, hbl2, hcel2⟩ := HR2.out (by omega)
      rw [ha1, ha2]
      have q1 := hcel1 k hlt
      have q2 := hcel2 k hlt
      obtain ⟨x, hx⟩ : ∃ x, x = L[k]'hlt := ⟨_, rfl⟩
      rw [← hx] at q1 q2
      have HC : Hid (∀ W, Below w.heap.size w W → DonAt W b1 (o1 + k * 4) x ∧ DonAt W b2 (o2 + k * 4) x) := fun W hW => ⟨q1.kept hW, q2.kept hW⟩
      have HEQ2 : Hid (∀ W, Calls Tryz.prog 18 #[.agg #[.int .i64 x.1, .int .i64 x.2.1, .int .i64 x.2.2.1, .int .i64 x.2.2.2], .agg #[.int .i64 x.1, .int .i64 x.2.1, .int .i64 x.2.2.1, .int .i64 x.2.2.2]] W fun e w' => e = .returned (.bool true) ∧ Below W.heap.size W w') := fun W => eqDone_same x W
      have hki : (k : Int) < (L.length : Int) := by omega
      have hbd := hb.drew
      clear hcel1 hcel2 hx q1 q2
      go_wp2_with fail
      refine wp_region_quiet (C := fun W => Below w.heap.size w W) (by kernel_rfl) (by kernel_rfl) hbd ?_
      refine wpQuiet_step (fun K hK => ?_)
      rw [if_pos (by rfl)]
      refine ⟨.slice (some ⟨b1, o1, none⟩) L.length cap1, fun W hW => quiet_ok ?_, hK _ ?_⟩
      · have f := HC.out W hW
        obtain ⟨c0, c1, c2, c3⟩ := f.1.cells
        obtain ⟨e0, e1, e2, e3⟩ := f.2.cells
        go_simp
        all_goals (try omega)
      clear hK K
      simp only [Act.put, List.setIfInBounds_toArray, List.set_cons_succ, List.set_cons_zero]
      refine wpQuiet_step (fun K hK => ?_)
      rw [if_pos (by rfl)]
      refine ⟨.int .i64 (k : Int), fun W hW => quiet_ok ?_, hK _ ?_⟩
      · have f := HC.out W hW
        obtain ⟨c0, c1, c2, c3⟩ := f.1.cells
        obtain ⟨e0, e1, e2, e3⟩ := f.2.cells
        go_simp
        all_goals (try omega)
      clear hK K
      simp only [Act.put, List.setIfInBounds_toArray, List.set_cons_succ, List.set_cons_zero]
      refine wpQuiet_step (fun K hK => ?_)
      rw [if_pos (by rfl)]
      refine ⟨.pointer (some ⟨b1, o1 + k * 4, none⟩), fun W hW => quiet_ok ?_, hK _ ?_⟩
      · have f := HC.out W hW
        obtain ⟨c0, c1, c2, c3⟩ := f.1.cells
        obtain ⟨e0, e1, e2, e3⟩ := f.2.cells
        go_simp
        all_goals (try omega)
      clear hK K
      simp only [Act.put, List.setIfInBounds_toArray, List.set_cons_succ, List.set_cons_zero]
      refine wpQuiet_step (fun K hK => ?_)
      rw [if_pos (by rfl)]
      refine ⟨.agg #[.int .i64 x.1, .int .i64 x.2.1, .int .i64 x.2.2.1, .int .i64 x.2.2.2], fun W hW => quiet_ok ?_, hK _ ?_⟩
      · have f := HC.out W hW
        obtain ⟨c0, c1, c2, c3⟩ := f.1.cells
        obtain ⟨e0, e1, e2, e3⟩ := f.2.cells
        go_simp
        all_goals (try omega)
      clear hK K
      simp only [Act.put, List.setIfInBounds_toArray, List.set_cons_succ, List.set_cons_zero]
      refine wpQuiet_step (fun K hK => ?_)
      rw [if_pos (by rfl)]
      refine ⟨.slice (some ⟨b2, o2, none⟩) L.length cap2, fun W hW => quiet_ok ?_, hK _ ?_⟩
      · have f := HC.out W hW
        obtain ⟨c0, c1, c2, c3⟩ := f.1.cells
        obtain ⟨e0, e1, e2, e3⟩ := f.2.cells
        go_simp
        all_goals (try omega)
      clear hK K
      simp only [Act.put, List.setIfInBounds_toArray, List.set_cons_succ, List.set_cons_zero]
      refine wpQuiet_step (fun K hK => ?_)
      rw [if_pos (by rfl)]
      refine ⟨.int .i64 (k : Int), fun W hW => quiet_ok ?_, hK _ ?_⟩
      · have f := HC.out W hW
        obtain ⟨c0, c1, c2, c3⟩ := f.1.cells
        obtain ⟨e0, e1, e2, e3⟩ := f.2.cells
        go_simp
        all_goals (try omega)
      clear hK K
      simp only [Act.put, List.setIfInBounds_toArray, List.set_cons_succ, List.set_cons_zero]
      refine wpQuiet_step (fun K hK => ?_)
      rw [if_pos (by rfl)]
      refine ⟨.pointer (some ⟨b2, o2 + k * 4, none⟩), fun W hW => quiet_ok ?_, hK _ ?_⟩
      · have f := HC.out W hW
        obtain ⟨c0, c1, c2, c3⟩ := f.1.cells
        obtain ⟨e0, e1, e2, e3⟩ := f.2.cells
        go_simp
        all_goals (try omega)
      clear hK K
      simp only [Act.put, List.setIfInBounds_toArray, List.set_cons_succ, List.set_cons_zero]
      refine wpQuiet_step (fun K hK => ?_)
      rw [if_pos (by rfl)]
      refine ⟨.agg #[.int .i64 x.1, .int .i64 x.2.1, .int .i64 x.2.2.1, .int .i64 x.2.2.2], fun W hW => quiet_ok ?_, hK _ ?_⟩
      · have f := HC.out W hW
        obtain ⟨c0, c1, c2, c3⟩ := f.1.cells
        obtain ⟨e0, e1, e2, e3⟩ := f.2.cells
        go_simp
        all_goals (try omega)
      clear hK K
      simp only [Act.put, List.setIfInBounds_toArray, List.set_cons_succ, List.set_cons_zero]
      refine wpQuiet_step (fun K hK => ?_)
      rw [if_pos (by rfl)]
      refine ⟨.bool true, fun W hW => quiet_call (f := 18) (args := #[.agg #[.int .i64 x.1, .int .i64 x.2.1, .int .i64 x.2.2.1, .int .i64 x.2.2.2], .agg #[.int .i64 x.1, .int .i64 x.2.1, .int .i64 x.2.2.1, .int .i64 x.2.2.2]]) ?_ ?_, hK _ ?_⟩
      · go_simp
      · exact (HEQ2.out W).mono fun e w'' h => ⟨h.1, hW.trans (h.2.mono hW.size)⟩
      clear hK K
      simp only [Act.put, List.setIfInBounds_toArray, List.set_cons_succ, List.set_cons_zero]
      refine wpQuiet_step (fun K hK => ?_)
      rw [if_pos (by rfl)]
      refine ⟨.bool false, fun W hW => quiet_ok ?_, hK _ ?_⟩
      · have f := HC.out W hW
        obtain ⟨c0, c1, c2, c3⟩ := f.1.cells
        obtain ⟨e0, e1, e2, e3⟩ := f.2.cells
        go_simp
        all_goals (try omega)
      clear hK K
      simp only [Act.put, List.setIfInBounds_toArray, List.set_cons_succ, List.set_cons_zero]
      refine wpQuiet_nil ?_
      intro W hW
      go_wp2_with fail
      go_roundw
      case rel => exact ⟨k + 1, by omega, by go_num, hW⟩
      case measure => simp [intOf]; omega
    · go_wp2_with fail
      go_ret
      exact ⟨rfl, hb⟩

set_option maxRecDepth 20000 in
set_option maxHeartbeats 400000 in
theorem szDoneS_any (v : Value) (L : List DonT) (left : Int) (w : World) (hr : DonRow w v L) (h0 : 0 ≤ left) (h1 : left ≤ 1048576) :
    Calls Tryz.prog 40 #[v, .int .i64 left] w fun e w' => (∃ q : Int, e = .returned (.int .i64 q) ∧ (q = -1 ∨ (0 ≤ q ∧ L.length ≤ 1048576))) ∧ w' = w := by
  obtain ⟨a, cap, rfl, hcap, hmax, _⟩ := don_value hr
  clear hr
  by_cases h : left - (L.length : Int) < 0
  · go_enter Tryz.func40, Tryz.ntmps40
    go_wp2_with fail
    go_ret
    exact ⟨⟨-1, rfl, .inl rfl⟩, rfl⟩
  · have HL : Hid (0 ≤ left - (L.length : Int) ∧ L.length ≤ 1048576) := ⟨by omega, by omega⟩
    go_enter Tryz.func40, Tryz.ntmps40
    go_wp2_with fail
    go_ret
    exact ⟨⟨_, rfl, .inr HL.out⟩, rfl⟩
end Go.Proofs.YtoobaaklklommaaGreatDoor

namespace Go.Proofs.YtoobaaklklommaaGreatDoor
open Go.RowKit

/-! A control as a value. -/
/-- A control. -/
def CtlV (nm : ByteArray) (ct : Int) (v vl : Value) (many : Int) : Value := .agg #[.string nm, .int .i64 ct, v, vl, .int .i64 many]
theorem ctl_cells {W : World} {b : Nat} {v0 v1 v2 v3 v4 : Value} {t : TypeId} (h : W.heap[b]? = some (.cells #[v0, v1, v2, v3, v4] t)) :
    (W.cell? ⟨b, 0, none⟩ = some v0 ∧ W.cell? ⟨b, 1, none⟩ = some v1 ∧ W.cell? ⟨b, 2, none⟩ = some v2 ∧ W.cell? ⟨b, 3, none⟩ = some v3 ∧ W.cell? ⟨b, 4, none⟩ = some v4) ∧ ∀ j, W.frozen? ⟨b, j, none⟩ = false := by
  refine ⟨⟨?_, ?_, ?_, ?_, ?_⟩, fun j => ?_⟩
  all_goals first
    | (unfold World.cell?; rw [h]; rfl)
    | (unfold World.frozen?; rw [h]; simp)
theorem don_cells {W : World} {b : Nat} {v0 v1 v2 v3 : Value} {t : TypeId} (h : W.heap[b]? = some (.cells #[v0, v1, v2, v3] t)) :
    W.cell? ⟨b, 0, none⟩ = some v0 ∧ W.cell? ⟨b, 1, none⟩ = some v1 ∧ W.cell? ⟨b, 2, none⟩ = some v2 ∧ W.cell? ⟨b, 3, none⟩ = some v3 := by
  refine ⟨?_, ?_, ?_, ?_⟩
  all_goals (unfold World.cell?; rw [h]; rfl)
theorem box5 {w W : World} {v0 v1 v2 v3 v4 : Value} {t : TypeId} (hb : Below (w.alloc (.cells #[v0, v1, v2, v3, v4] t)).heap.size (w.alloc (.cells #[v0, v1, v2, v3, v4] t)) W) :
    W.heap[w.heap.size]? = some (.cells #[v0, v1, v2, v3, v4] t) ∧ Below w.heap.size w W := by
  have hz : w.heap.size < (w.alloc (.cells #[v0, v1, v2, v3, v4] t)).heap.size := by simp
  exact ⟨(hb.block _ hz).trans (blk_new _ _), ((Below.refl w.heap.size w).alloc (Nat.le_refl _) _).trans (hb.mono (Nat.le_of_lt hz))⟩
/-- Five cells stored. -/
def put5 (w : World) (g : Nat) (v0 v1 v2 v3 v4 : Value) : World := ((((w.setCell ⟨g, 0, none⟩ v0).setCell ⟨g, 1, none⟩ v1).setCell ⟨g, 2, none⟩ v2).setCell ⟨g, 3, none⟩ v3).setCell ⟨g, 4, none⟩ v4
theorem put5_heap {w : World} {g : Nat} {t : TypeId} {v0 v1 v2 v3 v4 u0 u1 u2 u3 u4 : Value} (h : w.heap[g]? = some (.cells #[u0, u1, u2, u3, u4] t)) : (put5 w g v0 v1 v2 v3 v4).heap[g]? = some (.cells #[v0, v1, v2, v3, v4] t) := by
  have e0 := heap_setCell_same _ _ 0 _ _ v0 h
  have e1 := heap_setCell_same _ _ 1 _ _ v1 e0
  have e2 := heap_setCell_same _ _ 2 _ _ v2 e1
  have e3 := heap_setCell_same _ _ 3 _ _ v3 e2
  have e4 := heap_setCell_same _ _ 4 _ _ v4 e3
  unfold put5
  simpa using e4
theorem put5_below {B : Nat} {a w : World} (h : Below B a w) {g : Nat} (hg : B ≤ g) (v0 v1 v2 v3 v4 : Value) : Below B a (put5 w g v0 v1 v2 v3 v4) :=
  ((((h.setCell (p := ⟨g, 0, none⟩) hg _).setCell (p := ⟨g, 1, none⟩) hg _).setCell (p := ⟨g, 2, none⟩) hg _).setCell (p := ⟨g, 3, none⟩) hg _).setCell (p := ⟨g, 4, none⟩) hg _
theorem kpt_put5 (w : World) (g : Nat) (v0 v1 v2 v3 v4 : Value) {S : Nat → Prop} (hs : S g) : Kpt w (put5 w g v0 v1 v2 v3 v4) S := by
  unfold put5
  exact ((((kpt_set _ _ _ _ hs).trans (kpt_set _ _ _ _ hs)).trans (kpt_set _ _ _ _ hs)).trans (kpt_set _ _ _ _ hs)).trans (kpt_set _ _ _ _ hs)
end Go.Proofs.YtoobaaklklommaaGreatDoor
