import Derived.Test.YtoopfmebpjojiaaDoorLPrb
import Derived.Test.YtoopfmebpjojiaaDoorQk
namespace Go.Proofs.YtoopfmebpjojiaaDoor
open Go.RowKit

/-- A probe: a host's number, and whether it was fine. -/
abbrev PrbT : Type := Int × Bool
/-- The two cells of a probe at a place of a block. -/
def PrbAt (w : World) (b o : Nat) (x : PrbT) : Prop := w.cell? ⟨b, o, none⟩ = some (.int .i64 x.1) ∧ w.cell? ⟨b, o + 1, none⟩ = some (.bool x.2)
/-- A list of probes as it lies in memory. -/
def PrbRow (w : World) (v : Value) (L : List PrbT) : Prop :=
  ∃ a cap, v = .slice a L.length cap ∧ L.length ≤ cap ∧ cap ≤ maxLen ∧ (L = [] ∨ ∃ b o, a = some ⟨b, o, none⟩ ∧ b < w.heap.size ∧ ∀ j, (hj : j < L.length) → PrbAt w b (o + j * 2) L[j])
theorem PrbAt.kept {w w' : World} {b o : Nat} {x : PrbT} (h : PrbAt w b o x) (hb : Below w.heap.size w w') : PrbAt w' b o x := by
  have hlt := World.block_lt_of_cell? _ _ h.1
  unfold PrbAt
  rw [hb.cell (p := ⟨b, o, none⟩) hlt, hb.cell (p := ⟨b, o + 1, none⟩) hlt]
  exact h
theorem PrbRow.kept {w w' : World} {v : Value} {L : List PrbT} (h : PrbRow w v L) (hb : Below w.heap.size w w') : PrbRow w' v L := by
  obtain ⟨a, cap, rfl, h1, h2, h3⟩ := h
  refine ⟨a, cap, rfl, h1, h2, ?_⟩
  rcases h3 with h3 | ⟨b, o, rfl, hb1, hc⟩
  · exact .inl h3
  · exact .inr ⟨b, o, rfl, Nat.lt_of_lt_of_le hb1 hb.size, fun j hj => (hc j hj).kept hb⟩
theorem prb_value {w : World} {v : Value} {L : List PrbT} (h : PrbRow w v L) : ∃ a cap, v = .slice a L.length cap ∧ L.length ≤ cap ∧ cap ≤ 9223372036854775807 ∧ Hid (0 < L.length → ∃ b o, a = some ⟨b, o, none⟩ ∧ b < w.heap.size ∧ ∀ j, (hj : j < L.length) → PrbAt w b (o + j * 2) L[j]) := by
  obtain ⟨a, cap, rfl, h1, h2, h3⟩ := h
  unfold maxLen at h2
  refine ⟨a, cap, rfl, h1, by omega, fun hp => ?_⟩
  rcases h3 with rfl | h3
  · simp at hp
  · exact h3
def FzP (w : World) (b o : Nat) : Prop := w.frozen? ⟨b, o, none⟩ = false ∧ w.frozen? ⟨b, o + 1, none⟩ = false
/-- Probes as they lie in a block of the call's own. -/
def PoRow (w : World) (g : Nat) (L : List PrbT) : Prop := g < w.heap.size ∧ ∀ j, (hj : j < L.length) → PrbAt w g (j * 2) L[j] ∧ FzP w g (j * 2)
theorem PoRow.kept {w w' : World} {g : Nat} {L : List PrbT} (h : PoRow w g L) (hb : Below w.heap.size w w') : PoRow w' g L := by
  refine ⟨Nat.lt_of_lt_of_le h.1 hb.size, fun j hj => ⟨(h.2 j hj).1.kept hb, ?_⟩⟩
  unfold FzP
  rw [hb.frozen (p := ⟨g, j * 2, none⟩) h.1, hb.frozen (p := ⟨g, j * 2 + 1, none⟩) h.1]
  exact (h.2 j hj).2
theorem PoRow.row {w : World} {g cap : Nat} {L : List PrbT} (h : PoRow w g L) (hc : L.length ≤ cap) (hm : cap ≤ maxLen) : PrbRow w (.slice (some ⟨g, 0, none⟩) L.length cap) L :=
  ⟨_, cap, rfl, hc, hm, .inr ⟨g, 0, rfl, h.1, fun j hj => by rw [Nat.zero_add]; exact (h.2 j hj).1⟩⟩
/-- A probe stored. -/
def putP (w : World) (g o : Nat) (x : PrbT) : World := (w.setCell ⟨g, o, none⟩ (.int .i64 x.1)).setCell ⟨g, o + 1, none⟩ (.bool x.2)
theorem putP_size (w : World) (g o : Nat) (x : PrbT) : (putP w g o x).heap.size = w.heap.size := by unfold putP; simp
theorem putP_frozen (w : World) (g o : Nat) (x : PrbT) (p : Addr) : (putP w g o x).frozen? p = w.frozen? p := by unfold putP; simp
theorem putP_other {w : World} {g o : Nat} {x : PrbT} {b c : Nat} (h : b ≠ g ∨ (c < o ∨ o + 1 < c)) : (putP w g o x).cell? ⟨b, c, none⟩ = w.cell? ⟨b, c, none⟩ := by
  have hn : ∀ k, k ≤ 1 → (⟨g, o + k, none⟩ : Addr) ≠ ⟨b, c, none⟩ := fun k hk e => by
    injection e with e1 e2
    rcases h with h | h
    · exact h e1.symm
    · omega
  unfold putP
  rw [World.cell?_setCell_other _ _ _ _ (hn 1 (by omega)), World.cell?_setCell_other _ _ _ _ (show (⟨g, o, none⟩ : Addr) ≠ ⟨b, c, none⟩ from hn 0 (by omega))]
theorem putP_at {w : World} {g o : Nat} {x y : PrbT} (h : PrbAt w g o y) : PrbAt (putP w g o x) g o x := by
  have n : (⟨g, o, none⟩ : Addr) ≠ ⟨g, o + 1, none⟩ := fun e => by injection e with _ e2; omega
  obtain ⟨h0, h1⟩ := h
  unfold putP PrbAt
  refine ⟨?_, ?_⟩
  · rw [World.cell?_setCell_other _ _ _ _ n.symm]
    exact World.cell?_setCell_same _ _ _ h0
  · exact World.cell?_setCell_same _ _ _ (by rw [World.cell?_setCell_other _ _ _ _ n]; exact h1)
theorem putP_below {B : Nat} {a w : World} (h : Below B a w) {g o : Nat} (hg : B ≤ g) (x : PrbT) : Below B a (putP w g o x) :=
  (h.setCell (p := ⟨g, o, none⟩) hg _).setCell (p := ⟨g, o + 1, none⟩) hg _
theorem PoRow.set {w : World} {g : Nat} {L : List PrbT} (h : PoRow w g L) (k : Nat) (hk : k < L.length) (x : PrbT) : PoRow (putP w g (k * 2) x) g (L.set k x) := by
  refine ⟨by rw [putP_size]; exact h.1, fun j hj => ?_⟩
  have hj' : j < L.length := by simpa using hj
  refine ⟨?_, ?_⟩
  · rw [List.getElem_set]
    split
    · rename_i e; subst e; exact putP_at (h.2 k hk).1
    · rename_i e
      have h0 := (h.2 j hj').1
      unfold PrbAt at h0 ⊢
      rw [putP_other (.inr (by omega)), putP_other (.inr (by omega))]
      exact h0
  · have h0 := (h.2 j hj').2
    unfold FzP at h0 ⊢
    rw [putP_frozen, putP_frozen]; exact h0
/-- What has been copied behind k rounds. -/
def partP (L : List PrbT) (k : Nat) : List PrbT := L.take k ++ List.replicate (L.length - k) (0, false)
theorem partP_length (L : List PrbT) (k : Nat) (h : k ≤ L.length) : (partP L k).length = L.length := by simp [partP]; omega
theorem partP_next (L : List PrbT) (k : Nat) (h : k < L.length) : partP L (k + 1) = (partP L k).set k L[k] := by
  unfold partP
  have hm : (L.take k).length = k := by simp; omega
  rw [List.take_succ_eq_append_getElem h, List.set_append_right _ _ (by omega), hm, Nat.sub_self]
  obtain ⟨m, hm2⟩ : ∃ m, L.length - k = m + 1 := ⟨L.length - k - 1, by omega⟩
  rw [hm2, show L.length - (k + 1) = m by omega, List.replicate_succ]
  simp only [List.set_cons_zero, List.append_assoc, List.singleton_append]
theorem partP_end (L : List PrbT) : partP L L.length = L := by simp [partP]
theorem info_prb : (Tryd.prog.info? 45).map (fun i => (i.zero, i.size, i.bytes)) = some (some (.agg #[.int .i64 0, .bool false]), 2, 16) := by kernel_rfl
theorem made_atP {n k r : Nat} {a b : Value} (hk : k < n) (hr : r < 2) : (madeCells #[a, b] (n * 2)).toList[k * 2 + r]? = [a, b][r]? := by
  unfold madeCells
  have h1 : k * 2 + r < n * 2 := by omega
  simp only [Array.toList_map, Array.toList_range, List.getElem?_map, List.getElem?_range h1, Option.map_some]
  rw [show (#[a, b] : Array Value).size = 2 from rfl, show (k * 2 + r) % 2 = r by omega]
  match r, hr with
  | 0, _ => rfl
  | 1, _ => rfl
theorem made_porow {w w1 : World} {L : List PrbT} (hg : w.heap.size < w1.heap.size) (h : w1.ownsRow w.heap.size 45 2 (.slice (some ⟨w.heap.size, 0, none⟩) L.length L.length) L.length (madeCells #[.int .i64 0, .bool false] (L.length * 2)).toList) : PoRow w1 w.heap.size (partP L 0) := by
  have hp : partP L 0 = List.replicate L.length (0, false) := by simp [partP]
  refine ⟨hg, fun j hj => ⟨?_, h.frozenAt _, h.frozenAt _⟩⟩
  have hj' : j < L.length := by rw [hp] at hj; simpa using hj
  have hx : (partP L 0)[j] = (0, false) := by simp only [hp]; exact List.getElem_replicate _
  rw [hx]
  unfold PrbAt
  refine ⟨?_, ?_⟩
  · rw [h.cellAt (j * 2) (by omega), show j * 2 = j * 2 + 0 from rfl, made_atP hj' (by omega)]; rfl
  · rw [h.cellAt (j * 2 + 1) (by omega), made_atP hj' (by omega)]; rfl
set_option maxRecDepth 20000 in
set_option maxHeartbeats 1000000 in
theorem toProbeS_any (v : Value) (L : List PrbT) (w : World) (hr : PrbRow w v L) (hl : L.length ≤ 1048576) :
    Calls Tryd.prog 28 #[v] w fun e w' => e = .returned (.slice (some ⟨w.heap.size, 0, none⟩) L.length L.length) ∧ PoRow w' w.heap.size L ∧ Below w.heap.size w w' := by
  obtain ⟨i0, hi, hz0, hz1, hz2⟩ := info_parts info_prb
  obtain ⟨a, cap, rfl, hcap, hmax, HROW⟩ := prb_value hr
  have HTO : Hid (∀ (x : PrbT) W, Calls Tryd.prog 24 #[.agg #[.int .i64 x.1, .bool x.2]] W fun e w' => e = .returned (.agg #[.int .i64 x.1, .bool x.2]) ∧ Below W.heap.size W w') := fun x W => toProbe_any x.1 x.2 W
  clear hr
  go_enter Tryd.func28, Tryd.ntmps28
  go_wp2_with (at_make; refine wpList_make_full _ rfl _ _ 52 rfl w.heap.size 45 i0 (.agg #[.int .i64 0, .bool false]) 2 Tryd.underlying52 hi hz0 hz1 _ _ _ _ L.length rfl rfl rfl rfl ?b2 ?b3 ?b4 ?_)
  case b2 => rw [hz2]; omega
  case b3 => unfold maxLen; omega
  case b4 => exact Nat.le_refl _
  intro w1 hown hgrow
  have hb1 : Below w.heap.size w w1 := (Below.refl _ _).grown hgrow (Nat.le_refl _) (fun k h => by cases h)
  have hlt1 : w.heap.size < w1.heap.size := (hown.lt w.heap.size rfl).2
  have HS1 : Hid (PoRow w1 w.heap.size (partP L 0)) := made_porow hlt1 hown
  clear hown hgrow hlt1
  go_wp2_with fail
  go_loopw [4] (fun i wr => ∃ k : Nat, k ≤ L.length ∧ i = .int .i64 (k : Int) ∧ Hid (PoRow wr w.heap.size (partP L k)) ∧ Below w.heap.size w wr) (fun i _ => L.length - (intOf i).toNat)
  case atStart => exact ⟨0, Nat.zero_le _, rfl, HS1, hb1⟩
  case round =>
    obtain ⟨k, hk, rfl, HR, hb⟩ := hrel
    clear HS1 hb1
    by_cases hlt : k < L.length
    · obtain ⟨b, o, ha, hbl, hcel⟩ := HROW.out (by omega)
      rw [ha]
      have hcx := hcel k hlt
      unfold PrbAt at hcx
      rw [← hb.cell (p := ⟨b, o + k * 2, none⟩) hbl, ← hb.cell (p := ⟨b, o + k * 2 + 1, none⟩) hbl] at hcx
      obtain ⟨c0, c1⟩ := hcx
      have HN : Hid (partP L (k + 1) = (partP L k).set k (L[k]'hlt)) := partP_next L k hlt
      have hlp : k < (partP L k).length := by rw [partP_length L k hk]; exact hlt
      obtain ⟨x, hxe⟩ : ∃ x, x = L[k]'hlt := ⟨_, rfl⟩
      rw [← hxe] at c0 c1 HN
      have HST : Hid (∀ W, Below wr.heap.size wr W → PoRow W w.heap.size (partP L k) ∧ PoRow (putP W w.heap.size (k * 2) x) w.heap.size (partP L (k + 1))) := fun W hW => by
        have h1 := HR.out.kept hW
        exact ⟨h1, by rw [HN.out]; exact h1.set k hlp x⟩
      have HLP : Hid (k < (partP L k).length) := hlp
      clear hcel hxe hlp
      go_wp2_with fail
      refine (HTO.out x _).mono ?_
      rintro e w2 ⟨rfl, hb2⟩
      have hst := HST.out w2 hb2
      obtain ⟨⟨m0, m1⟩, ⟨f0, f1⟩⟩ := hst.1.2 k HLP.out
      have HQ : Hid (PoRow (putP w2 w.heap.size (k * 2) x) w.heap.size (partP L (k + 1))) := hst.2
      have hb3 : Below w.heap.size w (putP w2 w.heap.size (k * 2) x) := putP_below (hb.trans (hb2.mono hb.size)) (Nat.le_refl _) x
      unfold putP at HQ hb3
      obtain ⟨y, hy⟩ : ∃ y, y = (partP L k)[k]'HLP.out := ⟨_, rfl⟩
      rw [← hy] at m0 m1
      clear hst hb2 hy c0 c1
      go_wp2_with fail
      go_roundw
      case rel => exact ⟨k + 1, by omega, by go_num, HQ, hb3⟩
      case measure => simp [intOf]; omega
    · have hfull : partP L k = L := by rw [show k = L.length by omega]; exact partP_end L
      rw [hfull] at HR
      have HRR : Hid (PoRow wr w.heap.size L) := HR
      clear hfull HR
      go_wp2_with fail
      go_ret
      exact ⟨rfl, HRR.out, hb⟩

set_option maxRecDepth 20000 in
set_option maxHeartbeats 400000 in
theorem eqProbe_same (k : Int) (o : Bool) (w : World) :
    Calls Tryd.prog 56 #[.agg #[.int .i64 k, .bool o], .agg #[.int .i64 k, .bool o]] w fun e w' => e = .returned (.bool true) ∧ Below w.heap.size w w' := by
  have e1 : (k != k) = false := by simp
  have e2 : (o != o) = false := by simp
  go_enter Tryd.func56, Tryd.ntmps56
  go_wp2_with fail
  go_ret
  exact ⟨rfl, ((Below.refl _ _).alloc (Nat.le_refl _) _).alloc (by simp) _⟩

set_option maxRecDepth 20000 in
set_option maxHeartbeats 1000000 in
theorem eqProbeS_same (v1 v2 : Value) (L : List PrbT) (w : World) (h1 : PrbRow w v1 L) (h2 : PrbRow w v2 L) :
    Calls Tryd.prog 30 #[v1, v2] w fun e w' => e = .returned (.bool true) ∧ Below w.heap.size w w' := by
  obtain ⟨a1, cap1, rfl, hc1, hm1, HR1⟩ := prb_value h1
  obtain ⟨a2, cap2, rfl, hc2, hm2, HR2⟩ := prb_value h2
  have el : ((L.length : Int) != (L.length : Int)) = false := by simp
  clear h1 h2
  go_enter Tryd.func30, Tryd.ntmps30
  go_wp2_with fail
  go_loopw [5] (fun i wr => ∃ k : Nat, k ≤ L.length ∧ i = .int .i64 (k : Int) ∧ Below w.heap.size w wr) (fun i _ => L.length - (intOf i).toNat)
  case atStart => exact ⟨0, Nat.zero_le _, rfl, Below.refl _ _⟩
  case round =>
    obtain ⟨k, hk, rfl, hb⟩ := hrel
    by_cases hlt : k < L.length
    · obtain ⟨b1, o1, ha1, hbl1, hcel1⟩ := HR1.out (by omega)
      obtain ⟨b2, o2, ha2, hbl2, hcel2⟩ := HR2.out (by omega)
      rw [ha1, ha2]
      have q1 := hcel1 k hlt
      have q2 := hcel2 k hlt
      obtain ⟨x, hx⟩ : ∃ x, x = L[k]'hlt := ⟨_, rfl⟩
      rw [← hx] at q1 q2
      have HC : Hid (∀ W, Below w.heap.size w W → PrbAt W b1 (o1 + k * 2) x ∧ PrbAt W b2 (o2 + k * 2) x) := fun W hW => ⟨q1.kept hW, q2.kept hW⟩
      have HEQ2 : Hid (∀ W, Calls Tryd.prog 56 #[.agg #[.int .i64 x.1, .bool x.2], .agg #[.int .i64 x.1, .bool x.2]] W fun e w' => e = .returned (.bool true) ∧ Below W.heap.size W w') := fun W => eqProbe_same x.1 x.2 W
      have hki : (k : Int) < (L.length : Int) := by omega
      have hbd := hb.drew
      unfold PrbAt at HC
      clear hcel1 hcel2 hx q1 q2
      go_wp2_with fail
      refine wp_region_quiet (C := fun W => Below w.heap.size w W) (by kernel_rfl) (by kernel_rfl) hbd ?_
      refine wpQuiet_step (fun K hK => ?_)
      rw [if_pos (by rfl)]
      refine ⟨.slice (some ⟨b1, o1, none⟩) L.length cap1, fun W hW => quiet_ok ?_, hK _ ?_⟩
      · have f := HC.out W hW
        obtain ⟨⟨c0, c1⟩, ⟨e0, e1⟩⟩ := f
        go_simp
        all_goals (try omega)
      clear hK K
      simp only [Act.put, List.setIfInBounds_toArray, List.set_cons_succ, List.set_cons_zero]
      refine wpQuiet_step (fun K hK => ?_)
      rw [if_pos (by rfl)]
      refine ⟨.int .i64 (k : Int), fun W hW => quiet_ok ?_, hK _ ?_⟩
      · have f := HC.out W hW
        obtain ⟨⟨c0, c1⟩, ⟨e0, e1⟩⟩ := f
        go_simp
        all_goals (try omega)
      clear hK K
      simp only [Act.put, List.setIfInBounds_toArray, List.set_cons_succ, List.set_cons_zero]
      refine wpQuiet_step (fun K hK => ?_)
      rw [if_pos (by rfl)]
      refine ⟨.pointer (some ⟨b1, o1 + k * 2, none⟩), fun W hW => quiet_ok ?_, hK _ ?_⟩
      · have f := HC.out W hW
        obtain ⟨⟨c0, c1⟩, ⟨e0, e1⟩⟩ := f
        go_simp
        all_goals (try omega)
      clear hK K
      simp only [Act.put, List.setIfInBounds_toArray, List.set_cons_succ, List.set_cons_zero]
      refine wpQuiet_step (fun K hK => ?_)
      rw [if_pos (by rfl)]
      refine ⟨.agg #[.int .i64 x.1, .bool x.2], fun W hW => quiet_ok ?_, hK _ ?_⟩
      · have f := HC.out W hW
        obtain ⟨⟨c0, c1⟩, ⟨e0, e1⟩⟩ := f
        go_simp
        all_goals (try omega)
      clear hK K
      simp only [Act.put, List.setIfInBounds_toArray, List.set_cons_succ, List.set_cons_zero]
      refine wpQuiet_step (fun K hK => ?_)
      rw [if_pos (by rfl)]
      refine ⟨.slice (some ⟨b2, o2, none⟩) L.length cap2, fun W hW => quiet_ok ?_, hK _ ?_⟩
      · have f := HC.out W hW
        obtain ⟨⟨c0, c1⟩, ⟨e0, e1⟩⟩ := f
        go_simp
        all_goals (try omega)
      clear hK K
      simp only [Act.put, List.setIfInBounds_toArray, List.set_cons_succ, List.set_cons_zero]
      refine wpQuiet_step (fun K hK => ?_)
      rw [if_pos (by rfl)]
      refine ⟨.int .i64 (k : Int), fun W hW => quiet_ok ?_, hK _ ?_⟩
      · have f := HC.out W hW
        obtain ⟨⟨c0, c1⟩, ⟨e0, e1⟩⟩ := f
        go_simp
        all_goals (try omega)
      clear hK K
      simp only [Act.put, List.setIfInBounds_toArray, List.set_cons_succ, List.set_cons_zero]
      refine wpQuiet_step (fun K hK => ?_)
      rw [if_pos (by rfl)]
      refine ⟨.pointer (some ⟨b2, o2 + k * 2, none⟩), fun W hW => quiet_ok ?_, hK _ ?_⟩
      · have f := HC.out W hW
        obtain ⟨⟨c0, c1⟩, ⟨e0, e1⟩⟩ := f
        go_simp
        all_goals (try omega)
      clear hK K
      simp only [Act.put, List.setIfInBounds_toArray, List.set_cons_succ, List.set_cons_zero]
      refine wpQuiet_step (fun K hK => ?_)
      rw [if_pos (by rfl)]
      refine ⟨.agg #[.int .i64 x.1, .bool x.2], fun W hW => quiet_ok ?_, hK _ ?_⟩
      · have f := HC.out W hW
        obtain ⟨⟨c0, c1⟩, ⟨e0, e1⟩⟩ := f
        go_simp
        all_goals (try omega)
      clear hK K
      simp only [Act.put, List.setIfInBounds_toArray, List.set_cons_succ, List.set_cons_zero]
      refine wpQuiet_step (fun K hK => ?_)
      rw [if_pos (by rfl)]
      refine ⟨.bool true, fun W hW => quiet_call (f := 56) (args := #[.agg #[.int .i64 x.1, .bool x.2], .agg #[.int .i64 x.1, .bool x.2]]) ?_ ?_, hK _ ?_⟩
      · go_simp
      · exact (HEQ2.out W).mono fun e w'' h => ⟨h.1, hW.trans (h.2.mono hW.size)⟩
      clear hK K
      simp only [Act.put, List.setIfInBounds_toArray, List.set_cons_succ, List.set_cons_zero]
      refine wpQuiet_step (fun K hK => ?_)
      rw [if_pos (by rfl)]
      refine ⟨.bool false, fun W hW => quiet_ok ?_, hK _ ?_⟩
      · have f := HC.out W hW
        obtain ⟨⟨c0, c1⟩, ⟨e0, e1⟩⟩ := f
        go_simp
        all_goals (try omega)
      clear hK K
      simp only [Act.put, List.setIfInBounds_toArray, List.set_cons_succ, List.set_cons_zero]
      refine wpQuiet_nil ?_
      intro W hW
      go_wp2_with fail
      go_roundw
      case rel => exact ⟨k + 1, by omega, by go_num, hW⟩
      case measure => simp [intOf]; omega
    · go_wp2_with fail
      go_ret
      exact ⟨rfl, hb⟩

set_option maxRecDepth 20000 in
set_option maxHeartbeats 400000 in
theorem szProbeS_any (v : Value) (L : List PrbT) (left : Int) (w : World) (hr : PrbRow w v L) (h0 : 0 ≤ left) (h1 : left ≤ 1048576) :
    Calls Tryd.prog 26 #[v, .int .i64 left] w fun e w' => (∃ q : Int, e = .returned (.int .i64 q) ∧ (0 ≤ q → L.length ≤ 1048576)) ∧ w' = w := by
  obtain ⟨a, cap, rfl, hcap, hmax, _⟩ := prb_value hr
  clear hr
  by_cases h : left - (L.length : Int) < 0
  · go_enter Tryd.func26, Tryd.ntmps26
    go_wp2_with fail
    go_ret
    exact ⟨⟨-1, rfl, fun h => by omega⟩, rfl⟩
  · have HL : Hid (L.length ≤ 1048576) := by show L.length ≤ 1048576; omega
    go_enter Tryd.func26, Tryd.ntmps26
    go_wp2_with fail
    go_ret
    exact ⟨⟨_, rfl, fun _ => HL.out⟩, rfl⟩
set_option maxRecDepth 20000 in
set_option maxHeartbeats 1000000 in
theorem markProbeS_any (L : List PrbT) (g : Nat) (K : Int) (w : World) (h : PoRow w g L) (hL : L.length ≤ 1048576) (hK0 : 0 < K) (hK : K ≤ 1073741824) :
    Calls Tryd.prog 31 #[.slice (some ⟨g, 0, none⟩) L.length L.length, .int .i64 K] w fun e w' => e = .returned (.int .i64 (K + 2 * (L.length : Int))) ∧ Kpt w w' (fun b => b = g) := by
  have HS : Hid (∃ H, H.length = L.length ∧ PoRow w g H) := ⟨L, rfl, h⟩
  clear h
  go_enter Tryd.func31, Tryd.ntmps31
  go_wp2_with fail
  go_loopw [1, 5] (fun q i wr => ∃ k : Nat, k ≤ L.length ∧ i = .int .i64 (k : Int) ∧ q = .int .i64 (K + 2 * (k : Int)) ∧ Hid (∃ H, H.length = L.length ∧ PoRow wr g H) ∧ Hid (Kpt w wr (fun b => b = g))) (fun _ i _ => L.length - (intOf i).toNat)
  case atStart => exact ⟨0, Nat.zero_le _, rfl, by simp, HS, Kpt.refl _ _⟩
  case round =>
    obtain ⟨k, hk, rfl, rfl, HR, HKP⟩ := hrel
    by_cases hlt : k < L.length
    · obtain ⟨H, hH, hrow⟩ := HR.out
      have hkH : k < H.length := by omega
      obtain ⟨⟨m0, m1⟩, ⟨f0, f1⟩⟩ := hrow.2 k hkH
      obtain ⟨bb, hbb⟩ : ∃ bb, bb = ((K + 2 * (k : Int) + 1) % 3 == 0) := ⟨_, rfl⟩
      have HQ : Hid (∃ H', H'.length = L.length ∧ PoRow ((wr.setCell ⟨g, k * 2, none⟩ (.int .i64 (K + 2 * (k : Int)))).setCell ⟨g, k * 2 + 1, none⟩ (.bool bb)) g H') := ⟨H.set k (K + 2 * (k : Int), bb), by simpa using hH, hrow.set k hkH (K + 2 * (k : Int), bb)⟩
      have HK2 : Hid (Kpt w ((wr.setCell ⟨g, k * 2, none⟩ (.int .i64 (K + 2 * (k : Int)))).setCell ⟨g, k * 2 + 1, none⟩ (.bool bb)) (fun b => b = g)) := (HKP.out.trans (kpt_set _ _ _ _ rfl)).trans (kpt_set _ _ _ _ rfl)
      rw [hbb] at HQ HK2
      clear hrow hH hbb HR HKP HS
      go_wp2_with fail
      go_roundw
      case rel => exact ⟨k + 1, by omega, by go_num, congrArg (Value.int .i64) (by omega), HQ, HK2⟩
      case measure => simp [intOf]; omega
    · have HE : Hid (k = L.length) := by show k = L.length; omega
      go_wp2_with fail
      go_ret
      exact ⟨ret_int (by rw [HE.out]), HKP.out⟩
end Go.Proofs.YtoopfmebpjojiaaDoor
