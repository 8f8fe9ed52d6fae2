import Derived.Test.YtafbnhelcoofmaaPkW
import Derived.Test.YtafbnhelcoofmaaQk
namespace Go.Proofs.Ytafbnhelcoofmaa
open Go.RowKit

/-- The two cells of a column at a place of a block. -/
def ColAt (w : World) (b o : Nat) (x : Int × Int) : Prop := w.cell? ⟨b, o, none⟩ = some (.int .i64 x.1) ∧ w.cell? ⟨b, o + 1, none⟩ = some (.int .i64 x.2)
/-- A list of columns as it lies in memory. -/
def ColRow (w : World) (v : Value) (L : List (Int × Int)) : Prop :=
  ∃ a cap, v = .slice a L.length cap ∧ L.length ≤ cap ∧ cap ≤ maxLen ∧ (L = [] ∨ ∃ b o, a = some ⟨b, o, none⟩ ∧ b < w.heap.size ∧ ∀ j, (hj : j < L.length) → ColAt w b (o + j * 2) L[j])
theorem ColAt.kept {w w' : World} {b o : Nat} {x : Int × Int} (h : ColAt w b o x) (hb : Below w.heap.size w w') : ColAt w' b o x := by
  have hlt := World.block_lt_of_cell? _ _ h.1
  unfold ColAt
  rw [hb.cell (p := ⟨b, o, none⟩) hlt, hb.cell (p := ⟨b, o + 1, none⟩) hlt]
  exact h
theorem ColRow.kept {w w' : World} {v : Value} {L : List (Int × Int)} (h : ColRow w v L) (hb : Below w.heap.size w w') : ColRow w' v L := by
  obtain ⟨a, cap, rfl, h1, h2, h3⟩ := h
  refine ⟨a, cap, rfl, h1, h2, ?_⟩
  rcases h3 with h3 | ⟨b, o, rfl, hb1, hc⟩
  · exact .inl h3
  · exact .inr ⟨b, o, rfl, Nat.lt_of_lt_of_le hb1 hb.size, fun j hj => (hc j hj).kept hb⟩
theorem col_value {w : World} {v : Value} {L : List (Int × Int)} (h : ColRow w v L) : ∃ a cap, v = .slice a L.length cap ∧ L.length ≤ cap ∧ cap ≤ 9223372036854775807 ∧ Hid (0 < L.length → ∃ b o, a = some ⟨b, o, none⟩ ∧ b < w.heap.size ∧ ∀ j, (hj : j < L.length) → ColAt w b (o + j * 2) L[j]) := by
  obtain ⟨a, cap, rfl, h1, h2, h3⟩ := h
  unfold maxLen at h2
  refine ⟨a, cap, rfl, h1, by omega, fun hp => ?_⟩
  rcases h3 with rfl | h3
  · simp at hp
  · exact h3
def FzC (w : World) (b o : Nat) : Prop := w.frozen? ⟨b, o, none⟩ = false ∧ w.frozen? ⟨b, o + 1, none⟩ = false
/-- Columns as they lie in a block of the call's own. -/
def CoRow (w : World) (g : Nat) (L : List (Int × Int)) : Prop := g < w.heap.size ∧ ∀ j, (hj : j < L.length) → ColAt w g (j * 2) L[j] ∧ FzC w g (j * 2)
theorem CoRow.kept {w w' : World} {g : Nat} {L : List (Int × Int)} (h : CoRow w g L) (hb : Below w.heap.size w w') : CoRow w' g L := by
  refine ⟨Nat.lt_of_lt_of_le h.1 hb.size, fun j hj => ⟨(h.2 j hj).1.kept hb, ?_⟩⟩
  unfold FzC
  rw [hb.frozen (p := ⟨g, j * 2, none⟩) h.1, hb.frozen (p := ⟨g, j * 2 + 1, none⟩) h.1]
  exact (h.2 j hj).2
theorem CoRow.row {w : World} {g cap : Nat} {L : List (Int × Int)} (h : CoRow w g L) (hc : L.length ≤ cap) (hm : cap ≤ maxLen) : ColRow w (.slice (some ⟨g, 0, none⟩) L.length cap) L :=
  ⟨_, cap, rfl, hc, hm, .inr ⟨g, 0, rfl, h.1, fun j hj => by rw [Nat.zero_add]; exact (h.2 j hj).1⟩⟩
/-- A column stored. -/
def putC (w : World) (g o : Nat) (x : Int × Int) : World := (w.setCell ⟨g, o, none⟩ (.int .i64 x.1)).setCell ⟨g, o + 1, none⟩ (.int .i64 x.2)
theorem putC_size (w : World) (g o : Nat) (x : Int × Int) : (putC w g o x).heap.size = w.heap.size := by unfold putC; simp
theorem putC_frozen (w : World) (g o : Nat) (x : Int × Int) (p : Addr) : (putC w g o x).frozen? p = w.frozen? p := by unfold putC; simp
theorem putC_other {w : World} {g o : Nat} {x : Int × Int} {b c : Nat} (h : b ≠ g ∨ (c < o ∨ o + 1 < c)) : (putC w g o x).cell? ⟨b, c, none⟩ = w.cell? ⟨b, c, none⟩ := by
  have hn : ∀ k, k ≤ 1 → (⟨g, o + k, none⟩ : Addr) ≠ ⟨b, c, none⟩ := fun k hk e => by
    injection e with e1 e2
    rcases h with h | h
    · exact h e1.symm
    · omega
  unfold putC
  rw [World.cell?_setCell_other _ _ _ _ (hn 1 (by omega)), World.cell?_setCell_other _ _ _ _ (show (⟨g, o, none⟩ : Addr) ≠ ⟨b, c, none⟩ from hn 0 (by omega))]
theorem putC_at {w : World} {g o : Nat} {x y : Int × Int} (h : ColAt w g o y) : ColAt (putC w g o x) g o x := by
  have n : (⟨g, o, none⟩ : Addr) ≠ ⟨g, o + 1, none⟩ := fun e => by injection e with _ e2; omega
  obtain ⟨h0, h1⟩ := h
  unfold putC ColAt
  refine ⟨?_, ?_⟩
  · rw [World.cell?_setCell_other _ _ _ _ n.symm]
    exact World.cell?_setCell_same _ _ _ h0
  · exact World.cell?_setCell_same _ _ _ (by rw [World.cell?_setCell_other _ _ _ _ n]; exact h1)
theorem putC_below {B : Nat} {a w : World} (h : Below B a w) {g o : Nat} (hg : B ≤ g) (x : Int × Int) : Below B a (putC w g o x) :=
  (h.setCell (p := ⟨g, o, none⟩) hg _).setCell (p := ⟨g, o + 1, none⟩) hg _
theorem CoRow.set {w : World} {g : Nat} {L : List (Int × Int)} (h : CoRow w g L) (k : Nat) (hk : k < L.length) (x : Int × Int) : CoRow (putC w g (k * 2) x) g (L.set k x) := by
  refine ⟨by rw [putC_size]; exact h.1, fun j hj => ?_⟩
  have hj' : j < L.length := by simpa using hj
  refine ⟨?_, ?_⟩
  · rw [List.getElem_set]
    split
    · rename_i e; subst e; exact putC_at (h.2 k hk).1
    · rename_i e
      have h0 := (h.2 j hj').1
      unfold ColAt at h0 ⊢
      rw [putC_other (.inr (by omega)), putC_other (.inr (by omega))]
      exact h0
  · have h0 := (h.2 j hj').2
    unfold FzC at h0 ⊢
    rw [putC_frozen, putC_frozen]; exact h0
/-- What has been copied behind k rounds. -/
def partC (L : List (Int × Int)) (k : Nat) : List (Int × Int) := L.take k ++ List.replicate (L.length - k) (0, 0)
theorem partC_length (L : List (Int × Int)) (k : Nat) (h : k ≤ L.length) : (partC L k).length = L.length := by simp [partC]; omega
theorem partC_next (L : List (Int × Int)) (k : Nat) (h : k < L.length) : partC L (k + 1) = (partC L k).set k L[k] := by
  unfold partC
  have hm : (L.take k).length = k := by simp; omega
  rw [List.take_succ_eq_append_getElem h, List.set_append_right _ _ (by omega), hm, Nat.sub_self]
  obtain ⟨m, hm2⟩ : ∃ m, L.length - k = m + 1 := ⟨L.length - k - 1, by omega⟩
  rw [hm2, show L.length - (k + 1) = m by omega, List.replicate_succ]
  simp only [List.set_cons_zero, List.append_assoc, List.singleton_append]
theorem partC_end (L : List (Int × Int)) : partC L L.length = L := by simp [partC]
theorem info_col : (Try.prog.info? 50).map (fun i => (i.zero, i.size, i.bytes)) = some (some (.agg #[.int .i64 0, .int .i64 0]), 2, 16) := by kernel_rfl
theorem made_at2 {n k r : Nat} {a b : Value} (hk : k < n) (hr : r < 2) : (madeCells #[a, b] (n * 2)).toList[k * 2 + r]? = [a, b][r]? := by
  unfold madeCells
  have h1 : k * 2 + r < n * 2 := by omega
  simp only [Array.toList_map, Array.toList_range, List.getElem?_map, List.getElem?_range h1, Option.map_some]
  rw [show (#[a, b] : Array Value).size = 2 from rfl, show (k * 2 + r) % 2 = r by omega]
  match r, hr with
  | 0, _ => rfl
  | 1, _ => rfl
theorem made_corow {w w1 : World} {L : List (Int × Int)} (hg : w.heap.size < w1.heap.size) (h : w1.ownsRow w.heap.size 50 2 (.slice (some ⟨w.heap.size, 0, none⟩) L.length L.length) L.length (madeCells #[.int .i64 0, .int .i64 0] (L.length * 2)).toList) : CoRow w1 w.heap.size (partC L 0) := by
  have hp : partC L 0 = List.replicate L.length (0, 0) := by simp [partC]
  refine ⟨hg, fun j hj => ⟨?_, h.frozenAt _, h.frozenAt _⟩⟩
  have hj' : j < L.length := by rw [hp] at hj; simpa using hj
  have hx : (partC L 0)[j] = (0, 0) := by simp only [hp]; exact List.getElem_replicate _
  rw [hx]
  unfold ColAt
  refine ⟨?_, ?_⟩
  · rw [h.cellAt (j * 2) (by omega), show j * 2 = j * 2 + 0 from rfl, made_at2 hj' (by omega)]; rfl
  · rw [h.cellAt (j * 2 + 1) (by omega), made_at2 hj' (by omega)]; rfl
set_option maxRecDepth 20000 in
set_option maxHeartbeats 400000 in
theorem eqColumn_same (k o : Int) (w : World) :
    Calls Try.prog 34 #[.agg #[.int .i64 k, .int .i64 o], .agg #[.int .i64 k, .int .i64 o]] w fun e w' => e = .returned (.bool true) ∧ Below w.heap.size w w' := by
  have e1 : (k != k) = false := by simp
  have e2 : (o != o) = false := by simp
  go_enter Try.func34, Try.ntmps34
  go_wp2_with fail
  go_ret
  exact ⟨rfl, ((Below.refl _ _).alloc (Nat.le_refl _) _).alloc (by simp) _⟩

set_option maxRecDepth 20000 in
set_option maxHeartbeats 1000000 in
theorem eqColumnS_same (v1 v2 : Value) (L : List (Int × Int)) (w : World) (h1 : ColRow w v1 L) (h2 : ColRow w v2 L) :
    Calls Try.prog 10 #[v1, v2] w fun e w' => e = .returned (.bool true) ∧ Below w.heap.size w w' := by
  obtain ⟨a1, cap1, rfl, hc1, hm1, HR1⟩ := col_value h1
  obtain ⟨a2, cap2, rfl, hc2, hm2, HR2⟩ := col_value h2
  have el : ((L.length : Int) != (L.length : Int)) = false := by simp
  clear h1 h2
  go_enter Try.func10, Try.ntmps10
  go_wp2_with fail
  go_loopw [5] (fun i wr => ∃ k : Nat, k ≤ L.length ∧ i = .int .i64 (k : Int) ∧ Below w.heap.size w wr) (fun i _ => L.length - (intOf i).toNat)
  case atStart => exact ⟨0, Nat.zero_le _, rfl, Below.refl _ _⟩
  case round =>
    obtain ⟨k, hk, rfl, hb⟩ := hrel
    by_cases hlt : k < L.length
    · obtain ⟨b1, o1, ha1, hbl1, hcel1⟩ := HR1.out (by omega)
      obtain ⟨b2, o2, ha2, hbl2, hcel2⟩ := HR2.out (by omega)
      rw [ha1, ha2]
      have q1 := hcel1 k hlt
      have q2 := hcel2 k hlt
      obtain ⟨x, hx⟩ : ∃ x, x = L[k]'hlt := ⟨_, rfl⟩
      rw [← hx] at q1 q2
      have HC : Hid (∀ W, Below w.heap.size w W → ColAt W b1 (o1 + k * 2) x ∧ ColAt W b2 (o2 + k * 2) x) := fun W hW => ⟨q1.kept hW, q2.kept hW⟩
      have HEQ2 : Hid (∀ W, Calls Try.prog 34 #[.agg #[.int .i64 x.1, .int .i64 x.2], .agg #[.int .i64 x.1, .int .i64 x.2]] W fun e w' => e = .returned (.bool true) ∧ Below W.heap.size W w') := fun W => eqColumn_same x.1 x.2 W
      have hki : (k : Int) < (L.length : Int) := by omega
      have hbd := hb.drew
      unfold ColAt at HC
      clear hcel1 hcel2 hx q1 q2
      go_wp2_with fail
      refine wp_region_quiet (C := fun W => Below w.heap.size w W) (by kernel_rfl) (by kernel_rfl) hbd ?_
      refine wpQuiet_step (fun K hK => ?_)
      rw [if_pos (by rfl)]
      refine ⟨.slice (some ⟨b1, o1, none⟩) L.length cap1, fun W hW => quiet_ok ?_, hK _ ?_⟩
      · have f := HC.out W hW
        obtain ⟨⟨c0, c1⟩, ⟨e0, e1⟩⟩ := f
        go_simp
        all_goals (try omega)
      clear hK K
      simp only [Act.put, List.setIfInBounds_toArray, List.set_cons_succ, List.set_cons_zero]
      refine wpQuiet_step (fun K hK => ?_)
      rw [if_pos (by rfl)]
      refine ⟨.int .i64 (k : Int), fun W hW => quiet_ok ?_, hK _ ?_⟩
      · have f := HC.out W hW
        obtain ⟨⟨c0, c1⟩, ⟨e0, e1⟩⟩ := f
        go_simp
        all_goals (try omega)
      clear hK K
      simp only [Act.put, List.setIfInBounds_toArray, List.set_cons_succ, List.set_cons_zero]
      refine wpQuiet_step (fun K hK => ?_)
      rw [if_pos (by rfl)]
      refine ⟨.pointer (some ⟨b1, o1 + k * 2, none⟩), fun W hW => quiet_ok ?_, hK _ ?_⟩
      · have f := HC.out W hW
        obtain ⟨⟨c0, c1⟩, ⟨e0, e1⟩⟩ := f
        go_simp
        all_goals (try omega)
      clear hK K
      simp only [Act.put, List.setIfInBounds_toArray, List.set_cons_succ, List.set_cons_zero]
      refine wpQuiet_step (fun K hK => ?_)
      rw [if_pos (by rfl)]
      refine ⟨.agg #[.int .i64 x.1, .int .i64 x.2], fun W hW => quiet_ok ?_, hK _ ?_⟩
      · have f := HC.out W hW
        obtain ⟨⟨c0, c1⟩, ⟨e0, e1⟩⟩ := f
        go_simp
        all_goals (try omega)
      clear hK K
      simp only [Act.put, List.setIfInBounds_toArray, List.set_cons_succ, List.set_cons_zero]
      refine wpQuiet_step (fun K hK => ?_)
      rw [if_pos (by rfl)]
      refine ⟨.slice (some ⟨b2, o2, none⟩) L.length cap2, fun W hW => quiet_ok ?_, hK _ ?_⟩
      · have f := HC.out W hW
        obtain ⟨⟨c0, c1⟩, ⟨e0, e1⟩⟩ := f
        go_simp
        all_goals (try omega)
      clear hK K
      simp only [Act.put, List.setIfInBounds_toArray, List.set_cons_succ, List.set_cons_zero]
      refine wpQuiet_step (fun K hK => ?_)
      rw [if_pos (by rfl)]
      refine ⟨.int .i64 (k : Int), fun W hW => quiet_ok ?_, hK _ ?_⟩
      · have f := HC.out W hW
        obtain ⟨⟨c0, c1⟩, ⟨e0, e1⟩⟩ := f
        go_simp
        all_goals (try omega)
      clear hK K
      simp only [Act.put, List.setIfInBounds_toArray, List.set_cons_succ, List.set_cons_zero]
      refine wpQuiet_step (fun K hK => ?_)
      rw [if_pos (by rfl)]
      refine ⟨.pointer (some ⟨b2, o2 + k * 2, none⟩), fun W hW => quiet_ok ?_, hK _ ?_⟩
      · have f := HC.out W hW
        obtain ⟨⟨c0, c1⟩, ⟨e0, e1⟩⟩ := f
        go_simp
        all_goals (try omega)
      clear hK K
      simp only [Act.put, List.setIfInBounds_toArray, List.set_cons_succ, List.set_cons_zero]
      refine wpQuiet_step (fun K hK => ?_)
      rw [if_pos (by rfl)]
      refine ⟨.agg #[.int .i64 x.1, .int .i64 x.2], fun W hW => quiet_ok ?_, hK _ ?_⟩
      · have f := HC.out W hW
        obtain ⟨⟨c0, c1⟩, ⟨e0, e1⟩⟩ := f
        go_simp
        all_goals (try omega)
      clear hK K
      simp only [Act.put, List.setIfInBounds_toArray, List.set_cons_succ, List.set_cons_zero]
      refine wpQuiet_step (fun K hK => ?_)
      rw [if_pos (by rfl)]
      refine ⟨.bool true, fun W hW => quiet_call (f := 34) (args := #[.agg #[.int .i64 x.1, .int .i64 x.2], .agg #[.int .i64 x.1, .int .i64 x.2]]) ?_ ?_, hK _ ?_⟩
      · go_simp
      · exact (HEQ2.out W).mono fun e w'' h => ⟨h.1, hW.trans (h.2.mono hW.size)⟩
      clear hK K
      simp only [Act.put, List.setIfInBounds_toArray, List.set_cons_succ, List.set_cons_zero]
      refine wpQuiet_step (fun K hK => ?_)
      rw [if_pos (by rfl)]
      refine ⟨.bool false, fun W hW => quiet_ok ?_, hK _ ?_⟩
      · have f := HC.out W hW
        obtain ⟨⟨c0, c1⟩, ⟨e0, e1⟩⟩ := f
        go_simp
        all_goals (try omega)
      clear hK K
      simp only [Act.put, List.setIfInBounds_toArray, List.set_cons_succ, List.set_cons_zero]
      refine wpQuiet_nil ?_
      intro W hW
      go_wp2_with fail
      go_roundw
      case rel => exact ⟨k + 1, by omega, by go_num, hW⟩
      case measure => simp [intOf]; omega
    · go_wp2_with fail
      go_ret
      exact ⟨rfl, hb⟩

end Go.Proofs.Ytafbnhelcoofmaa
