import Derived.Test.YtoanloballaclaaGreatDoorZ08
import Derived.Test.YtoanloballaclaaGreatDoorZ13
import Derived.Laws.ResultCell
namespace Go.Proofs.YtoanloballaclaaGreatDoor
open Go.RowKit

/-- A host: its name, whether it is up, its row. -/
abbrev HosT : Type := List UInt8 × Bool × Int
/-- The three cells of a host at a place of a block. -/
def HstAt (w : World) (b o : Nat) (x : HosT) : Prop := w.cell? ⟨b, o, none⟩ = some (.string ⟨x.1.toArray⟩) ∧ w.cell? ⟨b, o + 1, none⟩ = some (.bool x.2.1) ∧ w.cell? ⟨b, o + 2, none⟩ = some (.int .i64 x.2.2)
/-- A list of hosts as it lies in memory. -/
def HstRow (w : World) (v : Value) (L : List HosT) : Prop :=
  ∃ a cap, v = .slice a L.length cap ∧ L.length ≤ cap ∧ cap ≤ maxLen ∧ (L = [] ∨ ∃ b o, a = some ⟨b, o, none⟩ ∧ b < w.heap.size ∧ ∀ j, (hj : j < L.length) → HstAt w b (o + j * 3) L[j])
theorem HstAt.kept {w w' : World} {b o : Nat} {x : HosT} (h : HstAt w b o x) (hb : Below w.heap.size w w') : HstAt w' b o x := by
  have hlt := World.block_lt_of_cell? _ _ h.1
  unfold HstAt
  rw [hb.cell (p := ⟨b, o, none⟩) hlt, hb.cell (p := ⟨b, o + 1, none⟩) hlt, hb.cell (p := ⟨b, o + 2, none⟩) hlt]
  exact h
theorem HstRow.kept {w w' : World} {v : Value} {L : List HosT} (h : HstRow w v L) (hb : Below w.heap.size w w') : HstRow w' v L := by
  obtain ⟨a, cap, rfl, h1, h2, h3⟩ := h
  refine ⟨a, cap, rfl, h1, h2, ?_⟩
  rcases h3 with h3 | ⟨b, o, rfl, hb1, hc⟩
  · exact .inl h3
  · exact .inr ⟨b, o, rfl, Nat.lt_of_lt_of_le hb1 hb.size, fun j hj => (hc j hj).kept hb⟩
theorem hst_value {w : World} {v : Value} {L : List HosT} (h : HstRow w v L) : ∃ a cap, v = .slice a L.length cap ∧ L.length ≤ cap ∧ cap ≤ 9223372036854775807 ∧ Hid (0 < L.length → ∃ b o, a = some ⟨b, o, none⟩ ∧ b < w.heap.size ∧ ∀ j, (hj : j < L.length) → HstAt w b (o + j * 3) L[j]) := by
  obtain ⟨a, cap, rfl, h1, h2, h3⟩ := h
  unfold maxLen at h2
  refine ⟨a, cap, rfl, h1, by omega, fun hp => ?_⟩
  rcases h3 with rfl | h3
  · simp at hp
  · exact h3
def FzH (w : World) (b o : Nat) : Prop := w.frozen? ⟨b, o, none⟩ = false ∧ w.frozen? ⟨b, o + 1, none⟩ = false ∧ w.frozen? ⟨b, o + 2, none⟩ = false
/-- Hosts as they lie in a block of the call's own. -/
def HoRow (w : World) (g : Nat) (L : List HosT) : Prop := g < w.heap.size ∧ ∀ j, (hj : j < L.length) → HstAt w g (j * 3) L[j] ∧ FzH w g (j * 3)
theorem HoRow.kept {w w' : World} {g : Nat} {L : List HosT} (h : HoRow w g L) (hb : Below w.heap.size w w') : HoRow w' g L := by
  refine ⟨Nat.lt_of_lt_of_le h.1 hb.size, fun j hj => ⟨(h.2 j hj).1.kept hb, ?_⟩⟩
  unfold FzH
  rw [hb.frozen (p := ⟨g, j * 3, none⟩) h.1, hb.frozen (p := ⟨g, j * 3 + 1, none⟩) h.1, hb.frozen (p := ⟨g, j * 3 + 2, none⟩) h.1]
  exact (h.2 j hj).2
theorem HoRow.row {w : World} {g cap : Nat} {L : List HosT} (h : HoRow w g L) (hc : L.length ≤ cap) (hm : cap ≤ maxLen) : HstRow w (.slice (some ⟨g, 0, none⟩) L.length cap) L :=
  ⟨_, cap, rfl, hc, hm, .inr ⟨g, 0, rfl, h.1, fun j hj => by rw [Nat.zero_add]; exact (h.2 j hj).1⟩⟩
theorem HoRow.row1 {w : World} {g : Nat} {L : List HosT} (h : HoRow w g L) (hl : L.length ≤ 1048576) : HstRow w (.slice (some ⟨g, 0, none⟩) L.length L.length) L := h.row (Nat.le_refl _) (by unfold maxLen; omega)
theorem HoRow.far {w : World} {g g' k : Nat} {L : List HosT} (h : HoRow w g L) (hne : g' ≠ g) (u : Value) : HoRow (w.setCell ⟨g', k, none⟩ u) g L := by
  have n : ∀ c, (⟨g', k, none⟩ : Addr) ≠ ⟨g, c, none⟩ := fun c e => hne (by injection e)
  refine ⟨by simpa using h.1, fun j hj => ?_⟩
  obtain ⟨⟨c0, c1, c2⟩, f0, f1, f2⟩ := h.2 j hj
  refine ⟨⟨?_, ?_, ?_⟩, by simpa using f0, by simpa using f1, by simpa using f2⟩
  · rw [World.cell?_setCell_other _ _ _ _ (n _)]; exact c0
  · rw [World.cell?_setCell_other _ _ _ _ (n _)]; exact c1
  · rw [World.cell?_setCell_other _ _ _ _ (n _)]; exact c2
/-- A host stored. -/
def putH (w : World) (g o : Nat) (x : HosT) : World := ((w.setCell ⟨g, o, none⟩ (.string ⟨x.1.toArray⟩)).setCell ⟨g, o + 1, none⟩ (.bool x.2.1)).setCell ⟨g, o + 2, none⟩ (.int .i64 x.2.2)
theorem putH_size (w : World) (g o : Nat) (x : HosT) : (putH w g o x).heap.size = w.heap.size := by unfold putH; simp
theorem putH_frozen (w : World) (g o : Nat) (x : HosT) (p : Addr) : (putH w g o x).frozen? p = w.frozen? p := by unfold putH; simp
theorem putH_other {w : World} {g o : Nat} {x : HosT} {b c : Nat} (h : b ≠ g ∨ (c < o ∨ o + 2 < c)) : (putH w g o x).cell? ⟨b, c, none⟩ = w.cell? ⟨b, c, none⟩ := by
  have hn : ∀ k, k ≤ 2 → (⟨g, o + k, none⟩ : Addr) ≠ ⟨b, c, none⟩ := fun k hk e => by
    injection e with e1 e2
    rcases h with h | h
    · exact h e1.symm
    · omega
  unfold putH
  rw [World.cell?_setCell_other _ _ _ _ (hn 2 (by omega)), World.cell?_setCell_other _ _ _ _ (hn 1 (by omega)), World.cell?_setCell_other _ _ _ _ (show (⟨g, o, none⟩ : Addr) ≠ ⟨b, c, none⟩ from hn 0 (by omega))]
theorem putH_at {w : World} {g o : Nat} {x y : HosT} (h : HstAt w g o y) : HstAt (putH w g o x) g o x := by
  have n : ∀ a b : Nat, a ≠ b → (⟨g, o + a, none⟩ : Addr) ≠ ⟨g, o + b, none⟩ := fun a b hab e => by injection e with _ e2; omega
  obtain ⟨h0, h1, h2⟩ := h
  unfold putH HstAt
  refine ⟨?_, ?_, ?_⟩
  · rw [World.cell?_setCell_other _ _ _ _ (show (⟨g, o + 2, none⟩ : Addr) ≠ ⟨g, o, none⟩ from n 2 0 (by omega)), World.cell?_setCell_other _ _ _ _ (show (⟨g, o + 1, none⟩ : Addr) ≠ ⟨g, o, none⟩ from n 1 0 (by omega))]
    exact World.cell?_setCell_same _ _ _ h0
  · rw [World.cell?_setCell_other _ _ _ _ (n 2 1 (by omega))]
    exact World.cell?_setCell_same _ _ _ (by rw [World.cell?_setCell_other _ _ _ _ (show (⟨g, o, none⟩ : Addr) ≠ ⟨g, o + 1, none⟩ from n 0 1 (by omega))]; exact h1)
  · exact World.cell?_setCell_same _ _ _ (by rw [World.cell?_setCell_other _ _ _ _ (n 1 2 (by omega)), World.cell?_setCell_other _ _ _ _ (show (⟨g, o, none⟩ : Addr) ≠ ⟨g, o + 2, none⟩ from n 0 2 (by omega))]; exact h2)
theorem putH_below {B : Nat} {a w : World} (h : Below B a w) {g o : Nat} (hg : B ≤ g) (x : HosT) : Below B a (putH w g o x) :=
  ((h.setCell (p := ⟨g, o, none⟩) hg _).setCell (p := ⟨g, o + 1, none⟩) hg _).setCell (p := ⟨g, o + 2, none⟩) hg _
theorem HoRow.set {w : World} {g : Nat} {L : List HosT} (h : HoRow w g L) (k : Nat) (hk : k < L.length) (x : HosT) : HoRow (putH w g (k * 3) x) g (L.set k x) := by
  refine ⟨by rw [putH_size]; exact h.1, fun j hj => ?_⟩
  have hj' : j < L.length := by simpa using hj
  refine ⟨?_, ?_⟩
  · rw [List.getElem_set]
    split
    · rename_i e; subst e; exact putH_at (h.2 k hk).1
    · rename_i e
      have h0 := (h.2 j hj').1
      unfold HstAt at h0 ⊢
      rw [putH_other (.inr (by omega)), putH_other (.inr (by omega)), putH_other (.inr (by omega))]
      exact h0
  · have h0 := (h.2 j hj').2
    unfold FzH at h0 ⊢
    rw [putH_frozen, putH_frozen, putH_frozen]; exact h0
/-- What has been copied behind k rounds. -/
def partH (L : List HosT) (k : Nat) : List HosT := L.take k ++ List.replicate (L.length - k) ([], false, 0)
theorem partH_length (L : List HosT) (k : Nat) (h : k ≤ L.length) : (partH L k).length = L.length := by simp [partH]; omega
theorem partH_next (L : List HosT) (k : Nat) (h : k < L.length) : partH L (k + 1) = (partH L k).set k L[k] := by
  unfold partH
  have hm : (L.take k).length = k := by simp; omega
  rw [List.take_succ_eq_append_getElem h, List.set_append_right _ _ (by omega), hm, Nat.sub_self]
  obtain ⟨m, hm2⟩ : ∃ m, L.length - k = m + 1 := ⟨L.length - k - 1, by omega⟩
  rw [hm2, show L.length - (k + 1) = m by omega, List.replicate_succ]
  simp only [List.set_cons_zero, List.append_assoc, List.singleton_append]
theorem partH_end (L : List HosT) : partH L L.length = L := by simp [partH]
theorem info_hst : (Tryz.prog.info? 101).map (fun i => (i.zero, i.size, i.bytes)) = some (some (.agg #[.string ByteArray.empty, .bool false, .int .i64 0]), 3, 32) := by kernel_rfl
theorem made_at3 {n k r : Nat} {a b c : Value} (hk : k < n) (hr : r < 3) : (madeCells #[a, b, c] (n * 3)).toList[k * 3 + r]? = [a, b, c][r]? := by
  unfold madeCells
  have h1 : k * 3 + r < n * 3 := by omega
  simp only [Array.toList_map, Array.toList_range, List.getElem?_map, List.getElem?_range h1, Option.map_some]
  rw [show (#[a, b, c] : Array Value).size = 3 from rfl, show (k * 3 + r) % 3 = r by omega]
  match r, hr with
  | 0, _ => rfl
  | 1, _ => rfl
  | 2, _ => rfl
theorem made_horow {w w1 : World} {L : List HosT} (hg : w.heap.size < w1.heap.size) (h : w1.ownsRow w.heap.size 101 3 (.slice (some ⟨w.heap.size, 0, none⟩) L.length L.length) L.length (madeCells #[.string ByteArray.empty, .bool false, .int .i64 0] (L.length * 3)).toList) : HoRow w1 w.heap.size (partH L 0) := by
  have hp : partH L 0 = List.replicate L.length ([], false, 0) := by simp [partH]
  refine ⟨hg, fun j hj => ⟨?_, h.frozenAt _, h.frozenAt _, h.frozenAt _⟩⟩
  have hj' : j < L.length := by rw [hp] at hj; simpa using hj
  have hx : (partH L 0)[j] = ([], false, 0) := by simp only [hp]; exact List.getElem_replicate _
  rw [hx]
  unfold HstAt
  refine ⟨?_, ?_, ?_⟩
  · rw [h.cellAt (j * 3) (by omega), show j * 3 = j * 3 + 0 from rfl, made_at3 hj' (by omega)]; rfl
  · rw [h.cellAt (j * 3 + 1) (by omega), made_at3 hj' (by omega)]; rfl
  · rw [h.cellAt (j * 3 + 2) (by omega), made_at3 hj' (by omega)]; rfl
theorem hst_new (w : World) (o : Obj) : (w.alloc o).heap[w.heap.size]? = some o := by
  show (w.heap.push o)[w.heap.size]? = some o
  simp
theorem hst_new2 (w : World) (a b : Obj) : ((w.alloc a).alloc b).heap[w.heap.size + 1]? = some b := by
  have h := hst_new (w.alloc a) b
  simpa using h
theorem hst_new3 (w : World) (a b c : Obj) : (((w.alloc a).alloc b).alloc c).heap[w.heap.size + 1 + 1]? = some c := by
  have h := hst_new ((w.alloc a).alloc b) c
  simpa using h
theorem hst_below {w W : World} {o : Obj} (hb : Below (w.alloc o).heap.size (w.alloc o) W) : W.heap[w.heap.size]? = some o ∧ Below w.heap.size w W :=
  ⟨(hb.block _ (by simp)).trans (hst_new _ _), ((Below.refl w.heap.size w).alloc (Nat.le_refl _) _).trans (hb.mono (by simp))⟩
theorem hst_below2 {w W : World} {a b : Obj} (hb : Below ((w.alloc a).alloc b).heap.size ((w.alloc a).alloc b) W) : W.heap[w.heap.size]? = some a ∧ W.heap[w.heap.size + 1]? = some b ∧ Below w.heap.size w W := by
  have hA : Below (w.alloc a).heap.size (w.alloc a) W := ((Below.refl _ _).alloc (Nat.le_refl _) _).trans (hb.mono (by simp))
  obtain ⟨h1, h2⟩ := hst_below hA
  exact ⟨h1, (hb.block _ (by simp)).trans (hst_new2 _ _ _), h2⟩
theorem hst_below3 {w W : World} {a b c : Obj} (hb : Below (((w.alloc a).alloc b).alloc c).heap.size (((w.alloc a).alloc b).alloc c) W) : W.heap[w.heap.size]? = some a ∧ W.heap[w.heap.size + 1]? = some b ∧ W.heap[w.heap.size + 1 + 1]? = some c ∧ w.heap.size + 1 + 1 < W.heap.size ∧ Below w.heap.size w W := by
  have hA : Below ((w.alloc a).alloc b).heap.size ((w.alloc a).alloc b) W := ((Below.refl _ _).alloc (Nat.le_refl _) _).trans (hb.mono (by simp))
  obtain ⟨h1, h2, h3⟩ := hst_below2 hA
  exact ⟨h1, h2, (hb.block _ (by simp)).trans (hst_new3 _ _ _ _), Nat.lt_of_lt_of_le (by simp) hb.size, h3⟩
theorem hst_cells {W : World} {b : Nat} {v0 v1 v2 : Value} {t : TypeId} (h : W.heap[b]? = some (.cells #[v0, v1, v2] t)) :
    (W.cell? ⟨b, 0, none⟩ = some v0 ∧ W.cell? ⟨b, 1, none⟩ = some v1 ∧ W.cell? ⟨b, 2, none⟩ = some v2) ∧ (W.frozen? ⟨b, 0, none⟩ = false ∧ W.frozen? ⟨b, 1, none⟩ = false ∧ W.frozen? ⟨b, 2, none⟩ = false) := by
  refine ⟨⟨?_, ?_, ?_⟩, ⟨?_, ?_, ?_⟩⟩
  all_goals first
    | (unfold World.cell?; rw [h]; rfl)
    | (unfold World.frozen?; rw [h]; simp)
/-- Three cells stored. -/
def put3h (w : World) (g : Nat) (v0 v1 v2 : Value) : World := ((w.setCell ⟨g, 0, none⟩ v0).setCell ⟨g, 1, none⟩ v1).setCell ⟨g, 2, none⟩ v2
theorem put3h_heap {w : World} {g : Nat} {t : TypeId} {v0 v1 v2 u0 u1 u2 : Value} (h : w.heap[g]? = some (.cells #[u0, u1, u2] t)) : (put3h w g v0 v1 v2).heap[g]? = some (.cells #[v0, v1, v2] t) := by
  have e0 := heap_setCell_same _ _ 0 _ _ v0 h
  have e1 := heap_setCell_same _ _ 1 _ _ v1 e0
  have e2 := heap_setCell_same _ _ 2 _ _ v2 e1
  unfold put3h
  simpa using e2
theorem put3h_far {w : World} {g g' : Nat} {v0 v1 v2 : Value} {L : List HosT} (h : HoRow w g L) (hne : g' ≠ g) : HoRow (put3h w g' v0 v1 v2) g L := ((h.far hne _).far hne _).far hne _
theorem put3h_below {B : Nat} {a w : World} (h : Below B a w) {g : Nat} (hg : B ≤ g) (v0 v1 v2 : Value) : Below B a (put3h w g v0 v1 v2) :=
  ((h.setCell (p := ⟨g, 0, none⟩) hg _).setCell (p := ⟨g, 1, none⟩) hg _).setCell (p := ⟨g, 2, none⟩) hg _

set_option maxRecDepth 20000 in
set_option maxHeartbeats 400000 in
theorem toHost_any (n : ByteArray) (u : Bool) (r : Int) (w : World) :
    Calls Tryz.prog 67 #[.agg #[.string n, .bool u, .int .i64 r]] w fun e w' => e = .returned (.agg #[.string n, .bool u, .int .i64 r]) ∧ Below w.heap.size w w' := by
  go_enter Tryz.func67, Tryz.ntmps67
  go_wp2_with fail
  (try simp only [Exit.inBlock, Exit.then])
  refine bodyPost_ret (results_cell_row rfl _ _ (w.heap.size + 1) 101 #[.string n, .bool u, .int .i64 r] (0, 0) _ rfl ?_ Tryz.underlying101 rfl (by kernel_rfl)) rfl ⟨rfl, ?_⟩
  · rw [Below.heap_alloc _ _ _ (by simp), hst_new2]
  · exact (((Below.refl _ _).alloc (Nat.le_refl _) _).alloc (by simp) _).alloc (by simp; omega) _

set_option maxRecDepth 20000 in
set_option maxHeartbeats 1000000 in
theorem toHostS_any (v : Value) (L : List HosT) (w : World) (hr : HstRow w v L) (hl : L.length ≤ 1048576) :
    Calls Tryz.prog 39 #[v] w fun e w' => e = .returned (.slice (some ⟨w.heap.size, 0, none⟩) L.length L.length) ∧ HoRow w' w.heap.size L ∧ Below w.heap.size w w' := by
  obtain ⟨i0, hi, hz0, hz1, hz2⟩ := info_parts info_hst
  obtain ⟨a, cap, rfl, hcap, hmax, HROW⟩ := hst_value hr
  have HTO : Hid (∀ (x : HosT) W, Calls Tryz.prog 67 #[.agg #[.string ⟨x.1.toArray⟩, .bool x.2.1, .int .i64 x.2.2]] W fun e w' => e = .returned (.agg #[.string ⟨x.1.toArray⟩, .bool x.2.1, .int .i64 x.2.2]) ∧ Below W.heap.size W w') := fun x W => toHost_any ⟨x.1.toArray⟩ x.2.1 x.2.2 W
  clear hr
  go_enter Tryz.func39, Tryz.ntmps39
  go_wp2_with (at_make; refine wpList_make_full _ rfl _ _ 36 rfl w.heap.size 101 i0 (.agg #[.string ByteArray.empty, .bool false, .int .i64 0]) 3 Tryz.underlying36 hi hz0 hz1 _ _ _ _ L.length rfl rfl rfl rfl ?b2 ?b3 ?b4 ?_)
  case b2 => rw [hz2]; omega
  case b3 => unfold maxLen; omega
  case b4 => exact Nat.le_refl _
  intro w1 hown hgrow
  have hb1 : Below w.heap.size w w1 := (Below.refl _ _).grown hgrow (Nat.le_refl _) (fun k h => by cases h)
  have hlt1 : w.heap.size < w1.heap.size := (hown.lt w.heap.size rfl).2
  have HS1 : Hid (HoRow w1 w.heap.size (partH L 0)) := made_horow hlt1 hown
  clear hown hgrow hlt1
  go_wp2_with fail
  go_loopw [4] (fun i wr => ∃ k : Nat, k ≤ L.length ∧ i = .int .i64 (k : Int) ∧ Hid (HoRow wr w.heap.size (partH L k)) ∧ Below w.heap.size w wr) (fun i _ => L.length - (intOf i).toNat)
  case atStart => exact ⟨0, Nat.zero_le _, rfl, HS1, hb1⟩
  case round =>
    obtain ⟨k, hk, rfl, HR, hb⟩ := hrel
    clear HS1 hb1
    by_cases hlt : k < L.length
    · obtain ⟨b, o, ha, hbl, hcel⟩ := HROW.out (by omega)
      rw [ha]
      have hcx := hcel k hlt
      unfold HstAt at hcx
      rw [← hb.cell (p := ⟨b, o + k * 3, none⟩) hbl, ← hb.cell (p := ⟨b, o + k * 3 + 1, none⟩) hbl, ← hb.cell (p := ⟨b, o + k * 3 + 2, none⟩) hbl] at hcx
      obtain ⟨c0, c1, c2⟩ := hcx
      have HN : Hid (partH L (k + 1) = (partH L k).set k (L[k]'hlt)) := partH_next L k hlt
      have hlp : k < (partH L k).length := by rw [partH_length L k hk]; exact hlt
      obtain ⟨x, hxe⟩ : ∃ x, x = L[k]'hlt := ⟨_, rfl⟩
      rw [← hxe] at c0 c1 c2 HN
      have HST : Hid (∀ W, Below wr.heap.size wr W → HoRow W w.heap.size (partH L k) ∧ HoRow (putH W w.heap.size (k * 3) x) w.heap.size (partH L (k + 1))) := fun W hW => by
        have h1 := HR.out.kept hW
        exact ⟨h1, by rw [HN.out]; exact h1.set k hlp x⟩
      have HLP : Hid (k < (partH L k).length) := hlp
      clear hcel hxe hlp
      go_wp2_with fail
      refine (HTO.out x _).mono ?_
      rintro e w2 ⟨rfl, hb2⟩
      have hst := HST.out w2 hb2
      obtain ⟨⟨m0, m1, m2⟩, ⟨f0, f1, f2⟩⟩ := hst.1.2 k HLP.out
      have HQ : Hid (HoRow (putH w2 w.heap.size (k * 3) x) w.heap.size (partH L (k + 1))) := hst.2
      have hb3 : Below w.heap.size w (putH w2 w.heap.size (k * 3) x) := putH_below (hb.trans (hb2.mono hb.size)) (Nat.le_refl _) x
      unfold putH at HQ hb3
      obtain ⟨y, hy⟩ : ∃ y, y = (partH L k)[k]'HLP.out := ⟨_, rfl⟩
      rw [← hy] at m0 m1 m2
      clear hst hb2 hy c0 c1 c2
      go_wp2_with fail
      go_roundw
      case rel => exact ⟨k + 1, by omega, by go_num, HQ, hb3⟩
      case measure => simp [intOf]; omega
    · have hfull : partH L k = L := by rw [show k = L.length by omega]; exact partH_end L
      rw [hfull] at HR
      have HRR : Hid (HoRow wr w.heap.size L) := HR
      clear hfull HR
      go_wp2_with fail
      go_ret
      exact ⟨rfl, HRR.out, hb⟩

set_option maxRecDepth 20000 in
set_option maxHeartbeats 400000 in
theorem eqHost_same (n : ByteArray) (u : Bool) (r : Int) (w : World) :
    Calls Tryz.prog 73 #[.agg #[.string n, .bool u, .int .i64 r], .agg #[.string n, .bool u, .int .i64 r]] w fun e w' => e = .returned (.bool true) ∧ Below w.heap.size w w' := by
  have e2 : (u != u) = false := by simp
  have e3 : (r != r) = false := by simp
  go_enter Tryz.func73, Tryz.ntmps73
  go_wp2_with fail
  go_ret
  exact ⟨rfl, ((Below.refl _ _).alloc (Nat.le_refl _) _).alloc (by simp) _⟩

set_option maxRecDepth 20000 in
set_option maxHeartbeats 1000000 in
theorem eqHostS_same (v1 v2 : Value) (L : List HosT) (w : World) (h1 : HstRow w v1 L) (h2 : HstRow w v2 L) :
    Calls Tryz.prog 42 #[v1, v2] w fun e w' => e = .returned (.bool true) ∧ Below w.heap.size w w' := by
  obtain ⟨a1, cap1, rfl, hc1, hm1, HR1⟩ := hst_value h1
  obtain ⟨a2, cap2, rfl, hc2, hm2, HR2⟩ := hst_value h2
  have el : ((L.length : Int) != (L.length : Int)) = false := by simp
  clear h1 h2
  go_enter Tryz.func42, Tryz.ntmps42
  go_wp2_with fail
  go_loopw [5] (fun i wr => ∃ k : Nat, k ≤ L.length ∧ i = .int .i64 (k : Int) ∧ Below w.heap.size w wr) (fun i _ => L.length - (intOf i).toNat)
  case atStart => exact ⟨0, Nat.zero_le _, rfl, Below.refl _ _⟩
  case round =>
    obtain ⟨k, hk, rfl, hb⟩ := hrel
    by_cases hlt : k < L.length
    · obtain ⟨b1, o1, ha1, hbl1, hcel1⟩ := HR1.out (by omega)
      obtain ⟨b2, o2, ha2, hbl2, hcel2⟩ := HR2.out (by omega)
      rw [ha1, ha2]
      have q1 := hcel1 k hlt
      have q2 := hcel2 k hlt
      obtain ⟨x, hx⟩ : ∃ x, x = L[k]'hlt := ⟨_, rfl⟩
      rw [← hx] at q1 q2
      have HC : Hid (∀ W, Below w.heap.size w W → HstAt W b1 (o1 + k * 3) x ∧ HstAt W b2 (o2 + k * 3) x) := fun W hW => ⟨q1.kept hW, q2.kept hW⟩
      have HEQ2 : Hid (∀ W, Calls Tryz.prog 73 #[.agg #[.string ⟨x.1.toArray⟩, .bool x.2.1, .int .i64 x.2.2], .agg #[.string ⟨x.1.toArray⟩, .bool x.2.1, .int .i64 x.2.2]] W fun e w' => e = .returned (.bool true) ∧ Below W.heap.size W w') := fun W => eqHost_same ⟨x.1.toArray⟩ x.2.1 x.2.2 W
      have hki : (k : Int) < (L.length : Int) := by omega
      have hbd := hb.drew
      unfold HstAt at HC
      clear hcel1 hcel2 hx q1 q2
      go_wp2_with fail
      refine wp_region_quiet (C := fun W => Below w.heap.size w W) (by kernel_rfl) (by kernel_rfl) hbd ?_
      refine wpQuiet_step (fun K hK => ?_)
      rw [if_pos (by rfl)]
      refine ⟨.slice (some ⟨b1, o1, none⟩) L.length cap1, fun W hW => quiet_ok ?_, hK _ ?_⟩
      · have f := HC.out W hW
        obtain ⟨⟨c0, c1, c2⟩, ⟨e0, e1, e2⟩⟩ := f
        go_simp
        all_goals (try omega)
      clear hK K
      simp only [Act.put, List.setIfInBounds_toArray, List.set_cons_succ, List.set_cons_zero]
      refine wpQuiet_step (fun K hK => ?_)
      rw [if_pos (by rfl)]
      refine ⟨.int .i64 (k : Int), fun W hW => quiet_ok ?_, hK _ ?_⟩
      · have f := HC.out W hW
        obtain ⟨⟨c0, c1, c2⟩, ⟨e0, e1, e2⟩⟩ := f
        go_simp
        all_goals (try omega)
      clear hK K
      simp only [Act.put, List.setIfInBounds_toArray, List.set_cons_succ, List.set_cons_zero]
      refine wpQuiet_step (fun K hK => ?_)
      rw [if_pos (by rfl)]
      refine ⟨.pointer (some ⟨b1, o1 + k * 3, none⟩), fun W hW => quiet_ok ?_, hK _ ?_⟩
      · have f := HC.out W hW
        obtain ⟨⟨c0, c1, c2⟩, ⟨e0, e1, e2⟩⟩ := f
        go_simp
        all_goals (try omega)
      clear hK K
      simp only [Act.put, List.setIfInBounds_toArray, List.set_cons_succ, List.set_cons_zero]
      refine wpQuiet_step (fun K hK => ?_)
      rw [if_pos (by rfl)]
      refine ⟨.agg #[.string ⟨x.1.toArray⟩, .bool x.2.1, .int .i64 x.2.2], fun W hW => quiet_ok ?_, hK _ ?_⟩
      · have f := HC.out W hW
        obtain ⟨⟨c0, c1, c2⟩, ⟨e0, e1, e2⟩⟩ := f
        go_simp
        all_goals (try omega)
      clear hK K
      simp only [Act.put, List.setIfInBounds_toArray, List.set_cons_succ, List.set_cons_zero]
      refine wpQuiet_step (fun K hK => ?_)
      rw [if_pos (by rfl)]
      refine ⟨.slice (some ⟨b2, o2, none⟩) L.length cap2, fun W hW => quiet_ok ?_, hK _ ?_⟩
      · have f := HC.out W hW
        obtain ⟨⟨c0, c1, c2⟩, ⟨e0, e1, e2⟩⟩ := f
        go_simp
        all_goals (try omega)
      clear hK K
      simp only [Act.put, List.setIfInBounds_toArray, List.set_cons_succ, List.set_cons_zero]
      refine wpQuiet_step (fun K hK => ?_)
      rw [if_pos (by rfl)]
      refine ⟨.int .i64 (k : Int), fun W hW => quiet_ok ?_, hK _ ?_⟩
      · have f := HC.out W hW
        obtain ⟨⟨c0, c1, c2⟩, ⟨e0, e1, e2⟩⟩ := f
        go_simp
        all_goals (try omega)
      clear hK K
      simp only [Act.put, List.setIfInBounds_toArray, List.set_cons_succ, List.set_cons_zero]
      refine wpQuiet_step (fun K hK => ?_)
      rw [if_pos (by rfl)]
      refine ⟨.pointer (some ⟨b2, o2 + k * 3, none⟩), fun W hW => quiet_ok ?_, hK _ ?_⟩
      · have f := HC.out W hW
        obtain ⟨⟨c0, c1, c2⟩, ⟨e0, e1, e2⟩⟩ := f
        go_simp
        all_goals (try omega)
      clear hK K
      simp only [Act.put, List.setIfInBounds_toArray, List.set_cons_succ, List.set_cons_zero]
      refine wpQuiet_step (fun K hK => ?_)
      rw [if_pos (by rfl)]
      refine ⟨.agg #[.string ⟨x.1.toArray⟩, .bool x.2.1, .int .i64 x.2.2], fun W hW => quiet_ok ?_, hK _ ?_⟩
      · have f := HC.out W hW
        obtain ⟨⟨c0, c1, c2⟩, ⟨e0, e1, e2⟩⟩ := f
        go_simp
        all_goals (try omega)
      clear hK K
      simp only [Act.put, List.setIfInBounds_toArray, List.set_cons_succ, List.set_cons_zero]
      refine wpQuiet_step (fun K hK => ?_)
      rw [if_pos (by rfl)]
      refine ⟨.bool true, fun W hW => quiet_call (f := 73) (args := #[.agg #[.string ⟨x.1.toArray⟩, .bool x.2.1, .int .i64 x.2.2], .agg #[.string ⟨x.1.toArray⟩, .bool x.2.1, .int .i64 x.2.2]]) ?_ ?_, hK _ ?_⟩
      · go_simp
      · exact (HEQ2.out W).mono fun e w'' h => ⟨h.1, hW.trans (h.2.mono hW.size)⟩
      clear hK K
      simp only [Act.put, List.setIfInBounds_toArray, List.set_cons_succ, List.set_cons_zero]
      refine wpQuiet_step (fun K hK => ?_)
      rw [if_pos (by rfl)]
      refine ⟨.bool false, fun W hW => quiet_ok ?_, hK _ ?_⟩
      · have f := HC.out W hW
        obtain ⟨⟨c0, c1, c2⟩, ⟨e0, e1, e2⟩⟩ := f
        go_simp
        all_goals (try omega)
      clear hK K
      simp only [Act.put, List.setIfInBounds_toArray, List.set_cons_succ, List.set_cons_zero]
      refine wpQuiet_nil ?_
      intro W hW
      go_wp2_with fail
      go_roundw
      case rel => exact ⟨k + 1, by omega, by go_num, hW⟩
      case measure => simp [intOf]; omega
    · go_wp2_with fail
      go_ret
      exact ⟨rfl, hb⟩

/-- How much hosts weigh. -/
def wtH (L : List HosT) : Nat := (L.map (fun x => x.1.length)).sum
theorem wtH_snoc (L : List HosT) (k : Nat) (h : k < L.length) : wtH (L.take (k + 1)) = wtH (L.take k) + L[k].1.length := by
  unfold wtH; rw [List.take_succ_eq_append_getElem h, List.map_append, List.sum_append]; simp only [List.map_cons, List.map_nil, List.sum_cons, List.sum_nil, Nat.add_zero]
theorem wtH_le (L : List HosT) (k : Nat) : wtH (L.take k) ≤ wtH L := by
  have h : wtH L = wtH (L.take k) + wtH (L.drop k) := by unfold wtH; rw [← List.sum_append, ← List.map_append, List.take_append_drop]
  omega
theorem wtH_mem {L : List HosT} {x : HosT} (h : x ∈ L) : x.1.length ≤ wtH L := by
  unfold wtH
  induction L with
  | nil => cases h
  | cons y r ih =>
    rcases List.mem_cons.1 h with rfl | h
    · simp
    · have := ih h; simp only [List.map_cons, List.sum_cons]; omega

set_option maxRecDepth 20000 in
set_option maxHeartbeats 400000 in
theorem szHost_any (n : ByteArray) (u : Bool) (r q : Int) (w : World) (hn : n.size ≤ maxLen) (h0 : 0 ≤ q) (h1 : q ≤ 1048576) :
    Calls Tryz.prog 59 #[.agg #[.string n, .bool u, .int .i64 r], .int .i64 q] w fun e w' => e = .returned (.int .i64 (if q - (n.size : Int) < 0 then -1 else q - (n.size : Int))) ∧ Below w.heap.size w w' := by
  unfold maxLen at hn
  by_cases g : q - (n.size : Int) < 0
  · rw [if_pos g]
    go_enter Tryz.func59, Tryz.ntmps59
    go_wp2_with fail
    go_ret
    exact ⟨rfl, (Below.refl _ _).alloc (Nat.le_refl _) _⟩
  · rw [if_neg g]
    go_enter Tryz.func59, Tryz.ntmps59
    go_wp2_with fail
    go_ret
    exact ⟨rfl, (Below.refl _ _).alloc (Nat.le_refl _) _⟩

set_option maxRecDepth 20000 in
set_option maxHeartbeats 1000000 in
theorem szHostS_any (v : Value) (L : List HosT) (left : Int) (w : World) (hr : HstRow w v L) (hx : Hid (∀ x ∈ L, x.1.length ≤ maxLen)) (h0 : 0 ≤ left) (h1 : left ≤ 1048576) :
    Calls Tryz.prog 34 #[v, .int .i64 left] w fun e w' => (∃ q : Int, e = .returned (.int .i64 q) ∧ ((q = -1) ∨ (q = left - (L.length : Int) - (wtH L : Int) ∧ 0 ≤ q))) ∧ Below w.heap.size w w' := by
  obtain ⟨a, cap, rfl, hcap, hmax, HROW⟩ := hst_value hr
  have HSZ : Hid (∀ (x : HosT) (q : Int) W, x.1.length ≤ maxLen → 0 ≤ q → q ≤ 1048576 → Calls Tryz.prog 59 #[.agg #[.string ⟨x.1.toArray⟩, .bool x.2.1, .int .i64 x.2.2], .int .i64 q] W fun e w' => e = .returned (.int .i64 (if q - (x.1.length : Int) < 0 then -1 else q - (x.1.length : Int))) ∧ Below W.heap.size W w') := fun x q W g1 g3 g4 => by
    have h := szHost_any ⟨x.1.toArray⟩ x.2.1 x.2.2 q W (by rw [size_list]; exact g1) g3 g4
    rw [size_list] at h; exact h
  clear hr
  by_cases hneg : left - (L.length : Int) < 0
  · go_enter Tryz.func34, Tryz.ntmps34
    go_wp2_with fail
    go_ret
    exact ⟨⟨-1, rfl, .inl rfl⟩, Below.refl _ _⟩
  · have hpos : 0 ≤ left - (L.length : Int) := by omega
    clear hneg
    go_enter Tryz.func34, Tryz.ntmps34
    go_wp2_with fail
    go_loopw [1, 5] (fun q i wr => ∃ k : Nat, k ≤ L.length ∧ i = .int .i64 (k : Int) ∧ q = .int .i64 (left - (L.length : Int) - (wtH (L.take k) : Int)) ∧ 0 ≤ left - (L.length : Int) - (wtH (L.take k) : Int) ∧ Below w.heap.size w wr) (fun _ i _ => L.length - (intOf i).toNat)
    case atStart => exact ⟨0, Nat.zero_le _, rfl, by simp [wtH], by simpa [wtH] using hpos, Below.refl _ _⟩
    case round =>
      obtain ⟨k, hk, rfl, rfl, hq0, hb⟩ := hrel
      have hwl := wtH_le L k
      by_cases hlt : k < L.length
      · obtain ⟨b, o, ha, hbl, hcel⟩ := HROW.out (by omega)
        rw [ha]
        have hcx := (hcel k hlt).kept hb
        unfold HstAt at hcx
        obtain ⟨c0, c1, c2⟩ := hcx
        have hxl := hx.out _ (List.getElem_mem hlt)
        have HST : Hid (wtH (L.take (k + 1)) = wtH (L.take k) + (L[k]'hlt).1.length) := wtH_snoc L k hlt
        have hwl2 := wtH_le L (k + 1)
        rw [HST.out] at hwl2
        obtain ⟨x, hxe⟩ : ∃ x, x = L[k]'hlt := ⟨_, rfl⟩
        rw [← hxe] at c0 c1 c2 hxl HST hwl2
        obtain ⟨q, hq⟩ : ∃ q : Int, q = left - (L.length : Int) - (wtH (L.take k) : Int) := ⟨_, rfl⟩
        have HQ : Hid (q = left - (L.length : Int) - (wtH (L.take k) : Int)) := hq
        rw [← hq] at hq0 ⊢
        have hq1 : q ≤ 1048576 := by omega
        have HCC : Hid (∀ W, Calls Tryz.prog 59 #[.agg #[.string ⟨x.1.toArray⟩, .bool x.2.1, .int .i64 x.2.2], .int .i64 q] W fun e w' => e = .returned (.int .i64 (if q - (x.1.length : Int) < 0 then -1 else q - (x.1.length : Int))) ∧ Below W.heap.size W w') := fun W => HSZ.out x q W hxl hq0 hq1
        clear hcel hxe hq
        by_cases hz : q - (x.1.length : Int) < 0
        · rw [if_pos hz] at HCC
          clear hz
          go_wp2_with fail
          refine (HCC.out _).mono ?_
          rintro e w2 ⟨rfl, hb2⟩
          go_wp2_with fail
          go_ret
          exact ⟨⟨-1, rfl, .inl rfl⟩, hb.trans (hb2.mono hb.size)⟩
        · rw [if_neg hz] at HCC
          obtain ⟨q2, hq2⟩ : ∃ q2 : Int, q2 = q - (x.1.length : Int) := ⟨_, rfl⟩
          have hge : 0 ≤ q2 := by omega
          rw [← hq2] at HCC
          have HQ2 : Hid (q2 = left - (L.length : Int) - (wtH (L.take (k + 1)) : Int)) := by have h1 := HQ.out; have h2 := HST.out; show q2 = _; omega
          clear hz hq2
          go_wp2_with fail
          refine (HCC.out _).mono ?_
          rintro e w2 ⟨rfl, hb2⟩
          go_wp2_with fail
          go_roundw
          case rel => exact ⟨k + 1, by omega, by go_num, by rw [HQ2.out], by rw [← HQ2.out]; exact hge, hb.trans (hb2.mono hb.size)⟩
          case measure => simp [intOf]; omega
      · have hfull : wtH (L.take k) = wtH L := by rw [List.take_of_length_le (by omega)]
        rw [hfull] at hq0 ⊢
        clear hfull hwl
        go_wp2_with fail
        go_ret
        exact ⟨⟨_, rfl, .inr ⟨rfl, hq0⟩⟩, hb⟩

/-- Health. -/
def HeaV (a b : Int) (v : Value) : Value := .agg #[.int .i64 a, .int .i64 b, v]
set_option maxRecDepth 20000 in
set_option maxHeartbeats 1000000 in
theorem szHealth_any (ri fa : Int) (v : Value) (L : List HosT) (w : World) (hr : HstRow w v L) (hx : Hid (∀ x ∈ L, x.1.length ≤ maxLen)) :
    Calls Tryz.prog 10 #[HeaV ri fa v, .int .i64 1048576] w fun e w' => (∃ q : Int, e = .returned (.int .i64 q) ∧ (q = -1 ∨ (0 ≤ q ∧ q = 1048576 - (L.length : Int) - (wtH L : Int)))) ∧ Below w.heap.size w w' := by
  unfold HeaV
  obtain ⟨aa, ca, rfl, _, hca, _⟩ := id hr
  have HRA : Hid (∀ W, Below w.heap.size w W → HstRow W (.slice aa L.length ca) L) := fun W hW => hr.kept hW
  clear hr
  go_enter Tryz.func10, Tryz.ntmps10
  go_wp2_with fail
  refine (szHostS_any _ L 1048576 _ (HRA.out _ ((Below.refl w.heap.size w).alloc (Nat.le_refl _) _)) hx (by omega) (by omega)).mono ?_
  rintro e w1 ⟨⟨q1, rfl, hq1⟩, hb1⟩
  obtain ⟨_, hbw⟩ := hst_below hb1
  rcases hq1 with rfl | ⟨hq1, hp1⟩
  · go_wp2_with fail
    go_ret
    exact ⟨⟨-1, rfl, .inl rfl⟩, hbw⟩
  · have HQ1 : Hid (q1 = 1048576 - (L.length : Int) - (wtH L : Int)) := hq1
    clear hq1
    go_wp2_with fail
    go_ret
    exact ⟨⟨q1, rfl, .inr ⟨hp1, HQ1.out⟩⟩, hbw⟩

set_option maxRecDepth 20000 in
set_option maxHeartbeats 2000000 in
theorem toHealth_any (ri fa : Int) (v : Value) (L : List HosT) (w : World) (hr : HstRow w v L) (hl : L.length ≤ 1048576) :
    Calls Tryz.prog 13 #[HeaV ri fa v] w fun e w' => (∃ g, e = .returned (HeaV ri fa (.slice (some ⟨g, 0, none⟩) L.length L.length)) ∧ w.heap.size ≤ g ∧ HoRow w' g L) ∧ Below w.heap.size w w' := by
  unfold HeaV
  obtain ⟨aa, ca, rfl, _, hca, _⟩ := id hr
  have HRA : Hid (∀ W, Below w.heap.size w W → HstRow W (.slice aa L.length ca) L) := fun W hW => hr.kept hW
  clear hr
  go_enter Tryz.func13, Tryz.ntmps13
  go_wp2_with fail
  refine (toHostS_any _ L _ (HRA.out _ ((((Below.refl w.heap.size w).alloc (Nat.le_refl _) _).alloc (by simp) _).alloc (by simp; omega) _)) hl).mono ?_
  rintro e w1 ⟨rfl, hq1, hb1⟩
  obtain ⟨hk1, hk2, hk3, hsz, hbw⟩ := hst_below3 hb1
  have HK2 : Hid (w1.heap[w.heap.size + 1]? = some (.cells #[.int .i64 0, .int .i64 0, .slice none 0 0] 38)) := hk2
  have HQ : Hid (HoRow w1 (w.heap.size + 1 + 1 + 1) L) := by
    have h : HoRow w1 (w.heap.size + 1 + 1 + 1) L := by simpa using hq1
    exact h
  obtain ⟨⟨d0, d1, d2⟩, ⟨f0, f1, f2⟩⟩ := hst_cells hk3
  obtain ⟨⟨r0, r1, r2⟩, ⟨n0, n1, n2⟩⟩ := hst_cells hk2
  clear hq1 hk1 hk2 hk3 hb1
  go_wp2_with fail
  (try simp only [Exit.inBlock, Exit.then])
  refine bodyPost_ret (results_cell_row rfl _ _ (w.heap.size + 1) 38 #[.int .i64 ri, .int .i64 fa, .slice (some ⟨w.heap.size + 1 + 1 + 1, 0, none⟩) L.length L.length] (0, 0) _ rfl ?_ Tryz.underlying38 rfl (by kernel_rfl)) rfl ⟨⟨w.heap.size + 1 + 1 + 1, rfl, by omega, ?_⟩, ?_⟩
  · exact put3h_heap (by rw [heap_setCell_other _ _ _ _ (show w.heap.size + 1 ≠ w.heap.size + 1 + 1 by omega)]; exact HK2.out)
  · exact put3h_far (HQ.out.far (by omega) _) (by omega)
  · exact put3h_below (hbw.setCell (p := ⟨w.heap.size + 1 + 1, 2, none⟩) (by show w.heap.size ≤ w.heap.size + 1 + 1; omega) _) (by omega) _ _ _

set_option maxRecDepth 20000 in
set_option maxHeartbeats 1000000 in
theorem eqHealth_same (ri fa : Int) (v v2 : Value) (L : List HosT) (w : World) (ha : HstRow w v L) (ha2 : HstRow w v2 L) :
    Calls Tryz.prog 16 #[HeaV ri fa v, HeaV ri fa v2] w fun e w' => e = .returned (.bool true) ∧ Below w.heap.size w w' := by
  unfold HeaV
  obtain ⟨aa, ca, rfl, _, hca, _⟩ := id ha
  obtain ⟨aa2, ca2, rfl, _, hca2, _⟩ := id ha2
  have HRA : Hid (∀ W, Below w.heap.size w W → HstRow W (.slice aa L.length ca) L ∧ HstRow W (.slice aa2 L.length ca2) L) := fun W hW => ⟨ha.kept hW, ha2.kept hW⟩
  have e1 : (ri != ri) = false := by simp
  have e2 : (fa != fa) = false := by simp
  clear ha ha2
  go_enter Tryz.func16, Tryz.ntmps16
  go_wp2_with fail
  have hA := HRA.out _ (((Below.refl w.heap.size w).alloc (Nat.le_refl _) (.cells #[.int .i64 ri, .int .i64 fa, .slice aa L.length ca] 38)).alloc (by simp) (.cells #[.int .i64 ri, .int .i64 fa, .slice aa2 L.length ca2] 38))
  refine (eqHostS_same _ _ L _ hA.1 hA.2).mono ?_
  rintro e w1 ⟨rfl, hb1⟩
  obtain ⟨_, _, hbw⟩ := hst_below2 hb1
  go_wp2_with fail
  go_ret
  exact ⟨rfl, hbw⟩
end Go.Proofs.YtoanloballaclaaGreatDoor
