import Derived.Test.YtoanloballaclaaGreatDoorZ08
import Derived.Test.YtoanloballaclaaGreatDoorZ13
import Derived.Laws.ResultCell
namespace Go.Proofs.YtoanloballaclaaGreatDoor
open Go.RowKit

/-- A target: its host, its data, its group, its weight. -/
abbrev TgtT : Type := List UInt8 × List UInt8 × Int × Int
/-- The four cells of a target at a place of a block. -/
def TgtAt (w : World) (b o : Nat) (x : TgtT) : Prop := w.cell? ⟨b, o, none⟩ = some (.string ⟨x.1.toArray⟩) ∧ w.cell? ⟨b, o + 1, none⟩ = some (.string ⟨x.2.1.toArray⟩) ∧ w.cell? ⟨b, o + 2, none⟩ = some (.int .i64 x.2.2.1) ∧ w.cell? ⟨b, o + 3, none⟩ = some (.int .i64 x.2.2.2)
/-- A list of hosts as it lies in memory. -/
def TgtRow (w : World) (v : Value) (L : List TgtT) : Prop :=
  ∃ a cap, v = .slice a L.length cap ∧ L.length ≤ cap ∧ cap ≤ maxLen ∧ (L = [] ∨ ∃ b o, a = some ⟨b, o, none⟩ ∧ b < w.heap.size ∧ ∀ j, (hj : j < L.length) → TgtAt w b (o + j * 4) L[j])
theorem TgtAt.kept {w w' : World} {b o : Nat} {x : TgtT} (h : TgtAt w b o x) (hb : Below w.heap.size w w') : TgtAt w' b o x := by
  have hlt := World.block_lt_of_cell? _ _ h.1
  unfold TgtAt
  rw [hb.cell (p := ⟨b, o, none⟩) hlt, hb.cell (p := ⟨b, o + 1, none⟩) hlt, hb.cell (p := ⟨b, o + 2, none⟩) hlt, hb.cell (p := ⟨b, o + 3, none⟩) hlt]
  exact h
theorem TgtRow.kept {w w' : World} {v : Value} {L : List TgtT} (h : TgtRow w v L) (hb : Below w.heap.size w w') : TgtRow w' v L := by
  obtain ⟨a, cap, rfl, h1, h2, h3⟩ := h
  refine ⟨a, cap, rfl, h1, h2, ?_⟩
  rcases h3 with h3 | ⟨b, o, rfl, hb1, hc⟩
  · exact .inl h3
  · exact .inr ⟨b, o, rfl, Nat.lt_of_lt_of_le hb1 hb.size, fun j hj => (hc j hj).kept hb⟩
theorem tgt_value {w : World} {v : Value} {L : List TgtT} (h : TgtRow w v L) : ∃ a cap, v = .slice a L.length cap ∧ L.length ≤ cap ∧ cap ≤ 9223372036854775807 ∧ Hid (0 < L.length → ∃ b o, a = some ⟨b, o, none⟩ ∧ b < w.heap.size ∧ ∀ j, (hj : j < L.length) → TgtAt w b (o + j * 4) L[j]) := by
  obtain ⟨a, cap, rfl, h1, h2, h3⟩ := h
  unfold maxLen at h2
  refine ⟨a, cap, rfl, h1, by omega, fun hp => ?_⟩
  rcases h3 with rfl | h3
  · simp at hp
  · exact h3
def FzG (w : World) (b o : Nat) : Prop := w.frozen? ⟨b, o, none⟩ = false ∧ w.frozen? ⟨b, o + 1, none⟩ = false ∧ w.frozen? ⟨b, o + 2, none⟩ = false ∧ w.frozen? ⟨b, o + 3, none⟩ = false
/-- Hosts as they lie in a block of the call's own. -/
def TgoRow (w : World) (g : Nat) (L : List TgtT) : Prop := g < w.heap.size ∧ ∀ j, (hj : j < L.length) → TgtAt w g (j * 4) L[j] ∧ FzG w g (j * 4)
theorem TgoRow.kept {w w' : World} {g : Nat} {L : List TgtT} (h : TgoRow w g L) (hb : Below w.heap.size w w') : TgoRow w' g L := by
  refine ⟨Nat.lt_of_lt_of_le h.1 hb.size, fun j hj => ⟨(h.2 j hj).1.kept hb, ?_⟩⟩
  unfold FzG
  rw [hb.frozen (p := ⟨g, j * 4, none⟩) h.1, hb.frozen (p := ⟨g, j * 4 + 1, none⟩) h.1, hb.frozen (p := ⟨g, j * 4 + 2, none⟩) h.1, hb.frozen (p := ⟨g, j * 4 + 3, none⟩) h.1]
  exact (h.2 j hj).2
theorem TgoRow.row {w : World} {g cap : Nat} {L : List TgtT} (h : TgoRow w g L) (hc : L.length ≤ cap) (hm : cap ≤ maxLen) : TgtRow w (.slice (some ⟨g, 0, none⟩) L.length cap) L :=
  ⟨_, cap, rfl, hc, hm, .inr ⟨g, 0, rfl, h.1, fun j hj => by rw [Nat.zero_add]; exact (h.2 j hj).1⟩⟩
theorem TgoRow.row1 {w : World} {g : Nat} {L : List TgtT} (h : TgoRow w g L) (hl : L.length ≤ 1048576) : TgtRow w (.slice (some ⟨g, 0, none⟩) L.length L.length) L := h.row (Nat.le_refl _) (by unfold maxLen; omega)
theorem TgoRow.far {w : World} {g g' k : Nat} {L : List TgtT} (h : TgoRow w g L) (hne : g' ≠ g) (u : Value) : TgoRow (w.setCell ⟨g', k, none⟩ u) g L := by
  have n : ∀ c, (⟨g', k, none⟩ : Addr) ≠ ⟨g, c, none⟩ := fun c e => hne (by injection e)
  refine ⟨by simpa using h.1, fun j hj => ?_⟩
  obtain ⟨⟨c0, c1, c2, c3⟩, f0, f1, f2, f3⟩ := h.2 j hj
  refine ⟨⟨?_, ?_, ?_, ?_⟩, by simpa using f0, by simpa using f1, by simpa using f2, by simpa using f3⟩
  · rw [World.cell?_setCell_other _ _ _ _ (n _)]; exact c0
  · rw [World.cell?_setCell_other _ _ _ _ (n _)]; exact c1
  · rw [World.cell?_setCell_other _ _ _ _ (n _)]; exact c2
  · rw [World.cell?_setCell_other _ _ _ _ (n _)]; exact c3
/-- A target stored. -/
def putG (w : World) (g o : Nat) (x : TgtT) : World := (((w.setCell ⟨g, o, none⟩ (.string ⟨x.1.toArray⟩)).setCell ⟨g, o + 1, none⟩ (.string ⟨x.2.1.toArray⟩)).setCell ⟨g, o + 2, none⟩ (.int .i64 x.2.2.1)).setCell ⟨g, o + 3, none⟩ (.int .i64 x.2.2.2)
theorem putG_size (w : World) (g o : Nat) (x : TgtT) : (putG w g o x).heap.size = w.heap.size := by unfold putG; simp
theorem putG_frozen (w : World) (g o : Nat) (x : TgtT) (p : Addr) : (putG w g o x).frozen? p = w.frozen? p := by unfold putG; simp
theorem putG_other {w : World} {g o : Nat} {x : TgtT} {b c : Nat} (h : b ≠ g ∨ (c < o ∨ o + 3 < c)) : (putG w g o x).cell? ⟨b, c, none⟩ = w.cell? ⟨b, c, none⟩ := by
  have hn : ∀ k, k ≤ 3 → (⟨g, o + k, none⟩ : Addr) ≠ ⟨b, c, none⟩ := fun k hk e => by
    injection e with e1 e2
    rcases h with h | h
    · exact h e1.symm
    · omega
  unfold putG
  rw [World.cell?_setCell_other _ _ _ _ (hn 3 (by omega)), World.cell?_setCell_other _ _ _ _ (hn 2 (by omega)), World.cell?_setCell_other _ _ _ _ (hn 1 (by omega)), World.cell?_setCell_other _ _ _ _ (show (⟨g, o, none⟩ : Addr) ≠ ⟨b, c, none⟩ from hn 0 (by omega))]
theorem putG_at {w : World} {g o : Nat} {x y : TgtT} (h : TgtAt w g o y) : TgtAt (putG w g o x) g o x := by
  have n : ∀ a b : Nat, a ≠ b → (⟨g, o + a, none⟩ : Addr) ≠ ⟨g, o + b, none⟩ := fun a b hab e => by injection e with _ e2; omega
  have n0 : ∀ a : Nat, a ≠ 0 → (⟨g, o + a, none⟩ : Addr) ≠ ⟨g, o, none⟩ := fun a hab e => by injection e with _ e2; omega
  have m0 : ∀ a : Nat, a ≠ 0 → (⟨g, o, none⟩ : Addr) ≠ ⟨g, o + a, none⟩ := fun a hab e => by injection e with _ e2; omega
  obtain ⟨h0, h1, h2, h3⟩ := h
  unfold putG TgtAt
  refine ⟨?_, ?_, ?_, ?_⟩
  · rw [World.cell?_setCell_other _ _ _ _ (n0 3 (by omega)), World.cell?_setCell_other _ _ _ _ (n0 2 (by omega)), World.cell?_setCell_other _ _ _ _ (n0 1 (by omega))]
    exact World.cell?_setCell_same _ _ _ h0
  · rw [World.cell?_setCell_other _ _ _ _ (n 3 1 (by omega)), World.cell?_setCell_other _ _ _ _ (n 2 1 (by omega))]
    exact World.cell?_setCell_same _ _ _ (by rw [World.cell?_setCell_other _ _ _ _ (m0 1 (by omega))]; exact h1)
  · rw [World.cell?_setCell_other _ _ _ _ (n 3 2 (by omega))]
    exact World.cell?_setCell_same _ _ _ (by rw [World.cell?_setCell_other _ _ _ _ (n 1 2 (by omega)), World.cell?_setCell_other _ _ _ _ (m0 2 (by omega))]; exact h2)
  · exact World.cell?_setCell_same _ _ _ (by rw [World.cell?_setCell_other _ _ _ _ (n 2 3 (by omega)), World.cell?_setCell_other _ _ _ _ (n 1 3 (by omega)), World.cell?_setCell_other _ _ _ _ (m0 3 (by omega))]; exact h3)
theorem putG_below {B : Nat} {a w : World} (h : Below B a w) {g o : Nat} (hg : B ≤ g) (x : TgtT) : Below B a (putG w g o x) :=
  (((h.setCell (p := ⟨g, o, none⟩) hg _).setCell (p := ⟨g, o + 1, none⟩) hg _).setCell (p := ⟨g, o + 2, none⟩) hg _).setCell (p := ⟨g, o + 3, none⟩) hg _
theorem TgoRow.set {w : World} {g : Nat} {L : List TgtT} (h : TgoRow w g L) (k : Nat) (hk : k < L.length) (x : TgtT) : TgoRow (putG w g (k * 4) x) g (L.set k x) := by
  refine ⟨by rw [putG_size]; exact h.1, fun j hj => ?_⟩
  have hj' : j < L.length := by simpa using hj
  refine ⟨?_, ?_⟩
  · rw [List.getElem_set]
    split
    · rename_i e; subst e; exact putG_at (h.2 k hk).1
    · rename_i e
      have h0 := (h.2 j hj').1
      unfold TgtAt at h0 ⊢
      rw [putG_other (.inr (by omega)), putG_other (.inr (by omega)), putG_other (.inr (by omega)), putG_other (.inr (by omega))]
      exact h0
  · have h0 := (h.2 j hj').2
    unfold FzG at h0 ⊢
    rw [putG_frozen, putG_frozen, putG_frozen, putG_frozen]; exact h0
/-- What has been copied behind k rounds. -/
def partG (L : List TgtT) (k : Nat) : List TgtT := L.take k ++ List.replicate (L.length - k) ([], [], 0, 0)
theorem partG_length (L : List TgtT) (k : Nat) (h : k ≤ L.length) : (partG L k).length = L.length := by simp [partG]; omega
theorem partG_next (L : List TgtT) (k : Nat) (h : k < L.length) : partG L (k + 1) = (partG L k).set k L[k] := by
  unfold partG
  have hm : (L.take k).length = k := by simp; omega
  rw [List.take_succ_eq_append_getElem h, List.set_append_right _ _ (by omega), hm, Nat.sub_self]
  obtain ⟨m, hm2⟩ : ∃ m, L.length - k = m + 1 := ⟨L.length - k - 1, by omega⟩
  rw [hm2, show L.length - (k + 1) = m by omega, List.replicate_succ]
  simp only [List.set_cons_zero, List.append_assoc, List.singleton_append]
theorem partG_end (L : List TgtT) : partG L L.length = L := by simp [partG]
theorem info_tgt : (Tryz.prog.info? 79).map (fun i => (i.zero, i.size, i.bytes)) = some (some (.agg #[.string ByteArray.empty, .string ByteArray.empty, .int .i64 0, .int .i64 0]), 4, 48) := by kernel_rfl
theorem made_at4g {n k r : Nat} {a b c d : Value} (hk : k < n) (hr : r < 4) : (madeCells #[a, b, c, d] (n * 4)).toList[k * 4 + r]? = [a, b, c, d][r]? := by
  unfold madeCells
  have h1 : k * 4 + r < n * 4 := by omega
  simp only [Array.toList_map, Array.toList_range, List.getElem?_map, List.getElem?_range h1, Option.map_some]
  rw [show (#[a, b, c, d] : Array Value).size = 4 from rfl, show (k * 4 + r) % 4 = r by omega]
  match r, hr with
  | 0, _ => rfl
  | 1, _ => rfl
  | 2, _ => rfl
  | 3, _ => rfl
theorem made_tgrow {w w1 : World} {L : List TgtT} (hg : w.heap.size < w1.heap.size) (h : w1.ownsRow w.heap.size 79 4 (.slice (some ⟨w.heap.size, 0, none⟩) L.length L.length) L.length (madeCells #[.string ByteArray.empty, .string ByteArray.empty, .int .i64 0, .int .i64 0] (L.length * 4)).toList) : TgoRow w1 w.heap.size (partG L 0) := by
  have hp : partG L 0 = List.replicate L.length ([], [], 0, 0) := by simp [partG]
  refine ⟨hg, fun j hj => ⟨?_, h.frozenAt _, h.frozenAt _, h.frozenAt _, h.frozenAt _⟩⟩
  have hj' : j < L.length := by rw [hp] at hj; simpa using hj
  have hx : (partG L 0)[j] = ([], [], 0, 0) := by simp only [hp]; exact List.getElem_replicate _
  rw [hx]
  unfold TgtAt
  refine ⟨?_, ?_, ?_, ?_⟩
  · rw [h.cellAt (j * 4) (by omega), show j * 4 = j * 4 + 0 from rfl, made_at4g hj' (by omega)]; rfl
  · rw [h.cellAt (j * 4 + 1) (by omega), made_at4g hj' (by omega)]; rfl
  · rw [h.cellAt (j * 4 + 2) (by omega), made_at4g hj' (by omega)]; rfl
  · rw [h.cellAt (j * 4 + 3) (by omega), made_at4g hj' (by omega)]; rfl
theorem tgt_new (w : World) (o : Obj) : (w.alloc o).heap[w.heap.size]? = some o := by
  show (w.heap.push o)[w.heap.size]? = some o
  simp
theorem tgt_new2 (w : World) (a b : Obj) : ((w.alloc a).alloc b).heap[w.heap.size + 1]? = some b := by
  have h := tgt_new (w.alloc a) b
  simpa using h
theorem tgt_new3 (w : World) (a b c : Obj) : (((w.alloc a).alloc b).alloc c).heap[w.heap.size + 1 + 1]? = some c := by
  have h := tgt_new ((w.alloc a).alloc b) c
  simpa using h
theorem tgt_below {w W : World} {o : Obj} (hb : Below (w.alloc o).heap.size (w.alloc o) W) : W.heap[w.heap.size]? = some o ∧ Below w.heap.size w W :=
  ⟨(hb.block _ (by simp)).trans (tgt_new _ _), ((Below.refl w.heap.size w).alloc (Nat.le_refl _) _).trans (hb.mono (by simp))⟩
theorem tgt_below2 {w W : World} {a b : Obj} (hb : Below ((w.alloc a).alloc b).heap.size ((w.alloc a).alloc b) W) : W.heap[w.heap.size]? = some a ∧ W.heap[w.heap.size + 1]? = some b ∧ Below w.heap.size w W := by
  have hA : Below (w.alloc a).heap.size (w.alloc a) W := ((Below.refl _ _).alloc (Nat.le_refl _) _).trans (hb.mono (by simp))
  obtain ⟨h1, h2⟩ := tgt_below hA
  exact ⟨h1, (hb.block _ (by simp)).trans (tgt_new2 _ _ _), h2⟩
theorem tgt_below3 {w W : World} {a b c : Obj} (hb : Below (((w.alloc a).alloc b).alloc c).heap.size (((w.alloc a).alloc b).alloc c) W) : W.heap[w.heap.size]? = some a ∧ W.heap[w.heap.size + 1]? = some b ∧ W.heap[w.heap.size + 1 + 1]? = some c ∧ w.heap.size + 1 + 1 < W.heap.size ∧ Below w.heap.size w W := by
  have hA : Below ((w.alloc a).alloc b).heap.size ((w.alloc a).alloc b) W := ((Below.refl _ _).alloc (Nat.le_refl _) _).trans (hb.mono (by simp))
  obtain ⟨h1, h2, h3⟩ := tgt_below2 hA
  exact ⟨h1, h2, (hb.block _ (by simp)).trans (tgt_new3 _ _ _ _), Nat.lt_of_lt_of_le (by simp) hb.size, h3⟩
theorem pol_cells {W : World} {b : Nat} {v0 v1 : Value} {t : TypeId} (h : W.heap[b]? = some (.cells #[v0, v1] t)) :
    (W.cell? ⟨b, 0, none⟩ = some v0 ∧ W.cell? ⟨b, 1, none⟩ = some v1) ∧ (W.frozen? ⟨b, 0, none⟩ = false ∧ W.frozen? ⟨b, 1, none⟩ = false) := by
  refine ⟨⟨?_, ?_⟩, ⟨?_, ?_⟩⟩
  all_goals first
    | (unfold World.cell?; rw [h]; rfl)
    | (unfold World.frozen?; rw [h]; simp)
/-- Two cells stored. -/
def put2p (w : World) (g : Nat) (v0 v1 : Value) : World := (w.setCell ⟨g, 0, none⟩ v0).setCell ⟨g, 1, none⟩ v1
theorem put2p_heap {w : World} {g : Nat} {t : TypeId} {v0 v1 u0 u1 : Value} (h : w.heap[g]? = some (.cells #[u0, u1] t)) : (put2p w g v0 v1).heap[g]? = some (.cells #[v0, v1] t) := by
  have e0 := heap_setCell_same _ _ 0 _ _ v0 h
  have e1 := heap_setCell_same _ _ 1 _ _ v1 e0
  unfold put2p
  simpa using e1
theorem put2p_far {w : World} {g g' : Nat} {v0 v1 : Value} {L : List TgtT} (h : TgoRow w g L) (hne : g' ≠ g) : TgoRow (put2p w g' v0 v1) g L := (h.far hne _).far hne _
theorem put2p_below {B : Nat} {a w : World} (h : Below B a w) {g : Nat} (hg : B ≤ g) (v0 v1 : Value) : Below B a (put2p w g v0 v1) :=
  (h.setCell (p := ⟨g, 0, none⟩) hg _).setCell (p := ⟨g, 1, none⟩) hg _

set_option maxRecDepth 20000 in
set_option maxHeartbeats 400000 in
theorem toTarget_any (n d : ByteArray) (u r : Int) (w : World) :
    Calls Tryz.prog 66 #[.agg #[.string n, .string d, .int .i64 u, .int .i64 r]] w fun e w' => e = .returned (.agg #[.string n, .string d, .int .i64 u, .int .i64 r]) ∧ Below w.heap.size w w' := by
  go_enter Tryz.func66, Tryz.ntmps66
  go_wp2_with fail
  (try simp only [Exit.inBlock, Exit.then])
  refine bodyPost_ret (results_cell_row rfl _ _ (w.heap.size + 1) 79 #[.string n, .string d, .int .i64 u, .int .i64 r] (0, 0) _ rfl ?_ Tryz.underlying79 rfl (by kernel_rfl)) rfl ⟨rfl, ?_⟩
  · rw [Below.heap_alloc _ _ _ (by simp), tgt_new2]
  · exact (((Below.refl _ _).alloc (Nat.le_refl _) _).alloc (by simp) _).alloc (by simp; omega) _

set_option maxRecDepth 20000 in
set_option maxHeartbeats 1000000 in
theorem toTargetS_any (v : Value) (L : List TgtT) (w : World) (hr : TgtRow w v L) (hl : L.length ≤ 1048576) :
    Calls Tryz.prog 38 #[v] w fun e w' => e = .returned (.slice (some ⟨w.heap.size, 0, none⟩) L.length L.length) ∧ TgoRow w' w.heap.size L ∧ Below w.heap.size w w' := by
  obtain ⟨i0, hi, hz0, hz1, hz2⟩ := info_parts info_tgt
  obtain ⟨a, cap, rfl, hcap, hmax, HROW⟩ := tgt_value hr
  have HTO : Hid (∀ (x : TgtT) W, Calls Tryz.prog 66 #[.agg #[.string ⟨x.1.toArray⟩, .string ⟨x.2.1.toArray⟩, .int .i64 x.2.2.1, .int .i64 x.2.2.2]] W fun e w' => e = .returned (.agg #[.string ⟨x.1.toArray⟩, .string ⟨x.2.1.toArray⟩, .int .i64 x.2.2.1, .int .i64 x.2.2.2]) ∧ Below W.heap.size W w') := fun x W => toTarget_any ⟨x.1.toArray⟩ ⟨x.2.1.toArray⟩ x.2.2.1 x.2.2.2 W
  clear hr
  go_enter Tryz.func38, Tryz.ntmps38
  go_wp2_with (at_make; refine wpList_make_full _ rfl _ _ 32 rfl w.heap.size 79 i0 (.agg #[.string ByteArray.empty, .string ByteArray.empty, .int .i64 0, .int .i64 0]) 4 Tryz.underlying32 hi hz0 hz1 _ _ _ _ L.length rfl rfl rfl rfl ?b2 ?b3 ?b4 ?_)
  case b2 => rw [hz2]; omega
  case b3 => unfold maxLen; omega
  case b4 => exact Nat.le_refl _
  intro w1 hown hgrow
  have hb1 : Below w.heap.size w w1 := (Below.refl _ _).grown hgrow (Nat.le_refl _) (fun k h => by cases h)
  have hlt1 : w.heap.size < w1.heap.size := (hown.lt w.heap.size rfl).2
  have HS1 : Hid (TgoRow w1 w.heap.size (partG L 0)) := made_tgrow hlt1 hown
  clear hown hgrow hlt1
  go_wp2_with fail
  go_loopw [4] (fun i wr => ∃ k : Nat, k ≤ L.length ∧ i = .int .i64 (k : Int) ∧ Hid (TgoRow wr w.heap.size (partG L k)) ∧ Below w.heap.size w wr) (fun i _ => L.length - (intOf i).toNat)
  case atStart => exact ⟨0, Nat.zero_le _, rfl, HS1, hb1⟩
  case round =>
    obtain ⟨k, hk, rfl, HR, hb⟩ := hrel
    clear HS1 hb1
    by_cases hlt : k < L.length
    · obtain ⟨b, o, ha, hbl, hcel⟩ := HROW.out (by omega)
      rw [ha]
      have hcx := hcel k hlt
      unfold TgtAt at hcx
      rw [← hb.cell (p := ⟨b, o + k * 4, none⟩) hbl, ← hb.cell (p := ⟨b, o + k * 4 + 1, none⟩) hbl, ← hb.cell (p := ⟨b, o + k * 4 + 2, none⟩) hbl, ← hb.cell (p := ⟨b, o + k * 4 + 3, none⟩) hbl] at hcx
      obtain ⟨c0, c1, c2, c3⟩ := hcx
      have HN : Hid (partG L (k + 1) = (partG L k).set k (L[k]'hlt)) := partG_next L k hlt
      have hlp : k < (partG L k).length := by rw [partG_length L k hk]; exact hlt
      obtain ⟨x, hxe⟩ : ∃ x, x = L[k]'hlt := ⟨_, rfl⟩
      rw [← hxe] at c0 c1 c2 c3 HN
      have HST : Hid (∀ W, Below wr.heap.size wr W → TgoRow W w.heap.size (partG L k) ∧ TgoRow (putG W w.heap.size (k * 4) x) w.heap.size (partG L (k + 1))) := fun W hW => by
        have h1 := HR.out.kept hW
        exact ⟨h1, by rw [HN.out]; exact h1.set k hlp x⟩
      have HLP : Hid (k < (partG L k).length) := hlp
      clear hcel hxe hlp
      go_wp2_with fail
      refine (HTO.out x _).mono ?_
      rintro e w2 ⟨rfl, hb2⟩
      have hst := HST.out w2 hb2
      obtain ⟨⟨m0, m1, m2, m3⟩, ⟨f0, f1, f2, f3⟩⟩ := hst.1.2 k HLP.out
      have HQ : Hid (TgoRow (putG w2 w.heap.size (k * 4) x) w.heap.size (partG L (k + 1))) := hst.2
      have hb3 : Below w.heap.size w (putG w2 w.heap.size (k * 4) x) := putG_below (hb.trans (hb2.mono hb.size)) (Nat.le_refl _) x
      unfold putG at HQ hb3
      obtain ⟨y, hy⟩ : ∃ y, y = (partG L k)[k]'HLP.out := ⟨_, rfl⟩
      rw [← hy] at m0 m1 m2 m3
      clear hst hb2 hy c0 c1 c2 c3
      go_wp2_with fail
      go_roundw
      case rel => exact ⟨k + 1, by omega, by go_num, HQ, hb3⟩
      case measure => simp [intOf]; omega
    · have hfull : partG L k = L := by rw [show k = L.length by omega]; exact partG_end L
      rw [hfull] at HR
      have HRR : Hid (TgoRow wr w.heap.size L) := HR
      clear hfull HR
      go_wp2_with fail
      go_ret
      exact ⟨rfl, HRR.out, hb⟩

set_option maxRecDepth 20000 in
set_option maxHeartbeats 400000 in
theorem eqTarget_same (n d : ByteArray) (u r : Int) (w : World) :
    Calls Tryz.prog 72 #[.agg #[.string n, .string d, .int .i64 u, .int .i64 r], .agg #[.string n, .string d, .int .i64 u, .int .i64 r]] w fun e w' => e = .returned (.bool true) ∧ Below w.heap.size w w' := by
  have e2 : (u != u) = false := by simp
  have e3 : (r != r) = false := by simp
  go_enter Tryz.func72, Tryz.ntmps72
  go_wp2_with fail
  go_ret
  exact ⟨rfl, ((Below.refl _ _).alloc (Nat.le_refl _) _).alloc (by simp) _⟩

set_option maxRecDepth 20000 in
set_option maxHeartbeats 1000000 in
theorem eqTargetS_same (v1 v2 : Value) (L : List TgtT) (w : World) (h1 : TgtRow w v1 L) (h2 : TgtRow w v2 L) :
    Calls Tryz.prog 41 #[v1, v2] w fun e w' => e = .returned (.bool true) ∧ Below w.heap.size w w' := by
  obtain ⟨a1, cap1, rfl, hc1, hm1, HR1⟩ := tgt_value h1
  obtain ⟨a2, cap2, rfl, hc2, hm2, HR2⟩ := tgt_value h2
  have el : ((L.length : Int) != (L.length : Int)) = false := by simp
  clear h1 h2
  go_enter Tryz.func41, Tryz.ntmps41
  go_wp2_with fail
  go_loopw [5] (fun i wr => ∃ k : Nat, k ≤ L.length ∧ i = .int .i64 (k : Int) ∧ Below w.heap.size w wr) (fun i _ => L.length - (intOf i).toNat)
  case atStart => exact ⟨0, Nat.zero_le _, rfl, Below.refl _ _⟩
  case round =>
    obtain ⟨k, hk, rfl, hb⟩ := hrel
    by_cases hlt : k < L.length
    · obtain ⟨b1, o1, ha1, hbl1, hcel1⟩ := HR1.out (by omega)
      obtain ⟨b2, o2, ha2, hbl2, hcel2⟩ := HR2.out (by omega)
      rw [ha1, ha2]
      have q1 := hcel1 k hlt
      have q2 := hcel2 k hlt
      obtain ⟨x, hx⟩ : ∃ x, x = L[k]'hlt := ⟨_, rfl⟩
      rw [← hx] at q1 q2
      have HC : Hid (∀ W, Below w.heap.size w W → TgtAt W b1 (o1 + k * 4) x ∧ TgtAt W b2 (o2 + k * 4) x) := fun W hW => ⟨q1.kept hW, q2.kept hW⟩
      have HEQ2 : Hid (∀ W, Calls Tryz.prog 72 #[.agg #[.string ⟨x.1.toArray⟩, .string ⟨x.2.1.toArray⟩, .int .i64 x.2.2.1, .int .i64 x.2.2.2], .agg #[.string ⟨x.1.toArray⟩, .string ⟨x.2.1.toArray⟩, .int .i64 x.2.2.1, .int .i64 x.2.2.2]] W fun e w' => e = .returned (.bool true) ∧ Below W.heap.size W w') := fun W => eqTarget_same ⟨x.1.toArray⟩ ⟨x.2.1.toArray⟩ x.2.2.1 x.2.2.2 W
      have hki : (k : Int) < (L.length : Int) := by omega
      have hbd := hb.drew
      unfold TgtAt at HC
      clear hcel1 hcel2 hx q1 q2
      go_wp2_with fail
      refine wp_region_quiet (C := fun W => Below w.heap.size w W) (by kernel_rfl) (by kernel_rfl) hbd ?_
      refine wpQuiet_step (fun K hK => ?_)
      rw [if_pos (by rfl)]
      refine ⟨.slice (some ⟨b1, o1, none⟩) L.length cap1, fun W hW => quiet_ok ?_, hK _ ?_⟩
      · have f := HC.out W hW
        obtain ⟨⟨c0, c1, c2, c3⟩, ⟨e0, e1, e2, e3⟩⟩ := f
        go_simp
        all_goals (try omega)
      clear hK K
      simp only [Act.put, List.setIfInBounds_toArray, List.set_cons_succ, List.set_cons_zero]
      refine wpQuiet_step (fun K hK => ?_)
      rw [if_pos (by rfl)]
      refine ⟨.int .i64 (k : Int), fun W hW => quiet_ok ?_, hK _ ?_⟩
      · have f := HC.out W hW
        obtain ⟨⟨c0, c1, c2, c3⟩, ⟨e0, e1, e2, e3⟩⟩ := f
        go_simp
        all_goals (try omega)
      clear hK K
      simp only [Act.put, List.setIfInBounds_toArray, List.set_cons_succ, List.set_cons_zero]
      refine wpQuiet_step (fun K hK => ?_)
      rw [if_pos (by rfl)]
      refine ⟨.pointer (some ⟨b1, o1 + k * 4, none⟩), fun W hW => quiet_ok ?_, hK _ ?_⟩
      · have f := HC.out W hW
        obtain ⟨⟨c0, c1, c2, c3⟩, ⟨e0, e1, e2, e3⟩⟩ := f
        go_simp
        all_goals (try omega)
      clear hK K
      simp only [Act.put, List.setIfInBounds_toArray, List.set_cons_succ, List.set_cons_zero]
      refine wpQuiet_step (fun K hK => ?_)
      rw [if_pos (by rfl)]
      refine ⟨.agg #[.string ⟨x.1.toArray⟩, .string ⟨x.2.1.toArray⟩, .int .i64 x.2.2.1, .int .i64 x.2.2.2], fun W hW => quiet_ok ?_, hK _ ?_⟩
      · have f := HC.out W hW
        obtain ⟨⟨c0, c1, c2, c3⟩, ⟨e0, e1, e2, e3⟩⟩ := f
        go_simp
        all_goals (try omega)
      clear hK K
      simp only [Act.put, List.setIfInBounds_toArray, List.set_cons_succ, List.set_cons_zero]
      refine wpQuiet_step (fun K hK => ?_)
      rw [if_pos (by rfl)]
      refine ⟨.slice (some ⟨b2, o2, none⟩) L.length cap2, fun W hW => quiet_ok ?_, hK _ ?_⟩
      · have f := HC.out W hW
        obtain ⟨⟨c0, c1, c2, c3⟩, ⟨e0, e1, e2, e3⟩⟩ := f
        go_simp
        all_goals (try omega)
      clear hK K
      simp only [Act.put, List.setIfInBounds_toArray, List.set_cons_succ, List.set_cons_zero]
      refine wpQuiet_step (fun K hK => ?_)
      rw [if_pos (by rfl)]
      refine ⟨.int .i64 (k : Int), fun W hW => quiet_ok ?_, hK _ ?_⟩
      · have f := HC.out W hW
        obtain ⟨⟨c0, c1, c2, c3⟩, ⟨e0, e1, e2, e3⟩⟩ := f
        go_simp
        all_goals (try omega)
      clear hK K
      simp only [Act.put, List.setIfInBounds_toArray, List.set_cons_succ, List.set_cons_zero]
      refine wpQuiet_step (fun K hK => ?_)
      rw [if_pos (by rfl)]
      refine ⟨.pointer (some ⟨b2, o2 + k * 4, none⟩), fun W hW => quiet_ok ?_, hK _ ?_⟩
      · have f := HC.out W hW
        obtain ⟨⟨c0, c1, c2, c3⟩, ⟨e0, e1, e2, e3⟩⟩ := f
        go_simp
        all_goals (try omega)
      clear hK K
      simp only [Act.put, List.setIfInBounds_toArray, List.set_cons_succ, List.set_cons_zero]
      refine wpQuiet_step (fun K hK => ?_)
      rw [if_pos (by rfl)]
      refine ⟨.agg #[.string ⟨x.1.toArray⟩, .string ⟨x.2.1.toArray⟩, .int .i64 x.2.2.1, .int .i64 x.2.2.2], fun W hW => quiet_ok ?_, hK _ ?_⟩
      · have f := HC.out W hW
        obtain ⟨⟨c0, c1, c2, c3⟩, ⟨e0, e1, e2, e3⟩⟩ := f
        go_simp
        all_goals (try omega)
      clear hK K
      simp only [Act.put, List.setIfInBounds_toArray, List.set_cons_succ, List.set_cons_zero]
      refine wpQuiet_step (fun K hK => ?_)
      rw [if_pos (by rfl)]
      refine ⟨.bool true, fun W hW => quiet_call (f := 72) (args := #[.agg #[.string ⟨x.1.toArray⟩, .string ⟨x.2.1.toArray⟩, .int .i64 x.2.2.1, .int .i64 x.2.2.2], .agg #[.string ⟨x.1.toArray⟩, .string ⟨x.2.1.toArray⟩, .int .i64 x.2.2.1, .int .i64 x.2.2.2]]) ?_ ?_, hK _ ?_⟩
      · go_simp
      · exact (HEQ2.out W).mono fun e w'' h => ⟨h.1, hW.trans (h.2.mono hW.size)⟩
      clear hK K
      simp only [Act.put, List.setIfInBounds_toArray, List.set_cons_succ, List.set_cons_zero]
      refine wpQuiet_step (fun K hK => ?_)
      rw [if_pos (by rfl)]
      refine ⟨.bool false, fun W hW => quiet_ok ?_, hK _ ?_⟩
      · have f := HC.out W hW
        obtain ⟨⟨c0, c1, c2, c3⟩, ⟨e0, e1, e2, e3⟩⟩ := f
        go_simp
        all_goals (try omega)
      clear hK K
      simp only [Act.put, List.setIfInBounds_toArray, List.set_cons_succ, List.set_cons_zero]
      refine wpQuiet_nil ?_
      intro W hW
      go_wp2_with fail
      go_roundw
      case rel => exact ⟨k + 1, by omega, by go_num, hW⟩
      case measure => simp [intOf]; omega
    · go_wp2_with fail
      go_ret
      exact ⟨rfl, hb⟩

/-- How much targets weigh. -/
def wtG (L : List TgtT) : Nat := (L.map (fun x => x.1.length + x.2.1.length)).sum
theorem wtG_snoc (L : List TgtT) (k : Nat) (h : k < L.length) : wtG (L.take (k + 1)) = wtG (L.take k) + (L[k].1.length + L[k].2.1.length) := by
  unfold wtG; rw [List.take_succ_eq_append_getElem h, List.map_append, List.sum_append]; simp only [List.map_cons, List.map_nil, List.sum_cons, List.sum_nil, Nat.add_zero]
theorem wtG_le (L : List TgtT) (k : Nat) : wtG (L.take k) ≤ wtG L := by
  have h : wtG L = wtG (L.take k) + wtG (L.drop k) := by unfold wtG; rw [← List.sum_append, ← List.map_append, List.take_append_drop]
  omega
theorem wtG_mem {L : List TgtT} {x : TgtT} (h : x ∈ L) : x.1.length + x.2.1.length ≤ wtG L := by
  unfold wtG
  induction L with
  | nil => cases h
  | cons y r ih =>
    rcases List.mem_cons.1 h with rfl | h
    · simp
    · have := ih h; simp only [List.map_cons, List.sum_cons]; omega

set_option maxRecDepth 20000 in
set_option maxHeartbeats 400000 in
theorem szTarget_any (n d : ByteArray) (u r q : Int) (w : World) (hn : n.size ≤ maxLen) (hd : d.size ≤ maxLen) (h0 : 0 ≤ q) (h1 : q ≤ 1048576) :
    Calls Tryz.prog 58 #[.agg #[.string n, .string d, .int .i64 u, .int .i64 r], .int .i64 q] w fun e w' => e = .returned (.int .i64 (if q - ((n.size + d.size : Nat) : Int) < 0 then -1 else q - ((n.size + d.size : Nat) : Int))) ∧ Below w.heap.size w w' := by
  unfold maxLen at hn hd
  by_cases g1 : q - (n.size : Int) < 0
  · have g : q - ((n.size + d.size : Nat) : Int) < 0 := by omega
    rw [if_pos g]
    clear g
    go_enter Tryz.func58, Tryz.ntmps58
    go_wp2_with fail
    go_ret
    exact ⟨rfl, (Below.refl _ _).alloc (Nat.le_refl _) _⟩
  · by_cases g : q - ((n.size + d.size : Nat) : Int) < 0
    · rw [if_pos g]
      have g2 : q - (n.size : Int) - (d.size : Int) < 0 := by omega
      clear g
      go_enter Tryz.func58, Tryz.ntmps58
      go_wp2_with fail
      go_ret
      exact ⟨rfl, (Below.refl _ _).alloc (Nat.le_refl _) _⟩
    · rw [if_neg g, show q - ((n.size + d.size : Nat) : Int) = q - (n.size : Int) - (d.size : Int) by omega]
      have g2 : ¬ q - (n.size : Int) - (d.size : Int) < 0 := by omega
      clear g
      go_enter Tryz.func58, Tryz.ntmps58
      go_wp2_with fail
      go_ret
      exact ⟨rfl, (Below.refl _ _).alloc (Nat.le_refl _) _⟩

set_option maxRecDepth 20000 in
set_option maxHeartbeats 1000000 in
theorem szTargetS_any (v : Value) (L : List TgtT) (left : Int) (w : World) (hr : TgtRow w v L) (hx : Hid (∀ x ∈ L, x.1.length ≤ maxLen ∧ x.2.1.length ≤ maxLen)) (h0 : 0 ≤ left) (h1 : left ≤ 1048576) :
    Calls Tryz.prog 33 #[v, .int .i64 left] w fun e w' => (∃ q : Int, e = .returned (.int .i64 q) ∧ ((q = -1) ∨ (q = left - (L.length : Int) - (wtG L : Int) ∧ 0 ≤ q))) ∧ Below w.heap.size w w' := by
  obtain ⟨a, cap, rfl, hcap, hmax, HROW⟩ := tgt_value hr
  have HSZ : Hid (∀ (x : TgtT) (q : Int) W, x.1.length ≤ maxLen → x.2.1.length ≤ maxLen → 0 ≤ q → q ≤ 1048576 → Calls Tryz.prog 58 #[.agg #[.string ⟨x.1.toArray⟩, .string ⟨x.2.1.toArray⟩, .int .i64 x.2.2.1, .int .i64 x.2.2.2], .int .i64 q] W fun e w' => e = .returned (.int .i64 (if q - ((x.1.length + x.2.1.length : Nat) : Int) < 0 then -1 else q - ((x.1.length + x.2.1.length : Nat) : Int))) ∧ Below W.heap.size W w') := fun x q W g1 g2 g3 g4 => by
    have h := szTarget_any ⟨x.1.toArray⟩ ⟨x.2.1.toArray⟩ x.2.2.1 x.2.2.2 q W (by rw [size_list]; exact g1) (by rw [size_list]; exact g2) g3 g4
    rw [size_list, size_list] at h; exact h
  clear hr
  by_cases hneg : left - (L.length : Int) < 0
  · go_enter Tryz.func33, Tryz.ntmps33
    go_wp2_with fail
    go_ret
    exact ⟨⟨-1, rfl, .inl rfl⟩, Below.refl _ _⟩
  · have hpos : 0 ≤ left - (L.length : Int) := by omega
    clear hneg
    go_enter Tryz.func33, Tryz.ntmps33
    go_wp2_with fail
    go_loopw [1, 5] (fun q i wr => ∃ k : Nat, k ≤ L.length ∧ i = .int .i64 (k : Int) ∧ q = .int .i64 (left - (L.length : Int) - (wtG (L.take k) : Int)) ∧ 0 ≤ left - (L.length : Int) - (wtG (L.take k) : Int) ∧ Below w.heap.size w wr) (fun _ i _ => L.length - (intOf i).toNat)
    case atStart => exact ⟨0, Nat.zero_le _, rfl, by simp [wtG], by simpa [wtG] using hpos, Below.refl _ _⟩
    case round =>
      obtain ⟨k, hk, rfl, rfl, hq0, hb⟩ := hrel
      have hwl := wtG_le L k
      by_cases hlt : k < L.length
      · obtain ⟨b, o, ha, hbl, hcel⟩ := HROW.out (by omega)
        rw [ha]
        have hcx := (hcel k hlt).kept hb
        unfold TgtAt at hcx
        obtain ⟨c0, c1, c2, c3⟩ := hcx
        have hxl := hx.out _ (List.getElem_mem hlt)
        have HST : Hid (wtG (L.take (k + 1)) = wtG (L.take k) + ((L[k]'hlt).1.length + (L[k]'hlt).2.1.length)) := wtG_snoc L k hlt
        have hwl2 := wtG_le L (k + 1)
        rw [HST.out] at hwl2
        obtain ⟨x, hxe⟩ : ∃ x, x = L[k]'hlt := ⟨_, rfl⟩
        rw [← hxe] at c0 c1 c2 c3 hxl HST hwl2
        obtain ⟨q, hq⟩ : ∃ q : Int, q = left - (L.length : Int) - (wtG (L.take k) : Int) := ⟨_, rfl⟩
        have HQ : Hid (q = left - (L.length : Int) - (wtG (L.take k) : Int)) := hq
        rw [← hq] at hq0 ⊢
        have hq1 : q ≤ 1048576 := by omega
        have HCC : Hid (∀ W, Calls Tryz.prog 58 #[.agg #[.string ⟨x.1.toArray⟩, .string ⟨x.2.1.toArray⟩, .int .i64 x.2.2.1, .int .i64 x.2.2.2], .int .i64 q] W fun e w' => e = .returned (.int .i64 (if q - ((x.1.length + x.2.1.length : Nat) : Int) < 0 then -1 else q - ((x.1.length + x.2.1.length : Nat) : Int))) ∧ Below W.heap.size W w') := fun W => HSZ.out x q W hxl.1 hxl.2 hq0 hq1
        clear hcel hxe hq
        by_cases hz : q - ((x.1.length + x.2.1.length : Nat) : Int) < 0
        · rw [if_pos hz] at HCC
          clear hz
          go_wp2_with fail
          refine (HCC.out _).mono ?_
          rintro e w2 ⟨rfl, hb2⟩
          go_wp2_with fail
          go_ret
          exact ⟨⟨-1, rfl, .inl rfl⟩, hb.trans (hb2.mono hb.size)⟩
        · rw [if_neg hz] at HCC
          obtain ⟨q2, hq2⟩ : ∃ q2 : Int, q2 = q - ((x.1.length + x.2.1.length : Nat) : Int) := ⟨_, rfl⟩
          have hge : 0 ≤ q2 := by omega
          rw [← hq2] at HCC
          have HQ2 : Hid (q2 = left - (L.length : Int) - (wtG (L.take (k + 1)) : Int)) := by have h1 := HQ.out; have h2 := HST.out; show q2 = _; omega
          clear hz hq2
          go_wp2_with fail
          refine (HCC.out _).mono ?_
          rintro e w2 ⟨rfl, hb2⟩
          go_wp2_with fail
          go_roundw
          case rel => exact ⟨k + 1, by omega, by go_num, by rw [HQ2.out], by rw [← HQ2.out]; exact hge, hb.trans (hb2.mono hb.size)⟩
          case measure => simp [intOf]; omega
      · have hfull : wtG (L.take k) = wtG L := by rw [List.take_of_length_le (by omega)]
        rw [hfull] at hq0 ⊢
        clear hfull hwl
        go_wp2_with fail
        go_ret
        exact ⟨⟨_, rfl, .inr ⟨rfl, hq0⟩⟩, hb⟩

/-- A policy. -/
def PolV (n : ByteArray) (v : Value) : Value := .agg #[.string n, v]
set_option maxRecDepth 20000 in
set_option maxHeartbeats 1000000 in
theorem szPolicy_any (n : ByteArray) (v : Value) (L : List TgtT) (w : World) (hr : TgtRow w v L) (hx : Hid (∀ x ∈ L, x.1.length ≤ maxLen ∧ x.2.1.length ≤ maxLen)) (hn : n.size ≤ maxLen) :
    Calls Tryz.prog 9 #[PolV n v, .int .i64 1048576] w fun e w' => (∃ q : Int, e = .returned (.int .i64 q) ∧ (q = -1 ∨ (0 ≤ q ∧ q = 1048576 - (n.size : Int) - (L.length : Int) - (wtG L : Int)))) ∧ Below w.heap.size w w' := by
  unfold PolV
  unfold maxLen at hn
  obtain ⟨aa, ca, rfl, _, hca, _⟩ := id hr
  have HRA : Hid (∀ W, Below w.heap.size w W → TgtRow W (.slice aa L.length ca) L) := fun W hW => hr.kept hW
  clear hr
  by_cases hneg : 1048576 - (n.size : Int) < 0
  · go_enter Tryz.func9, Tryz.ntmps9
    go_wp2_with fail
    go_ret
    exact ⟨⟨-1, rfl, .inl rfl⟩, (Below.refl w.heap.size w).alloc (Nat.le_refl _) _⟩
  · have hpos : 0 ≤ 1048576 - (n.size : Int) := by omega
    have HSZ : Hid (∀ W, Below w.heap.size w W → Calls Tryz.prog 33 #[.slice aa L.length ca, .int .i64 (1048576 - (n.size : Int))] W fun e w' => (∃ q : Int, e = .returned (.int .i64 q) ∧ ((q = -1) ∨ (q = 1048576 - (n.size : Int) - (L.length : Int) - (wtG L : Int) ∧ 0 ≤ q))) ∧ Below W.heap.size W w') := fun W hW => szTargetS_any _ L _ W (HRA.out W hW) hx hpos (by omega)
    clear hneg
    go_enter Tryz.func9, Tryz.ntmps9
    go_wp2_with fail
    refine (HSZ.out _ ((Below.refl w.heap.size w).alloc (Nat.le_refl _) _)).mono ?_
    rintro e w1 ⟨⟨q1, rfl, hq1⟩, hb1⟩
    obtain ⟨_, hbw⟩ := tgt_below hb1
    rcases hq1 with rfl | ⟨hq1, hp1⟩
    · go_wp2_with fail
      go_ret
      exact ⟨⟨-1, rfl, .inl rfl⟩, hbw⟩
    · have HQ1 : Hid (q1 = 1048576 - (n.size : Int) - (L.length : Int) - (wtG L : Int)) := hq1
      clear hq1
      go_wp2_with fail
      go_ret
      exact ⟨⟨q1, rfl, .inr ⟨hp1, HQ1.out⟩⟩, hbw⟩

set_option maxRecDepth 20000 in
set_option maxHeartbeats 2000000 in
theorem toPolicy_any (n : ByteArray) (v : Value) (L : List TgtT) (w : World) (hr : TgtRow w v L) (hl : L.length ≤ 1048576) :
    Calls Tryz.prog 12 #[PolV n v] w fun e w' => (∃ g, e = .returned (PolV n (.slice (some ⟨g, 0, none⟩) L.length L.length)) ∧ w.heap.size ≤ g ∧ TgoRow w' g L) ∧ Below w.heap.size w w' := by
  unfold PolV
  obtain ⟨aa, ca, rfl, _, hca, _⟩ := id hr
  have HRA : Hid (∀ W, Below w.heap.size w W → TgtRow W (.slice aa L.length ca) L) := fun W hW => hr.kept hW
  clear hr
  go_enter Tryz.func12, Tryz.ntmps12
  go_wp2_with fail
  refine (toTargetS_any _ L _ (HRA.out _ ((((Below.refl w.heap.size w).alloc (Nat.le_refl _) _).alloc (by simp) _).alloc (by simp; omega) _)) hl).mono ?_
  rintro e w1 ⟨rfl, hq1, hb1⟩
  obtain ⟨hk1, hk2, hk3, hsz, hbw⟩ := tgt_below3 hb1
  have HK2 : Hid (w1.heap[w.heap.size + 1]? = some (.cells #[.string ByteArray.empty, .slice none 0 0] 34)) := hk2
  have HQ : Hid (TgoRow w1 (w.heap.size + 1 + 1 + 1) L) := by
    have h : TgoRow w1 (w.heap.size + 1 + 1 + 1) L := by simpa using hq1
    exact h
  obtain ⟨⟨d0, d1⟩, ⟨f0, f1⟩⟩ := pol_cells hk3
  obtain ⟨⟨r0, r1⟩, ⟨n0, n1⟩⟩ := pol_cells hk2
  clear hq1 hk1 hk2 hk3 hb1
  go_wp2_with fail
  (try simp only [Exit.inBlock, Exit.then])
  refine bodyPost_ret (results_cell_row rfl _ _ (w.heap.size + 1) 34 #[.string n, .slice (some ⟨w.heap.size + 1 + 1 + 1, 0, none⟩) L.length L.length] (0, 0) _ rfl ?_ Tryz.underlying34 rfl (by kernel_rfl)) rfl ⟨⟨w.heap.size + 1 + 1 + 1, rfl, by omega, ?_⟩, ?_⟩
  · exact put2p_heap (by rw [heap_setCell_other _ _ _ _ (show w.heap.size + 1 ≠ w.heap.size + 1 + 1 by omega)]; exact HK2.out)
  · exact put2p_far (HQ.out.far (by omega) _) (by omega)
  · exact put2p_below (hbw.setCell (p := ⟨w.heap.size + 1 + 1, 1, none⟩) (by show w.heap.size ≤ w.heap.size + 1 + 1; omega) _) (by omega) _ _

set_option maxRecDepth 20000 in
set_option maxHeartbeats 1000000 in
theorem eqPolicy_same (n : ByteArray) (v v2 : Value) (L : List TgtT) (w : World) (ha : TgtRow w v L) (ha2 : TgtRow w v2 L) :
    Calls Tryz.prog 15 #[PolV n v, PolV n v2] w fun e w' => e = .returned (.bool true) ∧ Below w.heap.size w w' := by
  unfold PolV
  obtain ⟨aa, ca, rfl, _, hca, _⟩ := id ha
  obtain ⟨aa2, ca2, rfl, _, hca2, _⟩ := id ha2
  have HRA : Hid (∀ W, Below w.heap.size w W → TgtRow W (.slice aa L.length ca) L ∧ TgtRow W (.slice aa2 L.length ca2) L) := fun W hW => ⟨ha.kept hW, ha2.kept hW⟩
  clear ha ha2
  go_enter Tryz.func15, Tryz.ntmps15
  go_wp2_with fail
  have hA := HRA.out _ (((Below.refl w.heap.size w).alloc (Nat.le_refl _) (.cells #[.string n, .slice aa L.length ca] 34)).alloc (by simp) (.cells #[.string n, .slice aa2 L.length ca2] 34))
  refine (eqTargetS_same _ _ L _ hA.1 hA.2).mono ?_
  rintro e w1 ⟨rfl, hb1⟩
  obtain ⟨_, _, hbw⟩ := tgt_below2 hb1
  go_wp2_with fail
  go_ret
  exact ⟨rfl, hbw⟩
end Go.Proofs.YtoanloballaclaaGreatDoor
