import Derived.Test.YtgfldenhhogpbaaGreatDoorProg
import Derived.WalkKit
import Derived.WalkSpells
import Derived.WalkLawsBesides
import Derived.Handy
import Derived.Laws.Rows
import Derived.WalkSmall
import Derived.Test.YtgfldenhhogpbaaGreatDoorZ41
import Derived.Laws.ResultCell
namespace Go.Proofs.YtgfldenhhogpbaaGreatDoor
open Go.RowKit

/-- A world in which all blocks but some are as they were. -/
structure Kpt (w w' : World) (S : Nat → Prop) : Prop where
  os : w'.os = w.os
  tape : w'.tape = w.tape
  output : w'.output = w.output
  size : w.heap.size ≤ w'.heap.size
  block : ∀ k, k < w.heap.size → ¬ S k → w'.heap[k]? = w.heap[k]?
theorem Kpt.refl (w : World) (S : Nat → Prop) : Kpt w w S := ⟨rfl, rfl, rfl, Nat.le_refl _, fun _ _ _ => rfl⟩
theorem Kpt.trans {a b c : World} {S : Nat → Prop} (h : Kpt a b S) (k : Kpt b c S) : Kpt a c S :=
  ⟨k.os.trans h.os, k.tape.trans h.tape, k.output.trans h.output, Nat.le_trans h.size k.size, fun i hi hn => (k.block i (Nat.lt_of_lt_of_le hi h.size) hn).trans (h.block i hi hn)⟩
theorem Kpt.mono {a b : World} {S T : Nat → Prop} (h : Kpt a b S) (hs : ∀ k, k < a.heap.size → S k → T k) : Kpt a b T := ⟨h.os, h.tape, h.output, h.size, fun k hk hn => h.block k hk (fun s => hn (hs k hk s))⟩
theorem grown_kpt {a b : World} {row : Option Nat} (h : a.grownBy b row) : Kpt a b (fun k => row = some k) := ⟨h.os, h.tape, h.output, h.size, fun k hk hn => h.block k hk (fun e => hn e.symm)⟩
theorem below_kpt {a b : World} {B : Nat} (h : Below B a b) : Kpt a b (fun k => B ≤ k) := ⟨h.os, h.tape, h.output, h.size, fun k _ hn => h.block k (by omega)⟩
theorem below_kpt0 {a b : World} (h : Below a.heap.size a b) (S : Nat → Prop) : Kpt a b S := (below_kpt h).mono (fun k hk hs => by omega)
theorem Kpt.below {a b : World} {S : Nat → Prop} {B : Nat} (h : Kpt a b S) (hB : B ≤ a.heap.size) (hs : ∀ k, k < B → ¬ S k) : Below B a b := ⟨h.os, h.tape, h.output, h.size, fun k hk => h.block k (Nat.lt_of_lt_of_le hk hB) (hs k hk)⟩
theorem Kpt.cell {a b : World} {S : Nat → Prop} (h : Kpt a b S) {p : Addr} {u : Value} (hc : a.cell? p = some u) (hn : ¬ S p.block) : b.cell? p = some u :=
  (World.cell?_of_block (h.block p.block (World.block_lt_of_cell? a p hc) hn)).trans hc
theorem kpt_set (w : World) (g k : Nat) (u : Value) {S : Nat → Prop} (hs : S g) : Kpt w (w.setCell ⟨g, k, none⟩ u) S :=
  ⟨rfl, rfl, rfl, by simp, fun i hi hn => Below.heap_setCell w ⟨g, k, none⟩ u i (fun e => hn (by subst e; exact hs))⟩
theorem kpt_alloc (w : World) (o : Obj) (S : Nat → Prop) : Kpt w (w.alloc o) S := below_kpt0 ((Below.refl w.heap.size w).alloc (Nat.le_refl _) _) S

theorem own_kpt {a b : World} {S : Nat → Prop} {base : Nat} {e : TypeId} {sz : Nat} {v : Value} {n : Nat} {xs : List Value} (h : a.ownsRow base e sz v n xs) (hk : Kpt a b S) (hn : ∀ g, v.ownBlock = some g → ¬ S g) : b.ownsRow base e sz v n xs := by
  have h0 := h
  obtain ⟨hl, hh | ⟨g, cap, cur, rfl, hg2, hh, hr⟩⟩ := h
  · exact ⟨hl, .inl hh⟩
  · exact ⟨hl, .inr ⟨g, cap, cur, rfl, hg2, (hk.block g (h0.lt g rfl).2 (hn g rfl)).trans hh, hr⟩⟩
/-- Rows of unlike elements lie in unlike blocks. -/
theorem own_ne {w : World} {base base' : Nat} {e1 e2 : TypeId} {z1 z2 : Nat} {v1 v2 : Value} {n1 n2 : Nat} {x1 x2 : List Value} (hne : e1 ≠ e2) (h1 : w.ownsRow base e1 z1 v1 n1 x1) (h2 : w.ownsRow base' e2 z2 v2 n2 x2) : ∀ g, v1.ownBlock = some g → v2.ownBlock ≠ some g := by
  intro g hg1 hg2
  obtain ⟨_, ⟨rfl, _⟩ | ⟨a1, c1, k1, rfl, _, hh1, _⟩⟩ := h1
  · cases hg1
  · obtain ⟨_, ⟨rfl, _⟩ | ⟨a2, c2, k2, rfl, _, hh2, _⟩⟩ := h2
    · cases hg2
    · have q1 : a1 = g := Option.some.inj hg1
      have q2 : a2 = g := Option.some.inj hg2
      rw [q1] at hh1; rw [q2, hh1] at hh2
      cases hh2; exact hne rfl
theorem own_box {w : World} {base : Nat} {e t : TypeId} {z : Nat} {v : Value} {n : Nat} {xs : List Value} {pb : Nat} {cs : Array Value} {f : Nat × Nat} (h : w.ownsRow base e z v n xs) (hb : w.heap[pb]? = some (.cells cs t f)) (hne : e ≠ t) : v.ownBlock ≠ some pb := by
  intro hg
  obtain ⟨_, ⟨rfl, _⟩ | ⟨a1, c1, k1, rfl, _, hh1, _⟩⟩ := h
  · cases hg
  · have q1 : a1 = pb := Option.some.inj hg
    rw [q1, hb] at hh1
    cases hh1; exact hne rfl
theorem own_other {w w1 : World} {base : Nat} {e1 e2 : TypeId} {v1 v2 : Value} {n1 n2 : Nat} {x1 x2 : List Value} (hne : e1 ≠ e2) (h1 : w.ownsRow base e1 1 v1 n1 x1) (h2 : w.ownsRow base e2 1 v2 n2 x2) (hg : w.grownBy w1 v1.ownBlock) : w1.ownsRow base e2 1 v2 n2 x2 :=
  own_kpt h2 (grown_kpt hg) (fun g h => fun h3 => own_ne hne h1 h2 g h3 h)
theorem own_lt {w : World} {base : Nat} {e : TypeId} {z : Nat} {v : Value} {n : Nat} {xs : List Value} (h : w.ownsRow base e z v n xs) (g : Nat) (hg : v.ownBlock = some g) : base ≤ g ∧ g < w.heap.size := h.lt g hg
theorem own_slice {w : World} {base : Nat} {e : TypeId} {v : Value} {n : Nat} {xs : List Value} (h : w.ownsRow base e 1 v n xs) : ∃ a cap, v = .slice a n cap ∧ n ≤ cap ∧ cap ≤ 9223372036854775807 := by
  obtain ⟨_, ⟨rfl, rfl⟩ | ⟨g, cap, cur, rfl, _, _, hc, hm, _⟩⟩ := h
  · exact ⟨_, _, rfl, Nat.le_refl _, by omega⟩
  · exact ⟨_, _, rfl, hc, by unfold maxLen at hm; omega⟩

end Go.Proofs.YtgfldenhhogpbaaGreatDoor

namespace Go.Proofs.YtgfldenhhogpbaaGreatDoor
open Go.RowKit

/-- A gap. -/
def GapV (o n : ByteArray) (v : Value) : Value := .agg #[.string o, .string n, v]
theorem gap_new (w : World) (o : Obj) : (w.alloc o).heap[w.heap.size]? = some o := by unfold World.alloc; simp
theorem gap_cells {W : World} {b : Nat} {v0 v1 v2 : Value} {t : TypeId} (h : W.heap[b]? = some (.cells #[v0, v1, v2] t)) :
    (W.cell? ⟨b, 0, none⟩ = some v0 ∧ W.cell? ⟨b, 1, none⟩ = some v1 ∧ W.cell? ⟨b, 2, none⟩ = some v2) ∧ (W.frozen? ⟨b, 0, none⟩ = false ∧ W.frozen? ⟨b, 1, none⟩ = false ∧ W.frozen? ⟨b, 2, none⟩ = false) := by
  refine ⟨⟨?_, ?_, ?_⟩, ⟨?_, ?_, ?_⟩⟩
  all_goals first
    | (unfold World.cell?; rw [h]; rfl)
    | (unfold World.frozen?; rw [h]; simp)
theorem gap_below {w W : World} {a b c : Value} {t : TypeId} (hb : Below (w.alloc (.cells #[a, b, c] t)).heap.size (w.alloc (.cells #[a, b, c] t)) W) :
    W.heap[w.heap.size]? = some (.cells #[a, b, c] t) ∧ Below w.heap.size w W :=
  ⟨(hb.block _ (by simp)).trans (gap_new _ _), ((Below.refl w.heap.size w).alloc (Nat.le_refl _) _).trans (hb.mono (by simp))⟩
theorem gap_below2 {w W : World} {a b : Array Value} {t1 t2 : TypeId} (hb : Below ((w.alloc (.cells a t1)).alloc (.cells b t2)).heap.size ((w.alloc (.cells a t1)).alloc (.cells b t2)) W) :
    W.heap[w.heap.size]? = some (.cells a t1) ∧ W.heap[w.heap.size + 1]? = some (.cells b t2) ∧ Below w.heap.size w W := by
  have hA : Below (w.alloc (.cells a t1)).heap.size (w.alloc (.cells a t1)) W := ((Below.refl _ _).alloc (Nat.le_refl _) _).trans (hb.mono (by simp))
  have h2 : ((w.alloc (.cells a t1)).alloc (.cells b t2)).heap[w.heap.size + 1]? = some (.cells b t2) := by
    have h := gap_new (w.alloc (.cells a t1)) (.cells b t2)
    simpa using h
  refine ⟨?_, ?_, ((Below.refl w.heap.size w).alloc (Nat.le_refl _) _).trans (hA.mono (by simp))⟩
  · rw [hA.block _ (by simp)]; exact gap_new _ _
  · rw [hb.block _ (by simp)]; exact h2

theorem gap_heap3 (w : World) (a b c : Obj) : (((w.alloc a).alloc b).alloc c).heap[w.heap.size + 1 + 1]? = some c := by
  have h := gap_new ((w.alloc a).alloc b) c
  simpa using h
theorem gap_box3 {w W : World} {a b c : Array Value} {t1 t2 t3 : TypeId} (hb : Below (((w.alloc (.cells a t1)).alloc (.cells b t2)).alloc (.cells c t3)).heap.size (((w.alloc (.cells a t1)).alloc (.cells b t2)).alloc (.cells c t3)) W) :
    (∀ j, W.cell? ⟨w.heap.size, j, none⟩ = a[j]?) ∧ (∀ j, W.cell? ⟨w.heap.size + 1 + 1, j, none⟩ = c[j]?) ∧ (∀ j, W.frozen? ⟨w.heap.size + 1 + 1, j, none⟩ = false) ∧ (∀ j, W.cell? ⟨w.heap.size + 1, j, none⟩ = b[j]?) ∧ (∀ j, W.frozen? ⟨w.heap.size + 1, j, none⟩ = false) ∧ w.heap.size + 1 + 1 < W.heap.size ∧ W.heap[w.heap.size + 1]? = some (.cells b t2) ∧ Below w.heap.size w W := by
  have hA : Below (w.alloc (.cells a t1)).heap.size (w.alloc (.cells a t1)) W := (((Below.refl _ _).alloc (Nat.le_refl _) _).alloc (by simp) _).trans (hb.mono (by simp))
  have hB : Below ((w.alloc (.cells a t1)).alloc (.cells b t2)).heap.size ((w.alloc (.cells a t1)).alloc (.cells b t2)) W := ((Below.refl _ _).alloc (Nat.le_refl _) _).trans (hb.mono (by simp))
  have h2 : ((w.alloc (.cells a t1)).alloc (.cells b t2)).heap[w.heap.size + 1]? = some (.cells b t2) := by
    have h := gap_new (w.alloc (.cells a t1)) (.cells b t2)
    simpa using h
  refine ⟨fun j => ?_, fun j => ?_, fun j => ?_, fun j => ?_, fun j => ?_, Nat.lt_of_lt_of_le (by simp) hb.size, by rw [hB.block _ (by simp)]; exact h2, ((Below.refl w.heap.size w).alloc (Nat.le_refl _) _).trans (hA.mono (by simp))⟩
  · rw [hA.cell (p := ⟨w.heap.size, j, none⟩) (by simp)]
    unfold World.cell?
    rw [gap_new]; rfl
  · rw [hb.cell (p := ⟨w.heap.size + 1 + 1, j, none⟩) (by simp)]
    unfold World.cell?
    rw [gap_heap3]; rfl
  · rw [hb.frozen (p := ⟨w.heap.size + 1 + 1, j, none⟩) (by simp)]
    unfold World.frozen?
    rw [gap_heap3]; simp
  · rw [hB.cell (p := ⟨w.heap.size + 1, j, none⟩) (by simp)]
    unfold World.cell?
    rw [h2]; rfl
  · rw [hB.frozen (p := ⟨w.heap.size + 1, j, none⟩) (by simp)]
    unfold World.frozen?
    rw [h2]; simp

def gput3 (w : World) (g : Nat) (v0 v1 v2 : Value) : World := ((w.setCell ⟨g, 0, none⟩ v0).setCell ⟨g, 1, none⟩ v1).setCell ⟨g, 2, none⟩ v2
theorem gput3_heap {w : World} {g : Nat} {t : TypeId} {v0 v1 v2 u0 u1 u2 : Value} (h : w.heap[g]? = some (.cells #[u0, u1, u2] t)) : (gput3 w g v0 v1 v2).heap[g]? = some (.cells #[v0, v1, v2] t) := by
  have e0 := heap_setCell_same _ _ 0 _ _ v0 h
  have e1 := heap_setCell_same _ _ 1 _ _ v1 e0
  have e2 := heap_setCell_same _ _ 2 _ _ v2 e1
  unfold gput3
  simpa using e2
theorem ZSRow.far {w : World} {g g' : Nat} {zs : List Int} (h : ZSRow w g zs) (hne : g' ≠ g) {k : Nat} (v : Value) : ZSRow (w.setCell ⟨g', k, none⟩ v) g zs := by
  refine ⟨by simpa using h.1, fun j hj => ⟨?_, by simpa using (h.2 j hj).2⟩⟩
  rw [World.cell?_setCell_other _ _ _ _ (show (⟨g', k, none⟩ : Addr) ≠ ⟨g, j, none⟩ by intro e; cases e; exact hne rfl)]
  exact (h.2 j hj).1
theorem gput3_far {w : World} {g g' : Nat} {v0 v1 v2 : Value} {L : List Int} (h : ZSRow w g L) (hne : g' ≠ g) : ZSRow (gput3 w g' v0 v1 v2) g L := ((h.far hne _).far hne _).far hne _
theorem gput3_below {B : Nat} {a w : World} (h : Below B a w) {g : Nat} (hg : B ≤ g) (v0 v1 v2 : Value) : Below B a (gput3 w g v0 v1 v2) :=
  ((h.setCell (p := ⟨g, 0, none⟩) hg _).setCell (p := ⟨g, 1, none⟩) hg _).setCell (p := ⟨g, 2, none⟩) hg _

end Go.Proofs.YtgfldenhhogpbaaGreatDoor
