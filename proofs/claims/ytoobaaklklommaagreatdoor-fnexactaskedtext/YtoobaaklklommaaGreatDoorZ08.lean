import Derived.Test.YtoobaaklklommaaGreatDoorProg
import Derived.WalkKit
import Derived.WalkSpells
import Derived.WalkLawsBesides
import Derived.Handy
import Derived.Laws.Rows
import Derived.WalkSmall
namespace Go.Proofs.YtoobaaklklommaaGreatDoor
open Go.RowKit

/-- A world in which all blocks but some are as they were. -/
structure Kpt (w w' : World) (S : Nat → Prop) : Prop where
  os : w'.os = w.os
  tape : w'.tape = w.tape
  output : w'.output = w.output
  size : w.heap.size ≤ w'.heap.size
  block : ∀ k, k < w.heap.size → ¬ S k → w'.heap[k]? = w.heap[k]?
theorem Kpt.refl (w : World) (S : Nat → Prop) : Kpt w w S := ⟨rfl, rfl, rfl, Nat.le_refl _, fun _ _ _ => rfl⟩
theorem Kpt.trans {a b c : World} {S : Nat → Prop} (h : Kpt a b S) (k : Kpt b c S) : Kpt a c S :=
  ⟨k.os.trans h.os, k.tape.trans h.tape, k.output.trans h.output, Nat.le_trans h.size k.size, fun i hi hn => (k.block i (Nat.lt_of_lt_of_le hi h.size) hn).trans (h.block i hi hn)⟩
theorem Kpt.mono {a b : World} {S T : Nat → Prop} (h : Kpt a b S) (hs : ∀ k, k < a.heap.size → S k → T k) : Kpt a b T := ⟨h.os, h.tape, h.output, h.size, fun k hk hn => h.block k hk (fun s => hn (hs k hk s))⟩
theorem grown_kpt {a b : World} {row : Option Nat} (h : a.grownBy b row) : Kpt a b (fun k => row = some k) := ⟨h.os, h.tape, h.output, h.size, fun k hk hn => h.block k hk (fun e => hn e.symm)⟩
theorem below_kpt {a b : World} {B : Nat} (h : Below B a b) : Kpt a b (fun k => B ≤ k) := ⟨h.os, h.tape, h.output, h.size, fun k _ hn => h.block k (by omega)⟩
theorem below_kpt0 {a b : World} (h : Below a.heap.size a b) (S : Nat → Prop) : Kpt a b S := (below_kpt h).mono (fun k hk hs => by omega)
theorem Kpt.below {a b : World} {S : Nat → Prop} {B : Nat} (h : Kpt a b S) (hB : B ≤ a.heap.size) (hs : ∀ k, k < B → ¬ S k) : Below B a b := ⟨h.os, h.tape, h.output, h.size, fun k hk => h.block k (Nat.lt_of_lt_of_le hk hB) (hs k hk)⟩
theorem Kpt.cell {a b : World} {S : Nat → Prop} (h : Kpt a b S) {p : Addr} {u : Value} (hc : a.cell? p = some u) (hn : ¬ S p.block) : b.cell? p = some u :=
  (World.cell?_of_block (h.block p.block (World.block_lt_of_cell? a p hc) hn)).trans hc
theorem kpt_set (w : World) (g k : Nat) (u : Value) {S : Nat → Prop} (hs : S g) : Kpt w (w.setCell ⟨g, k, none⟩ u) S :=
  ⟨rfl, rfl, rfl, by simp, fun i hi hn => Below.heap_setCell w ⟨g, k, none⟩ u i (fun e => hn (by subst e; exact hs))⟩
theorem kpt_alloc (w : World) (o : Obj) (S : Nat → Prop) : Kpt w (w.alloc o) S := below_kpt0 ((Below.refl w.heap.size w).alloc (Nat.le_refl _) _) S

theorem own_kpt {a b : World} {S : Nat → Prop} {base : Nat} {e : TypeId} {sz : Nat} {v : Value} {n : Nat} {xs : List Value} (h : a.ownsRow base e sz v n xs) (hk : Kpt a b S) (hn : ∀ g, v.ownBlock = some g → ¬ S g) : b.ownsRow base e sz v n xs := by
  have h0 := h
  obtain ⟨hl, hh | ⟨g, cap, cur, rfl, hg2, hh, hr⟩⟩ := h
  · exact ⟨hl, .inl hh⟩
  · exact ⟨hl, .inr ⟨g, cap, cur, rfl, hg2, (hk.block g (h0.lt g rfl).2 (hn g rfl)).trans hh, hr⟩⟩
/-- Rows of unlike elements lie in unlike blocks. -/
theorem own_ne {w : World} {base base' : Nat} {e1 e2 : TypeId} {z1 z2 : Nat} {v1 v2 : Value} {n1 n2 : Nat} {x1 x2 : List Value} (hne : e1 ≠ e2) (h1 : w.ownsRow base e1 z1 v1 n1 x1) (h2 : w.ownsRow base' e2 z2 v2 n2 x2) : ∀ g, v1.ownBlock = some g → v2.ownBlock ≠ some g := by
  intro g hg1 hg2
  obtain ⟨_, ⟨rfl, _⟩ | ⟨a1, c1, k1, rfl, _, hh1, _⟩⟩ := h1
  · cases hg1
  · obtain ⟨_, ⟨rfl, _⟩ | ⟨a2, c2, k2, rfl, _, hh2, _⟩⟩ := h2
    · cases hg2
    · have q1 : a1 = g := Option.some.inj hg1
      have q2 : a2 = g := Option.some.inj hg2
      rw [q1] at hh1; rw [q2, hh1] at hh2
      cases hh2; exact hne rfl
theorem own_box {w : World} {base : Nat} {e t : TypeId} {z : Nat} {v : Value} {n : Nat} {xs : List Value} {pb : Nat} {cs : Array Value} {f : Nat × Nat} (h : w.ownsRow base e z v n xs) (hb : w.heap[pb]? = some (.cells cs t f)) (hne : e ≠ t) : v.ownBlock ≠ some pb := by
  intro hg
  obtain ⟨_, ⟨rfl, _⟩ | ⟨a1, c1, k1, rfl, _, hh1, _⟩⟩ := h
  · cases hg
  · have q1 : a1 = pb := Option.some.inj hg
    rw [q1, hb] at hh1
    cases hh1; exact hne rfl
theorem own_other {w w1 : World} {base : Nat} {e1 e2 : TypeId} {v1 v2 : Value} {n1 n2 : Nat} {x1 x2 : List Value} (hne : e1 ≠ e2) (h1 : w.ownsRow base e1 1 v1 n1 x1) (h2 : w.ownsRow base e2 1 v2 n2 x2) (hg : w.grownBy w1 v1.ownBlock) : w1.ownsRow base e2 1 v2 n2 x2 :=
  own_kpt h2 (grown_kpt hg) (fun g h => fun h3 => own_ne hne h1 h2 g h3 h)
theorem own_lt {w : World} {base : Nat} {e : TypeId} {z : Nat} {v : Value} {n : Nat} {xs : List Value} (h : w.ownsRow base e z v n xs) (g : Nat) (hg : v.ownBlock = some g) : base ≤ g ∧ g < w.heap.size := h.lt g hg
theorem own_slice {w : World} {base : Nat} {e : TypeId} {v : Value} {n : Nat} {xs : List Value} (h : w.ownsRow base e 1 v n xs) : ∃ a cap, v = .slice a n cap ∧ n ≤ cap ∧ cap ≤ 9223372036854775807 := by
  obtain ⟨_, ⟨rfl, rfl⟩ | ⟨g, cap, cur, rfl, _, _, hc, hm, _⟩⟩ := h
  · exact ⟨_, _, rfl, Nat.le_refl _, by omega⟩
  · exact ⟨_, _, rfl, hc, by unfold maxLen at hm; omega⟩

end Go.Proofs.YtoobaaklklommaaGreatDoor
