import Derived.Test.YtjocegnhhhfbeaaGreatDoorZ35
import Derived.Test.YtjocegnhhhfbeaaGreatDoorZ08
import Derived.Test.YtjocegnhhhfbeaaGreatDoorZ25
import Derived.Laws.OwnMore
import Derived.Deep.Onto
import Derived.Test.YtjocegnhhhfbeaaGreatDoorZ14
import Derived.Test.YtjocegnhhhfbeaaGreatDoorZ28
import Derived.Test.YtjocegnhhhfbeaaGreatDoorZ26
import Derived.Laws.AppendOwn
import Derived.Deep.QuietTactic
import Derived.Deep.RegionHeld3
import Derived.Test.YtjocegnhhhfbeaaGreatDoorZ30
import Derived.Test.YtjocegnhhhfbeaaGreatDoorZ11
import Derived.Test.YtjocegnhhhfbeaaGreatDoorZ19
import Derived.Test.YtjocegnhhhfbeaaGreatDoorZ27
import Derived.Test.YtjocegnhhhfbeaaGreatDoorZ05
namespace Go.Proofs.YtjocegnhhhfbeaaGreatDoor
open Go.RowKit

/-- The cells of sets, one behind the other; the data of each lies where its slice says. -/
def scs (x : SetT × Value) : List Value := [.string ⟨x.1.1.toArray⟩, .int .i64 x.1.2.1, .int .i64 x.1.2.2.1, x.2]
def scells : List (SetT × Value) → List Value
  | [] => []
  | x :: r => scs x ++ scells r
theorem scells_length : ∀ L : List (SetT × Value), (scells L).length = L.length * 4
  | [] => rfl
  | x :: r => by rw [scells, List.length_append, scells_length r, List.length_cons]; simp only [scs, List.length_cons, List.length_nil]; omega
theorem scells_app : ∀ A B : List (SetT × Value), scells (A ++ B) = scells A ++ scells B
  | [], _ => rfl
  | x :: r, B => by rw [List.cons_append, scells, scells_app r B, scells, List.append_assoc]
theorem scells_one (x : SetT × Value) : scells [x] = scs x := by simp [scells]
theorem scells_get : ∀ (L : List (SetT × Value)) (j : Nat) (hj : j < L.length) (r : Nat), r < 4 → (scells L)[j * 4 + r]? = (scs L[j])[r]?
  | x :: l, 0, _, r, hr => by
    rw [scells, List.getElem?_append_left (by simp only [scs, List.length_cons, List.length_nil]; omega), Nat.zero_mul, Nat.zero_add]; rfl
  | x :: l, j + 1, hj, r, hr => by
    have ih := scells_get l j (by simpa using hj) r hr
    rw [scells, List.getElem?_append_right (by simp only [scs, List.length_cons, List.length_nil]; omega)]
    rw [show (j + 1) * 4 + r - (scs x).length = j * 4 + r by simp only [scs, List.length_cons, List.length_nil]; omega, ih]
    rfl
/-- The last one's data put elsewhere. -/
theorem scells_last (A : List (SetT × Value)) (x : SetT × Value) (v : Value) : (scells (A ++ [x])).set (A.length * 4 + 3) v = scells (A ++ [(x.1, v)]) := by
  rw [scells_app, scells_app, scells_one, scells_one, List.set_append_right _ _ (by rw [scells_length]; omega), scells_length, show A.length * 4 + 3 - A.length * 4 = 3 by omega]
  rfl
/-- The last one with one datum more: the cells are the same. -/
theorem scells_same (A : List (SetT × Value)) (s t : SetT) (v : Value) (h1 : s.1 = t.1) (h2 : s.2.1 = t.2.1) (h3 : s.2.2.1 = t.2.2.1) : scells (A ++ [(s, v)]) = scells (A ++ [(t, v)]) := by
  rw [scells_app, scells_app, scells_one, scells_one]
  unfold scs
  rw [h1, h2, h3]

theorem own_types {w : World} {b b' : Nat} {e e' : TypeId} {s s' n n' : Nat} {v v' : Value} {xs xs' : List Value} (h : w.ownsRow b e s v n xs) (h' : w.ownsRow b' e' s' v' n' xs') (hne : e ≠ e') : v.ownBlock = none ∨ v.ownBlock ≠ v'.ownBlock := by
  rcases h.2 with ⟨rfl, _⟩ | ⟨g, cap, cur, rfl, _, hg, _⟩
  · exact .inl rfl
  · refine .inr (fun e1 => ?_)
    rcases h'.2 with ⟨rfl, _⟩ | ⟨g', cap', cur', rfl, _, hg', _⟩
    · cases e1
    · have e2 : g = g' := by simpa [Value.ownBlock] using e1
      subst e2
      rw [hg] at hg'
      cases hg'
      exact hne rfl
theorem own_low {w : World} {b c : Nat} {e : TypeId} {s n : Nat} {v : Value} {xs : List Value} (h : w.ownsRow b e s v n xs) (hc : ∀ g, v.ownBlock = some g → c ≤ g) : w.ownsRow c e s v n xs := by
  refine ⟨h.1, ?_⟩
  rcases h.2 with h | ⟨g, cap, cur, rfl, hb, hr⟩
  · exact .inl h
  · exact .inr ⟨g, cap, cur, rfl, hc g rfl, hr⟩

/-- Sets that are being gathered: a row of the call's own, the data of each in a row of its own, each behind the ones ahead. -/
def Bld (W : World) (base : Nat) (v : Value) (DS : List (SetT × Value)) : Prop :=
  W.ownsRow base 55 4 v DS.length (scells DS) ∧ (∀ x ∈ DS, W.ownsRow base 9 1 x.2 x.1.2.2.2.length (x.1.2.2.2.map S) ∧ ∃ g, x.2.ownBlock = some g) ∧ DS.Pairwise (fun x y => ∀ g h, x.2.ownBlock = some g → y.2.ownBlock = some h → g < h)
theorem Bld.nil (W : World) (base : Nat) : Bld W base (.slice none 0 0) [] := by
  refine ⟨World.ownsRow_nil _ _ _ _, ?_, List.Pairwise.nil⟩
  intro x hx
  simp at hx
theorem Bld.kept {W W' : World} {base : Nat} {v : Value} {DS : List (SetT × Value)} (h : Bld W base v DS) (hb : Below W.heap.size W W') : Bld W' base v DS :=
  ⟨own_below h.1 hb, fun x hx => ⟨own_below (h.2.1 x hx).1 hb, (h.2.1 x hx).2⟩, h.2.2⟩
theorem Bld.alloc {W : World} {base : Nat} {v : Value} {DS : List (SetT × Value)} (h : Bld W base v DS) (o : Obj) : Bld (W.alloc o) base v DS :=
  ⟨h.1.alloc o, fun x hx => ⟨(h.2.1 x hx).1.alloc o, (h.2.1 x hx).2⟩, h.2.2⟩
theorem Bld.data {W : World} {base : Nat} {v : Value} {DS : List (SetT × Value)} (h : Bld W base v DS) {x : SetT × Value} (hx : x ∈ DS) : ∃ g, x.2.ownBlock = some g ∧ base ≤ g ∧ g < W.heap.size := by
  obtain ⟨h1, g, hg⟩ := h.2.1 x hx
  exact ⟨g, hg, h1.lt g hg⟩
/-- The value of the row. -/
theorem Bld.shape {W : World} {base : Nat} {v : Value} {DS : List (SetT × Value)} (h : Bld W base v DS) : ∃ a cap, v = .slice a DS.length cap ∧ DS.length ≤ cap ∧ cap ≤ 9223372036854775807 := by
  rcases h.1.2 with ⟨rfl, hn⟩ | ⟨g, cap, cur, rfl, _, _, h1, h2, _⟩
  · exact ⟨none, 0, by rw [hn], by rw [hn]; exact Nat.le_refl _, by omega⟩
  · exact ⟨_, cap, rfl, h1, by unfold maxLen at h2; omega⟩
theorem Bld.form {W : World} {base : Nat} {v : Value} {DS : List (SetT × Value)} (h : Bld W base v DS) (hn : 0 < DS.length) : ∃ g cap, v = .slice (some ⟨g, 0, none⟩) DS.length cap ∧ DS.length ≤ cap ∧ cap ≤ 9223372036854775807 ∧ base ≤ g := by
  rcases h.1.2 with ⟨rfl, h0⟩ | ⟨g, cap, cur, rfl, hb, _, h1, h2, _⟩
  · omega
  · exact ⟨g, cap, rfl, h1, by unfold maxLen at h2; omega, hb⟩
/-- The cells of the last set. -/
theorem Bld.cells {W : World} {base g cap : Nat} {A : List (SetT × Value)} {x : SetT × Value} (h : Bld W base (.slice (some ⟨g, 0, none⟩) (A ++ [x]).length cap) (A ++ [x])) :
    (W.cell? ⟨g, A.length * 4, none⟩ = some (.string ⟨x.1.1.toArray⟩) ∧ W.cell? ⟨g, A.length * 4 + 1, none⟩ = some (.int .i64 x.1.2.1) ∧ W.cell? ⟨g, A.length * 4 + 2, none⟩ = some (.int .i64 x.1.2.2.1) ∧ W.cell? ⟨g, A.length * 4 + 3, none⟩ = some x.2) ∧ ∀ j, W.frozen? ⟨g, j, none⟩ = false := by
  have hl : A.length < (A ++ [x]).length := by simp
  have c : ∀ r, r < 4 → W.cell? ⟨g, A.length * 4 + r, none⟩ = (scs x)[r]? := fun r hr => by
    rw [h.1.cellAt (A.length * 4 + r) (by omega), scells_get _ A.length hl r hr]
    simp
  exact ⟨⟨c 0 (by omega), c 1 (by omega), c 2 (by omega), c 3 (by omega)⟩, fun j => h.1.frozenAt j⟩
/-- A bound between the data of the last set and those ahead. -/
theorem Bld.gap {W : World} {base : Nat} {v : Value} {A : List (SetT × Value)} {x : SetT × Value} (h : Bld W base v (A ++ [x])) :
    ∃ B, base ≤ B ∧ B ≤ W.heap.size ∧ (∀ y ∈ A, ∀ g, y.2.ownBlock = some g → g < B) ∧ W.ownsRow B 9 1 x.2 x.1.2.2.2.length (x.1.2.2.2.map S) := by
  obtain ⟨g, hg, h1, h2⟩ := h.data (x := x) (by simp)
  refine ⟨g, h1, Nat.le_of_lt h2, fun y hy k hk => ?_, own_low (h.2.1 x (by simp)).1 (fun k hk => by rw [hg] at hk; cases hk; exact Nat.le_refl _)⟩
  exact (List.pairwise_append.1 h.2.2).2.2 y hy x (by simp) k g hk hg
/-- A set of its own for a record. -/
theorem Bld.add {W W' : World} {base t : Nat} {v v' : Value} {DS : List (SetT × Value)} (h : Bld W base v DS) (s : SetT) (d : List UInt8) (hs : s.2.2.2 = [d]) (ht : ∀ x ∈ DS, ∀ g, x.2.ownBlock = some g → g < t) (ht2 : W.ownsRow base 9 1 (.slice (some ⟨t, 0, none⟩) 1 1) 1 [S d])
    (ho : W'.ownsRow base 55 4 v' (DS.length + 1) (scells DS ++ scs (s, .slice (some ⟨t, 0, none⟩) 1 1))) (hg : W.grownBy W' v.ownBlock) : Bld W' base v' (DS ++ [(s, .slice (some ⟨t, 0, none⟩) 1 1)]) := by
  refine ⟨?_, fun x hx => ?_, ?_⟩
  · rw [scells_app, scells_one, List.length_append]; exact ho
  · rcases List.mem_append.1 hx with hx | hx
    · obtain ⟨h1, h2⟩ := h.2.1 x hx
      exact ⟨h1.kept hg (own_types h1 h.1 (by decide)), h2⟩
    · obtain rfl : x = (s, .slice (some ⟨t, 0, none⟩) 1 1) := by simpa using hx
      refine ⟨?_, t, rfl⟩
      have h1 := ht2.kept hg (own_types ht2 h.1 (by decide))
      simp only [hs]
      exact h1
  · rw [List.pairwise_append]
    refine ⟨h.2.2, List.pairwise_singleton _ _, fun x hx y hy g k hgx hky => ?_⟩
    obtain rfl : y = (s, .slice (some ⟨t, 0, none⟩) 1 1) := by simpa using hy
    cases hky
    exact ht x hx g hgx
/-- A datum more in the last set. -/
theorem Bld.more {W W' : World} {base g cap B : Nat} {A : List (SetT × Value)} {x : SetT × Value} {r : List UInt8 × Int × Int × List UInt8} {dv : Value} (h : Bld W base (.slice (some ⟨g, 0, none⟩) (A ++ [x]).length cap) (A ++ [x])) (hB : base ≤ B) (hA : ∀ y ∈ A, ∀ k, y.2.ownBlock = some k → k < B)
    (ho : W'.ownsRow B 9 1 dv (x.1.2.2.2.length + 1) (x.1.2.2.2.map S ++ [S r.2.2.2])) (hg : W.grownBy W' x.2.ownBlock) :
    Bld (W'.setCell ⟨g, A.length * 4 + 3, none⟩ dv) base (.slice (some ⟨g, 0, none⟩) (A ++ [(addT x.1 r, dv)]).length cap) (A ++ [(addT x.1 r, dv)]) ∧ W'.grownBy (W'.setCell ⟨g, A.length * 4 + 3, none⟩ dv) (some g) := by
  obtain ⟨hx1, gx, hgx⟩ := h.2.1 x (by simp)
  have hl : (A ++ [(addT x.1 r, dv)]).length = (A ++ [x]).length := by simp
  have h1 : W'.ownsRow base 55 4 (.slice (some ⟨g, 0, none⟩) (A ++ [x]).length cap) (A ++ [x]).length (scells (A ++ [x])) := h.1.kept hg (own_types h.1 hx1 (by decide))
  obtain ⟨h2, h3⟩ := h1.stored (A.length * 4 + 3) dv
  have hdv : ∃ k, dv.ownBlock = some k := by
    rcases ho.2 with ⟨_, h0⟩ | ⟨k, _, _, rfl, _⟩
    · omega
    · exact ⟨k, rfl⟩
  have hset : ∀ {y : Value} {n : Nat} {xs : List Value} {b : Nat}, W'.ownsRow b 9 1 y n xs → (W'.setCell ⟨g, A.length * 4 + 3, none⟩ dv).ownsRow b 9 1 y n xs := fun {y n xs b} hy => hy.kept h3 (own_types hy h1 (by decide))
  refine ⟨⟨?_, fun y hy => ?_, ?_⟩, h3⟩
  · rw [hl]
    rw [scells_last, scells_same A x.1 (addT x.1 r) dv rfl rfl rfl] at h2
    exact h2
  · rcases List.mem_append.1 hy with hy | hy
    · obtain ⟨k1, k2⟩ := h.2.1 y (by simp [hy])
      refine ⟨hset (k1.kept hg (.inr (fun e => ?_))), k2⟩
      obtain ⟨k, hk⟩ := k2
      have := (List.pairwise_append.1 h.2.2).2.2 y hy x (by simp) k gx hk hgx
      rw [hk, hgx] at e
      cases e
      omega
    · obtain rfl : y = (addT x.1 r, dv) := by simpa using hy
      refine ⟨hset ?_, hdv⟩
      have h4 := own_low ho (c := base) (fun k hk => Nat.le_trans hB (ho.lt k hk).1)
      unfold addT
      simp only [List.length_append, List.length_cons, List.length_nil, List.map_append, List.map_cons, List.map_nil]
      exact h4
  · rw [List.pairwise_append]
    refine ⟨(List.pairwise_append.1 h.2.2).1, List.pairwise_singleton _ _, fun y hy z hz k m hk hm => ?_⟩
    obtain rfl : z = (addT x.1 r, dv) := by simpa using hz
    exact Nat.lt_of_lt_of_le (hA y hy k hk) (ho.lt m hm).1
end Go.Proofs.YtjocegnhhhfbeaaGreatDoor

namespace Go.Proofs.YtjocegnhhhfbeaaGreatDoor
open Go.RowKit

theorem info_set : (Tryz.prog.info? 55).map (fun i => (i.zero, i.size, i.bytes)) = some (some (.agg #[.string ByteArray.empty, .int .i64 0, .int .i64 0, .slice none 0 0]), 4, 56) := by kernel_rfl
theorem own_lit9 (W : World) (d : List UInt8) {base : Nat} (hb : base ≤ W.heap.size) : (W.alloc (.cells #[.string ⟨d.toArray⟩] 9)).ownsRow base 9 1 (.slice (some ⟨W.heap.size, 0, none⟩) 1 1) 1 [S d] :=
  World.ownsRow_lit W #[.string ⟨d.toArray⟩] 1 hb (by unfold maxLen; omega) rfl
theorem scs_one (x : SetT × Value) (h : x.2.oneCell' = true) : ∀ u ∈ scs x, u.oneCell' = true := by
  intro u hu
  simp only [scs, List.mem_cons, List.not_mem_nil, or_false] at hu
  rcases hu with rfl | rfl | rfl | rfl
  · rfl
  · rfl
  · rfl
  · exact h
theorem set_new (W : World) (x : SetT × Value) (n : Nat) (hn : n = W.heap.size) {t : TypeId} : ∀ j u, (scs x)[j]? = some u → (W.alloc (.cells #[.string ⟨x.1.1.toArray⟩, .int .i64 x.1.2.1, .int .i64 x.1.2.2.1, x.2] t)).cell? ((⟨n, 0, none⟩ : Addr).add j) = some u := by
  subst hn
  intro j u hu
  rw [add_off, Nat.zero_add]
  unfold World.cell?
  rw [blk_new]
  match j, hu with
  | 0, hu => cases hu; rfl
  | 1, hu => cases hu; rfl
  | 2, hu => cases hu; rfl
  | 3, hu => cases hu; rfl
theorem Bld.none {W : World} {base : Nat} {v : Value} (h : Bld W base v []) : ∃ a cap, v = .slice a 0 cap ∧ cap ≤ 9223372036854775807 := by
  obtain ⟨a, cap, h1, _, h3⟩ := h.shape
  exact ⟨a, cap, h1, h3⟩
theorem num_le40 (n : Nat) : decide ((n : Int) ≤ 40) = decide (n ≤ 40) := by
  rw [Bool.eq_iff_iff, decide_eq_true_eq, decide_eq_true_eq]; omega
/-- What is told of sets: none, or sets of the call's own. -/
def L3R (w' : World) (base : Nat) (o : Option (List SetT)) (e : Ending) : Prop := match o with
  | none => e = .returned (.tuple #[.slice none 0 0, .bool false])
  | some S => ∃ u DS, DS.map (fun x : SetT × Value => x.1) = S ∧ e = .returned (.tuple #[u, .bool (decide (S.length ≤ 40))]) ∧ Bld w' base u DS
end Go.Proofs.YtjocegnhhhfbeaaGreatDoor

namespace Go.Proofs.YtjocegnhhhfbeaaGreatDoor
open Go.RowKit

/-- What SetsOf tells: none, or sets of the call's own. -/
def SetsR (w' : World) (base : Nat) (o : Option (List SetT)) (e : Ending) : Prop := match o with
  | none => e = .returned (.tuple #[.slice none 0 0, .bool false])
  | some S => ∃ u DS, DS.map (fun x : SetT × Value => x.1) = S ∧ e = .returned (.tuple #[u, .bool true]) ∧ Bld w' base u DS
theorem setsO_bad {L : List (List UInt8 × Int × Int × List UInt8)} (h : aresB L = false) : setsO L = none := by
  unfold setsO
  rw [if_neg (fun k => by rw [h] at k; exact absurd k.2 (by simp))]
theorem setsO_many {L : List (List UInt8 × Int × Int × List UInt8)} (h : ¬ L.length ≤ 60) : setsO L = none := by
  unfold setsO
  rw [if_neg (fun k => h k.1)]
theorem setsO_none {L : List (List UInt8 × Int × Int × List UInt8)} (h : grpN (andQ [] L) (andQ [] L).length = none) : setsO L = none := by
  unfold setsO
  rw [h]
  split <;> rfl
theorem setsO_big {L : List (List UInt8 × Int × Int × List UInt8)} {S : List SetT} (h : grpN (andQ [] L) (andQ [] L).length = some S) (h2 : ¬ S.length ≤ 40) : setsO L = none := by
  unfold setsO
  rw [h]
  split
  · show (if S.length ≤ 40 then some S else none) = none
    rw [if_neg h2]
  · rfl
theorem setsO_some {L : List (List UInt8 × Int × Int × List UInt8)} {S : List SetT} (h0 : L.length ≤ 60) (h1 : aresB L = true) (h : grpN (andQ [] L) (andQ [] L).length = some S) (h2 : S.length ≤ 40) : setsO L = some S := by
  unfold setsO
  rw [if_pos ⟨h0, h1⟩, h]
  show (if S.length ≤ 40 then some S else none) = some S
  rw [if_pos h2]
end Go.Proofs.YtjocegnhhhfbeaaGreatDoor

namespace Go.Proofs.YtjocegnhhhfbeaaGreatDoor
open Go.RowKit

set_option maxRecDepth 20000 in
set_option maxHeartbeats 16000000 in
theorem l3Sets_any (v : Value) (R : List (List UInt8 × Int × Int × List UInt8)) (w : World) (hr : RRow w v R) (hl : R.length ≤ 1048576) :
    Calls Tryz.prog 22 #[v] w fun e w' => L3R w' w.heap.size (grpN R R.length) e ∧ Below w.heap.size w w' := by
  obtain ⟨a, cp, rfl, hcp, hmx, HROW⟩ := rrow_value hr
  clear hr
  go_enter Tryz.func22, Tryz.ntmps22
  go_wp2_with fail
  go_loopw [4, 10] (fun av i wr => ∃ (k : Nat) (vv : Value) (DS : List (SetT × Value)), k ≤ R.length ∧ i = .int .i64 (k : Int) ∧ vv = av ∧ Hid (grpN R k = some (DS.map (fun x => x.1))) ∧ Hid (Bld wr w.heap.size vv DS) ∧ Below w.heap.size w wr) (fun _ i _ => R.length - (intOf i).toNat)
  case atStart => exact ⟨0, _, [], Nat.zero_le _, rfl, rfl, rfl, Bld.nil _ _, Below.refl _ _⟩
  case round =>
    obtain ⟨k, vv, DS, hk, rfl, rfl, HN, HB, hb⟩ := hrel
    have HLEN : Hid (DS.length ≤ 1048576) := by
      have h := grpN_len HN.out
      rw [List.length_map] at h
      show DS.length ≤ 1048576
      omega
    by_cases hlt : k < R.length
    · obtain ⟨b, o, ha, hbl, hcel⟩ := HROW.out (by omega)
      rw [ha]
      have hcx := (hcel k hlt).kept hb
      have HNX : Hid (∀ S, grpN R k = some S → grpN R (k + 1) = grp S (R[k]'hlt)) := fun S h => grpN_next h hlt
      have HNN : Hid (grpN R (k + 1) = none → grpN R R.length = none) := fun h => by
        have h2 := grpN_none h (R.length - (k + 1))
        rw [show k + 1 + (R.length - (k + 1)) = R.length by omega] at h2
        exact h2
      obtain ⟨x, hxe⟩ : ∃ x, x = R[k]'hlt := ⟨_, rfl⟩
      rw [← hxe] at hcx HNX
      obtain ⟨xn, xt, xl, xd⟩ := x
      unfold RecAt at hcx
      obtain ⟨c0, c1, c2, c3⟩ := hcx
      simp only at c0 c1 c2 c3
      obtain ⟨W1, hW1⟩ : ∃ W1, W1 = wr.alloc (.cells #[.string ⟨xn.toArray⟩, .int .i64 xt, .int .i64 xl, .string ⟨xd.toArray⟩] 43) := ⟨_, rfl⟩
      have HW1 : Hid (wr.alloc (.cells #[.string ⟨xn.toArray⟩, .int .i64 xt, .int .i64 xl, .string ⟨xd.toArray⟩] 43) = W1) := hW1.symm
      have hbw1 : Below w.heap.size w W1 := by rw [hW1]; exact hb.alloc hb.size _
      have HB1 : Hid (Bld W1 w.heap.size vv DS) := by
        have h : Bld W1 w.heap.size vv DS := by rw [hW1]; exact HB.out.alloc _
        exact h
      have HX : Hid (∀ W, Below W1.heap.size W1 W → (W.cell? ⟨wr.heap.size, 0, none⟩ = some (.string ⟨xn.toArray⟩) ∧ W.cell? ⟨wr.heap.size, 1, none⟩ = some (.int .i64 xt) ∧ W.cell? ⟨wr.heap.size, 2, none⟩ = some (.int .i64 xl) ∧ W.cell? ⟨wr.heap.size, 3, none⟩ = some (.string ⟨xd.toArray⟩)) ∧ Below w.heap.size w W ∧ wr.heap.size < W.heap.size) := fun W hW => by
        have hz : wr.heap.size < W1.heap.size := by rw [hW1]; simp
        have h1 : W.heap[wr.heap.size]? = some (.cells #[.string ⟨xn.toArray⟩, .int .i64 xt, .int .i64 xl, .string ⟨xd.toArray⟩] 43) := (hW.block _ hz).trans (by rw [hW1]; exact blk_new _ _)
        exact ⟨rec4_cells h1, hbw1.trans (hW.mono hbw1.size), Nat.lt_of_lt_of_le hz hW.size⟩
      have hbd : Below W1.heap.size W1 W1.drew := (Below.refl _ _).drew
      have HGL : Hid (∀ q, vv.ownBlock = some q → q < wr.heap.size) := fun q hq => (HB.out.1.lt q hq).2
      have HDL : Hid (∀ x : SetT × Value, x ∈ DS → ∀ q, x.2.ownBlock = some q → q < wr.heap.size) := fun x hx q hq => ((HB.out.2.1 x hx).1.lt q hq).2
      have HDT : Hid (∀ x : SetT × Value, x ∈ DS → x.1.2.2.2.length ≤ 1048576) := fun x hx => by
        have h := grpN_data HN.out x.1 (List.mem_map.2 ⟨x, hx, rfl⟩)
        omega
      clear hcel hxe hW1 HB
      rcases List.eq_nil_or_concat DS with hD | ⟨A, y, hD⟩
      · subst hD
        obtain ⟨a0, cap, rfl, hc2⟩ := HB1.out.none
        go_wp2_with fail
        rw [HW1.out]
        clear c0 c1 c2 c3
        refine wp_region_quiet (C := fun W => Below W1.heap.size W1 W) (by kernel_rfl) (by kernel_rfl) hbd ?_
        refine wpQuiet_step (fun K hK => ?_)
        rw [if_pos (by rfl)]
        refine ⟨.int .i64 (-1), fun W hW => quiet_ok ?_, hK _ ?_⟩
        · skip
          go_simp
          all_goals (try omega)
        clear hK K
        simp only [Act.put, List.setIfInBounds_toArray, List.set_cons_succ, List.set_cons_zero]
        refine wpQuiet_step (fun K hK => ?_)
        rw [if_pos (by rfl)]
        refine ⟨.bool false, fun W hW => quiet_ok ?_, hK _ ?_⟩
        · skip
          go_simp
          all_goals (try omega)
        clear hK K
        simp only [Act.put, List.setIfInBounds_toArray, List.set_cons_succ, List.set_cons_zero]
        refine wpQuiet_step (fun K hK => ?_)
        rw [if_pos (by rfl)]
        refine ⟨.bool false, fun W hW => quiet_ok ?_, hK _ ?_⟩
        · skip
          go_simp
          all_goals (try omega)
        clear hK K
        simp only [Act.put, List.setIfInBounds_toArray, List.set_cons_succ, List.set_cons_zero]
        refine BigFrame.wpQuiet_skip (by first | kernel_rfl | rfl) ?_
        simp only [Act.put, List.setIfInBounds_toArray, List.set_cons_succ, List.set_cons_zero]
        refine BigFrame.wpQuiet_skip (by first | kernel_rfl | rfl) ?_
        simp only [Act.put, List.setIfInBounds_toArray, List.set_cons_succ, List.set_cons_zero]
        refine BigFrame.wpQuiet_skip (by first | kernel_rfl | rfl) ?_
        simp only [Act.put, List.setIfInBounds_toArray, List.set_cons_succ, List.set_cons_zero]
        refine BigFrame.wpQuiet_skip (by first | kernel_rfl | rfl) ?_
        simp only [Act.put, List.setIfInBounds_toArray, List.set_cons_succ, List.set_cons_zero]
        refine BigFrame.wpQuiet_skip (by first | kernel_rfl | rfl) ?_
        simp only [Act.put, List.setIfInBounds_toArray, List.set_cons_succ, List.set_cons_zero]
        refine BigFrame.wpQuiet_skip (by first | kernel_rfl | rfl) ?_
        simp only [Act.put, List.setIfInBounds_toArray, List.set_cons_succ, List.set_cons_zero]
        refine BigFrame.wpQuiet_skip (by first | kernel_rfl | rfl) ?_
        simp only [Act.put, List.setIfInBounds_toArray, List.set_cons_succ, List.set_cons_zero]
        refine BigFrame.wpQuiet_skip (by first | kernel_rfl | rfl) ?_
        simp only [Act.put, List.setIfInBounds_toArray, List.set_cons_succ, List.set_cons_zero]
        refine wpQuiet_step (fun K hK => ?_)
        rw [if_pos (by rfl)]
        refine ⟨.bool false, fun W hW => quiet_ok ?_, hK _ ?_⟩
        · skip
          go_simp
          all_goals (try omega)
        clear hK K
        simp only [Act.put, List.setIfInBounds_toArray, List.set_cons_succ, List.set_cons_zero]
        refine wpQuiet_step (fun K hK => ?_)
        rw [if_pos (by rfl)]
        refine ⟨.bool false, fun W hW => quiet_ok ?_, hK _ ?_⟩
        · skip
          go_simp
          all_goals (try omega)
        clear hK K
        simp only [Act.put, List.setIfInBounds_toArray, List.set_cons_succ, List.set_cons_zero]
        refine BigFrame.wpQuiet_skip (by first | kernel_rfl | rfl) ?_
        simp only [Act.put, List.setIfInBounds_toArray, List.set_cons_succ, List.set_cons_zero]
        refine BigFrame.wpQuiet_skip (by first | kernel_rfl | rfl) ?_
        simp only [Act.put, List.setIfInBounds_toArray, List.set_cons_succ, List.set_cons_zero]
        refine BigFrame.wpQuiet_skip (by first | kernel_rfl | rfl) ?_
        simp only [Act.put, List.setIfInBounds_toArray, List.set_cons_succ, List.set_cons_zero]
        refine BigFrame.wpQuiet_skip (by first | kernel_rfl | rfl) ?_
        simp only [Act.put, List.setIfInBounds_toArray, List.set_cons_succ, List.set_cons_zero]
        refine BigFrame.wpQuiet_skip (by first | kernel_rfl | rfl) ?_
        simp only [Act.put, List.setIfInBounds_toArray, List.set_cons_succ, List.set_cons_zero]
        refine BigFrame.wpQuiet_skip (by first | kernel_rfl | rfl) ?_
        simp only [Act.put, List.setIfInBounds_toArray, List.set_cons_succ, List.set_cons_zero]
        refine BigFrame.wpQuiet_skip (by first | kernel_rfl | rfl) ?_
        simp only [Act.put, List.setIfInBounds_toArray, List.set_cons_succ, List.set_cons_zero]
        refine BigFrame.wpQuiet_skip (by first | kernel_rfl | rfl) ?_
        simp only [Act.put, List.setIfInBounds_toArray, List.set_cons_succ, List.set_cons_zero]
        refine wpQuiet_step (fun K hK => ?_)
        rw [if_pos (by rfl)]
        refine ⟨.bool false, fun W hW => quiet_ok ?_, hK _ ?_⟩
        · skip
          go_simp
          all_goals (try omega)
        clear hK K
        simp only [Act.put, List.setIfInBounds_toArray, List.set_cons_succ, List.set_cons_zero]
        refine wpQuiet_nil ?_
        intro W hW
        obtain ⟨⟨m0, m1, m2, m3⟩, hbwW, hzW⟩ := HX.out W hW
        have HBW : Hid (Bld W w.heap.size (.slice a0 0 cap) []) := HB1.out.kept hW
        have HN2 : Hid (grpN R (k + 1) = some ([] ++ [newT (xn, xt, xl, xd)])) := (HNX.out _ HN.out).trans (grp_nil _)
        have HT0 : Hid (∀ x : SetT × Value, x ∈ [] → ∀ q, x.2.ownBlock = some q → q < W.heap.size) := fun x hx q hq => by
          obtain ⟨q2, h1, _, h3⟩ := HBW.out.data hx
          rw [hq] at h1
          cases h1
          exact h3
        have hlen : ([]).length ≤ 1048576 := HLEN.out
        have hWz := hbwW.size
        obtain ⟨i0, hi, hz0, hz1, hz2⟩ := info_parts info_set
        go_wp2_with (first | (at_builtin; refine wpList_append_own _ rfl (.tmp 60) (.tmp 71) 24 rfl w.heap.size 55 i0 _ 4 56 Tryz.underlying24 hi hz0 hz1 hz2 rfl (by decide) _ _ _ rfl ((HBW.out.1.alloc _).alloc _) ⟨W.heap.size + 1, 0, none⟩ 1 1 (scs ((xn, xt, xl, [xd]), .slice (some ⟨W.heap.size, 0, none⟩) 1 1)) rfl rfl ?c1 ?c2 ?c3 ?c4 ?c5 ?_))
        case c1 => exact set_new (W.alloc (.cells #[.string ⟨xd.toArray⟩] 9)) _ _ (by simp)
        case c2 => exact scs_one _ rfl
        case c3 => unfold maxLen; omega
        case c4 => omega
        case c5 => simp; omega
        intro v4 w4 hown4 hgrow4 _
        have HB4 : Hid (Bld w4 w.heap.size v4 ([] ++ [((xn, xt, xl, [xd]), .slice (some ⟨W.heap.size, 0, none⟩) 1 1)])) := ((HBW.out.alloc _).alloc _).add (xn, xt, xl, [xd]) xd rfl HT0.out ((own_lit9 W xd (by omega)).alloc _) (by first | exact hown4 | (rw [List.length_append]; exact hown4)) hgrow4
        have hb4 : Below w.heap.size w w4 := ((hbwW.alloc hbwW.size _).alloc (by simp; omega) _).grown hgrow4 (by simp; omega) (fun j hj => (HBW.out.1.lt j hj).1)
        clear hown4 hgrow4 HBW
        go_wp2_with fail
        go_roundw
        case rel => exact ⟨k + 1, v4, _, by omega, by go_num, rfl, by rw [List.map_append]; exact HN2, HB4, hb4⟩
        case measure => simp [intOf]; omega
      · rw [List.concat_eq_append] at hD
        subst hD
        obtain ⟨⟨sn, st, sl, sd⟩, dv⟩ := y
        obtain ⟨g, cap, hvv, hc1, hc2, hg⟩ := HB1.out.form (by simp)
        obtain ⟨n, hn⟩ : ∃ n, n = (A ++ [((sn, st, sl, sd), dv)]).length := ⟨_, rfl⟩
        obtain ⟨m, hm⟩ : ∃ m, m = A.length := ⟨_, rfl⟩
        have hmn : m < n ∧ n ≤ m + 1 := by rw [hn, hm]; simp
        have HNM : Hid (n = (A ++ [((sn, st, sl, sd), dv)]).length) := hn
        have HMM : Hid (m = A.length) := hm
        rw [← hn] at hvv hc1
        subst hvv
        have hwm : IntKind.i64.wrap ((n : Int) - 1) = (m : Int) := by rw [wrap_small _ (by omega) (by omega)]; omega
        have HX2 : Hid (∀ W, Below W1.heap.size W1 W → (W.cell? ⟨wr.heap.size, 0, none⟩ = some (.string ⟨xn.toArray⟩) ∧ W.cell? ⟨wr.heap.size, 1, none⟩ = some (.int .i64 xt) ∧ W.cell? ⟨wr.heap.size, 2, none⟩ = some (.int .i64 xl) ∧ W.cell? ⟨wr.heap.size, 3, none⟩ = some (.string ⟨xd.toArray⟩)) ∧ ((W.cell? ⟨g, m * 4, none⟩ = some (.string ⟨sn.toArray⟩) ∧ W.cell? ⟨g, m * 4 + 1, none⟩ = some (.int .i64 st) ∧ W.cell? ⟨g, m * 4 + 2, none⟩ = some (.int .i64 sl) ∧ W.cell? ⟨g, m * 4 + 3, none⟩ = some dv) ∧ (∀ j, W.frozen? ⟨g, j, none⟩ = false)) ∧ Below w.heap.size w W ∧ wr.heap.size < W.heap.size) := fun W hW => by
          have h := HX.out W hW
          have h2 := HB1.out.kept hW
          rw [hn] at h2
          have h3 := h2.cells
          rw [← hm] at h3
          exact ⟨h.1, h3, h.2.1, h.2.2⟩
        clear hn hm HX
        go_wp2_with fail
        rw [HW1.out]
        clear c0 c1 c2 c3
        refine wp_region_quiet (C := fun W => Below W1.heap.size W1 W) (by kernel_rfl) (by kernel_rfl) hbd ?_
        refine wpQuiet_step (fun K hK => ?_)
        rw [if_pos (by rfl)]
        refine ⟨.int .i64 (m : Int), fun W hW => quiet_ok ?_, hK _ ?_⟩
        · have q := HX2.out W hW
          obtain ⟨⟨m0, m1, m2, m3⟩, ⟨⟨z0, z1, z2, z3⟩, _⟩, _⟩ := q
          go_simp
          all_goals (try omega)
        clear hK K
        simp only [Act.put, List.setIfInBounds_toArray, List.set_cons_succ, List.set_cons_zero]
        refine wpQuiet_step (fun K hK => ?_)
        rw [if_pos (by rfl)]
        refine ⟨.bool true, fun W hW => quiet_ok ?_, hK _ ?_⟩
        · have q := HX2.out W hW
          obtain ⟨⟨m0, m1, m2, m3⟩, ⟨⟨z0, z1, z2, z3⟩, _⟩, _⟩ := q
          go_simp
          all_goals (try omega)
        clear hK K
        simp only [Act.put, List.setIfInBounds_toArray, List.set_cons_succ, List.set_cons_zero]
        refine wpQuiet_step (fun K hK => ?_)
        rw [if_pos (by rfl)]
        refine ⟨.bool true, fun W hW => quiet_ok ?_, hK _ ?_⟩
        · have q := HX2.out W hW
          obtain ⟨⟨m0, m1, m2, m3⟩, ⟨⟨z0, z1, z2, z3⟩, _⟩, _⟩ := q
          go_simp
          all_goals (try omega)
        clear hK K
        simp only [Act.put, List.setIfInBounds_toArray, List.set_cons_succ, List.set_cons_zero]
        refine wpQuiet_step (fun K hK => ?_)
        rw [if_pos (by rfl)]
        refine ⟨.slice (some ⟨g, 0, none⟩) n cap, fun W hW => quiet_ok ?_, hK _ ?_⟩
        · have q := HX2.out W hW
          obtain ⟨⟨m0, m1, m2, m3⟩, ⟨⟨z0, z1, z2, z3⟩, _⟩, _⟩ := q
          go_simp
          all_goals (try omega)
        clear hK K
        simp only [Act.put, List.setIfInBounds_toArray, List.set_cons_succ, List.set_cons_zero]
        refine wpQuiet_step (fun K hK => ?_)
        rw [if_pos (by rfl)]
        refine ⟨.int .i64 (m : Int), fun W hW => quiet_ok ?_, hK _ ?_⟩
        · have q := HX2.out W hW
          obtain ⟨⟨m0, m1, m2, m3⟩, ⟨⟨z0, z1, z2, z3⟩, _⟩, _⟩ := q
          go_simp
          all_goals (try omega)
        clear hK K
        simp only [Act.put, List.setIfInBounds_toArray, List.set_cons_succ, List.set_cons_zero]
        refine wpQuiet_step (fun K hK => ?_)
        rw [if_pos (by rfl)]
        refine ⟨.pointer (some ⟨g, m * 4, none⟩), fun W hW => quiet_ok ?_, hK _ ?_⟩
        · have q := HX2.out W hW
          obtain ⟨⟨m0, m1, m2, m3⟩, ⟨⟨z0, z1, z2, z3⟩, _⟩, _⟩ := q
          go_simp
          all_goals (try omega)
        clear hK K
        simp only [Act.put, List.setIfInBounds_toArray, List.set_cons_succ, List.set_cons_zero]
        refine wpQuiet_step (fun K hK => ?_)
        rw [if_pos (by rfl)]
        refine ⟨.pointer (some ⟨g, m * 4, none⟩), fun W hW => quiet_ok ?_, hK _ ?_⟩
        · have q := HX2.out W hW
          obtain ⟨⟨m0, m1, m2, m3⟩, ⟨⟨z0, z1, z2, z3⟩, _⟩, _⟩ := q
          go_simp
          all_goals (try omega)
        clear hK K
        simp only [Act.put, List.setIfInBounds_toArray, List.set_cons_succ, List.set_cons_zero]
        refine wpQuiet_step (fun K hK => ?_)
        rw [if_pos (by rfl)]
        refine ⟨.string ⟨sn.toArray⟩, fun W hW => quiet_ok ?_, hK _ ?_⟩
        · have q := HX2.out W hW
          obtain ⟨⟨m0, m1, m2, m3⟩, ⟨⟨z0, z1, z2, z3⟩, _⟩, _⟩ := q
          go_simp
          all_goals (try omega)
        clear hK K
        simp only [Act.put, List.setIfInBounds_toArray, List.set_cons_succ, List.set_cons_zero]
        refine wpQuiet_step (fun K hK => ?_)
        rw [if_pos (by rfl)]
        refine ⟨.pointer (some ⟨wr.heap.size, 0, none⟩), fun W hW => quiet_ok ?_, hK _ ?_⟩
        · have q := HX2.out W hW
          obtain ⟨⟨m0, m1, m2, m3⟩, ⟨⟨z0, z1, z2, z3⟩, _⟩, _⟩ := q
          go_simp
          all_goals (try omega)
        clear hK K
        simp only [Act.put, List.setIfInBounds_toArray, List.set_cons_succ, List.set_cons_zero]
        refine wpQuiet_step (fun K hK => ?_)
        rw [if_pos (by rfl)]
        refine ⟨.string ⟨xn.toArray⟩, fun W hW => quiet_ok ?_, hK _ ?_⟩
        · have q := HX2.out W hW
          obtain ⟨⟨m0, m1, m2, m3⟩, ⟨⟨z0, z1, z2, z3⟩, _⟩, _⟩ := q
          go_simp
          all_goals (try omega)
        clear hK K
        simp only [Act.put, List.setIfInBounds_toArray, List.set_cons_succ, List.set_cons_zero]
        by_cases h1 : sn = xn
        · skip
          refine wpQuiet_step (fun K hK => ?_)
          rw [if_pos (by rfl)]
          refine ⟨.bool true, fun W hW => quiet_ok ?_, hK _ ?_⟩
          · have q := HX2.out W hW
            obtain ⟨⟨m0, m1, m2, m3⟩, ⟨⟨z0, z1, z2, z3⟩, _⟩, _⟩ := q
            go_simp
            all_goals (try omega)
          clear hK K
          simp only [Act.put, List.setIfInBounds_toArray, List.set_cons_succ, List.set_cons_zero]
          refine wpQuiet_step (fun K hK => ?_)
          rw [if_pos (by rfl)]
          refine ⟨.bool true, fun W hW => quiet_ok ?_, hK _ ?_⟩
          · have q := HX2.out W hW
            obtain ⟨⟨m0, m1, m2, m3⟩, ⟨⟨z0, z1, z2, z3⟩, _⟩, _⟩ := q
            go_simp
            all_goals (try omega)
          clear hK K
          simp only [Act.put, List.setIfInBounds_toArray, List.set_cons_succ, List.set_cons_zero]
          refine wpQuiet_step (fun K hK => ?_)
          rw [if_pos (by rfl)]
          refine ⟨.bool true, fun W hW => quiet_ok ?_, hK _ ?_⟩
          · have q := HX2.out W hW
            obtain ⟨⟨m0, m1, m2, m3⟩, ⟨⟨z0, z1, z2, z3⟩, _⟩, _⟩ := q
            go_simp
            all_goals (try omega)
          clear hK K
          simp only [Act.put, List.setIfInBounds_toArray, List.set_cons_succ, List.set_cons_zero]
          refine wpQuiet_step (fun K hK => ?_)
          rw [if_pos (by rfl)]
          refine ⟨.slice (some ⟨g, 0, none⟩) n cap, fun W hW => quiet_ok ?_, hK _ ?_⟩
          · have q := HX2.out W hW
            obtain ⟨⟨m0, m1, m2, m3⟩, ⟨⟨z0, z1, z2, z3⟩, _⟩, _⟩ := q
            go_simp
            all_goals (try omega)
          clear hK K
          simp only [Act.put, List.setIfInBounds_toArray, List.set_cons_succ, List.set_cons_zero]
          refine wpQuiet_step (fun K hK => ?_)
          rw [if_pos (by rfl)]
          refine ⟨.int .i64 (m : Int), fun W hW => quiet_ok ?_, hK _ ?_⟩
          · have q := HX2.out W hW
            obtain ⟨⟨m0, m1, m2, m3⟩, ⟨⟨z0, z1, z2, z3⟩, _⟩, _⟩ := q
            go_simp
            all_goals (try omega)
          clear hK K
          simp only [Act.put, List.setIfInBounds_toArray, List.set_cons_succ, List.set_cons_zero]
          refine wpQuiet_step (fun K hK => ?_)
          rw [if_pos (by rfl)]
          refine ⟨.pointer (some ⟨g, m * 4, none⟩), fun W hW => quiet_ok ?_, hK _ ?_⟩
          · have q := HX2.out W hW
            obtain ⟨⟨m0, m1, m2, m3⟩, ⟨⟨z0, z1, z2, z3⟩, _⟩, _⟩ := q
            go_simp
            all_goals (try omega)
          clear hK K
          simp only [Act.put, List.setIfInBounds_toArray, List.set_cons_succ, List.set_cons_zero]
          refine wpQuiet_step (fun K hK => ?_)
          rw [if_pos (by rfl)]
          refine ⟨.pointer (some ⟨g, m * 4 + 1, none⟩), fun W hW => quiet_ok ?_, hK _ ?_⟩
          · have q := HX2.out W hW
            obtain ⟨⟨m0, m1, m2, m3⟩, ⟨⟨z0, z1, z2, z3⟩, _⟩, _⟩ := q
            go_simp
            all_goals (try omega)
          clear hK K
          simp only [Act.put, List.setIfInBounds_toArray, List.set_cons_succ, List.set_cons_zero]
          refine wpQuiet_step (fun K hK => ?_)
          rw [if_pos (by rfl)]
          refine ⟨.int .i64 st, fun W hW => quiet_ok ?_, hK _ ?_⟩
          · have q := HX2.out W hW
            obtain ⟨⟨m0, m1, m2, m3⟩, ⟨⟨z0, z1, z2, z3⟩, _⟩, _⟩ := q
            go_simp
            all_goals (try omega)
          clear hK K
          simp only [Act.put, List.setIfInBounds_toArray, List.set_cons_succ, List.set_cons_zero]
          refine wpQuiet_step (fun K hK => ?_)
          rw [if_pos (by rfl)]
          refine ⟨.pointer (some ⟨wr.heap.size, 1, none⟩), fun W hW => quiet_ok ?_, hK _ ?_⟩
          · have q := HX2.out W hW
            obtain ⟨⟨m0, m1, m2, m3⟩, ⟨⟨z0, z1, z2, z3⟩, _⟩, _⟩ := q
            go_simp
            all_goals (try omega)
          clear hK K
          simp only [Act.put, List.setIfInBounds_toArray, List.set_cons_succ, List.set_cons_zero]
          refine wpQuiet_step (fun K hK => ?_)
          rw [if_pos (by rfl)]
          refine ⟨.int .i64 xt, fun W hW => quiet_ok ?_, hK _ ?_⟩
          · have q := HX2.out W hW
            obtain ⟨⟨m0, m1, m2, m3⟩, ⟨⟨z0, z1, z2, z3⟩, _⟩, _⟩ := q
            go_simp
            all_goals (try omega)
          clear hK K
          simp only [Act.put, List.setIfInBounds_toArray, List.set_cons_succ, List.set_cons_zero]
          by_cases h2 : st = xt
          · skip
            refine wpQuiet_step (fun K hK => ?_)
            rw [if_pos (by rfl)]
            refine ⟨.bool true, fun W hW => quiet_ok ?_, hK _ ?_⟩
            · have q := HX2.out W hW
              obtain ⟨⟨m0, m1, m2, m3⟩, ⟨⟨z0, z1, z2, z3⟩, _⟩, _⟩ := q
              go_simp
              all_goals (try omega)
            clear hK K
            simp only [Act.put, List.setIfInBounds_toArray, List.set_cons_succ, List.set_cons_zero]
            refine wpQuiet_step (fun K hK => ?_)
            rw [if_pos (by rfl)]
            refine ⟨.bool true, fun W hW => quiet_ok ?_, hK _ ?_⟩
            · have q := HX2.out W hW
              obtain ⟨⟨m0, m1, m2, m3⟩, ⟨⟨z0, z1, z2, z3⟩, _⟩, _⟩ := q
              go_simp
              all_goals (try omega)
            clear hK K
            simp only [Act.put, List.setIfInBounds_toArray, List.set_cons_succ, List.set_cons_zero]
            refine wpQuiet_nil ?_
            intro W hW
            subst h1
            subst h2
            have HXW : Hid (∀ X, Below W.heap.size W X → (X.cell? ⟨wr.heap.size, 0, none⟩ = some (.string ⟨sn.toArray⟩) ∧ X.cell? ⟨wr.heap.size, 1, none⟩ = some (.int .i64 st) ∧ X.cell? ⟨wr.heap.size, 2, none⟩ = some (.int .i64 xl) ∧ X.cell? ⟨wr.heap.size, 3, none⟩ = some (.string ⟨xd.toArray⟩)) ∧ ((X.cell? ⟨g, m * 4, none⟩ = some (.string ⟨sn.toArray⟩) ∧ X.cell? ⟨g, m * 4 + 1, none⟩ = some (.int .i64 st) ∧ X.cell? ⟨g, m * 4 + 2, none⟩ = some (.int .i64 sl) ∧ X.cell? ⟨g, m * 4 + 3, none⟩ = some dv) ∧ (∀ j, X.frozen? ⟨g, j, none⟩ = false)) ∧ Below w.heap.size w X ∧ wr.heap.size < X.heap.size) := fun X hX => HX2.out X (hW.trans (hX.mono hW.size))
            have hbdW : Below W.heap.size W W.drew := (Below.refl _ _).drew
            have HBW : Hid (Bld W w.heap.size (.slice (some ⟨g, 0, none⟩) n cap) (A ++ [((sn, st, sl, sd), dv)])) := HB1.out.kept hW
            have hQF := HXW.out W (Below.refl _ _)
            obtain ⟨⟨m0, m1, m2, m3⟩, ⟨⟨z0, z1, z2, z3⟩, _⟩, _⟩ := hQF
            clear HX2 HB1 hbd hbw1 HW1
            go_wp2_with fail
            clear m0 m1 m2 m3 z0 z1 z2 z3
            refine wp_region_quiet (C := fun X => Below W.heap.size W X) (by kernel_rfl) (by kernel_rfl) hbdW ?_
            by_cases h3 : sl = xl
            · subst h3
              refine wpQuiet_step (fun K hK => ?_)
              rw [if_pos (by rfl)]
              refine ⟨.slice (some ⟨g, 0, none⟩) n cap, fun W hW => quiet_ok ?_, hK _ ?_⟩
              · have q := HXW.out W hW
                obtain ⟨⟨m0, m1, m2, m3⟩, ⟨⟨z0, z1, z2, z3⟩, _⟩, _⟩ := q
                go_simp
                all_goals (try omega)
              clear hK K
              simp only [Act.put, List.setIfInBounds_toArray, List.set_cons_succ, List.set_cons_zero]
              refine wpQuiet_step (fun K hK => ?_)
              rw [if_pos (by rfl)]
              refine ⟨.int .i64 (m : Int), fun W hW => quiet_ok ?_, hK _ ?_⟩
              · have q := HXW.out W hW
                obtain ⟨⟨m0, m1, m2, m3⟩, ⟨⟨z0, z1, z2, z3⟩, _⟩, _⟩ := q
                go_simp
                all_goals (try omega)
              clear hK K
              simp only [Act.put, List.setIfInBounds_toArray, List.set_cons_succ, List.set_cons_zero]
              refine wpQuiet_step (fun K hK => ?_)
              rw [if_pos (by rfl)]
              refine ⟨.pointer (some ⟨g, m * 4, none⟩), fun W hW => quiet_ok ?_, hK _ ?_⟩
              · have q := HXW.out W hW
                obtain ⟨⟨m0, m1, m2, m3⟩, ⟨⟨z0, z1, z2, z3⟩, _⟩, _⟩ := q
                go_simp
                all_goals (try omega)
              clear hK K
              simp only [Act.put, List.setIfInBounds_toArray, List.set_cons_succ, List.set_cons_zero]
              refine wpQuiet_step (fun K hK => ?_)
              rw [if_pos (by rfl)]
              refine ⟨.pointer (some ⟨g, m * 4 + 2, none⟩), fun W hW => quiet_ok ?_, hK _ ?_⟩
              · have q := HXW.out W hW
                obtain ⟨⟨m0, m1, m2, m3⟩, ⟨⟨z0, z1, z2, z3⟩, _⟩, _⟩ := q
                go_simp
                all_goals (try omega)
              clear hK K
              simp only [Act.put, List.setIfInBounds_toArray, List.set_cons_succ, List.set_cons_zero]
              refine wpQuiet_step (fun K hK => ?_)
              rw [if_pos (by rfl)]
              refine ⟨.int .i64 sl, fun W hW => quiet_ok ?_, hK _ ?_⟩
              · have q := HXW.out W hW
                obtain ⟨⟨m0, m1, m2, m3⟩, ⟨⟨z0, z1, z2, z3⟩, _⟩, _⟩ := q
                go_simp
                all_goals (try omega)
              clear hK K
              simp only [Act.put, List.setIfInBounds_toArray, List.set_cons_succ, List.set_cons_zero]
              refine wpQuiet_step (fun K hK => ?_)
              rw [if_pos (by rfl)]
              refine ⟨.pointer (some ⟨wr.heap.size, 2, none⟩), fun W hW => quiet_ok ?_, hK _ ?_⟩
              · have q := HXW.out W hW
                obtain ⟨⟨m0, m1, m2, m3⟩, ⟨⟨z0, z1, z2, z3⟩, _⟩, _⟩ := q
                go_simp
                all_goals (try omega)
              clear hK K
              simp only [Act.put, List.setIfInBounds_toArray, List.set_cons_succ, List.set_cons_zero]
              refine wpQuiet_step (fun K hK => ?_)
              rw [if_pos (by rfl)]
              refine ⟨.int .i64 sl, fun W hW => quiet_ok ?_, hK _ ?_⟩
              · have q := HXW.out W hW
                obtain ⟨⟨m0, m1, m2, m3⟩, ⟨⟨z0, z1, z2, z3⟩, _⟩, _⟩ := q
                go_simp
                all_goals (try omega)
              clear hK K
              simp only [Act.put, List.setIfInBounds_toArray, List.set_cons_succ, List.set_cons_zero]
              refine wpQuiet_step (fun K hK => ?_)
              rw [if_pos (by rfl)]
              refine ⟨.bool false, fun W hW => quiet_ok ?_, hK _ ?_⟩
              · have q := HXW.out W hW
                obtain ⟨⟨m0, m1, m2, m3⟩, ⟨⟨z0, z1, z2, z3⟩, _⟩, _⟩ := q
                go_simp
                all_goals (try omega)
              clear hK K
              simp only [Act.put, List.setIfInBounds_toArray, List.set_cons_succ, List.set_cons_zero]
              refine wpQuiet_nil ?_
              intro W2 hW2
              have HB2 : Hid (Bld W2 w.heap.size (.slice (some ⟨g, 0, none⟩) n cap) (A ++ [((sn, st, sl, sd), dv)])) := HBW.out.kept hW2
              obtain ⟨Bd, hBd, hBW, hAB, hod⟩ := HB2.out.gap
              have HAB : Hid (∀ y ∈ A, ∀ q, y.2.ownBlock = some q → q < Bd) := hAB
              have HOD : Hid (W2.ownsRow Bd 9 1 dv sd.length (sd.map S)) := hod
              have HDB : Hid (∀ q, dv.ownBlock = some q → w.heap.size ≤ q) := fun q hq => Nat.le_trans hBd (HOD.out.lt q hq).1
              clear hAB hod
              obtain ⟨⟨m0, m1, m2, m3⟩, ⟨⟨z0, z1, z2, z3⟩, hfz⟩, hbw2, hz2⟩ := HXW.out W2 hW2
              have HSD : Hid (sd.length ≤ 1048576) := HDT.out _ (by simp : ((sn, st, sl, sd), dv) ∈ A ++ [((sn, st, sl, sd), dv)])
              have HDN : Hid (dv.ownBlock ≠ some wr.heap.size) := fun e => Nat.lt_irrefl _ (HDL.out _ (by simp : ((sn, st, sl, sd), dv) ∈ A ++ [((sn, st, sl, sd), dv)]) _ e)
              have hS0 : W2.drew.cell? ⟨wr.heap.size, 3, none⟩ = some (.string ⟨xd.toArray⟩) ∧ Below w.heap.size w W2.drew := ⟨m3, hbw2.drew⟩
              have hSB : (W2.drew.alloc (.cells #[.string ⟨xd.toArray⟩] 9)).cell? ⟨wr.heap.size, 3, none⟩ = some (.string ⟨xd.toArray⟩) ∧ Below w.heap.size w (W2.drew.alloc (.cells #[.string ⟨xd.toArray⟩] 9)) := ⟨(((Below.refl W2.heap.size W2).drew.alloc (Nat.le_refl _) _).cell (p := ⟨wr.heap.size, 3, none⟩) hz2).trans m3, hbw2.drew.alloc hbw2.size _⟩
              have hgz0 : g < W2.heap.size := World.block_lt_of_cell? _ _ z3
              have k3 : (W2.drew.alloc (.cells #[.string ⟨xd.toArray⟩] 9)).cell? ⟨g, m * 4 + 3, none⟩ = some dv := (((Below.refl W2.heap.size W2).drew.alloc (Nat.le_refl _) _).cell (p := ⟨g, m * 4 + 3, none⟩) hgz0).trans z3
              have k2 : W2.drew.cell? ⟨g, m * 4 + 3, none⟩ = some dv := z3
              clear m0 m1 m2 z0 z1 z2 hfz
              go_wp2_with fail
              refine wp_region_held_drew (S := fun X : World => X.cell? ⟨wr.heap.size, 3, none⟩ = some (.string ⟨xd.toArray⟩) ∧ Below w.heap.size w X) (by kernel_rfl) hS0 (fun hHeld => ?_)
              refine wpAnyH_take (i := 0) (v := .slice (some ⟨g, 0, none⟩) n cap) rfl (by kernel_rfl) (by kernel_rfl) (by kernel_rfl) (fun _ _ _ h => h) (Or.inl ⟨by rfl, ?_⟩) (by assumption) ?_
              · intro X hSX
                go_simp
              simp only [Act.put, List.getElem_toArray, List.getElem_cons_zero, List.setIfInBounds_toArray, List.set_cons_succ, List.set_cons_zero]
              refine wpAnyH_take (i := 1) (v := .int .i64 (m : Int)) rfl (by kernel_rfl) (by kernel_rfl) (by kernel_rfl) (fun _ _ _ h => h) (Or.inl ⟨by rfl, ?_⟩) (by assumption) ?_
              · intro X hSX
                go_simp
              simp only [Act.put, List.getElem_toArray, List.getElem_cons_succ, List.getElem_cons_zero, List.setIfInBounds_toArray, List.set_cons_succ, List.set_cons_zero]
              refine wpAnyH_take (i := 2) (v := .slice (some ⟨g, 0, none⟩) n cap) rfl (by kernel_rfl) (by kernel_rfl) (by kernel_rfl) (fun _ _ _ h => h) (Or.inl ⟨by rfl, ?_⟩) (by assumption) ?_
              · intro X hSX
                go_simp
              simp only [Act.put, List.getElem_toArray, List.getElem_cons_succ, List.getElem_cons_zero, List.setIfInBounds_toArray, List.set_cons_succ, List.set_cons_zero]
              refine wpAnyH_take (i := 3) (v := .int .i64 (m : Int)) rfl (by kernel_rfl) (by kernel_rfl) (by kernel_rfl) (fun _ _ _ h => h) (Or.inl ⟨by rfl, ?_⟩) (by assumption) ?_
              · intro X hSX
                go_simp
              simp only [Act.put, List.getElem_toArray, List.getElem_cons_succ, List.getElem_cons_zero, List.setIfInBounds_toArray, List.set_cons_succ, List.set_cons_zero]
              refine wpAnyH_take (i := 4) (v := .pointer (some ⟨g, m * 4, none⟩)) rfl (by kernel_rfl) (by kernel_rfl) (by kernel_rfl) (fun _ _ _ h => h) (Or.inl ⟨by rfl, ?_⟩) (by assumption) ?_
              · intro X hSX
                go_simp
              simp only [Act.put, List.getElem_toArray, List.getElem_cons_succ, List.getElem_cons_zero, List.setIfInBounds_toArray, List.set_cons_succ, List.set_cons_zero]
              refine wpAnyH_take (i := 5) (v := .pointer (some ⟨g, m * 4 + 3, none⟩)) rfl (by kernel_rfl) (by kernel_rfl) (by kernel_rfl) (fun _ _ _ h => h) (Or.inl ⟨by rfl, ?_⟩) (by assumption) ?_
              · intro X hSX
                go_simp
              simp only [Act.put, List.getElem_toArray, List.getElem_cons_succ, List.getElem_cons_zero, List.setIfInBounds_toArray, List.set_cons_succ, List.set_cons_zero]
              refine wpAnyH_take (i := 7) (v := .pointer (some ⟨wr.heap.size, 3, none⟩)) rfl (by kernel_rfl) (by kernel_rfl) (by kernel_rfl) (fun _ _ _ h => h) (Or.inl ⟨by rfl, ?_⟩) (by assumption) ?_
              · intro X hSX
                go_simp
              simp only [Act.put, List.getElem_toArray, List.getElem_cons_succ, List.getElem_cons_zero, List.setIfInBounds_toArray, List.set_cons_succ, List.set_cons_zero]
              refine wpAnyH_take (i := 8) (v := .string ⟨xd.toArray⟩) rfl (by kernel_rfl) (by kernel_rfl) (by kernel_rfl) (fun _ _ _ h => h) (Or.inl ⟨by rfl, ?_⟩) (by assumption) ?_
              · intro X hSX
                have q3 := hSX.1
                go_simp
              simp only [Act.put, List.getElem_toArray, List.getElem_cons_succ, List.getElem_cons_zero, List.setIfInBounds_toArray, List.set_cons_succ, List.set_cons_zero]
              refine wpAnyH_ready (rs := [6, 9]) (by kernel_rfl) (by simp) ?_
              refine AllReadyH.cons rfl (fun K hK => ?_) (AllReadyH.cons rfl (fun K hK => ?_) AllReadyH.nil)
              · rw [if_pos (by rfl)]
                go_simp
                refine hK.out _ _ hS0 (fun hSS => ?_)
                clear hK
                refine wpAnyH_ready (rs := [9]) (by kernel_rfl) (by simp) ?_
                refine AllReadyH.cons rfl (fun K hK => ?_) AllReadyH.nil
                rw [if_pos (by rfl)]
                go_simp
                refine hK.out _ _ hSB (fun hSS => ?_)
                clear hK
                refine wpAnyH_ready (rs := [10]) (by kernel_rfl) (by simp) ?_
                refine AllReadyH.cons rfl (fun K hK => ?_) AllReadyH.nil
                rw [if_pos (by rfl)]
                obtain ⟨i9, hi9, hz90, hz91, hz92⟩ := info_parts info_string
                have hsd := HSD.out
                refine wp_append_own _ (.tmp 53) (.tmp 56) 53 rfl Bd 9 i9 (.string ByteArray.empty) 1 16 Tryz.underlying53 hi9 hz90 hz91 hz92 rfl (by decide) dv sd.length (sd.map S) rfl ((World.ownsRow.drew HOD.out).alloc _) ⟨W2.heap.size, 0, none⟩ 1 1 [.string ⟨xd.toArray⟩] rfl rfl (cell_new_one W2.drew (.string ⟨xd.toArray⟩) 9) (one_string _) (by unfold maxLen; omega) (by omega) (by simp; omega) ?_
                intro v4 w4 hown4 hgr4 _
                obtain ⟨g4, cq4, rfl⟩ : ∃ g4 cq4, v4 = .slice (some ⟨g4, 0, none⟩) (sd.length + 1) cq4 := by
                  rcases hown4.2 with ⟨_, h0⟩ | ⟨q, c, _, h, _⟩
                  · omega
                  · exact ⟨q, c, h⟩
                have hgz := hgr4.size
                have hS4 : w4.cell? ⟨wr.heap.size, 3, none⟩ = some (.string ⟨xd.toArray⟩) ∧ Below w.heap.size w w4 := by
                  refine ⟨?_, hSB.2.grown hgr4 hSB.2.size (fun j hj => HDB.out j hj)⟩
                  rw [World.cell?_of_block (a := ⟨wr.heap.size, 3, none⟩) (hgr4.block wr.heap.size (by simp; omega) (fun e => HDN.out e.symm))]
                  exact hSB.1
                have hb3 := (HB2.out.kept ((Below.refl _ _).drew)).alloc (.cells #[.string ⟨xd.toArray⟩] 9)
                rw [HNM.out] at hb3
                have hrow4 := hb3.1.kept hgr4 (own_types hb3.1 (hb3.2.1 _ (by simp : ((sn, st, sl, sd), dv) ∈ A ++ [((sn, st, sl, sd), dv)])).1 (by decide))
                have s3 : w4.cell? ⟨g, m * 4 + 3, none⟩ = some dv := by
                  rw [HMM.out, hrow4.cellAt (A.length * 4 + 3) (by simp; omega), scells_get _ A.length (by simp) 3 (by omega)]
                  simp [scs]
                have f3 : w4.frozen? ⟨g, m * 4 + 3, none⟩ = false := hrow4.frozenAt _
                have hmore := (hb3.more (r := (sn, st, sl, xd)) hBd HAB.out hown4 hgr4).1
                rw [← HMM.out] at hmore
                have HB5 : Hid (Bld (w4.setCell ⟨g, m * 4 + 3, none⟩ (Value.slice (some ⟨g4, 0, none⟩) (sd.length + 1) cq4)) w.heap.size (.slice (some ⟨g, 0, none⟩) n cap) (A ++ [(addT (sn, st, sl, sd) (sn, st, sl, xd), (Value.slice (some ⟨g4, 0, none⟩) (sd.length + 1) cq4))])) := by
                  have e : (A ++ [(addT (sn, st, sl, sd) (sn, st, sl, xd), (Value.slice (some ⟨g4, 0, none⟩) (sd.length + 1) cq4))]).length = n := by rw [HNM.out]; simp
                  rw [e] at hmore
                  exact hmore
                have hS5 : (w4.setCell ⟨g, m * 4 + 3, none⟩ (Value.slice (some ⟨g4, 0, none⟩) (sd.length + 1) cq4)).cell? ⟨wr.heap.size, 3, none⟩ = some (.string ⟨xd.toArray⟩) ∧ Below w.heap.size w (w4.setCell ⟨g, m * 4 + 3, none⟩ (Value.slice (some ⟨g4, 0, none⟩) (sd.length + 1) cq4)) := by
                  refine ⟨?_, hS4.2.setCell (p := ⟨g, m * 4 + 3, none⟩) hg _⟩
                  rw [World.cell?_setCell_other _ _ _ _ (fun e => by injection e with e1; have := HGL.out g rfl; omega)]
                  exact hS4.1
                have HS5 : Hid (Below w.heap.size w (w4.setCell ⟨g, m * 4 + 3, none⟩ (Value.slice (some ⟨g4, 0, none⟩) (sd.length + 1) cq4))) := hS5.2
                clear hown4 hgr4 hb3 hrow4 hmore
                refine hK.out _ _ hS4 (fun hSS => ?_)
                clear hK
                refine wpAnyH_take (i := 11) (v := .pointer (some ⟨g, m * 4, none⟩)) rfl (by kernel_rfl) (by kernel_rfl) (by kernel_rfl) (fun _ _ _ h => h) (Or.inl ⟨by rfl, ?_⟩) (by assumption) ?_
                · intro X hSX
                  go_simp
                simp only [Act.put, List.getElem_toArray, List.getElem_cons_succ, List.getElem_cons_zero, List.setIfInBounds_toArray, List.set_cons_succ, List.set_cons_zero]
                refine wpAnyH_take (i := 12) (v := .pointer (some ⟨g, m * 4 + 3, none⟩)) rfl (by kernel_rfl) (by kernel_rfl) (by kernel_rfl) (fun _ _ _ h => h) (Or.inl ⟨by rfl, ?_⟩) (by assumption) ?_
                · intro X hSX
                  go_simp
                simp only [Act.put, List.getElem_toArray, List.getElem_cons_succ, List.getElem_cons_zero, List.setIfInBounds_toArray, List.set_cons_succ, List.set_cons_zero]
                refine wpAnyH_ready (rs := [13]) (by kernel_rfl) (by simp) ?_
                refine AllReadyH.cons rfl (fun K hK => ?_) AllReadyH.nil
                rw [if_pos (by rfl)]
                go_simp
                refine hK.out _ _ hS5 (fun hSS => ?_)
                clear hK s3 f3
                refine wpAnyH_done (by kernel_rfl) ?_ _
                have HN5 : Hid (grpN R (k + 1) = some ((A ++ [(addT (sn, st, sl, sd) (sn, st, sl, xd), (Value.slice (some ⟨g4, 0, none⟩) (sd.length + 1) cq4))]).map (fun x => x.1))) := (HNX.out _ HN.out).trans (by rw [List.map_append, List.map_append]; exact grp_add ⟨rfl, rfl⟩ rfl)
                clear hS4 hS5 hSS
                go_wp2_with fail
                go_roundw
                case rel => exact ⟨k + 1, _, _, by omega, by go_num, rfl, HN5, HB5, HS5.out⟩
                case measure => simp [intOf]; omega
              · rw [if_pos (by rfl)]
                go_simp
                refine hK.out _ _ hSB (fun hSS => ?_)
                clear hK
                refine wpAnyH_ready (rs := [6]) (by kernel_rfl) (by simp) ?_
                refine AllReadyH.cons rfl (fun K hK => ?_) AllReadyH.nil
                rw [if_pos (by rfl)]
                go_simp
                refine hK.out _ _ hSB (fun hSS => ?_)
                clear hK
                refine wpAnyH_ready (rs := [10]) (by kernel_rfl) (by simp) ?_
                refine AllReadyH.cons rfl (fun K hK => ?_) AllReadyH.nil
                rw [if_pos (by rfl)]
                obtain ⟨i9, hi9, hz90, hz91, hz92⟩ := info_parts info_string
                have hsd := HSD.out
                refine wp_append_own _ (.tmp 53) (.tmp 56) 53 rfl Bd 9 i9 (.string ByteArray.empty) 1 16 Tryz.underlying53 hi9 hz90 hz91 hz92 rfl (by decide) dv sd.length (sd.map S) rfl ((World.ownsRow.drew HOD.out).alloc _) ⟨W2.heap.size, 0, none⟩ 1 1 [.string ⟨xd.toArray⟩] rfl rfl (cell_new_one W2.drew (.string ⟨xd.toArray⟩) 9) (one_string _) (by unfold maxLen; omega) (by omega) (by simp; omega) ?_
                intro v4 w4 hown4 hgr4 _
                obtain ⟨g4, cq4, rfl⟩ : ∃ g4 cq4, v4 = .slice (some ⟨g4, 0, none⟩) (sd.length + 1) cq4 := by
                  rcases hown4.2 with ⟨_, h0⟩ | ⟨q, c, _, h, _⟩
                  · omega
                  · exact ⟨q, c, h⟩
                have hgz := hgr4.size
                have hS4 : w4.cell? ⟨wr.heap.size, 3, none⟩ = some (.string ⟨xd.toArray⟩) ∧ Below w.heap.size w w4 := by
                  refine ⟨?_, hSB.2.grown hgr4 hSB.2.size (fun j hj => HDB.out j hj)⟩
                  rw [World.cell?_of_block (a := ⟨wr.heap.size, 3, none⟩) (hgr4.block wr.heap.size (by simp; omega) (fun e => HDN.out e.symm))]
                  exact hSB.1
                have hb3 := (HB2.out.kept ((Below.refl _ _).drew)).alloc (.cells #[.string ⟨xd.toArray⟩] 9)
                rw [HNM.out] at hb3
                have hrow4 := hb3.1.kept hgr4 (own_types hb3.1 (hb3.2.1 _ (by simp : ((sn, st, sl, sd), dv) ∈ A ++ [((sn, st, sl, sd), dv)])).1 (by decide))
                have s3 : w4.cell? ⟨g, m * 4 + 3, none⟩ = some dv := by
                  rw [HMM.out, hrow4.cellAt (A.length * 4 + 3) (by simp; omega), scells_get _ A.length (by simp) 3 (by omega)]
                  simp [scs]
                have f3 : w4.frozen? ⟨g, m * 4 + 3, none⟩ = false := hrow4.frozenAt _
                have hmore := (hb3.more (r := (sn, st, sl, xd)) hBd HAB.out hown4 hgr4).1
                rw [← HMM.out] at hmore
                have HB5 : Hid (Bld (w4.setCell ⟨g, m * 4 + 3, none⟩ (Value.slice (some ⟨g4, 0, none⟩) (sd.length + 1) cq4)) w.heap.size (.slice (some ⟨g, 0, none⟩) n cap) (A ++ [(addT (sn, st, sl, sd) (sn, st, sl, xd), (Value.slice (some ⟨g4, 0, none⟩) (sd.length + 1) cq4))])) := by
                  have e : (A ++ [(addT (sn, st, sl, sd) (sn, st, sl, xd), (Value.slice (some ⟨g4, 0, none⟩) (sd.length + 1) cq4))]).length = n := by rw [HNM.out]; simp
                  rw [e] at hmore
                  exact hmore
                have hS5 : (w4.setCell ⟨g, m * 4 + 3, none⟩ (Value.slice (some ⟨g4, 0, none⟩) (sd.length + 1) cq4)).cell? ⟨wr.heap.size, 3, none⟩ = some (.string ⟨xd.toArray⟩) ∧ Below w.heap.size w (w4.setCell ⟨g, m * 4 + 3, none⟩ (Value.slice (some ⟨g4, 0, none⟩) (sd.length + 1) cq4)) := by
                  refine ⟨?_, hS4.2.setCell (p := ⟨g, m * 4 + 3, none⟩) hg _⟩
                  rw [World.cell?_setCell_other _ _ _ _ (fun e => by injection e with e1; have := HGL.out g rfl; omega)]
                  exact hS4.1
                have HS5 : Hid (Below w.heap.size w (w4.setCell ⟨g, m * 4 + 3, none⟩ (Value.slice (some ⟨g4, 0, none⟩) (sd.length + 1) cq4))) := hS5.2
                clear hown4 hgr4 hb3 hrow4 hmore
                refine hK.out _ _ hS4 (fun hSS => ?_)
                clear hK
                refine wpAnyH_take (i := 11) (v := .pointer (some ⟨g, m * 4, none⟩)) rfl (by kernel_rfl) (by kernel_rfl) (by kernel_rfl) (fun _ _ _ h => h) (Or.inl ⟨by rfl, ?_⟩) (by assumption) ?_
                · intro X hSX
                  go_simp
                simp only [Act.put, List.getElem_toArray, List.getElem_cons_succ, List.getElem_cons_zero, List.setIfInBounds_toArray, List.set_cons_succ, List.set_cons_zero]
                refine wpAnyH_take (i := 12) (v := .pointer (some ⟨g, m * 4 + 3, none⟩)) rfl (by kernel_rfl) (by kernel_rfl) (by kernel_rfl) (fun _ _ _ h => h) (Or.inl ⟨by rfl, ?_⟩) (by assumption) ?_
                · intro X hSX
                  go_simp
                simp only [Act.put, List.getElem_toArray, List.getElem_cons_succ, List.getElem_cons_zero, List.setIfInBounds_toArray, List.set_cons_succ, List.set_cons_zero]
                refine wpAnyH_ready (rs := [13]) (by kernel_rfl) (by simp) ?_
                refine AllReadyH.cons rfl (fun K hK => ?_) AllReadyH.nil
                rw [if_pos (by rfl)]
                go_simp
                refine hK.out _ _ hS5 (fun hSS => ?_)
                clear hK s3 f3
                refine wpAnyH_done (by kernel_rfl) ?_ _
                have HN5 : Hid (grpN R (k + 1) = some ((A ++ [(addT (sn, st, sl, sd) (sn, st, sl, xd), (Value.slice (some ⟨g4, 0, none⟩) (sd.length + 1) cq4))]).map (fun x => x.1))) := (HNX.out _ HN.out).trans (by rw [List.map_append, List.map_append]; exact grp_add ⟨rfl, rfl⟩ rfl)
                clear hS4 hS5 hSS
                go_wp2_with fail
                go_roundw
                case rel => exact ⟨k + 1, _, _, by omega, by go_num, rfl, HN5, HB5, HS5.out⟩
                case measure => simp [intOf]; omega
            · have e3 : (sl == xl) = false := by simpa using h3
              refine wpQuiet_step (fun K hK => ?_)
              rw [if_pos (by rfl)]
              refine ⟨.slice (some ⟨g, 0, none⟩) n cap, fun W hW => quiet_ok ?_, hK _ ?_⟩
              · have q := HXW.out W hW
                obtain ⟨⟨m0, m1, m2, m3⟩, ⟨⟨z0, z1, z2, z3⟩, _⟩, _⟩ := q
                go_simp
                all_goals (try omega)
              clear hK K
              simp only [Act.put, List.setIfInBounds_toArray, List.set_cons_succ, List.set_cons_zero]
              refine wpQuiet_step (fun K hK => ?_)
              rw [if_pos (by rfl)]
              refine ⟨.int .i64 (m : Int), fun W hW => quiet_ok ?_, hK _ ?_⟩
              · have q := HXW.out W hW
                obtain ⟨⟨m0, m1, m2, m3⟩, ⟨⟨z0, z1, z2, z3⟩, _⟩, _⟩ := q
                go_simp
                all_goals (try omega)
              clear hK K
              simp only [Act.put, List.setIfInBounds_toArray, List.set_cons_succ, List.set_cons_zero]
              refine wpQuiet_step (fun K hK => ?_)
              rw [if_pos (by rfl)]
              refine ⟨.pointer (some ⟨g, m * 4, none⟩), fun W hW => quiet_ok ?_, hK _ ?_⟩
              · have q := HXW.out W hW
                obtain ⟨⟨m0, m1, m2, m3⟩, ⟨⟨z0, z1, z2, z3⟩, _⟩, _⟩ := q
                go_simp
                all_goals (try omega)
              clear hK K
              simp only [Act.put, List.setIfInBounds_toArray, List.set_cons_succ, List.set_cons_zero]
              refine wpQuiet_step (fun K hK => ?_)
              rw [if_pos (by rfl)]
              refine ⟨.pointer (some ⟨g, m * 4 + 2, none⟩), fun W hW => quiet_ok ?_, hK _ ?_⟩
              · have q := HXW.out W hW
                obtain ⟨⟨m0, m1, m2, m3⟩, ⟨⟨z0, z1, z2, z3⟩, _⟩, _⟩ := q
                go_simp
                all_goals (try omega)
              clear hK K
              simp only [Act.put, List.setIfInBounds_toArray, List.set_cons_succ, List.set_cons_zero]
              refine wpQuiet_step (fun K hK => ?_)
              rw [if_pos (by rfl)]
              refine ⟨.int .i64 sl, fun W hW => quiet_ok ?_, hK _ ?_⟩
              · have q := HXW.out W hW
                obtain ⟨⟨m0, m1, m2, m3⟩, ⟨⟨z0, z1, z2, z3⟩, _⟩, _⟩ := q
                go_simp
                all_goals (try omega)
              clear hK K
              simp only [Act.put, List.setIfInBounds_toArray, List.set_cons_succ, List.set_cons_zero]
              refine wpQuiet_step (fun K hK => ?_)
              rw [if_pos (by rfl)]
              refine ⟨.pointer (some ⟨wr.heap.size, 2, none⟩), fun W hW => quiet_ok ?_, hK _ ?_⟩
              · have q := HXW.out W hW
                obtain ⟨⟨m0, m1, m2, m3⟩, ⟨⟨z0, z1, z2, z3⟩, _⟩, _⟩ := q
                go_simp
                all_goals (try omega)
              clear hK K
              simp only [Act.put, List.setIfInBounds_toArray, List.set_cons_succ, List.set_cons_zero]
              refine wpQuiet_step (fun K hK => ?_)
              rw [if_pos (by rfl)]
              refine ⟨.int .i64 xl, fun W hW => quiet_ok ?_, hK _ ?_⟩
              · have q := HXW.out W hW
                obtain ⟨⟨m0, m1, m2, m3⟩, ⟨⟨z0, z1, z2, z3⟩, _⟩, _⟩ := q
                go_simp
                all_goals (try omega)
              clear hK K
              simp only [Act.put, List.setIfInBounds_toArray, List.set_cons_succ, List.set_cons_zero]
              refine wpQuiet_step (fun K hK => ?_)
              rw [if_pos (by rfl)]
              refine ⟨.bool true, fun W hW => quiet_ok ?_, hK _ ?_⟩
              · have q := HXW.out W hW
                obtain ⟨⟨m0, m1, m2, m3⟩, ⟨⟨z0, z1, z2, z3⟩, _⟩, _⟩ := q
                go_simp
                all_goals (try omega)
              clear hK K
              simp only [Act.put, List.setIfInBounds_toArray, List.set_cons_succ, List.set_cons_zero]
              refine wpQuiet_nil ?_
              intro W2 hW2
              have HO : Hid (grpN R R.length = none) := HNN.out ((HNX.out _ HN.out).trans (by rw [List.map_append]; exact grp_off ⟨rfl, rfl⟩ h3))
              have hbw2 := (HXW.out W2 hW2).2.2.1
              go_wp2_with fail
              go_ret2
              exact ⟨by rw [HO.out]; rfl, hbw2⟩
          · subst h1
            have e2 : (st == xt) = false := by simpa using h2
            refine wpQuiet_step (fun K hK => ?_)
            rw [if_pos (by rfl)]
            refine ⟨.bool false, fun W hW => quiet_ok ?_, hK _ ?_⟩
            · have q := HX2.out W hW
              obtain ⟨⟨m0, m1, m2, m3⟩, ⟨⟨z0, z1, z2, z3⟩, _⟩, _⟩ := q
              go_simp
              all_goals (try omega)
            clear hK K
            simp only [Act.put, List.setIfInBounds_toArray, List.set_cons_succ, List.set_cons_zero]
            refine wpQuiet_step (fun K hK => ?_)
            rw [if_pos (by rfl)]
            refine ⟨.bool false, fun W hW => quiet_ok ?_, hK _ ?_⟩
            · have q := HX2.out W hW
              obtain ⟨⟨m0, m1, m2, m3⟩, ⟨⟨z0, z1, z2, z3⟩, _⟩, _⟩ := q
              go_simp
              all_goals (try omega)
            clear hK K
            simp only [Act.put, List.setIfInBounds_toArray, List.set_cons_succ, List.set_cons_zero]
            refine wpQuiet_nil ?_
            intro W hW
            obtain ⟨⟨m0, m1, m2, m3⟩, _, hbwW, hzW⟩ := HX2.out W hW
            have HBW : Hid (Bld W w.heap.size (.slice (some ⟨g, 0, none⟩) n cap) (A ++ [((sn, st, sl, sd), dv)])) := HB1.out.kept hW
            have HN2 : Hid (grpN R (k + 1) = some ((A ++ [((sn, st, sl, sd), dv)]).map (fun x => x.1) ++ [newT (sn, xt, xl, xd)])) := (HNX.out _ HN.out).trans (by rw [List.map_append]; exact grp_new (fun h => h2 h.2))
            have HT0 : Hid (∀ x : SetT × Value, x ∈ (A ++ [((sn, st, sl, sd), dv)]) → ∀ q, x.2.ownBlock = some q → q < W.heap.size) := fun x hx q hq => by
              obtain ⟨q2, h1, _, h3⟩ := HBW.out.data hx
              rw [hq] at h1
              cases h1
              exact h3
            have hlen : ((A ++ [((sn, st, sl, sd), dv)])).length ≤ 1048576 := HLEN.out
            have hWz := hbwW.size
            obtain ⟨i0, hi, hz0, hz1, hz2⟩ := info_parts info_set
            go_wp2_with (first | (at_builtin; refine wpList_append_own _ rfl (.tmp 60) (.tmp 71) 24 rfl w.heap.size 55 i0 _ 4 56 Tryz.underlying24 hi hz0 hz1 hz2 rfl (by decide) _ _ _ rfl ((HBW.out.1.alloc _).alloc _) ⟨W.heap.size + 1, 0, none⟩ 1 1 (scs ((sn, xt, xl, [xd]), .slice (some ⟨W.heap.size, 0, none⟩) 1 1)) rfl rfl ?c1 ?c2 ?c3 ?c4 ?c5 ?_))
            case c1 => exact set_new (W.alloc (.cells #[.string ⟨xd.toArray⟩] 9)) _ _ (by simp)
            case c2 => exact scs_one _ rfl
            case c3 => unfold maxLen; omega
            case c4 => omega
            case c5 => simp; omega
            intro v4 w4 hown4 hgrow4 _
            have HB4 : Hid (Bld w4 w.heap.size v4 ((A ++ [((sn, st, sl, sd), dv)]) ++ [((sn, xt, xl, [xd]), .slice (some ⟨W.heap.size, 0, none⟩) 1 1)])) := ((HBW.out.alloc _).alloc _).add (sn, xt, xl, [xd]) xd rfl HT0.out ((own_lit9 W xd (by omega)).alloc _) (by first | exact hown4 | (rw [List.length_append]; exact hown4)) hgrow4
            have hb4 : Below w.heap.size w w4 := ((hbwW.alloc hbwW.size _).alloc (by simp; omega) _).grown hgrow4 (by simp; omega) (fun j hj => (HBW.out.1.lt j hj).1)
            clear hown4 hgrow4 HBW
            go_wp2_with fail
            go_roundw
            case rel => exact ⟨k + 1, v4, _, by omega, by go_num, rfl, by rw [List.map_append]; exact HN2, HB4, hb4⟩
            case measure => simp [intOf]; omega
        · have e1 : (sn == xn) = false := by simpa using h1
          refine wpQuiet_step (fun K hK => ?_)
          rw [if_pos (by rfl)]
          refine ⟨.bool false, fun W hW => quiet_ok ?_, hK _ ?_⟩
          · have q := HX2.out W hW
            obtain ⟨⟨m0, m1, m2, m3⟩, ⟨⟨z0, z1, z2, z3⟩, _⟩, _⟩ := q
            go_simp
            all_goals (try omega)
          clear hK K
          simp only [Act.put, List.setIfInBounds_toArray, List.set_cons_succ, List.set_cons_zero]
          refine wpQuiet_step (fun K hK => ?_)
          rw [if_pos (by rfl)]
          refine ⟨.bool false, fun W hW => quiet_ok ?_, hK _ ?_⟩
          · have q := HX2.out W hW
            obtain ⟨⟨m0, m1, m2, m3⟩, ⟨⟨z0, z1, z2, z3⟩, _⟩, _⟩ := q
            go_simp
            all_goals (try omega)
          clear hK K
          simp only [Act.put, List.setIfInBounds_toArray, List.set_cons_succ, List.set_cons_zero]
          refine wpQuiet_step (fun K hK => ?_)
          rw [if_pos (by rfl)]
          refine ⟨.bool false, fun W hW => quiet_ok ?_, hK _ ?_⟩
          · have q := HX2.out W hW
            obtain ⟨⟨m0, m1, m2, m3⟩, ⟨⟨z0, z1, z2, z3⟩, _⟩, _⟩ := q
            go_simp
            all_goals (try omega)
          clear hK K
          simp only [Act.put, List.setIfInBounds_toArray, List.set_cons_succ, List.set_cons_zero]
          refine BigFrame.wpQuiet_skip (by first | kernel_rfl | rfl) ?_
          simp only [Act.put, List.setIfInBounds_toArray, List.set_cons_succ, List.set_cons_zero]
          refine BigFrame.wpQuiet_skip (by first | kernel_rfl | rfl) ?_
          simp only [Act.put, List.setIfInBounds_toArray, List.set_cons_succ, List.set_cons_zero]
          refine BigFrame.wpQuiet_skip (by first | kernel_rfl | rfl) ?_
          simp only [Act.put, List.setIfInBounds_toArray, List.set_cons_succ, List.set_cons_zero]
          refine BigFrame.wpQuiet_skip (by first | kernel_rfl | rfl) ?_
          simp only [Act.put, List.setIfInBounds_toArray, List.set_cons_succ, List.set_cons_zero]
          refine BigFrame.wpQuiet_skip (by first | kernel_rfl | rfl) ?_
          simp only [Act.put, List.setIfInBounds_toArray, List.set_cons_succ, List.set_cons_zero]
          refine BigFrame.wpQuiet_skip (by first | kernel_rfl | rfl) ?_
          simp only [Act.put, List.setIfInBounds_toArray, List.set_cons_succ, List.set_cons_zero]
          refine BigFrame.wpQuiet_skip (by first | kernel_rfl | rfl) ?_
          simp only [Act.put, List.setIfInBounds_toArray, List.set_cons_succ, List.set_cons_zero]
          refine BigFrame.wpQuiet_skip (by first | kernel_rfl | rfl) ?_
          simp only [Act.put, List.setIfInBounds_toArray, List.set_cons_succ, List.set_cons_zero]
          refine wpQuiet_step (fun K hK => ?_)
          rw [if_pos (by rfl)]
          refine ⟨.bool false, fun W hW => quiet_ok ?_, hK _ ?_⟩
          · have q := HX2.out W hW
            obtain ⟨⟨m0, m1, m2, m3⟩, ⟨⟨z0, z1, z2, z3⟩, _⟩, _⟩ := q
            go_simp
            all_goals (try omega)
          clear hK K
          simp only [Act.put, List.setIfInBounds_toArray, List.set_cons_succ, List.set_cons_zero]
          refine wpQuiet_nil ?_
          intro W hW
          obtain ⟨⟨m0, m1, m2, m3⟩, _, hbwW, hzW⟩ := HX2.out W hW
          have HBW : Hid (Bld W w.heap.size (.slice (some ⟨g, 0, none⟩) n cap) (A ++ [((sn, st, sl, sd), dv)])) := HB1.out.kept hW
          have HN2 : Hid (grpN R (k + 1) = some ((A ++ [((sn, st, sl, sd), dv)]).map (fun x => x.1) ++ [newT (xn, xt, xl, xd)])) := (HNX.out _ HN.out).trans (by rw [List.map_append]; exact grp_new (fun h => h1 h.1))
          have HT0 : Hid (∀ x : SetT × Value, x ∈ (A ++ [((sn, st, sl, sd), dv)]) → ∀ q, x.2.ownBlock = some q → q < W.heap.size) := fun x hx q hq => by
            obtain ⟨q2, h1, _, h3⟩ := HBW.out.data hx
            rw [hq] at h1
            cases h1
            exact h3
          have hlen : ((A ++ [((sn, st, sl, sd), dv)])).length ≤ 1048576 := HLEN.out
          have hWz := hbwW.size
          obtain ⟨i0, hi, hz0, hz1, hz2⟩ := info_parts info_set
          go_wp2_with (first | (at_builtin; refine wpList_append_own _ rfl (.tmp 60) (.tmp 71) 24 rfl w.heap.size 55 i0 _ 4 56 Tryz.underlying24 hi hz0 hz1 hz2 rfl (by decide) _ _ _ rfl ((HBW.out.1.alloc _).alloc _) ⟨W.heap.size + 1, 0, none⟩ 1 1 (scs ((xn, xt, xl, [xd]), .slice (some ⟨W.heap.size, 0, none⟩) 1 1)) rfl rfl ?c1 ?c2 ?c3 ?c4 ?c5 ?_))
          case c1 => exact set_new (W.alloc (.cells #[.string ⟨xd.toArray⟩] 9)) _ _ (by simp)
          case c2 => exact scs_one _ rfl
          case c3 => unfold maxLen; omega
          case c4 => omega
          case c5 => simp; omega
          intro v4 w4 hown4 hgrow4 _
          have HB4 : Hid (Bld w4 w.heap.size v4 ((A ++ [((sn, st, sl, sd), dv)]) ++ [((xn, xt, xl, [xd]), .slice (some ⟨W.heap.size, 0, none⟩) 1 1)])) := ((HBW.out.alloc _).alloc _).add (xn, xt, xl, [xd]) xd rfl HT0.out ((own_lit9 W xd (by omega)).alloc _) (by first | exact hown4 | (rw [List.length_append]; exact hown4)) hgrow4
          have hb4 : Below w.heap.size w w4 := ((hbwW.alloc hbwW.size _).alloc (by simp; omega) _).grown hgrow4 (by simp; omega) (fun j hj => (HBW.out.1.lt j hj).1)
          clear hown4 hgrow4 HBW
          go_wp2_with fail
          go_roundw
          case rel => exact ⟨k + 1, v4, _, by omega, by go_num, rfl, by rw [List.map_append]; exact HN2, HB4, hb4⟩
          case measure => simp [intOf]; omega
    · have HF : Hid (grpN R R.length = some (DS.map (fun x => x.1))) := by
        have h := HN.out
        rw [show k = R.length by omega] at h
        exact h
      obtain ⟨a0, cap, rfl, hc1, hc2⟩ := HB.out.shape
      have HB2 : Hid (Bld wr w.heap.size (.slice a0 DS.length cap) DS) := HB
      obtain ⟨n, hn⟩ : ∃ n, n = DS.length := ⟨_, rfl⟩
      rw [← hn] at hc1 ⊢
      have HNL : Hid (n = DS.length) := hn
      clear hn
      go_wp2_with fail
      go_ret2
      refine ⟨?_, hb⟩
      rw [HF.out]
      refine ⟨.slice a0 n cap, DS, rfl, ?_, ?_⟩
      · rw [List.length_map, ← HNL.out, ← num_le40]; rfl
      · rw [HNL.out]; exact HB2.out
end Go.Proofs.YtjocegnhhhfbeaaGreatDoor

namespace Go.Proofs.YtjocegnhhhfbeaaGreatDoor
open Go.RowKit

set_option maxRecDepth 20000 in
set_option maxHeartbeats 8000000 in
theorem sSetsOf_any (v : Value) (L : List (List UInt8 × Int × Int × List UInt8)) (w : World) (hr : RRow w v L) (hl : L.length ≤ 1048576) (hx : Hid (∀ x ∈ L, x.1.length ≤ 1048576 ∧ x.2.2.2.length ≤ 1048576)) :
    Calls Tryz.prog 6 #[v] w fun e w' => SetsR w' w.heap.size (setsO L) e ∧ Below w.heap.size w w' := by
  obtain ⟨a, cp, rfl, hcp, hmx, HROW⟩ := rrow_value hr
  clear hr
  have HR0 : Hid (RRow w (.slice none 0 0) (andQ [] (L.take 0))) := by
    have h : RRow w (.slice none 0 0) (andQ [] (L.take 0)) := by simpa [andQ] using rrow_nil w
    exact h
  go_enter Tryz.func6, Tryz.ntmps6
  go_wp2_with fail
  go_loopw [4, 11] (fun av i wr => ∃ (k : Nat) (sv : Value), k ≤ L.length ∧ i = .int .i64 (k : Int) ∧ sv = av ∧ Hid (RRow wr sv (andQ [] (L.take k))) ∧ Hid (∀ n c, sv = .slice none n c → c = 0) ∧ Hid (∀ j, (hj : j < L.length) → j < k → recB L[j].1 L[j].2.1 L[j].2.2.1 L[j].2.2.2 = true) ∧ Below w.heap.size w wr) (fun _ i _ => L.length - (intOf i).toNat)
  case atStart => exact ⟨0, _, Nat.zero_le _, rfl, rfl, HR0, fun n c h => by cases h; rfl, fun j _ h => absurd h (Nat.not_lt_zero _), Below.refl _ _⟩
  case round =>
    obtain ⟨k, sv, hk, rfl, rfl, HR, HNL, HA, hb⟩ := hrel
    clear HR0
    by_cases hlt : k < L.length
    · obtain ⟨b, o, ha, hbl, hcel⟩ := HROW.out (by omega)
      rw [ha]
      have hcx := (hcel k hlt).kept hb
      have HBAD : Hid (recB (L[k]'hlt).1 (L[k]'hlt).2.1 (L[k]'hlt).2.2.1 (L[k]'hlt).2.2.2 = false → setsO L = none) := fun h => setsO_bad (aresB_bad k hlt h)
      have HUP : Hid (recB (L[k]'hlt).1 (L[k]'hlt).2.1 (L[k]'hlt).2.2.1 (L[k]'hlt).2.2.2 = true → ∀ j, (hj : j < L.length) → j < k + 1 → recB L[j].1 L[j].2.1 L[j].2.2.1 L[j].2.2.2 = true) := fun h j hj hj2 => by
        rcases Nat.lt_or_ge j k with h' | h'
        · exact HA.out j hj h'
        · obtain rfl : j = k := by omega
          exact h
      have HSN : Hid (andQ [] (L.take (k + 1)) = putQ (andQ [] (L.take k)) (L[k]'hlt)) := andQ_snoc [] L k hlt
      have hxk := hx.out _ (List.getElem_mem hlt)
      have HPL : Hid ((andQ [] (L.take k)).length < 1048576) := by
        have h := andQ_len [] (L.take k)
        rw [List.length_take] at h
        show (andQ [] (L.take k)).length < 1048576
        simp only [List.length_nil] at h
        omega
      have HPG : Hid (∀ x ∈ andQ [] (L.take k), GoodQ x) := fun x hm => by
        rcases andQ_mem hm with h | h
        · cases h
        · obtain ⟨j, hj, rfl⟩ := List.mem_take_iff_getElem.1 h
          have h1 := recB_name (HA.out j (by omega) (by omega))
          have h2 := hx.out _ (List.getElem_mem (show j < L.length by omega))
          exact ⟨h1.1, h1.2, h2.1, h2.2⟩
      obtain ⟨x, hxe⟩ : ∃ x, x = L[k]'hlt := ⟨_, rfl⟩
      rw [← hxe] at hcx HBAD HUP HSN hxk
      obtain ⟨xn, xt, xl, xd⟩ := x
      unfold RecAt at hcx
      obtain ⟨c0, c1, c2, c3⟩ := hcx
      simp only at c0 c1 c2 c3 hxk HBAD HUP
      have HG : Hid (∀ W, Calls Tryz.prog 20 #[.agg #[.string ⟨xn.toArray⟩, .int .i64 xt, .int .i64 xl, .string ⟨xd.toArray⟩]] W fun e w' => e = .returned (.bool (recB xn xt xl xd)) ∧ Below W.heap.size W w') := fun W => by
        have h := sGoodRecord_any ⟨xn.toArray⟩ ⟨xd.toArray⟩ xt xl W (by rw [size_list]; exact hxk.1) (by rw [size_list]; exact hxk.2)
        exact h
      obtain ⟨W1, hW1⟩ : ∃ W1, W1 = wr.alloc (.cells #[.string ⟨xn.toArray⟩, .int .i64 xt, .int .i64 xl, .string ⟨xd.toArray⟩] 43) := ⟨_, rfl⟩
      have HW1 : Hid (wr.alloc (.cells #[.string ⟨xn.toArray⟩, .int .i64 xt, .int .i64 xl, .string ⟨xd.toArray⟩] 43) = W1) := hW1.symm
      have hbw1 : Below w.heap.size w W1 := by rw [hW1]; exact hb.alloc hb.size _
      have hbr1 : Below wr.heap.size wr W1 := by rw [hW1]; exact (Below.refl _ _).alloc (Nat.le_refl _) _
      have HX : Hid (∀ W, Below W1.heap.size W1 W → (W.cell? ⟨wr.heap.size, 0, none⟩ = some (.string ⟨xn.toArray⟩) ∧ W.cell? ⟨wr.heap.size, 1, none⟩ = some (.int .i64 xt) ∧ W.cell? ⟨wr.heap.size, 2, none⟩ = some (.int .i64 xl) ∧ W.cell? ⟨wr.heap.size, 3, none⟩ = some (.string ⟨xd.toArray⟩)) ∧ Below w.heap.size w W) := fun W hW => by
        have hz : wr.heap.size < W1.heap.size := by rw [hW1]; simp
        have h1 : W.heap[wr.heap.size]? = some (.cells #[.string ⟨xn.toArray⟩, .int .i64 xt, .int .i64 xl, .string ⟨xd.toArray⟩] 43) := (hW.block _ hz).trans (by rw [hW1]; exact blk_new _ _)
        exact ⟨rec4_cells h1, hbw1.trans (hW.mono hbw1.size)⟩
      have HR1 : Hid (∀ W, Below W1.heap.size W1 W → RRow W sv (andQ [] (L.take k))) := fun W hW => (HR.out.kept hbr1).kept hW
      clear hcel hxe hW1
      go_wp2_with fail
      rw [HW1.out]
      obtain ⟨⟨m0, m1, m2, m3⟩, _⟩ := HX.out _ (Below.refl _ _)
      go_wp2_with fail
      refine (HG.out _).mono ?_
      rintro e w2 ⟨rfl, hb2⟩
      clear c0 c1 c2 c3 m0 m1 m2 m3
      obtain ⟨⟨m0, m1, m2, m3⟩, hbw2⟩ := HX.out _ hb2
      cases hB : recB xn xt xl xd with
      | false =>
        have HN := HBAD.out hB
        have HN2 : Hid (setsO L = none) := HN
        clear HBAD HUP HN hB
        go_wp2_with fail
        go_ret2
        exact ⟨by rw [HN2.out]; rfl, hbw2⟩
      | true =>
        have HU := HUP.out hB
        have HU2 : Hid (∀ j, (hj : j < L.length) → j < k + 1 → recB L[j].1 L[j].2.1 L[j].2.2.1 L[j].2.2.2 = true) := HU
        have hgood : GoodQ (xn, xt, xl, xd) := ⟨(recB_name hB).1, (recB_name hB).2, hxk.1, hxk.2⟩
        have HP : Hid (Calls Tryz.prog 21 #[sv, .agg #[.string ⟨xn.toArray⟩, .int .i64 xt, .int .i64 xl, .string ⟨xd.toArray⟩]] w2 fun e w' => (∃ u, e = .returned u ∧ RRow w' u (putQ (andQ [] (L.take k)) (xn, xt, xl, xd)) ∧ ∀ n c, u = .slice none n c → c = 0) ∧ Below w2.heap.size w2 w') := l3Put_any sv (andQ [] (L.take k)) (xn, xt, xl, xd) w2 (HR1.out _ hb2) HNL.out HPG hgood HPL.out
        clear HBAD HUP HU hB hgood
        go_wp2_with fail
        refine HP.out.mono ?_
        rintro e w3 ⟨⟨u, rfl, hru, hnu⟩, hb3⟩
        have HRU : Hid (RRow w3 u (andQ [] (L.take (k + 1)))) := by
          have h : RRow w3 u (andQ [] (L.take (k + 1))) := by rw [HSN.out]; exact hru
          exact h
        have HNU : Hid (∀ n c, u = .slice none n c → c = 0) := hnu
        have hbw3 : Below w.heap.size w w3 := hbw2.trans (hb3.mono hbw2.size)
        clear hru hnu hb3 m0 m1 m2 m3
        go_wp2_with fail
        go_roundw
        case rel => exact ⟨k + 1, u, by omega, by go_num, rfl, HRU, HNU, HU2, hbw3⟩
        case measure => simp [intOf]; omega
    · have HARE : Hid (aresB L = true) := aresB_all (fun j hj => HA.out j hj (by omega))
      have HRL : Hid (RRow wr sv (andQ [] L)) := by
        have h := HR.out
        rw [List.take_of_length_le (by omega)] at h
        exact h
      have HLA : Hid ((andQ [] L).length ≤ 1048576) := by
        have h := andQ_len [] L
        show (andQ [] L).length ≤ 1048576
        simp only [List.length_nil] at h
        omega
      clear HA HR HROW
      go_wp2_with fail
      refine (l3Sets_any sv (andQ [] L) wr HRL.out HLA.out).mono ?_
      rintro e w2 ⟨hres, hb2⟩
      have hbw2 : Below w.heap.size w w2 := hb.trans (hb2.mono hb.size)
      cases hO : grpN (andQ [] L) (andQ [] L).length with
      | none =>
        rw [hO] at hres
        have he : e = .returned (.tuple #[.slice none 0 0, .bool false]) := hres
        subst he
        have HN : Hid (setsO L = none) := setsO_none hO
        clear hres hO
        go_wp2_with fail
        go_ret2
        exact ⟨by rw [HN.out]; rfl, hbw2⟩
      | some S =>
        rw [hO] at hres
        obtain ⟨u, DS, hDS, rfl, hbld⟩ := hres
        have HBL : Hid (Bld w2 w.heap.size u DS) := ⟨own_low hbld.1 (fun g hg => Nat.le_trans hb.size (hbld.1.lt g hg).1), fun x hx => ⟨own_low (hbld.2.1 x hx).1 (fun g hg => Nat.le_trans hb.size ((hbld.2.1 x hx).1.lt g hg).1), (hbld.2.1 x hx).2⟩, hbld.2.2⟩
        have HDS : Hid (DS.map (fun x : SetT × Value => x.1) = S) := hDS
        clear hbld hDS
        by_cases h40 : S.length ≤ 40
        · rw [decide_eq_true h40]
          by_cases h60 : L.length ≤ 60
          · have HS : Hid (setsO L = some S) := setsO_some h60 HARE.out hO h40
            have hgt : ¬ (60 : Int) < (L.length : Int) := by omega
            clear hO
            go_wp2_with fail
            go_ret2
            refine ⟨?_, hbw2⟩
            rw [HS.out]
            exact ⟨_, DS, HDS.out, rfl, HBL.out⟩
          · have HN : Hid (setsO L = none) := setsO_many h60
            have hgt : (60 : Int) < (L.length : Int) := by omega
            clear hO
            go_wp2_with fail
            go_ret2
            exact ⟨by rw [HN.out]; rfl, hbw2⟩
        · rw [decide_eq_false h40]
          have HN : Hid (setsO L = none) := setsO_big hO h40
          clear hO
          go_wp2_with fail
          go_ret2
          exact ⟨by rw [HN.out]; rfl, hbw2⟩
end Go.Proofs.YtjocegnhhhfbeaaGreatDoor

namespace Go.Proofs.YtjocegnhhhfbeaaGreatDoor
open Go.RowKit

theorem own_none4 (w : World) : (w.alloc (.cells #[] 43)).ownsRow w.heap.size 43 4 (.slice (some ⟨w.heap.size, 0, none⟩) 0 0) 0 (rcells []) :=
  World.ownsRow_lit w #[] 0 (Nat.le_refl _) (by unfold maxLen; omega) rfl
set_option maxRecDepth 20000 in
set_option maxHeartbeats 2000000 in
/-- slices.Clone at records. -/
theorem cloneRec_any (v : Value) (L : List (List UInt8 × Int × Int × List UInt8)) (w : World) (hr : RRow w v L) (hl : L.length ≤ 1048576) (hnil : ∀ n c, v = .slice none n c → c = 0) :
    Calls Tryz.prog 25 #[v] w fun e w' => (∃ u, e = .returned u ∧ OwnQ w' w.heap.size u L) ∧ Below w.heap.size w w' := by
  have hb0 : Below w.heap.size w (w.alloc (.cells #[] 43)) := (Below.refl _ _).alloc (Nat.le_refl _) _
  have HR1 : Hid (RRow (w.alloc (.cells #[] 43)) v L) := hr.kept hb0
  have HNI : Hid (∀ n c, v = .slice none n c → c = 0) := hnil
  obtain ⟨a, cap, rfl, hcap, hmax, hrow⟩ := id hr
  unfold maxLen at hmax
  cases a with
  | none =>
    rcases hrow with rfl | ⟨b, o, h, _⟩
    · have hc0 : cap = 0 := HNI.out _ _ rfl
      subst hc0
      clear hr HR1 HNI hnil
      have hn : ∀ W : World, Sem.run Tryz.prog (binOp .eql 27 (.slice none 0 0) (.slice none 0 0)) W = .ok (.bool true) W := fun W => by rfl
      go_enter Tryz.func25, Tryz.ntmps25
      go_wp2_with fail
      go_ret
      exact ⟨⟨_, rfl, .inl ⟨rfl, rfl⟩⟩, Below.refl _ _⟩
    · cases h
  | some p =>
    have hn : ∀ W : World, Sem.run Tryz.prog (binOp .eql 27 (.slice (some p) L.length cap) (.slice none 0 0)) W = .ok (.bool false) W := fun W => by rfl
    have HOE := own_none4 w
    clear hr hrow hnil
    go_enter Tryz.func25, Tryz.ntmps25
    go_wp2_with (first | (at_builtin; refine wpList_append_rows rfl (.tmp 5) (.tmp 6) 27 rfl Tryz.underlying27 w.heap.size _ 0 [] rfl rfl HOE _ L rfl HR1.out HNI.out (by omega) (by simp) ?_))
    intro v2 w2 hown2 hgrow2
    have HO : Hid (OwnQ w2 w.heap.size v2 L) := own_q hown2
    have hb2 : Below w.heap.size w w2 := hb0.grown hgrow2 hb0.size (fun k e => by cases e; exact Nat.le_refl _)
    clear hown2 hgrow2 HOE
    go_wp2_with fail
    go_ret
    exact ⟨⟨_, rfl, HO.out⟩, hb2⟩
end Go.Proofs.YtjocegnhhhfbeaaGreatDoor

namespace Go.Proofs.YtjocegnhhhfbeaaGreatDoor
open Go.RowKit

/-- What putIntoSets tells. -/
def PutR (w' : World) (base : Nat) (o : Option (List SetT)) (e : Ending) : Prop := match o with
  | none => ∃ u, e = .returned (.tuple #[u, .bool false])
  | some S => ∃ u DS, DS.map (fun x : SetT × Value => x.1) = S ∧ e = .returned (.tuple #[u, .bool true]) ∧ Bld w' base u DS
theorem lt_of_heap {W : World} {b : Nat} {o : Obj} (h : W.heap[b]? = some o) : b < W.heap.size := by
  rw [Array.getElem?_eq_some_iff] at h; exact h.1

set_option maxRecDepth 20000 in
set_option maxHeartbeats 16000000 in
theorem putInto_any (vv : Value) (DS : List (SetT × Value)) (xn : List UInt8) (xt xl : Int) (xd : List UInt8) (base : Nat) (w0 w : World) (hb : Below w0.heap.size w0 w) (hbase : w0.heap.size ≤ base) (hbw : base ≤ w.heap.size) (HB : Hid (Bld w base vv DS)) (HLEN : Hid (DS.length ≤ 1048575)) (HDT : Hid (∀ x ∈ DS, x.1.2.2.2.length ≤ 1048575)) (hxn : xn.length ≤ 1048576) (hxd : xd.length ≤ 1048576) :
    Calls Tryz.prog 29 #[vv, .agg #[.string ⟨xn.toArray⟩, .int .i64 xt, .int .i64 xl, .string ⟨xd.toArray⟩]] w fun e w' => PutR w' base (grp (DS.map (fun x => x.1)) (xn, xt, xl, xd)) e ∧ Below w0.heap.size w0 w' := by
  have HCD : Hid (∀ W, Calls Tryz.prog 38 #[.string ⟨xd.toArray⟩] W fun e w' => e = .returned (.string ⟨xd.toArray⟩) ∧ Below W.heap.size W w') := fun W => cloneR_any ⟨xd.toArray⟩ W (by rw [size_list]; omega)
  have HCN : Hid (∀ W, Calls Tryz.prog 38 #[.string ⟨xn.toArray⟩] W fun e w' => e = .returned (.string ⟨xn.toArray⟩) ∧ Below W.heap.size W w') := fun W => cloneR_any ⟨xn.toArray⟩ W (by rw [size_list]; omega)
  have HSB : Hid (∀ X X' : World, (X.heap[w.heap.size]? = some (.cells #[.string ⟨xn.toArray⟩, .int .i64 xt, .int .i64 xl, .string ⟨xd.toArray⟩] 43) ∧ Below w0.heap.size w0 X) → Below X.heap.size X X' → (X'.heap[w.heap.size]? = some (.cells #[.string ⟨xn.toArray⟩, .int .i64 xt, .int .i64 xl, .string ⟨xd.toArray⟩] 43) ∧ Below w0.heap.size w0 X')) := fun X X' h1 h2 => ⟨(h2.block _ (lt_of_heap h1.1)).trans h1.1, h1.2.trans (h2.mono h1.2.size)⟩
  obtain ⟨W1, hW1⟩ : ∃ W1, W1 = w.alloc (.cells #[.string ⟨xn.toArray⟩, .int .i64 xt, .int .i64 xl, .string ⟨xd.toArray⟩] 43) := ⟨_, rfl⟩
  have HW1 : Hid (w.alloc (.cells #[.string ⟨xn.toArray⟩, .int .i64 xt, .int .i64 xl, .string ⟨xd.toArray⟩] 43) = W1) := hW1.symm
  have HS1 : Hid (W1.heap[w.heap.size]? = some (.cells #[.string ⟨xn.toArray⟩, .int .i64 xt, .int .i64 xl, .string ⟨xd.toArray⟩] 43) ∧ Below w0.heap.size w0 W1) := by
    have h : W1.heap[w.heap.size]? = some (.cells #[.string ⟨xn.toArray⟩, .int .i64 xt, .int .i64 xl, .string ⟨xd.toArray⟩] 43) ∧ Below w0.heap.size w0 W1 := by rw [hW1]; exact ⟨blk_new _ _, hb.alloc hb.size _⟩
    exact h
  have HB1 : Hid (Bld W1 base vv DS) := by
    have h : Bld W1 base vv DS := by rw [hW1]; exact HB.out.alloc _
    exact h
  have HGN : Hid (∀ q, vv.ownBlock = some q → q ≠ w.heap.size) := fun q hq => Nat.ne_of_lt (HB.out.1.lt q hq).2
  have HDLA : Hid (∀ x : SetT × Value, x ∈ DS → ∀ q, x.2.ownBlock = some q → q < w.heap.size) := fun x hx q hq => ((HB.out.2.1 x hx).1.lt q hq).2
  clear hW1 HB hxn hxd
  rcases List.eq_nil_or_concat DS with hD | ⟨A, y, hD⟩
  · subst hD
    obtain ⟨a0, cap, rfl, hc2⟩ := HB1.out.none
    obtain ⟨u16, hu16⟩ : ∃ u : Bool, u = true := ⟨_, rfl⟩
    have HU16 : Hid (u16 = true) := hu16
    clear hu16
    obtain ⟨u26, hu26⟩ : ∃ u : Bool, u = true := ⟨_, rfl⟩
    have HU26 : Hid (u26 = true) := hu26
    clear hu26
    go_enter Tryz.func29, Tryz.ntmps29
    go_wp2_with fail
    rw [HW1.out]
    refine (HCD.out _).mono ?_
    rintro e wc ⟨rfl, hbc⟩
    have HBC : Hid (Bld wc base (.slice a0 0 cap) []) := HB1.out.kept hbc
    have HSC : Hid (∀ W, Below wc.heap.size wc W → W.heap[w.heap.size]? = some (.cells #[.string ⟨xn.toArray⟩, .int .i64 xt, .int .i64 xl, .string ⟨xd.toArray⟩] 43) ∧ Below w0.heap.size w0 W) := fun W hW => HSB.out _ _ (HSB.out _ _ HS1.out hbc) hW
    have hbd : Below wc.heap.size wc wc.drew := (Below.refl _ _).drew
    go_wp2_with fail
    refine wp_region_quiet (C := fun W => Below wc.heap.size wc W) (by kernel_rfl) (by kernel_rfl) hbd ?_
    refine wpQuiet_step (fun K hK => ?_)
    rw [if_pos (by rfl)]
    refine ⟨.int .i64 (-1), fun W hW => quiet_ok ?_, hK _ ?_⟩
    · go_simp
      all_goals (try omega)
    clear hK K
    simp only [Act.put, List.setIfInBounds_toArray, List.set_cons_succ, List.set_cons_zero]
    refine wpQuiet_step (fun K hK => ?_)
    rw [if_pos (by rfl)]
    refine ⟨.bool true, fun W hW => quiet_ok ?_, hK _ ?_⟩
    · go_simp
      all_goals (try omega)
    clear hK K
    simp only [Act.put, List.setIfInBounds_toArray, List.set_cons_succ, List.set_cons_zero]
    refine wpQuiet_step (fun K hK => ?_)
    rw [if_pos (by rfl)]
    refine ⟨.bool u16, fun W hW => quiet_ok ?_, hK _ ?_⟩
    · have v16 := HU16.out
      go_simp
      all_goals (try omega)
    clear hK K
    simp only [Act.put, List.setIfInBounds_toArray, List.set_cons_succ, List.set_cons_zero]
    refine BigFrame.wpQuiet_skip (by show (some u16 == some false) = false; rw [HU16.out]; rfl) ?_
    simp only [Act.put, List.setIfInBounds_toArray, List.set_cons_succ, List.set_cons_zero]
    refine BigFrame.wpQuiet_skip (by show (some u16 == some false) = false; rw [HU16.out]; rfl) ?_
    simp only [Act.put, List.setIfInBounds_toArray, List.set_cons_succ, List.set_cons_zero]
    refine BigFrame.wpQuiet_skip (by show (some u16 == some false) = false; rw [HU16.out]; rfl) ?_
    simp only [Act.put, List.setIfInBounds_toArray, List.set_cons_succ, List.set_cons_zero]
    refine BigFrame.wpQuiet_skip (by show (some u16 == some false) = false; rw [HU16.out]; rfl) ?_
    simp only [Act.put, List.setIfInBounds_toArray, List.set_cons_succ, List.set_cons_zero]
    refine BigFrame.wpQuiet_skip (by show (some u16 == some false) = false; rw [HU16.out]; rfl) ?_
    simp only [Act.put, List.setIfInBounds_toArray, List.set_cons_succ, List.set_cons_zero]
    refine BigFrame.wpQuiet_skip (by show (some u16 == some false) = false; rw [HU16.out]; rfl) ?_
    simp only [Act.put, List.setIfInBounds_toArray, List.set_cons_succ, List.set_cons_zero]
    refine BigFrame.wpQuiet_skip (by show (some u16 == some false) = false; rw [HU16.out]; rfl) ?_
    simp only [Act.put, List.setIfInBounds_toArray, List.set_cons_succ, List.set_cons_zero]
    refine BigFrame.wpQuiet_skip (by show (some u16 == some false) = false; rw [HU16.out]; rfl) ?_
    simp only [Act.put, List.setIfInBounds_toArray, List.set_cons_succ, List.set_cons_zero]
    refine wpQuiet_step (fun K hK => ?_)
    rw [if_pos (by rfl)]
    refine ⟨.bool true, fun W hW => quiet_ok ?_, hK _ ?_⟩
    · have v16 := HU16.out
      go_simp
      all_goals (try omega)
    clear hK K
    simp only [Act.put, List.setIfInBounds_toArray, List.set_cons_succ, List.set_cons_zero]
    refine wpQuiet_step (fun K hK => ?_)
    rw [if_pos (by rfl)]
    refine ⟨.bool u26, fun W hW => quiet_ok ?_, hK _ ?_⟩
    · have v16 := HU16.out
      have v26 := HU26.out
      go_simp
      all_goals (try omega)
    clear hK K
    simp only [Act.put, List.setIfInBounds_toArray, List.set_cons_succ, List.set_cons_zero]
    refine BigFrame.wpQuiet_skip (by show (some u26 == some false) = false; rw [HU26.out]; rfl) ?_
    simp only [Act.put, List.setIfInBounds_toArray, List.set_cons_succ, List.set_cons_zero]
    refine BigFrame.wpQuiet_skip (by show (some u26 == some false) = false; rw [HU26.out]; rfl) ?_
    simp only [Act.put, List.setIfInBounds_toArray, List.set_cons_succ, List.set_cons_zero]
    refine BigFrame.wpQuiet_skip (by show (some u26 == some false) = false; rw [HU26.out]; rfl) ?_
    simp only [Act.put, List.setIfInBounds_toArray, List.set_cons_succ, List.set_cons_zero]
    refine BigFrame.wpQuiet_skip (by show (some u26 == some false) = false; rw [HU26.out]; rfl) ?_
    simp only [Act.put, List.setIfInBounds_toArray, List.set_cons_succ, List.set_cons_zero]
    refine BigFrame.wpQuiet_skip (by show (some u26 == some false) = false; rw [HU26.out]; rfl) ?_
    simp only [Act.put, List.setIfInBounds_toArray, List.set_cons_succ, List.set_cons_zero]
    refine BigFrame.wpQuiet_skip (by show (some u26 == some false) = false; rw [HU26.out]; rfl) ?_
    simp only [Act.put, List.setIfInBounds_toArray, List.set_cons_succ, List.set_cons_zero]
    refine BigFrame.wpQuiet_skip (by show (some u26 == some false) = false; rw [HU26.out]; rfl) ?_
    simp only [Act.put, List.setIfInBounds_toArray, List.set_cons_succ, List.set_cons_zero]
    refine BigFrame.wpQuiet_skip (by show (some u26 == some false) = false; rw [HU26.out]; rfl) ?_
    simp only [Act.put, List.setIfInBounds_toArray, List.set_cons_succ, List.set_cons_zero]
    refine wpQuiet_step (fun K hK => ?_)
    rw [if_pos (by rfl)]
    refine ⟨.bool true, fun W hW => quiet_ok ?_, hK _ ?_⟩
    · have v16 := HU16.out
      have v26 := HU26.out
      go_simp
      all_goals (try omega)
    clear hK K
    simp only [Act.put, List.setIfInBounds_toArray, List.set_cons_succ, List.set_cons_zero]
    refine wpQuiet_nil ?_
    intro W hW
    have HBW : Hid (Bld W base (.slice a0 0 cap) []) := HBC.out.kept hW
    have hS0 : W.drew.heap[w.heap.size]? = some (.cells #[.string ⟨xn.toArray⟩, .int .i64 xt, .int .i64 xl, .string ⟨xd.toArray⟩] 43) ∧ Below w0.heap.size w0 W.drew := HSB.out _ _ (HSC.out W hW) ((Below.refl _ _).drew)
    have HT0 : Hid (∀ x : SetT × Value, x ∈ [] → ∀ q, x.2.ownBlock = some q → q < W.heap.size) := fun x hx q hq => by
      obtain ⟨q2, h1, _, h3⟩ := HBW.out.data hx
      rw [hq] at h1
      cases h1
      exact h3
    have HGR : Hid (grp (List.map (fun x : SetT × Value => x.1) []) (xn, xt, xl, xd) = some (List.map (fun x : SetT × Value => x.1) [] ++ [newT (xn, xt, xl, xd)])) := grp_nil _
    have hzW : base ≤ W.heap.size := Nat.le_trans hbw (Nat.le_of_lt (lt_of_heap (HSC.out W hW).1))
    have HDR : Hid (Below W.heap.size W W.drew) := (Below.refl _ _).drew
    have hCW := rec4_cells (HSC.out W hW).1
    obtain ⟨y0, y1, y2, y3⟩ := hCW
    go_wp2_with fail
    clear y0 y1 y2 y3
    refine wp_region_held_drew (S := fun X : World => X.heap[w.heap.size]? = some (.cells #[.string ⟨xn.toArray⟩, .int .i64 xt, .int .i64 xl, .string ⟨xd.toArray⟩] 43) ∧ Below w0.heap.size w0 X) (by kernel_rfl) hS0 (fun hHeld => ?_)
    refine wpAnyH_take (i := 0) (v := .slice a0 0 cap) rfl (by kernel_rfl) (by kernel_rfl) (by kernel_rfl) (fun _ _ _ h => h) (Or.inl ⟨by rfl, ?_⟩) (by assumption) ?_
    · intro X hSX
      go_simp
    simp only [Act.put, List.getElem_toArray, List.getElem_cons_zero, List.setIfInBounds_toArray, List.set_cons_succ, List.set_cons_zero]
    refine wpAnyH_take (i := 1) (v := .pointer (some ⟨w.heap.size, 0, none⟩)) rfl (by kernel_rfl) (by kernel_rfl) (by kernel_rfl) (fun _ _ _ h => h) (Or.inl ⟨by rfl, ?_⟩) (by assumption) ?_
    · intro X hSX
      go_simp
    simp only [Act.put, List.getElem_toArray, List.getElem_cons_succ, List.getElem_cons_zero, List.setIfInBounds_toArray, List.set_cons_succ, List.set_cons_zero]
    refine wpAnyH_take (i := 2) (v := .string ⟨xn.toArray⟩) rfl (by kernel_rfl) (by kernel_rfl) (by kernel_rfl) (fun _ _ _ h => h) (Or.inl ⟨by rfl, ?_⟩) (by assumption) ?_
    · intro X hSX
      obtain ⟨q0, q1, q2, q3⟩ := rec4_cells hSX.1
      go_simp
    simp only [Act.put, List.getElem_toArray, List.getElem_cons_succ, List.getElem_cons_zero, List.setIfInBounds_toArray, List.set_cons_succ, List.set_cons_zero]
    refine wpAnyH_take (i := 4) (v := .pointer (some ⟨w.heap.size, 1, none⟩)) rfl (by kernel_rfl) (by kernel_rfl) (by kernel_rfl) (fun _ _ _ h => h) (Or.inl ⟨by rfl, ?_⟩) (by assumption) ?_
    · intro X hSX
      go_simp
    simp only [Act.put, List.getElem_toArray, List.getElem_cons_succ, List.getElem_cons_zero, List.setIfInBounds_toArray, List.set_cons_succ, List.set_cons_zero]
    refine wpAnyH_take (i := 5) (v := .int .i64 xt) rfl (by kernel_rfl) (by kernel_rfl) (by kernel_rfl) (fun _ _ _ h => h) (Or.inl ⟨by rfl, ?_⟩) (by assumption) ?_
    · intro X hSX
      obtain ⟨q0, q1, q2, q3⟩ := rec4_cells hSX.1
      go_simp
    simp only [Act.put, List.getElem_toArray, List.getElem_cons_succ, List.getElem_cons_zero, List.setIfInBounds_toArray, List.set_cons_succ, List.set_cons_zero]
    refine wpAnyH_take (i := 6) (v := .pointer (some ⟨w.heap.size, 2, none⟩)) rfl (by kernel_rfl) (by kernel_rfl) (by kernel_rfl) (fun _ _ _ h => h) (Or.inl ⟨by rfl, ?_⟩) (by assumption) ?_
    · intro X hSX
      go_simp
    simp only [Act.put, List.getElem_toArray, List.getElem_cons_succ, List.getElem_cons_zero, List.setIfInBounds_toArray, List.set_cons_succ, List.set_cons_zero]
    refine wpAnyH_take (i := 7) (v := .int .i64 xl) rfl (by kernel_rfl) (by kernel_rfl) (by kernel_rfl) (fun _ _ _ h => h) (Or.inl ⟨by rfl, ?_⟩) (by assumption) ?_
    · intro X hSX
      obtain ⟨q0, q1, q2, q3⟩ := rec4_cells hSX.1
      go_simp
    simp only [Act.put, List.getElem_toArray, List.getElem_cons_succ, List.getElem_cons_zero, List.setIfInBounds_toArray, List.set_cons_succ, List.set_cons_zero]
    refine wpAnyH_take (i := 8) (v := .string ⟨xd.toArray⟩) rfl (by kernel_rfl) (by kernel_rfl) (by kernel_rfl) (fun _ _ _ h => h) (Or.inl ⟨by rfl, ?_⟩) (by assumption) ?_
    · intro X hSX
      go_simp
    simp only [Act.put, List.getElem_toArray, List.getElem_cons_succ, List.getElem_cons_zero, List.setIfInBounds_toArray, List.set_cons_succ, List.set_cons_zero]
    refine wpAnyH_ready (rs := [3, 9]) (by kernel_rfl) (by simp) ?_
    refine AllReadyH.cons rfl (fun K hK => ?_) (AllReadyH.cons rfl (fun K hK => ?_) AllReadyH.nil)
    · rw [if_pos (by rfl)]
      go_simp
      refine (HCN.out _).mono ?_
      rintro e w5 ⟨rfl, hb5⟩
      go_simp
      have hS1 := HSB.out _ _ hS0 hb5
      have hbW5 : Below W.heap.size W w5 := HDR.out.trans (hb5.mono HDR.out.size)
      refine hK.out _ _ hS1 (fun hSS => ?_)
      clear hK
      refine wpAnyH_ready (rs := [9]) (by kernel_rfl) (by simp) ?_
      refine AllReadyH.cons rfl (fun K hK => ?_) AllReadyH.nil
      rw [if_pos (by rfl)]
      go_simp
      have hS2 := HSB.out _ _ hS1 ((Below.refl w5.heap.size w5).alloc (Nat.le_refl _) (.cells #[.string ⟨xd.toArray⟩] 9))
      refine hK.out _ _ hS2 (fun hSS => ?_)
      clear hK
      obtain ⟨t, ht⟩ : ∃ t, t = w5.heap.size := ⟨_, rfl⟩
      obtain ⟨w3, hw3⟩ : ∃ W3, W3 = w5.alloc (.cells #[.string ⟨xd.toArray⟩] 9) := ⟨_, rfl⟩
      have HB3 : Hid (Bld w3 base (.slice a0 0 cap) []) := by
        have h : Bld w3 base (.slice a0 0 cap) [] := by rw [hw3]; exact (HBW.out.kept hbW5).alloc _
        exact h
      have HO3 : Hid (w3.ownsRow base 9 1 (.slice (some ⟨t, 0, none⟩) 1 1) 1 [S xd]) := by
        have h : w3.ownsRow base 9 1 (.slice (some ⟨t, 0, none⟩) 1 1) 1 [S xd] := by rw [hw3, ht]; exact own_lit9 w5 xd (Nat.le_trans hzW hbW5.size)
        exact h
      have HT3 : Hid (∀ x : SetT × Value, x ∈ [] → ∀ q, x.2.ownBlock = some q → q < t) := fun x hx q hq => by rw [ht]; exact Nat.lt_of_lt_of_le (HT0.out x hx q hq) hbW5.size
      have hS3 : w3.heap[w.heap.size]? = some (.cells #[.string ⟨xn.toArray⟩, .int .i64 xt, .int .i64 xl, .string ⟨xd.toArray⟩] 43) ∧ Below w0.heap.size w0 w3 := by rw [hw3]; exact hS2
      have hw3z : base ≤ w3.heap.size := by rw [hw3]; simp; exact Nat.le_succ_of_le (Nat.le_trans hzW hbW5.size)
      rw [← ht, ← hw3]
      clear hS0 hS1 hS2 hb5 hbW5 ht hw3 HT0 HBW hSS
      refine wpAnyH_take (i := 10) (v := .agg #[.string ⟨xn.toArray⟩, .int .i64 xt, .int .i64 xl, .slice (some ⟨t, 0, none⟩) 1 1]) rfl (by kernel_rfl) (by kernel_rfl) (by kernel_rfl) (fun _ _ _ h => h) (Or.inl ⟨by rfl, ?_⟩) (by assumption) ?_
      · intro X hSX
        go_simp
      simp only [Act.put, List.getElem_toArray, List.getElem_cons_succ, List.getElem_cons_zero, List.setIfInBounds_toArray, List.set_cons_succ, List.set_cons_zero]
      refine wpAnyH_ready (rs := [11]) (by kernel_rfl) (by simp) ?_
      refine AllReadyH.cons rfl (fun K hK => ?_) AllReadyH.nil
      rw [if_pos (by rfl)]
      go_simp
      have hS5 := HSB.out _ _ hS3 ((Below.refl w3.heap.size w3).alloc (Nat.le_refl _) (.cells #[.string ⟨xn.toArray⟩, .int .i64 xt, .int .i64 xl, .slice (some ⟨t, 0, none⟩) 1 1] 55))
      refine hK.out _ _ hS5 (fun hSS => ?_)
      clear hK
      refine wpAnyH_ready (rs := [12]) (by kernel_rfl) (by simp) ?_
      refine AllReadyH.cons rfl (fun K hK => ?_) AllReadyH.nil
      rw [if_pos (by rfl)]
      obtain ⟨i0, hi, hz0, hz1, hz2⟩ := info_parts info_set
      have hlen := HLEN.out
      refine wp_append_own _ (.tmp 36) (.tmp 47) 24 rfl base 55 i0 _ 4 56 Tryz.underlying24 hi hz0 hz1 hz2 rfl (by decide) _ _ _ rfl (HB3.out.1.alloc _) ⟨w3.heap.size, 0, none⟩ 1 1 (scs ((xn, xt, xl, [xd]), .slice (some ⟨t, 0, none⟩) 1 1)) rfl rfl (set_new w3 _ _ rfl) (scs_one _ rfl) (by unfold maxLen; omega) (by omega) (by simp; omega) ?_
      intro v4 w4 hown4 hgr4 _
      have HB4 : Hid (Bld w4 base v4 ([] ++ [((xn, xt, xl, [xd]), .slice (some ⟨t, 0, none⟩) 1 1)])) := (HB3.out.alloc _).add (xn, xt, xl, [xd]) xd rfl HT3.out (HO3.out.alloc _) (by first | exact hown4 | (rw [List.length_append]; exact hown4)) hgr4
      have hS6 : w4.heap[w.heap.size]? = some (.cells #[.string ⟨xn.toArray⟩, .int .i64 xt, .int .i64 xl, .string ⟨xd.toArray⟩] 43) ∧ Below w0.heap.size w0 w4 := ⟨(hgr4.block w.heap.size (lt_of_heap hS5.1) (fun e => HGN.out _ e.symm rfl)).trans hS5.1, hS5.2.grown hgr4 hS5.2.size (fun j hj => Nat.le_trans hbase (HB3.out.1.lt j hj).1)⟩
      have HS6 : Hid (Below w0.heap.size w0 w4) := hS6.2
      obtain ⟨a4, c4, hv4, _, _⟩ := HB4.out.shape
      obtain ⟨n4, hn4⟩ : ∃ n4, n4 = ([] ++ [((xn, xt, xl, [xd]), (Value.slice (some ⟨t, 0, none⟩) 1 1))]).length := ⟨_, rfl⟩
      rw [← hn4] at hv4
      subst hv4
      clear hown4 hgr4 HB3 HO3 HT3 hn4
      refine hK.out _ _ hS6 (fun hSS => ?_)
      clear hK
      refine wpAnyH_take (i := 13) (v := .slice a4 n4 c4) rfl (by kernel_rfl) (by kernel_rfl) (by kernel_rfl) (fun _ _ _ h => h) (Or.inl ⟨by rfl, ?_⟩) (by assumption) ?_
      · intro X hSX
        go_simp
      simp only [Act.put, List.getElem_toArray, List.getElem_cons_succ, List.getElem_cons_zero, List.setIfInBounds_toArray, List.set_cons_succ, List.set_cons_zero]
      refine wpAnyH_take (i := 14) (v := .bool true) rfl (by kernel_rfl) (by kernel_rfl) (by kernel_rfl) (fun _ _ _ h => h) (Or.inl ⟨by rfl, ?_⟩) (by assumption) ?_
      · intro X hSX
        go_simp
      simp only [Act.put, List.getElem_toArray, List.getElem_cons_succ, List.getElem_cons_zero, List.setIfInBounds_toArray, List.set_cons_succ, List.set_cons_zero]
      refine wpAnyH_done (by kernel_rfl) ?_ _
      clear hSS hS6
      go_wp2_with fail
      go_ret2
      refine ⟨?_, HS6.out⟩
      rw [HGR.out]
      exact ⟨_, _, by rw [List.map_append]; rfl, rfl, HB4.out⟩
    · rw [if_pos (by rfl)]
      go_simp
      have hS2 := HSB.out _ _ hS0 ((Below.refl W.drew.heap.size W.drew).alloc (Nat.le_refl _) (.cells #[.string ⟨xd.toArray⟩] 9))
      refine hK.out _ _ hS2 (fun hSS => ?_)
      clear hK
      refine wpAnyH_ready (rs := [3]) (by kernel_rfl) (by simp) ?_
      refine AllReadyH.cons rfl (fun K hK => ?_) AllReadyH.nil
      rw [if_pos (by rfl)]
      go_simp
      refine (HCN.out _).mono ?_
      rintro e w3 ⟨rfl, hb5⟩
      go_simp
      have hS3 := HSB.out _ _ hS2 hb5
      refine hK.out _ _ hS3 (fun hSS => ?_)
      clear hK
      have HB3 : Hid (Bld w3 base (.slice a0 0 cap) []) := ((HBW.out.kept HDR.out).alloc _).kept hb5
      have HO3 : Hid (w3.ownsRow base 9 1 (.slice (some ⟨W.heap.size, 0, none⟩) 1 1) 1 [S xd]) := own_below (own_lit9 W.drew xd (by simpa using hzW)) hb5
      have HT3 : Hid (∀ x : SetT × Value, x ∈ [] → ∀ q, x.2.ownBlock = some q → q < W.heap.size) := HT0
      have hw3z : base ≤ w3.heap.size := Nat.le_trans hzW (Nat.le_trans (by simp) hb5.size)
      clear hS0 hS2 hb5 HT0 HBW hSS
      refine wpAnyH_take (i := 10) (v := .agg #[.string ⟨xn.toArray⟩, .int .i64 xt, .int .i64 xl, .slice (some ⟨W.heap.size, 0, none⟩) 1 1]) rfl (by kernel_rfl) (by kernel_rfl) (by kernel_rfl) (fun _ _ _ h => h) (Or.inl ⟨by rfl, ?_⟩) (by assumption) ?_
      · intro X hSX
        go_simp
      simp only [Act.put, List.getElem_toArray, List.getElem_cons_succ, List.getElem_cons_zero, List.setIfInBounds_toArray, List.set_cons_succ, List.set_cons_zero]
      refine wpAnyH_ready (rs := [11]) (by kernel_rfl) (by simp) ?_
      refine AllReadyH.cons rfl (fun K hK => ?_) AllReadyH.nil
      rw [if_pos (by rfl)]
      go_simp
      have hS5 := HSB.out _ _ hS3 ((Below.refl w3.heap.size w3).alloc (Nat.le_refl _) (.cells #[.string ⟨xn.toArray⟩, .int .i64 xt, .int .i64 xl, .slice (some ⟨W.heap.size, 0, none⟩) 1 1] 55))
      refine hK.out _ _ hS5 (fun hSS => ?_)
      clear hK
      refine wpAnyH_ready (rs := [12]) (by kernel_rfl) (by simp) ?_
      refine AllReadyH.cons rfl (fun K hK => ?_) AllReadyH.nil
      rw [if_pos (by rfl)]
      obtain ⟨i0, hi, hz0, hz1, hz2⟩ := info_parts info_set
      have hlen := HLEN.out
      refine wp_append_own _ (.tmp 36) (.tmp 47) 24 rfl base 55 i0 _ 4 56 Tryz.underlying24 hi hz0 hz1 hz2 rfl (by decide) _ _ _ rfl (HB3.out.1.alloc _) ⟨w3.heap.size, 0, none⟩ 1 1 (scs ((xn, xt, xl, [xd]), .slice (some ⟨W.heap.size, 0, none⟩) 1 1)) rfl rfl (set_new w3 _ _ rfl) (scs_one _ rfl) (by unfold maxLen; omega) (by omega) (by simp; omega) ?_
      intro v4 w4 hown4 hgr4 _
      have HB4 : Hid (Bld w4 base v4 ([] ++ [((xn, xt, xl, [xd]), .slice (some ⟨W.heap.size, 0, none⟩) 1 1)])) := (HB3.out.alloc _).add (xn, xt, xl, [xd]) xd rfl HT3.out (HO3.out.alloc _) (by first | exact hown4 | (rw [List.length_append]; exact hown4)) hgr4
      have hS6 : w4.heap[w.heap.size]? = some (.cells #[.string ⟨xn.toArray⟩, .int .i64 xt, .int .i64 xl, .string ⟨xd.toArray⟩] 43) ∧ Below w0.heap.size w0 w4 := ⟨(hgr4.block w.heap.size (lt_of_heap hS5.1) (fun e => HGN.out _ e.symm rfl)).trans hS5.1, hS5.2.grown hgr4 hS5.2.size (fun j hj => Nat.le_trans hbase (HB3.out.1.lt j hj).1)⟩
      have HS6 : Hid (Below w0.heap.size w0 w4) := hS6.2
      obtain ⟨a4, c4, hv4, _, _⟩ := HB4.out.shape
      obtain ⟨n4, hn4⟩ : ∃ n4, n4 = ([] ++ [((xn, xt, xl, [xd]), (Value.slice (some ⟨W.heap.size, 0, none⟩) 1 1))]).length := ⟨_, rfl⟩
      rw [← hn4] at hv4
      subst hv4
      clear hown4 hgr4 HB3 HO3 HT3 hn4
      refine hK.out _ _ hS6 (fun hSS => ?_)
      clear hK
      refine wpAnyH_take (i := 13) (v := .slice a4 n4 c4) rfl (by kernel_rfl) (by kernel_rfl) (by kernel_rfl) (fun _ _ _ h => h) (Or.inl ⟨by rfl, ?_⟩) (by assumption) ?_
      · intro X hSX
        go_simp
      simp only [Act.put, List.getElem_toArray, List.getElem_cons_succ, List.getElem_cons_zero, List.setIfInBounds_toArray, List.set_cons_succ, List.set_cons_zero]
      refine wpAnyH_take (i := 14) (v := .bool true) rfl (by kernel_rfl) (by kernel_rfl) (by kernel_rfl) (fun _ _ _ h => h) (Or.inl ⟨by rfl, ?_⟩) (by assumption) ?_
      · intro X hSX
        go_simp
      simp only [Act.put, List.getElem_toArray, List.getElem_cons_succ, List.getElem_cons_zero, List.setIfInBounds_toArray, List.set_cons_succ, List.set_cons_zero]
      refine wpAnyH_done (by kernel_rfl) ?_ _
      clear hSS hS6
      go_wp2_with fail
      go_ret2
      refine ⟨?_, HS6.out⟩
      rw [HGR.out]
      exact ⟨_, _, by rw [List.map_append]; rfl, rfl, HB4.out⟩
  · rw [List.concat_eq_append] at hD
    subst hD
    obtain ⟨⟨sn, st, sl, sd⟩, dv⟩ := y
    obtain ⟨g, cap, hvv, hc1, hc2, hg⟩ := HB1.out.form (by simp)
    obtain ⟨n, hn⟩ : ∃ n, n = (A ++ [((sn, st, sl, sd), dv)]).length := ⟨_, rfl⟩
    obtain ⟨m, hm⟩ : ∃ m, m = A.length := ⟨_, rfl⟩
    have hmn : m < n ∧ n ≤ m + 1 := by rw [hn, hm]; simp
    have HNM : Hid (n = (A ++ [((sn, st, sl, sd), dv)]).length) := hn
    have HMM : Hid (m = A.length) := hm
    rw [← hn] at hvv hc1
    subst hvv
    have hwm : IntKind.i64.wrap ((n : Int) - 1) = (m : Int) := by rw [wrap_small _ (by omega) (by omega)]; omega
    have hm0 : ¬ (m : Int) < 0 := by omega
    have hmi : (m : Int) < (n : Int) := by omega
    have HDL : Hid (∀ q, dv.ownBlock = some q → q < w.heap.size) := fun q hq => HDLA.out ((sn, st, sl, sd), dv) (by simp) q hq
    clear hn hm HDLA
    by_cases h1 : sn = xn
    case neg =>
      have e1 : (sn == xn) = false := by simpa using h1
      have e1' : (sn != xn) = true := by simpa using h1
      have HNE : Hid (¬ sn = xn) := h1
      clear h1
      obtain ⟨u26, hu26⟩ : ∃ u : Bool, u = true := ⟨_, rfl⟩
      have HU26 : Hid (u26 = true) := hu26
      clear hu26
      go_enter Tryz.func29, Tryz.ntmps29
      go_wp2_with fail
      rw [HW1.out]
      refine (HCD.out _).mono ?_
      rintro e wc ⟨rfl, hbc⟩
      have HBC : Hid (Bld wc base (.slice (some ⟨g, 0, none⟩) n cap) (A ++ [((sn, st, sl, sd), dv)])) := HB1.out.kept hbc
      have HSC : Hid (∀ W, Below wc.heap.size wc W → W.heap[w.heap.size]? = some (.cells #[.string ⟨xn.toArray⟩, .int .i64 xt, .int .i64 xl, .string ⟨xd.toArray⟩] 43) ∧ Below w0.heap.size w0 W) := fun W hW => HSB.out _ _ (HSB.out _ _ HS1.out hbc) hW
      have hbd : Below wc.heap.size wc wc.drew := (Below.refl _ _).drew
      have HX2 : Hid (∀ W, Below wc.heap.size wc W → (W.cell? ⟨w.heap.size, 0, none⟩ = some (.string ⟨xn.toArray⟩) ∧ W.cell? ⟨w.heap.size, 1, none⟩ = some (.int .i64 xt) ∧ W.cell? ⟨w.heap.size, 2, none⟩ = some (.int .i64 xl) ∧ W.cell? ⟨w.heap.size, 3, none⟩ = some (.string ⟨xd.toArray⟩)) ∧ (W.cell? ⟨g, m * 4, none⟩ = some (.string ⟨sn.toArray⟩) ∧ W.cell? ⟨g, m * 4 + 1, none⟩ = some (.int .i64 st) ∧ W.cell? ⟨g, m * 4 + 2, none⟩ = some (.int .i64 sl) ∧ W.cell? ⟨g, m * 4 + 3, none⟩ = some (dv))) := fun W hW => by
        have h2 := HBC.out.kept hW
        rw [HNM.out] at h2
        have h3 := h2.cells
        rw [← HMM.out] at h3
        exact ⟨rec4_cells (HSC.out W hW).1, h3.1⟩
      go_wp2_with fail
      refine wp_region_quiet (C := fun W => Below wc.heap.size wc W) (by kernel_rfl) (by kernel_rfl) hbd ?_
      refine wpQuiet_step (fun K hK => ?_)
      rw [if_pos (by rfl)]
      refine ⟨.int .i64 (m : Int), fun W hW => quiet_ok ?_, hK _ ?_⟩
      · have q := HX2.out W hW
        obtain ⟨⟨m0, m1, m2, m3⟩, ⟨z0, z1, z2, z3⟩⟩ := q
        go_simp
        all_goals (try omega)
      clear hK K
      simp only [Act.put, List.setIfInBounds_toArray, List.set_cons_succ, List.set_cons_zero]
      refine wpQuiet_step (fun K hK => ?_)
      rw [if_pos (by rfl)]
      refine ⟨.bool false, fun W hW => quiet_ok ?_, hK _ ?_⟩
      · have q := HX2.out W hW
        obtain ⟨⟨m0, m1, m2, m3⟩, ⟨z0, z1, z2, z3⟩⟩ := q
        go_simp
        all_goals (try omega)
      clear hK K
      simp only [Act.put, List.setIfInBounds_toArray, List.set_cons_succ, List.set_cons_zero]
      refine wpQuiet_step (fun K hK => ?_)
      rw [if_pos (by rfl)]
      refine ⟨.bool false, fun W hW => quiet_ok ?_, hK _ ?_⟩
      · have q := HX2.out W hW
        obtain ⟨⟨m0, m1, m2, m3⟩, ⟨z0, z1, z2, z3⟩⟩ := q
        go_simp
        all_goals (try omega)
      clear hK K
      simp only [Act.put, List.setIfInBounds_toArray, List.set_cons_succ, List.set_cons_zero]
      refine wpQuiet_step (fun K hK => ?_)
      rw [if_pos (by rfl)]
      refine ⟨.slice (some ⟨g, 0, none⟩) n cap, fun W hW => quiet_ok ?_, hK _ ?_⟩
      · have q := HX2.out W hW
        obtain ⟨⟨m0, m1, m2, m3⟩, ⟨z0, z1, z2, z3⟩⟩ := q
        go_simp
        all_goals (try omega)
      clear hK K
      simp only [Act.put, List.setIfInBounds_toArray, List.set_cons_succ, List.set_cons_zero]
      refine wpQuiet_step (fun K hK => ?_)
      rw [if_pos (by rfl)]
      refine ⟨.int .i64 (m : Int), fun W hW => quiet_ok ?_, hK _ ?_⟩
      · have q := HX2.out W hW
        obtain ⟨⟨m0, m1, m2, m3⟩, ⟨z0, z1, z2, z3⟩⟩ := q
        go_simp
        all_goals (try omega)
      clear hK K
      simp only [Act.put, List.setIfInBounds_toArray, List.set_cons_succ, List.set_cons_zero]
      refine wpQuiet_step (fun K hK => ?_)
      rw [if_pos (by rfl)]
      refine ⟨.pointer (some ⟨g, m * 4, none⟩), fun W hW => quiet_ok ?_, hK _ ?_⟩
      · have q := HX2.out W hW
        obtain ⟨⟨m0, m1, m2, m3⟩, ⟨z0, z1, z2, z3⟩⟩ := q
        go_simp
        all_goals (try omega)
      clear hK K
      simp only [Act.put, List.setIfInBounds_toArray, List.set_cons_succ, List.set_cons_zero]
      refine wpQuiet_step (fun K hK => ?_)
      rw [if_pos (by rfl)]
      refine ⟨.pointer (some ⟨g, m * 4, none⟩), fun W hW => quiet_ok ?_, hK _ ?_⟩
      · have q := HX2.out W hW
        obtain ⟨⟨m0, m1, m2, m3⟩, ⟨z0, z1, z2, z3⟩⟩ := q
        go_simp
        all_goals (try omega)
      clear hK K
      simp only [Act.put, List.setIfInBounds_toArray, List.set_cons_succ, List.set_cons_zero]
      refine wpQuiet_step (fun K hK => ?_)
      rw [if_pos (by rfl)]
      refine ⟨.string ⟨sn.toArray⟩, fun W hW => quiet_ok ?_, hK _ ?_⟩
      · have q := HX2.out W hW
        obtain ⟨⟨m0, m1, m2, m3⟩, ⟨z0, z1, z2, z3⟩⟩ := q
        go_simp
        all_goals (try omega)
      clear hK K
      simp only [Act.put, List.setIfInBounds_toArray, List.set_cons_succ, List.set_cons_zero]
      refine wpQuiet_step (fun K hK => ?_)
      rw [if_pos (by rfl)]
      refine ⟨.pointer (some ⟨w.heap.size, 0, none⟩), fun W hW => quiet_ok ?_, hK _ ?_⟩
      · have q := HX2.out W hW
        obtain ⟨⟨m0, m1, m2, m3⟩, ⟨z0, z1, z2, z3⟩⟩ := q
        go_simp
        all_goals (try omega)
      clear hK K
      simp only [Act.put, List.setIfInBounds_toArray, List.set_cons_succ, List.set_cons_zero]
      refine wpQuiet_step (fun K hK => ?_)
      rw [if_pos (by rfl)]
      refine ⟨.string ⟨xn.toArray⟩, fun W hW => quiet_ok ?_, hK _ ?_⟩
      · have q := HX2.out W hW
        obtain ⟨⟨m0, m1, m2, m3⟩, ⟨z0, z1, z2, z3⟩⟩ := q
        go_simp
        all_goals (try omega)
      clear hK K
      simp only [Act.put, List.setIfInBounds_toArray, List.set_cons_succ, List.set_cons_zero]
      refine wpQuiet_step (fun K hK => ?_)
      rw [if_pos (by rfl)]
      refine ⟨.bool true, fun W hW => quiet_ok ?_, hK _ ?_⟩
      · have q := HX2.out W hW
        obtain ⟨⟨m0, m1, m2, m3⟩, ⟨z0, z1, z2, z3⟩⟩ := q
        go_simp
        all_goals (try omega)
      clear hK K
      simp only [Act.put, List.setIfInBounds_toArray, List.set_cons_succ, List.set_cons_zero]
      refine wpQuiet_step (fun K hK => ?_)
      rw [if_pos (by rfl)]
      refine ⟨.bool true, fun W hW => quiet_ok ?_, hK _ ?_⟩
      · have q := HX2.out W hW
        obtain ⟨⟨m0, m1, m2, m3⟩, ⟨z0, z1, z2, z3⟩⟩ := q
        go_simp
        all_goals (try omega)
      clear hK K
      simp only [Act.put, List.setIfInBounds_toArray, List.set_cons_succ, List.set_cons_zero]
      refine wpQuiet_step (fun K hK => ?_)
      rw [if_pos (by rfl)]
      refine ⟨.bool u26, fun W hW => quiet_ok ?_, hK _ ?_⟩
      · have q := HX2.out W hW
        obtain ⟨⟨m0, m1, m2, m3⟩, ⟨z0, z1, z2, z3⟩⟩ := q
        have v26 := HU26.out
        go_simp
        all_goals (try omega)
      clear hK K
      simp only [Act.put, List.setIfInBounds_toArray, List.set_cons_succ, List.set_cons_zero]
      refine BigFrame.wpQuiet_skip (by show (some u26 == some false) = false; rw [HU26.out]; rfl) ?_
      simp only [Act.put, List.setIfInBounds_toArray, List.set_cons_succ, List.set_cons_zero]
      refine BigFrame.wpQuiet_skip (by show (some u26 == some false) = false; rw [HU26.out]; rfl) ?_
      simp only [Act.put, List.setIfInBounds_toArray, List.set_cons_succ, List.set_cons_zero]
      refine BigFrame.wpQuiet_skip (by show (some u26 == some false) = false; rw [HU26.out]; rfl) ?_
      simp only [Act.put, List.setIfInBounds_toArray, List.set_cons_succ, List.set_cons_zero]
      refine BigFrame.wpQuiet_skip (by show (some u26 == some false) = false; rw [HU26.out]; rfl) ?_
      simp only [Act.put, List.setIfInBounds_toArray, List.set_cons_succ, List.set_cons_zero]
      refine BigFrame.wpQuiet_skip (by show (some u26 == some false) = false; rw [HU26.out]; rfl) ?_
      simp only [Act.put, List.setIfInBounds_toArray, List.set_cons_succ, List.set_cons_zero]
      refine BigFrame.wpQuiet_skip (by show (some u26 == some false) = false; rw [HU26.out]; rfl) ?_
      simp only [Act.put, List.setIfInBounds_toArray, List.set_cons_succ, List.set_cons_zero]
      refine BigFrame.wpQuiet_skip (by show (some u26 == some false) = false; rw [HU26.out]; rfl) ?_
      simp only [Act.put, List.setIfInBounds_toArray, List.set_cons_succ, List.set_cons_zero]
      refine BigFrame.wpQuiet_skip (by show (some u26 == some false) = false; rw [HU26.out]; rfl) ?_
      simp only [Act.put, List.setIfInBounds_toArray, List.set_cons_succ, List.set_cons_zero]
      refine wpQuiet_step (fun K hK => ?_)
      rw [if_pos (by rfl)]
      refine ⟨.bool true, fun W hW => quiet_ok ?_, hK _ ?_⟩
      · have q := HX2.out W hW
        obtain ⟨⟨m0, m1, m2, m3⟩, ⟨z0, z1, z2, z3⟩⟩ := q
        have v26 := HU26.out
        go_simp
        all_goals (try omega)
      clear hK K
      simp only [Act.put, List.setIfInBounds_toArray, List.set_cons_succ, List.set_cons_zero]
      refine wpQuiet_nil ?_
      intro W hW
      have HBW : Hid (Bld W base (.slice (some ⟨g, 0, none⟩) n cap) (A ++ [((sn, st, sl, sd), dv)])) := HBC.out.kept hW
      have hS0 : W.drew.heap[w.heap.size]? = some (.cells #[.string ⟨xn.toArray⟩, .int .i64 xt, .int .i64 xl, .string ⟨xd.toArray⟩] 43) ∧ Below w0.heap.size w0 W.drew := HSB.out _ _ (HSC.out W hW) ((Below.refl _ _).drew)
      have HT0 : Hid (∀ x : SetT × Value, x ∈ (A ++ [((sn, st, sl, sd), dv)]) → ∀ q, x.2.ownBlock = some q → q < W.heap.size) := fun x hx q hq => by
        obtain ⟨q2, h1, _, h3⟩ := HBW.out.data hx
        rw [hq] at h1
        cases h1
        exact h3
      have HGR : Hid (grp (List.map (fun x : SetT × Value => x.1) (A ++ [((sn, st, sl, sd), dv)])) (xn, xt, xl, xd) = some (List.map (fun x : SetT × Value => x.1) (A ++ [((sn, st, sl, sd), dv)]) ++ [newT (xn, xt, xl, xd)])) := by
              show _ = _
              rw [List.map_append]; exact grp_new (fun h => HNE.out h.1)
      have hzW : base ≤ W.heap.size := Nat.le_trans hbw (Nat.le_of_lt (lt_of_heap (HSC.out W hW).1))
      have HDR : Hid (Below W.heap.size W W.drew) := (Below.refl _ _).drew
      have hCW := rec4_cells (HSC.out W hW).1
      obtain ⟨y0, y1, y2, y3⟩ := hCW
      go_wp2_with fail
      clear y0 y1 y2 y3
      refine wp_region_held_drew (S := fun X : World => X.heap[w.heap.size]? = some (.cells #[.string ⟨xn.toArray⟩, .int .i64 xt, .int .i64 xl, .string ⟨xd.toArray⟩] 43) ∧ Below w0.heap.size w0 X) (by kernel_rfl) hS0 (fun hHeld => ?_)
      refine wpAnyH_take (i := 0) (v := .slice (some ⟨g, 0, none⟩) n cap) rfl (by kernel_rfl) (by kernel_rfl) (by kernel_rfl) (fun _ _ _ h => h) (Or.inl ⟨by rfl, ?_⟩) (by assumption) ?_
      · intro X hSX
        go_simp
      simp only [Act.put, List.getElem_toArray, List.getElem_cons_zero, List.setIfInBounds_toArray, List.set_cons_succ, List.set_cons_zero]
      refine wpAnyH_take (i := 1) (v := .pointer (some ⟨w.heap.size, 0, none⟩)) rfl (by kernel_rfl) (by kernel_rfl) (by kernel_rfl) (fun _ _ _ h => h) (Or.inl ⟨by rfl, ?_⟩) (by assumption) ?_
      · intro X hSX
        go_simp
      simp only [Act.put, List.getElem_toArray, List.getElem_cons_succ, List.getElem_cons_zero, List.setIfInBounds_toArray, List.set_cons_succ, List.set_cons_zero]
      refine wpAnyH_take (i := 2) (v := .string ⟨xn.toArray⟩) rfl (by kernel_rfl) (by kernel_rfl) (by kernel_rfl) (fun _ _ _ h => h) (Or.inl ⟨by rfl, ?_⟩) (by assumption) ?_
      · intro X hSX
        obtain ⟨q0, q1, q2, q3⟩ := rec4_cells hSX.1
        go_simp
      simp only [Act.put, List.getElem_toArray, List.getElem_cons_succ, List.getElem_cons_zero, List.setIfInBounds_toArray, List.set_cons_succ, List.set_cons_zero]
      refine wpAnyH_take (i := 4) (v := .pointer (some ⟨w.heap.size, 1, none⟩)) rfl (by kernel_rfl) (by kernel_rfl) (by kernel_rfl) (fun _ _ _ h => h) (Or.inl ⟨by rfl, ?_⟩) (by assumption) ?_
      · intro X hSX
        go_simp
      simp only [Act.put, List.getElem_toArray, List.getElem_cons_succ, List.getElem_cons_zero, List.setIfInBounds_toArray, List.set_cons_succ, List.set_cons_zero]
      refine wpAnyH_take (i := 5) (v := .int .i64 xt) rfl (by kernel_rfl) (by kernel_rfl) (by kernel_rfl) (fun _ _ _ h => h) (Or.inl ⟨by rfl, ?_⟩) (by assumption) ?_
      · intro X hSX
        obtain ⟨q0, q1, q2, q3⟩ := rec4_cells hSX.1
        go_simp
      simp only [Act.put, List.getElem_toArray, List.getElem_cons_succ, List.getElem_cons_zero, List.setIfInBounds_toArray, List.set_cons_succ, List.set_cons_zero]
      refine wpAnyH_take (i := 6) (v := .pointer (some ⟨w.heap.size, 2, none⟩)) rfl (by kernel_rfl) (by kernel_rfl) (by kernel_rfl) (fun _ _ _ h => h) (Or.inl ⟨by rfl, ?_⟩) (by assumption) ?_
      · intro X hSX
        go_simp
      simp only [Act.put, List.getElem_toArray, List.getElem_cons_succ, List.getElem_cons_zero, List.setIfInBounds_toArray, List.set_cons_succ, List.set_cons_zero]
      refine wpAnyH_take (i := 7) (v := .int .i64 xl) rfl (by kernel_rfl) (by kernel_rfl) (by kernel_rfl) (fun _ _ _ h => h) (Or.inl ⟨by rfl, ?_⟩) (by assumption) ?_
      · intro X hSX
        obtain ⟨q0, q1, q2, q3⟩ := rec4_cells hSX.1
        go_simp
      simp only [Act.put, List.getElem_toArray, List.getElem_cons_succ, List.getElem_cons_zero, List.setIfInBounds_toArray, List.set_cons_succ, List.set_cons_zero]
      refine wpAnyH_take (i := 8) (v := .string ⟨xd.toArray⟩) rfl (by kernel_rfl) (by kernel_rfl) (by kernel_rfl) (fun _ _ _ h => h) (Or.inl ⟨by rfl, ?_⟩) (by assumption) ?_
      · intro X hSX
        go_simp
      simp only [Act.put, List.getElem_toArray, List.getElem_cons_succ, List.getElem_cons_zero, List.setIfInBounds_toArray, List.set_cons_succ, List.set_cons_zero]
      refine wpAnyH_ready (rs := [3, 9]) (by kernel_rfl) (by simp) ?_
      refine AllReadyH.cons rfl (fun K hK => ?_) (AllReadyH.cons rfl (fun K hK => ?_) AllReadyH.nil)
      · rw [if_pos (by rfl)]
        go_simp
        refine (HCN.out _).mono ?_
        rintro e w5 ⟨rfl, hb5⟩
        go_simp
        have hS1 := HSB.out _ _ hS0 hb5
        have hbW5 : Below W.heap.size W w5 := HDR.out.trans (hb5.mono HDR.out.size)
        refine hK.out _ _ hS1 (fun hSS => ?_)
        clear hK
        refine wpAnyH_ready (rs := [9]) (by kernel_rfl) (by simp) ?_
        refine AllReadyH.cons rfl (fun K hK => ?_) AllReadyH.nil
        rw [if_pos (by rfl)]
        go_simp
        have hS2 := HSB.out _ _ hS1 ((Below.refl w5.heap.size w5).alloc (Nat.le_refl _) (.cells #[.string ⟨xd.toArray⟩] 9))
        refine hK.out _ _ hS2 (fun hSS => ?_)
        clear hK
        obtain ⟨t, ht⟩ : ∃ t, t = w5.heap.size := ⟨_, rfl⟩
        obtain ⟨w3, hw3⟩ : ∃ W3, W3 = w5.alloc (.cells #[.string ⟨xd.toArray⟩] 9) := ⟨_, rfl⟩
        have HB3 : Hid (Bld w3 base (.slice (some ⟨g, 0, none⟩) n cap) (A ++ [((sn, st, sl, sd), dv)])) := by
          have h : Bld w3 base (.slice (some ⟨g, 0, none⟩) n cap) (A ++ [((sn, st, sl, sd), dv)]) := by rw [hw3]; exact (HBW.out.kept hbW5).alloc _
          exact h
        have HO3 : Hid (w3.ownsRow base 9 1 (.slice (some ⟨t, 0, none⟩) 1 1) 1 [S xd]) := by
          have h : w3.ownsRow base 9 1 (.slice (some ⟨t, 0, none⟩) 1 1) 1 [S xd] := by rw [hw3, ht]; exact own_lit9 w5 xd (Nat.le_trans hzW hbW5.size)
          exact h
        have HT3 : Hid (∀ x : SetT × Value, x ∈ (A ++ [((sn, st, sl, sd), dv)]) → ∀ q, x.2.ownBlock = some q → q < t) := fun x hx q hq => by rw [ht]; exact Nat.lt_of_lt_of_le (HT0.out x hx q hq) hbW5.size
        have hS3 : w3.heap[w.heap.size]? = some (.cells #[.string ⟨xn.toArray⟩, .int .i64 xt, .int .i64 xl, .string ⟨xd.toArray⟩] 43) ∧ Below w0.heap.size w0 w3 := by rw [hw3]; exact hS2
        have hw3z : base ≤ w3.heap.size := by rw [hw3]; simp; exact Nat.le_succ_of_le (Nat.le_trans hzW hbW5.size)
        rw [← ht, ← hw3]
        clear hS0 hS1 hS2 hb5 hbW5 ht hw3 HT0 HBW hSS
        refine wpAnyH_take (i := 10) (v := .agg #[.string ⟨xn.toArray⟩, .int .i64 xt, .int .i64 xl, .slice (some ⟨t, 0, none⟩) 1 1]) rfl (by kernel_rfl) (by kernel_rfl) (by kernel_rfl) (fun _ _ _ h => h) (Or.inl ⟨by rfl, ?_⟩) (by assumption) ?_
        · intro X hSX
          go_simp
        simp only [Act.put, List.getElem_toArray, List.getElem_cons_succ, List.getElem_cons_zero, List.setIfInBounds_toArray, List.set_cons_succ, List.set_cons_zero]
        refine wpAnyH_ready (rs := [11]) (by kernel_rfl) (by simp) ?_
        refine AllReadyH.cons rfl (fun K hK => ?_) AllReadyH.nil
        rw [if_pos (by rfl)]
        go_simp
        have hS5 := HSB.out _ _ hS3 ((Below.refl w3.heap.size w3).alloc (Nat.le_refl _) (.cells #[.string ⟨xn.toArray⟩, .int .i64 xt, .int .i64 xl, .slice (some ⟨t, 0, none⟩) 1 1] 55))
        refine hK.out _ _ hS5 (fun hSS => ?_)
        clear hK
        refine wpAnyH_ready (rs := [12]) (by kernel_rfl) (by simp) ?_
        refine AllReadyH.cons rfl (fun K hK => ?_) AllReadyH.nil
        rw [if_pos (by rfl)]
        obtain ⟨i0, hi, hz0, hz1, hz2⟩ := info_parts info_set
        have hlen := HLEN.out
        refine wp_append_own _ (.tmp 36) (.tmp 47) 24 rfl base 55 i0 _ 4 56 Tryz.underlying24 hi hz0 hz1 hz2 rfl (by decide) _ _ _ rfl (HB3.out.1.alloc _) ⟨w3.heap.size, 0, none⟩ 1 1 (scs ((xn, xt, xl, [xd]), .slice (some ⟨t, 0, none⟩) 1 1)) rfl rfl (set_new w3 _ _ rfl) (scs_one _ rfl) (by unfold maxLen; omega) (by omega) (by simp; omega) ?_
        intro v4 w4 hown4 hgr4 _
        have HB4 : Hid (Bld w4 base v4 ((A ++ [((sn, st, sl, sd), dv)]) ++ [((xn, xt, xl, [xd]), .slice (some ⟨t, 0, none⟩) 1 1)])) := (HB3.out.alloc _).add (xn, xt, xl, [xd]) xd rfl HT3.out (HO3.out.alloc _) (by first | exact hown4 | (rw [List.length_append]; exact hown4)) hgr4
        have hS6 : w4.heap[w.heap.size]? = some (.cells #[.string ⟨xn.toArray⟩, .int .i64 xt, .int .i64 xl, .string ⟨xd.toArray⟩] 43) ∧ Below w0.heap.size w0 w4 := ⟨(hgr4.block w.heap.size (lt_of_heap hS5.1) (fun e => HGN.out _ e.symm rfl)).trans hS5.1, hS5.2.grown hgr4 hS5.2.size (fun j hj => Nat.le_trans hbase (HB3.out.1.lt j hj).1)⟩
        have HS6 : Hid (Below w0.heap.size w0 w4) := hS6.2
        obtain ⟨a4, c4, hv4, _, _⟩ := HB4.out.shape
        obtain ⟨n4, hn4⟩ : ∃ n4, n4 = ((A ++ [((sn, st, sl, sd), dv)]) ++ [((xn, xt, xl, [xd]), (Value.slice (some ⟨t, 0, none⟩) 1 1))]).length := ⟨_, rfl⟩
        rw [← hn4] at hv4
        subst hv4
        clear hown4 hgr4 HB3 HO3 HT3 hn4
        refine hK.out _ _ hS6 (fun hSS => ?_)
        clear hK
        refine wpAnyH_take (i := 13) (v := .slice a4 n4 c4) rfl (by kernel_rfl) (by kernel_rfl) (by kernel_rfl) (fun _ _ _ h => h) (Or.inl ⟨by rfl, ?_⟩) (by assumption) ?_
        · intro X hSX
          go_simp
        simp only [Act.put, List.getElem_toArray, List.getElem_cons_succ, List.getElem_cons_zero, List.setIfInBounds_toArray, List.set_cons_succ, List.set_cons_zero]
        refine wpAnyH_take (i := 14) (v := .bool true) rfl (by kernel_rfl) (by kernel_rfl) (by kernel_rfl) (fun _ _ _ h => h) (Or.inl ⟨by rfl, ?_⟩) (by assumption) ?_
        · intro X hSX
          go_simp
        simp only [Act.put, List.getElem_toArray, List.getElem_cons_succ, List.getElem_cons_zero, List.setIfInBounds_toArray, List.set_cons_succ, List.set_cons_zero]
        refine wpAnyH_done (by kernel_rfl) ?_ _
        clear hSS hS6
        go_wp2_with fail
        go_ret2
        refine ⟨?_, HS6.out⟩
        rw [HGR.out]
        exact ⟨_, _, by rw [List.map_append]; rfl, rfl, HB4.out⟩
      · rw [if_pos (by rfl)]
        go_simp
        have hS2 := HSB.out _ _ hS0 ((Below.refl W.drew.heap.size W.drew).alloc (Nat.le_refl _) (.cells #[.string ⟨xd.toArray⟩] 9))
        refine hK.out _ _ hS2 (fun hSS => ?_)
        clear hK
        refine wpAnyH_ready (rs := [3]) (by kernel_rfl) (by simp) ?_
        refine AllReadyH.cons rfl (fun K hK => ?_) AllReadyH.nil
        rw [if_pos (by rfl)]
        go_simp
        refine (HCN.out _).mono ?_
        rintro e w3 ⟨rfl, hb5⟩
        go_simp
        have hS3 := HSB.out _ _ hS2 hb5
        refine hK.out _ _ hS3 (fun hSS => ?_)
        clear hK
        have HB3 : Hid (Bld w3 base (.slice (some ⟨g, 0, none⟩) n cap) (A ++ [((sn, st, sl, sd), dv)])) := ((HBW.out.kept HDR.out).alloc _).kept hb5
        have HO3 : Hid (w3.ownsRow base 9 1 (.slice (some ⟨W.heap.size, 0, none⟩) 1 1) 1 [S xd]) := own_below (own_lit9 W.drew xd (by simpa using hzW)) hb5
        have HT3 : Hid (∀ x : SetT × Value, x ∈ (A ++ [((sn, st, sl, sd), dv)]) → ∀ q, x.2.ownBlock = some q → q < W.heap.size) := HT0
        have hw3z : base ≤ w3.heap.size := Nat.le_trans hzW (Nat.le_trans (by simp) hb5.size)
        clear hS0 hS2 hb5 HT0 HBW hSS
        refine wpAnyH_take (i := 10) (v := .agg #[.string ⟨xn.toArray⟩, .int .i64 xt, .int .i64 xl, .slice (some ⟨W.heap.size, 0, none⟩) 1 1]) rfl (by kernel_rfl) (by kernel_rfl) (by kernel_rfl) (fun _ _ _ h => h) (Or.inl ⟨by rfl, ?_⟩) (by assumption) ?_
        · intro X hSX
          go_simp
        simp only [Act.put, List.getElem_toArray, List.getElem_cons_succ, List.getElem_cons_zero, List.setIfInBounds_toArray, List.set_cons_succ, List.set_cons_zero]
        refine wpAnyH_ready (rs := [11]) (by kernel_rfl) (by simp) ?_
        refine AllReadyH.cons rfl (fun K hK => ?_) AllReadyH.nil
        rw [if_pos (by rfl)]
        go_simp
        have hS5 := HSB.out _ _ hS3 ((Below.refl w3.heap.size w3).alloc (Nat.le_refl _) (.cells #[.string ⟨xn.toArray⟩, .int .i64 xt, .int .i64 xl, .slice (some ⟨W.heap.size, 0, none⟩) 1 1] 55))
        refine hK.out _ _ hS5 (fun hSS => ?_)
        clear hK
        refine wpAnyH_ready (rs := [12]) (by kernel_rfl) (by simp) ?_
        refine AllReadyH.cons rfl (fun K hK => ?_) AllReadyH.nil
        rw [if_pos (by rfl)]
        obtain ⟨i0, hi, hz0, hz1, hz2⟩ := info_parts info_set
        have hlen := HLEN.out
        refine wp_append_own _ (.tmp 36) (.tmp 47) 24 rfl base 55 i0 _ 4 56 Tryz.underlying24 hi hz0 hz1 hz2 rfl (by decide) _ _ _ rfl (HB3.out.1.alloc _) ⟨w3.heap.size, 0, none⟩ 1 1 (scs ((xn, xt, xl, [xd]), .slice (some ⟨W.heap.size, 0, none⟩) 1 1)) rfl rfl (set_new w3 _ _ rfl) (scs_one _ rfl) (by unfold maxLen; omega) (by omega) (by simp; omega) ?_
        intro v4 w4 hown4 hgr4 _
        have HB4 : Hid (Bld w4 base v4 ((A ++ [((sn, st, sl, sd), dv)]) ++ [((xn, xt, xl, [xd]), .slice (some ⟨W.heap.size, 0, none⟩) 1 1)])) := (HB3.out.alloc _).add (xn, xt, xl, [xd]) xd rfl HT3.out (HO3.out.alloc _) (by first | exact hown4 | (rw [List.length_append]; exact hown4)) hgr4
        have hS6 : w4.heap[w.heap.size]? = some (.cells #[.string ⟨xn.toArray⟩, .int .i64 xt, .int .i64 xl, .string ⟨xd.toArray⟩] 43) ∧ Below w0.heap.size w0 w4 := ⟨(hgr4.block w.heap.size (lt_of_heap hS5.1) (fun e => HGN.out _ e.symm rfl)).trans hS5.1, hS5.2.grown hgr4 hS5.2.size (fun j hj => Nat.le_trans hbase (HB3.out.1.lt j hj).1)⟩
        have HS6 : Hid (Below w0.heap.size w0 w4) := hS6.2
        obtain ⟨a4, c4, hv4, _, _⟩ := HB4.out.shape
        obtain ⟨n4, hn4⟩ : ∃ n4, n4 = ((A ++ [((sn, st, sl, sd), dv)]) ++ [((xn, xt, xl, [xd]), (Value.slice (some ⟨W.heap.size, 0, none⟩) 1 1))]).length := ⟨_, rfl⟩
        rw [← hn4] at hv4
        subst hv4
        clear hown4 hgr4 HB3 HO3 HT3 hn4
        refine hK.out _ _ hS6 (fun hSS => ?_)
        clear hK
        refine wpAnyH_take (i := 13) (v := .slice a4 n4 c4) rfl (by kernel_rfl) (by kernel_rfl) (by kernel_rfl) (fun _ _ _ h => h) (Or.inl ⟨by rfl, ?_⟩) (by assumption) ?_
        · intro X hSX
          go_simp
        simp only [Act.put, List.getElem_toArray, List.getElem_cons_succ, List.getElem_cons_zero, List.setIfInBounds_toArray, List.set_cons_succ, List.set_cons_zero]
        refine wpAnyH_take (i := 14) (v := .bool true) rfl (by kernel_rfl) (by kernel_rfl) (by kernel_rfl) (fun _ _ _ h => h) (Or.inl ⟨by rfl, ?_⟩) (by assumption) ?_
        · intro X hSX
          go_simp
        simp only [Act.put, List.getElem_toArray, List.getElem_cons_succ, List.getElem_cons_zero, List.setIfInBounds_toArray, List.set_cons_succ, List.set_cons_zero]
        refine wpAnyH_done (by kernel_rfl) ?_ _
        clear hSS hS6
        go_wp2_with fail
        go_ret2
        refine ⟨?_, HS6.out⟩
        rw [HGR.out]
        exact ⟨_, _, by rw [List.map_append]; rfl, rfl, HB4.out⟩
    have e1 : (sn == xn) = true := by simpa using h1
    have e1' : (sn != xn) = false := by simpa using h1
    have HS1N : Hid (sn = xn) := h1
    clear h1
    by_cases h2 : st = xt
    case neg =>
      have e2 : (st == xt) = false := by simpa using h2
      have e2' : (st != xt) = true := by simpa using h2
      have HNE : Hid (¬ st = xt) := h2
      clear h2
      go_enter Tryz.func29, Tryz.ntmps29
      go_wp2_with fail
      rw [HW1.out]
      refine (HCD.out _).mono ?_
      rintro e wc ⟨rfl, hbc⟩
      have HBC : Hid (Bld wc base (.slice (some ⟨g, 0, none⟩) n cap) (A ++ [((sn, st, sl, sd), dv)])) := HB1.out.kept hbc
      have HSC : Hid (∀ W, Below wc.heap.size wc W → W.heap[w.heap.size]? = some (.cells #[.string ⟨xn.toArray⟩, .int .i64 xt, .int .i64 xl, .string ⟨xd.toArray⟩] 43) ∧ Below w0.heap.size w0 W) := fun W hW => HSB.out _ _ (HSB.out _ _ HS1.out hbc) hW
      have hbd : Below wc.heap.size wc wc.drew := (Below.refl _ _).drew
      have HX2 : Hid (∀ W, Below wc.heap.size wc W → (W.cell? ⟨w.heap.size, 0, none⟩ = some (.string ⟨xn.toArray⟩) ∧ W.cell? ⟨w.heap.size, 1, none⟩ = some (.int .i64 xt) ∧ W.cell? ⟨w.heap.size, 2, none⟩ = some (.int .i64 xl) ∧ W.cell? ⟨w.heap.size, 3, none⟩ = some (.string ⟨xd.toArray⟩)) ∧ (W.cell? ⟨g, m * 4, none⟩ = some (.string ⟨sn.toArray⟩) ∧ W.cell? ⟨g, m * 4 + 1, none⟩ = some (.int .i64 st) ∧ W.cell? ⟨g, m * 4 + 2, none⟩ = some (.int .i64 sl) ∧ W.cell? ⟨g, m * 4 + 3, none⟩ = some (dv))) := fun W hW => by
        have h2 := HBC.out.kept hW
        rw [HNM.out] at h2
        have h3 := h2.cells
        rw [← HMM.out] at h3
        exact ⟨rec4_cells (HSC.out W hW).1, h3.1⟩
      go_wp2_with fail
      refine wp_region_quiet (C := fun W => Below wc.heap.size wc W) (by kernel_rfl) (by kernel_rfl) hbd ?_
      refine wpQuiet_step (fun K hK => ?_)
      rw [if_pos (by rfl)]
      refine ⟨.int .i64 (m : Int), fun W hW => quiet_ok ?_, hK _ ?_⟩
      · have q := HX2.out W hW
        obtain ⟨⟨m0, m1, m2, m3⟩, ⟨z0, z1, z2, z3⟩⟩ := q
        go_simp
        all_goals (try omega)
      clear hK K
      simp only [Act.put, List.setIfInBounds_toArray, List.set_cons_succ, List.set_cons_zero]
      refine wpQuiet_step (fun K hK => ?_)
      rw [if_pos (by rfl)]
      refine ⟨.bool false, fun W hW => quiet_ok ?_, hK _ ?_⟩
      · have q := HX2.out W hW
        obtain ⟨⟨m0, m1, m2, m3⟩, ⟨z0, z1, z2, z3⟩⟩ := q
        go_simp
        all_goals (try omega)
      clear hK K
      simp only [Act.put, List.setIfInBounds_toArray, List.set_cons_succ, List.set_cons_zero]
      refine wpQuiet_step (fun K hK => ?_)
      rw [if_pos (by rfl)]
      refine ⟨.bool false, fun W hW => quiet_ok ?_, hK _ ?_⟩
      · have q := HX2.out W hW
        obtain ⟨⟨m0, m1, m2, m3⟩, ⟨z0, z1, z2, z3⟩⟩ := q
        go_simp
        all_goals (try omega)
      clear hK K
      simp only [Act.put, List.setIfInBounds_toArray, List.set_cons_succ, List.set_cons_zero]
      refine wpQuiet_step (fun K hK => ?_)
      rw [if_pos (by rfl)]
      refine ⟨.slice (some ⟨g, 0, none⟩) n cap, fun W hW => quiet_ok ?_, hK _ ?_⟩
      · have q := HX2.out W hW
        obtain ⟨⟨m0, m1, m2, m3⟩, ⟨z0, z1, z2, z3⟩⟩ := q
        go_simp
        all_goals (try omega)
      clear hK K
      simp only [Act.put, List.setIfInBounds_toArray, List.set_cons_succ, List.set_cons_zero]
      refine wpQuiet_step (fun K hK => ?_)
      rw [if_pos (by rfl)]
      refine ⟨.int .i64 (m : Int), fun W hW => quiet_ok ?_, hK _ ?_⟩
      · have q := HX2.out W hW
        obtain ⟨⟨m0, m1, m2, m3⟩, ⟨z0, z1, z2, z3⟩⟩ := q
        go_simp
        all_goals (try omega)
      clear hK K
      simp only [Act.put, List.setIfInBounds_toArray, List.set_cons_succ, List.set_cons_zero]
      refine wpQuiet_step (fun K hK => ?_)
      rw [if_pos (by rfl)]
      refine ⟨.pointer (some ⟨g, m * 4, none⟩), fun W hW => quiet_ok ?_, hK _ ?_⟩
      · have q := HX2.out W hW
        obtain ⟨⟨m0, m1, m2, m3⟩, ⟨z0, z1, z2, z3⟩⟩ := q
        go_simp
        all_goals (try omega)
      clear hK K
      simp only [Act.put, List.setIfInBounds_toArray, List.set_cons_succ, List.set_cons_zero]
      refine wpQuiet_step (fun K hK => ?_)
      rw [if_pos (by rfl)]
      refine ⟨.pointer (some ⟨g, m * 4, none⟩), fun W hW => quiet_ok ?_, hK _ ?_⟩
      · have q := HX2.out W hW
        obtain ⟨⟨m0, m1, m2, m3⟩, ⟨z0, z1, z2, z3⟩⟩ := q
        go_simp
        all_goals (try omega)
      clear hK K
      simp only [Act.put, List.setIfInBounds_toArray, List.set_cons_succ, List.set_cons_zero]
      refine wpQuiet_step (fun K hK => ?_)
      rw [if_pos (by rfl)]
      refine ⟨.string ⟨sn.toArray⟩, fun W hW => quiet_ok ?_, hK _ ?_⟩
      · have q := HX2.out W hW
        obtain ⟨⟨m0, m1, m2, m3⟩, ⟨z0, z1, z2, z3⟩⟩ := q
        go_simp
        all_goals (try omega)
      clear hK K
      simp only [Act.put, List.setIfInBounds_toArray, List.set_cons_succ, List.set_cons_zero]
      refine wpQuiet_step (fun K hK => ?_)
      rw [if_pos (by rfl)]
      refine ⟨.pointer (some ⟨w.heap.size, 0, none⟩), fun W hW => quiet_ok ?_, hK _ ?_⟩
      · have q := HX2.out W hW
        obtain ⟨⟨m0, m1, m2, m3⟩, ⟨z0, z1, z2, z3⟩⟩ := q
        go_simp
        all_goals (try omega)
      clear hK K
      simp only [Act.put, List.setIfInBounds_toArray, List.set_cons_succ, List.set_cons_zero]
      refine wpQuiet_step (fun K hK => ?_)
      rw [if_pos (by rfl)]
      refine ⟨.string ⟨xn.toArray⟩, fun W hW => quiet_ok ?_, hK _ ?_⟩
      · have q := HX2.out W hW
        obtain ⟨⟨m0, m1, m2, m3⟩, ⟨z0, z1, z2, z3⟩⟩ := q
        go_simp
        all_goals (try omega)
      clear hK K
      simp only [Act.put, List.setIfInBounds_toArray, List.set_cons_succ, List.set_cons_zero]
      refine wpQuiet_step (fun K hK => ?_)
      rw [if_pos (by rfl)]
      refine ⟨.bool false, fun W hW => quiet_ok ?_, hK _ ?_⟩
      · have q := HX2.out W hW
        obtain ⟨⟨m0, m1, m2, m3⟩, ⟨z0, z1, z2, z3⟩⟩ := q
        go_simp
        all_goals (try omega)
      clear hK K
      simp only [Act.put, List.setIfInBounds_toArray, List.set_cons_succ, List.set_cons_zero]
      refine wpQuiet_step (fun K hK => ?_)
      rw [if_pos (by rfl)]
      refine ⟨.bool false, fun W hW => quiet_ok ?_, hK _ ?_⟩
      · have q := HX2.out W hW
        obtain ⟨⟨m0, m1, m2, m3⟩, ⟨z0, z1, z2, z3⟩⟩ := q
        go_simp
        all_goals (try omega)
      clear hK K
      simp only [Act.put, List.setIfInBounds_toArray, List.set_cons_succ, List.set_cons_zero]
      refine wpQuiet_step (fun K hK => ?_)
      rw [if_pos (by rfl)]
      refine ⟨.bool false, fun W hW => quiet_ok ?_, hK _ ?_⟩
      · have q := HX2.out W hW
        obtain ⟨⟨m0, m1, m2, m3⟩, ⟨z0, z1, z2, z3⟩⟩ := q
        go_simp
        all_goals (try omega)
      clear hK K
      simp only [Act.put, List.setIfInBounds_toArray, List.set_cons_succ, List.set_cons_zero]
      refine wpQuiet_step (fun K hK => ?_)
      rw [if_pos (by rfl)]
      refine ⟨.slice (some ⟨g, 0, none⟩) n cap, fun W hW => quiet_ok ?_, hK _ ?_⟩
      · have q := HX2.out W hW
        obtain ⟨⟨m0, m1, m2, m3⟩, ⟨z0, z1, z2, z3⟩⟩ := q
        go_simp
        all_goals (try omega)
      clear hK K
      simp only [Act.put, List.setIfInBounds_toArray, List.set_cons_succ, List.set_cons_zero]
      refine wpQuiet_step (fun K hK => ?_)
      rw [if_pos (by rfl)]
      refine ⟨.int .i64 (m : Int), fun W hW => quiet_ok ?_, hK _ ?_⟩
      · have q := HX2.out W hW
        obtain ⟨⟨m0, m1, m2, m3⟩, ⟨z0, z1, z2, z3⟩⟩ := q
        go_simp
        all_goals (try omega)
      clear hK K
      simp only [Act.put, List.setIfInBounds_toArray, List.set_cons_succ, List.set_cons_zero]
      refine wpQuiet_step (fun K hK => ?_)
      rw [if_pos (by rfl)]
      refine ⟨.pointer (some ⟨g, m * 4, none⟩), fun W hW => quiet_ok ?_, hK _ ?_⟩
      · have q := HX2.out W hW
        obtain ⟨⟨m0, m1, m2, m3⟩, ⟨z0, z1, z2, z3⟩⟩ := q
        go_simp
        all_goals (try omega)
      clear hK K
      simp only [Act.put, List.setIfInBounds_toArray, List.set_cons_succ, List.set_cons_zero]
      refine wpQuiet_step (fun K hK => ?_)
      rw [if_pos (by rfl)]
      refine ⟨.pointer (some ⟨g, m * 4 + 1, none⟩), fun W hW => quiet_ok ?_, hK _ ?_⟩
      · have q := HX2.out W hW
        obtain ⟨⟨m0, m1, m2, m3⟩, ⟨z0, z1, z2, z3⟩⟩ := q
        go_simp
        all_goals (try omega)
      clear hK K
      simp only [Act.put, List.setIfInBounds_toArray, List.set_cons_succ, List.set_cons_zero]
      refine wpQuiet_step (fun K hK => ?_)
      rw [if_pos (by rfl)]
      refine ⟨.int .i64 st, fun W hW => quiet_ok ?_, hK _ ?_⟩
      · have q := HX2.out W hW
        obtain ⟨⟨m0, m1, m2, m3⟩, ⟨z0, z1, z2, z3⟩⟩ := q
        go_simp
        all_goals (try omega)
      clear hK K
      simp only [Act.put, List.setIfInBounds_toArray, List.set_cons_succ, List.set_cons_zero]
      refine wpQuiet_step (fun K hK => ?_)
      rw [if_pos (by rfl)]
      refine ⟨.pointer (some ⟨w.heap.size, 1, none⟩), fun W hW => quiet_ok ?_, hK _ ?_⟩
      · have q := HX2.out W hW
        obtain ⟨⟨m0, m1, m2, m3⟩, ⟨z0, z1, z2, z3⟩⟩ := q
        go_simp
        all_goals (try omega)
      clear hK K
      simp only [Act.put, List.setIfInBounds_toArray, List.set_cons_succ, List.set_cons_zero]
      refine wpQuiet_step (fun K hK => ?_)
      rw [if_pos (by rfl)]
      refine ⟨.int .i64 xt, fun W hW => quiet_ok ?_, hK _ ?_⟩
      · have q := HX2.out W hW
        obtain ⟨⟨m0, m1, m2, m3⟩, ⟨z0, z1, z2, z3⟩⟩ := q
        go_simp
        all_goals (try omega)
      clear hK K
      simp only [Act.put, List.setIfInBounds_toArray, List.set_cons_succ, List.set_cons_zero]
      refine wpQuiet_step (fun K hK => ?_)
      rw [if_pos (by rfl)]
      refine ⟨.bool true, fun W hW => quiet_ok ?_, hK _ ?_⟩
      · have q := HX2.out W hW
        obtain ⟨⟨m0, m1, m2, m3⟩, ⟨z0, z1, z2, z3⟩⟩ := q
        go_simp
        all_goals (try omega)
      clear hK K
      simp only [Act.put, List.setIfInBounds_toArray, List.set_cons_succ, List.set_cons_zero]
      refine wpQuiet_step (fun K hK => ?_)
      rw [if_pos (by rfl)]
      refine ⟨.bool true, fun W hW => quiet_ok ?_, hK _ ?_⟩
      · have q := HX2.out W hW
        obtain ⟨⟨m0, m1, m2, m3⟩, ⟨z0, z1, z2, z3⟩⟩ := q
        go_simp
        all_goals (try omega)
      clear hK K
      simp only [Act.put, List.setIfInBounds_toArray, List.set_cons_succ, List.set_cons_zero]
      refine wpQuiet_nil ?_
      intro W hW
      have HBW : Hid (Bld W base (.slice (some ⟨g, 0, none⟩) n cap) (A ++ [((sn, st, sl, sd), dv)])) := HBC.out.kept hW
      have hS0 : W.drew.heap[w.heap.size]? = some (.cells #[.string ⟨xn.toArray⟩, .int .i64 xt, .int .i64 xl, .string ⟨xd.toArray⟩] 43) ∧ Below w0.heap.size w0 W.drew := HSB.out _ _ (HSC.out W hW) ((Below.refl _ _).drew)
      have HT0 : Hid (∀ x : SetT × Value, x ∈ (A ++ [((sn, st, sl, sd), dv)]) → ∀ q, x.2.ownBlock = some q → q < W.heap.size) := fun x hx q hq => by
        obtain ⟨q2, h1, _, h3⟩ := HBW.out.data hx
        rw [hq] at h1
        cases h1
        exact h3
      have HGR : Hid (grp (List.map (fun x : SetT × Value => x.1) (A ++ [((sn, st, sl, sd), dv)])) (xn, xt, xl, xd) = some (List.map (fun x : SetT × Value => x.1) (A ++ [((sn, st, sl, sd), dv)]) ++ [newT (xn, xt, xl, xd)])) := by
              show _ = _
              rw [List.map_append]; exact grp_new (fun h => HNE.out h.2)
      have hzW : base ≤ W.heap.size := Nat.le_trans hbw (Nat.le_of_lt (lt_of_heap (HSC.out W hW).1))
      have HDR : Hid (Below W.heap.size W W.drew) := (Below.refl _ _).drew
      have hCW := rec4_cells (HSC.out W hW).1
      obtain ⟨y0, y1, y2, y3⟩ := hCW
      go_wp2_with fail
      clear y0 y1 y2 y3
      refine wp_region_held_drew (S := fun X : World => X.heap[w.heap.size]? = some (.cells #[.string ⟨xn.toArray⟩, .int .i64 xt, .int .i64 xl, .string ⟨xd.toArray⟩] 43) ∧ Below w0.heap.size w0 X) (by kernel_rfl) hS0 (fun hHeld => ?_)
      refine wpAnyH_take (i := 0) (v := .slice (some ⟨g, 0, none⟩) n cap) rfl (by kernel_rfl) (by kernel_rfl) (by kernel_rfl) (fun _ _ _ h => h) (Or.inl ⟨by rfl, ?_⟩) (by assumption) ?_
      · intro X hSX
        go_simp
      simp only [Act.put, List.getElem_toArray, List.getElem_cons_zero, List.setIfInBounds_toArray, List.set_cons_succ, List.set_cons_zero]
      refine wpAnyH_take (i := 1) (v := .pointer (some ⟨w.heap.size, 0, none⟩)) rfl (by kernel_rfl) (by kernel_rfl) (by kernel_rfl) (fun _ _ _ h => h) (Or.inl ⟨by rfl, ?_⟩) (by assumption) ?_
      · intro X hSX
        go_simp
      simp only [Act.put, List.getElem_toArray, List.getElem_cons_succ, List.getElem_cons_zero, List.setIfInBounds_toArray, List.set_cons_succ, List.set_cons_zero]
      refine wpAnyH_take (i := 2) (v := .string ⟨xn.toArray⟩) rfl (by kernel_rfl) (by kernel_rfl) (by kernel_rfl) (fun _ _ _ h => h) (Or.inl ⟨by rfl, ?_⟩) (by assumption) ?_
      · intro X hSX
        obtain ⟨q0, q1, q2, q3⟩ := rec4_cells hSX.1
        go_simp
      simp only [Act.put, List.getElem_toArray, List.getElem_cons_succ, List.getElem_cons_zero, List.setIfInBounds_toArray, List.set_cons_succ, List.set_cons_zero]
      refine wpAnyH_take (i := 4) (v := .pointer (some ⟨w.heap.size, 1, none⟩)) rfl (by kernel_rfl) (by kernel_rfl) (by kernel_rfl) (fun _ _ _ h => h) (Or.inl ⟨by rfl, ?_⟩) (by assumption) ?_
      · intro X hSX
        go_simp
      simp only [Act.put, List.getElem_toArray, List.getElem_cons_succ, List.getElem_cons_zero, List.setIfInBounds_toArray, List.set_cons_succ, List.set_cons_zero]
      refine wpAnyH_take (i := 5) (v := .int .i64 xt) rfl (by kernel_rfl) (by kernel_rfl) (by kernel_rfl) (fun _ _ _ h => h) (Or.inl ⟨by rfl, ?_⟩) (by assumption) ?_
      · intro X hSX
        obtain ⟨q0, q1, q2, q3⟩ := rec4_cells hSX.1
        go_simp
      simp only [Act.put, List.getElem_toArray, List.getElem_cons_succ, List.getElem_cons_zero, List.setIfInBounds_toArray, List.set_cons_succ, List.set_cons_zero]
      refine wpAnyH_take (i := 6) (v := .pointer (some ⟨w.heap.size, 2, none⟩)) rfl (by kernel_rfl) (by kernel_rfl) (by kernel_rfl) (fun _ _ _ h => h) (Or.inl ⟨by rfl, ?_⟩) (by assumption) ?_
      · intro X hSX
        go_simp
      simp only [Act.put, List.getElem_toArray, List.getElem_cons_succ, List.getElem_cons_zero, List.setIfInBounds_toArray, List.set_cons_succ, List.set_cons_zero]
      refine wpAnyH_take (i := 7) (v := .int .i64 xl) rfl (by kernel_rfl) (by kernel_rfl) (by kernel_rfl) (fun _ _ _ h => h) (Or.inl ⟨by rfl, ?_⟩) (by assumption) ?_
      · intro X hSX
        obtain ⟨q0, q1, q2, q3⟩ := rec4_cells hSX.1
        go_simp
      simp only [Act.put, List.getElem_toArray, List.getElem_cons_succ, List.getElem_cons_zero, List.setIfInBounds_toArray, List.set_cons_succ, List.set_cons_zero]
      refine wpAnyH_take (i := 8) (v := .string ⟨xd.toArray⟩) rfl (by kernel_rfl) (by kernel_rfl) (by kernel_rfl) (fun _ _ _ h => h) (Or.inl ⟨by rfl, ?_⟩) (by assumption) ?_
      · intro X hSX
        go_simp
      simp only [Act.put, List.getElem_toArray, List.getElem_cons_succ, List.getElem_cons_zero, List.setIfInBounds_toArray, List.set_cons_succ, List.set_cons_zero]
      refine wpAnyH_ready (rs := [3, 9]) (by kernel_rfl) (by simp) ?_
      refine AllReadyH.cons rfl (fun K hK => ?_) (AllReadyH.cons rfl (fun K hK => ?_) AllReadyH.nil)
      · rw [if_pos (by rfl)]
        go_simp
        refine (HCN.out _).mono ?_
        rintro e w5 ⟨rfl, hb5⟩
        go_simp
        have hS1 := HSB.out _ _ hS0 hb5
        have hbW5 : Below W.heap.size W w5 := HDR.out.trans (hb5.mono HDR.out.size)
        refine hK.out _ _ hS1 (fun hSS => ?_)
        clear hK
        refine wpAnyH_ready (rs := [9]) (by kernel_rfl) (by simp) ?_
        refine AllReadyH.cons rfl (fun K hK => ?_) AllReadyH.nil
        rw [if_pos (by rfl)]
        go_simp
        have hS2 := HSB.out _ _ hS1 ((Below.refl w5.heap.size w5).alloc (Nat.le_refl _) (.cells #[.string ⟨xd.toArray⟩] 9))
        refine hK.out _ _ hS2 (fun hSS => ?_)
        clear hK
        obtain ⟨t, ht⟩ : ∃ t, t = w5.heap.size := ⟨_, rfl⟩
        obtain ⟨w3, hw3⟩ : ∃ W3, W3 = w5.alloc (.cells #[.string ⟨xd.toArray⟩] 9) := ⟨_, rfl⟩
        have HB3 : Hid (Bld w3 base (.slice (some ⟨g, 0, none⟩) n cap) (A ++ [((sn, st, sl, sd), dv)])) := by
          have h : Bld w3 base (.slice (some ⟨g, 0, none⟩) n cap) (A ++ [((sn, st, sl, sd), dv)]) := by rw [hw3]; exact (HBW.out.kept hbW5).alloc _
          exact h
        have HO3 : Hid (w3.ownsRow base 9 1 (.slice (some ⟨t, 0, none⟩) 1 1) 1 [S xd]) := by
          have h : w3.ownsRow base 9 1 (.slice (some ⟨t, 0, none⟩) 1 1) 1 [S xd] := by rw [hw3, ht]; exact own_lit9 w5 xd (Nat.le_trans hzW hbW5.size)
          exact h
        have HT3 : Hid (∀ x : SetT × Value, x ∈ (A ++ [((sn, st, sl, sd), dv)]) → ∀ q, x.2.ownBlock = some q → q < t) := fun x hx q hq => by rw [ht]; exact Nat.lt_of_lt_of_le (HT0.out x hx q hq) hbW5.size
        have hS3 : w3.heap[w.heap.size]? = some (.cells #[.string ⟨xn.toArray⟩, .int .i64 xt, .int .i64 xl, .string ⟨xd.toArray⟩] 43) ∧ Below w0.heap.size w0 w3 := by rw [hw3]; exact hS2
        have hw3z : base ≤ w3.heap.size := by rw [hw3]; simp; exact Nat.le_succ_of_le (Nat.le_trans hzW hbW5.size)
        rw [← ht, ← hw3]
        clear hS0 hS1 hS2 hb5 hbW5 ht hw3 HT0 HBW hSS
        refine wpAnyH_take (i := 10) (v := .agg #[.string ⟨xn.toArray⟩, .int .i64 xt, .int .i64 xl, .slice (some ⟨t, 0, none⟩) 1 1]) rfl (by kernel_rfl) (by kernel_rfl) (by kernel_rfl) (fun _ _ _ h => h) (Or.inl ⟨by rfl, ?_⟩) (by assumption) ?_
        · intro X hSX
          go_simp
        simp only [Act.put, List.getElem_toArray, List.getElem_cons_succ, List.getElem_cons_zero, List.setIfInBounds_toArray, List.set_cons_succ, List.set_cons_zero]
        refine wpAnyH_ready (rs := [11]) (by kernel_rfl) (by simp) ?_
        refine AllReadyH.cons rfl (fun K hK => ?_) AllReadyH.nil
        rw [if_pos (by rfl)]
        go_simp
        have hS5 := HSB.out _ _ hS3 ((Below.refl w3.heap.size w3).alloc (Nat.le_refl _) (.cells #[.string ⟨xn.toArray⟩, .int .i64 xt, .int .i64 xl, .slice (some ⟨t, 0, none⟩) 1 1] 55))
        refine hK.out _ _ hS5 (fun hSS => ?_)
        clear hK
        refine wpAnyH_ready (rs := [12]) (by kernel_rfl) (by simp) ?_
        refine AllReadyH.cons rfl (fun K hK => ?_) AllReadyH.nil
        rw [if_pos (by rfl)]
        obtain ⟨i0, hi, hz0, hz1, hz2⟩ := info_parts info_set
        have hlen := HLEN.out
        refine wp_append_own _ (.tmp 36) (.tmp 47) 24 rfl base 55 i0 _ 4 56 Tryz.underlying24 hi hz0 hz1 hz2 rfl (by decide) _ _ _ rfl (HB3.out.1.alloc _) ⟨w3.heap.size, 0, none⟩ 1 1 (scs ((xn, xt, xl, [xd]), .slice (some ⟨t, 0, none⟩) 1 1)) rfl rfl (set_new w3 _ _ rfl) (scs_one _ rfl) (by unfold maxLen; omega) (by omega) (by simp; omega) ?_
        intro v4 w4 hown4 hgr4 _
        have HB4 : Hid (Bld w4 base v4 ((A ++ [((sn, st, sl, sd), dv)]) ++ [((xn, xt, xl, [xd]), .slice (some ⟨t, 0, none⟩) 1 1)])) := (HB3.out.alloc _).add (xn, xt, xl, [xd]) xd rfl HT3.out (HO3.out.alloc _) (by first | exact hown4 | (rw [List.length_append]; exact hown4)) hgr4
        have hS6 : w4.heap[w.heap.size]? = some (.cells #[.string ⟨xn.toArray⟩, .int .i64 xt, .int .i64 xl, .string ⟨xd.toArray⟩] 43) ∧ Below w0.heap.size w0 w4 := ⟨(hgr4.block w.heap.size (lt_of_heap hS5.1) (fun e => HGN.out _ e.symm rfl)).trans hS5.1, hS5.2.grown hgr4 hS5.2.size (fun j hj => Nat.le_trans hbase (HB3.out.1.lt j hj).1)⟩
        have HS6 : Hid (Below w0.heap.size w0 w4) := hS6.2
        obtain ⟨a4, c4, hv4, _, _⟩ := HB4.out.shape
        obtain ⟨n4, hn4⟩ : ∃ n4, n4 = ((A ++ [((sn, st, sl, sd), dv)]) ++ [((xn, xt, xl, [xd]), (Value.slice (some ⟨t, 0, none⟩) 1 1))]).length := ⟨_, rfl⟩
        rw [← hn4] at hv4
        subst hv4
        clear hown4 hgr4 HB3 HO3 HT3 hn4
        refine hK.out _ _ hS6 (fun hSS => ?_)
        clear hK
        refine wpAnyH_take (i := 13) (v := .slice a4 n4 c4) rfl (by kernel_rfl) (by kernel_rfl) (by kernel_rfl) (fun _ _ _ h => h) (Or.inl ⟨by rfl, ?_⟩) (by assumption) ?_
        · intro X hSX
          go_simp
        simp only [Act.put, List.getElem_toArray, List.getElem_cons_succ, List.getElem_cons_zero, List.setIfInBounds_toArray, List.set_cons_succ, List.set_cons_zero]
        refine wpAnyH_take (i := 14) (v := .bool true) rfl (by kernel_rfl) (by kernel_rfl) (by kernel_rfl) (fun _ _ _ h => h) (Or.inl ⟨by rfl, ?_⟩) (by assumption) ?_
        · intro X hSX
          go_simp
        simp only [Act.put, List.getElem_toArray, List.getElem_cons_succ, List.getElem_cons_zero, List.setIfInBounds_toArray, List.set_cons_succ, List.set_cons_zero]
        refine wpAnyH_done (by kernel_rfl) ?_ _
        clear hSS hS6
        go_wp2_with fail
        go_ret2
        refine ⟨?_, HS6.out⟩
        rw [HGR.out]
        exact ⟨_, _, by rw [List.map_append]; rfl, rfl, HB4.out⟩
      · rw [if_pos (by rfl)]
        go_simp
        have hS2 := HSB.out _ _ hS0 ((Below.refl W.drew.heap.size W.drew).alloc (Nat.le_refl _) (.cells #[.string ⟨xd.toArray⟩] 9))
        refine hK.out _ _ hS2 (fun hSS => ?_)
        clear hK
        refine wpAnyH_ready (rs := [3]) (by kernel_rfl) (by simp) ?_
        refine AllReadyH.cons rfl (fun K hK => ?_) AllReadyH.nil
        rw [if_pos (by rfl)]
        go_simp
        refine (HCN.out _).mono ?_
        rintro e w3 ⟨rfl, hb5⟩
        go_simp
        have hS3 := HSB.out _ _ hS2 hb5
        refine hK.out _ _ hS3 (fun hSS => ?_)
        clear hK
        have HB3 : Hid (Bld w3 base (.slice (some ⟨g, 0, none⟩) n cap) (A ++ [((sn, st, sl, sd), dv)])) := ((HBW.out.kept HDR.out).alloc _).kept hb5
        have HO3 : Hid (w3.ownsRow base 9 1 (.slice (some ⟨W.heap.size, 0, none⟩) 1 1) 1 [S xd]) := own_below (own_lit9 W.drew xd (by simpa using hzW)) hb5
        have HT3 : Hid (∀ x : SetT × Value, x ∈ (A ++ [((sn, st, sl, sd), dv)]) → ∀ q, x.2.ownBlock = some q → q < W.heap.size) := HT0
        have hw3z : base ≤ w3.heap.size := Nat.le_trans hzW (Nat.le_trans (by simp) hb5.size)
        clear hS0 hS2 hb5 HT0 HBW hSS
        refine wpAnyH_take (i := 10) (v := .agg #[.string ⟨xn.toArray⟩, .int .i64 xt, .int .i64 xl, .slice (some ⟨W.heap.size, 0, none⟩) 1 1]) rfl (by kernel_rfl) (by kernel_rfl) (by kernel_rfl) (fun _ _ _ h => h) (Or.inl ⟨by rfl, ?_⟩) (by assumption) ?_
        · intro X hSX
          go_simp
        simp only [Act.put, List.getElem_toArray, List.getElem_cons_succ, List.getElem_cons_zero, List.setIfInBounds_toArray, List.set_cons_succ, List.set_cons_zero]
        refine wpAnyH_ready (rs := [11]) (by kernel_rfl) (by simp) ?_
        refine AllReadyH.cons rfl (fun K hK => ?_) AllReadyH.nil
        rw [if_pos (by rfl)]
        go_simp
        have hS5 := HSB.out _ _ hS3 ((Below.refl w3.heap.size w3).alloc (Nat.le_refl _) (.cells #[.string ⟨xn.toArray⟩, .int .i64 xt, .int .i64 xl, .slice (some ⟨W.heap.size, 0, none⟩) 1 1] 55))
        refine hK.out _ _ hS5 (fun hSS => ?_)
        clear hK
        refine wpAnyH_ready (rs := [12]) (by kernel_rfl) (by simp) ?_
        refine AllReadyH.cons rfl (fun K hK => ?_) AllReadyH.nil
        rw [if_pos (by rfl)]
        obtain ⟨i0, hi, hz0, hz1, hz2⟩ := info_parts info_set
        have hlen := HLEN.out
        refine wp_append_own _ (.tmp 36) (.tmp 47) 24 rfl base 55 i0 _ 4 56 Tryz.underlying24 hi hz0 hz1 hz2 rfl (by decide) _ _ _ rfl (HB3.out.1.alloc _) ⟨w3.heap.size, 0, none⟩ 1 1 (scs ((xn, xt, xl, [xd]), .slice (some ⟨W.heap.size, 0, none⟩) 1 1)) rfl rfl (set_new w3 _ _ rfl) (scs_one _ rfl) (by unfold maxLen; omega) (by omega) (by simp; omega) ?_
        intro v4 w4 hown4 hgr4 _
        have HB4 : Hid (Bld w4 base v4 ((A ++ [((sn, st, sl, sd), dv)]) ++ [((xn, xt, xl, [xd]), .slice (some ⟨W.heap.size, 0, none⟩) 1 1)])) := (HB3.out.alloc _).add (xn, xt, xl, [xd]) xd rfl HT3.out (HO3.out.alloc _) (by first | exact hown4 | (rw [List.length_append]; exact hown4)) hgr4
        have hS6 : w4.heap[w.heap.size]? = some (.cells #[.string ⟨xn.toArray⟩, .int .i64 xt, .int .i64 xl, .string ⟨xd.toArray⟩] 43) ∧ Below w0.heap.size w0 w4 := ⟨(hgr4.block w.heap.size (lt_of_heap hS5.1) (fun e => HGN.out _ e.symm rfl)).trans hS5.1, hS5.2.grown hgr4 hS5.2.size (fun j hj => Nat.le_trans hbase (HB3.out.1.lt j hj).1)⟩
        have HS6 : Hid (Below w0.heap.size w0 w4) := hS6.2
        obtain ⟨a4, c4, hv4, _, _⟩ := HB4.out.shape
        obtain ⟨n4, hn4⟩ : ∃ n4, n4 = ((A ++ [((sn, st, sl, sd), dv)]) ++ [((xn, xt, xl, [xd]), (Value.slice (some ⟨W.heap.size, 0, none⟩) 1 1))]).length := ⟨_, rfl⟩
        rw [← hn4] at hv4
        subst hv4
        clear hown4 hgr4 HB3 HO3 HT3 hn4
        refine hK.out _ _ hS6 (fun hSS => ?_)
        clear hK
        refine wpAnyH_take (i := 13) (v := .slice a4 n4 c4) rfl (by kernel_rfl) (by kernel_rfl) (by kernel_rfl) (fun _ _ _ h => h) (Or.inl ⟨by rfl, ?_⟩) (by assumption) ?_
        · intro X hSX
          go_simp
        simp only [Act.put, List.getElem_toArray, List.getElem_cons_succ, List.getElem_cons_zero, List.setIfInBounds_toArray, List.set_cons_succ, List.set_cons_zero]
        refine wpAnyH_take (i := 14) (v := .bool true) rfl (by kernel_rfl) (by kernel_rfl) (by kernel_rfl) (fun _ _ _ h => h) (Or.inl ⟨by rfl, ?_⟩) (by assumption) ?_
        · intro X hSX
          go_simp
        simp only [Act.put, List.getElem_toArray, List.getElem_cons_succ, List.getElem_cons_zero, List.setIfInBounds_toArray, List.set_cons_succ, List.set_cons_zero]
        refine wpAnyH_done (by kernel_rfl) ?_ _
        clear hSS hS6
        go_wp2_with fail
        go_ret2
        refine ⟨?_, HS6.out⟩
        rw [HGR.out]
        exact ⟨_, _, by rw [List.map_append]; rfl, rfl, HB4.out⟩
    have e2 : (st == xt) = true := by simpa using h2
    have e2' : (st != xt) = false := by simpa using h2
    have HS2N : Hid (st = xt) := h2
    clear h2
    by_cases h3 : sl = xl
    · have e3 : (sl == xl) = true := by simpa using h3
      go_enter Tryz.func29, Tryz.ntmps29
      go_wp2_with fail
      rw [HW1.out]
      refine (HCD.out _).mono ?_
      rintro e wc ⟨rfl, hbc⟩
      have HBC : Hid (Bld wc base (.slice (some ⟨g, 0, none⟩) n cap) (A ++ [((sn, st, sl, sd), dv)])) := HB1.out.kept hbc
      have HSC : Hid (∀ W, Below wc.heap.size wc W → W.heap[w.heap.size]? = some (.cells #[.string ⟨xn.toArray⟩, .int .i64 xt, .int .i64 xl, .string ⟨xd.toArray⟩] 43) ∧ Below w0.heap.size w0 W) := fun W hW => HSB.out _ _ (HSB.out _ _ HS1.out hbc) hW
      have hbd : Below wc.heap.size wc wc.drew := (Below.refl _ _).drew
      have HX2 : Hid (∀ W, Below wc.heap.size wc W → (W.cell? ⟨w.heap.size, 0, none⟩ = some (.string ⟨xn.toArray⟩) ∧ W.cell? ⟨w.heap.size, 1, none⟩ = some (.int .i64 xt) ∧ W.cell? ⟨w.heap.size, 2, none⟩ = some (.int .i64 xl) ∧ W.cell? ⟨w.heap.size, 3, none⟩ = some (.string ⟨xd.toArray⟩)) ∧ (W.cell? ⟨g, m * 4, none⟩ = some (.string ⟨sn.toArray⟩) ∧ W.cell? ⟨g, m * 4 + 1, none⟩ = some (.int .i64 st) ∧ W.cell? ⟨g, m * 4 + 2, none⟩ = some (.int .i64 sl) ∧ W.cell? ⟨g, m * 4 + 3, none⟩ = some (dv))) := fun W hW => by
        have h2 := HBC.out.kept hW
        rw [HNM.out] at h2
        have h3 := h2.cells
        rw [← HMM.out] at h3
        exact ⟨rec4_cells (HSC.out W hW).1, h3.1⟩
      go_wp2_with fail
      refine wp_region_quiet (C := fun W => Below wc.heap.size wc W) (by kernel_rfl) (by kernel_rfl) hbd ?_
      refine wpQuiet_step (fun K hK => ?_)
      rw [if_pos (by rfl)]
      refine ⟨.int .i64 (m : Int), fun W hW => quiet_ok ?_, hK _ ?_⟩
      · have q := HX2.out W hW
        obtain ⟨⟨m0, m1, m2, m3⟩, ⟨z0, z1, z2, z3⟩⟩ := q
        go_simp
        all_goals (try omega)
      clear hK K
      simp only [Act.put, List.setIfInBounds_toArray, List.set_cons_succ, List.set_cons_zero]
      refine wpQuiet_step (fun K hK => ?_)
      rw [if_pos (by rfl)]
      refine ⟨.bool false, fun W hW => quiet_ok ?_, hK _ ?_⟩
      · have q := HX2.out W hW
        obtain ⟨⟨m0, m1, m2, m3⟩, ⟨z0, z1, z2, z3⟩⟩ := q
        go_simp
        all_goals (try omega)
      clear hK K
      simp only [Act.put, List.setIfInBounds_toArray, List.set_cons_succ, List.set_cons_zero]
      refine wpQuiet_step (fun K hK => ?_)
      rw [if_pos (by rfl)]
      refine ⟨.bool false, fun W hW => quiet_ok ?_, hK _ ?_⟩
      · have q := HX2.out W hW
        obtain ⟨⟨m0, m1, m2, m3⟩, ⟨z0, z1, z2, z3⟩⟩ := q
        go_simp
        all_goals (try omega)
      clear hK K
      simp only [Act.put, List.setIfInBounds_toArray, List.set_cons_succ, List.set_cons_zero]
      refine wpQuiet_step (fun K hK => ?_)
      rw [if_pos (by rfl)]
      refine ⟨.slice (some ⟨g, 0, none⟩) n cap, fun W hW => quiet_ok ?_, hK _ ?_⟩
      · have q := HX2.out W hW
        obtain ⟨⟨m0, m1, m2, m3⟩, ⟨z0, z1, z2, z3⟩⟩ := q
        go_simp
        all_goals (try omega)
      clear hK K
      simp only [Act.put, List.setIfInBounds_toArray, List.set_cons_succ, List.set_cons_zero]
      refine wpQuiet_step (fun K hK => ?_)
      rw [if_pos (by rfl)]
      refine ⟨.int .i64 (m : Int), fun W hW => quiet_ok ?_, hK _ ?_⟩
      · have q := HX2.out W hW
        obtain ⟨⟨m0, m1, m2, m3⟩, ⟨z0, z1, z2, z3⟩⟩ := q
        go_simp
        all_goals (try omega)
      clear hK K
      simp only [Act.put, List.setIfInBounds_toArray, List.set_cons_succ, List.set_cons_zero]
      refine wpQuiet_step (fun K hK => ?_)
      rw [if_pos (by rfl)]
      refine ⟨.pointer (some ⟨g, m * 4, none⟩), fun W hW => quiet_ok ?_, hK _ ?_⟩
      · have q := HX2.out W hW
        obtain ⟨⟨m0, m1, m2, m3⟩, ⟨z0, z1, z2, z3⟩⟩ := q
        go_simp
        all_goals (try omega)
      clear hK K
      simp only [Act.put, List.setIfInBounds_toArray, List.set_cons_succ, List.set_cons_zero]
      refine wpQuiet_step (fun K hK => ?_)
      rw [if_pos (by rfl)]
      refine ⟨.pointer (some ⟨g, m * 4, none⟩), fun W hW => quiet_ok ?_, hK _ ?_⟩
      · have q := HX2.out W hW
        obtain ⟨⟨m0, m1, m2, m3⟩, ⟨z0, z1, z2, z3⟩⟩ := q
        go_simp
        all_goals (try omega)
      clear hK K
      simp only [Act.put, List.setIfInBounds_toArray, List.set_cons_succ, List.set_cons_zero]
      refine wpQuiet_step (fun K hK => ?_)
      rw [if_pos (by rfl)]
      refine ⟨.string ⟨sn.toArray⟩, fun W hW => quiet_ok ?_, hK _ ?_⟩
      · have q := HX2.out W hW
        obtain ⟨⟨m0, m1, m2, m3⟩, ⟨z0, z1, z2, z3⟩⟩ := q
        go_simp
        all_goals (try omega)
      clear hK K
      simp only [Act.put, List.setIfInBounds_toArray, List.set_cons_succ, List.set_cons_zero]
      refine wpQuiet_step (fun K hK => ?_)
      rw [if_pos (by rfl)]
      refine ⟨.pointer (some ⟨w.heap.size, 0, none⟩), fun W hW => quiet_ok ?_, hK _ ?_⟩
      · have q := HX2.out W hW
        obtain ⟨⟨m0, m1, m2, m3⟩, ⟨z0, z1, z2, z3⟩⟩ := q
        go_simp
        all_goals (try omega)
      clear hK K
      simp only [Act.put, List.setIfInBounds_toArray, List.set_cons_succ, List.set_cons_zero]
      refine wpQuiet_step (fun K hK => ?_)
      rw [if_pos (by rfl)]
      refine ⟨.string ⟨xn.toArray⟩, fun W hW => quiet_ok ?_, hK _ ?_⟩
      · have q := HX2.out W hW
        obtain ⟨⟨m0, m1, m2, m3⟩, ⟨z0, z1, z2, z3⟩⟩ := q
        go_simp
        all_goals (try omega)
      clear hK K
      simp only [Act.put, List.setIfInBounds_toArray, List.set_cons_succ, List.set_cons_zero]
      refine wpQuiet_step (fun K hK => ?_)
      rw [if_pos (by rfl)]
      refine ⟨.bool false, fun W hW => quiet_ok ?_, hK _ ?_⟩
      · have q := HX2.out W hW
        obtain ⟨⟨m0, m1, m2, m3⟩, ⟨z0, z1, z2, z3⟩⟩ := q
        go_simp
        all_goals (try omega)
      clear hK K
      simp only [Act.put, List.setIfInBounds_toArray, List.set_cons_succ, List.set_cons_zero]
      refine wpQuiet_step (fun K hK => ?_)
      rw [if_pos (by rfl)]
      refine ⟨.bool false, fun W hW => quiet_ok ?_, hK _ ?_⟩
      · have q := HX2.out W hW
        obtain ⟨⟨m0, m1, m2, m3⟩, ⟨z0, z1, z2, z3⟩⟩ := q
        go_simp
        all_goals (try omega)
      clear hK K
      simp only [Act.put, List.setIfInBounds_toArray, List.set_cons_succ, List.set_cons_zero]
      refine wpQuiet_step (fun K hK => ?_)
      rw [if_pos (by rfl)]
      refine ⟨.bool false, fun W hW => quiet_ok ?_, hK _ ?_⟩
      · have q := HX2.out W hW
        obtain ⟨⟨m0, m1, m2, m3⟩, ⟨z0, z1, z2, z3⟩⟩ := q
        go_simp
        all_goals (try omega)
      clear hK K
      simp only [Act.put, List.setIfInBounds_toArray, List.set_cons_succ, List.set_cons_zero]
      refine wpQuiet_step (fun K hK => ?_)
      rw [if_pos (by rfl)]
      refine ⟨.slice (some ⟨g, 0, none⟩) n cap, fun W hW => quiet_ok ?_, hK _ ?_⟩
      · have q := HX2.out W hW
        obtain ⟨⟨m0, m1, m2, m3⟩, ⟨z0, z1, z2, z3⟩⟩ := q
        go_simp
        all_goals (try omega)
      clear hK K
      simp only [Act.put, List.setIfInBounds_toArray, List.set_cons_succ, List.set_cons_zero]
      refine wpQuiet_step (fun K hK => ?_)
      rw [if_pos (by rfl)]
      refine ⟨.int .i64 (m : Int), fun W hW => quiet_ok ?_, hK _ ?_⟩
      · have q := HX2.out W hW
        obtain ⟨⟨m0, m1, m2, m3⟩, ⟨z0, z1, z2, z3⟩⟩ := q
        go_simp
        all_goals (try omega)
      clear hK K
      simp only [Act.put, List.setIfInBounds_toArray, List.set_cons_succ, List.set_cons_zero]
      refine wpQuiet_step (fun K hK => ?_)
      rw [if_pos (by rfl)]
      refine ⟨.pointer (some ⟨g, m * 4, none⟩), fun W hW => quiet_ok ?_, hK _ ?_⟩
      · have q := HX2.out W hW
        obtain ⟨⟨m0, m1, m2, m3⟩, ⟨z0, z1, z2, z3⟩⟩ := q
        go_simp
        all_goals (try omega)
      clear hK K
      simp only [Act.put, List.setIfInBounds_toArray, List.set_cons_succ, List.set_cons_zero]
      refine wpQuiet_step (fun K hK => ?_)
      rw [if_pos (by rfl)]
      refine ⟨.pointer (some ⟨g, m * 4 + 1, none⟩), fun W hW => quiet_ok ?_, hK _ ?_⟩
      · have q := HX2.out W hW
        obtain ⟨⟨m0, m1, m2, m3⟩, ⟨z0, z1, z2, z3⟩⟩ := q
        go_simp
        all_goals (try omega)
      clear hK K
      simp only [Act.put, List.setIfInBounds_toArray, List.set_cons_succ, List.set_cons_zero]
      refine wpQuiet_step (fun K hK => ?_)
      rw [if_pos (by rfl)]
      refine ⟨.int .i64 st, fun W hW => quiet_ok ?_, hK _ ?_⟩
      · have q := HX2.out W hW
        obtain ⟨⟨m0, m1, m2, m3⟩, ⟨z0, z1, z2, z3⟩⟩ := q
        go_simp
        all_goals (try omega)
      clear hK K
      simp only [Act.put, List.setIfInBounds_toArray, List.set_cons_succ, List.set_cons_zero]
      refine wpQuiet_step (fun K hK => ?_)
      rw [if_pos (by rfl)]
      refine ⟨.pointer (some ⟨w.heap.size, 1, none⟩), fun W hW => quiet_ok ?_, hK _ ?_⟩
      · have q := HX2.out W hW
        obtain ⟨⟨m0, m1, m2, m3⟩, ⟨z0, z1, z2, z3⟩⟩ := q
        go_simp
        all_goals (try omega)
      clear hK K
      simp only [Act.put, List.setIfInBounds_toArray, List.set_cons_succ, List.set_cons_zero]
      refine wpQuiet_step (fun K hK => ?_)
      rw [if_pos (by rfl)]
      refine ⟨.int .i64 xt, fun W hW => quiet_ok ?_, hK _ ?_⟩
      · have q := HX2.out W hW
        obtain ⟨⟨m0, m1, m2, m3⟩, ⟨z0, z1, z2, z3⟩⟩ := q
        go_simp
        all_goals (try omega)
      clear hK K
      simp only [Act.put, List.setIfInBounds_toArray, List.set_cons_succ, List.set_cons_zero]
      refine wpQuiet_step (fun K hK => ?_)
      rw [if_pos (by rfl)]
      refine ⟨.bool false, fun W hW => quiet_ok ?_, hK _ ?_⟩
      · have q := HX2.out W hW
        obtain ⟨⟨m0, m1, m2, m3⟩, ⟨z0, z1, z2, z3⟩⟩ := q
        go_simp
        all_goals (try omega)
      clear hK K
      simp only [Act.put, List.setIfInBounds_toArray, List.set_cons_succ, List.set_cons_zero]
      refine wpQuiet_step (fun K hK => ?_)
      rw [if_pos (by rfl)]
      refine ⟨.bool false, fun W hW => quiet_ok ?_, hK _ ?_⟩
      · have q := HX2.out W hW
        obtain ⟨⟨m0, m1, m2, m3⟩, ⟨z0, z1, z2, z3⟩⟩ := q
        go_simp
        all_goals (try omega)
      clear hK K
      simp only [Act.put, List.setIfInBounds_toArray, List.set_cons_succ, List.set_cons_zero]
      refine wpQuiet_nil ?_
      intro W hW
      have HBW : Hid (Bld W base (.slice (some ⟨g, 0, none⟩) n cap) (A ++ [((sn, st, sl, sd), dv)])) := HBC.out.kept hW
      obtain ⟨Bd, hBd, hBW, hAB, hod⟩ : ∃ B, base ≤ B ∧ B ≤ W.heap.size ∧ (∀ y ∈ A, ∀ g, y.2.ownBlock = some g → g < B) ∧ W.ownsRow B 9 1 dv sd.length (sd.map S) := HBW.out.gap
      have HAB : Hid (∀ y ∈ A, ∀ q, y.2.ownBlock = some q → q < Bd) := hAB
      have HOD : Hid (W.ownsRow Bd 9 1 dv sd.length (sd.map S)) := hod
      have HDB : Hid (∀ q, dv.ownBlock = some q → w0.heap.size ≤ q) := fun q hq => Nat.le_trans hbase (Nat.le_trans hBd (HOD.out.lt q hq).1)
      have HDN : Hid (dv.ownBlock ≠ some w.heap.size) := fun e => Nat.lt_irrefl _ (HDL.out _ e)
      have HSD : Hid (sd.length ≤ 1048575) := HDT.out ((sn, st, sl, sd), dv) (by simp)
      obtain ⟨⟨m0, m1, m2, m3⟩, ⟨z0, z1, z2, z3⟩⟩ := HX2.out W hW
      have HSW : Hid (W.heap[w.heap.size]? = some (.cells #[.string ⟨xn.toArray⟩, .int .i64 xt, .int .i64 xl, .string ⟨xd.toArray⟩] 43) ∧ Below w0.heap.size w0 W) := HSC.out W hW
      obtain ⟨i9, hi9, hz90, hz91, hz92⟩ := info_parts info_string
      have hsd := HSD.out
      obtain ⟨ad, cd, hdv⟩ : ∃ ad cd, dv = .slice ad sd.length cd := by
        rcases HOD.out.2 with ⟨h, h0⟩ | ⟨q, c, _, h, _⟩
        · exact ⟨_, _, by rw [h, h0]⟩
        · exact ⟨_, _, h⟩
      subst hdv
      clear hAB hod HX2 HBC
      go_wp2_with (first | (at_builtin; refine wpList_append_own _ rfl (.tmp 55) (.tmp 57) 53 rfl Bd 9 i9 (.string ByteArray.empty) 1 16 Tryz.underlying53 hi9 hz90 hz91 hz92 rfl (by decide) _ sd.length (sd.map S) rfl (HOD.out.alloc _) ⟨W.heap.size, 0, none⟩ 1 1 [.string ⟨xd.toArray⟩] rfl rfl ?c1 ?c2 ?c3 ?c4 ?c5 ?_))
      case c1 => exact cell_new_one W (.string ⟨xd.toArray⟩) 9
      case c2 => exact one_string _
      case c3 => unfold maxLen; omega
      case c4 => omega
      case c5 => simp; omega
      intro v4 w4 hown4 hgr4 _
      obtain ⟨g4, cq4, rfl⟩ : ∃ g4 cq4, v4 = .slice (some ⟨g4, 0, none⟩) (sd.length + 1) cq4 := by
        rcases hown4.2 with ⟨_, h0⟩ | ⟨q, c, _, h, _⟩
        · omega
        · exact ⟨q, c, h⟩
      have hS4 : w4.heap[w.heap.size]? = some (.cells #[.string ⟨xn.toArray⟩, .int .i64 xt, .int .i64 xl, .string ⟨xd.toArray⟩] 43) ∧ Below w0.heap.size w0 w4 := by
        have h1 := HSB.out _ _ HSW.out ((Below.refl W.heap.size W).alloc (Nat.le_refl _) (.cells #[.string ⟨xd.toArray⟩] 9))
        exact ⟨(hgr4.block w.heap.size (lt_of_heap h1.1) (fun e => HDN.out e.symm)).trans h1.1, h1.2.grown hgr4 h1.2.size (fun j hj => HDB.out j hj)⟩
      have hb3 := HBW.out.alloc (.cells #[.string ⟨xd.toArray⟩] 9)
      rw [HNM.out] at hb3
      have hrow4 := hb3.1.kept hgr4 (own_types hb3.1 (hb3.2.1 _ (by simp : ((sn, st, sl, sd), Value.slice ad sd.length cd) ∈ A ++ [((sn, st, sl, sd), Value.slice ad sd.length cd)])).1 (by decide))
      have s3 : w4.cell? ⟨g, m * 4 + 3, none⟩ = some (.slice ad sd.length cd) := by
        rw [HMM.out, hrow4.cellAt (A.length * 4 + 3) (by simp; omega), scells_get _ A.length (by simp) 3 (by omega)]
        simp [scs]
      have f3 : w4.frozen? ⟨g, m * 4 + 3, none⟩ = false := hrow4.frozenAt _
      have hmore := (hb3.more (r := (xn, xt, xl, xd)) hBd HAB.out hown4 hgr4).1
      rw [← HMM.out] at hmore
      obtain ⟨W5, hW5⟩ : ∃ W5, W5 = w4.setCell ⟨g, m * 4 + 3, none⟩ (Value.slice (some ⟨g4, 0, none⟩) (sd.length + 1) cq4) := ⟨_, rfl⟩
      have HW5 : Hid (w4.setCell ⟨g, m * 4 + 3, none⟩ (Value.slice (some ⟨g4, 0, none⟩) (sd.length + 1) cq4) = W5) := hW5.symm
      rw [← hW5] at hmore
      have HB5 : Hid (Bld W5 base (.slice (some ⟨g, 0, none⟩) n cap) (A ++ [(addT (sn, st, sl, sd) (xn, xt, xl, xd), (Value.slice (some ⟨g4, 0, none⟩) (sd.length + 1) cq4))])) := by
        have e : (A ++ [(addT (sn, st, sl, sd) (xn, xt, xl, xd), (Value.slice (some ⟨g4, 0, none⟩) (sd.length + 1) cq4))]).length = n := by rw [HNM.out]; simp
        rw [e] at hmore
        exact hmore
      have HS5 : Hid (W5.heap[w.heap.size]? = some (.cells #[.string ⟨xn.toArray⟩, .int .i64 xt, .int .i64 xl, .string ⟨xd.toArray⟩] 43) ∧ Below w0.heap.size w0 W5) := by
        have h : W5.heap[w.heap.size]? = some (.cells #[.string ⟨xn.toArray⟩, .int .i64 xt, .int .i64 xl, .string ⟨xd.toArray⟩] 43) ∧ Below w0.heap.size w0 W5 := by
          rw [hW5]
          refine ⟨?_, hS4.2.setCell (p := ⟨g, m * 4 + 3, none⟩) (Nat.le_trans hbase hg) _⟩
          rw [heap_setCell_other _ _ _ _ (fun e => HGN.out g rfl e.symm)]
          exact hS4.1
        exact h
      have HX6 : Hid (∀ X, Below W5.heap.size W5 X → X.cell? ⟨g, m * 4 + 2, none⟩ = some (.int .i64 sl) ∧ X.cell? ⟨w.heap.size, 2, none⟩ = some (.int .i64 xl)) := fun X hX => by
        have h1 := HB5.out.kept hX
        have e : n = (A ++ [(addT (sn, st, sl, sd) (xn, xt, xl, xd), (Value.slice (some ⟨g4, 0, none⟩) (sd.length + 1) cq4))]).length := by rw [HNM.out]; simp
        rw [e] at h1
        have h2 := h1.cells
        rw [← HMM.out] at h2
        exact ⟨h2.1.2.2.1, (rec4_cells (HSB.out _ _ HS5.out hX).1).2.2.1⟩
      have hbd5 : Below W5.heap.size W5 W5.drew := (Below.refl _ _).drew
      clear hown4 hgr4 hb3 hrow4 hmore hS4 hW5 m0 m1 m2 m3 z0 z1 z2 z3
      go_wp2_with fail
      rw [HW5.out]
      clear s3 f3
      refine wp_region_quiet (C := fun X => Below W5.heap.size W5 X) (by kernel_rfl) (by kernel_rfl) hbd5 ?_
      refine wpQuiet_step (fun K hK => ?_)
      rw [if_pos (by rfl)]
      refine ⟨.slice (some ⟨g, 0, none⟩) n cap, fun W hW => quiet_ok ?_, hK _ ?_⟩
      · have q := HX6.out W hW
        obtain ⟨y2, z2⟩ := q
        go_simp
        all_goals (try omega)
      clear hK K
      simp only [Act.put, List.setIfInBounds_toArray, List.set_cons_succ, List.set_cons_zero]
      refine wpQuiet_step (fun K hK => ?_)
      rw [if_pos (by rfl)]
      refine ⟨.slice (some ⟨g, 0, none⟩) n cap, fun W hW => quiet_ok ?_, hK _ ?_⟩
      · have q := HX6.out W hW
        obtain ⟨y2, z2⟩ := q
        go_simp
        all_goals (try omega)
      clear hK K
      simp only [Act.put, List.setIfInBounds_toArray, List.set_cons_succ, List.set_cons_zero]
      refine wpQuiet_step (fun K hK => ?_)
      rw [if_pos (by rfl)]
      refine ⟨.int .i64 (m : Int), fun W hW => quiet_ok ?_, hK _ ?_⟩
      · have q := HX6.out W hW
        obtain ⟨y2, z2⟩ := q
        go_simp
        all_goals (try omega)
      clear hK K
      simp only [Act.put, List.setIfInBounds_toArray, List.set_cons_succ, List.set_cons_zero]
      refine wpQuiet_step (fun K hK => ?_)
      rw [if_pos (by rfl)]
      refine ⟨.pointer (some ⟨g, m * 4, none⟩), fun W hW => quiet_ok ?_, hK _ ?_⟩
      · have q := HX6.out W hW
        obtain ⟨y2, z2⟩ := q
        go_simp
        all_goals (try omega)
      clear hK K
      simp only [Act.put, List.setIfInBounds_toArray, List.set_cons_succ, List.set_cons_zero]
      refine wpQuiet_step (fun K hK => ?_)
      rw [if_pos (by rfl)]
      refine ⟨.pointer (some ⟨g, m * 4 + 2, none⟩), fun W hW => quiet_ok ?_, hK _ ?_⟩
      · have q := HX6.out W hW
        obtain ⟨y2, z2⟩ := q
        go_simp
        all_goals (try omega)
      clear hK K
      simp only [Act.put, List.setIfInBounds_toArray, List.set_cons_succ, List.set_cons_zero]
      refine wpQuiet_step (fun K hK => ?_)
      rw [if_pos (by rfl)]
      refine ⟨.int .i64 sl, fun W hW => quiet_ok ?_, hK _ ?_⟩
      · have q := HX6.out W hW
        obtain ⟨y2, z2⟩ := q
        go_simp
        all_goals (try omega)
      clear hK K
      simp only [Act.put, List.setIfInBounds_toArray, List.set_cons_succ, List.set_cons_zero]
      refine wpQuiet_step (fun K hK => ?_)
      rw [if_pos (by rfl)]
      refine ⟨.pointer (some ⟨w.heap.size, 2, none⟩), fun W hW => quiet_ok ?_, hK _ ?_⟩
      · have q := HX6.out W hW
        obtain ⟨y2, z2⟩ := q
        go_simp
        all_goals (try omega)
      clear hK K
      simp only [Act.put, List.setIfInBounds_toArray, List.set_cons_succ, List.set_cons_zero]
      refine wpQuiet_step (fun K hK => ?_)
      rw [if_pos (by rfl)]
      refine ⟨.int .i64 xl, fun W hW => quiet_ok ?_, hK _ ?_⟩
      · have q := HX6.out W hW
        obtain ⟨y2, z2⟩ := q
        go_simp
        all_goals (try omega)
      clear hK K
      simp only [Act.put, List.setIfInBounds_toArray, List.set_cons_succ, List.set_cons_zero]
      refine wpQuiet_step (fun K hK => ?_)
      rw [if_pos (by rfl)]
      refine ⟨.bool true, fun W hW => quiet_ok ?_, hK _ ?_⟩
      · have q := HX6.out W hW
        obtain ⟨y2, z2⟩ := q
        go_simp
        all_goals (try omega)
      clear hK K
      simp only [Act.put, List.setIfInBounds_toArray, List.set_cons_succ, List.set_cons_zero]
      refine wpQuiet_step (fun K hK => ?_)
      rw [if_pos (by rfl)]
      refine ⟨.slice (some ⟨g, 0, none⟩) n cap, fun W hW => quiet_ok ?_, hK _ ?_⟩
      · have q := HX6.out W hW
        obtain ⟨y2, z2⟩ := q
        go_simp
        all_goals (try omega)
      clear hK K
      simp only [Act.put, List.setIfInBounds_toArray, List.set_cons_succ, List.set_cons_zero]
      refine wpQuiet_step (fun K hK => ?_)
      rw [if_pos (by rfl)]
      refine ⟨.bool true, fun W hW => quiet_ok ?_, hK _ ?_⟩
      · have q := HX6.out W hW
        obtain ⟨y2, z2⟩ := q
        go_simp
        all_goals (try omega)
      clear hK K
      simp only [Act.put, List.setIfInBounds_toArray, List.set_cons_succ, List.set_cons_zero]
      refine wpQuiet_nil ?_
      intro X hX
      have HGR : Hid (grp (List.map (fun x : SetT × Value => x.1) (A ++ [((sn, st, sl, sd), Value.slice ad sd.length cd)])) (xn, xt, xl, xd) = some (List.map (fun x : SetT × Value => x.1) (A ++ [(addT (sn, st, sl, sd) (xn, xt, xl, xd), (Value.slice (some ⟨g4, 0, none⟩) (sd.length + 1) cq4))]))) := by
        show _ = _
        rw [List.map_append, List.map_append]; exact grp_add ⟨HS1N.out, HS2N.out⟩ h3
      have HBX : Hid (Bld X base (.slice (some ⟨g, 0, none⟩) n cap) (A ++ [(addT (sn, st, sl, sd) (xn, xt, xl, xd), (Value.slice (some ⟨g4, 0, none⟩) (sd.length + 1) cq4))])) := HB5.out.kept hX
      have hSX := HSB.out _ _ HS5.out hX
      go_wp2_with fail
      go_ret2
      refine ⟨?_, hSX.2⟩
      rw [HGR.out]
      exact ⟨_, _, rfl, rfl, HBX.out⟩
    · have e3 : (sl == xl) = false := by simpa using h3
      go_enter Tryz.func29, Tryz.ntmps29
      go_wp2_with fail
      rw [HW1.out]
      refine (HCD.out _).mono ?_
      rintro e wc ⟨rfl, hbc⟩
      have HBC : Hid (Bld wc base (.slice (some ⟨g, 0, none⟩) n cap) (A ++ [((sn, st, sl, sd), dv)])) := HB1.out.kept hbc
      have HSC : Hid (∀ W, Below wc.heap.size wc W → W.heap[w.heap.size]? = some (.cells #[.string ⟨xn.toArray⟩, .int .i64 xt, .int .i64 xl, .string ⟨xd.toArray⟩] 43) ∧ Below w0.heap.size w0 W) := fun W hW => HSB.out _ _ (HSB.out _ _ HS1.out hbc) hW
      have hbd : Below wc.heap.size wc wc.drew := (Below.refl _ _).drew
      have HX2 : Hid (∀ W, Below wc.heap.size wc W → (W.cell? ⟨w.heap.size, 0, none⟩ = some (.string ⟨xn.toArray⟩) ∧ W.cell? ⟨w.heap.size, 1, none⟩ = some (.int .i64 xt) ∧ W.cell? ⟨w.heap.size, 2, none⟩ = some (.int .i64 xl) ∧ W.cell? ⟨w.heap.size, 3, none⟩ = some (.string ⟨xd.toArray⟩)) ∧ (W.cell? ⟨g, m * 4, none⟩ = some (.string ⟨sn.toArray⟩) ∧ W.cell? ⟨g, m * 4 + 1, none⟩ = some (.int .i64 st) ∧ W.cell? ⟨g, m * 4 + 2, none⟩ = some (.int .i64 sl) ∧ W.cell? ⟨g, m * 4 + 3, none⟩ = some (dv))) := fun W hW => by
        have h2 := HBC.out.kept hW
        rw [HNM.out] at h2
        have h3 := h2.cells
        rw [← HMM.out] at h3
        exact ⟨rec4_cells (HSC.out W hW).1, h3.1⟩
      go_wp2_with fail
      refine wp_region_quiet (C := fun W => Below wc.heap.size wc W) (by kernel_rfl) (by kernel_rfl) hbd ?_
      refine wpQuiet_step (fun K hK => ?_)
      rw [if_pos (by rfl)]
      refine ⟨.int .i64 (m : Int), fun W hW => quiet_ok ?_, hK _ ?_⟩
      · have q := HX2.out W hW
        obtain ⟨⟨m0, m1, m2, m3⟩, ⟨z0, z1, z2, z3⟩⟩ := q
        go_simp
        all_goals (try omega)
      clear hK K
      simp only [Act.put, List.setIfInBounds_toArray, List.set_cons_succ, List.set_cons_zero]
      refine wpQuiet_step (fun K hK => ?_)
      rw [if_pos (by rfl)]
      refine ⟨.bool false, fun W hW => quiet_ok ?_, hK _ ?_⟩
      · have q := HX2.out W hW
        obtain ⟨⟨m0, m1, m2, m3⟩, ⟨z0, z1, z2, z3⟩⟩ := q
        go_simp
        all_goals (try omega)
      clear hK K
      simp only [Act.put, List.setIfInBounds_toArray, List.set_cons_succ, List.set_cons_zero]
      refine wpQuiet_step (fun K hK => ?_)
      rw [if_pos (by rfl)]
      refine ⟨.bool false, fun W hW => quiet_ok ?_, hK _ ?_⟩
      · have q := HX2.out W hW
        obtain ⟨⟨m0, m1, m2, m3⟩, ⟨z0, z1, z2, z3⟩⟩ := q
        go_simp
        all_goals (try omega)
      clear hK K
      simp only [Act.put, List.setIfInBounds_toArray, List.set_cons_succ, List.set_cons_zero]
      refine wpQuiet_step (fun K hK => ?_)
      rw [if_pos (by rfl)]
      refine ⟨.slice (some ⟨g, 0, none⟩) n cap, fun W hW => quiet_ok ?_, hK _ ?_⟩
      · have q := HX2.out W hW
        obtain ⟨⟨m0, m1, m2, m3⟩, ⟨z0, z1, z2, z3⟩⟩ := q
        go_simp
        all_goals (try omega)
      clear hK K
      simp only [Act.put, List.setIfInBounds_toArray, List.set_cons_succ, List.set_cons_zero]
      refine wpQuiet_step (fun K hK => ?_)
      rw [if_pos (by rfl)]
      refine ⟨.int .i64 (m : Int), fun W hW => quiet_ok ?_, hK _ ?_⟩
      · have q := HX2.out W hW
        obtain ⟨⟨m0, m1, m2, m3⟩, ⟨z0, z1, z2, z3⟩⟩ := q
        go_simp
        all_goals (try omega)
      clear hK K
      simp only [Act.put, List.setIfInBounds_toArray, List.set_cons_succ, List.set_cons_zero]
      refine wpQuiet_step (fun K hK => ?_)
      rw [if_pos (by rfl)]
      refine ⟨.pointer (some ⟨g, m * 4, none⟩), fun W hW => quiet_ok ?_, hK _ ?_⟩
      · have q := HX2.out W hW
        obtain ⟨⟨m0, m1, m2, m3⟩, ⟨z0, z1, z2, z3⟩⟩ := q
        go_simp
        all_goals (try omega)
      clear hK K
      simp only [Act.put, List.setIfInBounds_toArray, List.set_cons_succ, List.set_cons_zero]
      refine wpQuiet_step (fun K hK => ?_)
      rw [if_pos (by rfl)]
      refine ⟨.pointer (some ⟨g, m * 4, none⟩), fun W hW => quiet_ok ?_, hK _ ?_⟩
      · have q := HX2.out W hW
        obtain ⟨⟨m0, m1, m2, m3⟩, ⟨z0, z1, z2, z3⟩⟩ := q
        go_simp
        all_goals (try omega)
      clear hK K
      simp only [Act.put, List.setIfInBounds_toArray, List.set_cons_succ, List.set_cons_zero]
      refine wpQuiet_step (fun K hK => ?_)
      rw [if_pos (by rfl)]
      refine ⟨.string ⟨sn.toArray⟩, fun W hW => quiet_ok ?_, hK _ ?_⟩
      · have q := HX2.out W hW
        obtain ⟨⟨m0, m1, m2, m3⟩, ⟨z0, z1, z2, z3⟩⟩ := q
        go_simp
        all_goals (try omega)
      clear hK K
      simp only [Act.put, List.setIfInBounds_toArray, List.set_cons_succ, List.set_cons_zero]
      refine wpQuiet_step (fun K hK => ?_)
      rw [if_pos (by rfl)]
      refine ⟨.pointer (some ⟨w.heap.size, 0, none⟩), fun W hW => quiet_ok ?_, hK _ ?_⟩
      · have q := HX2.out W hW
        obtain ⟨⟨m0, m1, m2, m3⟩, ⟨z0, z1, z2, z3⟩⟩ := q
        go_simp
        all_goals (try omega)
      clear hK K
      simp only [Act.put, List.setIfInBounds_toArray, List.set_cons_succ, List.set_cons_zero]
      refine wpQuiet_step (fun K hK => ?_)
      rw [if_pos (by rfl)]
      refine ⟨.string ⟨xn.toArray⟩, fun W hW => quiet_ok ?_, hK _ ?_⟩
      · have q := HX2.out W hW
        obtain ⟨⟨m0, m1, m2, m3⟩, ⟨z0, z1, z2, z3⟩⟩ := q
        go_simp
        all_goals (try omega)
      clear hK K
      simp only [Act.put, List.setIfInBounds_toArray, List.set_cons_succ, List.set_cons_zero]
      refine wpQuiet_step (fun K hK => ?_)
      rw [if_pos (by rfl)]
      refine ⟨.bool false, fun W hW => quiet_ok ?_, hK _ ?_⟩
      · have q := HX2.out W hW
        obtain ⟨⟨m0, m1, m2, m3⟩, ⟨z0, z1, z2, z3⟩⟩ := q
        go_simp
        all_goals (try omega)
      clear hK K
      simp only [Act.put, List.setIfInBounds_toArray, List.set_cons_succ, List.set_cons_zero]
      refine wpQuiet_step (fun K hK => ?_)
      rw [if_pos (by rfl)]
      refine ⟨.bool false, fun W hW => quiet_ok ?_, hK _ ?_⟩
      · have q := HX2.out W hW
        obtain ⟨⟨m0, m1, m2, m3⟩, ⟨z0, z1, z2, z3⟩⟩ := q
        go_simp
        all_goals (try omega)
      clear hK K
      simp only [Act.put, List.setIfInBounds_toArray, List.set_cons_succ, List.set_cons_zero]
      refine wpQuiet_step (fun K hK => ?_)
      rw [if_pos (by rfl)]
      refine ⟨.bool false, fun W hW => quiet_ok ?_, hK _ ?_⟩
      · have q := HX2.out W hW
        obtain ⟨⟨m0, m1, m2, m3⟩, ⟨z0, z1, z2, z3⟩⟩ := q
        go_simp
        all_goals (try omega)
      clear hK K
      simp only [Act.put, List.setIfInBounds_toArray, List.set_cons_succ, List.set_cons_zero]
      refine wpQuiet_step (fun K hK => ?_)
      rw [if_pos (by rfl)]
      refine ⟨.slice (some ⟨g, 0, none⟩) n cap, fun W hW => quiet_ok ?_, hK _ ?_⟩
      · have q := HX2.out W hW
        obtain ⟨⟨m0, m1, m2, m3⟩, ⟨z0, z1, z2, z3⟩⟩ := q
        go_simp
        all_goals (try omega)
      clear hK K
      simp only [Act.put, List.setIfInBounds_toArray, List.set_cons_succ, List.set_cons_zero]
      refine wpQuiet_step (fun K hK => ?_)
      rw [if_pos (by rfl)]
      refine ⟨.int .i64 (m : Int), fun W hW => quiet_ok ?_, hK _ ?_⟩
      · have q := HX2.out W hW
        obtain ⟨⟨m0, m1, m2, m3⟩, ⟨z0, z1, z2, z3⟩⟩ := q
        go_simp
        all_goals (try omega)
      clear hK K
      simp only [Act.put, List.setIfInBounds_toArray, List.set_cons_succ, List.set_cons_zero]
      refine wpQuiet_step (fun K hK => ?_)
      rw [if_pos (by rfl)]
      refine ⟨.pointer (some ⟨g, m * 4, none⟩), fun W hW => quiet_ok ?_, hK _ ?_⟩
      · have q := HX2.out W hW
        obtain ⟨⟨m0, m1, m2, m3⟩, ⟨z0, z1, z2, z3⟩⟩ := q
        go_simp
        all_goals (try omega)
      clear hK K
      simp only [Act.put, List.setIfInBounds_toArray, List.set_cons_succ, List.set_cons_zero]
      refine wpQuiet_step (fun K hK => ?_)
      rw [if_pos (by rfl)]
      refine ⟨.pointer (some ⟨g, m * 4 + 1, none⟩), fun W hW => quiet_ok ?_, hK _ ?_⟩
      · have q := HX2.out W hW
        obtain ⟨⟨m0, m1, m2, m3⟩, ⟨z0, z1, z2, z3⟩⟩ := q
        go_simp
        all_goals (try omega)
      clear hK K
      simp only [Act.put, List.setIfInBounds_toArray, List.set_cons_succ, List.set_cons_zero]
      refine wpQuiet_step (fun K hK => ?_)
      rw [if_pos (by rfl)]
      refine ⟨.int .i64 st, fun W hW => quiet_ok ?_, hK _ ?_⟩
      · have q := HX2.out W hW
        obtain ⟨⟨m0, m1, m2, m3⟩, ⟨z0, z1, z2, z3⟩⟩ := q
        go_simp
        all_goals (try omega)
      clear hK K
      simp only [Act.put, List.setIfInBounds_toArray, List.set_cons_succ, List.set_cons_zero]
      refine wpQuiet_step (fun K hK => ?_)
      rw [if_pos (by rfl)]
      refine ⟨.pointer (some ⟨w.heap.size, 1, none⟩), fun W hW => quiet_ok ?_, hK _ ?_⟩
      · have q := HX2.out W hW
        obtain ⟨⟨m0, m1, m2, m3⟩, ⟨z0, z1, z2, z3⟩⟩ := q
        go_simp
        all_goals (try omega)
      clear hK K
      simp only [Act.put, List.setIfInBounds_toArray, List.set_cons_succ, List.set_cons_zero]
      refine wpQuiet_step (fun K hK => ?_)
      rw [if_pos (by rfl)]
      refine ⟨.int .i64 xt, fun W hW => quiet_ok ?_, hK _ ?_⟩
      · have q := HX2.out W hW
        obtain ⟨⟨m0, m1, m2, m3⟩, ⟨z0, z1, z2, z3⟩⟩ := q
        go_simp
        all_goals (try omega)
      clear hK K
      simp only [Act.put, List.setIfInBounds_toArray, List.set_cons_succ, List.set_cons_zero]
      refine wpQuiet_step (fun K hK => ?_)
      rw [if_pos (by rfl)]
      refine ⟨.bool false, fun W hW => quiet_ok ?_, hK _ ?_⟩
      · have q := HX2.out W hW
        obtain ⟨⟨m0, m1, m2, m3⟩, ⟨z0, z1, z2, z3⟩⟩ := q
        go_simp
        all_goals (try omega)
      clear hK K
      simp only [Act.put, List.setIfInBounds_toArray, List.set_cons_succ, List.set_cons_zero]
      refine wpQuiet_step (fun K hK => ?_)
      rw [if_pos (by rfl)]
      refine ⟨.bool false, fun W hW => quiet_ok ?_, hK _ ?_⟩
      · have q := HX2.out W hW
        obtain ⟨⟨m0, m1, m2, m3⟩, ⟨z0, z1, z2, z3⟩⟩ := q
        go_simp
        all_goals (try omega)
      clear hK K
      simp only [Act.put, List.setIfInBounds_toArray, List.set_cons_succ, List.set_cons_zero]
      refine wpQuiet_nil ?_
      intro W hW
      have HBW : Hid (Bld W base (.slice (some ⟨g, 0, none⟩) n cap) (A ++ [((sn, st, sl, sd), dv)])) := HBC.out.kept hW
      obtain ⟨Bd, hBd, hBW, hAB, hod⟩ : ∃ B, base ≤ B ∧ B ≤ W.heap.size ∧ (∀ y ∈ A, ∀ g, y.2.ownBlock = some g → g < B) ∧ W.ownsRow B 9 1 dv sd.length (sd.map S) := HBW.out.gap
      have HAB : Hid (∀ y ∈ A, ∀ q, y.2.ownBlock = some q → q < Bd) := hAB
      have HOD : Hid (W.ownsRow Bd 9 1 dv sd.length (sd.map S)) := hod
      have HDB : Hid (∀ q, dv.ownBlock = some q → w0.heap.size ≤ q) := fun q hq => Nat.le_trans hbase (Nat.le_trans hBd (HOD.out.lt q hq).1)
      have HDN : Hid (dv.ownBlock ≠ some w.heap.size) := fun e => Nat.lt_irrefl _ (HDL.out _ e)
      have HSD : Hid (sd.length ≤ 1048575) := HDT.out ((sn, st, sl, sd), dv) (by simp)
      obtain ⟨⟨m0, m1, m2, m3⟩, ⟨z0, z1, z2, z3⟩⟩ := HX2.out W hW
      have HSW : Hid (W.heap[w.heap.size]? = some (.cells #[.string ⟨xn.toArray⟩, .int .i64 xt, .int .i64 xl, .string ⟨xd.toArray⟩] 43) ∧ Below w0.heap.size w0 W) := HSC.out W hW
      obtain ⟨i9, hi9, hz90, hz91, hz92⟩ := info_parts info_string
      have hsd := HSD.out
      obtain ⟨ad, cd, hdv⟩ : ∃ ad cd, dv = .slice ad sd.length cd := by
        rcases HOD.out.2 with ⟨h, h0⟩ | ⟨q, c, _, h, _⟩
        · exact ⟨_, _, by rw [h, h0]⟩
        · exact ⟨_, _, h⟩
      subst hdv
      clear hAB hod HX2 HBC
      go_wp2_with (first | (at_builtin; refine wpList_append_own _ rfl (.tmp 55) (.tmp 57) 53 rfl Bd 9 i9 (.string ByteArray.empty) 1 16 Tryz.underlying53 hi9 hz90 hz91 hz92 rfl (by decide) _ sd.length (sd.map S) rfl (HOD.out.alloc _) ⟨W.heap.size, 0, none⟩ 1 1 [.string ⟨xd.toArray⟩] rfl rfl ?c1 ?c2 ?c3 ?c4 ?c5 ?_))
      case c1 => exact cell_new_one W (.string ⟨xd.toArray⟩) 9
      case c2 => exact one_string _
      case c3 => unfold maxLen; omega
      case c4 => omega
      case c5 => simp; omega
      intro v4 w4 hown4 hgr4 _
      obtain ⟨g4, cq4, rfl⟩ : ∃ g4 cq4, v4 = .slice (some ⟨g4, 0, none⟩) (sd.length + 1) cq4 := by
        rcases hown4.2 with ⟨_, h0⟩ | ⟨q, c, _, h, _⟩
        · omega
        · exact ⟨q, c, h⟩
      have hS4 : w4.heap[w.heap.size]? = some (.cells #[.string ⟨xn.toArray⟩, .int .i64 xt, .int .i64 xl, .string ⟨xd.toArray⟩] 43) ∧ Below w0.heap.size w0 w4 := by
        have h1 := HSB.out _ _ HSW.out ((Below.refl W.heap.size W).alloc (Nat.le_refl _) (.cells #[.string ⟨xd.toArray⟩] 9))
        exact ⟨(hgr4.block w.heap.size (lt_of_heap h1.1) (fun e => HDN.out e.symm)).trans h1.1, h1.2.grown hgr4 h1.2.size (fun j hj => HDB.out j hj)⟩
      have hb3 := HBW.out.alloc (.cells #[.string ⟨xd.toArray⟩] 9)
      rw [HNM.out] at hb3
      have hrow4 := hb3.1.kept hgr4 (own_types hb3.1 (hb3.2.1 _ (by simp : ((sn, st, sl, sd), Value.slice ad sd.length cd) ∈ A ++ [((sn, st, sl, sd), Value.slice ad sd.length cd)])).1 (by decide))
      have s3 : w4.cell? ⟨g, m * 4 + 3, none⟩ = some (.slice ad sd.length cd) := by
        rw [HMM.out, hrow4.cellAt (A.length * 4 + 3) (by simp; omega), scells_get _ A.length (by simp) 3 (by omega)]
        simp [scs]
      have f3 : w4.frozen? ⟨g, m * 4 + 3, none⟩ = false := hrow4.frozenAt _
      have hmore := (hb3.more (r := (xn, xt, xl, xd)) hBd HAB.out hown4 hgr4).1
      rw [← HMM.out] at hmore
      obtain ⟨W5, hW5⟩ : ∃ W5, W5 = w4.setCell ⟨g, m * 4 + 3, none⟩ (Value.slice (some ⟨g4, 0, none⟩) (sd.length + 1) cq4) := ⟨_, rfl⟩
      have HW5 : Hid (w4.setCell ⟨g, m * 4 + 3, none⟩ (Value.slice (some ⟨g4, 0, none⟩) (sd.length + 1) cq4) = W5) := hW5.symm
      rw [← hW5] at hmore
      have HB5 : Hid (Bld W5 base (.slice (some ⟨g, 0, none⟩) n cap) (A ++ [(addT (sn, st, sl, sd) (xn, xt, xl, xd), (Value.slice (some ⟨g4, 0, none⟩) (sd.length + 1) cq4))])) := by
        have e : (A ++ [(addT (sn, st, sl, sd) (xn, xt, xl, xd), (Value.slice (some ⟨g4, 0, none⟩) (sd.length + 1) cq4))]).length = n := by rw [HNM.out]; simp
        rw [e] at hmore
        exact hmore
      have HS5 : Hid (W5.heap[w.heap.size]? = some (.cells #[.string ⟨xn.toArray⟩, .int .i64 xt, .int .i64 xl, .string ⟨xd.toArray⟩] 43) ∧ Below w0.heap.size w0 W5) := by
        have h : W5.heap[w.heap.size]? = some (.cells #[.string ⟨xn.toArray⟩, .int .i64 xt, .int .i64 xl, .string ⟨xd.toArray⟩] 43) ∧ Below w0.heap.size w0 W5 := by
          rw [hW5]
          refine ⟨?_, hS4.2.setCell (p := ⟨g, m * 4 + 3, none⟩) (Nat.le_trans hbase hg) _⟩
          rw [heap_setCell_other _ _ _ _ (fun e => HGN.out g rfl e.symm)]
          exact hS4.1
        exact h
      have HX6 : Hid (∀ X, Below W5.heap.size W5 X → X.cell? ⟨g, m * 4 + 2, none⟩ = some (.int .i64 sl) ∧ X.cell? ⟨w.heap.size, 2, none⟩ = some (.int .i64 xl)) := fun X hX => by
        have h1 := HB5.out.kept hX
        have e : n = (A ++ [(addT (sn, st, sl, sd) (xn, xt, xl, xd), (Value.slice (some ⟨g4, 0, none⟩) (sd.length + 1) cq4))]).length := by rw [HNM.out]; simp
        rw [e] at h1
        have h2 := h1.cells
        rw [← HMM.out] at h2
        exact ⟨h2.1.2.2.1, (rec4_cells (HSB.out _ _ HS5.out hX).1).2.2.1⟩
      have hbd5 : Below W5.heap.size W5 W5.drew := (Below.refl _ _).drew
      clear hown4 hgr4 hb3 hrow4 hmore hS4 hW5 m0 m1 m2 m3 z0 z1 z2 z3
      go_wp2_with fail
      rw [HW5.out]
      clear s3 f3
      refine wp_region_quiet (C := fun X => Below W5.heap.size W5 X) (by kernel_rfl) (by kernel_rfl) hbd5 ?_
      refine wpQuiet_step (fun K hK => ?_)
      rw [if_pos (by rfl)]
      refine ⟨.slice (some ⟨g, 0, none⟩) n cap, fun W hW => quiet_ok ?_, hK _ ?_⟩
      · have q := HX6.out W hW
        obtain ⟨y2, z2⟩ := q
        go_simp
        all_goals (try omega)
      clear hK K
      simp only [Act.put, List.setIfInBounds_toArray, List.set_cons_succ, List.set_cons_zero]
      refine wpQuiet_step (fun K hK => ?_)
      rw [if_pos (by rfl)]
      refine ⟨.slice (some ⟨g, 0, none⟩) n cap, fun W hW => quiet_ok ?_, hK _ ?_⟩
      · have q := HX6.out W hW
        obtain ⟨y2, z2⟩ := q
        go_simp
        all_goals (try omega)
      clear hK K
      simp only [Act.put, List.setIfInBounds_toArray, List.set_cons_succ, List.set_cons_zero]
      refine wpQuiet_step (fun K hK => ?_)
      rw [if_pos (by rfl)]
      refine ⟨.int .i64 (m : Int), fun W hW => quiet_ok ?_, hK _ ?_⟩
      · have q := HX6.out W hW
        obtain ⟨y2, z2⟩ := q
        go_simp
        all_goals (try omega)
      clear hK K
      simp only [Act.put, List.setIfInBounds_toArray, List.set_cons_succ, List.set_cons_zero]
      refine wpQuiet_step (fun K hK => ?_)
      rw [if_pos (by rfl)]
      refine ⟨.pointer (some ⟨g, m * 4, none⟩), fun W hW => quiet_ok ?_, hK _ ?_⟩
      · have q := HX6.out W hW
        obtain ⟨y2, z2⟩ := q
        go_simp
        all_goals (try omega)
      clear hK K
      simp only [Act.put, List.setIfInBounds_toArray, List.set_cons_succ, List.set_cons_zero]
      refine wpQuiet_step (fun K hK => ?_)
      rw [if_pos (by rfl)]
      refine ⟨.pointer (some ⟨g, m * 4 + 2, none⟩), fun W hW => quiet_ok ?_, hK _ ?_⟩
      · have q := HX6.out W hW
        obtain ⟨y2, z2⟩ := q
        go_simp
        all_goals (try omega)
      clear hK K
      simp only [Act.put, List.setIfInBounds_toArray, List.set_cons_succ, List.set_cons_zero]
      refine wpQuiet_step (fun K hK => ?_)
      rw [if_pos (by rfl)]
      refine ⟨.int .i64 sl, fun W hW => quiet_ok ?_, hK _ ?_⟩
      · have q := HX6.out W hW
        obtain ⟨y2, z2⟩ := q
        go_simp
        all_goals (try omega)
      clear hK K
      simp only [Act.put, List.setIfInBounds_toArray, List.set_cons_succ, List.set_cons_zero]
      refine wpQuiet_step (fun K hK => ?_)
      rw [if_pos (by rfl)]
      refine ⟨.pointer (some ⟨w.heap.size, 2, none⟩), fun W hW => quiet_ok ?_, hK _ ?_⟩
      · have q := HX6.out W hW
        obtain ⟨y2, z2⟩ := q
        go_simp
        all_goals (try omega)
      clear hK K
      simp only [Act.put, List.setIfInBounds_toArray, List.set_cons_succ, List.set_cons_zero]
      refine wpQuiet_step (fun K hK => ?_)
      rw [if_pos (by rfl)]
      refine ⟨.int .i64 xl, fun W hW => quiet_ok ?_, hK _ ?_⟩
      · have q := HX6.out W hW
        obtain ⟨y2, z2⟩ := q
        go_simp
        all_goals (try omega)
      clear hK K
      simp only [Act.put, List.setIfInBounds_toArray, List.set_cons_succ, List.set_cons_zero]
      refine wpQuiet_step (fun K hK => ?_)
      rw [if_pos (by rfl)]
      refine ⟨.bool false, fun W hW => quiet_ok ?_, hK _ ?_⟩
      · have q := HX6.out W hW
        obtain ⟨y2, z2⟩ := q
        go_simp
        all_goals (try omega)
      clear hK K
      simp only [Act.put, List.setIfInBounds_toArray, List.set_cons_succ, List.set_cons_zero]
      refine wpQuiet_step (fun K hK => ?_)
      rw [if_pos (by rfl)]
      refine ⟨.slice (some ⟨g, 0, none⟩) n cap, fun W hW => quiet_ok ?_, hK _ ?_⟩
      · have q := HX6.out W hW
        obtain ⟨y2, z2⟩ := q
        go_simp
        all_goals (try omega)
      clear hK K
      simp only [Act.put, List.setIfInBounds_toArray, List.set_cons_succ, List.set_cons_zero]
      refine wpQuiet_step (fun K hK => ?_)
      rw [if_pos (by rfl)]
      refine ⟨.bool false, fun W hW => quiet_ok ?_, hK _ ?_⟩
      · have q := HX6.out W hW
        obtain ⟨y2, z2⟩ := q
        go_simp
        all_goals (try omega)
      clear hK K
      simp only [Act.put, List.setIfInBounds_toArray, List.set_cons_succ, List.set_cons_zero]
      refine wpQuiet_nil ?_
      intro X hX
      have HGR : Hid (grp (List.map (fun x : SetT × Value => x.1) (A ++ [((sn, st, sl, sd), Value.slice ad sd.length cd)])) (xn, xt, xl, xd) = none) := by
        show _ = _
        rw [List.map_append]; exact grp_off ⟨HS1N.out, HS2N.out⟩ h3
      have hSX := HSB.out _ _ HS5.out hX
      go_wp2_with fail
      go_ret2
      refine ⟨?_, hSX.2⟩
      rw [HGR.out]
      exact ⟨_, rfl⟩
end Go.Proofs.YtjocegnhhhfbeaaGreatDoor
