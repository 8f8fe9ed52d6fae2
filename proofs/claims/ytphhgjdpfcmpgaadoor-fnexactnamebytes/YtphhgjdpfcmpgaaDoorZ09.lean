import Derived.Test.YtphhgjdpfcmpgaaDoorZ08
import Derived.Laws.Rows
import Derived.Maps.AppendAt
import Derived.Deep.RegionWith
import Derived.Deep.RegionHeld3
import Derived.Test.YtphhgjdpfcmpgaaDoorZ05
namespace Go.Proofs.YtphhgjdpfcmpgaaDoor
open Go.RowKit

/-- A world in which all blocks but some are as they were. -/
structure Kpt (w w' : World) (S : Nat → Prop) : Prop where
  os : w'.os = w.os
  tape : w'.tape = w.tape
  output : w'.output = w.output
  size : w.heap.size ≤ w'.heap.size
  block : ∀ k, k < w.heap.size → ¬ S k → w'.heap[k]? = w.heap[k]?
theorem Kpt.refl (w : World) (S : Nat → Prop) : Kpt w w S := ⟨rfl, rfl, rfl, Nat.le_refl _, fun _ _ _ => rfl⟩
theorem Kpt.trans {a b c : World} {S : Nat → Prop} (h : Kpt a b S) (k : Kpt b c S) : Kpt a c S :=
  ⟨k.os.trans h.os, k.tape.trans h.tape, k.output.trans h.output, Nat.le_trans h.size k.size, fun i hi hn => (k.block i (Nat.lt_of_lt_of_le hi h.size) hn).trans (h.block i hi hn)⟩
theorem Kpt.mono {a b : World} {S T : Nat → Prop} (h : Kpt a b S) (hs : ∀ k, k < a.heap.size → S k → T k) : Kpt a b T := ⟨h.os, h.tape, h.output, h.size, fun k hk hn => h.block k hk (fun s => hn (hs k hk s))⟩
theorem grown_kpt {a b : World} {row : Option Nat} (h : a.grownBy b row) : Kpt a b (fun k => row = some k) := ⟨h.os, h.tape, h.output, h.size, fun k hk hn => h.block k hk (fun e => hn e.symm)⟩
theorem below_kpt {a b : World} {B : Nat} (h : Below B a b) : Kpt a b (fun k => B ≤ k) := ⟨h.os, h.tape, h.output, h.size, fun k _ hn => h.block k (by omega)⟩
theorem below_kpt0 {a b : World} (h : Below a.heap.size a b) (S : Nat → Prop) : Kpt a b S := (below_kpt h).mono (fun k hk hs => by omega)
theorem Kpt.below {a b : World} {S : Nat → Prop} {B : Nat} (h : Kpt a b S) (hB : B ≤ a.heap.size) (hs : ∀ k, k < B → ¬ S k) : Below B a b := ⟨h.os, h.tape, h.output, h.size, fun k hk => h.block k (Nat.lt_of_lt_of_le hk hB) (hs k hk)⟩
theorem Kpt.cell {a b : World} {S : Nat → Prop} (h : Kpt a b S) {p : Addr} {u : Value} (hc : a.cell? p = some u) (hn : ¬ S p.block) : b.cell? p = some u :=
  (World.cell?_of_block (h.block p.block (World.block_lt_of_cell? a p hc) hn)).trans hc
theorem kpt_set (w : World) (g k : Nat) (u : Value) {S : Nat → Prop} (hs : S g) : Kpt w (w.setCell ⟨g, k, none⟩ u) S :=
  ⟨rfl, rfl, rfl, by simp, fun i hi hn => Below.heap_setCell w ⟨g, k, none⟩ u i (fun e => hn (by subst e; exact hs))⟩
theorem kpt_alloc (w : World) (o : Obj) (S : Nat → Prop) : Kpt w (w.alloc o) S := below_kpt0 ((Below.refl w.heap.size w).alloc (Nat.le_refl _) _) S

theorem own_kpt {a b : World} {S : Nat → Prop} {base : Nat} {e : TypeId} {sz : Nat} {v : Value} {n : Nat} {xs : List Value} (h : a.ownsRow base e sz v n xs) (hk : Kpt a b S) (hn : ∀ g, v.ownBlock = some g → ¬ S g) : b.ownsRow base e sz v n xs := by
  have h0 := h
  obtain ⟨hl, hh | ⟨g, cap, cur, rfl, hg2, hh, hr⟩⟩ := h
  · exact ⟨hl, .inl hh⟩
  · exact ⟨hl, .inr ⟨g, cap, cur, rfl, hg2, (hk.block g (h0.lt g rfl).2 (hn g rfl)).trans hh, hr⟩⟩
/-- Rows of unlike elements lie in unlike blocks. -/
theorem own_ne {w : World} {base base' : Nat} {e1 e2 : TypeId} {z1 z2 : Nat} {v1 v2 : Value} {n1 n2 : Nat} {x1 x2 : List Value} (hne : e1 ≠ e2) (h1 : w.ownsRow base e1 z1 v1 n1 x1) (h2 : w.ownsRow base' e2 z2 v2 n2 x2) : ∀ g, v1.ownBlock = some g → v2.ownBlock ≠ some g := by
  intro g hg1 hg2
  obtain ⟨_, ⟨rfl, _⟩ | ⟨a1, c1, k1, rfl, _, hh1, _⟩⟩ := h1
  · cases hg1
  · obtain ⟨_, ⟨rfl, _⟩ | ⟨a2, c2, k2, rfl, _, hh2, _⟩⟩ := h2
    · cases hg2
    · have q1 : a1 = g := Option.some.inj hg1
      have q2 : a2 = g := Option.some.inj hg2
      rw [q1] at hh1; rw [q2, hh1] at hh2
      cases hh2; exact hne rfl
theorem own_box {w : World} {base : Nat} {e t : TypeId} {z : Nat} {v : Value} {n : Nat} {xs : List Value} {pb : Nat} {cs : Array Value} {f : Nat × Nat} (h : w.ownsRow base e z v n xs) (hb : w.heap[pb]? = some (.cells cs t f)) (hne : e ≠ t) : v.ownBlock ≠ some pb := by
  intro hg
  obtain ⟨_, ⟨rfl, _⟩ | ⟨a1, c1, k1, rfl, _, hh1, _⟩⟩ := h
  · cases hg
  · have q1 : a1 = pb := Option.some.inj hg
    rw [q1, hb] at hh1
    cases hh1; exact hne rfl
theorem own_other {w w1 : World} {base : Nat} {e1 e2 : TypeId} {v1 v2 : Value} {n1 n2 : Nat} {x1 x2 : List Value} (hne : e1 ≠ e2) (h1 : w.ownsRow base e1 1 v1 n1 x1) (h2 : w.ownsRow base e2 1 v2 n2 x2) (hg : w.grownBy w1 v1.ownBlock) : w1.ownsRow base e2 1 v2 n2 x2 :=
  own_kpt h2 (grown_kpt hg) (fun g h => fun h3 => own_ne hne h1 h2 g h3 h)
theorem own_lt {w : World} {base : Nat} {e : TypeId} {z : Nat} {v : Value} {n : Nat} {xs : List Value} (h : w.ownsRow base e z v n xs) (g : Nat) (hg : v.ownBlock = some g) : base ≤ g ∧ g < w.heap.size := h.lt g hg
theorem own_slice {w : World} {base : Nat} {e : TypeId} {v : Value} {n : Nat} {xs : List Value} (h : w.ownsRow base e 1 v n xs) : ∃ a cap, v = .slice a n cap ∧ n ≤ cap ∧ cap ≤ 9223372036854775807 := by
  obtain ⟨_, ⟨rfl, rfl⟩ | ⟨g, cap, cur, rfl, _, _, hc, hm, _⟩⟩ := h
  · exact ⟨_, _, rfl, Nat.le_refl _, by omega⟩
  · exact ⟨_, _, rfl, hc, by unfold maxLen at hm; omega⟩

section
variable {w : World} {ops : Array Oper} {o : Oper} {a : Act} {Q : Exit → Act → World → Prop} {K : Act → World → Prop} {E : Prop}
/-- An append to a row of the call's own, as a step of a region that draws its order. -/
theorem wp_append_at (s x : Operand) (t : TypeId)
    (ho : o.op = .call { callee := .builtin .append, args := #[s, x], argTypes := #[t, t] })
    (base : Nat) (e : TypeId) (i : TypeInfo) (z : Value) (size bytes : Nat) (ht : Tryd.prog.underlying t = some (.slice e)) (hi : Tryd.prog.info? e = some i) (hz : i.zero = some z)
    (hsize : i.size = size) (hby : i.bytes = bytes) (hzs : z.cells.size = size) (hsz : 0 < size)
    (v : Value) (n : Nat) (xs : List Value) (hs : a.eval s = v) (hown : w.ownsRow base e size v n xs)
    (ad : Addr) (m c : Nat) (news : List Value) (hx : a.eval x = .slice (some ad) m c) (hl : news.length = m * size) (hnews : ∀ j u, news[j]? = some u → w.cell? (ad.add j) = some u) (h1 : ∀ u ∈ news, u.oneCell' = true)
    (h63 : n + m ≤ maxLen) (hbytes : (n + m) * bytes ≤ 140737488355328) (hbase : base ≤ w.heap.size)
    (h : ∀ v' w', w'.ownsRow base e size v' (n + m) (xs ++ news) → w.grownBy w' v.ownBlock → (v'.ownBlock = v.ownBlock ∨ v'.ownBlock = some w.heap.size) → K (a.put o.dst v') w') :
    Oper.wp Tryd.prog o a w K Q := by
  obtain ⟨v', w', hr, h2, h3, _, h5⟩ := run_append_own_at (P := Tryd.prog) w base t o.type e i z size bytes ht hi hz hsize hby hzs hsz v n xs hown ad m c news hl hnews h1 h63 hbytes hbase
  unfold Oper.wp execOp
  simp only [ho, resolve, invoke, builtin, Sem.run_bind, Sem.run_pure, Result.andThen_ok, List.map_toArray, List.map_cons, List.map_nil, hs, hx, hr]
  exact h v' w' h2 h3 h5
theorem step_append_at (hgd : o.guard = none) (s x : Operand) (t : TypeId)
    (ho : o.op = .call { callee := .builtin .append, args := #[s, x], argTypes := #[t, t] })
    (base : Nat) (e : TypeId) (i : TypeInfo) (z : Value) (size bytes : Nat) (ht : Tryd.prog.underlying t = some (.slice e)) (hi : Tryd.prog.info? e = some i) (hz : i.zero = some z)
    (hsize : i.size = size) (hby : i.bytes = bytes) (hzs : z.cells.size = size) (hsz : 0 < size)
    (v : Value) (n : Nat) (xs : List Value) (hs : a.eval s = v) (hown : w.ownsRow base e size v n xs)
    (ad : Addr) (m c : Nat) (news : List Value) (hx : a.eval x = .slice (some ad) m c) (hl : news.length = m * size) (hnews : ∀ j u, news[j]? = some u → w.cell? (ad.add j) = some u) (h1 : ∀ u ∈ news, u.oneCell' = true)
    (h63 : n + m ≤ maxLen) (hbytes : (n + m) * bytes ≤ 140737488355328) (hbase : base ≤ w.heap.size)
    (h : ∀ v' w', w'.ownsRow base e size v' (n + m) (xs ++ news) → w.grownBy w' v.ownBlock → (v'.ownBlock = v.ownBlock ∨ v'.ownBlock = some w.heap.size) → K (a.put o.dst v') w') :
    if Region.wanted o (yielded ops a.tmps) = true then Oper.wp Tryd.prog o a w K Q else E := by
  have hw : Region.wanted o (yielded ops a.tmps) = true := by simp [Region.wanted, hgd]
  rw [if_pos hw]
  exact wp_append_at s x t ho base e i z size bytes ht hi hz hsize hby hzs hsz v n xs hs hown ad m c news hx hl hnews h1 h63 hbytes hbase h
end
end Go.Proofs.YtphhgjdpfcmpgaaDoor

namespace Go.Proofs.YtphhgjdpfcmpgaaDoor
open Go.RowKit

theorem b8_ofNat {n : Nat} (h : n ≤ 255) : B8 (UInt8.ofNat n) = .int .u8 (n : Int) := by
  unfold B8; rw [UInt8.toNat_ofNat']; congr 1; omega
theorem one_byte (n : Int) : ∀ u ∈ [Value.int .u8 n], u.oneCell' = true := by
  intro u hu; simp at hu; subst hu; rfl
theorem two_bytes (n m : Int) : ∀ u ∈ [Value.int .u8 n, .int .u8 m], u.oneCell' = true := by
  intro u hu; simp at hu; rcases hu with rfl | rfl <;> rfl
theorem cell_new_two (w : World) (x y : Value) (t : TypeId) : ∀ j u, [x, y][j]? = some u → (w.alloc (.cells #[x, y] t)).cell? ((⟨w.heap.size, 0, none⟩ : Addr).add j) = some u := by
  intro j u hj
  match j, hj with
  | 0, hj => simp at hj; subst hj; simp [Addr.add]
  | 1, hj => simp at hj; subst hj; simp [Addr.add]

theorem below_grownB {w0 wr w1 : World} {e : TypeId} {v : Value} {n : Nat} {xs : List Value} (hb : Below w0.heap.size w0 wr) (hown : wr.ownsRow w0.heap.size e 1 v n xs) (hgrow : wr.grownBy w1 v.ownBlock) : Below w0.heap.size w0 w1 :=
  hb.grown hgrow hb.size (fun k hk => (hown.lt k hk).1)

set_option maxRecDepth 20000 in
set_option maxHeartbeats 1000000 in
theorem appendLabel_any (base : Nat) (v : Value) (l x : List UInt8) (w : World) (hown : w.ownsRow base 5 1 v l.length (l.map B8)) (hbs : base ≤ w.heap.size) (hl : l.length ≤ 1048576) (hx : x.length ≤ 255) :
    Calls Tryd.prog 60 #[v, .string ⟨x.toArray⟩] w fun e w' => ∃ v', e = .returned v' ∧ w'.ownsRow base 5 1 v' (l ++ UInt8.ofNat x.length :: x).length ((l ++ UInt8.ofNat x.length :: x).map B8) ∧ Kpt w w' (fun k => v.ownBlock = some k) := by
  obtain ⟨i0, hi, hz0, hz1, hz2⟩ := info_parts info_byte
  have HSZ : Hid ((⟨x.toArray⟩ : ByteArray).size = x.length) := size_list x
  have hown1 := hown.alloc (.cells #[.int .u8 (x.length : Int)] 5)
  go_enter Tryd.func60, Tryd.ntmps60
  go_wp2_with (first | (at_builtin; refine wpList_append_own_at _ rfl (.tmp 5) (.tmp 9) 54 rfl base 5 i0 (.int .u8 0) 1 1 Tryd.underlying54 hi hz0 hz1 hz2 rfl (by decide) _ _ _ rfl hown1 ⟨w.heap.size, 0, none⟩ 1 1 [.int .u8 (x.length : Int)] rfl rfl ?d1 ?d2 ?d3 ?d4 ?d5 ?_))
  case d1 => exact cell_new_one _ _ _
  case d2 => exact one_byte _
  case d3 => unfold maxLen; omega
  case d4 => omega
  case d5 => simp; omega
  intro v1 w1 hown' hgrow _ hat
  have HK1 : Hid (Kpt w w1 (fun k => v.ownBlock = some k)) := (kpt_alloc w _ _).trans (grown_kpt hgrow)
  have HAT : Hid (∀ k, v1.ownBlock = some k → v.ownBlock = some k ∨ w.heap.size ≤ k) := fun k hk => by
    rcases hat with h | h
    · exact .inl (h ▸ hk)
    · rw [h] at hk
      have e := Option.some.inj hk
      try simp at e
      exact .inr (by omega)
  have hb1z : base ≤ w1.heap.size := Nat.le_trans hbs HK1.out.size
  clear hgrow hown hown1 hat
  go_wp2_with (first | (at_builtin; refine Lib.wpList_append_own_string _ rfl (.tmp 10) (.tmp 11) 54 9 rfl base 5 i0 Tryd.underlying54 Tryd.underlying9 hi hz0 hz1 hz2 _ _ _ rfl hown' ⟨x.toArray⟩ rfl ?e1 ?e2 ?e3 ?_))
  case e1 => rw [HSZ.out]; unfold maxLen; omega
  case e2 => rw [HSZ.out]; omega
  case e3 => exact hb1z
  intro v2 w2 hown2 hgrow2 _
  have HK2 : Hid (Kpt w w2 (fun k => v.ownBlock = some k)) := by
    have h1 : Kpt w w2 (fun k => v.ownBlock = some k ∨ w.heap.size ≤ k) := (HK1.out.mono (fun k _ h => .inl h)).trans ((grown_kpt hgrow2).mono (fun k _ h => HAT.out k h))
    exact h1.mono (fun k hk h => by rcases h with h | h; exact h; omega)
  rw [strCells_B8] at hown2; try rw [HSZ.out] at hown2
  have HO : Hid (w2.ownsRow base 5 1 v2 (l ++ UInt8.ofNat x.length :: x).length ((l ++ UInt8.ofNat x.length :: x).map B8)) := by
    have h : w2.ownsRow base 5 1 v2 (l ++ UInt8.ofNat x.length :: x).length ((l ++ UInt8.ofNat x.length :: x).map B8) := by
      rw [List.map_append, List.map_cons, b8_ofNat hx]
      simpa [Nat.add_assoc, Nat.add_comm 1] using hown2
    exact h
  clear hown2 hgrow2 hown'
  go_wp2_with fail
  go_ret
  exact ⟨_, rfl, HO.out, HK2.out⟩

/-- The two bytes that point to a place. -/
def ptr (p : Nat) : List UInt8 := [UInt8.ofNat (192 + p / 256), UInt8.ofNat (p % 256)]

set_option maxRecDepth 20000 in
set_option maxHeartbeats 1000000 in
theorem appendPointer_any (base : Nat) (v : Value) (l : List UInt8) (p : Nat) (w : World) (hown : w.ownsRow base 5 1 v l.length (l.map B8)) (hbs : base ≤ w.heap.size) (hl : l.length ≤ 1048576) (hp : p ≤ 4000) :
    Calls Tryd.prog 59 #[v, .int .i64 (p : Int)] w fun e w' => ∃ v', e = .returned v' ∧ w'.ownsRow base 5 1 v' (l ++ ptr p).length ((l ++ ptr p).map B8) ∧ Kpt w w' (fun k => v.ownBlock = some k) := by
  obtain ⟨i0, hi, hz0, hz1, hz2⟩ := info_parts info_byte
  have hown1 := hown.alloc (.cells #[.int .u8 (192 + (p : Int) / 256), .int .u8 ((p : Int) % 256)] 5)
  go_enter Tryd.func59, Tryd.ntmps59
  go_wp2_with (first | (at_builtin; refine wpList_append_own _ rfl (.tmp 5) (.tmp 13) 54 rfl base 5 i0 (.int .u8 0) 1 1 Tryd.underlying54 hi hz0 hz1 hz2 rfl (by decide) _ _ _ rfl hown1 ⟨w.heap.size, 0, none⟩ 2 2 [.int .u8 (192 + (p : Int) / 256), .int .u8 ((p : Int) % 256)] rfl rfl ?d1 ?d2 ?d3 ?d4 ?d5 ?_))
  case d1 => exact cell_new_two _ _ _ _
  case d2 => exact two_bytes _ _
  case d3 => unfold maxLen; omega
  case d4 => omega
  case d5 => simp; omega
  intro v1 w1 hown' hgrow _
  have HK1 : Hid (Kpt w w1 (fun k => v.ownBlock = some k)) := (kpt_alloc w _ _).trans (grown_kpt hgrow)
  clear hgrow hown hown1
  have HO : Hid (w1.ownsRow base 5 1 v1 (l ++ ptr p).length ((l ++ ptr p).map B8)) := by
    have h : w1.ownsRow base 5 1 v1 (l ++ ptr p).length ((l ++ ptr p).map B8) := by
      unfold ptr
      rw [List.map_append, List.map_cons, List.map_cons, b8_ofNat (by omega), b8_ofNat (by omega)]
      simpa using hown'
    exact h
  clear hown'
  go_wp2_with fail
  go_ret
  exact ⟨_, rfl, HO.out, HK1.out⟩
end Go.Proofs.YtphhgjdpfcmpgaaDoor
