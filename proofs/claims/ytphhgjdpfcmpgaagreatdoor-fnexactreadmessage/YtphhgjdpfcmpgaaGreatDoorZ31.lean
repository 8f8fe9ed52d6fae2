import Derived.Test.YtphhgjdpfcmpgaaGreatDoorZ30
import Derived.Test.YtphhgjdpfcmpgaaGreatDoorZ23
namespace Go.Proofs.YtphhgjdpfcmpgaaGreatDoor
open Go.RowKit

/-- A head that is being read, beside the bytes that are left. -/
structure Hd (w0 : World) (pb : Nat) (t : TypeId) (zs : Array Value) (W : World) (l : List UInt8) (cs : Array Value) : Prop where
  left : W.heap[pb]? = some (.cells #[.string ⟨l.toArray⟩] 92)
  res : W.heap[w0.heap.size]? = some (.cells zs t)
  box : W.heap[w0.heap.size + 1]? = some (.cells cs t)
  kpt : Kpt w0 W (fun k => k = pb)
  low : pb < w0.heap.size
  big : w0.heap.size + 2 ≤ W.heap.size
section
variable {w0 : World} {pb : Nat} {t : TypeId} {zs cs : Array Value} {W W2 : World} {l l2 : List UInt8}
theorem Hd.call (h : Hd w0 pb t zs W l cs) (hk : Kpt W W2 (fun k => k = pb)) (hl : W2.heap[pb]? = some (.cells #[.string ⟨l2.toArray⟩] 92)) : Hd w0 pb t zs W2 l2 cs := by
  have h1 := h.low
  have h2 := h.big
  exact ⟨hl, (hk.block _ (by omega) (by omega)).trans h.res, (hk.block _ (by omega) (by omega)).trans h.box, h.kpt.trans hk, h.low, Nat.le_trans h.big hk.size⟩
theorem Hd.set (h : Hd w0 pb t zs W l cs) (i : Nat) (v : Value) : Hd w0 pb t zs (W.setCell ⟨w0.heap.size + 1, i, none⟩ v) l (cs.setIfInBounds i v) := by
  have h1 := h.low
  have h2 := h.big
  have ks : Kpt W (W.setCell ⟨w0.heap.size + 1, i, none⟩ v) (fun k => k = w0.heap.size + 1) := kpt_set _ _ _ _ rfl
  refine ⟨(ks.block _ (by omega) (by omega)).trans h.left, (ks.block _ (by omega) (by omega)).trans h.res, heap_setCell_same W _ i _ _ v h.box, ?_, h.low, Nat.le_trans h.big ks.size⟩
  exact (h.kpt.mono (T := fun k => k = pb ∨ k = w0.heap.size + 1) (fun k _ e => .inl e)).trans (ks.mono (fun k _ e => .inr e)) |>.mono (fun k hk e => by rcases e with e | e; exact e; omega)
theorem hd_start (w : World) (o1 o2 : Array Value) (hb : w.heap[pb]? = some (.cells #[.string ⟨l.toArray⟩] 92)) : Hd w pb t o1 ((w.alloc (.cells o1 t)).alloc (.cells o2 t)) l o2 := by
  have h1 := lt_blk hb
  have k1 : Kpt w ((w.alloc (.cells o1 t)).alloc (.cells o2 t)) (fun k => k = pb) := (kpt_alloc _ _ _).trans (kpt_alloc _ _ _)
  have kb : Below w.heap.size w ((w.alloc (.cells o1 t)).alloc (.cells o2 t)) := ((Below.refl w.heap.size w).alloc (Nat.le_refl _) _).alloc (by simp) _
  refine ⟨(kb.block pb h1).trans hb, ?_, ?_, k1, h1, by simp⟩
  · have e := ((Below.refl (w.alloc (.cells o1 t)).heap.size (w.alloc (.cells o1 t))).alloc (Nat.le_refl _) (.cells o2 t)).block w.heap.size (by simp)
    exact e.trans (blk_fresh w _)
  · have e := blk_fresh (w.alloc (.cells o1 t)) (.cells o2 t)
    simpa using e
end

theorem set7_heap {W : World} {b : Nat} {u0 u1 u2 u3 u4 u5 u6 : Value} {t : TypeId} (v0 v1 v2 v3 v4 v5 v6 : Value) (h : W.heap[b]? = some (.cells #[u0, u1, u2, u3, u4, u5, u6] t)) : (((((((W.setCell ⟨b, 0, none⟩ v0).setCell ⟨b, 1, none⟩ v1).setCell ⟨b, 2, none⟩ v2).setCell ⟨b, 3, none⟩ v3).setCell ⟨b, 4, none⟩ v4).setCell ⟨b, 5, none⟩ v5).setCell ⟨b, 6, none⟩ v6).heap[b]? = some (.cells #[v0, v1, v2, v3, v4, v5, v6] t) := by
  have e0 := heap_setCell_same _ _ 0 _ _ v0 h
  have e1 := heap_setCell_same _ _ 1 _ _ v1 e0
  have e2 := heap_setCell_same _ _ 2 _ _ v2 e1
  have e3 := heap_setCell_same _ _ 3 _ _ v3 e2
  have e4 := heap_setCell_same _ _ 4 _ _ v4 e3
  have e5 := heap_setCell_same _ _ 5 _ _ v5 e4
  have e6 := heap_setCell_same _ _ 6 _ _ v6 e5
  simpa using e6
theorem set7_kpt (W : World) (b : Nat) (v0 v1 v2 v3 v4 v5 v6 : Value) : Kpt W (((((((W.setCell ⟨b, 0, none⟩ v0).setCell ⟨b, 1, none⟩ v1).setCell ⟨b, 2, none⟩ v2).setCell ⟨b, 3, none⟩ v3).setCell ⟨b, 4, none⟩ v4).setCell ⟨b, 5, none⟩ v5).setCell ⟨b, 6, none⟩ v6) (fun k => k = b) := (((((((kpt_set (S := fun k => k = b) W b 0 v0 rfl).trans (kpt_set _ b 1 v1 rfl)).trans (kpt_set _ b 2 v2 rfl)).trans (kpt_set _ b 3 v3 rfl)).trans (kpt_set _ b 4 v4 rfl)).trans (kpt_set _ b 5 v5 rfl)).trans (kpt_set _ b 6 v6 rfl))
theorem box7_all {W : World} {b : Nat} {v0 v1 v2 v3 v4 v5 v6 : Value} {t : TypeId} (h : W.heap[b]? = some (.cells #[v0, v1, v2, v3, v4, v5, v6] t)) : (W.cell? ⟨b, 0, none⟩ = some v0 ∧ W.cell? ⟨b, 1, none⟩ = some v1 ∧ W.cell? ⟨b, 2, none⟩ = some v2 ∧ W.cell? ⟨b, 3, none⟩ = some v3 ∧ W.cell? ⟨b, 4, none⟩ = some v4 ∧ W.cell? ⟨b, 5, none⟩ = some v5 ∧ W.cell? ⟨b, 6, none⟩ = some v6) ∧ (W.frozen? ⟨b, 0, none⟩ = false ∧ W.frozen? ⟨b, 1, none⟩ = false ∧ W.frozen? ⟨b, 2, none⟩ = false ∧ W.frozen? ⟨b, 3, none⟩ = false ∧ W.frozen? ⟨b, 4, none⟩ = false ∧ W.frozen? ⟨b, 5, none⟩ = false ∧ W.frozen? ⟨b, 6, none⟩ = false) := by
  refine ⟨⟨?_, ?_, ?_, ?_, ?_, ?_, ?_⟩, ⟨?_, ?_, ?_, ?_, ?_, ?_, ?_⟩⟩ <;> simp [World.cell?, World.frozen?, h]

set_option maxRecDepth 20000 in
set_option maxHeartbeats 2000000 in
theorem takeMessageHead_any (pb : Nat) (l l1 l2 l3 l4 l5 : List UInt8) (n1 n2 n3 n4 n5 : Nat) (w : World) (hb : w.heap[pb]? = some (.cells #[.string ⟨l.toArray⟩] 92)) (hl : l.length ≤ 1048576)
    (e1 : Hid (l1 = tkr l 2 ∧ n1 = rdN (tkb l 2))) (e2 : Hid (l2 = tkr l1 1 ∧ n2 = rdN (tkb l1 1))) (e3 : Hid (l3 = tkr l2 1 ∧ n3 = rdN (tkb l2 1))) (e4 : Hid (l4 = tkr l3 1 ∧ n4 = rdN (tkb l3 1))) (e5 : Hid (l5 = tkr l4 1 ∧ n5 = rdN (tkb l4 1))) :
    Calls Tryz.prog 59 #[.pointer (some ⟨pb, 0, none⟩)] w fun e w' => e = .returned (HeadV ⟨#[]⟩ 0 (n1 : Int) (n2 : Int) (n3 : Int) n4 n5) ∧ w'.heap[pb]? = some (.cells #[.string ⟨l5.toArray⟩] 92) ∧ Kpt w w' (fun k => k = pb) := by
  have HC : Hid (∀ (m m2 : List UInt8) (k n : Nat) (W : World), m2 = tkr m k ∧ n = rdN (tkb m k) → k ≤ 4 → m.length ≤ 1048576 → W.heap[pb]? = some (.cells #[.string ⟨m.toArray⟩] 92) → Calls Tryz.prog 61 #[.pointer (some ⟨pb, 0, none⟩), .int .i64 (k : Int)] W fun e w' => e = .returned (.int .i64 (n : Int)) ∧ w'.heap[pb]? = some (.cells #[.string ⟨m2.toArray⟩] 92) ∧ Kpt W w' (fun k => k = pb)) := fun m m2 k n W he hk hm hW => by
    rw [he.1, he.2]; exact takeNumber_any pb m k W hW hm hk
  have q1 : l1.length ≤ 1048576 := by rw [e1.out.1]; exact Nat.le_trans (tkr_len _ _) hl
  have q2 : l2.length ≤ 1048576 := by rw [e2.out.1]; exact Nat.le_trans (tkr_len _ _) q1
  have q3 : l3.length ≤ 1048576 := by rw [e3.out.1]; exact Nat.le_trans (tkr_len _ _) q2
  have q4 : l4.length ≤ 1048576 := by rw [e4.out.1]; exact Nat.le_trans (tkr_len _ _) q3
  have H0 : Hid (Hd w pb 45 #[.string ⟨#[]⟩, .int .i64 0, .int .i64 0, .int .i64 0, .int .i64 0, .int .i64 0, .int .i64 0] ((w.alloc (.cells #[.string ⟨#[]⟩, .int .i64 0, .int .i64 0, .int .i64 0, .int .i64 0, .int .i64 0, .int .i64 0] 45)).alloc (.cells #[.string ⟨#[]⟩, .int .i64 0, .int .i64 0, .int .i64 0, .int .i64 0, .int .i64 0, .int .i64 0] 45)) l #[.string ⟨#[]⟩, .int .i64 0, .int .i64 0, .int .i64 0, .int .i64 0, .int .i64 0, .int .i64 0]) := hd_start w _ _ hb
  clear hb
  go_enter Tryz.func59, Tryz.ntmps59
  go_wp2_with fail
  refine (HC.out l l1 2 n1 _ e1.out (by omega) hl H0.out.left).mono ?_
  rintro e w1 ⟨rfl, hl1, hk1⟩
  have G1 := H0.out.call hk1 hl1
  have H1 : Hid (Hd w pb 45 #[.string ⟨#[]⟩, .int .i64 0, .int .i64 0, .int .i64 0, .int .i64 0, .int .i64 0, .int .i64 0] (w1.setCell ⟨w.heap.size + 1, 2, none⟩ (.int .i64 (n1 : Int))) l1 #[.string ⟨#[]⟩, .int .i64 0, .int .i64 (n1 : Int), .int .i64 0, .int .i64 0, .int .i64 0, .int .i64 0]) := G1.set 2 _
  obtain ⟨_, ⟨f0, f1, f2, f3, f4, f5, f6⟩⟩ := box7_all G1.box
  obtain ⟨⟨c0, c1, c2, c3, c4, c5, c6⟩, _⟩ := box7_all G1.box
  clear G1 hl1 hk1
  go_wp2_with fail
  clear c0 c1 c2 c3 c4 c5 c6 f0 f1 f2 f3 f4 f5 f6
  refine (HC.out l1 l2 1 n2 _ e2.out (by omega) q1 H1.out.left).mono ?_
  rintro e w2 ⟨rfl, hl2, hk2⟩
  have G2 := H1.out.call hk2 hl2
  have H2 : Hid (Hd w pb 45 #[.string ⟨#[]⟩, .int .i64 0, .int .i64 0, .int .i64 0, .int .i64 0, .int .i64 0, .int .i64 0] (w2.setCell ⟨w.heap.size + 1, 3, none⟩ (.int .i64 (n2 : Int))) l2 #[.string ⟨#[]⟩, .int .i64 0, .int .i64 (n1 : Int), .int .i64 (n2 : Int), .int .i64 0, .int .i64 0, .int .i64 0]) := G2.set 3 _
  obtain ⟨_, ⟨f0, f1, f2, f3, f4, f5, f6⟩⟩ := box7_all G2.box
  obtain ⟨⟨c0, c1, c2, c3, c4, c5, c6⟩, _⟩ := box7_all G2.box
  clear G2 hl2 hk2
  go_wp2_with fail
  clear c0 c1 c2 c3 c4 c5 c6 f0 f1 f2 f3 f4 f5 f6
  refine (HC.out l2 l3 1 n3 _ e3.out (by omega) q2 H2.out.left).mono ?_
  rintro e w3 ⟨rfl, hl3, hk3⟩
  have G3 := H2.out.call hk3 hl3
  have H3 : Hid (Hd w pb 45 #[.string ⟨#[]⟩, .int .i64 0, .int .i64 0, .int .i64 0, .int .i64 0, .int .i64 0, .int .i64 0] (w3.setCell ⟨w.heap.size + 1, 4, none⟩ (.int .i64 (n3 : Int))) l3 #[.string ⟨#[]⟩, .int .i64 0, .int .i64 (n1 : Int), .int .i64 (n2 : Int), .int .i64 (n3 : Int), .int .i64 0, .int .i64 0]) := G3.set 4 _
  obtain ⟨_, ⟨f0, f1, f2, f3, f4, f5, f6⟩⟩ := box7_all G3.box
  obtain ⟨⟨c0, c1, c2, c3, c4, c5, c6⟩, _⟩ := box7_all G3.box
  clear G3 hl3 hk3
  go_wp2_with fail
  clear c0 c1 c2 c3 c4 c5 c6 f0 f1 f2 f3 f4 f5 f6
  refine (HC.out l3 l4 1 n4 _ e4.out (by omega) q3 H3.out.left).mono ?_
  rintro e w4 ⟨rfl, hl4, hk4⟩
  have G4 := H3.out.call hk4 hl4
  have H4 : Hid (Hd w pb 45 #[.string ⟨#[]⟩, .int .i64 0, .int .i64 0, .int .i64 0, .int .i64 0, .int .i64 0, .int .i64 0] (w4.setCell ⟨w.heap.size + 1, 5, none⟩ (.int .i64 (n4 : Int))) l4 #[.string ⟨#[]⟩, .int .i64 0, .int .i64 (n1 : Int), .int .i64 (n2 : Int), .int .i64 (n3 : Int), .int .i64 (n4 : Int), .int .i64 0]) := G4.set 5 _
  obtain ⟨_, ⟨f0, f1, f2, f3, f4, f5, f6⟩⟩ := box7_all G4.box
  obtain ⟨⟨c0, c1, c2, c3, c4, c5, c6⟩, _⟩ := box7_all G4.box
  clear G4 hl4 hk4
  go_wp2_with fail
  clear c0 c1 c2 c3 c4 c5 c6 f0 f1 f2 f3 f4 f5 f6
  refine (HC.out l4 l5 1 n5 _ e5.out (by omega) q4 H4.out.left).mono ?_
  rintro e w5 ⟨rfl, hl5, hk5⟩
  have G5 := H4.out.call hk5 hl5
  have H5 : Hid (Hd w pb 45 #[.string ⟨#[]⟩, .int .i64 0, .int .i64 0, .int .i64 0, .int .i64 0, .int .i64 0, .int .i64 0] (w5.setCell ⟨w.heap.size + 1, 6, none⟩ (.int .i64 (n5 : Int))) l5 #[.string ⟨#[]⟩, .int .i64 0, .int .i64 (n1 : Int), .int .i64 (n2 : Int), .int .i64 (n3 : Int), .int .i64 (n4 : Int), .int .i64 (n5 : Int)]) := G5.set 6 _
  obtain ⟨_, ⟨f0, f1, f2, f3, f4, f5, f6⟩⟩ := box7_all G5.box
  obtain ⟨⟨c0, c1, c2, c3, c4, c5, c6⟩, _⟩ := box7_all G5.box
  obtain ⟨⟨z0, z1, z2, z3, z4, z5, z6⟩, ⟨y0, y1, y2, y3, y4, y5, y6⟩⟩ := box7_all G5.res
  clear G5 hl5 hk5
  go_wp2_with fail
  have hks := set7_kpt (w5.setCell ⟨w.heap.size + 1, 6, none⟩ (.int .i64 (n5 : Int))) w.heap.size (.string ⟨#[]⟩) (.int .i64 0) (.int .i64 (n1 : Int)) (.int .i64 (n2 : Int)) (.int .i64 (n3 : Int)) (.int .i64 (n4 : Int)) (.int .i64 (n5 : Int))
  have hlow := H5.out.low
  have hbig := H5.out.big
  (try simp only [Exit.inBlock, Exit.then])
  refine bodyPost_ret (results_cell_row rfl _ _ w.heap.size 45 #[.string ⟨#[]⟩, .int .i64 0, .int .i64 (n1 : Int), .int .i64 (n2 : Int), .int .i64 (n3 : Int), .int .i64 (n4 : Int), .int .i64 (n5 : Int)] (0, 0) _ rfl (set7_heap _ _ _ _ _ _ _ H5.out.res) Tryz.underlying45 rfl (by kernel_rfl)) rfl ⟨rfl, (hks.block pb (by omega) (by omega)).trans H5.out.left, ?_⟩
  exact (H5.out.kpt.mono (T := fun k => k = pb ∨ k = w.heap.size) (fun k _ e => .inl e)).trans (hks.mono (fun k _ e => .inr e)) |>.mono (fun k hk e => by rcases e with e | e; exact e; omega)
end Go.Proofs.YtphhgjdpfcmpgaaGreatDoor

namespace Go.Proofs.YtphhgjdpfcmpgaaGreatDoor
open Go.RowKit

theorem setH4 {W : World} {b : Nat} {u0 u1 u2 u3 : Value} {t : TypeId} (v0 v1 v2 v3 : Value) (h : W.heap[b]? = some (.cells #[u0, u1, u2, u3] t)) : ((((W.setCell ⟨b, 0, none⟩ v0).setCell ⟨b, 1, none⟩ v1).setCell ⟨b, 2, none⟩ v2).setCell ⟨b, 3, none⟩ v3).heap[b]? = some (.cells #[v0, v1, v2, v3] t) := by
  have e0 := heap_setCell_same _ _ 0 _ _ v0 h
  have e1 := heap_setCell_same _ _ 1 _ _ v1 e0
  have e2 := heap_setCell_same _ _ 2 _ _ v2 e1
  have e3 := heap_setCell_same _ _ 3 _ _ v3 e2
  simpa using e3
theorem setK4 (W : World) (b : Nat) (v0 v1 v2 v3 : Value) : Kpt W ((((W.setCell ⟨b, 0, none⟩ v0).setCell ⟨b, 1, none⟩ v1).setCell ⟨b, 2, none⟩ v2).setCell ⟨b, 3, none⟩ v3) (fun k => k = b) := ((((kpt_set (S := fun k => k = b) W b 0 v0 rfl).trans (kpt_set _ b 1 v1 rfl)).trans (kpt_set _ b 2 v2 rfl)).trans (kpt_set _ b 3 v3 rfl))
theorem box4_all {W : World} {b : Nat} {v0 v1 v2 v3 : Value} {t : TypeId} (h : W.heap[b]? = some (.cells #[v0, v1, v2, v3] t)) : (W.cell? ⟨b, 0, none⟩ = some v0 ∧ W.cell? ⟨b, 1, none⟩ = some v1 ∧ W.cell? ⟨b, 2, none⟩ = some v2 ∧ W.cell? ⟨b, 3, none⟩ = some v3) ∧ (W.frozen? ⟨b, 0, none⟩ = false ∧ W.frozen? ⟨b, 1, none⟩ = false ∧ W.frozen? ⟨b, 2, none⟩ = false ∧ W.frozen? ⟨b, 3, none⟩ = false) := by
  refine ⟨⟨?_, ?_, ?_, ?_⟩, ⟨?_, ?_, ?_, ?_⟩⟩ <;> simp [World.cell?, World.frozen?, h]

set_option maxRecDepth 20000 in
set_option maxHeartbeats 2000000 in
theorem takeRecordHead_any (pb : Nat) (nm : ByteArray) (l l1 l2 l3 : List UInt8) (n1 n2 n3 : Nat) (w : World) (hb : w.heap[pb]? = some (.cells #[.string ⟨l.toArray⟩] 92)) (hl : l.length ≤ 1048576)
    (e1 : Hid (l1 = tkr l 1 ∧ n1 = rdN (tkb l 1))) (e2 : Hid (l2 = tkr l1 3 ∧ n2 = rdN (tkb l1 3))) (e3 : Hid (l3 = tkr l2 1 ∧ n3 = rdN (tkb l2 1))) :
    Calls Tryz.prog 89 #[.pointer (some ⟨pb, 0, none⟩), .string nm] w fun e w' => e = .returned (.agg #[.string nm, .int .i64 (n1 : Int), .int .i64 (n2 : Int), .int .i64 (n3 : Int)]) ∧ w'.heap[pb]? = some (.cells #[.string ⟨l3.toArray⟩] 92) ∧ Kpt w w' (fun k => k = pb) := by
  have HC : Hid (∀ (m m2 : List UInt8) (k n : Nat) (W : World), m2 = tkr m k ∧ n = rdN (tkb m k) → k ≤ 4 → m.length ≤ 1048576 → W.heap[pb]? = some (.cells #[.string ⟨m.toArray⟩] 92) → Calls Tryz.prog 61 #[.pointer (some ⟨pb, 0, none⟩), .int .i64 (k : Int)] W fun e w' => e = .returned (.int .i64 (n : Int)) ∧ w'.heap[pb]? = some (.cells #[.string ⟨m2.toArray⟩] 92) ∧ Kpt W w' (fun k => k = pb)) := fun m m2 k n W he hk hm hW => by
    rw [he.1, he.2]; exact takeNumber_any pb m k W hW hm hk
  have q1 : l1.length ≤ 1048576 := by rw [e1.out.1]; exact Nat.le_trans (tkr_len _ _) hl
  have q2 : l2.length ≤ 1048576 := by rw [e2.out.1]; exact Nat.le_trans (tkr_len _ _) q1
  have H0 : Hid (Hd w pb 54 #[.string ⟨#[]⟩, .int .i64 0, .int .i64 0, .int .i64 0] ((w.alloc (.cells #[.string ⟨#[]⟩, .int .i64 0, .int .i64 0, .int .i64 0] 54)).alloc (.cells #[.string nm, .int .i64 0, .int .i64 0, .int .i64 0] 54)) l #[.string nm, .int .i64 0, .int .i64 0, .int .i64 0]) := hd_start w _ _ hb
  clear hb
  go_enter Tryz.func89, Tryz.ntmps89
  go_wp2_with fail
  refine (HC.out l l1 1 n1 _ e1.out (by omega) hl H0.out.left).mono ?_
  rintro e w1 ⟨rfl, hl1, hk1⟩
  have G1 := H0.out.call hk1 hl1
  have H1 : Hid (Hd w pb 54 #[.string ⟨#[]⟩, .int .i64 0, .int .i64 0, .int .i64 0] (w1.setCell ⟨w.heap.size + 1, 1, none⟩ (.int .i64 (n1 : Int))) l1 #[.string nm, .int .i64 (n1 : Int), .int .i64 0, .int .i64 0]) := G1.set 1 _
  obtain ⟨⟨c0, c1, c2, c3⟩, ⟨f0, f1, f2, f3⟩⟩ := box4_all G1.box
  clear G1 hl1 hk1
  go_wp2_with fail
  clear c0 c1 c2 c3 f0 f1 f2 f3
  refine (HC.out l1 l2 3 n2 _ e2.out (by omega) q1 H1.out.left).mono ?_
  rintro e w2 ⟨rfl, hl2, hk2⟩
  have G2 := H1.out.call hk2 hl2
  have H2 : Hid (Hd w pb 54 #[.string ⟨#[]⟩, .int .i64 0, .int .i64 0, .int .i64 0] (w2.setCell ⟨w.heap.size + 1, 2, none⟩ (.int .i64 (n2 : Int))) l2 #[.string nm, .int .i64 (n1 : Int), .int .i64 (n2 : Int), .int .i64 0]) := G2.set 2 _
  obtain ⟨⟨c0, c1, c2, c3⟩, ⟨f0, f1, f2, f3⟩⟩ := box4_all G2.box
  clear G2 hl2 hk2
  go_wp2_with fail
  clear c0 c1 c2 c3 f0 f1 f2 f3
  refine (HC.out l2 l3 1 n3 _ e3.out (by omega) q2 H2.out.left).mono ?_
  rintro e w3 ⟨rfl, hl3, hk3⟩
  have G3 := H2.out.call hk3 hl3
  have H3 : Hid (Hd w pb 54 #[.string ⟨#[]⟩, .int .i64 0, .int .i64 0, .int .i64 0] (w3.setCell ⟨w.heap.size + 1, 3, none⟩ (.int .i64 (n3 : Int))) l3 #[.string nm, .int .i64 (n1 : Int), .int .i64 (n2 : Int), .int .i64 (n3 : Int)]) := G3.set 3 _
  obtain ⟨⟨c0, c1, c2, c3⟩, ⟨f0, f1, f2, f3⟩⟩ := box4_all G3.box
  obtain ⟨⟨z0, z1, z2, z3⟩, ⟨y0, y1, y2, y3⟩⟩ := box4_all G3.res
  clear G3 hl3 hk3
  go_wp2_with fail
  have hks := setK4 (w3.setCell ⟨w.heap.size + 1, 3, none⟩ (.int .i64 (n3 : Int))) w.heap.size (.string nm) (.int .i64 (n1 : Int)) (.int .i64 (n2 : Int)) (.int .i64 (n3 : Int))
  have hlow := H3.out.low
  have hbig := H3.out.big
  (try simp only [Exit.inBlock, Exit.then])
  refine bodyPost_ret (results_cell_row rfl _ _ w.heap.size 54 #[.string nm, .int .i64 (n1 : Int), .int .i64 (n2 : Int), .int .i64 (n3 : Int)] (0, 0) _ rfl (setH4 _ _ _ _ H3.out.res) Tryz.underlying54 rfl (by kernel_rfl)) rfl ⟨rfl, (hks.block pb (by omega) (by omega)).trans H3.out.left, ?_⟩
  exact (H3.out.kpt.mono (T := fun k => k = pb ∨ k = w.heap.size) (fun k _ e => .inl e)).trans (hks.mono (fun k _ e => .inr e)) |>.mono (fun k hk e => by rcases e with e | e; exact e; omega)
end Go.Proofs.YtphhgjdpfcmpgaaGreatDoor
