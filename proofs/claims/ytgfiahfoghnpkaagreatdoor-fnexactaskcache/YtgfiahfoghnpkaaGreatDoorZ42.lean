import Derived.Test.YtgfiahfoghnpkaaGreatDoorZ40
import Derived.Test.YtgfiahfoghnpkaaGreatDoorZ41
import Derived.Test.YtgfiahfoghnpkaaGreatDoorZ05
import Derived.Laws.ResultCell
namespace Go.Proofs.YtgfiahfoghnpkaaGreatDoor
open Go.RowKit Go.Maps

/-- An entry in a box. -/
def EBox (W : World) (b : Nat) (v0 v1 v2 v3 v4 v5 : Value) : Prop := W.heap[b]? = some (.cells #[v0, v1, v2, v3, v4, v5] 44)
section
variable {W W' : World} {b : Nat} {v0 v1 v2 v3 v4 v5 : Value}
theorem EBox.cells (h : EBox W b v0 v1 v2 v3 v4 v5) : W.cell? ⟨b, 0, none⟩ = some v0 ∧ W.cell? ⟨b, 1, none⟩ = some v1 ∧ W.cell? ⟨b, 2, none⟩ = some v2 ∧ W.cell? ⟨b, 3, none⟩ = some v3 ∧ W.cell? ⟨b, 4, none⟩ = some v4 ∧ W.cell? ⟨b, 5, none⟩ = some v5 := box6 h
theorem EBox.free (h : EBox W b v0 v1 v2 v3 v4 v5) : W.frozen? ⟨b, 0, none⟩ = false ∧ W.frozen? ⟨b, 1, none⟩ = false ∧ W.frozen? ⟨b, 2, none⟩ = false ∧ W.frozen? ⟨b, 3, none⟩ = false ∧ W.frozen? ⟨b, 4, none⟩ = false ∧ W.frozen? ⟨b, 5, none⟩ = false := by
  unfold EBox at h
  refine ⟨?_, ?_, ?_, ?_, ?_, ?_⟩ <;> (unfold World.frozen?; rw [h]; simp)
theorem EBox.lt (h : EBox W b v0 v1 v2 v3 v4 v5) : b < W.heap.size := (Array.getElem?_eq_some_iff.1 h).1
theorem EBox.kpt {S : Nat → Prop} (h : EBox W b v0 v1 v2 v3 v4 v5) (hk : Kpt W W' S) (hn : ¬ S b) : EBox W' b v0 v1 v2 v3 v4 v5 := (hk.block b h.lt hn).trans h
theorem EBox.kept (h : EBox W b v0 v1 v2 v3 v4 v5) (hb : Below W.heap.size W W') : EBox W' b v0 v1 v2 v3 v4 v5 := (hb.block b h.lt).trans h
theorem ebox_new (w : World) : EBox (w.alloc (.cells #[v0, v1, v2, v3, v4, v5] 44)) w.heap.size v0 v1 v2 v3 v4 v5 := (MapKept.heap_alloc w _).1
theorem EBox.set0 (h : EBox W b v0 v1 v2 v3 v4 v5) (u : Value) : EBox (W.setCell ⟨b, 0, none⟩ u) b u v1 v2 v3 v4 v5 := heap_setCell_same _ _ 0 _ _ u h
theorem EBox.set1 (h : EBox W b v0 v1 v2 v3 v4 v5) (u : Value) : EBox (W.setCell ⟨b, 1, none⟩ u) b v0 u v2 v3 v4 v5 := heap_setCell_same _ _ 1 _ _ u h
theorem EBox.set2 (h : EBox W b v0 v1 v2 v3 v4 v5) (u : Value) : EBox (W.setCell ⟨b, 2, none⟩ u) b v0 v1 u v3 v4 v5 := heap_setCell_same _ _ 2 _ _ u h
theorem EBox.set3 (h : EBox W b v0 v1 v2 v3 v4 v5) (u : Value) : EBox (W.setCell ⟨b, 3, none⟩ u) b v0 v1 v2 u v4 v5 := heap_setCell_same _ _ 3 _ _ u h
theorem EBox.set4 (h : EBox W b v0 v1 v2 v3 v4 v5) (u : Value) : EBox (W.setCell ⟨b, 4, none⟩ u) b v0 v1 v2 v3 u v5 := heap_setCell_same _ _ 4 _ _ u h
theorem EBox.set5 (h : EBox W b v0 v1 v2 v3 v4 v5) (u : Value) : EBox (W.setCell ⟨b, 5, none⟩ u) b v0 v1 v2 v3 v4 u := heap_setCell_same _ _ 5 _ _ u h
/-- Six cells written. -/
def put6e (W : World) (b : Nat) (u0 u1 u2 u3 u4 u5 : Value) : World := (((((W.setCell ⟨b, 0, none⟩ u0).setCell ⟨b, 1, none⟩ u1).setCell ⟨b, 2, none⟩ u2).setCell ⟨b, 3, none⟩ u3).setCell ⟨b, 4, none⟩ u4).setCell ⟨b, 5, none⟩ u5
theorem EBox.put (h : EBox W b v0 v1 v2 v3 v4 v5) (u0 u1 u2 u3 u4 u5 : Value) : EBox (put6e W b u0 u1 u2 u3 u4 u5) b u0 u1 u2 u3 u4 u5 := (((((h.set0 u0).set1 u1).set2 u2).set3 u3).set4 u4).set5 u5
theorem put6e_kpt (W : World) (b : Nat) (u0 u1 u2 u3 u4 u5 : Value) : Kpt W (put6e W b u0 u1 u2 u3 u4 u5) (· = b) :=
  (((((kpt_set W b 0 u0 (S := (· = b)) rfl).trans (kpt_set _ b 1 u1 rfl)).trans (kpt_set _ b 2 u2 rfl)).trans (kpt_set _ b 3 u3 rfl)).trans (kpt_set _ b 4 u4 rfl)).trans (kpt_set _ b 5 u5 rfl)
end

set_option maxRecDepth 20000 in
set_option maxHeartbeats 4000000 in
theorem copyEntry_any (x : EV) (R : List (List UInt8 × Int × Int × List UInt8)) (w : World) (hr : RRow w (.slice x.a x.n x.c) R) (hl : R.length ≤ 1048576) (hx : Hid (∀ r ∈ R, r.1.length ≤ 1048576 ∧ r.2.2.2.length ≤ 1048576)) (hnm : x.nm.size ≤ 1048576) :
    Calls Tryz.prog 80 #[.agg #[.string x.nm, .int .i64 x.ty, .bool x.no, .slice x.a x.n x.c, .int .i64 x.un, .int .i64 x.us]] w fun e w' => ∃ a n c, e = .returned (.agg #[.string x.nm, .int .i64 x.ty, .bool x.no, .slice a n c, .int .i64 x.un, .int .i64 x.us]) ∧ OwnQ w' w.heap.size (.slice a n c) R ∧ Below w.heap.size w w' := by
  have HRR : Hid (∀ W, Below w.heap.size w W → RRow W (.slice x.a x.n x.c) R) := fun W hW => hr.kept hW
  have HCL : Hid (∀ W, Calls Tryz.prog 96 #[.string x.nm] W fun e w' => e = .returned (.string x.nm) ∧ Below W.heap.size W w') := fun W => cloneR_any x.nm W (by omega)
  obtain ⟨W0, hW0⟩ : ∃ W0, W0 = (w.alloc (.cells #[.string x.nm, .int .i64 x.ty, .bool x.no, .slice x.a x.n x.c, .int .i64 x.un, .int .i64 x.us] 44)).alloc (.cells #[.string ⟨#[]⟩, .int .i64 0, .bool false, .slice none 0 0, .int .i64 0, .int .i64 0] 44) := ⟨_, rfl⟩
  have HW0 : Hid ((w.alloc (.cells #[.string x.nm, .int .i64 x.ty, .bool x.no, .slice x.a x.n x.c, .int .i64 x.un, .int .i64 x.us] 44)).alloc (.cells #[.string ⟨#[]⟩, .int .i64 0, .bool false, .slice none 0 0, .int .i64 0, .int .i64 0] 44) = W0) := hW0.symm
  have hs1 : (w.alloc (.cells #[.string x.nm, .int .i64 x.ty, .bool x.no, .slice x.a x.n x.c, .int .i64 x.un, .int .i64 x.us] 44)).heap.size = w.heap.size + 1 := by simp
  have HP0 : Hid (EBox W0 w.heap.size (.string x.nm) (.int .i64 x.ty) (.bool x.no) (.slice x.a x.n x.c) (.int .i64 x.un) (.int .i64 x.us)) := by rw [hW0]; exact (ebox_new w).kpt (kpt_alloc _ _ (fun _ => False)) id
  have HQ0 : Hid (EBox W0 (w.heap.size + 1) (.string ⟨#[]⟩) (.int .i64 0) (.bool false) (.slice none 0 0) (.int .i64 0) (.int .i64 0)) := by
    rw [hW0]
    have h := ebox_new (w.alloc (.cells #[.string x.nm, .int .i64 x.ty, .bool x.no, .slice x.a x.n x.c, .int .i64 x.un, .int .i64 x.us] 44)) (v0 := .string ⟨#[]⟩) (v1 := .int .i64 0) (v2 := .bool false) (v3 := .slice none 0 0) (v4 := .int .i64 0) (v5 := .int .i64 0)
    rw [hs1] at h
    exact h
  have hb0 : Below w.heap.size w W0 := by rw [hW0]; exact ((Below.refl _ _).alloc (Nat.le_refl _) _).alloc (by simp) _
  have hz0 : w.heap.size + 1 < W0.heap.size := HQ0.out.lt
  clear hW0 hs1 hr
  go_enter Tryz.func80, Tryz.ntmps80
  obtain ⟨c0, c1, c2, c3, c4, c5⟩ := HP0.out.cells
  go_wp2_with fail
  rw [HW0.out]
  clear c0 c1 c2 c3 c4 c5
  refine (HCL.out _).mono ?_
  rintro e w2 ⟨rfl, hb2⟩
  have HP2 : Hid (EBox w2 w.heap.size (.string x.nm) (.int .i64 x.ty) (.bool x.no) (.slice x.a x.n x.c) (.int .i64 x.un) (.int .i64 x.us)) := HP0.out.kept hb2
  have HQ2 : Hid (EBox w2 (w.heap.size + 1) (.string ⟨#[]⟩) (.int .i64 0) (.bool false) (.slice none 0 0) (.int .i64 0) (.int .i64 0)) := HQ0.out.kept hb2
  have hbw2 : Below w.heap.size w w2 := hb0.trans (hb2.mono hb0.size)
  have HP3 : Hid (EBox (w2.setCell ⟨w.heap.size, 0, none⟩ (.string x.nm)) w.heap.size (.string x.nm) (.int .i64 x.ty) (.bool x.no) (.slice x.a x.n x.c) (.int .i64 x.un) (.int .i64 x.us)) := HP2.out.set0 _
  have HQ3 : Hid (EBox (w2.setCell ⟨w.heap.size, 0, none⟩ (.string x.nm)) (w.heap.size + 1) (.string ⟨#[]⟩) (.int .i64 0) (.bool false) (.slice none 0 0) (.int .i64 0) (.int .i64 0)) := HQ2.out.kpt (kpt_set w2 w.heap.size 0 _ (S := (· = w.heap.size)) rfl) (by omega)
  have hbw3 : Below w.heap.size w (w2.setCell ⟨w.heap.size, 0, none⟩ (.string x.nm)) := hbw2.setCell (p := ⟨w.heap.size, 0, none⟩) (Nat.le_refl _) _
  obtain ⟨c0, c1, c2, c3, c4, c5⟩ := HP2.out.cells
  obtain ⟨f0, f1, f2, f3, f4, f5⟩ := HP2.out.free
  clear hb2 hb0
  go_wp2_with fail
  clear c0 c1 c2 c3 c4 c5 f0 f1 f2 f3 f4 f5
  obtain ⟨w3, hw3⟩ : ∃ W, W = w2.setCell ⟨w.heap.size, 0, none⟩ (.string x.nm) := ⟨_, rfl⟩
  rw [← hw3] at HP3 HQ3 hbw3
  rw [← hw3]
  clear hw3 HP2 HQ2 hbw2
  refine (copyRecords_any _ R _ (HRR.out _ hbw3) hl hx).mono ?_
  rintro e w4 ⟨u1, rfl, ho1, hb4⟩
  obtain ⟨a1, k1, hu1, hk1⟩ := ho1.shape
  subst hu1
  have HO4 : Hid (OwnQ w4 w3.heap.size (.slice a1 R.length k1) R) := ho1
  have HP4 : Hid (EBox w4 w.heap.size (.string x.nm) (.int .i64 x.ty) (.bool x.no) (.slice x.a x.n x.c) (.int .i64 x.un) (.int .i64 x.us)) := HP3.out.kept hb4
  have HQ4 : Hid (EBox w4 (w.heap.size + 1) (.string ⟨#[]⟩) (.int .i64 0) (.bool false) (.slice none 0 0) (.int .i64 0) (.int .i64 0)) := HQ3.out.kept hb4
  have hbw4 : Below w.heap.size w w4 := hbw3.trans (hb4.mono hbw3.size)
  have hlt3 : w.heap.size + 1 < w3.heap.size := HQ3.out.lt
  have HP5 : Hid (EBox (w4.setCell ⟨w.heap.size, 3, none⟩ (.slice a1 R.length k1)) w.heap.size (.string x.nm) (.int .i64 x.ty) (.bool x.no) (.slice a1 R.length k1) (.int .i64 x.un) (.int .i64 x.us)) := HP4.out.set3 _
  have HQ5 : Hid (EBox (w4.setCell ⟨w.heap.size, 3, none⟩ (.slice a1 R.length k1)) (w.heap.size + 1) (.string ⟨#[]⟩) (.int .i64 0) (.bool false) (.slice none 0 0) (.int .i64 0) (.int .i64 0)) := HQ4.out.kpt (kpt_set w4 w.heap.size 3 _ (S := (· = w.heap.size)) rfl) (by omega)
  have HO5 : Hid (OwnQ (w4.setCell ⟨w.heap.size, 3, none⟩ (.slice a1 R.length k1)) w3.heap.size (.slice a1 R.length k1) R) := HO4.out.kpt (kpt_set w4 w.heap.size 3 _ (S := (· = w.heap.size)) rfl) (fun g hg h => by have h1 := HO4.out.lt g hg; omega)
  have hbw5 : Below w.heap.size w (w4.setCell ⟨w.heap.size, 3, none⟩ (.slice a1 R.length k1)) := hbw4.setCell (p := ⟨w.heap.size, 3, none⟩) (Nat.le_refl _) _
  obtain ⟨w5, hw5⟩ : ∃ W, W = w4.setCell ⟨w.heap.size, 3, none⟩ (.slice a1 R.length k1) := ⟨_, rfl⟩
  rw [← hw5] at HP5 HQ5 HO5 hbw5
  have HW5 : Hid (w4.setCell ⟨w.heap.size, 3, none⟩ (.slice a1 R.length k1) = w5) := hw5.symm
  obtain ⟨c0, c1, c2, c3, c4, c5⟩ := HP4.out.cells
  obtain ⟨f0, f1, f2, f3, f4, f5⟩ := HP4.out.free
  obtain ⟨d0, d1, d2, d3, d4, d5⟩ := HQ4.out.cells
  obtain ⟨g0, g1, g2, g3, g4, g5⟩ := HQ4.out.free
  have hne1 : ¬ w.heap.size = w.heap.size + 1 := by omega
  have hne2 : ¬ w.heap.size + 1 = w.heap.size := by omega
  clear ho1 hb4 hw5
  go_wp2_with fail
  rw [HW5.out]
  (try simp only [Exit.inBlock, Exit.then])
  have hO6 := HO5.out.kpt (put6e_kpt w5 (w.heap.size + 1) (.string x.nm) (.int .i64 x.ty) (.bool x.no) (.slice a1 R.length k1) (.int .i64 x.un) (.int .i64 x.us)) (fun g hg h => by have h1 := HO5.out.lt g hg; omega)
  have hb6 : Below w.heap.size w (put6e w5 (w.heap.size + 1) (.string x.nm) (.int .i64 x.ty) (.bool x.no) (.slice a1 R.length k1) (.int .i64 x.un) (.int .i64 x.us)) := hbw5.trans ((put6e_kpt w5 (w.heap.size + 1) _ _ _ _ _ _).below hbw5.size (fun k hk e => by omega))
  refine bodyPost_ret (results_cell_row rfl _ _ (w.heap.size + 1) 44 #[.string x.nm, .int .i64 x.ty, .bool x.no, .slice a1 R.length k1, .int .i64 x.un, .int .i64 x.us] (0, 0) _ rfl (HQ5.out.put _ _ _ _ _ _) Tryz.underlying44 rfl (by kernel_rfl)) rfl ⟨a1, R.length, k1, rfl, hO6.base (by omega), hb6⟩
end Go.Proofs.YtgfiahfoghnpkaaGreatDoor
