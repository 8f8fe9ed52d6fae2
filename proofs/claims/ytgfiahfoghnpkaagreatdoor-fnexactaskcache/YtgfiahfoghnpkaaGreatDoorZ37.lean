import Derived.Test.YtgfiahfoghnpkaaGreatDoorZ35
import Derived.Laws.EntriesVeiled
import Derived.Test.YtgfiahfoghnpkaaGreatDoorZ36
namespace Go.Proofs.YtgfiahfoghnpkaaGreatDoor
open Go.RowKit Go.Maps Go.Shelf
attribute [local go_sem] Oper.semAt_some

/-- The cells of entries, one behind the other. -/
def ecells (L : List EV) : List Value := L.flatMap (fun x => [.string x.nm, .int .i64 x.ty, .bool x.no, .slice x.a x.n x.c, .int .i64 x.un, .int .i64 x.us])
theorem ecells_snoc (L : List EV) (x : EV) : ecells (L ++ [x]) = ecells L ++ [.string x.nm, .int .i64 x.ty, .bool x.no, .slice x.a x.n x.c, .int .i64 x.un, .int .i64 x.us] := by
  unfold ecells; rw [List.flatMap_append]; simp
theorem info_ev : (Tryz.prog.info? 44).map (fun i => (i.zero, i.size, i.bytes)) = some (some (.agg #[.string ⟨#[]⟩, .int .i64 0, .bool false, .slice none 0 0, .int .i64 0, .int .i64 0]), 6, 72) := by kernel_rfl
set_option maxRecDepth 20000 in
set_option maxHeartbeats 1000000 in
theorem evalues_any (b : Nat) (w : World) :
    Calls Tryz.prog 95 #[.map (some b)] w fun e w' => e = .returned (.func (.func 111) #[] #[.pointer (some ⟨w.heap.size, 0, none⟩)]) ∧ w' = w.alloc (.cells #[.map (some b)] 79) := by
  go_enter Tryz.func95, Tryz.ntmps95
  go_wp2_with fail
  go_ret
  exact ⟨rfl, rfl⟩
theorem keeps_walks {W W' : World} (h : KeepsOthers W W') : KeepsWalks W W' := ⟨h.size, fun k o hk ho => h.same k o hk (by cases o <;> first | rfl | cases ho)⟩
theorem cell_kept6 (W : World) (x : EV) : ∀ j u, [Value.string x.nm, .int .i64 x.ty, .bool x.no, .slice x.a x.n x.c, .int .i64 x.un, .int .i64 x.us][j]? = some u → (W.alloc (.cells #[.string x.nm, .int .i64 x.ty, .bool x.no, .slice x.a x.n x.c, .int .i64 x.un, .int .i64 x.us] 44)).cell? ((⟨W.heap.size, 0, none⟩ : Addr).add j) = some u := by
  intro j u hj
  match j, hj with
  | 0, hj | 1, hj | 2, hj | 3, hj | 4, hj | 5, hj => simp at hj; subst hj; simp [Addr.add]
theorem one_cells6 (x : EV) : ∀ u ∈ [Value.string x.nm, .int .i64 x.ty, .bool x.no, .slice x.a x.n x.c, .int .i64 x.un, .int .i64 x.us], u.oneCell' = true := by
  intro u hu
  simp only [List.mem_cons, List.not_mem_nil, or_false] at hu
  rcases hu with rfl | rfl | rfl | rfl | rfl | rfl <;> rfl

set_option maxRecDepth 100000 in
set_option maxHeartbeats 4000000 in
theorem appendSeq_any (Bm b nn : Nat) (D : DataW EV) (L : List EV) (hM : Hid (MapOf D L)) (hl : L.length ≤ 1048576) (w : World) (hm : w.cell? ⟨Bm, 0, none⟩ = some (.map (some b))) (hown : w.ownsMap Tryz.prog 75 elE b nn D) :
    Calls Tryz.prog 120 #[.slice none 0 0, .func (.func 111) #[] #[.pointer (some ⟨Bm, 0, none⟩)]] w fun e w' => ∃ v xs, e = .returned v ∧ xs.Perm L ∧ w'.ownsRow w.heap.size 44 6 v xs.length (ecells xs) ∧ Below w.heap.size w w' := by
  refine (callsIn_wide (n := 3)).1 ?_
  obtain ⟨F, hF⟩ : ∃ F, F = Fence.wide := ⟨_, rfl⟩
  rw [← hF]
  have hfn : ∀ k, F.fn k := by intro k; rw [hF]; trivial
  have hro : F.round = none := by rw [hF]; rfl
  clear hF
  refine callsIn_of_wp_marks Tryz.func120 rfl (hfn _) ?_ hro
  simp only [Tryz.ntmps120, List.size_toArray, List.length_cons, List.length_nil, Nat.reduceAdd, Nat.reduceSub, Array.replicate_succ, Array.replicate_zero, List.push_toArray, List.append_toArray, List.nil_append, List.cons_append]
  gi_wp2
  obtain ⟨W0, hW0⟩ : ∃ W0, w.alloc (.cells #[.slice none 0 0] 28) = W0 := ⟨_, rfl⟩
  have hs0 : W0.heap.size = w.heap.size + 1 := by rw [← hW0]; simp
  have hbx : Boxed W0 w.heap.size 28 (.slice none 0 0) := by rw [← hW0]; exact Boxed.new w _ _
  have hb0 : Below w.heap.size w W0 := by rw [← hW0]; exact (Below.refl _ w).alloc (Nat.le_refl _) _
  have hm0 : W0.cell? ⟨Bm, 0, none⟩ = some (.map (some b)) := (hb0.cell (p := ⟨Bm, 0, none⟩) (World.block_lt_of_cell? _ _ hm)).trans hm
  have hw0 : W0.ownsMap Tryz.prog 75 elE b nn D := by rw [← hW0]; exact hown.alloc _
  rw [hW0]
  clear hW0 hm hown
  have hOI : OwnFrom W0.heap.size (fun (pre : List EV) W => (∃ v, Boxed W w.heap.size 28 v ∧ W.ownsRow w.heap.size 44 6 v pre.length (ecells pre) ∧ True) ∧ Below w.heap.size w W) :=
    OwnFrom.and ((holdsRow_own w.heap.size w.heap.size 28 44 6 (fun pre : List EV => pre.length) ecells (fun _ _ => True)).from _) (ownFrom_below (Nat.le_refl _) (by omega))
  have hstops : SeqStopsK F (3 - 1) Tryz.prog 111 #[.pointer (some ⟨Bm, 0, none⟩)] (fun x : EV => #[.agg #[.string x.nm, .int .i64 x.ty, .bool x.no, .slice x.a x.n x.c, .int .i64 x.un, .int .i64 x.us]]) KeepsWalks (fun xs => xs.Perm L) (fun _ => True) L.length W0 := fun l J Jx W hW hJ _ hY h0 =>
    evalues1_in F _ (hfn _) hro (by omega) l Bm b nn D L hM J Jx W hJ hY ((hW.cell (p := ⟨Bm, 0, none⟩) (World.block_lt_of_cell? _ _ hm0)).trans hm0) (ownsMap_below hw0 hW) h0
  refine wpIn_rangeFunc_ownH hro (by omega) (gf := 111) (lb := #[.pointer (some ⟨Bm, 0, none⟩)]) rfl (hfn _) (enters_of Tryz.func111 (by kernel_rfl) rfl)
    hstops (fun h k => h.trans k) (fun W l o o' _ hl ho hw => KeepsWalks.putObj o' hl hw) (Below.refl _ _) (fun _ => rfl)
    _ (fun cd pre W => False)
    hOI
    (fun cd s A B row h hg hr => h)
    ⟨⟨_, hbx, World.ownsRow_nil _ _ _ _, trivial⟩, hb0⟩
    (fun x a' W => ∃ Bx, w.heap.size < Bx ∧ Ent6 W Bx 0 x ∧
      a' = { tmps := #[.slice none 0 0, .func (.func 111) #[] #[.pointer (some ⟨Bm, 0, none⟩)], .pointer (some ⟨w.heap.size, 0, none⟩), undef, .slice none 0 0, .pointer (some ⟨Bx, 0, none⟩), .func (.func 111) #[] #[.pointer (some ⟨Bm, 0, none⟩)], .agg #[.string x.nm, .int .i64 x.ty, .bool x.no, .slice x.a x.n x.c, .int .i64 x.un, .int .i64 x.us], undef, undef, undef, undef, undef], defers := [] })
    (fun x a' => Own.from (fun s A B row ⟨Bx, h1, ⟨a0, a1, a2, a3, a4, a5⟩, e⟩ hg hr => ⟨Bx, h1, ⟨cell_kept a0 hg hr, cell_kept a1 hg hr, cell_kept a2 hg hr, cell_kept a3 hg hr, cell_kept a4 hg hr, cell_kept a5 hg hr⟩, e⟩) _)
    ?assign ?body ?done ?stop
  case assign =>
    rintro l pre x W K hi hK
    have hi2 := hOI.alloc (.cells #[.string x.nm, .int .i64 x.ty, .bool x.no, .slice x.a x.n x.c, .int .i64 x.un, .int .i64 x.us] 44) hi
    have hlt : w.heap.size < W.heap.size := by obtain ⟨v, hv, _⟩ := hi.1; exact hv.lt
    have hgc : Ent6 (W.alloc (.cells #[.string x.nm, .int .i64 x.ty, .bool x.no, .slice x.a x.n x.c, .int .i64 x.un, .int .i64 x.us] 44)) W.heap.size 0 x := by
      have h := box6 (MapKept.heap_alloc W (.cells #[.string x.nm, .int .i64 x.ty, .bool x.no, .slice x.a x.n x.c, .int .i64 x.un, .int .i64 x.us] 44)).1
      exact h
    clear hi
    gi_wp2
    exact hK _ _ ((KeepsOthers.alloc _ _).from _) (KeepsWalks.alloc _ _) hi2 ⟨W.heap.size, hlt, hgc, rfl⟩
  case body =>
    rintro l pre x a' W hl ⟨rr, hrr⟩ ⟨⟨v, hv, hrow, _⟩, hB⟩ ⟨Bx, hBx, ⟨b0, b1, b2, b3, b4, b5⟩, rfl⟩ hlt
    obtain ⟨i0, hi, hz0, hz1, hz2⟩ := info_parts info_ev
    have hc := hv.cell
    have hlp : pre.length ≤ 1048576 := by omega
    gi_wp2_with (gi_at_builtin; refine wpListIn_append_own _ rfl _ _ 28 rfl w.heap.size 44 i0 _ 6 72 Tryz.underlying28 hi hz0 hz1 hz2 rfl (by decide) _ _ _ rfl (hrow.alloc _) ⟨W.heap.size, 0, none⟩ 1 1 [.string x.nm, .int .i64 x.ty, .bool x.no, .slice x.a x.n x.c, .int .i64 x.un, .int .i64 x.us] rfl rfl (cell_kept6 W x) (one_cells6 x) (by unfold maxLen; omega) (by omega) (by have := hB.size; simp; omega) ?_; intro v' w1 hown' hgrow _; obtain ⟨g', cap', rfl⟩ := ownsRow_succ hown'; obtain ⟨hv1, hv2, hr2, hk2, hb2⟩ := hv.appended (by decide) hrow hB.size (Nat.le_refl _) hown' hgrow; have hc1 := hv1.cell; have hf1 := hv1.frozen)
    have hr3 : (w1.setCell ⟨w.heap.size, 0, none⟩ (.slice (some ⟨g', 0, none⟩) (pre.length + 1) cap')).ownsRow w.heap.size 44 6 (.slice (some ⟨g', 0, none⟩) (pre.length + 1) cap') (pre ++ [x]).length (ecells (pre ++ [x])) := by
      rw [ecells_snoc, List.length_append]; exact hr2
    exact ⟨hk2.from _, keeps_walks hk2, ⟨⟨_, hv2, hr3, trivial⟩, hB.trans hb2⟩⟩
  case done =>
    rintro D1 xs W hD hS ⟨⟨v, hv, hrow, _⟩, hB⟩ hK
    have hc := hv.cell
    gi_wp2
    refine ⟨by simp, .inl ⟨_, _, rfl, run_takeDeferred hK, ?_⟩⟩
    exact ⟨_, results_tmp rfl _ _ _, v, xs, rfl, hS, ownsRow_putObj hrow _ hK rfl, hB.trans (belowK_b (w := w) (Nat.le_refl _) W D1 _ _ (by omega) hK rfl rfl)⟩
  case stop =>
    rintro D1 cd pre W hD hpre h hK
    exact h.elim
end Go.Proofs.YtgfiahfoghnpkaaGreatDoor
