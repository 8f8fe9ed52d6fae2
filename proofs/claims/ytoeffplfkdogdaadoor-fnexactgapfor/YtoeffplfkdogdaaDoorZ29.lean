import Derived.Test.YtoeffplfkdogdaaDoorZ28
import Derived.Laws.EntriesVeiled
namespace Go.Proofs.YtoeffplfkdogdaaDoor
open Go.RowKit Go.Shelf
attribute [local go_sem] Oper.semAt_some

/-- What the search hands back. -/
def fgV (o : Option GA) : Value := match o with
  | some x => .agg #[.string ⟨x.1.1.1.toArray⟩, .string ⟨x.1.1.2.1.toArray⟩, .slice x.1.2.1 x.1.1.2.2.length x.1.2.2]
  | none => .agg #[.string ⟨#[]⟩, .string ⟨#[]⟩, .slice none 0 0]
theorem keeps_of_below {W W' : World} (h : Below W.heap.size W W') : KeepsOthers W W' := ⟨h.size, fun k _ hk _ => (h.block k (Array.getElem?_eq_some_iff.1 hk).1).trans hk⟩
theorem fput_cells {W : World} {g h : Nat} {u0 u1 u2 u3 : Value} (v0 v1 v2 v3 : Value) (hne : g ≠ h) (a0 : W.cell? ⟨g, 0, none⟩ = some u0) (a1 : W.cell? ⟨g, 1, none⟩ = some u1) (a2 : W.cell? ⟨g, 2, none⟩ = some u2) (a3 : W.cell? ⟨h, 0, none⟩ = some u3) :
    let W' := (((W.setCell ⟨g, 0, none⟩ v0).setCell ⟨g, 1, none⟩ v1).setCell ⟨g, 2, none⟩ v2).setCell ⟨h, 0, none⟩ v3
    W'.cell? ⟨g, 0, none⟩ = some v0 ∧ W'.cell? ⟨g, 1, none⟩ = some v1 ∧ W'.cell? ⟨g, 2, none⟩ = some v2 ∧ W'.cell? ⟨h, 0, none⟩ = some v3 := by
  have n : ∀ a b : Nat, a ≠ b → (⟨g, a, none⟩ : Addr) ≠ ⟨g, b, none⟩ := fun a b hab e => by injection e with _ e2; exact hab e2
  have m : ∀ a : Nat, (⟨h, 0, none⟩ : Addr) ≠ ⟨g, a, none⟩ := fun a e => by injection e with e1 _; exact hne e1.symm
  have m' : ∀ a : Nat, (⟨g, a, none⟩ : Addr) ≠ ⟨h, 0, none⟩ := fun a e => by injection e with e1 _; exact hne e1
  refine ⟨?_, ?_, ?_, ?_⟩
  · rw [World.cell?_setCell_other _ _ _ _ (m 0), World.cell?_setCell_other _ _ _ _ (n 2 0 (by omega)), World.cell?_setCell_other _ _ _ _ (n 1 0 (by omega))]
    exact World.cell?_setCell_same _ _ _ a0
  · rw [World.cell?_setCell_other _ _ _ _ (m 1), World.cell?_setCell_other _ _ _ _ (n 2 1 (by omega))]
    exact World.cell?_setCell_same _ _ _ (by rw [World.cell?_setCell_other _ _ _ _ (n 0 1 (by omega))]; exact a1)
  · rw [World.cell?_setCell_other _ _ _ _ (m 2)]
    exact World.cell?_setCell_same _ _ _ (by rw [World.cell?_setCell_other _ _ _ _ (n 1 2 (by omega)), World.cell?_setCell_other _ _ _ _ (n 0 2 (by omega))]; exact a2)
  · exact World.cell?_setCell_same _ _ _ (by rw [World.cell?_setCell_other _ _ _ _ (m' 2), World.cell?_setCell_other _ _ _ _ (m' 1), World.cell?_setCell_other _ _ _ _ (m' 0)]; exact a3)
theorem fput_keeps (W : World) (g h : Nat) (v0 v1 v2 v3 : Value) : KeepsOthers W ((((W.setCell ⟨g, 0, none⟩ v0).setCell ⟨g, 1, none⟩ v1).setCell ⟨g, 2, none⟩ v2).setCell ⟨h, 0, none⟩ v3) :=
  (((KeepsOthers.setCell _ _ _).trans (KeepsOthers.setCell _ _ _)).trans (KeepsOthers.setCell _ _ _)).trans (KeepsOthers.setCell _ _ _)
theorem fput_below {B : Nat} {w W : World} (hb : Below B w W) (g h : Nat) (hg : B ≤ g) (hh : B ≤ h) (v0 v1 v2 v3 : Value) : Below B w ((((W.setCell ⟨g, 0, none⟩ v0).setCell ⟨g, 1, none⟩ v1).setCell ⟨g, 2, none⟩ v2).setCell ⟨h, 0, none⟩ v3) :=
  (((hb.setCell (p := ⟨g, 0, none⟩) hg _).setCell (p := ⟨g, 1, none⟩) hg _).setCell (p := ⟨g, 2, none⟩) hg _).setCell (p := ⟨h, 0, none⟩) hh _
theorem find_none {zs : List GA} {p : GA → Bool} (h : ∀ y ∈ zs, p y = false) : zs.find? p = none := by rw [List.find?_eq_none]; intro x hx; simp [h x hx]
theorem find_some {zs q : List GA} {x : GA} {p : GA → Bool} (h : ∀ y ∈ q, p y = false) (hx : p x = true) (hp : q ++ [x] <+: zs) : zs.find? p = some x := by
  obtain ⟨t, rfl⟩ := hp
  rw [List.find?_append, List.find?_append, find_none h]
  simp [hx]

set_option maxRecDepth 100000 in
set_option maxHeartbeats 4000000 in
theorem firstGap_cov (p : GA → Bool) (Bs pb : Nat) (sv : Value) (zs : List GA) (w : World) (hBs : Bs < w.heap.size) (hc : w.cell? ⟨Bs, 0, none⟩ = some sv) (hI : GARow w.heap.size w sv zs)
    (hfit : Hid (∀ (x : GA) W, Below w.heap.size w W → Calls Tryd.prog 72 #[.agg #[.string ⟨x.1.1.1.toArray⟩, .string ⟨x.1.1.2.1.toArray⟩, .slice x.1.2.1 x.1.1.2.2.length x.1.2.2], .pointer (some ⟨pb, 0, none⟩)] W fun e w' => e = .returned (.bool (p x)) ∧ Below W.heap.size W w')) :
    Calls Tryd.prog 26 #[.func (.func 52) #[] #[.pointer (some ⟨Bs, 0, none⟩)], .func (.func 72) #[] #[.pointer (some ⟨pb, 0, none⟩)]] w fun e w' => e = .returned (.tuple #[fgV (zs.find? p), .bool (zs.find? p).isSome]) ∧ Below w.heap.size w w' := by
  refine (callsIn_wide (n := 3)).1 ?_
  have HFIT : Hid (∀ (x : GA) W m, Below w.heap.size w W → CallsIn Fence.wide m Tryd.prog 72 #[.agg #[.string ⟨x.1.1.1.toArray⟩, .string ⟨x.1.1.2.1.toArray⟩, .slice x.1.2.1 x.1.1.2.2.length x.1.2.2], .pointer (some ⟨pb, 0, none⟩)] W fun e w' => e = .returned (.bool (p x)) ∧ Below W.heap.size W w') := fun x W m hW => callsIn_wide.2 (hfit.out x W hW)
  obtain ⟨F, hF⟩ : ∃ F, F = Fence.wide := ⟨_, rfl⟩
  rw [← hF] at HFIT ⊢
  have hfn : ∀ k, F.fn k := by intro k; rw [hF]; trivial
  have hro : F.round = none := by rw [hF]; rfl
  clear hF hfit
  have hfK := hfn 72
  refine callsIn_of_wp_marks Tryd.func26 rfl (hfn _) ?_ hro
  simp only [Tryd.ntmps26, List.size_toArray, List.length_cons, List.length_nil, Nat.reduceAdd, Nat.reduceSub, Array.replicate_succ, Array.replicate_zero, List.push_toArray, List.append_toArray, List.nil_append, List.cons_append]
  gi_wp2
  obtain ⟨W0, hW0⟩ : ∃ W0, ((w.alloc (.cells #[.func (.func 72) #[] #[.pointer (some ⟨pb, 0, none⟩)]] 52)).alloc (.cells #[.string ⟨#[]⟩, .string ⟨#[]⟩, .slice none 0 0] 26)).alloc (.cells #[.bool false] 4) = W0 := ⟨_, rfl⟩
  obtain ⟨c, d, fz, r, rz, hsz, hblk, hbw⟩ := gap_box3 (W := W0) (by rw [← hW0]; exact Below.refl _ _)
  have hs0 : W0.heap.size = w.heap.size + 3 := by rw [← hW0]; simp
  rw [hW0]
  have hOI : OwnFrom W0.heap.size (fun (pre : List GA) W => ((∀ y ∈ pre, p y = false) ∧ W.cell? ⟨w.heap.size, 0, none⟩ = some (.func (.func 72) #[] #[.pointer (some ⟨pb, 0, none⟩)]) ∧ W.cell? ⟨w.heap.size + 1, 0, none⟩ = some (.string ⟨#[]⟩) ∧ W.cell? ⟨w.heap.size + 1, 1, none⟩ = some (.string ⟨#[]⟩) ∧ W.cell? ⟨w.heap.size + 1, 2, none⟩ = some (.slice none 0 0) ∧ W.cell? ⟨w.heap.size + 1 + 1, 0, none⟩ = some (.bool false) ∧ W.frozen? ⟨w.heap.size + 1, 0, none⟩ = false ∧ W.frozen? ⟨w.heap.size + 1, 1, none⟩ = false ∧ W.frozen? ⟨w.heap.size + 1, 2, none⟩ = false ∧ W.frozen? ⟨w.heap.size + 1 + 1, 0, none⟩ = false) ∧ Below w.heap.size w W) :=
    OwnFrom.and (Own.from (fun s A B row ⟨a0, a1, a2, a3, a4, a5, f2, f3, f4, f5⟩ hg hr => ⟨a0, cell_kept a1 hg hr, cell_kept a2 hg hr, cell_kept a3 hg hr, cell_kept a4 hg hr, cell_kept a5 hg hr, (frozen_kept a2 hg hr).trans f2, (frozen_kept a3 hg hr).trans f3, (frozen_kept a4 hg hr).trans f4, (frozen_kept a5 hg hr).trans f5⟩) _) (ownFrom_below (Nat.le_refl _) (by omega))
  refine wpIn_rangeFunc_ownH hro (by omega) (gf := 52) (lb := #[.pointer (some ⟨Bs, 0, none⟩)]) rfl (hfn _) (enters_of Tryd.func52 (by kernel_rfl) rfl)
    (gvalues_stops F _ (hfn _) hro (by omega) Bs w.heap.size sv zs W0 (by omega) (by omega) ((hbw.cell (p := ⟨Bs, 0, none⟩) hBs).trans hc) (hI.below hbw)) belowK_t (belowK_b (by omega)) (Below.refl _ _) (fun _ => rfl)
    _ (fun cd pre W => (∃ (x : GA) (q : List GA), cd = .ret ∧ pre = q ++ [x] ∧ (∀ y ∈ q, p y = false) ∧ p x = true ∧ W.cell? ⟨w.heap.size + 1, 0, none⟩ = some (.string ⟨x.1.1.1.toArray⟩) ∧ W.cell? ⟨w.heap.size + 1, 1, none⟩ = some (.string ⟨x.1.1.2.1.toArray⟩) ∧ W.cell? ⟨w.heap.size + 1, 2, none⟩ = some (.slice x.1.2.1 x.1.1.2.2.length x.1.2.2) ∧ W.cell? ⟨w.heap.size + 1 + 1, 0, none⟩ = some (.bool true)) ∧ Below w.heap.size w W)
    hOI
    (fun cd => OwnFrom.and (Own.from (fun s A B row ⟨x, q, e1, e2, e3, e4, a2, a3, a4, a5⟩ hg hr => ⟨x, q, e1, e2, e3, e4, cell_kept a2 hg hr, cell_kept a3 hg hr, cell_kept a4 hg hr, cell_kept a5 hg hr⟩) _) (ownFrom_below (Nat.le_refl _) (by omega)))
    ⟨⟨by simp, by simpa using c 0, by simpa using r 0, by simpa using r 1, by simpa using r 2, by simpa using d 0, rz 0, rz 1, rz 2, fz 0⟩, hbw⟩
    (fun x a' W => ∃ Bx, w.heap.size + 1 + 1 < Bx ∧ W.cell? ⟨Bx, 0, none⟩ = some (.string ⟨x.1.1.1.toArray⟩) ∧ W.cell? ⟨Bx, 1, none⟩ = some (.string ⟨x.1.1.2.1.toArray⟩) ∧ W.cell? ⟨Bx, 2, none⟩ = some (.slice x.1.2.1 x.1.1.2.2.length x.1.2.2) ∧
      a' = { tmps := #[.func (.func 52) #[] #[.pointer (some ⟨Bs, 0, none⟩)], .func (.func 72) #[] #[.pointer (some ⟨pb, 0, none⟩)], undef, .pointer (some ⟨w.heap.size, 0, none⟩), .pointer (some ⟨w.heap.size + 1, 0, none⟩), .pointer (some ⟨w.heap.size + 1 + 1, 0, none⟩), .pointer (some ⟨Bx, 0, none⟩), .func (.func 52) #[] #[.pointer (some ⟨Bs, 0, none⟩)], .agg #[.string ⟨x.1.1.1.toArray⟩, .string ⟨x.1.1.2.1.toArray⟩, .slice x.1.2.1 x.1.1.2.2.length x.1.2.2], undef, undef, undef, undef, undef], defers := [] })
    (fun x a' => Own.from (fun s A B row ⟨Bx, h1, a2, a3, a4, e⟩ hg hr => ⟨Bx, h1, cell_kept a2 hg hr, cell_kept a3 hg hr, cell_kept a4 hg hr, e⟩) _)
    ?assign ?body ?done ?stop
  case assign =>
    rintro l pre x W K hi hK
    have hi2 := hOI.alloc (.cells #[.string ⟨x.1.1.1.toArray⟩, .string ⟨x.1.1.2.1.toArray⟩, .slice x.1.2.1 x.1.1.2.2.length x.1.2.2] 26) hi
    have hlt : w.heap.size + 1 + 1 < W.heap.size := World.block_lt_of_cell? _ _ hi.1.2.2.2.2.2.1
    have hgc := gap_cells (gap_new W (.cells #[.string ⟨x.1.1.1.toArray⟩, .string ⟨x.1.1.2.1.toArray⟩, .slice x.1.2.1 x.1.1.2.2.length x.1.2.2] 26))
    have hBW := hi.2
    clear hi
    gi_wp2
    exact hK _ _ ((KeepsOthers.alloc _ _).from _) ((Below.refl _ W).alloc hBW.size _) hi2 ⟨W.heap.size, hlt, hgc.1.1, hgc.1.2.1, hgc.1.2.2, rfl⟩
  case body =>
    rintro l pre x a' W hl ⟨rr, hrr⟩ ⟨⟨a0, a1, a2, a3, a4, a5, f2, f3, f4, f5⟩, hB⟩ ⟨Bx, hBx, b0, b1, b2, rfl⟩ hlt
    have HKE : Hid (∀ m, CallsIn F m Tryd.prog 72 #[.agg #[.string ⟨x.1.1.1.toArray⟩, .string ⟨x.1.1.2.1.toArray⟩, .slice x.1.2.1 x.1.1.2.2.length x.1.2.2], .pointer (some ⟨pb, 0, none⟩)] W fun e w' => e = .returned (.bool (p x)) ∧ Below W.heap.size W w') := fun m => HFIT.out x W m hB
    have HCE : Hid (∀ W', Below W.heap.size W W' → W'.cell? ⟨Bx, 0, none⟩ = some (.string ⟨x.1.1.1.toArray⟩) ∧ W'.cell? ⟨Bx, 1, none⟩ = some (.string ⟨x.1.1.2.1.toArray⟩) ∧ W'.cell? ⟨Bx, 2, none⟩ = some (.slice x.1.2.1 x.1.1.2.2.length x.1.2.2) ∧ W'.cell? ⟨w.heap.size, 0, none⟩ = some (.func (.func 72) #[] #[.pointer (some ⟨pb, 0, none⟩)]) ∧ W'.cell? ⟨w.heap.size + 1, 0, none⟩ = some (.string ⟨#[]⟩) ∧ W'.cell? ⟨w.heap.size + 1, 1, none⟩ = some (.string ⟨#[]⟩) ∧ W'.cell? ⟨w.heap.size + 1, 2, none⟩ = some (.slice none 0 0) ∧ W'.cell? ⟨w.heap.size + 1 + 1, 0, none⟩ = some (.bool false) ∧ W'.frozen? ⟨w.heap.size + 1, 0, none⟩ = false ∧ W'.frozen? ⟨w.heap.size + 1, 1, none⟩ = false ∧ W'.frozen? ⟨w.heap.size + 1, 2, none⟩ = false ∧ W'.frozen? ⟨w.heap.size + 1 + 1, 0, none⟩ = false) := fun W' h => by
      have hx := World.block_lt_of_cell? _ _ b0
      have hy := World.block_lt_of_cell? _ _ a5
      simp only at hx hy
      rw [h.cell (p := ⟨Bx, 0, none⟩) hx, h.cell (p := ⟨Bx, 1, none⟩) hx, h.cell (p := ⟨Bx, 2, none⟩) hx, h.cell (p := ⟨w.heap.size, 0, none⟩) (show w.heap.size < _ by omega), h.cell (p := ⟨w.heap.size + 1, 0, none⟩) (show w.heap.size + 1 < _ by omega), h.cell (p := ⟨w.heap.size + 1, 1, none⟩) (show w.heap.size + 1 < _ by omega), h.cell (p := ⟨w.heap.size + 1, 2, none⟩) (show w.heap.size + 1 < _ by omega), h.cell (p := ⟨w.heap.size + 1 + 1, 0, none⟩) hy, h.frozen (p := ⟨w.heap.size + 1, 0, none⟩) (show w.heap.size + 1 < _ by omega), h.frozen (p := ⟨w.heap.size + 1, 1, none⟩) (show w.heap.size + 1 < _ by omega), h.frozen (p := ⟨w.heap.size + 1, 2, none⟩) (show w.heap.size + 1 < _ by omega), h.frozen (p := ⟨w.heap.size + 1 + 1, 0, none⟩) hy]
      exact ⟨b0, b1, b2, a1, a2, a3, a4, a5, f2, f3, f4, f5⟩
    clear HFIT
    cases hp : p x with
    | false =>
      rw [hp] at HKE
      have HA0 : Hid (∀ y ∈ pre ++ [x], p y = false) := fun y hy => by
        rcases List.mem_append.1 hy with h | h
        · exact a0 y h
        · rw [List.mem_singleton.1 h]; exact hp
      clear hp
      gi_wp2_with (gi_at_call 72; refine (CallsIn.inRound l (HKE.out _)).mono ?_; rintro e w1 ⟨rfl, hb1⟩)
      obtain ⟨_, _, _, x1, x2, x3, x4, x5, y2, y3, y4, y5⟩ := HCE.out _ hb1
      exact ⟨(keeps_of_below hb1).from _, hb1.mono hB.size, ⟨HA0.out, x1, x2, x3, x4, x5, y2, y3, y4, y5⟩, hB.trans (hb1.mono hB.size)⟩
    | true =>
      rw [hp] at HKE
      have HP : Hid (p x = true) := hp
      clear hp
      gi_wp2_with (gi_at_call 72; refine (CallsIn.inRound l (HKE.out _)).mono ?_; rintro e w1 ⟨rfl, hb1⟩; obtain ⟨z0, z1, z2, x1, x2, x3, x4, x5, y2, y3, y4, y5⟩ := HCE.out _ hb1)
      obtain ⟨k0, k1, k2, k3⟩ := fput_cells (.string ⟨x.1.1.1.toArray⟩) (.string ⟨x.1.1.2.1.toArray⟩) (.slice x.1.2.1 x.1.1.2.2.length x.1.2.2) (.bool true) (show w.heap.size + 1 ≠ w.heap.size + 1 + 1 by omega) x2 x3 x4 x5
      exact ⟨((keeps_of_below hb1).trans (fput_keeps _ _ _ _ _ _ _)).from _, ⟨x, pre, rfl, rfl, a0, HP.out, k0, k1, k2, k3⟩, fput_below (hB.trans (hb1.mono hB.size)) _ _ (by omega) (by omega) _ _ _ _⟩
  case done =>
    rintro D ys W hD rfl ⟨⟨a0, a1, a2, a3, a4, a5, f2, f3, f4, f5⟩, hB⟩ hK
    have HN : Hid (ys.find? p = none) := find_none a0
    gi_wp2
    obtain ⟨k0, k1, k2, k3⟩ := fput_cells (.string ⟨#[]⟩) (.string ⟨#[]⟩) (.slice none 0 0) (.bool false) (show w.heap.size + 1 ≠ w.heap.size + 1 + 1 by omega) a2 a3 a4 a5
    have hK' := (fput_keeps W (w.heap.size + 1) (w.heap.size + 1 + 1) (.string ⟨#[]⟩) (.string ⟨#[]⟩) (.slice none 0 0) (.bool false)).same D _ hK rfl
    have hbF := (fput_below hB (w.heap.size + 1) (w.heap.size + 1 + 1) (by omega) (by omega) (.string ⟨#[]⟩) (.string ⟨#[]⟩) (.slice none 0 0) (.bool false)).trans (belowK_b (w := w) (Nat.le_refl _) _ D _ (.deferred none) (by omega) hK' rfl rfl)
    refine ⟨by simp, .inl ⟨_, _, rfl, run_takeDeferred hK', ?_⟩⟩
    have q0 := cell_kept k0 (grownBy_putObj' _ D (.deferred none)) (fun r e => by cases e; exact ⟨_, hK', rfl⟩)
    have q1 := cell_kept k1 (grownBy_putObj' _ D (.deferred none)) (fun r e => by cases e; exact ⟨_, hK', rfl⟩)
    have q2 := cell_kept k2 (grownBy_putObj' _ D (.deferred none)) (fun r e => by cases e; exact ⟨_, hK', rfl⟩)
    have q3 := cell_kept k3 (grownBy_putObj' _ D (.deferred none)) (fun r e => by cases e; exact ⟨_, hK', rfl⟩)
    refine ⟨.tuple #[.agg #[.string ⟨#[]⟩, .string ⟨#[]⟩, .slice none 0 0], .bool false], ?_, by rw [HN.out]; rfl, hbF⟩
    simp [results, Tryd.f26, go_sem, q0, q1, q2, q3]
  case stop =>
    rintro D cd pre W hD hpre ⟨⟨x, q, rfl, rfl, hq, hpx, a2, a3, a4, a5⟩, hB⟩ hK
    have HS : Hid (zs.find? p = some x) := find_some hq hpx hpre
    gi_wp2
    have hbF := hB.trans (belowK_b (w := w) (Nat.le_refl _) _ D _ (.deferred none) (by omega) hK rfl rfl)
    refine ⟨by simp, .inl ⟨_, _, rfl, run_takeDeferred hK, ?_⟩⟩
    have q0 := cell_kept a2 (grownBy_putObj' _ D (.deferred none)) (fun r e => by cases e; exact ⟨_, hK, rfl⟩)
    have q1 := cell_kept a3 (grownBy_putObj' _ D (.deferred none)) (fun r e => by cases e; exact ⟨_, hK, rfl⟩)
    have q2 := cell_kept a4 (grownBy_putObj' _ D (.deferred none)) (fun r e => by cases e; exact ⟨_, hK, rfl⟩)
    have q3 := cell_kept a5 (grownBy_putObj' _ D (.deferred none)) (fun r e => by cases e; exact ⟨_, hK, rfl⟩)
    refine ⟨.tuple #[.agg #[.string ⟨x.1.1.1.toArray⟩, .string ⟨x.1.1.2.1.toArray⟩, .slice x.1.2.1 x.1.1.2.2.length x.1.2.2], .bool true], ?_, by rw [HS.out]; rfl, hbF⟩
    simp [results, Tryd.f26, go_sem, q0, q1, q2, q3]

set_option maxRecDepth 100000 in
set_option maxHeartbeats 4000000 in
theorem firstGap_for (p : GA → Bool) (Bs pb : Nat) (sv : Value) (zs : List GA) (w : World) (hBs : Bs < w.heap.size) (hc : w.cell? ⟨Bs, 0, none⟩ = some sv) (hI : GARow w.heap.size w sv zs)
    (hfit : Hid (∀ (x : GA) W, Below w.heap.size w W → Calls Tryd.prog 28 #[.agg #[.string ⟨x.1.1.1.toArray⟩, .string ⟨x.1.1.2.1.toArray⟩, .slice x.1.2.1 x.1.1.2.2.length x.1.2.2], .pointer (some ⟨pb, 0, none⟩)] W fun e w' => e = .returned (.bool (p x)) ∧ Below W.heap.size W w')) :
    Calls Tryd.prog 26 #[.func (.func 52) #[] #[.pointer (some ⟨Bs, 0, none⟩)], .func (.func 28) #[] #[.pointer (some ⟨pb, 0, none⟩)]] w fun e w' => e = .returned (.tuple #[fgV (zs.find? p), .bool (zs.find? p).isSome]) ∧ Below w.heap.size w w' := by
  refine (callsIn_wide (n := 3)).1 ?_
  have HFIT : Hid (∀ (x : GA) W m, Below w.heap.size w W → CallsIn Fence.wide m Tryd.prog 28 #[.agg #[.string ⟨x.1.1.1.toArray⟩, .string ⟨x.1.1.2.1.toArray⟩, .slice x.1.2.1 x.1.1.2.2.length x.1.2.2], .pointer (some ⟨pb, 0, none⟩)] W fun e w' => e = .returned (.bool (p x)) ∧ Below W.heap.size W w') := fun x W m hW => callsIn_wide.2 (hfit.out x W hW)
  obtain ⟨F, hF⟩ : ∃ F, F = Fence.wide := ⟨_, rfl⟩
  rw [← hF] at HFIT ⊢
  have hfn : ∀ k, F.fn k := by intro k; rw [hF]; trivial
  have hro : F.round = none := by rw [hF]; rfl
  clear hF hfit
  have hfK := hfn 28
  refine callsIn_of_wp_marks Tryd.func26 rfl (hfn _) ?_ hro
  simp only [Tryd.ntmps26, List.size_toArray, List.length_cons, List.length_nil, Nat.reduceAdd, Nat.reduceSub, Array.replicate_succ, Array.replicate_zero, List.push_toArray, List.append_toArray, List.nil_append, List.cons_append]
  gi_wp2
  obtain ⟨W0, hW0⟩ : ∃ W0, ((w.alloc (.cells #[.func (.func 28) #[] #[.pointer (some ⟨pb, 0, none⟩)]] 52)).alloc (.cells #[.string ⟨#[]⟩, .string ⟨#[]⟩, .slice none 0 0] 26)).alloc (.cells #[.bool false] 4) = W0 := ⟨_, rfl⟩
  obtain ⟨c, d, fz, r, rz, hsz, hblk, hbw⟩ := gap_box3 (W := W0) (by rw [← hW0]; exact Below.refl _ _)
  have hs0 : W0.heap.size = w.heap.size + 3 := by rw [← hW0]; simp
  rw [hW0]
  have hOI : OwnFrom W0.heap.size (fun (pre : List GA) W => ((∀ y ∈ pre, p y = false) ∧ W.cell? ⟨w.heap.size, 0, none⟩ = some (.func (.func 28) #[] #[.pointer (some ⟨pb, 0, none⟩)]) ∧ W.cell? ⟨w.heap.size + 1, 0, none⟩ = some (.string ⟨#[]⟩) ∧ W.cell? ⟨w.heap.size + 1, 1, none⟩ = some (.string ⟨#[]⟩) ∧ W.cell? ⟨w.heap.size + 1, 2, none⟩ = some (.slice none 0 0) ∧ W.cell? ⟨w.heap.size + 1 + 1, 0, none⟩ = some (.bool false) ∧ W.frozen? ⟨w.heap.size + 1, 0, none⟩ = false ∧ W.frozen? ⟨w.heap.size + 1, 1, none⟩ = false ∧ W.frozen? ⟨w.heap.size + 1, 2, none⟩ = false ∧ W.frozen? ⟨w.heap.size + 1 + 1, 0, none⟩ = false) ∧ Below w.heap.size w W) :=
    OwnFrom.and (Own.from (fun s A B row ⟨a0, a1, a2, a3, a4, a5, f2, f3, f4, f5⟩ hg hr => ⟨a0, cell_kept a1 hg hr, cell_kept a2 hg hr, cell_kept a3 hg hr, cell_kept a4 hg hr, cell_kept a5 hg hr, (frozen_kept a2 hg hr).trans f2, (frozen_kept a3 hg hr).trans f3, (frozen_kept a4 hg hr).trans f4, (frozen_kept a5 hg hr).trans f5⟩) _) (ownFrom_below (Nat.le_refl _) (by omega))
  refine wpIn_rangeFunc_ownH hro (by omega) (gf := 52) (lb := #[.pointer (some ⟨Bs, 0, none⟩)]) rfl (hfn _) (enters_of Tryd.func52 (by kernel_rfl) rfl)
    (gvalues_stops F _ (hfn _) hro (by omega) Bs w.heap.size sv zs W0 (by omega) (by omega) ((hbw.cell (p := ⟨Bs, 0, none⟩) hBs).trans hc) (hI.below hbw)) belowK_t (belowK_b (by omega)) (Below.refl _ _) (fun _ => rfl)
    _ (fun cd pre W => (∃ (x : GA) (q : List GA), cd = .ret ∧ pre = q ++ [x] ∧ (∀ y ∈ q, p y = false) ∧ p x = true ∧ W.cell? ⟨w.heap.size + 1, 0, none⟩ = some (.string ⟨x.1.1.1.toArray⟩) ∧ W.cell? ⟨w.heap.size + 1, 1, none⟩ = some (.string ⟨x.1.1.2.1.toArray⟩) ∧ W.cell? ⟨w.heap.size + 1, 2, none⟩ = some (.slice x.1.2.1 x.1.1.2.2.length x.1.2.2) ∧ W.cell? ⟨w.heap.size + 1 + 1, 0, none⟩ = some (.bool true)) ∧ Below w.heap.size w W)
    hOI
    (fun cd => OwnFrom.and (Own.from (fun s A B row ⟨x, q, e1, e2, e3, e4, a2, a3, a4, a5⟩ hg hr => ⟨x, q, e1, e2, e3, e4, cell_kept a2 hg hr, cell_kept a3 hg hr, cell_kept a4 hg hr, cell_kept a5 hg hr⟩) _) (ownFrom_below (Nat.le_refl _) (by omega)))
    ⟨⟨by simp, by simpa using c 0, by simpa using r 0, by simpa using r 1, by simpa using r 2, by simpa using d 0, rz 0, rz 1, rz 2, fz 0⟩, hbw⟩
    (fun x a' W => ∃ Bx, w.heap.size + 1 + 1 < Bx ∧ W.cell? ⟨Bx, 0, none⟩ = some (.string ⟨x.1.1.1.toArray⟩) ∧ W.cell? ⟨Bx, 1, none⟩ = some (.string ⟨x.1.1.2.1.toArray⟩) ∧ W.cell? ⟨Bx, 2, none⟩ = some (.slice x.1.2.1 x.1.1.2.2.length x.1.2.2) ∧
      a' = { tmps := #[.func (.func 52) #[] #[.pointer (some ⟨Bs, 0, none⟩)], .func (.func 28) #[] #[.pointer (some ⟨pb, 0, none⟩)], undef, .pointer (some ⟨w.heap.size, 0, none⟩), .pointer (some ⟨w.heap.size + 1, 0, none⟩), .pointer (some ⟨w.heap.size + 1 + 1, 0, none⟩), .pointer (some ⟨Bx, 0, none⟩), .func (.func 52) #[] #[.pointer (some ⟨Bs, 0, none⟩)], .agg #[.string ⟨x.1.1.1.toArray⟩, .string ⟨x.1.1.2.1.toArray⟩, .slice x.1.2.1 x.1.1.2.2.length x.1.2.2], undef, undef, undef, undef, undef], defers := [] })
    (fun x a' => Own.from (fun s A B row ⟨Bx, h1, a2, a3, a4, e⟩ hg hr => ⟨Bx, h1, cell_kept a2 hg hr, cell_kept a3 hg hr, cell_kept a4 hg hr, e⟩) _)
    ?assign ?body ?done ?stop
  case assign =>
    rintro l pre x W K hi hK
    have hi2 := hOI.alloc (.cells #[.string ⟨x.1.1.1.toArray⟩, .string ⟨x.1.1.2.1.toArray⟩, .slice x.1.2.1 x.1.1.2.2.length x.1.2.2] 26) hi
    have hlt : w.heap.size + 1 + 1 < W.heap.size := World.block_lt_of_cell? _ _ hi.1.2.2.2.2.2.1
    have hgc := gap_cells (gap_new W (.cells #[.string ⟨x.1.1.1.toArray⟩, .string ⟨x.1.1.2.1.toArray⟩, .slice x.1.2.1 x.1.1.2.2.length x.1.2.2] 26))
    have hBW := hi.2
    clear hi
    gi_wp2
    exact hK _ _ ((KeepsOthers.alloc _ _).from _) ((Below.refl _ W).alloc hBW.size _) hi2 ⟨W.heap.size, hlt, hgc.1.1, hgc.1.2.1, hgc.1.2.2, rfl⟩
  case body =>
    rintro l pre x a' W hl ⟨rr, hrr⟩ ⟨⟨a0, a1, a2, a3, a4, a5, f2, f3, f4, f5⟩, hB⟩ ⟨Bx, hBx, b0, b1, b2, rfl⟩ hlt
    have HKE : Hid (∀ m, CallsIn F m Tryd.prog 28 #[.agg #[.string ⟨x.1.1.1.toArray⟩, .string ⟨x.1.1.2.1.toArray⟩, .slice x.1.2.1 x.1.1.2.2.length x.1.2.2], .pointer (some ⟨pb, 0, none⟩)] W fun e w' => e = .returned (.bool (p x)) ∧ Below W.heap.size W w') := fun m => HFIT.out x W m hB
    have HCE : Hid (∀ W', Below W.heap.size W W' → W'.cell? ⟨Bx, 0, none⟩ = some (.string ⟨x.1.1.1.toArray⟩) ∧ W'.cell? ⟨Bx, 1, none⟩ = some (.string ⟨x.1.1.2.1.toArray⟩) ∧ W'.cell? ⟨Bx, 2, none⟩ = some (.slice x.1.2.1 x.1.1.2.2.length x.1.2.2) ∧ W'.cell? ⟨w.heap.size, 0, none⟩ = some (.func (.func 28) #[] #[.pointer (some ⟨pb, 0, none⟩)]) ∧ W'.cell? ⟨w.heap.size + 1, 0, none⟩ = some (.string ⟨#[]⟩) ∧ W'.cell? ⟨w.heap.size + 1, 1, none⟩ = some (.string ⟨#[]⟩) ∧ W'.cell? ⟨w.heap.size + 1, 2, none⟩ = some (.slice none 0 0) ∧ W'.cell? ⟨w.heap.size + 1 + 1, 0, none⟩ = some (.bool false) ∧ W'.frozen? ⟨w.heap.size + 1, 0, none⟩ = false ∧ W'.frozen? ⟨w.heap.size + 1, 1, none⟩ = false ∧ W'.frozen? ⟨w.heap.size + 1, 2, none⟩ = false ∧ W'.frozen? ⟨w.heap.size + 1 + 1, 0, none⟩ = false) := fun W' h => by
      have hx := World.block_lt_of_cell? _ _ b0
      have hy := World.block_lt_of_cell? _ _ a5
      simp only at hx hy
      rw [h.cell (p := ⟨Bx, 0, none⟩) hx, h.cell (p := ⟨Bx, 1, none⟩) hx, h.cell (p := ⟨Bx, 2, none⟩) hx, h.cell (p := ⟨w.heap.size, 0, none⟩) (show w.heap.size < _ by omega), h.cell (p := ⟨w.heap.size + 1, 0, none⟩) (show w.heap.size + 1 < _ by omega), h.cell (p := ⟨w.heap.size + 1, 1, none⟩) (show w.heap.size + 1 < _ by omega), h.cell (p := ⟨w.heap.size + 1, 2, none⟩) (show w.heap.size + 1 < _ by omega), h.cell (p := ⟨w.heap.size + 1 + 1, 0, none⟩) hy, h.frozen (p := ⟨w.heap.size + 1, 0, none⟩) (show w.heap.size + 1 < _ by omega), h.frozen (p := ⟨w.heap.size + 1, 1, none⟩) (show w.heap.size + 1 < _ by omega), h.frozen (p := ⟨w.heap.size + 1, 2, none⟩) (show w.heap.size + 1 < _ by omega), h.frozen (p := ⟨w.heap.size + 1 + 1, 0, none⟩) hy]
      exact ⟨b0, b1, b2, a1, a2, a3, a4, a5, f2, f3, f4, f5⟩
    clear HFIT
    cases hp : p x with
    | false =>
      rw [hp] at HKE
      have HA0 : Hid (∀ y ∈ pre ++ [x], p y = false) := fun y hy => by
        rcases List.mem_append.1 hy with h | h
        · exact a0 y h
        · rw [List.mem_singleton.1 h]; exact hp
      clear hp
      gi_wp2_with (gi_at_call 28; refine (CallsIn.inRound l (HKE.out _)).mono ?_; rintro e w1 ⟨rfl, hb1⟩)
      obtain ⟨_, _, _, x1, x2, x3, x4, x5, y2, y3, y4, y5⟩ := HCE.out _ hb1
      exact ⟨(keeps_of_below hb1).from _, hb1.mono hB.size, ⟨HA0.out, x1, x2, x3, x4, x5, y2, y3, y4, y5⟩, hB.trans (hb1.mono hB.size)⟩
    | true =>
      rw [hp] at HKE
      have HP : Hid (p x = true) := hp
      clear hp
      gi_wp2_with (gi_at_call 28; refine (CallsIn.inRound l (HKE.out _)).mono ?_; rintro e w1 ⟨rfl, hb1⟩; obtain ⟨z0, z1, z2, x1, x2, x3, x4, x5, y2, y3, y4, y5⟩ := HCE.out _ hb1)
      obtain ⟨k0, k1, k2, k3⟩ := fput_cells (.string ⟨x.1.1.1.toArray⟩) (.string ⟨x.1.1.2.1.toArray⟩) (.slice x.1.2.1 x.1.1.2.2.length x.1.2.2) (.bool true) (show w.heap.size + 1 ≠ w.heap.size + 1 + 1 by omega) x2 x3 x4 x5
      exact ⟨((keeps_of_below hb1).trans (fput_keeps _ _ _ _ _ _ _)).from _, ⟨x, pre, rfl, rfl, a0, HP.out, k0, k1, k2, k3⟩, fput_below (hB.trans (hb1.mono hB.size)) _ _ (by omega) (by omega) _ _ _ _⟩
  case done =>
    rintro D ys W hD rfl ⟨⟨a0, a1, a2, a3, a4, a5, f2, f3, f4, f5⟩, hB⟩ hK
    have HN : Hid (ys.find? p = none) := find_none a0
    gi_wp2
    obtain ⟨k0, k1, k2, k3⟩ := fput_cells (.string ⟨#[]⟩) (.string ⟨#[]⟩) (.slice none 0 0) (.bool false) (show w.heap.size + 1 ≠ w.heap.size + 1 + 1 by omega) a2 a3 a4 a5
    have hK' := (fput_keeps W (w.heap.size + 1) (w.heap.size + 1 + 1) (.string ⟨#[]⟩) (.string ⟨#[]⟩) (.slice none 0 0) (.bool false)).same D _ hK rfl
    have hbF := (fput_below hB (w.heap.size + 1) (w.heap.size + 1 + 1) (by omega) (by omega) (.string ⟨#[]⟩) (.string ⟨#[]⟩) (.slice none 0 0) (.bool false)).trans (belowK_b (w := w) (Nat.le_refl _) _ D _ (.deferred none) (by omega) hK' rfl rfl)
    refine ⟨by simp, .inl ⟨_, _, rfl, run_takeDeferred hK', ?_⟩⟩
    have q0 := cell_kept k0 (grownBy_putObj' _ D (.deferred none)) (fun r e => by cases e; exact ⟨_, hK', rfl⟩)
    have q1 := cell_kept k1 (grownBy_putObj' _ D (.deferred none)) (fun r e => by cases e; exact ⟨_, hK', rfl⟩)
    have q2 := cell_kept k2 (grownBy_putObj' _ D (.deferred none)) (fun r e => by cases e; exact ⟨_, hK', rfl⟩)
    have q3 := cell_kept k3 (grownBy_putObj' _ D (.deferred none)) (fun r e => by cases e; exact ⟨_, hK', rfl⟩)
    refine ⟨.tuple #[.agg #[.string ⟨#[]⟩, .string ⟨#[]⟩, .slice none 0 0], .bool false], ?_, by rw [HN.out]; rfl, hbF⟩
    simp [results, Tryd.f26, go_sem, q0, q1, q2, q3]
  case stop =>
    rintro D cd pre W hD hpre ⟨⟨x, q, rfl, rfl, hq, hpx, a2, a3, a4, a5⟩, hB⟩ hK
    have HS : Hid (zs.find? p = some x) := find_some hq hpx hpre
    gi_wp2
    have hbF := hB.trans (belowK_b (w := w) (Nat.le_refl _) _ D _ (.deferred none) (by omega) hK rfl rfl)
    refine ⟨by simp, .inl ⟨_, _, rfl, run_takeDeferred hK, ?_⟩⟩
    have q0 := cell_kept a2 (grownBy_putObj' _ D (.deferred none)) (fun r e => by cases e; exact ⟨_, hK, rfl⟩)
    have q1 := cell_kept a3 (grownBy_putObj' _ D (.deferred none)) (fun r e => by cases e; exact ⟨_, hK, rfl⟩)
    have q2 := cell_kept a4 (grownBy_putObj' _ D (.deferred none)) (fun r e => by cases e; exact ⟨_, hK, rfl⟩)
    have q3 := cell_kept a5 (grownBy_putObj' _ D (.deferred none)) (fun r e => by cases e; exact ⟨_, hK, rfl⟩)
    refine ⟨.tuple #[.agg #[.string ⟨x.1.1.1.toArray⟩, .string ⟨x.1.1.2.1.toArray⟩, .slice x.1.2.1 x.1.1.2.2.length x.1.2.2], .bool true], ?_, by rw [HS.out]; rfl, hbF⟩
    simp [results, Tryd.f26, go_sem, q0, q1, q2, q3]

set_option maxRecDepth 100000 in
set_option maxHeartbeats 4000000 in
theorem firstGap_prf (p : GA → Bool) (Bs pb : Nat) (sv : Value) (zs : List GA) (w : World) (hBs : Bs < w.heap.size) (hc : w.cell? ⟨Bs, 0, none⟩ = some sv) (hI : GARow w.heap.size w sv zs)
    (hfit : Hid (∀ (x : GA) W, Below w.heap.size w W → Calls Tryd.prog 61 #[.agg #[.string ⟨x.1.1.1.toArray⟩, .string ⟨x.1.1.2.1.toArray⟩, .slice x.1.2.1 x.1.1.2.2.length x.1.2.2], .pointer (some ⟨pb, 0, none⟩)] W fun e w' => e = .returned (.bool (p x)) ∧ Below W.heap.size W w')) :
    Calls Tryd.prog 26 #[.func (.func 52) #[] #[.pointer (some ⟨Bs, 0, none⟩)], .func (.func 61) #[] #[.pointer (some ⟨pb, 0, none⟩)]] w fun e w' => e = .returned (.tuple #[fgV (zs.find? p), .bool (zs.find? p).isSome]) ∧ Below w.heap.size w w' := by
  refine (callsIn_wide (n := 3)).1 ?_
  have HFIT : Hid (∀ (x : GA) W m, Below w.heap.size w W → CallsIn Fence.wide m Tryd.prog 61 #[.agg #[.string ⟨x.1.1.1.toArray⟩, .string ⟨x.1.1.2.1.toArray⟩, .slice x.1.2.1 x.1.1.2.2.length x.1.2.2], .pointer (some ⟨pb, 0, none⟩)] W fun e w' => e = .returned (.bool (p x)) ∧ Below W.heap.size W w') := fun x W m hW => callsIn_wide.2 (hfit.out x W hW)
  obtain ⟨F, hF⟩ : ∃ F, F = Fence.wide := ⟨_, rfl⟩
  rw [← hF] at HFIT ⊢
  have hfn : ∀ k, F.fn k := by intro k; rw [hF]; trivial
  have hro : F.round = none := by rw [hF]; rfl
  clear hF hfit
  have hfK := hfn 61
  refine callsIn_of_wp_marks Tryd.func26 rfl (hfn _) ?_ hro
  simp only [Tryd.ntmps26, List.size_toArray, List.length_cons, List.length_nil, Nat.reduceAdd, Nat.reduceSub, Array.replicate_succ, Array.replicate_zero, List.push_toArray, List.append_toArray, List.nil_append, List.cons_append]
  gi_wp2
  obtain ⟨W0, hW0⟩ : ∃ W0, ((w.alloc (.cells #[.func (.func 61) #[] #[.pointer (some ⟨pb, 0, none⟩)]] 52)).alloc (.cells #[.string ⟨#[]⟩, .string ⟨#[]⟩, .slice none 0 0] 26)).alloc (.cells #[.bool false] 4) = W0 := ⟨_, rfl⟩
  obtain ⟨c, d, fz, r, rz, hsz, hblk, hbw⟩ := gap_box3 (W := W0) (by rw [← hW0]; exact Below.refl _ _)
  have hs0 : W0.heap.size = w.heap.size + 3 := by rw [← hW0]; simp
  rw [hW0]
  have hOI : OwnFrom W0.heap.size (fun (pre : List GA) W => ((∀ y ∈ pre, p y = false) ∧ W.cell? ⟨w.heap.size, 0, none⟩ = some (.func (.func 61) #[] #[.pointer (some ⟨pb, 0, none⟩)]) ∧ W.cell? ⟨w.heap.size + 1, 0, none⟩ = some (.string ⟨#[]⟩) ∧ W.cell? ⟨w.heap.size + 1, 1, none⟩ = some (.string ⟨#[]⟩) ∧ W.cell? ⟨w.heap.size + 1, 2, none⟩ = some (.slice none 0 0) ∧ W.cell? ⟨w.heap.size + 1 + 1, 0, none⟩ = some (.bool false) ∧ W.frozen? ⟨w.heap.size + 1, 0, none⟩ = false ∧ W.frozen? ⟨w.heap.size + 1, 1, none⟩ = false ∧ W.frozen? ⟨w.heap.size + 1, 2, none⟩ = false ∧ W.frozen? ⟨w.heap.size + 1 + 1, 0, none⟩ = false) ∧ Below w.heap.size w W) :=
    OwnFrom.and (Own.from (fun s A B row ⟨a0, a1, a2, a3, a4, a5, f2, f3, f4, f5⟩ hg hr => ⟨a0, cell_kept a1 hg hr, cell_kept a2 hg hr, cell_kept a3 hg hr, cell_kept a4 hg hr, cell_kept a5 hg hr, (frozen_kept a2 hg hr).trans f2, (frozen_kept a3 hg hr).trans f3, (frozen_kept a4 hg hr).trans f4, (frozen_kept a5 hg hr).trans f5⟩) _) (ownFrom_below (Nat.le_refl _) (by omega))
  refine wpIn_rangeFunc_ownH hro (by omega) (gf := 52) (lb := #[.pointer (some ⟨Bs, 0, none⟩)]) rfl (hfn _) (enters_of Tryd.func52 (by kernel_rfl) rfl)
    (gvalues_stops F _ (hfn _) hro (by omega) Bs w.heap.size sv zs W0 (by omega) (by omega) ((hbw.cell (p := ⟨Bs, 0, none⟩) hBs).trans hc) (hI.below hbw)) belowK_t (belowK_b (by omega)) (Below.refl _ _) (fun _ => rfl)
    _ (fun cd pre W => (∃ (x : GA) (q : List GA), cd = .ret ∧ pre = q ++ [x] ∧ (∀ y ∈ q, p y = false) ∧ p x = true ∧ W.cell? ⟨w.heap.size + 1, 0, none⟩ = some (.string ⟨x.1.1.1.toArray⟩) ∧ W.cell? ⟨w.heap.size + 1, 1, none⟩ = some (.string ⟨x.1.1.2.1.toArray⟩) ∧ W.cell? ⟨w.heap.size + 1, 2, none⟩ = some (.slice x.1.2.1 x.1.1.2.2.length x.1.2.2) ∧ W.cell? ⟨w.heap.size + 1 + 1, 0, none⟩ = some (.bool true)) ∧ Below w.heap.size w W)
    hOI
    (fun cd => OwnFrom.and (Own.from (fun s A B row ⟨x, q, e1, e2, e3, e4, a2, a3, a4, a5⟩ hg hr => ⟨x, q, e1, e2, e3, e4, cell_kept a2 hg hr, cell_kept a3 hg hr, cell_kept a4 hg hr, cell_kept a5 hg hr⟩) _) (ownFrom_below (Nat.le_refl _) (by omega)))
    ⟨⟨by simp, by simpa using c 0, by simpa using r 0, by simpa using r 1, by simpa using r 2, by simpa using d 0, rz 0, rz 1, rz 2, fz 0⟩, hbw⟩
    (fun x a' W => ∃ Bx, w.heap.size + 1 + 1 < Bx ∧ W.cell? ⟨Bx, 0, none⟩ = some (.string ⟨x.1.1.1.toArray⟩) ∧ W.cell? ⟨Bx, 1, none⟩ = some (.string ⟨x.1.1.2.1.toArray⟩) ∧ W.cell? ⟨Bx, 2, none⟩ = some (.slice x.1.2.1 x.1.1.2.2.length x.1.2.2) ∧
      a' = { tmps := #[.func (.func 52) #[] #[.pointer (some ⟨Bs, 0, none⟩)], .func (.func 61) #[] #[.pointer (some ⟨pb, 0, none⟩)], undef, .pointer (some ⟨w.heap.size, 0, none⟩), .pointer (some ⟨w.heap.size + 1, 0, none⟩), .pointer (some ⟨w.heap.size + 1 + 1, 0, none⟩), .pointer (some ⟨Bx, 0, none⟩), .func (.func 52) #[] #[.pointer (some ⟨Bs, 0, none⟩)], .agg #[.string ⟨x.1.1.1.toArray⟩, .string ⟨x.1.1.2.1.toArray⟩, .slice x.1.2.1 x.1.1.2.2.length x.1.2.2], undef, undef, undef, undef, undef], defers := [] })
    (fun x a' => Own.from (fun s A B row ⟨Bx, h1, a2, a3, a4, e⟩ hg hr => ⟨Bx, h1, cell_kept a2 hg hr, cell_kept a3 hg hr, cell_kept a4 hg hr, e⟩) _)
    ?assign ?body ?done ?stop
  case assign =>
    rintro l pre x W K hi hK
    have hi2 := hOI.alloc (.cells #[.string ⟨x.1.1.1.toArray⟩, .string ⟨x.1.1.2.1.toArray⟩, .slice x.1.2.1 x.1.1.2.2.length x.1.2.2] 26) hi
    have hlt : w.heap.size + 1 + 1 < W.heap.size := World.block_lt_of_cell? _ _ hi.1.2.2.2.2.2.1
    have hgc := gap_cells (gap_new W (.cells #[.string ⟨x.1.1.1.toArray⟩, .string ⟨x.1.1.2.1.toArray⟩, .slice x.1.2.1 x.1.1.2.2.length x.1.2.2] 26))
    have hBW := hi.2
    clear hi
    gi_wp2
    exact hK _ _ ((KeepsOthers.alloc _ _).from _) ((Below.refl _ W).alloc hBW.size _) hi2 ⟨W.heap.size, hlt, hgc.1.1, hgc.1.2.1, hgc.1.2.2, rfl⟩
  case body =>
    rintro l pre x a' W hl ⟨rr, hrr⟩ ⟨⟨a0, a1, a2, a3, a4, a5, f2, f3, f4, f5⟩, hB⟩ ⟨Bx, hBx, b0, b1, b2, rfl⟩ hlt
    have HKE : Hid (∀ m, CallsIn F m Tryd.prog 61 #[.agg #[.string ⟨x.1.1.1.toArray⟩, .string ⟨x.1.1.2.1.toArray⟩, .slice x.1.2.1 x.1.1.2.2.length x.1.2.2], .pointer (some ⟨pb, 0, none⟩)] W fun e w' => e = .returned (.bool (p x)) ∧ Below W.heap.size W w') := fun m => HFIT.out x W m hB
    have HCE : Hid (∀ W', Below W.heap.size W W' → W'.cell? ⟨Bx, 0, none⟩ = some (.string ⟨x.1.1.1.toArray⟩) ∧ W'.cell? ⟨Bx, 1, none⟩ = some (.string ⟨x.1.1.2.1.toArray⟩) ∧ W'.cell? ⟨Bx, 2, none⟩ = some (.slice x.1.2.1 x.1.1.2.2.length x.1.2.2) ∧ W'.cell? ⟨w.heap.size, 0, none⟩ = some (.func (.func 61) #[] #[.pointer (some ⟨pb, 0, none⟩)]) ∧ W'.cell? ⟨w.heap.size + 1, 0, none⟩ = some (.string ⟨#[]⟩) ∧ W'.cell? ⟨w.heap.size + 1, 1, none⟩ = some (.string ⟨#[]⟩) ∧ W'.cell? ⟨w.heap.size + 1, 2, none⟩ = some (.slice none 0 0) ∧ W'.cell? ⟨w.heap.size + 1 + 1, 0, none⟩ = some (.bool false) ∧ W'.frozen? ⟨w.heap.size + 1, 0, none⟩ = false ∧ W'.frozen? ⟨w.heap.size + 1, 1, none⟩ = false ∧ W'.frozen? ⟨w.heap.size + 1, 2, none⟩ = false ∧ W'.frozen? ⟨w.heap.size + 1 + 1, 0, none⟩ = false) := fun W' h => by
      have hx := World.block_lt_of_cell? _ _ b0
      have hy := World.block_lt_of_cell? _ _ a5
      simp only at hx hy
      rw [h.cell (p := ⟨Bx, 0, none⟩) hx, h.cell (p := ⟨Bx, 1, none⟩) hx, h.cell (p := ⟨Bx, 2, none⟩) hx, h.cell (p := ⟨w.heap.size, 0, none⟩) (show w.heap.size < _ by omega), h.cell (p := ⟨w.heap.size + 1, 0, none⟩) (show w.heap.size + 1 < _ by omega), h.cell (p := ⟨w.heap.size + 1, 1, none⟩) (show w.heap.size + 1 < _ by omega), h.cell (p := ⟨w.heap.size + 1, 2, none⟩) (show w.heap.size + 1 < _ by omega), h.cell (p := ⟨w.heap.size + 1 + 1, 0, none⟩) hy, h.frozen (p := ⟨w.heap.size + 1, 0, none⟩) (show w.heap.size + 1 < _ by omega), h.frozen (p := ⟨w.heap.size + 1, 1, none⟩) (show w.heap.size + 1 < _ by omega), h.frozen (p := ⟨w.heap.size + 1, 2, none⟩) (show w.heap.size + 1 < _ by omega), h.frozen (p := ⟨w.heap.size + 1 + 1, 0, none⟩) hy]
      exact ⟨b0, b1, b2, a1, a2, a3, a4, a5, f2, f3, f4, f5⟩
    clear HFIT
    cases hp : p x with
    | false =>
      rw [hp] at HKE
      have HA0 : Hid (∀ y ∈ pre ++ [x], p y = false) := fun y hy => by
        rcases List.mem_append.1 hy with h | h
        · exact a0 y h
        · rw [List.mem_singleton.1 h]; exact hp
      clear hp
      gi_wp2_with (gi_at_call 61; refine (CallsIn.inRound l (HKE.out _)).mono ?_; rintro e w1 ⟨rfl, hb1⟩)
      obtain ⟨_, _, _, x1, x2, x3, x4, x5, y2, y3, y4, y5⟩ := HCE.out _ hb1
      exact ⟨(keeps_of_below hb1).from _, hb1.mono hB.size, ⟨HA0.out, x1, x2, x3, x4, x5, y2, y3, y4, y5⟩, hB.trans (hb1.mono hB.size)⟩
    | true =>
      rw [hp] at HKE
      have HP : Hid (p x = true) := hp
      clear hp
      gi_wp2_with (gi_at_call 61; refine (CallsIn.inRound l (HKE.out _)).mono ?_; rintro e w1 ⟨rfl, hb1⟩; obtain ⟨z0, z1, z2, x1, x2, x3, x4, x5, y2, y3, y4, y5⟩ := HCE.out _ hb1)
      obtain ⟨k0, k1, k2, k3⟩ := fput_cells (.string ⟨x.1.1.1.toArray⟩) (.string ⟨x.1.1.2.1.toArray⟩) (.slice x.1.2.1 x.1.1.2.2.length x.1.2.2) (.bool true) (show w.heap.size + 1 ≠ w.heap.size + 1 + 1 by omega) x2 x3 x4 x5
      exact ⟨((keeps_of_below hb1).trans (fput_keeps _ _ _ _ _ _ _)).from _, ⟨x, pre, rfl, rfl, a0, HP.out, k0, k1, k2, k3⟩, fput_below (hB.trans (hb1.mono hB.size)) _ _ (by omega) (by omega) _ _ _ _⟩
  case done =>
    rintro D ys W hD rfl ⟨⟨a0, a1, a2, a3, a4, a5, f2, f3, f4, f5⟩, hB⟩ hK
    have HN : Hid (ys.find? p = none) := find_none a0
    gi_wp2
    obtain ⟨k0, k1, k2, k3⟩ := fput_cells (.string ⟨#[]⟩) (.string ⟨#[]⟩) (.slice none 0 0) (.bool false) (show w.heap.size + 1 ≠ w.heap.size + 1 + 1 by omega) a2 a3 a4 a5
    have hK' := (fput_keeps W (w.heap.size + 1) (w.heap.size + 1 + 1) (.string ⟨#[]⟩) (.string ⟨#[]⟩) (.slice none 0 0) (.bool false)).same D _ hK rfl
    have hbF := (fput_below hB (w.heap.size + 1) (w.heap.size + 1 + 1) (by omega) (by omega) (.string ⟨#[]⟩) (.string ⟨#[]⟩) (.slice none 0 0) (.bool false)).trans (belowK_b (w := w) (Nat.le_refl _) _ D _ (.deferred none) (by omega) hK' rfl rfl)
    refine ⟨by simp, .inl ⟨_, _, rfl, run_takeDeferred hK', ?_⟩⟩
    have q0 := cell_kept k0 (grownBy_putObj' _ D (.deferred none)) (fun r e => by cases e; exact ⟨_, hK', rfl⟩)
    have q1 := cell_kept k1 (grownBy_putObj' _ D (.deferred none)) (fun r e => by cases e; exact ⟨_, hK', rfl⟩)
    have q2 := cell_kept k2 (grownBy_putObj' _ D (.deferred none)) (fun r e => by cases e; exact ⟨_, hK', rfl⟩)
    have q3 := cell_kept k3 (grownBy_putObj' _ D (.deferred none)) (fun r e => by cases e; exact ⟨_, hK', rfl⟩)
    refine ⟨.tuple #[.agg #[.string ⟨#[]⟩, .string ⟨#[]⟩, .slice none 0 0], .bool false], ?_, by rw [HN.out]; rfl, hbF⟩
    simp [results, Tryd.f26, go_sem, q0, q1, q2, q3]
  case stop =>
    rintro D cd pre W hD hpre ⟨⟨x, q, rfl, rfl, hq, hpx, a2, a3, a4, a5⟩, hB⟩ hK
    have HS : Hid (zs.find? p = some x) := find_some hq hpx hpre
    gi_wp2
    have hbF := hB.trans (belowK_b (w := w) (Nat.le_refl _) _ D _ (.deferred none) (by omega) hK rfl rfl)
    refine ⟨by simp, .inl ⟨_, _, rfl, run_takeDeferred hK, ?_⟩⟩
    have q0 := cell_kept a2 (grownBy_putObj' _ D (.deferred none)) (fun r e => by cases e; exact ⟨_, hK, rfl⟩)
    have q1 := cell_kept a3 (grownBy_putObj' _ D (.deferred none)) (fun r e => by cases e; exact ⟨_, hK, rfl⟩)
    have q2 := cell_kept a4 (grownBy_putObj' _ D (.deferred none)) (fun r e => by cases e; exact ⟨_, hK, rfl⟩)
    have q3 := cell_kept a5 (grownBy_putObj' _ D (.deferred none)) (fun r e => by cases e; exact ⟨_, hK, rfl⟩)
    refine ⟨.tuple #[.agg #[.string ⟨x.1.1.1.toArray⟩, .string ⟨x.1.1.2.1.toArray⟩, .slice x.1.2.1 x.1.1.2.2.length x.1.2.2], .bool true], ?_, by rw [HS.out]; rfl, hbF⟩
    simp [results, Tryd.f26, go_sem, q0, q1, q2, q3]
end Go.Proofs.YtoeffplfkdogdaaDoor
