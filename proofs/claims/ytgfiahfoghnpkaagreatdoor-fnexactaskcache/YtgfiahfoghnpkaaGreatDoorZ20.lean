import Derived.Test.YtgfiahfoghnpkaaGreatDoorZ15
import Derived.Test.YtgfiahfoghnpkaaGreatDoorZ19
import Derived.Lib.SmallJoins
namespace Go.Proofs.YtgfiahfoghnpkaaGreatDoor
open Go.ChangeShapes Go.WideShapes Go.ChangeAt Go.RowKit Go.Deep

theorem list6 {α : Type} {cs : List α} (h : cs.length = 6) : ∃ c0 c1 c2 c3 c4 c5, cs = [c0, c1, c2, c3, c4, c5] := by
  match cs, h with
  | [c0, c1, c2, c3, c4, c5], _ => exact ⟨c0, c1, c2, c3, c4, c5, rfl⟩
section
variable {H : Type} {enc : TypeId × Value → H} {P : Program} {w : World} {base : Nat} {spare : Nat → Bool} {held : Bool}
/-- A struct of six one-cell fields in memory. -/
theorem cells_agg6 {t : TypeId} {f0 f1 f2 f3 f4 f5 : Field} {cs : List Value} {y : DataW H × List MemPlace} {fuel : Nat} (hs : P.underlying t = some (.struct #[f0, f1, f2, f3, f4, f5])) (hone : oneCellFields P #[f0, f1, f2, f3, f4, f5] = true) (hC : P.cellsOf t = 6)
    (hf : DataW.trod enc P w base spare held fuel t cs = some y) :
    ∃ (v0 v1 v2 v3 v4 v5 : Value) (y0 y1 y2 y3 y4 y5 : DataW H × List MemPlace) (n : Nat), cs = [v0, v1, v2, v3, v4, v5] ∧
      DataW.trod enc P w base spare held n f0.type [v0] = some y0 ∧ DataW.trod enc P w base spare held n f1.type [v1] = some y1 ∧ DataW.trod enc P w base spare held n f2.type [v2] = some y2 ∧
      DataW.trod enc P w base spare held n f3.type [v3] = some y3 ∧ DataW.trod enc P w base spare held n f4.type [v4] = some y4 ∧ DataW.trod enc P w base spare held n f5.type [v5] = some y5 := by
  obtain ⟨xs, n, _, hx, hl, hlen, hff⟩ := DataW.trod_struct hs hf
  rw [hC] at hl
  obtain ⟨c0, c1, c2, c3, c4, c5, rfl⟩ := list6 hl
  obtain ⟨y0, y1, y2, y3, y4, y5, rfl⟩ := list6 hlen
  have h0 := hff 0 f0 rfl
  have h1 := hff 1 f1 rfl
  have h2 := hff 2 f2 rfl
  have h3 := hff 3 f3 rfl
  have h4 := hff 4 f4 rfl
  have h5 := hff 5 f5 rfl
  obtain ⟨o0, k0⟩ := hone_of hone 0 f0 rfl
  obtain ⟨o1, k1⟩ := hone_of hone 1 f1 rfl
  obtain ⟨o2, k2⟩ := hone_of hone 2 f2 rfl
  obtain ⟨o3, k3⟩ := hone_of hone 3 f3 rfl
  obtain ⟨o4, k4⟩ := hone_of hone 4 f4 rfl
  obtain ⟨o5, k5⟩ := hone_of hone 5 f5 rfl
  rw [o0, k0] at h0
  rw [o1, k1] at h1
  rw [o2, k2] at h2
  rw [o3, k3] at h3
  rw [o4, k4] at h4
  rw [o5, k5] at h5
  exact ⟨c0, c1, c2, c3, c4, c5, y0, y1, y2, y3, y4, y5, n, rfl, h0, h1, h2, h3, h4, h5⟩
end
set_option maxRecDepth 100000 in
/-- The cells of an entry, as they are read. -/
theorem ent_read_cells {H : Type} {enc : TypeId × Value → H} {W : World} {cs : List Value} {y : DataW H × List MemPlace} {n : Nat} {sp : Nat → Bool} {base : Nat} {held : Bool}
    (h : DataW.trod enc Tryz.prog W base sp held n 89 cs = some y) :
    ∃ (x : EntT) (va : Value), cs = [.string ⟨x.1.toArray⟩, .int .i64 x.2.1, .bool x.2.2.1, va, .int .i64 x.2.2.2.2.1, .int .i64 x.2.2.2.2.2] ∧ RRow W va x.2.2.2.1 ∧ EFit x := by
  obtain ⟨v0, v1, v2, v3, v4, v5, y0, y1, y2, y3, y4, y5, m, rfl, h0, h1, h2, h3, h4, h5⟩ := cells_agg6 Tryz.underlying89 (by kernel_rfl) (by kernel_rfl) h
  obtain ⟨s0, e0, _, hs0⟩ := DataW.trod_string Tryz.underlying9 h0
  obtain ⟨n1, e1, _, _⟩ := DataW.trod_int Tryz.underlying3 h1
  obtain ⟨b2, e2, _⟩ := DataW.trod_bool Tryz.underlying4 h2
  obtain ⟨a3, l3, k3, e3⟩ := Go.Joins.slice_form Tryz.underlying25 h3
  obtain ⟨n4, e4, _, _⟩ := DataW.trod_int Tryz.underlying3 h4
  obtain ⟨n5, e5, _, _⟩ := DataW.trod_int Tryz.underlying3 h5
  simp only [List.cons.injEq, and_true] at e0 e1 e2 e3 e4 e5
  subst e0 e1 e2 e3 e4 e5
  obtain ⟨R, hR, HR⟩ := rrow_of_read (h := ⟨m, by simpa [Value.cells] using h3⟩)
  exact ⟨(s0.data.toList, n1, b2, R, n4, n5), _, rfl, hR, by simpa using hs0, HR.out⟩
theorem eadd_at (b o k : Nat) : (⟨b, o, none⟩ : Addr).add k = ⟨b, o + k, none⟩ := by unfold Addr.add; split <;> simp_all
set_option maxRecDepth 100000 in
/-- A list of entries that came in, as the walks take it. -/
theorem erow_of_read {H : Type} {enc : TypeId × Value → H} {W : World} {a : Option Addr} {len cap : Nat} {d : DataW H} {p : List MemPlace} {sp : Nat → Bool} {base : Nat} {held : Bool}
    (h : DataW.Trod enc Tryz.prog W base sp held 22 (.slice a len cap) d p) : ∃ L, ERow W (.slice a len cap) L ∧ Hid (∀ x ∈ L, EFit x) := by
  obtain ⟨fuel, hf⟩ := h
  have c6 : Tryz.prog.cellsOf 89 = 6 := by kernel_rfl
  rcases DataW.trod_slice Tryz.underlying22 hf with ⟨hcs, _⟩ | ⟨x, l, c, elems, rest, n, _, hcs, _, _, hl, hm, hlen, hel, _, _⟩
  · simp [Value.cells] at hcs
    obtain ⟨rfl, rfl, rfl⟩ := hcs
    exact ⟨[], ⟨none, 0, rfl, Nat.le_refl _, by unfold maxLen; omega, .inl rfl⟩, fun x hx => by cases hx⟩
  · simp [Value.cells] at hcs
    obtain ⟨rfl, rfl, rfl⟩ := hcs
    rw [c6] at hel
    by_cases h0 : len = 0
    · subst h0
      exact ⟨[], ⟨some x, cap, rfl, Nat.zero_le _, hm, .inl rfl⟩, fun x hx => by cases hx⟩
    · obtain ⟨b, off, spot⟩ := x
      have each : ∀ i, i < len → ∃ cs, W.cells? base ((⟨b, off, spot⟩ : Addr).add (i * 6)) 6 = some cs ∧ ∃ y, DataW.trod enc Tryz.prog W base sp held n 89 cs = some y := fun i hi => by
        have h1 := hel i hi
        rw [List.getElem?_eq_getElem (by omega), Option.bind_eq_some_iff] at h1
        obtain ⟨cs, h2, h3⟩ := h1
        exact ⟨cs, h2, _, h3⟩
      have hspot : spot = none := by
        obtain ⟨cs, h2, y, h3⟩ := each 0 (by omega)
        obtain ⟨q, va, rfl, _⟩ := ent_read_cells h3
        have hc := (World.cells?_some h2).2.2 0 (by simp)
        simpa [Addr.add] using World.cell?_spot hc
      subst hspot
      obtain ⟨L, hL, hp⟩ := list_of_each (p := fun i (x : EntT) => (∃ va, EntAt W b (off + i * 6) x va) ∧ EFit x) len (fun i hi => by
        obtain ⟨cs, h2, y, h3⟩ := each i hi
        obtain ⟨q, va, rfl, g0, g1⟩ := ent_read_cells h3
        refine ⟨q, ⟨va, ?_⟩, g1⟩
        have hc := (World.cells?_some h2).2.2
        rw [eadd_at] at hc
        have q0 := hc 0 (by simp)
        have q1 := hc 1 (by simp)
        have q2 := hc 2 (by simp)
        have q3 := hc 3 (by simp)
        have q4 := hc 4 (by simp)
        have q5 := hc 5 (by simp)
        rw [eadd_at] at q0 q1 q2 q3 q4 q5
        exact ⟨⟨q0, q1, q2, q3, q4, q5⟩, g0⟩)
      have hblk : b < W.heap.size := by obtain ⟨va, h⟩ := (hp 0 (by omega)).1; exact World.block_lt_of_cell? _ _ h.1.1
      refine ⟨L, ⟨some ⟨b, off, none⟩, cap, by rw [hL], by rw [hL]; exact hl, hm, .inr ⟨b, off, rfl, hblk, fun j hj => (hp j hj).1⟩⟩, ?_⟩
      intro x hx
      obtain ⟨j, hj, rfl⟩ := List.getElem_of_mem hx
      exact (hp j hj).2
set_option maxRecDepth 100000 in
/-- A cache that came in. -/
theorem cch_of_read {H : Type} {enc : TypeId × Value → H} {W : World} {v : Value} {d : DataW H} {p : List MemPlace} {sp : Nat → Bool} {base b0 : Nat} {held : Bool} {r : Reach}
    (hv : Value.okWide Tryz.prog W r b0 24 v) (h : DataW.Trod enc Tryz.prog W base sp held 24 v d p) :
    ∃ (now : Int) (va : Value) (L : List EntT), v = CchV now va ∧ ERow W va L ∧ Hid (∀ x ∈ L, EFit x) := by
  obtain ⟨v0, v1, y0, y1, n, rfl, _, _, t0, t1⟩ := Go.Joins.open_agg2 Tryz.underlying24 (by kernel_rfl) (by kernel_rfl) hv h
  obtain ⟨n0, e0, _, _⟩ := DataW.trod_int Tryz.underlying3 t0
  obtain ⟨a1, l1, c1, e1⟩ := Go.Joins.slice_form Tryz.underlying22 t1
  simp only [List.cons.injEq, and_true] at e0 e1
  subst e0 e1
  obtain ⟨L, hL, HL⟩ := erow_of_read (h := ⟨n, by simpa [Value.cells] using t1⟩)
  exact ⟨n0, _, L, rfl, hL, HL⟩
end Go.Proofs.YtgfiahfoghnpkaaGreatDoor
