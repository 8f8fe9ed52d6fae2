import Derived.Test.YtoobaaklklommaaGreatDoorZ06
import Derived.Test.YtoobaaklklommaaGreatDoorZ12
import Derived.SliceStrings
import Derived.Lib.SmallJoins
import Derived.Test.YtoobaaklklommaaGreatDoorZ16
namespace Go.Proofs.YtoobaaklklommaaGreatDoor
open Go.ChangeShapes Go.WideShapes Go.ChangeAt Go.RowKit Go.Deep

theorem list_of_each {α : Type} {p : Nat → α → Prop} : ∀ n : Nat, (∀ i, i < n → ∃ x, p i x) → ∃ L : List α, L.length = n ∧ ∀ i, (h : i < L.length) → p i L[i]
  | 0, _ => ⟨[], rfl, fun i h => by simp at h⟩
  | n + 1, h => by
    obtain ⟨L, hl, hL⟩ := list_of_each n (fun i hi => h i (by omega))
    obtain ⟨x, hx⟩ := h n (by omega)
    refine ⟨L ++ [x], by simp [hl], fun i hi => ?_⟩
    by_cases hi2 : i < L.length
    · rw [List.getElem_append_left hi2]; exact hL i hi2
    · have hin : i = n := by simp at hi; omega
      subst hin
      rw [List.getElem_append_right (by omega)]
      simpa [hl] using hx
set_option maxRecDepth 100000 in
/-- The cells of a record, as they are read. -/
theorem rec_cells {H : Type} {enc : TypeId × Value → H} {W : World} {cs : List Value} {y : DataW H × List MemPlace} {n : Nat} {sp : Nat → Bool} {base : Nat} {held : Bool}
    (h : DataW.trod enc Tryz.prog W base sp held n 126 cs = some y) :
    ∃ x : List UInt8 × Int × Int × List UInt8, cs = [.string ⟨x.1.toArray⟩, .int .i64 x.2.1, .int .i64 x.2.2.1, .string ⟨x.2.2.2.toArray⟩] ∧ x.1.length ≤ maxLen ∧ x.2.2.2.length ≤ maxLen ∧ y.2 = [] := by
  obtain ⟨y0, y1, y2, y3, m, rfl, hl, h0, h1, h2, h3⟩ := Go.Joins.trod_struct4 Tryz.underlying126 h
  have c9 : Tryz.prog.cellsOf 9 = 1 := by kernel_rfl
  have c3 : Tryz.prog.cellsOf 3 = 1 := by kernel_rfl
  have c4 : Tryz.prog.cellsOf 126 = 4 := by kernel_rfl
  simp only [c9, c3] at h0 h1 h2 h3
  rw [c4] at hl
  match cs, hl with
  | [a, b, c, d], _ =>
    obtain ⟨s0, e0, rfl, hs0⟩ := DataW.trod_string Tryz.underlying9 h0
    obtain ⟨n1, e1, rfl, _⟩ := DataW.trod_int Tryz.underlying3 h1
    obtain ⟨n2, e2, rfl, _⟩ := DataW.trod_int Tryz.underlying3 h2
    obtain ⟨s3, e3, rfl, hs3⟩ := DataW.trod_string Tryz.underlying9 h3
    simp at e0 e1 e2 e3
    subst e0 e1 e2 e3
    exact ⟨(s0.data.toList, n1, n2, s3.data.toList), rfl, by simpa using hs0, by simpa using hs3, rfl⟩
theorem add_at (b o k : Nat) : (⟨b, o, none⟩ : Addr).add k = ⟨b, o + k, none⟩ := by unfold Addr.add; split <;> simp_all
set_option maxRecDepth 100000 in
/-- A list of records that came in, as the walks take it. -/
theorem rrow_of_read {H : Type} {enc : TypeId × Value → H} {W : World} {a : Option Addr} {len cap : Nat} {d : DataW H} {p : List MemPlace} {sp : Nat → Bool} {base : Nat} {held : Bool}
    (h : DataW.Trod enc Tryz.prog W base sp held 22 (.slice a len cap) d p) : ∃ L, RRow W (.slice a len cap) L ∧ Hid (∀ x ∈ L, x.1.length ≤ maxLen ∧ x.2.2.2.length ≤ maxLen) := by
  obtain ⟨fuel, hf⟩ := h
  have c4 : Tryz.prog.cellsOf 126 = 4 := by kernel_rfl
  rcases DataW.trod_slice Tryz.underlying22 hf with ⟨hcs, _⟩ | ⟨x, l, c, elems, rest, n, _, hcs, _, _, hl, hm, hlen, hel, _, _⟩
  · simp [Value.cells] at hcs
    obtain ⟨rfl, rfl, rfl⟩ := hcs
    exact ⟨[], ⟨none, 0, rfl, Nat.le_refl _, by unfold maxLen; omega, .inl rfl⟩, fun x hx => by cases hx⟩
  · simp [Value.cells] at hcs
    obtain ⟨rfl, rfl, rfl⟩ := hcs
    rw [c4] at hel
    by_cases h0 : len = 0
    · subst h0
      exact ⟨[], ⟨some x, cap, rfl, Nat.zero_le _, hm, .inl rfl⟩, fun x hx => by cases hx⟩
    · obtain ⟨b, off, spot⟩ := x
      have each : ∀ i, i < len → ∃ cs, W.cells? base ((⟨b, off, spot⟩ : Addr).add (i * 4)) 4 = some cs ∧ ∃ y, DataW.trod enc Tryz.prog W base sp held n 126 cs = some y := fun i hi => by
        have h1 := hel i hi
        rw [List.getElem?_eq_getElem (by omega), Option.bind_eq_some_iff] at h1
        obtain ⟨cs, h2, h3⟩ := h1
        exact ⟨cs, h2, _, h3⟩
      have hspot : spot = none := by
        obtain ⟨cs, h2, y, h3⟩ := each 0 (by omega)
        obtain ⟨q, rfl, _⟩ := rec_cells h3
        have hc := (World.cells?_some h2).2.2 0 (by simp)
        simpa [Addr.add] using World.cell?_spot hc
      subst hspot
      obtain ⟨L, hL, hp⟩ := list_of_each (p := fun i (x : List UInt8 × Int × Int × List UInt8) => RecAt W b (off + i * 4) x ∧ x.1.length ≤ maxLen ∧ x.2.2.2.length ≤ maxLen) len (fun i hi => by
        obtain ⟨cs, h2, y, h3⟩ := each i hi
        obtain ⟨q, rfl, g1, g2, _⟩ := rec_cells h3
        refine ⟨q, ?_, g1, g2⟩
        have hc := (World.cells?_some h2).2.2
        rw [add_at] at hc
        have q0 := hc 0 (by simp)
        have q1 := hc 1 (by simp)
        have q2 := hc 2 (by simp)
        have q3 := hc 3 (by simp)
        rw [add_at] at q0 q1 q2 q3
        exact ⟨q0, q1, q2, q3⟩)
      have hblk : b < W.heap.size := World.block_lt_of_cell? _ _ (hp 0 (by omega)).1.1
      refine ⟨L, ⟨some ⟨b, off, none⟩, cap, by rw [hL], by rw [hL]; exact hl, hm, .inr ⟨b, off, rfl, hblk, fun j hj => (hp j hj).1⟩⟩, ?_⟩
      intro x hx
      obtain ⟨j, hj, rfl⟩ := List.getElem_of_mem hx
      exact (hp j hj).2
end Go.Proofs.YtoobaaklklommaaGreatDoor

namespace Go.Proofs.YtoobaaklklommaaGreatDoor
open Go.ChangeShapes Go.WideShapes Go.ChangeAt Go.RowKit Go.Deep

theorem array3 {α : Type} {cs : Array α} (h : cs.size = 3) : ∃ c0 c1 c2, cs = #[c0, c1, c2] := by
  obtain ⟨l⟩ := cs
  match l, h with
  | [c0, c1, c2], _ => exact ⟨c0, c1, c2, rfl⟩
theorem list3 {α : Type} {cs : List α} (h : cs.length = 3) : ∃ c0 c1 c2, cs = [c0, c1, c2] := by
  match cs, h with
  | [c0, c1, c2], _ => exact ⟨c0, c1, c2, rfl⟩
section
variable {H : Type} {enc : TypeId × Value → H} {P : Program} {w : World} {base : Nat} {spare : Nat → Bool} {held : Bool}
/-- A struct of three one-cell fields that came in by value. -/
theorem open_agg3 {r : Reach} {b0 : Nat} {t : TypeId} {f0 f1 f2 : Field} {v : Value} {d : DataW H} {p : List MemPlace} (hs : P.underlying t = some (.struct #[f0, f1, f2])) (hone : oneCellFields P #[f0, f1, f2] = true) (hC : P.cellsOf t = 3)
    (hv : Value.okWide P w r b0 t v) (h : DataW.Trod enc P w base spare held t v d p) :
    ∃ (v0 v1 v2 : Value) (y0 y1 y2 : DataW H × List MemPlace) (n : Nat), v = .agg #[v0, v1, v2] ∧
      DataW.trod enc P w base spare held n f0.type [v0] = some y0 ∧ DataW.trod enc P w base spare held n f1.type [v1] = some y1 ∧ DataW.trod enc P w base spare held n f2.type [v2] = some y2 := by
  obtain ⟨cs, rfl, hsz⟩ := okWide_struct hs hv
  obtain ⟨c0, c1, c2, rfl⟩ := array3 (hsz.trans hC)
  obtain ⟨fuel, hf⟩ := h
  obtain ⟨xs, n, _, hx, hl, hlen, hff⟩ := DataW.trod_struct hs hf
  obtain ⟨y0, y1, y2, rfl⟩ := list3 hlen
  have h0 := hff 0 f0 rfl
  have h1 := hff 1 f1 rfl
  have h2 := hff 2 f2 rfl
  obtain ⟨o0, k0⟩ := hone_of hone 0 f0 rfl
  obtain ⟨o1, k1⟩ := hone_of hone 1 f1 rfl
  obtain ⟨o2, k2⟩ := hone_of hone 2 f2 rfl
  rw [o0, k0] at h0
  rw [o1, k1] at h1
  rw [o2, k2] at h2
  exact ⟨c0, c1, c2, y0, y1, y2, n, rfl, h0, h1, h2⟩
end
end Go.Proofs.YtoobaaklklommaaGreatDoor

namespace Go.Proofs.YtoobaaklklommaaGreatDoor
open Go.ChangeShapes Go.WideShapes Go.ChangeAt Go.RowKit Go.Deep

set_option maxRecDepth 100000 in
/-- A zone that came in. -/
theorem zone_of_read {H : Type} {enc : TypeId × Value → H} {W : World} {v : Value} {d : DataW H} {p : List MemPlace} {sp : Nat → Bool} {base b0 : Nat} {held : Bool} {r : Reach}
    (hv : Value.okWide Tryz.prog W r b0 24 v) (h : DataW.Trod enc Tryz.prog W base sp held 24 v d p) :
    ∃ (nm : ByteArray) (ct : Int) (va : Value) (L : List (List UInt8 × Int × Int × List UInt8)), v = ZonV nm ct va ∧ nm.size ≤ maxLen ∧ RRow W va L ∧ Hid (∀ x ∈ L, x.1.length ≤ maxLen ∧ x.2.2.2.length ≤ maxLen) ∧ (-9223372036854775808 ≤ ct ∧ ct ≤ 9223372036854775807) := by
  obtain ⟨v0, v1, v2, y0, y1, y2, n, rfl, t0, t1, t2⟩ := open_agg3 Tryz.underlying24 (by kernel_rfl) (by kernel_rfl) hv h
  obtain ⟨s0, e0, _, hs0⟩ := DataW.trod_string Tryz.underlying9 t0
  obtain ⟨n1, e1, _, hw1⟩ := DataW.trod_int Tryz.underlying3 t1
  obtain ⟨a2, l2, c2, e2⟩ := Go.Joins.slice_form Tryz.underlying22 t2
  simp only [List.cons.injEq, and_true] at e0 e1 e2
  subst e0 e1 e2
  obtain ⟨A, hA, HA⟩ := rrow_of_read (h := ⟨n, by simpa [Value.cells] using t2⟩)
  exact ⟨s0, n1, _, A, rfl, hs0, hA, HA, int_wf hw1⟩
end Go.Proofs.YtoobaaklklommaaGreatDoor
