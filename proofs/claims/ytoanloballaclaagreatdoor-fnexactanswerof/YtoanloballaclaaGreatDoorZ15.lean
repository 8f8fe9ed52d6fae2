import Derived.Test.YtoanloballaclaaGreatDoorZ14
import Derived.Test.YtoanloballaclaaGreatDoorZ07
import Derived.Lib.SmallJoins
namespace Go.Proofs.YtoanloballaclaaGreatDoor
open Go.ChangeShapes Go.WideShapes Go.ChangeAt Go.RowKit Go.Deep

theorem ulist_of_each {α : Type} {p : Nat → α → Prop} : ∀ n : Nat, (∀ i, i < n → ∃ x, p i x) → ∃ L : List α, L.length = n ∧ ∀ i, (h : i < L.length) → p i L[i]
  | 0, _ => ⟨[], rfl, fun i h => by simp at h⟩
  | n + 1, h => by
    obtain ⟨L, hl, hL⟩ := ulist_of_each n (fun i hi => h i (by omega))
    obtain ⟨x, hx⟩ := h n (by omega)
    refine ⟨L ++ [x], by simp [hl], fun i hi => ?_⟩
    by_cases hi2 : i < L.length
    · rw [List.getElem_append_left hi2]; exact hL i hi2
    · have hin : i = n := by simp at hi; omega
      subst hin
      rw [List.getElem_append_right (by omega)]
      simpa [hl] using hx
theorem uadd_at (b o k : Nat) : (⟨b, o, none⟩ : Addr).add k = ⟨b, o + k, none⟩ := by unfold Addr.add; split <;> simp_all
set_option maxRecDepth 100000 in
/-- The cells of a target, as they are read. -/
theorem tgt_read_cells {H : Type} {enc : TypeId × Value → H} {W : World} {cs : List Value} {y : DataW H × List MemPlace} {n : Nat} {sp : Nat → Bool} {base : Nat} {held : Bool}
    (h : DataW.trod enc Tryz.prog W base sp held n 93 cs = some y) :
    ∃ x : TgtT, cs = [.string ⟨x.1.toArray⟩, .string ⟨x.2.1.toArray⟩, .int .i64 x.2.2.1, .int .i64 x.2.2.2] ∧ x.1.length ≤ maxLen ∧ x.2.1.length ≤ maxLen := by
  obtain ⟨y0, y1, y2, y3, m, rfl, hl, h0, h1, h2, h3⟩ := Go.Joins.trod_struct4 Tryz.underlying93 h
  have c9 : Tryz.prog.cellsOf 9 = 1 := by kernel_rfl
  have c3 : Tryz.prog.cellsOf 3 = 1 := by kernel_rfl
  have c4 : Tryz.prog.cellsOf 93 = 4 := by kernel_rfl
  simp only [c9, c3] at h0 h1 h2 h3
  rw [c4] at hl
  match cs, hl with
  | [v0, v1, v2, v3], _ =>
    obtain ⟨s0, e0, _, hs0⟩ := DataW.trod_string Tryz.underlying9 h0
    obtain ⟨s1, e1, _, hs1⟩ := DataW.trod_string Tryz.underlying9 h1
    obtain ⟨n2, e2, _, _⟩ := DataW.trod_int Tryz.underlying3 h2
    obtain ⟨n3, e3, _, _⟩ := DataW.trod_int Tryz.underlying3 h3
    have f0 : v0 = .string s0 := by simpa using e0
    have f1 : v1 = .string s1 := by simpa using e1
    have f2 : v2 = .int .i64 n2 := by simpa using e2
    have f3 : v3 = .int .i64 n3 := by simpa using e3
    exact ⟨(s0.data.toList, s1.data.toList, n2, n3), by rw [f0, f1, f2, f3], by simpa using hs0, by simpa using hs1⟩
set_option maxRecDepth 100000 in
/-- A list of targets that came in, as the walks take it. -/
theorem tgtrow_of_read {H : Type} {enc : TypeId × Value → H} {W : World} {a : Option Addr} {len cap : Nat} {d : DataW H} {p : List MemPlace} {sp : Nat → Bool} {base : Nat} {held : Bool}
    (h : DataW.Trod enc Tryz.prog W base sp held 22 (.slice a len cap) d p) : ∃ L, TgtRow W (.slice a len cap) L ∧ Hid (∀ x ∈ L, x.1.length ≤ maxLen ∧ x.2.1.length ≤ maxLen) := by
  obtain ⟨fuel, hf⟩ := h
  have c3 : Tryz.prog.cellsOf 93 = 4 := by kernel_rfl
  rcases DataW.trod_slice Tryz.underlying22 hf with ⟨hcs, _⟩ | ⟨x, l, c, elems, rest, n, _, hcs, _, _, hl, hm, hlen, hel, _, _⟩
  · simp [Value.cells] at hcs
    obtain ⟨rfl, rfl, rfl⟩ := hcs
    exact ⟨[], ⟨none, 0, rfl, Nat.le_refl _, by unfold maxLen; omega, .inl rfl⟩, fun x hx => by cases hx⟩
  · simp [Value.cells] at hcs
    obtain ⟨rfl, rfl, rfl⟩ := hcs
    rw [c3] at hel
    by_cases h0 : len = 0
    · subst h0
      exact ⟨[], ⟨some x, cap, rfl, Nat.zero_le _, hm, .inl rfl⟩, fun x hx => by cases hx⟩
    · obtain ⟨b, off, spot⟩ := x
      have each : ∀ i, i < len → ∃ cs, W.cells? base ((⟨b, off, spot⟩ : Addr).add (i * 4)) 4 = some cs ∧ ∃ y, DataW.trod enc Tryz.prog W base sp held n 93 cs = some y := fun i hi => by
        have h1 := hel i hi
        rw [List.getElem?_eq_getElem (by omega), Option.bind_eq_some_iff] at h1
        obtain ⟨cs, h2, h3⟩ := h1
        exact ⟨cs, h2, _, h3⟩
      have hspot : spot = none := by
        obtain ⟨cs, h2, y, h3⟩ := each 0 (by omega)
        obtain ⟨q, rfl, _⟩ := tgt_read_cells h3
        have hc := (World.cells?_some h2).2.2 0 (by simp)
        simpa [Addr.add] using World.cell?_spot hc
      subst hspot
      obtain ⟨L, hL, hp⟩ := ulist_of_each (p := fun i (x : TgtT) => TgtAt W b (off + i * 4) x ∧ x.1.length ≤ maxLen ∧ x.2.1.length ≤ maxLen) len (fun i hi => by
        obtain ⟨cs, h2, y, h3⟩ := each i hi
        obtain ⟨q, rfl, hq⟩ := tgt_read_cells h3
        refine ⟨q, ?_, hq⟩
        have hc := (World.cells?_some h2).2.2
        rw [uadd_at] at hc
        have q0 := hc 0 (by simp)
        have q1 := hc 1 (by simp)
        have q2 := hc 2 (by simp)
        have q3 := hc 3 (by simp)
        rw [uadd_at] at q0 q1 q2 q3
        exact ⟨q0, q1, q2, q3⟩)
      have hblk : b < W.heap.size := World.block_lt_of_cell? _ _ (hp 0 (by omega)).1.1
      exact ⟨L, ⟨some ⟨b, off, none⟩, cap, by rw [hL], by rw [hL]; exact hl, hm, .inr ⟨b, off, rfl, hblk, fun j hj => (hp j hj).1⟩⟩, fun x hx => by
        obtain ⟨j, hj, rfl⟩ := List.getElem_of_mem hx
        exact (hp j hj).2⟩
set_option maxRecDepth 100000 in
/-- A policy that came in. -/
theorem pol_of_read {H : Type} {enc : TypeId × Value → H} {W : World} {v : Value} {d : DataW H} {p : List MemPlace} {sp : Nat → Bool} {base b0 : Nat} {held : Bool} {r : Reach}
    (hv : Value.okWide Tryz.prog W r b0 24 v) (h : DataW.Trod enc Tryz.prog W base sp held 24 v d p) :
    ∃ (nm : List UInt8) (va : Value) (L : List TgtT), v = PolV ⟨nm.toArray⟩ va ∧ nm.length ≤ maxLen ∧ TgtRow W va L ∧ Hid (∀ x ∈ L, x.1.length ≤ maxLen ∧ x.2.1.length ≤ maxLen) := by
  obtain ⟨v0, v1, y0, y1, n, rfl, _, _, t0, t1⟩ := Go.Joins.open_agg2 Tryz.underlying24 (by kernel_rfl) (by kernel_rfl) hv h
  obtain ⟨s0, e0, _, hs0⟩ := DataW.trod_string Tryz.underlying9 t0
  obtain ⟨a1, l1, c1, e1⟩ := Go.Joins.slice_form Tryz.underlying22 t1
  simp only [List.cons.injEq, and_true] at e0 e1
  subst e0 e1
  obtain ⟨A, hA, HA⟩ := tgtrow_of_read (h := ⟨n, by simpa [Value.cells] using t1⟩)
  exact ⟨s0.data.toList, _, A, rfl, by simpa using hs0, hA, HA⟩
end Go.Proofs.YtoanloballaclaaGreatDoor
