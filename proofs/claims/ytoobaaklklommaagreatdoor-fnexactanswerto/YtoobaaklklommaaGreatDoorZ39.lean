import Derived.Test.YtoobaaklklommaaGreatDoorZ36
import Derived.Test.YtoobaaklklommaaGreatDoorZ38
namespace Go.Proofs.YtoobaaklklommaaGreatDoor
open Go.ChangeShapes Go.WideShapes Go.ChangeAt Go.RowKit Go.Deep

theorem array5 {α : Type} {cs : Array α} (h : cs.size = 5) : ∃ c0 c1 c2 c3 c4, cs = #[c0, c1, c2, c3, c4] := by
  obtain ⟨l⟩ := cs
  match l, h with
  | [c0, c1, c2, c3, c4], _ => exact ⟨c0, c1, c2, c3, c4, rfl⟩
set_option maxRecDepth 100000 in
/-- The cells of what was done last, as they are read. -/
theorem don_read_cells {H : Type} {enc : TypeId × Value → H} {W : World} {cs : List Value} {y : DataW H × List MemPlace} {n : Nat} {sp : Nat → Bool} {base : Nat} {held : Bool}
    (h : DataW.trod enc Tryz.prog W base sp held n 119 cs = some y) : ∃ x : DonT, cs = donc x := by
  obtain ⟨y0, y1, y2, y3, m, rfl, hl, h0, h1, h2, h3⟩ := Go.Joins.trod_struct4 Tryz.underlying119 h
  have c3 : Tryz.prog.cellsOf 3 = 1 := by kernel_rfl
  have c4 : Tryz.prog.cellsOf 119 = 4 := by kernel_rfl
  simp only [c3] at h0 h1 h2 h3
  rw [c4] at hl
  match cs, hl with
  | [a, b, c, d], _ =>
    obtain ⟨n0, e0, rfl, _⟩ := DataW.trod_int Tryz.underlying3 h0
    obtain ⟨n1, e1, rfl, _⟩ := DataW.trod_int Tryz.underlying3 h1
    obtain ⟨n2, e2, rfl, _⟩ := DataW.trod_int Tryz.underlying3 h2
    obtain ⟨n3, e3, rfl, _⟩ := DataW.trod_int Tryz.underlying3 h3
    simp at e0 e1 e2 e3
    subst e0 e1 e2 e3
    exact ⟨(n0, n1, n2, n3), rfl⟩
set_option maxRecDepth 100000 in
/-- Rows of such that came in, as the walks take them. -/
theorem donrow_of_read {H : Type} {enc : TypeId × Value → H} {W : World} {a : Option Addr} {len cap : Nat} {d : DataW H} {p : List MemPlace} {sp : Nat → Bool} {base : Nat} {held : Bool}
    (h : DataW.Trod enc Tryz.prog W base sp held 25 (.slice a len cap) d p) : ∃ L, DonRow W (.slice a len cap) L := by
  obtain ⟨fuel, hf⟩ := h
  have c4 : Tryz.prog.cellsOf 119 = 4 := by kernel_rfl
  rcases DataW.trod_slice Tryz.underlying25 hf with ⟨hcs, _⟩ | ⟨x, l, c, elems, rest, n, _, hcs, _, _, hl, hm, hlen, hel, _, _⟩
  · simp [Value.cells] at hcs
    obtain ⟨rfl, rfl, rfl⟩ := hcs
    exact ⟨[], ⟨none, 0, rfl, Nat.le_refl _, by unfold maxLen; omega, .inl rfl⟩⟩
  · simp [Value.cells] at hcs
    obtain ⟨rfl, rfl, rfl⟩ := hcs
    rw [c4] at hel
    by_cases h0 : len = 0
    · subst h0
      exact ⟨[], ⟨some x, cap, rfl, Nat.zero_le _, hm, .inl rfl⟩⟩
    · obtain ⟨b, off, spot⟩ := x
      have each : ∀ i, i < len → ∃ cs, W.cells? base ((⟨b, off, spot⟩ : Addr).add (i * 4)) 4 = some cs ∧ ∃ y, DataW.trod enc Tryz.prog W base sp held n 119 cs = some y := fun i hi => by
        have h1 := hel i hi
        rw [List.getElem?_eq_getElem (by omega), Option.bind_eq_some_iff] at h1
        obtain ⟨cs, h2, h3⟩ := h1
        exact ⟨cs, h2, _, h3⟩
      have hspot : spot = none := by
        obtain ⟨cs, h2, y, h3⟩ := each 0 (by omega)
        obtain ⟨q, rfl⟩ := don_read_cells h3
        have hc := (World.cells?_some h2).2.2 0 (by simp)
        simpa [Addr.add] using World.cell?_spot hc
      subst hspot
      obtain ⟨L, hL, hp⟩ := list_of_each (p := fun i (x : DonT) => DonAt W b (off + i * 4) x) len (fun i hi => by
        obtain ⟨cs, h2, y, h3⟩ := each i hi
        obtain ⟨q, rfl⟩ := don_read_cells h3
        refine ⟨q, ?_⟩
        have hc := (World.cells?_some h2).2.2
        rw [add_at] at hc
        have q0 := hc 0 (by simp)
        have q1 := hc 1 (by simp)
        have q2 := hc 2 (by simp)
        have q3 := hc 3 (by simp)
        rw [add_at] at q0 q1 q2 q3
        exact DonAt.of q0 q1 q2 q3)
      have hblk : b < W.heap.size := World.block_lt_of_cell? _ _ (hp 0 (by omega)).cells.1
      exact ⟨L, ⟨some ⟨b, off, none⟩, cap, by rw [hL], by rw [hL]; exact hl, hm, .inr ⟨b, off, rfl, hblk, fun j hj => hp j hj⟩⟩⟩
set_option maxRecDepth 100000 in
/-- A control that came in. -/
theorem ctl_of_read {H : Type} {enc : TypeId × Value → H} {W : World} {v : Value} {d : DataW H} {p : List MemPlace} {sp : Nat → Bool} {base b0 : Nat} {held : Bool} {r : Reach}
    (hv : Value.okWide Tryz.prog W r b0 27 v) (h : DataW.Trod enc Tryz.prog W base sp held 27 v d p) :
    ∃ (nm : ByteArray) (ct : Int) (va vl : Value) (many : Int) (Q : List (List UInt8 × Int × Int × List UInt8)) (L : List DonT), v = CtlV nm ct va vl many ∧ nm.size ≤ maxLen ∧ RRow W va Q ∧ Hid (∀ x ∈ Q, x.1.length ≤ maxLen ∧ x.2.2.2.length ≤ maxLen) ∧ DonRow W vl L := by
  have k5 : Tryz.prog.cellsOf 27 = 5 := by kernel_rfl
  have kz : Tryz.prog.cellsOf 24 = 3 := by kernel_rfl
  have ks : Tryz.prog.cellsOf 25 = 1 := by kernel_rfl
  have k3 : Tryz.prog.cellsOf 3 = 1 := by kernel_rfl
  have k9 : Tryz.prog.cellsOf 9 = 1 := by kernel_rfl
  have kr : Tryz.prog.cellsOf 22 = 1 := by kernel_rfl
  obtain ⟨cs, rfl, hsz⟩ := okWide_struct Tryz.underlying27 hv
  obtain ⟨c0, c1, c2, c3, c4, rfl⟩ := array5 (hsz.trans k5)
  obtain ⟨fuel, hf⟩ := h
  obtain ⟨xs, n, _, hx, hl, hlen, hff⟩ := DataW.trod_struct Tryz.underlying27 hf
  obtain ⟨y0, y1, y2, rfl⟩ := list3 hlen
  have h0 : DataW.trod enc Tryz.prog W base sp held n 24 (([c0, c1, c2, c3, c4].drop 0).take (Tryz.prog.cellsOf 24)) = some y0 := hff 0 _ rfl
  have h1 : DataW.trod enc Tryz.prog W base sp held n 25 (([c0, c1, c2, c3, c4].drop 3).take (Tryz.prog.cellsOf 25)) = some y1 := hff 1 _ rfl
  have h2 : DataW.trod enc Tryz.prog W base sp held n 3 (([c0, c1, c2, c3, c4].drop 4).take (Tryz.prog.cellsOf 3)) = some y2 := hff 2 _ rfl
  rw [kz] at h0
  rw [ks] at h1
  rw [k3] at h2
  have g0 : DataW.trod enc Tryz.prog W base sp held n 24 [c0, c1, c2] = some y0 := h0
  have g1 : DataW.trod enc Tryz.prog W base sp held n 25 [c3] = some y1 := h1
  have g2 : DataW.trod enc Tryz.prog W base sp held n 3 [c4] = some y2 := h2
  obtain ⟨zs, m, _, _, _, hzl, hzz⟩ := DataW.trod_struct Tryz.underlying24 g0
  obtain ⟨z0, z1, z2, rfl⟩ := list3 hzl
  have q0 : DataW.trod enc Tryz.prog W base sp held m 9 (([c0, c1, c2].drop 0).take (Tryz.prog.cellsOf 9)) = some z0 := hzz 0 _ rfl
  have q1 : DataW.trod enc Tryz.prog W base sp held m 3 (([c0, c1, c2].drop 1).take (Tryz.prog.cellsOf 3)) = some z1 := hzz 1 _ rfl
  have q2 : DataW.trod enc Tryz.prog W base sp held m 22 (([c0, c1, c2].drop 2).take (Tryz.prog.cellsOf 22)) = some z2 := hzz 2 _ rfl
  rw [k9] at q0
  rw [k3] at q1
  rw [kr] at q2
  have t0 : DataW.trod enc Tryz.prog W base sp held m 9 [c0] = some z0 := q0
  have t1 : DataW.trod enc Tryz.prog W base sp held m 3 [c1] = some z1 := q1
  have t2 : DataW.trod enc Tryz.prog W base sp held m 22 [c2] = some z2 := q2
  obtain ⟨s0, e0, _, hs0⟩ := DataW.trod_string Tryz.underlying9 t0
  obtain ⟨n1, e1, _, _⟩ := DataW.trod_int Tryz.underlying3 t1
  obtain ⟨a2, l2, p2, e2⟩ := Go.Joins.slice_form Tryz.underlying22 t2
  obtain ⟨a3, l3, p3, e3⟩ := Go.Joins.slice_form Tryz.underlying25 g1
  obtain ⟨n4, e4, _, _⟩ := DataW.trod_int Tryz.underlying3 g2
  simp only [List.cons.injEq, and_true] at e0 e1 e2 e3 e4
  subst e0 e1 e2 e3 e4
  obtain ⟨A, hA, HA⟩ := rrow_of_read (h := ⟨m, by simpa [Value.cells] using t2⟩)
  obtain ⟨L, hL⟩ := donrow_of_read (h := ⟨n, by simpa [Value.cells] using g1⟩)
  exact ⟨s0, n1, _, _, n4, A, L, rfl, hs0, hA, HA, hL⟩
end Go.Proofs.YtoobaaklklommaaGreatDoor
