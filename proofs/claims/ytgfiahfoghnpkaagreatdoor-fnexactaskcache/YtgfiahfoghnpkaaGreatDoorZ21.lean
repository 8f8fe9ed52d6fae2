import Derived.Test.YtgfiahfoghnpkaaGreatDoorProg
import Derived.WalkKit
import Derived.DeepKeys5
import Derived.Maps.RangeWalk
import Derived.Maps.OwnSet
import Derived.Maps.Ext
namespace Go.Proofs.YtgfiahfoghnpkaaGreatDoor
open Go.RowKit

/-- What an entry is known by, as a value. -/
def keyV (nm : ByteArray) (ty : Int) : Value := .agg #[.string nm, .int .i64 ty]
theorem laidOutK : laidOutB Tryz.prog = true := by kernel_rfl
theorem own_key : Tryz.prog.keyType 75 = true := by kernel_rfl
theorem own_wide : (match Tryz.prog.underlying 75 with | some (.array _ _) | some (.struct _) => true | _ => false) = true := by kernel_rfl
set_option maxRecDepth 100000 in
theorem keyed : Maps.Keyed Tryz.prog 75 := Maps.Keyed.of_law (deep_law_gate laidOutK (of_decide_eq_true (by kernel_rfl)) (of_decide_eq_true (by kernel_rfl)) own_key own_wide)
theorem own_cells : Tryz.prog.cellsOf 75 = 2 ∧ Tryz.prog.cellsOf 9 = 1 ∧ Tryz.prog.cellsOf 3 = 1 := by
  refine ⟨?_, ?_, ?_⟩ <;> kernel_rfl
set_option maxRecDepth 100000 in
theorem lits_str (d : Nat) (a : Value) (L : List Lit) (h : Tryz.prog.keyLits (d + 1) 9 [a] = some L) : ∃ s : ByteArray, a = .string s ∧ s.size ≤ maxLen ∧ L = [.string s.data.toList] := by
  unfold Program.keyLits at h
  rw [Tryz.underlying9] at h
  cases a <;> simp at h
  exact ⟨_, rfl, h.1, h.2.symm⟩
set_option maxRecDepth 100000 in
theorem lits_int (d : Nat) (a : Value) (L : List Lit) (h : Tryz.prog.keyLits (d + 1) 3 [a] = some L) : ∃ n : Int, a = .int .i64 n ∧ (Lit.int .i64 n).wf = true ∧ L = [.int .i64 n] := by
  unfold Program.keyLits at h
  rw [Tryz.underlying3] at h
  cases a <;> simp at h
  obtain ⟨⟨rfl, h2⟩, h3⟩ := h
  exact ⟨_, rfl, h2, h3.symm⟩
set_option maxRecDepth 100000 in
theorem lits_own (d : Nat) (xs : List Value) (L : List Lit) (h : Tryz.prog.keyLits (d + 2) 75 xs = some L) : ∃ (s : ByteArray) (n : Int), xs = [.string s, .int .i64 n] ∧ s.size ≤ maxLen ∧ (Lit.int .i64 n).wf = true := by
  unfold Program.keyLits at h
  rw [Tryz.underlying75] at h
  simp only [own_cells.1] at h
  split at h
  · rename_i hc
    obtain ⟨a, b, rfl⟩ : ∃ a b, xs = [a, b] := by
      match xs, hc.1 with
      | [a, b], _ => exact ⟨a, b, rfl⟩
    simp only [List.mapM_cons, List.mapM_nil, own_cells.2.1, own_cells.2.2, List.drop_zero, List.drop_succ_cons, List.take_succ_cons, List.take_zero] at h
    cases h1 : Tryz.prog.keyLits (d + 1) 9 [a] with
    | none => rw [h1] at h; cases h
    | some l1 =>
      cases h2 : Tryz.prog.keyLits (d + 1) 3 [b] with
      | none => rw [h1, h2] at h; cases h
      | some l2 =>
        obtain ⟨s, rfl, hs, _⟩ := lits_str d a l1 h1
        obtain ⟨n, rfl, hn, _⟩ := lits_int d b l2 h2
        exact ⟨s, n, rfl, hs, hn⟩
  · cases h
set_option maxRecDepth 100000 in
theorem lits_mk (d : Nat) (s : ByteArray) (n : Int) (hs : s.size ≤ maxLen) (hn : (Lit.int .i64 n).wf = true) : ∃ L, Tryz.prog.keyLits (d + 2) 75 [.string s, .int .i64 n] = some L := by
  have h1 : Tryz.prog.keyLits (d + 1) 9 [.string s] = some [.string s.data.toList] := by
    unfold Program.keyLits
    rw [Tryz.underlying9]
    exact if_pos hs
  have h2 : Tryz.prog.keyLits (d + 1) 3 [.int .i64 n] = some [.int .i64 n] := by
    unfold Program.keyLits
    rw [Tryz.underlying3]
    exact if_pos ⟨rfl, hn⟩
  unfold Program.keyLits
  rw [Tryz.underlying75]
  simp only [own_cells.1]
  rw [if_pos ⟨rfl, by kernel_rfl⟩]
  simp only [List.mapM_cons, List.mapM_nil, own_cells.2.1, own_cells.2.2, List.drop_zero, List.drop_succ_cons, List.take_succ_cons, List.take_zero, h1, h2]
  exact ⟨_, rfl⟩
theorem types_many : Tryz.prog.types.size + 1 = (Tryz.prog.types.size - 1) + 2 := by
  have h : 1 ≤ Tryz.prog.types.size := of_decide_eq_true (by kernel_rfl)
  omega
set_option maxRecDepth 100000 in
theorem key_inv (v : Value) (kl : Lit) (h : keyOf Tryz.prog 75 v = some kl) : ∃ x : ByteArray × Int, v = keyV x.1 x.2 ∧ x.1.size ≤ maxLen := by
  obtain ⟨xs, L, rfl, hl, _⟩ := keyOf_top own_wide h
  rw [types_many] at hl
  obtain ⟨s, n, hx, hs, _⟩ := lits_own _ _ _ hl
  refine ⟨(s, n), ?_, hs⟩
  unfold keyV
  congr 1
  exact Array.ext' hx
set_option maxRecDepth 100000 in
theorem key_mk (s : ByteArray) (n : Int) (hs : s.size ≤ maxLen) (hn : -9223372036854775808 ≤ n ∧ n ≤ 9223372036854775807) : ∃ kl, keyOf Tryz.prog 75 (keyV s n) = some kl := by
  have hw : (Lit.int .i64 n).wf = true := WalkArith.wf_i64 hn
  obtain ⟨L, hL⟩ := lits_mk (Tryz.prog.types.size - 1) s n hs hw
  rw [← types_many] at hL
  unfold keyOf keyV
  rw [Tryz.underlying75]
  refine ⟨.string (keyBytes L), ?_⟩
  simp only [own_key, Bool.true_and]
  rw [if_pos (by simp only [Value.formed, Tryz.underlying75, own_cells.1]; rfl)]
  show Option.map _ (Tryz.prog.keyLits (Tryz.prog.types.size + 1) 75 [.string s, .int .i64 n]) = _
  rw [hL]
  rfl
end Go.Proofs.YtgfiahfoghnpkaaGreatDoor
