import Derived.Test.YtoobaaklklommaaDoorZ17
import Derived.Test.YtoobaaklklommaaDoorZ08
import Derived.WalkKit
import Derived.Handy
import Derived.Tactics
import Derived.Tactics2
import Derived.Defers
import Derived.Recover
namespace Go.Proofs.YtoobaaklklommaaDoor
open Go.RowKit

/-- The four cells of a record at a place of a block. -/
def RecAt (w : World) (b o : Nat) (x : List UInt8 × Int × Int × List UInt8) : Prop :=
  w.cell? ⟨b, o, none⟩ = some (.string ⟨x.1.toArray⟩) ∧ w.cell? ⟨b, o + 1, none⟩ = some (.int .i64 x.2.1) ∧ w.cell? ⟨b, o + 2, none⟩ = some (.int .i64 x.2.2.1) ∧ w.cell? ⟨b, o + 3, none⟩ = some (.string ⟨x.2.2.2.toArray⟩)
/-- A list of records as it lies in memory. -/
def RRow (w : World) (v : Value) (L : List (List UInt8 × Int × Int × List UInt8)) : Prop :=
  ∃ a cap, v = .slice a L.length cap ∧ L.length ≤ cap ∧ cap ≤ maxLen ∧ (L = [] ∨ ∃ b o, a = some ⟨b, o, none⟩ ∧ b < w.heap.size ∧ ∀ j, (hj : j < L.length) → RecAt w b (o + j * 4) L[j])
theorem RecAt.kept {w w' : World} {b o : Nat} {x : List UInt8 × Int × Int × List UInt8} (h : RecAt w b o x) (hb : Below w.heap.size w w') : RecAt w' b o x := by
  have hlt := World.block_lt_of_cell? _ _ h.1
  unfold RecAt
  rw [hb.cell (p := ⟨b, o, none⟩) hlt, hb.cell (p := ⟨b, o + 1, none⟩) hlt, hb.cell (p := ⟨b, o + 2, none⟩) hlt, hb.cell (p := ⟨b, o + 3, none⟩) hlt]
  exact h
theorem RRow.kept {w w' : World} {v : Value} {L : List (List UInt8 × Int × Int × List UInt8)} (h : RRow w v L) (hb : Below w.heap.size w w') : RRow w' v L := by
  obtain ⟨a, cap, rfl, h1, h2, h3⟩ := h
  refine ⟨a, cap, rfl, h1, h2, ?_⟩
  rcases h3 with h3 | ⟨b, o, rfl, hb1, hc⟩
  · exact .inl h3
  · exact .inr ⟨b, o, rfl, Nat.lt_of_lt_of_le hb1 hb.size, fun j hj => (hc j hj).kept hb⟩
/-- How much a list of records weighs. -/
def wtR (L : List (List UInt8 × Int × Int × List UInt8)) : Nat := (L.map (fun x => x.1.length + x.2.2.2.length)).sum
theorem wtR_snoc (L : List (List UInt8 × Int × Int × List UInt8)) (k : Nat) (h : k < L.length) : wtR (L.take (k + 1)) = wtR (L.take k) + (L[k].1.length + L[k].2.2.2.length) := by
  unfold wtR; rw [List.take_succ_eq_append_getElem h, List.map_append, List.sum_append]; simp only [List.map_cons, List.map_nil, List.sum_cons, List.sum_nil, Nat.add_zero]
theorem wtR_le (L : List (List UInt8 × Int × Int × List UInt8)) (k : Nat) : wtR (L.take k) ≤ wtR L := by
  have h : wtR L = wtR (L.take k) + wtR (L.drop k) := by unfold wtR; rw [← List.sum_append, ← List.map_append, List.take_append_drop]
  omega

end Go.Proofs.YtoobaaklklommaaDoor

namespace Go.Proofs.YtoobaaklklommaaDoor
open Go.RowKit

def FzAt (w : World) (b o : Nat) : Prop := w.frozen? ⟨b, o, none⟩ = false ∧ w.frozen? ⟨b, o + 1, none⟩ = false ∧ w.frozen? ⟨b, o + 2, none⟩ = false ∧ w.frozen? ⟨b, o + 3, none⟩ = false
/-- Records as they lie in a block of the call's own. -/
def QRow (w : World) (g : Nat) (L : List (List UInt8 × Int × Int × List UInt8)) : Prop := g < w.heap.size ∧ ∀ j, (hj : j < L.length) → RecAt w g (j * 4) L[j] ∧ FzAt w g (j * 4)
theorem QRow.kept {w w' : World} {g : Nat} {L : List (List UInt8 × Int × Int × List UInt8)} (h : QRow w g L) (hb : Below w.heap.size w w') : QRow w' g L := by
  refine ⟨Nat.lt_of_lt_of_le h.1 hb.size, fun j hj => ⟨(h.2 j hj).1.kept hb, ?_⟩⟩
  unfold FzAt
  rw [hb.frozen (p := ⟨g, j * 4, none⟩) h.1, hb.frozen (p := ⟨g, j * 4 + 1, none⟩) h.1, hb.frozen (p := ⟨g, j * 4 + 2, none⟩) h.1, hb.frozen (p := ⟨g, j * 4 + 3, none⟩) h.1]
  exact (h.2 j hj).2
theorem QRow.row {w : World} {g cap : Nat} {L : List (List UInt8 × Int × Int × List UInt8)} (h : QRow w g L) (hc : L.length ≤ cap) (hm : cap ≤ maxLen) : RRow w (.slice (some ⟨g, 0, none⟩) L.length cap) L :=
  ⟨_, cap, rfl, hc, hm, .inr ⟨g, 0, rfl, h.1, fun j hj => by rw [Nat.zero_add]; exact (h.2 j hj).1⟩⟩
/-- A record stored. -/
def put4 (w : World) (g o : Nat) (x : List UInt8 × Int × Int × List UInt8) : World :=
  (((w.setCell ⟨g, o, none⟩ (.string ⟨x.1.toArray⟩)).setCell ⟨g, o + 1, none⟩ (.int .i64 x.2.1)).setCell ⟨g, o + 2, none⟩ (.int .i64 x.2.2.1)).setCell ⟨g, o + 3, none⟩ (.string ⟨x.2.2.2.toArray⟩)
theorem put4_size (w : World) (g o : Nat) (x : List UInt8 × Int × Int × List UInt8) : (put4 w g o x).heap.size = w.heap.size := by unfold put4; simp
theorem put4_frozen (w : World) (g o : Nat) (x : List UInt8 × Int × Int × List UInt8) (p : Addr) : (put4 w g o x).frozen? p = w.frozen? p := by unfold put4; simp
theorem put4_other {w : World} {g o : Nat} {x : List UInt8 × Int × Int × List UInt8} {b c : Nat} (h : b ≠ g ∨ (c < o ∨ o + 3 < c)) : (put4 w g o x).cell? ⟨b, c, none⟩ = w.cell? ⟨b, c, none⟩ := by
  have hn : ∀ k, k ≤ 3 → (⟨g, o + k, none⟩ : Addr) ≠ ⟨b, c, none⟩ := fun k hk e => by
    injection e with e1 e2
    rcases h with h | h
    · exact h e1.symm
    · omega
  unfold put4
  rw [World.cell?_setCell_other _ _ _ _ (hn 3 (by omega)), World.cell?_setCell_other _ _ _ _ (hn 2 (by omega)), World.cell?_setCell_other _ _ _ _ (hn 1 (by omega)), World.cell?_setCell_other _ _ _ _ (show (⟨g, o, none⟩ : Addr) ≠ ⟨b, c, none⟩ from hn 0 (by omega))]
theorem put4_at {w : World} {g o : Nat} {x y : List UInt8 × Int × Int × List UInt8} (h : RecAt w g o y) : RecAt (put4 w g o x) g o x := by
  have n : ∀ a b : Nat, a ≠ b → (⟨g, o + a, none⟩ : Addr) ≠ ⟨g, o + b, none⟩ := fun a b hab e => by injection e with _ e2; omega
  obtain ⟨h0, h1, h2, h3⟩ := h
  unfold put4 RecAt
  refine ⟨?_, ?_, ?_, ?_⟩
  · rw [World.cell?_setCell_other _ _ _ _ (show (⟨g, o + 3, none⟩ : Addr) ≠ ⟨g, o, none⟩ from n 3 0 (by omega)), World.cell?_setCell_other _ _ _ _ (show (⟨g, o + 2, none⟩ : Addr) ≠ ⟨g, o, none⟩ from n 2 0 (by omega)), World.cell?_setCell_other _ _ _ _ (show (⟨g, o + 1, none⟩ : Addr) ≠ ⟨g, o, none⟩ from n 1 0 (by omega))]
    exact World.cell?_setCell_same _ _ _ h0
  · rw [World.cell?_setCell_other _ _ _ _ (n 3 1 (by omega)), World.cell?_setCell_other _ _ _ _ (n 2 1 (by omega))]
    exact World.cell?_setCell_same _ _ _ (by rw [World.cell?_setCell_other _ _ _ _ (show (⟨g, o, none⟩ : Addr) ≠ ⟨g, o + 1, none⟩ from n 0 1 (by omega))]; exact h1)
  · rw [World.cell?_setCell_other _ _ _ _ (n 3 2 (by omega))]
    exact World.cell?_setCell_same _ _ _ (by rw [World.cell?_setCell_other _ _ _ _ (n 1 2 (by omega)), World.cell?_setCell_other _ _ _ _ (show (⟨g, o, none⟩ : Addr) ≠ ⟨g, o + 2, none⟩ from n 0 2 (by omega))]; exact h2)
  · exact World.cell?_setCell_same _ _ _ (by rw [World.cell?_setCell_other _ _ _ _ (n 2 3 (by omega)), World.cell?_setCell_other _ _ _ _ (n 1 3 (by omega)), World.cell?_setCell_other _ _ _ _ (show (⟨g, o, none⟩ : Addr) ≠ ⟨g, o + 3, none⟩ from n 0 3 (by omega))]; exact h3)
theorem put4_below {B : Nat} {a w : World} (h : Below B a w) {g o : Nat} (hg : B ≤ g) (x : List UInt8 × Int × Int × List UInt8) : Below B a (put4 w g o x) :=
  (((h.setCell (p := ⟨g, o, none⟩) hg _).setCell (p := ⟨g, o + 1, none⟩) hg _).setCell (p := ⟨g, o + 2, none⟩) hg _).setCell (p := ⟨g, o + 3, none⟩) hg _
theorem QRow.set {w : World} {g : Nat} {L : List (List UInt8 × Int × Int × List UInt8)} (h : QRow w g L) (k : Nat) (hk : k < L.length) (x : List UInt8 × Int × Int × List UInt8) : QRow (put4 w g (k * 4) x) g (L.set k x) := by
  refine ⟨by rw [put4_size]; exact h.1, fun j hj => ?_⟩
  have hj' : j < L.length := by simpa using hj
  refine ⟨?_, ?_⟩
  · rw [List.getElem_set]
    split
    · rename_i e; subst e; exact put4_at (h.2 k hk).1
    · rename_i e
      have h0 := (h.2 j hj').1
      unfold RecAt at h0 ⊢
      rw [put4_other (.inr (by omega)), put4_other (.inr (by omega)), put4_other (.inr (by omega)), put4_other (.inr (by omega))]
      exact h0
  · have h0 := (h.2 j hj').2
    unfold FzAt at h0 ⊢
    rw [put4_frozen, put4_frozen, put4_frozen, put4_frozen]; exact h0
/-- What has been copied behind k rounds. -/
def partR (L : List (List UInt8 × Int × Int × List UInt8)) (k : Nat) : List (List UInt8 × Int × Int × List UInt8) := L.take k ++ List.replicate (L.length - k) ([], 0, 0, [])
theorem partR_length (L : List (List UInt8 × Int × Int × List UInt8)) (k : Nat) (h : k ≤ L.length) : (partR L k).length = L.length := by simp [partR]; omega
theorem partR_next (L : List (List UInt8 × Int × Int × List UInt8)) (k : Nat) (h : k < L.length) : partR L (k + 1) = (partR L k).set k L[k] := by
  unfold partR
  have hm : (L.take k).length = k := by simp; omega
  rw [List.take_succ_eq_append_getElem h, List.set_append_right _ _ (by omega), hm, Nat.sub_self]
  obtain ⟨m, hm2⟩ : ∃ m, L.length - k = m + 1 := ⟨L.length - k - 1, by omega⟩
  rw [hm2, show L.length - (k + 1) = m by omega, List.replicate_succ]
  simp only [List.set_cons_zero, List.append_assoc, List.singleton_append]
theorem partR_end (L : List (List UInt8 × Int × Int × List UInt8)) : partR L L.length = L := by simp [partR]

theorem info_rec : (Tryd.prog.info? 42).map (fun i => (i.zero, i.size, i.bytes)) = some (some (.agg #[.string ByteArray.empty, .int .i64 0, .int .i64 0, .string ByteArray.empty]), 4, 48) := by kernel_rfl
theorem made_at {n k r : Nat} {a b c d : Value} (hk : k < n) (hr : r < 4) : (madeCells #[a, b, c, d] (n * 4)).toList[k * 4 + r]? = [a, b, c, d][r]? := by
  unfold madeCells
  have h1 : k * 4 + r < n * 4 := by omega
  simp only [Array.toList_map, Array.toList_range, List.getElem?_map, List.getElem?_range h1, Option.map_some]
  rw [show (#[a, b, c, d] : Array Value).size = 4 from rfl, show (k * 4 + r) % 4 = r by omega]
  match r, hr with
  | 0, _ => rfl
  | 1, _ => rfl
  | 2, _ => rfl
  | 3, _ => rfl
theorem made_qrow {w w1 : World} {L : List (List UInt8 × Int × Int × List UInt8)} (hg : w.heap.size < w1.heap.size) (h : w1.ownsRow w.heap.size 42 4 (.slice (some ⟨w.heap.size, 0, none⟩) L.length L.length) L.length (madeCells #[.string ByteArray.empty, .int .i64 0, .int .i64 0, .string ByteArray.empty] (L.length * 4)).toList) : QRow w1 w.heap.size (partR L 0) := by
  have hp : partR L 0 = List.replicate L.length ([], 0, 0, []) := by simp [partR]
  refine ⟨hg, fun j hj => ⟨?_, h.frozenAt _, h.frozenAt _, h.frozenAt _, h.frozenAt _⟩⟩
  have hj' : j < L.length := by rw [hp] at hj; simpa using hj
  have hx : (partR L 0)[j] = ([], 0, 0, []) := by simp only [hp]; exact List.getElem_replicate _
  rw [hx]
  unfold RecAt
  refine ⟨?_, ?_, ?_, ?_⟩
  · rw [h.cellAt (j * 4) (by omega), show j * 4 = j * 4 + 0 from rfl, made_at hj' (by omega)]; rfl
  · rw [h.cellAt (j * 4 + 1) (by omega), made_at hj' (by omega)]; rfl
  · rw [h.cellAt (j * 4 + 2) (by omega), made_at hj' (by omega)]; rfl
  · rw [h.cellAt (j * 4 + 3) (by omega), made_at hj' (by omega)]; rfl

end Go.Proofs.YtoobaaklklommaaDoor

namespace Go.Proofs.YtoobaaklklommaaDoor
open Go.RowKit

/-! Work that gives up by panic, and what catches it (chapter 16). -/
/-- What work panics with that gives up. -/
def RfV : Value := .iface 44 (.agg #[])
/-- The panic of work that gave up, as a chain. -/
def RfC : List PanicEntry := [{ v := RfV, recovered := false }]

theorem insist_yes (w : World) : Calls Tryd.prog 22 #[.bool true] w fun e w' => e = .returned (.tuple #[]) ∧ w' = w := by
  go_enter Tryd.func22, Tryd.ntmps22
  go_wp2
  first | go_end0 | refine bodyPost_ret (results_none rfl _ _ _) rfl ?_
  exact ⟨rfl, rfl⟩
theorem insist_no (w : World) : Calls Tryd.prog 22 #[.bool false] w fun e w' => e = .panicked RfC ∧ w' = w := by
  have hp : ∀ (v : Value) (w : World), Sem.run Tryd.prog (Instr.panic (.iface 44 v)) w = .halt (.panic (.iface 44 v)) w := fun _ _ => rfl
  go_enter Tryd.func22, Tryd.ntmps22
  go_wp2
  exact ⟨rfl, rfl, rfl⟩
theorem catch_refused (w : World) : CallsD Tryd.prog 20 #[] (.panicking RfC) w fun e u' w' => e = .returned (.tuple #[]) ∧ u' = .panicking [{ v := RfV, recovered := true }] ∧ w' = w := by
  have h1 : ∀ w : World, (binOp .neq 20 (.iface 44 (.agg #[])) .nilIface).run Tryd.prog w = .ok (.bool true) w := fun _ => by kernel_rfl
  have h2 : ∀ w : World, (binOp .neq 20 (.iface 44 (.agg #[])) (.iface 44 (.agg #[]))).run Tryd.prog w = .ok (.bool false) w := fun _ => by kernel_rfl
  refine callsD_of_wpS Tryd.func20 rfl fun c₀ cs hu => ?_
  apply wpS_seq
  apply wpS_region
  simp [wpOpsS, go_sem, recoverD, hu, Tryd.ntmps20, Exit.thenS, RfC]
  refine wpS_of_wp ?_
  show Code.wp _ _ _ { tmps := #[.iface 44 (.agg #[]), .iface 44 (.agg #[]), undef, undef, undef, undef, undef, undef, undef, undef, undef], defers := [] } _
  go_wp2
  exact ⟨rfl, _, rfl, _, results_none rfl _ _ _, rfl, rfl, rfl⟩
theorem catch_idle (w : World) : CallsD Tryd.prog 20 #[] .returning w fun e u' w' => e = .returned (.tuple #[]) ∧ u' = .returning ∧ w' = w := by
  have h1 : ∀ w : World, (binOp .neq 20 .nilIface .nilIface).run Tryd.prog w = .ok (.bool false) w := fun _ => by kernel_rfl
  refine callsD_of_wpS Tryd.func20 rfl fun c₀ cs hu => ?_
  apply wpS_seq
  apply wpS_region
  simp [wpOpsS, go_sem, recoverD, hu, Tryd.ntmps20, Exit.thenS]
  refine wpS_of_wp ?_
  show Code.wp _ _ _ { tmps := #[.nilIface, .nilIface, undef, undef, undef, undef, undef, undef, undef, undef, undef], defers := [] } _
  go_wp2
  exact ⟨rfl, .returning, by rw [← hu], _, results_none rfl _ _ _, rfl, rfl, rfl⟩
set_option maxRecDepth 100000 in
theorem comes_yes (K : Nat) (cap : Array Value) (w : World) (Q : World → Prop) (hen : ∀ w : World, (callFunc K cap).run Tryd.prog w = .ok (.enter K cap) w) (h : Calls Tryd.prog K cap w fun e w' => e = .returned (.tuple #[]) ∧ Q w') :
    Calls Tryd.prog 10 #[.func (.func K) #[] cap] w fun e w' => e = .returned (.bool true) ∧ Q w' := by
  have H : Hid (Calls Tryd.prog K cap w fun e w' => e = .returned (.tuple #[]) ∧ Q w') := h
  clear h
  go_enter_defers Tryd.func10, Tryd.ntmps10
  go_wp2_with fail
  refine H.out.mono ?_
  rintro e w1 ⟨rfl, hq⟩
  have HQ : Hid (Q w1) := hq
  clear hq hen H
  go_wp2_with fail
  refine leaves_cons (f := 20) (args := #[]) (by simp) (by simp [go_sem]) ?_
  refine (catch_idle _).mono ?_
  rintro e u' w'' ⟨rfl, rfl, rfl⟩
  exact ⟨_, results_tmp rfl _ _ _, rfl, HQ.out⟩
set_option maxRecDepth 100000 in
theorem comes_no (K : Nat) (cap : Array Value) (w : World) (Q : World → Prop) (hen : ∀ w : World, (callFunc K cap).run Tryd.prog w = .ok (.enter K cap) w) (h : Calls Tryd.prog K cap w fun e w' => e = .panicked RfC ∧ Q w') :
    Calls Tryd.prog 10 #[.func (.func K) #[] cap] w fun e w' => e = .returned (.bool false) ∧ Q w' := by
  have H : Hid (Calls Tryd.prog K cap w fun e w' => e = .panicked RfC ∧ Q w') := h
  clear h
  go_enter_defers Tryd.func10, Tryd.ntmps10
  go_wp2_with fail
  refine H.out.mono ?_
  rintro e w1 ⟨rfl, hq⟩
  refine leaves_cons (f := 20) (args := #[]) (by simp) (by simp [go_sem]) ?_
  refine (catch_refused _).mono ?_
  rintro e u' w'' ⟨rfl, rfl, rfl⟩
  exact ⟨_, results_tmp rfl _ _ _, rfl, hq⟩
/-- A function with a body is entered. -/
theorem enters {f : FuncId} {fn : Func} (hf : Tryd.prog.funcs[f]? = some fn) (hn : (fn.name == "runtime.NumGoroutine") = false) (hb : fn.body.isNone = false) (args : Array Value) (w : World) : (callFunc f args).run Tryd.prog w = .ok (.enter f args) w := by
  have h1 : fn.name ≠ "runtime.NumGoroutine" := by simpa using hn
  have h2 : fn.body ≠ none := by intro e; rw [e] at hb; cases hb
  unfold callFunc
  simp [go_sem, hf, h1, h2]
end Go.Proofs.YtoobaaklklommaaDoor
