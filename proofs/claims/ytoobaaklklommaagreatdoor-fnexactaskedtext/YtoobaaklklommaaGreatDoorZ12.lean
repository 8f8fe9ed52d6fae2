import Derived.Test.YtoobaaklklommaaGreatDoorZ11
import Derived.Test.YtoobaaklklommaaGreatDoorZ07
import Derived.WalkKit
import Derived.Handy
import Derived.Tactics
import Derived.Tactics2
import Derived.Defers
import Derived.Recover
namespace Go.Proofs.YtoobaaklklommaaGreatDoor
open Go.RowKit

/-- The four cells of a record at a place of a block. -/
def RecAt (w : World) (b o : Nat) (x : List UInt8 × Int × Int × List UInt8) : Prop :=
  w.cell? ⟨b, o, none⟩ = some (.string ⟨x.1.toArray⟩) ∧ w.cell? ⟨b, o + 1, none⟩ = some (.int .i64 x.2.1) ∧ w.cell? ⟨b, o + 2, none⟩ = some (.int .i64 x.2.2.1) ∧ w.cell? ⟨b, o + 3, none⟩ = some (.string ⟨x.2.2.2.toArray⟩)
/-- A list of records as it lies in memory. -/
def RRow (w : World) (v : Value) (L : List (List UInt8 × Int × Int × List UInt8)) : Prop :=
  ∃ a cap, v = .slice a L.length cap ∧ L.length ≤ cap ∧ cap ≤ maxLen ∧ (L = [] ∨ ∃ b o, a = some ⟨b, o, none⟩ ∧ b < w.heap.size ∧ ∀ j, (hj : j < L.length) → RecAt w b (o + j * 4) L[j])
theorem RecAt.kept {w w' : World} {b o : Nat} {x : List UInt8 × Int × Int × List UInt8} (h : RecAt w b o x) (hb : Below w.heap.size w w') : RecAt w' b o x := by
  have hlt := World.block_lt_of_cell? _ _ h.1
  unfold RecAt
  rw [hb.cell (p := ⟨b, o, none⟩) hlt, hb.cell (p := ⟨b, o + 1, none⟩) hlt, hb.cell (p := ⟨b, o + 2, none⟩) hlt, hb.cell (p := ⟨b, o + 3, none⟩) hlt]
  exact h
theorem RRow.kept {w w' : World} {v : Value} {L : List (List UInt8 × Int × Int × List UInt8)} (h : RRow w v L) (hb : Below w.heap.size w w') : RRow w' v L := by
  obtain ⟨a, cap, rfl, h1, h2, h3⟩ := h
  refine ⟨a, cap, rfl, h1, h2, ?_⟩
  rcases h3 with h3 | ⟨b, o, rfl, hb1, hc⟩
  · exact .inl h3
  · exact .inr ⟨b, o, rfl, Nat.lt_of_lt_of_le hb1 hb.size, fun j hj => (hc j hj).kept hb⟩
/-- How much a list of records weighs. -/
def wtR (L : List (List UInt8 × Int × Int × List UInt8)) : Nat := (L.map (fun x => x.1.length + x.2.2.2.length)).sum
theorem wtR_snoc (L : List (List UInt8 × Int × Int × List UInt8)) (k : Nat) (h : k < L.length) : wtR (L.take (k + 1)) = wtR (L.take k) + (L[k].1.length + L[k].2.2.2.length) := by
  unfold wtR; rw [List.take_succ_eq_append_getElem h, List.map_append, List.sum_append]; simp only [List.map_cons, List.map_nil, List.sum_cons, List.sum_nil, Nat.add_zero]
theorem wtR_le (L : List (List UInt8 × Int × Int × List UInt8)) (k : Nat) : wtR (L.take k) ≤ wtR L := by
  have h : wtR L = wtR (L.take k) + wtR (L.drop k) := by unfold wtR; rw [← List.sum_append, ← List.map_append, List.take_append_drop]
  omega

set_option maxRecDepth 20000 in
set_option maxHeartbeats 1000000 in
theorem szRecordS_any (v : Value) (L : List (List UInt8 × Int × Int × List UInt8)) (left : Int) (w : World) (hr : RRow w v L) (hx : Hid (∀ x ∈ L, x.1.length ≤ maxLen ∧ x.2.2.2.length ≤ maxLen)) (h0 : 0 ≤ left) (h1 : left ≤ 1048576) :
    Calls Tryz.prog 79 #[v, .int .i64 left] w fun e w' => (∃ q : Int, e = .returned (.int .i64 q) ∧ ((q = -1 ∧ left < (L.length : Int) + (wtR L : Int)) ∨ (q = left - (L.length : Int) - (wtR L : Int) ∧ 0 ≤ q))) ∧ Below w.heap.size w w' := by
  obtain ⟨a, cap, rfl, hcap, hmax, hrow⟩ := hr
  have HROW : Hid (L = [] ∨ ∃ b o, a = some ⟨b, o, none⟩ ∧ b < w.heap.size ∧ ∀ j, (hj : j < L.length) → RecAt w b (o + j * 4) L[j]) := hrow
  have HSZ : Hid (∀ (x : List UInt8 × Int × Int × List UInt8) (q : Int) W, x.1.length ≤ maxLen → x.2.2.2.length ≤ maxLen → 0 ≤ q → q ≤ 1048576 → Calls Tryz.prog 116 #[.agg #[.string ⟨x.1.toArray⟩, .int .i64 x.2.1, .int .i64 x.2.2.1, .string ⟨x.2.2.2.toArray⟩], .int .i64 q] W fun e w' => e = .returned (.int .i64 (szR (x.1.length : Int) (x.2.2.2.length : Int) q)) ∧ Below W.heap.size W w') := fun x q W g1 g2 g3 g4 => by
    have h := szRecord_any ⟨x.1.toArray⟩ ⟨x.2.2.2.toArray⟩ x.2.1 x.2.2.1 q W (by rw [size_list]; exact g1) (by rw [size_list]; exact g2) g3 g4
    rw [size_list, size_list] at h; exact h
  unfold maxLen at hmax
  clear hrow
  by_cases hneg : left - (L.length : Int) < 0
  · go_enter Tryz.func79, Tryz.ntmps79
    go_wp2_with fail
    go_ret
    exact ⟨⟨-1, rfl, .inl ⟨rfl, by omega⟩⟩, Below.refl _ _⟩
  · have hpos : 0 ≤ left - (L.length : Int) := by omega
    clear hneg
    go_enter Tryz.func79, Tryz.ntmps79
    go_wp2_with fail
    go_loopw [1, 5] (fun q i wr => ∃ k : Nat, k ≤ L.length ∧ i = .int .i64 (k : Int) ∧ q = .int .i64 (left - (L.length : Int) - (wtR (L.take k) : Int)) ∧ 0 ≤ left - (L.length : Int) - (wtR (L.take k) : Int) ∧ Below w.heap.size w wr) (fun _ i _ => L.length - (intOf i).toNat)
    case atStart => exact ⟨0, Nat.zero_le _, rfl, by simp [wtR], by simpa [wtR] using hpos, Below.refl _ _⟩
    case round =>
      obtain ⟨k, hk, rfl, rfl, hq0, hb⟩ := hrel
      have hwl := wtR_le L k
      by_cases hlt : k < L.length
      · rcases HROW.out with hr | ⟨b, o, ha, hbl, hcel⟩
        · rw [hr] at hlt; simp at hlt
        · rw [ha]
          have hcx := (hcel k hlt).kept hb
          unfold RecAt at hcx
          obtain ⟨c0, c1, c2, c3⟩ := hcx
          have hxl := hx.out _ (List.getElem_mem hlt)
          have HST : Hid (wtR (L.take (k + 1)) = wtR (L.take k) + ((L[k]'hlt).1.length + (L[k]'hlt).2.2.2.length)) := wtR_snoc L k hlt
          have hwl2 := wtR_le L (k + 1)
          rw [HST.out] at hwl2
          obtain ⟨x, hxe⟩ : ∃ x, x = L[k]'hlt := ⟨_, rfl⟩
          rw [← hxe] at c0 c1 c2 c3 hxl HST hwl2
          obtain ⟨q, hq⟩ : ∃ q : Int, q = left - (L.length : Int) - (wtR (L.take k) : Int) := ⟨_, rfl⟩
          have HQ : Hid (q = left - (L.length : Int) - (wtR (L.take k) : Int)) := hq
          rw [← hq] at hq0 ⊢
          have hq1 : q ≤ 1048576 := by omega
          have HC := HSZ.out x q
          have HCC : Hid (∀ W, Calls Tryz.prog 116 #[.agg #[.string ⟨x.1.toArray⟩, .int .i64 x.2.1, .int .i64 x.2.2.1, .string ⟨x.2.2.2.toArray⟩], .int .i64 q] W fun e w' => e = .returned (.int .i64 (szR (x.1.length : Int) (x.2.2.2.length : Int) q)) ∧ Below W.heap.size W w') := fun W => HC W hxl.1 hxl.2 hq0 hq1
          clear hcel hxe hq HC
          have hsz : szR (x.1.length : Int) (x.2.2.2.length : Int) q = -1 ∧ q < (x.1.length : Int) + (x.2.2.2.length : Int) ∨ szR (x.1.length : Int) (x.2.2.2.length : Int) q = q - (x.1.length : Int) - (x.2.2.2.length : Int) ∧ 0 ≤ q - (x.1.length : Int) - (x.2.2.2.length : Int) := by
            unfold szR
            split
            · exact .inl ⟨rfl, by omega⟩
            · split
              · exact .inl ⟨rfl, by omega⟩
              · exact .inr ⟨rfl, by omega⟩
          rcases hsz with ⟨hz, hlt2⟩ | ⟨hz, hge⟩
          · rw [hz] at HCC
            have HL : Hid (left < (L.length : Int) + (wtR L : Int)) := by have h1 := HQ.out; show left < _; omega
            clear hz hlt2
            go_wp2_with fail
            refine (HCC.out _).mono ?_
            rintro e w2 ⟨rfl, hb2⟩
            go_wp2_with fail
            go_ret
            exact ⟨⟨-1, rfl, .inl ⟨rfl, HL.out⟩⟩, hb.trans (hb2.mono hb.size)⟩
          · rw [hz] at HCC
            obtain ⟨q2, hq2⟩ : ∃ q2 : Int, q2 = q - (x.1.length : Int) - (x.2.2.2.length : Int) := ⟨_, rfl⟩
            rw [← hq2] at HCC hge
            have HQ2 : Hid (q2 = left - (L.length : Int) - (wtR (L.take (k + 1)) : Int)) := by have h1 := HQ.out; have h2 := HST.out; show q2 = _; omega
            clear hz hq2
            go_wp2_with fail
            refine (HCC.out _).mono ?_
            rintro e w2 ⟨rfl, hb2⟩
            go_wp2_with fail
            go_roundw
            case rel => exact ⟨k + 1, by omega, by go_num, by rw [HQ2.out], by rw [← HQ2.out]; exact hge, hb.trans (hb2.mono hb.size)⟩
            case measure => simp [intOf]; omega
      · have hfull : wtR (L.take k) = wtR L := by rw [List.take_of_length_le (by omega)]
        rw [hfull] at hq0 ⊢
        clear hfull hwl
        go_wp2_with fail
        go_ret
        exact ⟨⟨_, rfl, .inr ⟨rfl, hq0⟩⟩, hb⟩
end Go.Proofs.YtoobaaklklommaaGreatDoor

namespace Go.Proofs.YtoobaaklklommaaGreatDoor
open Go.RowKit

def FzAt (w : World) (b o : Nat) : Prop := w.frozen? ⟨b, o, none⟩ = false ∧ w.frozen? ⟨b, o + 1, none⟩ = false ∧ w.frozen? ⟨b, o + 2, none⟩ = false ∧ w.frozen? ⟨b, o + 3, none⟩ = false
/-- Records as they lie in a block of the call's own. -/
def QRow (w : World) (g : Nat) (L : List (List UInt8 × Int × Int × List UInt8)) : Prop := g < w.heap.size ∧ ∀ j, (hj : j < L.length) → RecAt w g (j * 4) L[j] ∧ FzAt w g (j * 4)
theorem QRow.kept {w w' : World} {g : Nat} {L : List (List UInt8 × Int × Int × List UInt8)} (h : QRow w g L) (hb : Below w.heap.size w w') : QRow w' g L := by
  refine ⟨Nat.lt_of_lt_of_le h.1 hb.size, fun j hj => ⟨(h.2 j hj).1.kept hb, ?_⟩⟩
  unfold FzAt
  rw [hb.frozen (p := ⟨g, j * 4, none⟩) h.1, hb.frozen (p := ⟨g, j * 4 + 1, none⟩) h.1, hb.frozen (p := ⟨g, j * 4 + 2, none⟩) h.1, hb.frozen (p := ⟨g, j * 4 + 3, none⟩) h.1]
  exact (h.2 j hj).2
theorem QRow.row {w : World} {g cap : Nat} {L : List (List UInt8 × Int × Int × List UInt8)} (h : QRow w g L) (hc : L.length ≤ cap) (hm : cap ≤ maxLen) : RRow w (.slice (some ⟨g, 0, none⟩) L.length cap) L :=
  ⟨_, cap, rfl, hc, hm, .inr ⟨g, 0, rfl, h.1, fun j hj => by rw [Nat.zero_add]; exact (h.2 j hj).1⟩⟩
/-- A record stored. -/
def put4 (w : World) (g o : Nat) (x : List UInt8 × Int × Int × List UInt8) : World :=
  (((w.setCell ⟨g, o, none⟩ (.string ⟨x.1.toArray⟩)).setCell ⟨g, o + 1, none⟩ (.int .i64 x.2.1)).setCell ⟨g, o + 2, none⟩ (.int .i64 x.2.2.1)).setCell ⟨g, o + 3, none⟩ (.string ⟨x.2.2.2.toArray⟩)
theorem put4_size (w : World) (g o : Nat) (x : List UInt8 × Int × Int × List UInt8) : (put4 w g o x).heap.size = w.heap.size := by unfold put4; simp
theorem put4_frozen (w : World) (g o : Nat) (x : List UInt8 × Int × Int × List UInt8) (p : Addr) : (put4 w g o x).frozen? p = w.frozen? p := by unfold put4; simp
theorem put4_other {w : World} {g o : Nat} {x : List UInt8 × Int × Int × List UInt8} {b c : Nat} (h : b ≠ g ∨ (c < o ∨ o + 3 < c)) : (put4 w g o x).cell? ⟨b, c, none⟩ = w.cell? ⟨b, c, none⟩ := by
  have hn : ∀ k, k ≤ 3 → (⟨g, o + k, none⟩ : Addr) ≠ ⟨b, c, none⟩ := fun k hk e => by
    injection e with e1 e2
    rcases h with h | h
    · exact h e1.symm
    · omega
  unfold put4
  rw [World.cell?_setCell_other _ _ _ _ (hn 3 (by omega)), World.cell?_setCell_other _ _ _ _ (hn 2 (by omega)), World.cell?_setCell_other _ _ _ _ (hn 1 (by omega)), World.cell?_setCell_other _ _ _ _ (show (⟨g, o, none⟩ : Addr) ≠ ⟨b, c, none⟩ from hn 0 (by omega))]
theorem put4_at {w : World} {g o : Nat} {x y : List UInt8 × Int × Int × List UInt8} (h : RecAt w g o y) : RecAt (put4 w g o x) g o x := by
  have n : ∀ a b : Nat, a ≠ b → (⟨g, o + a, none⟩ : Addr) ≠ ⟨g, o + b, none⟩ := fun a b hab e => by injection e with _ e2; omega
  obtain ⟨h0, h1, h2, h3⟩ := h
  unfold put4 RecAt
  refine ⟨?_, ?_, ?_, ?_⟩
  · rw [World.cell?_setCell_other _ _ _ _ (show (⟨g, o + 3, none⟩ : Addr) ≠ ⟨g, o, none⟩ from n 3 0 (by omega)), World.cell?_setCell_other _ _ _ _ (show (⟨g, o + 2, none⟩ : Addr) ≠ ⟨g, o, none⟩ from n 2 0 (by omega)), World.cell?_setCell_other _ _ _ _ (show (⟨g, o + 1, none⟩ : Addr) ≠ ⟨g, o, none⟩ from n 1 0 (by omega))]
    exact World.cell?_setCell_same _ _ _ h0
  · rw [World.cell?_setCell_other _ _ _ _ (n 3 1 (by omega)), World.cell?_setCell_other _ _ _ _ (n 2 1 (by omega))]
    exact World.cell?_setCell_same _ _ _ (by rw [World.cell?_setCell_other _ _ _ _ (show (⟨g, o, none⟩ : Addr) ≠ ⟨g, o + 1, none⟩ from n 0 1 (by omega))]; exact h1)
  · rw [World.cell?_setCell_other _ _ _ _ (n 3 2 (by omega))]
    exact World.cell?_setCell_same _ _ _ (by rw [World.cell?_setCell_other _ _ _ _ (n 1 2 (by omega)), World.cell?_setCell_other _ _ _ _ (show (⟨g, o, none⟩ : Addr) ≠ ⟨g, o + 2, none⟩ from n 0 2 (by omega))]; exact h2)
  · exact World.cell?_setCell_same _ _ _ (by rw [World.cell?_setCell_other _ _ _ _ (n 2 3 (by omega)), World.cell?_setCell_other _ _ _ _ (n 1 3 (by omega)), World.cell?_setCell_other _ _ _ _ (show (⟨g, o, none⟩ : Addr) ≠ ⟨g, o + 3, none⟩ from n 0 3 (by omega))]; exact h3)
theorem put4_below {B : Nat} {a w : World} (h : Below B a w) {g o : Nat} (hg : B ≤ g) (x : List UInt8 × Int × Int × List UInt8) : Below B a (put4 w g o x) :=
  (((h.setCell (p := ⟨g, o, none⟩) hg _).setCell (p := ⟨g, o + 1, none⟩) hg _).setCell (p := ⟨g, o + 2, none⟩) hg _).setCell (p := ⟨g, o + 3, none⟩) hg _
theorem QRow.set {w : World} {g : Nat} {L : List (List UInt8 × Int × Int × List UInt8)} (h : QRow w g L) (k : Nat) (hk : k < L.length) (x : List UInt8 × Int × Int × List UInt8) : QRow (put4 w g (k * 4) x) g (L.set k x) := by
  refine ⟨by rw [put4_size]; exact h.1, fun j hj => ?_⟩
  have hj' : j < L.length := by simpa using hj
  refine ⟨?_, ?_⟩
  · rw [List.getElem_set]
    split
    · rename_i e; subst e; exact put4_at (h.2 k hk).1
    · rename_i e
      have h0 := (h.2 j hj').1
      unfold RecAt at h0 ⊢
      rw [put4_other (.inr (by omega)), put4_other (.inr (by omega)), put4_other (.inr (by omega)), put4_other (.inr (by omega))]
      exact h0
  · have h0 := (h.2 j hj').2
    unfold FzAt at h0 ⊢
    rw [put4_frozen, put4_frozen, put4_frozen, put4_frozen]; exact h0
/-- What has been copied behind k rounds. -/
def partR (L : List (List UInt8 × Int × Int × List UInt8)) (k : Nat) : List (List UInt8 × Int × Int × List UInt8) := L.take k ++ List.replicate (L.length - k) ([], 0, 0, [])
theorem partR_length (L : List (List UInt8 × Int × Int × List UInt8)) (k : Nat) (h : k ≤ L.length) : (partR L k).length = L.length := by simp [partR]; omega
theorem partR_next (L : List (List UInt8 × Int × Int × List UInt8)) (k : Nat) (h : k < L.length) : partR L (k + 1) = (partR L k).set k L[k] := by
  unfold partR
  have hm : (L.take k).length = k := by simp; omega
  rw [List.take_succ_eq_append_getElem h, List.set_append_right _ _ (by omega), hm, Nat.sub_self]
  obtain ⟨m, hm2⟩ : ∃ m, L.length - k = m + 1 := ⟨L.length - k - 1, by omega⟩
  rw [hm2, show L.length - (k + 1) = m by omega, List.replicate_succ]
  simp only [List.set_cons_zero, List.append_assoc, List.singleton_append]
theorem partR_end (L : List (List UInt8 × Int × Int × List UInt8)) : partR L L.length = L := by simp [partR]

theorem info_rec : (Tryz.prog.info? 108).map (fun i => (i.zero, i.size, i.bytes)) = some (some (.agg #[.string ByteArray.empty, .int .i64 0, .int .i64 0, .string ByteArray.empty]), 4, 48) := by kernel_rfl
theorem made_at {n k r : Nat} {a b c d : Value} (hk : k < n) (hr : r < 4) : (madeCells #[a, b, c, d] (n * 4)).toList[k * 4 + r]? = [a, b, c, d][r]? := by
  unfold madeCells
  have h1 : k * 4 + r < n * 4 := by omega
  simp only [Array.toList_map, Array.toList_range, List.getElem?_map, List.getElem?_range h1, Option.map_some]
  rw [show (#[a, b, c, d] : Array Value).size = 4 from rfl, show (k * 4 + r) % 4 = r by omega]
  match r, hr with
  | 0, _ => rfl
  | 1, _ => rfl
  | 2, _ => rfl
  | 3, _ => rfl
theorem made_qrow {w w1 : World} {L : List (List UInt8 × Int × Int × List UInt8)} (hg : w.heap.size < w1.heap.size) (h : w1.ownsRow w.heap.size 108 4 (.slice (some ⟨w.heap.size, 0, none⟩) L.length L.length) L.length (madeCells #[.string ByteArray.empty, .int .i64 0, .int .i64 0, .string ByteArray.empty] (L.length * 4)).toList) : QRow w1 w.heap.size (partR L 0) := by
  have hp : partR L 0 = List.replicate L.length ([], 0, 0, []) := by simp [partR]
  refine ⟨hg, fun j hj => ⟨?_, h.frozenAt _, h.frozenAt _, h.frozenAt _, h.frozenAt _⟩⟩
  have hj' : j < L.length := by rw [hp] at hj; simpa using hj
  have hx : (partR L 0)[j] = ([], 0, 0, []) := by simp only [hp]; exact List.getElem_replicate _
  rw [hx]
  unfold RecAt
  refine ⟨?_, ?_, ?_, ?_⟩
  · rw [h.cellAt (j * 4) (by omega), show j * 4 = j * 4 + 0 from rfl, made_at hj' (by omega)]; rfl
  · rw [h.cellAt (j * 4 + 1) (by omega), made_at hj' (by omega)]; rfl
  · rw [h.cellAt (j * 4 + 2) (by omega), made_at hj' (by omega)]; rfl
  · rw [h.cellAt (j * 4 + 3) (by omega), made_at hj' (by omega)]; rfl

set_option maxRecDepth 20000 in
set_option maxHeartbeats 1000000 in
theorem toRecordS_any (v : Value) (L : List (List UInt8 × Int × Int × List UInt8)) (w : World) (hr : RRow w v L) (hl : L.length ≤ 1048576) :
    Calls Tryz.prog 82 #[v] w fun e w' => e = .returned (.slice (some ⟨w.heap.size, 0, none⟩) L.length L.length) ∧ QRow w' w.heap.size L ∧ Below w.heap.size w w' := by
  obtain ⟨i0, hi, hz0, hz1, hz2⟩ := info_parts info_rec
  obtain ⟨a, cap, rfl, hcap, hmax, hrow⟩ := hr
  have HROW : Hid (L = [] ∨ ∃ b o, a = some ⟨b, o, none⟩ ∧ b < w.heap.size ∧ ∀ j, (hj : j < L.length) → RecAt w b (o + j * 4) L[j]) := hrow
  have HTO : Hid (∀ (x : List UInt8 × Int × Int × List UInt8) W, Calls Tryz.prog 120 #[.agg #[.string ⟨x.1.toArray⟩, .int .i64 x.2.1, .int .i64 x.2.2.1, .string ⟨x.2.2.2.toArray⟩]] W fun e w' => e = .returned (.agg #[.string ⟨x.1.toArray⟩, .int .i64 x.2.1, .int .i64 x.2.2.1, .string ⟨x.2.2.2.toArray⟩]) ∧ Below W.heap.size W w') := fun x W => toRecord_any ⟨x.1.toArray⟩ ⟨x.2.2.2.toArray⟩ x.2.1 x.2.2.1 W
  unfold maxLen at hmax
  clear hrow
  go_enter Tryz.func82, Tryz.ntmps82
  go_wp2_with (at_make; refine wpList_make_full _ rfl _ _ 30 rfl w.heap.size 108 i0 (.agg #[.string ByteArray.empty, .int .i64 0, .int .i64 0, .string ByteArray.empty]) 4 Tryz.underlying30 hi hz0 hz1 _ _ _ _ L.length rfl rfl rfl rfl ?b2 ?b3 ?b4 ?_)
  case b2 => rw [hz2]; omega
  case b3 => unfold maxLen; omega
  case b4 => exact Nat.le_refl _
  intro w1 hown hgrow
  have hb1 : Below w.heap.size w w1 := (Below.refl _ _).grown hgrow (Nat.le_refl _) (fun k h => by cases h)
  have hlt1 : w.heap.size < w1.heap.size := (hown.lt w.heap.size rfl).2
  have HS1 : Hid (QRow w1 w.heap.size (partR L 0)) := made_qrow hlt1 hown
  clear hown hgrow hlt1
  go_wp2_with fail
  go_loopw [4] (fun i wr => ∃ k : Nat, k ≤ L.length ∧ i = .int .i64 (k : Int) ∧ Hid (QRow wr w.heap.size (partR L k)) ∧ Below w.heap.size w wr) (fun i _ => L.length - (intOf i).toNat)
  case atStart => exact ⟨0, Nat.zero_le _, rfl, HS1, hb1⟩
  case round =>
    obtain ⟨k, hk, rfl, HR, hb⟩ := hrel
    clear HS1 hb1
    by_cases hlt : k < L.length
    · rcases HROW.out with hr | ⟨b, o, ha, hbl, hcel⟩
      · rw [hr] at hlt; simp at hlt
      · rw [ha]
        have hcx := hcel k hlt
        unfold RecAt at hcx
        rw [← hb.cell (p := ⟨b, o + k * 4, none⟩) hbl, ← hb.cell (p := ⟨b, o + k * 4 + 1, none⟩) hbl, ← hb.cell (p := ⟨b, o + k * 4 + 2, none⟩) hbl, ← hb.cell (p := ⟨b, o + k * 4 + 3, none⟩) hbl] at hcx
        obtain ⟨c0, c1, c2, c3⟩ := hcx
        have HN : Hid (partR L (k + 1) = (partR L k).set k (L[k]'hlt)) := partR_next L k hlt
        have hlp : k < (partR L k).length := by rw [partR_length L k hk]; exact hlt
        obtain ⟨x, hxe⟩ : ∃ x, x = L[k]'hlt := ⟨_, rfl⟩
        rw [← hxe] at c0 c1 c2 c3 HN
        have HST : Hid (∀ W, Below wr.heap.size wr W → QRow W w.heap.size (partR L k) ∧ QRow (put4 W w.heap.size (k * 4) x) w.heap.size (partR L (k + 1))) := fun W hW => by
          have h1 := HR.out.kept hW
          exact ⟨h1, by rw [HN.out]; exact h1.set k hlp x⟩
        have HLP : Hid (k < (partR L k).length) := hlp
        clear hcel hxe hlp
        go_wp2_with fail
        refine (HTO.out x _).mono ?_
        rintro e w2 ⟨rfl, hb2⟩
        have hst := HST.out w2 hb2
        obtain ⟨⟨m0, m1, m2, m3⟩, ⟨f0, f1, f2, f3⟩⟩ := hst.1.2 k HLP.out
        have HQ : Hid (QRow (put4 w2 w.heap.size (k * 4) x) w.heap.size (partR L (k + 1))) := hst.2
        have hb3 : Below w.heap.size w (put4 w2 w.heap.size (k * 4) x) := put4_below (hb.trans (hb2.mono hb.size)) (Nat.le_refl _) x
        unfold put4 at HQ hb3
        obtain ⟨y, hy⟩ : ∃ y, y = (partR L k)[k]'HLP.out := ⟨_, rfl⟩
        rw [← hy] at m0 m1 m2 m3
        clear hst hb2 hy c0 c1 c2 c3
        go_wp2_with fail
        go_roundw
        case rel => exact ⟨k + 1, by omega, by go_num, HQ, hb3⟩
        case measure => simp [intOf]; omega
    · have hfull : partR L k = L := by rw [show k = L.length by omega]; exact partR_end L
      rw [hfull] at HR
      have HRR : Hid (QRow wr w.heap.size L) := HR
      clear hfull HR
      go_wp2_with fail
      go_ret
      exact ⟨rfl, HRR.out, hb⟩
end Go.Proofs.YtoobaaklklommaaGreatDoor

namespace Go.Proofs.YtoobaaklklommaaGreatDoor
open Go.RowKit

/-- All of a list are good records. -/
def aresB (L : List (List UInt8 × Int × Int × List UInt8)) : Bool := L.all (fun x => recB x.1 x.2.1 x.2.2.1 x.2.2.2)
theorem aresB_bad {L : List (List UInt8 × Int × Int × List UInt8)} (k : Nat) (hk : k < L.length) (h : recB L[k].1 L[k].2.1 L[k].2.2.1 L[k].2.2.2 = false) : aresB L = false := by
  unfold aresB; rw [List.all_eq_false]; exact ⟨_, List.getElem_mem hk, by simpa using h⟩
theorem aresB_all {L : List (List UInt8 × Int × Int × List UInt8)} (h : ∀ j, (hj : j < L.length) → recB L[j].1 L[j].2.1 L[j].2.2.1 L[j].2.2.2 = true) : aresB L = true := by
  unfold aresB; rw [List.all_eq_true]; intro x hx
  obtain ⟨j, hj, rfl⟩ := List.getElem_of_mem hx
  exact h j hj

set_option maxRecDepth 20000 in
set_option maxHeartbeats 1000000 in
theorem areRecords_any (v : Value) (L : List (List UInt8 × Int × Int × List UInt8)) (w : World) (hr : RRow w v L) (hx : Hid (∀ x ∈ L, x.1.length ≤ 1048576 ∧ x.2.2.2.length ≤ 1048576)) (hE : EnvR w) :
    Calls Tryz.prog 156 #[v] w fun e w' => e = .returned (.bool (aresB L)) ∧ Below w.heap.size w w' := by
  obtain ⟨a, cap, rfl, hcap, hmax, hrow⟩ := hr
  have HROW : Hid (L = [] ∨ ∃ b o, a = some ⟨b, o, none⟩ ∧ b < w.heap.size ∧ ∀ j, (hj : j < L.length) → RecAt w b (o + j * 4) L[j]) := hrow
  have HGR : Hid (∀ (x : List UInt8 × Int × Int × List UInt8) W, EnvR W → x.2.2.2.length ≤ 1048576 → Calls Tryz.prog 145 #[.agg #[.string ⟨x.1.toArray⟩, .int .i64 x.2.1, .int .i64 x.2.2.1, .string ⟨x.2.2.2.toArray⟩]] W fun e w' => e = .returned (.bool (recB x.1 x.2.1 x.2.2.1 x.2.2.2)) ∧ Below W.heap.size W w') := fun x W g1 g2 =>
    iGoodRecord_any ⟨x.1.toArray⟩ ⟨x.2.2.2.toArray⟩ x.2.1 x.2.2.1 W (by rw [size_list]; exact g2) g1
  unfold maxLen at hmax
  clear hrow
  go_enter Tryz.func156, Tryz.ntmps156
  go_wp2_with fail
  go_loopw [7] (fun i wr => ∃ k : Nat, k ≤ L.length ∧ i = .int .i64 (k : Int) ∧ Hid (∀ j, (hj : j < L.length) → j < k → recB L[j].1 L[j].2.1 L[j].2.2.1 L[j].2.2.2 = true) ∧ Below w.heap.size w wr) (fun i _ => L.length - (intOf i).toNat)
  case atStart => exact ⟨0, Nat.zero_le _, rfl, fun j _ h => absurd h (Nat.not_lt_zero _), Below.refl _ _⟩
  case round =>
    obtain ⟨k, hk, rfl, HA, hb⟩ := hrel
    by_cases hlt : k < L.length
    · rcases HROW.out with hr | ⟨b, o, ha, hbl, hcel⟩
      · rw [hr] at hlt; simp at hlt
      · rw [ha]
        have hcx := (hcel k hlt).kept hb
        unfold RecAt at hcx
        obtain ⟨c0, c1, c2, c3⟩ := hcx
        have hxl := hx.out _ (List.getElem_mem hlt)
        have HBAD : Hid (recB (L[k]'hlt).1 (L[k]'hlt).2.1 (L[k]'hlt).2.2.1 (L[k]'hlt).2.2.2 = false → aresB L = false) := aresB_bad k hlt
        have HOK : Hid (recB (L[k]'hlt).1 (L[k]'hlt).2.1 (L[k]'hlt).2.2.1 (L[k]'hlt).2.2.2 = true → ∀ j, (hj : j < L.length) → j < k + 1 → recB L[j].1 L[j].2.1 L[j].2.2.1 L[j].2.2.2 = true) := fun h j hj h1 => by
          rcases Nat.lt_or_ge j k with h' | h'
          · exact HA.out j hj h'
          · obtain rfl : j = k := by omega
            exact h
        obtain ⟨x, hxe⟩ : ∃ x, x = L[k]'hlt := ⟨_, rfl⟩
        rw [← hxe] at c0 c1 c2 c3 hxl HBAD HOK
        have HCC := HGR.out x
        have HC : Hid (∀ W, Below wr.heap.size wr W → Calls Tryz.prog 145 #[.agg #[.string ⟨x.1.toArray⟩, .int .i64 x.2.1, .int .i64 x.2.2.1, .string ⟨x.2.2.2.toArray⟩]] W fun e w' => e = .returned (.bool (recB x.1 x.2.1 x.2.2.1 x.2.2.2)) ∧ Below W.heap.size W w') := fun W hW => HCC W (hE.below (hb.trans (hW.mono hb.size))) hxl.2
        clear hcel hxe HCC
        cases hR : recB x.1 x.2.1 x.2.2.1 x.2.2.2 with
        | false =>
          have HR : Hid (aresB L = false) := HBAD.out hR
          rw [hR] at HC
          clear hR HBAD HOK
          go_wp2_with fail
          refine (HC.out _ ((Below.refl _ _).alloc (Nat.le_refl _) _)).mono ?_
          rintro e w2 ⟨rfl, hb2⟩
          go_wp2_with fail
          go_ret
          exact ⟨ret_bool HR.out.symm, hb.trans ((box4 hb2).2.2.2.2.mono hb.size)⟩
        | true =>
          have HR : Hid (∀ j, (hj : j < L.length) → j < k + 1 → recB L[j].1 L[j].2.1 L[j].2.2.1 L[j].2.2.2 = true) := HOK.out hR
          rw [hR] at HC
          clear hR HBAD HOK
          go_wp2_with fail
          refine (HC.out _ ((Below.refl _ _).alloc (Nat.le_refl _) _)).mono ?_
          rintro e w2 ⟨rfl, hb2⟩
          go_wp2_with fail
          go_roundw
          case rel => exact ⟨k + 1, by omega, by go_num, HR, hb.trans ((box4 hb2).2.2.2.2.mono hb.size)⟩
          case measure => simp [intOf]; omega
    · have HR : Hid (aresB L = true) := aresB_all (fun j hj => HA.out j hj (by omega))
      go_wp2_with fail
      go_ret
      exact ⟨ret_bool HR.out.symm, hb⟩

end Go.Proofs.YtoobaaklklommaaGreatDoor

namespace Go.Proofs.YtoobaaklklommaaGreatDoor
open Go.RowKit

/-! Work that gives up by panic, and what catches it (chapter 16). -/
/-- What work panics with that gives up. -/
def RfV : Value := .iface 134 (.agg #[])
/-- The panic of work that gave up, as a chain. -/
def RfC : List PanicEntry := [{ v := RfV, recovered := false }]

theorem insist_yes (w : World) : Calls Tryz.prog 57 #[.bool true] w fun e w' => e = .returned (.tuple #[]) ∧ w' = w := by
  go_enter Tryz.func57, Tryz.ntmps57
  go_wp2
  first | go_end0 | refine bodyPost_ret (results_none rfl _ _ _) rfl ?_
  exact ⟨rfl, rfl⟩
theorem insist_no (w : World) : Calls Tryz.prog 57 #[.bool false] w fun e w' => e = .panicked RfC ∧ w' = w := by
  have hp : ∀ (v : Value) (w : World), Sem.run Tryz.prog (Instr.panic (.iface 134 v)) w = .halt (.panic (.iface 134 v)) w := fun _ _ => rfl
  go_enter Tryz.func57, Tryz.ntmps57
  go_wp2
  exact ⟨rfl, rfl, rfl⟩
theorem catch_refused (w : World) : CallsD Tryz.prog 93 #[] (.panicking RfC) w fun e u' w' => e = .returned (.tuple #[]) ∧ u' = .panicking [{ v := RfV, recovered := true }] ∧ w' = w := by
  have h1 : ∀ w : World, (binOp .neq 20 (.iface 134 (.agg #[])) .nilIface).run Tryz.prog w = .ok (.bool true) w := fun _ => by kernel_rfl
  have h2 : ∀ w : World, (binOp .neq 20 (.iface 134 (.agg #[])) (.iface 134 (.agg #[]))).run Tryz.prog w = .ok (.bool false) w := fun _ => by kernel_rfl
  refine callsD_of_wpS Tryz.func93 rfl fun c₀ cs hu => ?_
  apply wpS_seq
  apply wpS_region
  simp [wpOpsS, go_sem, recoverD, hu, Tryz.ntmps93, Exit.thenS, RfC]
  refine wpS_of_wp ?_
  show Code.wp _ _ _ { tmps := #[.iface 134 (.agg #[]), .iface 134 (.agg #[]), undef, undef, undef, undef, undef, undef, undef, undef, undef], defers := [] } _
  go_wp2
  exact ⟨rfl, _, rfl, _, results_none rfl _ _ _, rfl, rfl, rfl⟩
theorem catch_idle (w : World) : CallsD Tryz.prog 93 #[] .returning w fun e u' w' => e = .returned (.tuple #[]) ∧ u' = .returning ∧ w' = w := by
  have h1 : ∀ w : World, (binOp .neq 20 .nilIface .nilIface).run Tryz.prog w = .ok (.bool false) w := fun _ => by kernel_rfl
  refine callsD_of_wpS Tryz.func93 rfl fun c₀ cs hu => ?_
  apply wpS_seq
  apply wpS_region
  simp [wpOpsS, go_sem, recoverD, hu, Tryz.ntmps93, Exit.thenS]
  refine wpS_of_wp ?_
  show Code.wp _ _ _ { tmps := #[.nilIface, .nilIface, undef, undef, undef, undef, undef, undef, undef, undef, undef], defers := [] } _
  go_wp2
  exact ⟨rfl, .returning, by rw [← hu], _, results_none rfl _ _ _, rfl, rfl, rfl⟩
set_option maxRecDepth 100000 in
theorem comes_yes (K : Nat) (cap : Array Value) (w : World) (Q : World → Prop) (hen : ∀ w : World, (callFunc K cap).run Tryz.prog w = .ok (.enter K cap) w) (h : Calls Tryz.prog K cap w fun e w' => e = .returned (.tuple #[]) ∧ Q w') :
    Calls Tryz.prog 55 #[.func (.func K) #[] cap] w fun e w' => e = .returned (.bool true) ∧ Q w' := by
  have H : Hid (Calls Tryz.prog K cap w fun e w' => e = .returned (.tuple #[]) ∧ Q w') := h
  clear h
  go_enter_defers Tryz.func55, Tryz.ntmps55
  go_wp2_with fail
  refine H.out.mono ?_
  rintro e w1 ⟨rfl, hq⟩
  have HQ : Hid (Q w1) := hq
  clear hq hen H
  go_wp2_with fail
  refine leaves_cons (f := 93) (args := #[]) (by simp) (by simp [go_sem]) ?_
  refine (catch_idle _).mono ?_
  rintro e u' w'' ⟨rfl, rfl, rfl⟩
  exact ⟨_, results_tmp rfl _ _ _, rfl, HQ.out⟩
set_option maxRecDepth 100000 in
theorem comes_no (K : Nat) (cap : Array Value) (w : World) (Q : World → Prop) (hen : ∀ w : World, (callFunc K cap).run Tryz.prog w = .ok (.enter K cap) w) (h : Calls Tryz.prog K cap w fun e w' => e = .panicked RfC ∧ Q w') :
    Calls Tryz.prog 55 #[.func (.func K) #[] cap] w fun e w' => e = .returned (.bool false) ∧ Q w' := by
  have H : Hid (Calls Tryz.prog K cap w fun e w' => e = .panicked RfC ∧ Q w') := h
  clear h
  go_enter_defers Tryz.func55, Tryz.ntmps55
  go_wp2_with fail
  refine H.out.mono ?_
  rintro e w1 ⟨rfl, hq⟩
  refine leaves_cons (f := 93) (args := #[]) (by simp) (by simp [go_sem]) ?_
  refine (catch_refused _).mono ?_
  rintro e u' w'' ⟨rfl, rfl, rfl⟩
  exact ⟨_, results_tmp rfl _ _ _, rfl, hq⟩
/-- A function with a body is entered. -/
theorem enters {f : FuncId} {fn : Func} (hf : Tryz.prog.funcs[f]? = some fn) (hn : (fn.name == "runtime.NumGoroutine") = false) (hb : fn.body.isNone = false) (args : Array Value) (w : World) : (callFunc f args).run Tryz.prog w = .ok (.enter f args) w := by
  have h1 : fn.name ≠ "runtime.NumGoroutine" := by simpa using hn
  have h2 : fn.body ≠ none := by intro e; rw [e] at hb; cases hb
  unfold callFunc
  simp [go_sem, hf, h1, h2]
end Go.Proofs.YtoobaaklklommaaGreatDoor
