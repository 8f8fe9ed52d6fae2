import Derived.Test.YtoopfmebpjojiaaDoorPlain
namespace Go.Proofs.YtoopfmebpjojiaaDoor
open Go.RowKit

/-- Texts as they lie in a block of the call's own. -/
def SRow (w : World) (g : Nat) (P : List (List UInt8)) : Prop := g < w.heap.size ∧ ∀ j, (hj : j < P.length) → w.cell? ⟨g, j, none⟩ = some (S P[j]) ∧ w.frozen? ⟨g, j, none⟩ = false
theorem SRow.kept {w w' : World} {g : Nat} {P : List (List UInt8)} (h : SRow w g P) (hb : Below w.heap.size w w') : SRow w' g P :=
  ⟨Nat.lt_of_lt_of_le h.1 hb.size, fun j hj => by rw [hb.cell (p := ⟨g, j, none⟩) h.1, hb.frozen (p := ⟨g, j, none⟩) h.1]; exact h.2 j hj⟩
theorem SRow.set {w : World} {g : Nat} {P : List (List UInt8)} (h : SRow w g P) (k : Nat) (hk : k < P.length) (c : List UInt8) : SRow (w.setCell ⟨g, k, none⟩ (.string ⟨c.toArray⟩)) g (P.set k c) := by
  refine ⟨by simpa using h.1, fun j hj => ?_⟩
  have hj' : j < P.length := by simpa using hj
  refine ⟨?_, by simpa using (h.2 j hj').2⟩
  rw [List.getElem_set]
  split
  · rename_i e; subst e; exact World.cell?_setCell_same _ _ _ (h.2 k hk).1
  · rename_i e
    rw [World.cell?_setCell_other _ _ _ _ (show (⟨g, k, none⟩ : Addr) ≠ ⟨g, j, none⟩ by intro h; cases h; exact e rfl)]
    exact (h.2 j hj').1
theorem SRow.far {w : World} {g g' k : Nat} {P : List (List UInt8)} (h : SRow w g P) (hne : g' ≠ g) (u : Value) : SRow (w.setCell ⟨g', k, none⟩ u) g P := by
  refine ⟨by simpa using h.1, fun j hj => ⟨?_, by simpa using (h.2 j hj).2⟩⟩
  rw [World.cell?_setCell_other _ _ _ _ (show (⟨g', k, none⟩ : Addr) ≠ ⟨g, j, none⟩ by intro h; cases h; exact hne rfl)]
  exact (h.2 j hj).1
theorem SRow.row {w : World} {g cap : Nat} {P : List (List UInt8)} (h : SRow w g P) (hc : P.length ≤ cap) (hm : cap ≤ maxLen) : Row w (.slice (some ⟨g, 0, none⟩) P.length cap) P :=
  ⟨_, cap, rfl, hc, hm, .inr ⟨g, 0, rfl, h.1, fun j hj => by rw [Nat.zero_add]; exact (h.2 j hj).1⟩⟩
theorem srow_own {w : World} {base g cap n : Nat} {P : List (List UInt8)} (h : w.ownsRow base 9 1 (.slice (some ⟨g, 0, none⟩) n cap) n (P.map S)) (hn : n = P.length) : SRow w g P := by
  subst hn
  refine ⟨(h.lt g rfl).2, fun j hj => ⟨?_, h.frozenAt j⟩⟩
  rw [h.cellAt j (by omega), List.getElem?_map, List.getElem?_eq_getElem hj]; rfl

set_option maxRecDepth 20000 in
set_option maxHeartbeats 1000000 in
theorem szStringS_any (v : Value) (P : List (List UInt8)) (w : World) (hr : Row w v P) (hl : Hid (∀ p ∈ P, p.length ≤ maxLen)) :
    Calls Tryd.prog 10 #[v, .int .i64 1048576] w fun e w' => ∃ r : Int, e = .returned (.int .i64 r) ∧ (0 ≤ r → P.length + tot P ≤ 1048576) ∧ w' = w := by
  obtain ⟨a, cap, rfl, hcap, hmax, HROW⟩ := row_value hr
  clear hr
  by_cases h0 : (1048576 : Int) - (P.length : Int) < 0
  · go_enter Tryd.func10, Tryd.ntmps10
    go_wp2_with fail
    go_ret
    refine ⟨_, rfl, ?_, rfl⟩
    intro h; exact absurd h (by decide)
  · go_enter Tryd.func10, Tryd.ntmps10
    go_wp2_with fail
    go_loop [1, 5] (fun l i => ∃ (k : Nat) (x : Int), k ≤ P.length ∧ i = .int .i64 k ∧ l = .int .i64 x ∧ 0 ≤ x ∧ x ≤ 1048576 ∧ Hid (x = 1048576 - P.length - tot (P.take k))) (fun _ i => P.length - (intOf i).toNat)
    case atStart => exact ⟨0, _, Nat.zero_le _, rfl, rfl, by omega, by omega, by show _ = _; simp [tot]⟩
    case round =>
      obtain ⟨k, x, hk, rfl, rfl, hx0, hx1, HX⟩ := hrel
      by_cases hlt : k < P.length
      · obtain ⟨b, o, ha, hbl, hc⟩ := HROW.out (by omega)
        rw [ha]
        have hcx := hc k hlt
        have hpl := hl.out (P[k]'hlt) (List.getElem_mem _)
        have HT := tot_snoc P k hlt
        obtain ⟨y, hy⟩ : ∃ y, y = P[k]'hlt := ⟨_, rfl⟩
        rw [← hy] at hcx hpl HT
        have HTT : Hid (tot (P.take (k + 1)) = tot (P.take k) + y.length) := HT
        unfold S at hcx
        unfold maxLen at hpl
        clear hc hy HT
        by_cases hneg : x - (y.length : Int) < 0
        · go_wp2_with fail
          go_ret
          refine ⟨_, rfl, ?_, rfl⟩
          intro h; exact absurd h (by decide)
        · go_wp2_with fail
          go_round
          case rel => exact ⟨k + 1, x - y.length, by omega, by go_num, by go_num, by omega, by omega, by show _ = _; rw [HTT.out, HX.out]; omega⟩
          case measure => simp [intOf]; omega
      · have HF := tot_full P k hlt
        have HFF : Hid (tot (P.take k) = tot P) := HF
        clear HF
        go_wp2_with fail
        go_ret
        refine ⟨_, rfl, ?_, rfl⟩
        intro h
        have h1 := HX.out
        have h2 := HFF.out
        omega
end Go.Proofs.YtoopfmebpjojiaaDoor
