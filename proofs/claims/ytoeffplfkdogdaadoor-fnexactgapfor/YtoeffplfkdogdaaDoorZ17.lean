import Derived.Test.YtoeffplfkdogdaaDoorZ13
import Derived.Test.YtoeffplfkdogdaaDoorZ15
import Derived.Test.YtoeffplfkdogdaaDoorZ16
namespace Go.Proofs.YtoeffplfkdogdaaDoor
open Go.RowKit

/-- The three cells of a gap at a place of a block. -/
def GapAt (w : World) (b o : Nat) (x : List UInt8 × List UInt8 × List Int) (v : Value) : Prop :=
  w.cell? ⟨b, o, none⟩ = some (.string ⟨x.1.toArray⟩) ∧ w.cell? ⟨b, o + 1, none⟩ = some (.string ⟨x.2.1.toArray⟩) ∧ w.cell? ⟨b, o + 2, none⟩ = some v ∧ ZRow .i64 w v x.2.2
/-- A list of gaps as it lies in memory. -/
def GRow (w : World) (v : Value) (L : List (List UInt8 × List UInt8 × List Int)) : Prop :=
  ∃ a cap, v = .slice a L.length cap ∧ L.length ≤ cap ∧ cap ≤ maxLen ∧ (L = [] ∨ ∃ b o, a = some ⟨b, o, none⟩ ∧ b < w.heap.size ∧ ∀ j, (hj : j < L.length) → ∃ va, GapAt w b (o + j * 3) L[j] va)
theorem GapAt.kept {w w' : World} {b o : Nat} {x : List UInt8 × List UInt8 × List Int} {v : Value} (h : GapAt w b o x v) (hb : Below w.heap.size w w') : GapAt w' b o x v := by
  have hlt := World.block_lt_of_cell? _ _ h.1
  unfold GapAt
  rw [hb.cell (p := ⟨b, o, none⟩) hlt, hb.cell (p := ⟨b, o + 1, none⟩) hlt, hb.cell (p := ⟨b, o + 2, none⟩) hlt]
  exact ⟨h.1, h.2.1, h.2.2.1, h.2.2.2.kept hb⟩
theorem GRow.kept {w w' : World} {v : Value} {L : List (List UInt8 × List UInt8 × List Int)} (h : GRow w v L) (hb : Below w.heap.size w w') : GRow w' v L := by
  obtain ⟨a, cap, rfl, h1, h2, h3⟩ := h
  refine ⟨a, cap, rfl, h1, h2, ?_⟩
  rcases h3 with h3 | ⟨b, o, rfl, hb1, hc⟩
  · exact .inl h3
  · exact .inr ⟨b, o, rfl, Nat.lt_of_lt_of_le hb1 hb.size, fun j hj => by obtain ⟨va, h⟩ := hc j hj; exact ⟨va, h.kept hb⟩⟩
theorem grow_value {w : World} {v : Value} {L : List (List UInt8 × List UInt8 × List Int)} (h : GRow w v L) : ∃ a cap, v = .slice a L.length cap ∧ L.length ≤ cap ∧ cap ≤ 9223372036854775807 ∧ Hid (0 < L.length → ∃ b o, a = some ⟨b, o, none⟩ ∧ b < w.heap.size ∧ ∀ j, (hj : j < L.length) → ∃ va, GapAt w b (o + j * 3) L[j] va) := by
  obtain ⟨a, cap, rfl, h1, h2, h3⟩ := h
  unfold maxLen at h2
  refine ⟨a, cap, rfl, h1, by omega, fun hp => ?_⟩
  rcases h3 with rfl | h3
  · simp at hp
  · exact h3
/-- How much a list of gaps weighs. -/
def wtG (L : List (List UInt8 × List UInt8 × List Int)) : Nat := (L.map (fun x => x.1.length + x.2.1.length + x.2.2.length)).sum
theorem wtG_snoc (L : List (List UInt8 × List UInt8 × List Int)) (k : Nat) (h : k < L.length) : wtG (L.take (k + 1)) = wtG (L.take k) + (L[k].1.length + L[k].2.1.length + L[k].2.2.length) := by
  unfold wtG; rw [List.take_succ_eq_append_getElem h, List.map_append, List.sum_append]; simp only [List.map_cons, List.map_nil, List.sum_cons, List.sum_nil, Nat.add_zero]
theorem wtG_le (L : List (List UInt8 × List UInt8 × List Int)) (k : Nat) : wtG (L.take k) ≤ wtG L := by
  have h : wtG L = wtG (L.take k) + wtG (L.drop k) := by unfold wtG; rw [← List.sum_append, ← List.map_append, List.take_append_drop]
  omega
theorem wtG_one {L : List (List UInt8 × List UInt8 × List Int)} {x : List UInt8 × List UInt8 × List Int} (h : x ∈ L) : x.1.length + x.2.1.length + x.2.2.length ≤ wtG L := by
  obtain ⟨k, hk, rfl⟩ := List.getElem_of_mem h
  have h1 := wtG_snoc L k hk
  have h2 := wtG_le L (k + 1)
  omega

set_option maxRecDepth 20000 in
set_option maxHeartbeats 1000000 in
theorem szGapS_any (v : Value) (L : List (List UInt8 × List UInt8 × List Int)) (left : Int) (w : World) (hr : GRow w v L) (hx : Hid (∀ x ∈ L, x.1.length ≤ maxLen ∧ x.2.1.length ≤ maxLen)) (h0 : 0 ≤ left) (h1 : left ≤ 1048576) :
    Calls Tryd.prog 5 #[v, .int .i64 left] w fun e w' => (∃ q : Int, e = .returned (.int .i64 q) ∧ (q = -1 ∨ (0 ≤ q ∧ q = left - (L.length : Int) - (wtG L : Int)))) ∧ Below w.heap.size w w' := by
  obtain ⟨a, cap, rfl, hcap, hmax, HROW⟩ := grow_value hr
  have HSZ : Hid (∀ (x : List UInt8 × List UInt8 × List Int) (va : Value) (q : Int) W, x.1.length ≤ maxLen → x.2.1.length ≤ maxLen → ZRow .i64 W va x.2.2 → 0 ≤ q → q ≤ 1048576 → Calls Tryd.prog 16 #[.agg #[.string ⟨x.1.toArray⟩, .string ⟨x.2.1.toArray⟩, va], .int .i64 q] W fun e w' => (∃ q2 : Int, e = .returned (.int .i64 q2) ∧ (q2 = -1 ∨ (0 ≤ q2 ∧ q2 = q - (x.1.length : Int) - (x.2.1.length : Int) - (x.2.2.length : Int)))) ∧ Below W.heap.size W w') := fun x va q W g1 g2 g3 g4 g5 => by
    have h := szGap_any ⟨x.1.toArray⟩ ⟨x.2.1.toArray⟩ va x.2.2 q W (by rw [size_list]; exact g1) (by rw [size_list]; exact g2) g3 g4 g5
    rw [size_list, size_list] at h; exact h
  clear hr
  by_cases hneg : left - (L.length : Int) < 0
  · go_enter Tryd.func5, Tryd.ntmps5
    go_wp2_with fail
    go_ret
    exact ⟨⟨-1, rfl, .inl rfl⟩, Below.refl _ _⟩
  · have hpos : 0 ≤ left - (L.length : Int) := by omega
    clear hneg
    go_enter Tryd.func5, Tryd.ntmps5
    go_wp2_with fail
    go_loopw [1, 5] (fun q i wr => ∃ k : Nat, k ≤ L.length ∧ i = .int .i64 (k : Int) ∧ q = .int .i64 (left - (L.length : Int) - (wtG (L.take k) : Int)) ∧ 0 ≤ left - (L.length : Int) - (wtG (L.take k) : Int) ∧ Below w.heap.size w wr) (fun _ i _ => L.length - (intOf i).toNat)
    case atStart => exact ⟨0, Nat.zero_le _, rfl, by simp [wtG], by simpa [wtG] using hpos, Below.refl _ _⟩
    case round =>
      obtain ⟨k, hk, rfl, rfl, hq0, hb⟩ := hrel
      have hwl := wtG_le L k
      by_cases hlt : k < L.length
      · obtain ⟨b, o, ha, hbl, hcel⟩ := HROW.out (by omega)
        rw [ha]
        obtain ⟨va, hcx0⟩ := hcel k hlt
        have hcx := hcx0.kept hb
        unfold GapAt at hcx
        obtain ⟨c0, c1, c2, hz⟩ := hcx
        have hxl := hx.out _ (List.getElem_mem hlt)
        have HST : Hid (wtG (L.take (k + 1)) = wtG (L.take k) + ((L[k]'hlt).1.length + (L[k]'hlt).2.1.length + (L[k]'hlt).2.2.length)) := wtG_snoc L k hlt
        obtain ⟨x, hxe⟩ : ∃ x, x = L[k]'hlt := ⟨_, rfl⟩
        rw [← hxe] at c0 c1 hz hxl HST
        obtain ⟨q, hq⟩ : ∃ q : Int, q = left - (L.length : Int) - (wtG (L.take k) : Int) := ⟨_, rfl⟩
        have HQ : Hid (q = left - (L.length : Int) - (wtG (L.take k) : Int)) := hq
        rw [← hq] at hq0 ⊢
        have hq1 : q ≤ 1048576 := by omega
        have HC2 : Hid (Calls Tryd.prog 16 #[.agg #[.string ⟨x.1.toArray⟩, .string ⟨x.2.1.toArray⟩, va], .int .i64 q] wr fun e w' => (∃ q2 : Int, e = .returned (.int .i64 q2) ∧ (q2 = -1 ∨ (0 ≤ q2 ∧ q2 = q - (x.1.length : Int) - (x.2.1.length : Int) - (x.2.2.length : Int)))) ∧ Below wr.heap.size wr w') := HSZ.out x va q wr hxl.1 hxl.2 hz hq0 hq1
        obtain ⟨aa, ca, rfl, _, hca, _⟩ := hz
        clear hcel hxe hq hcx0
        go_wp2_with fail
        refine HC2.out.mono ?_
        rintro e w2 ⟨⟨q2, rfl, hq2⟩, hb2⟩
        rcases hq2 with rfl | ⟨hq20, hq2e⟩
        · go_wp2_with fail
          go_ret
          exact ⟨⟨-1, rfl, .inl rfl⟩, hb.trans (hb2.mono hb.size)⟩
        · have HQ2 : Hid (q2 = left - (L.length : Int) - (wtG (L.take (k + 1)) : Int)) := by have h1 := HQ.out; have h2 := HST.out; show q2 = _; omega
          clear hq2e HC2
          go_wp2_with fail
          go_roundw
          case rel => exact ⟨k + 1, by omega, by go_num, by rw [HQ2.out], by rw [← HQ2.out]; exact hq20, hb.trans (hb2.mono hb.size)⟩
          case measure => simp [intOf]; omega
      · have hfull : wtG (L.take k) = wtG L := by rw [List.take_of_length_le (by omega)]
        rw [hfull] at hq0 ⊢
        clear hfull hwl
        go_wp2_with fail
        go_ret
        exact ⟨⟨_, rfl, .inr ⟨hq0, rfl⟩⟩, hb⟩

set_option maxRecDepth 20000 in
set_option maxHeartbeats 1000000 in
theorem eqGapS_same (v1 v2 : Value) (L : List (List UInt8 × List UInt8 × List Int)) (w : World) (h1 : GRow w v1 L) (h2 : GRow w v2 L) :
    Calls Tryd.prog 10 #[v1, v2] w fun e w' => e = .returned (.bool true) ∧ Below w.heap.size w w' := by
  obtain ⟨a1, cap1, rfl, hc1, hm1, HR1⟩ := grow_value h1
  obtain ⟨a2, cap2, rfl, hc2, hm2, HR2⟩ := grow_value h2
  have HEQ : Hid (∀ (x : (List UInt8 × List UInt8 × List Int)) (va vb : Value) W, ZRow .i64 W va x.2.2 → ZRow .i64 W vb x.2.2 → Calls Tryd.prog 9 #[.agg #[.string ⟨x.1.toArray⟩, .string ⟨x.2.1.toArray⟩, va], .agg #[.string ⟨x.1.toArray⟩, .string ⟨x.2.1.toArray⟩, vb]] W fun e w' => e = .returned (.bool true) ∧ Below W.heap.size W w') := fun x va vb W g1 g2 => eqGap_same ⟨x.1.toArray⟩ ⟨x.2.1.toArray⟩ va vb x.2.2 W g1 g2
  have el : ((L.length : Int) != (L.length : Int)) = false := by simp
  clear h1 h2
  go_enter Tryd.func10, Tryd.ntmps10
  go_wp2_with fail
  go_loopw [5] (fun i wr => ∃ k : Nat, k ≤ L.length ∧ i = .int .i64 (k : Int) ∧ Below w.heap.size w wr) (fun i _ => L.length - (intOf i).toNat)
  case atStart => exact ⟨0, Nat.zero_le _, rfl, Below.refl _ _⟩
  case round =>
    obtain ⟨k, hk, rfl, hb⟩ := hrel
    by_cases hlt : k < L.length
    · obtain ⟨b1, o1, ha1, hbl1, hcel1⟩ := HR1.out (by omega)
      obtain ⟨b2, o2, ha2, hbl2, hcel2⟩ := HR2.out (by omega)
      rw [ha1, ha2]
      obtain ⟨va, q1⟩ := hcel1 k hlt
      obtain ⟨vb, q2⟩ := hcel2 k hlt
      obtain ⟨x, hx⟩ : ∃ x, x = L[k]'hlt := ⟨_, rfl⟩
      rw [← hx] at q1 q2
      have HC : Hid (∀ W, Below w.heap.size w W → GapAt W b1 (o1 + k * 3) x va ∧ GapAt W b2 (o2 + k * 3) x vb) := fun W hW => ⟨q1.kept hW, q2.kept hW⟩
      have HEQ2 : Hid (∀ W, Below w.heap.size w W → Calls Tryd.prog 9 #[.agg #[.string ⟨x.1.toArray⟩, .string ⟨x.2.1.toArray⟩, va], .agg #[.string ⟨x.1.toArray⟩, .string ⟨x.2.1.toArray⟩, vb]] W fun e w' => e = .returned (.bool true) ∧ Below W.heap.size W w') := fun W hW => HEQ.out x va vb W (q1.kept hW).2.2.2 (q2.kept hW).2.2.2
      have hki : (k : Int) < (L.length : Int) := by omega
      have hbd := hb.drew
      unfold GapAt at HC
      clear hcel1 hcel2 hx q1 q2 HEQ
      go_wp2_with fail
      refine wp_region_quiet (C := fun W => Below w.heap.size w W) (by kernel_rfl) (by kernel_rfl) hbd ?_
      refine wpQuiet_step (fun K hK => ?_)
      rw [if_pos (by rfl)]
      refine ⟨.slice (some ⟨b1, o1, none⟩) L.length cap1, fun W hW => quiet_ok ?_, hK _ ?_⟩
      · have f := HC.out W hW
        obtain ⟨⟨c0, c1, c2, _⟩, ⟨e0, e1, e2, _⟩⟩ := f
        go_simp
        all_goals (try omega)
      clear hK K
      simp only [Act.put, List.setIfInBounds_toArray, List.set_cons_succ, List.set_cons_zero]
      refine wpQuiet_step (fun K hK => ?_)
      rw [if_pos (by rfl)]
      refine ⟨.int .i64 (k : Int), fun W hW => quiet_ok ?_, hK _ ?_⟩
      · have f := HC.out W hW
        obtain ⟨⟨c0, c1, c2, _⟩, ⟨e0, e1, e2, _⟩⟩ := f
        go_simp
        all_goals (try omega)
      clear hK K
      simp only [Act.put, List.setIfInBounds_toArray, List.set_cons_succ, List.set_cons_zero]
      refine wpQuiet_step (fun K hK => ?_)
      rw [if_pos (by rfl)]
      refine ⟨.pointer (some ⟨b1, o1 + k * 3, none⟩), fun W hW => quiet_ok ?_, hK _ ?_⟩
      · have f := HC.out W hW
        obtain ⟨⟨c0, c1, c2, _⟩, ⟨e0, e1, e2, _⟩⟩ := f
        go_simp
        all_goals (try omega)
      clear hK K
      simp only [Act.put, List.setIfInBounds_toArray, List.set_cons_succ, List.set_cons_zero]
      refine wpQuiet_step (fun K hK => ?_)
      rw [if_pos (by rfl)]
      refine ⟨.agg #[.string ⟨x.1.toArray⟩, .string ⟨x.2.1.toArray⟩, va], fun W hW => quiet_ok ?_, hK _ ?_⟩
      · have f := HC.out W hW
        obtain ⟨⟨c0, c1, c2, _⟩, ⟨e0, e1, e2, _⟩⟩ := f
        go_simp
        all_goals (try omega)
      clear hK K
      simp only [Act.put, List.setIfInBounds_toArray, List.set_cons_succ, List.set_cons_zero]
      refine wpQuiet_step (fun K hK => ?_)
      rw [if_pos (by rfl)]
      refine ⟨.slice (some ⟨b2, o2, none⟩) L.length cap2, fun W hW => quiet_ok ?_, hK _ ?_⟩
      · have f := HC.out W hW
        obtain ⟨⟨c0, c1, c2, _⟩, ⟨e0, e1, e2, _⟩⟩ := f
        go_simp
        all_goals (try omega)
      clear hK K
      simp only [Act.put, List.setIfInBounds_toArray, List.set_cons_succ, List.set_cons_zero]
      refine wpQuiet_step (fun K hK => ?_)
      rw [if_pos (by rfl)]
      refine ⟨.int .i64 (k : Int), fun W hW => quiet_ok ?_, hK _ ?_⟩
      · have f := HC.out W hW
        obtain ⟨⟨c0, c1, c2, _⟩, ⟨e0, e1, e2, _⟩⟩ := f
        go_simp
        all_goals (try omega)
      clear hK K
      simp only [Act.put, List.setIfInBounds_toArray, List.set_cons_succ, List.set_cons_zero]
      refine wpQuiet_step (fun K hK => ?_)
      rw [if_pos (by rfl)]
      refine ⟨.pointer (some ⟨b2, o2 + k * 3, none⟩), fun W hW => quiet_ok ?_, hK _ ?_⟩
      · have f := HC.out W hW
        obtain ⟨⟨c0, c1, c2, _⟩, ⟨e0, e1, e2, _⟩⟩ := f
        go_simp
        all_goals (try omega)
      clear hK K
      simp only [Act.put, List.setIfInBounds_toArray, List.set_cons_succ, List.set_cons_zero]
      refine wpQuiet_step (fun K hK => ?_)
      rw [if_pos (by rfl)]
      refine ⟨.agg #[.string ⟨x.1.toArray⟩, .string ⟨x.2.1.toArray⟩, vb], fun W hW => quiet_ok ?_, hK _ ?_⟩
      · have f := HC.out W hW
        obtain ⟨⟨c0, c1, c2, _⟩, ⟨e0, e1, e2, _⟩⟩ := f
        go_simp
        all_goals (try omega)
      clear hK K
      simp only [Act.put, List.setIfInBounds_toArray, List.set_cons_succ, List.set_cons_zero]
      refine wpQuiet_step (fun K hK => ?_)
      rw [if_pos (by rfl)]
      refine ⟨.bool true, fun W hW => quiet_call (f := 9) (args := #[.agg #[.string ⟨x.1.toArray⟩, .string ⟨x.2.1.toArray⟩, va], .agg #[.string ⟨x.1.toArray⟩, .string ⟨x.2.1.toArray⟩, vb]]) ?_ ?_, hK _ ?_⟩
      · go_simp
      · exact (HEQ2.out W hW).mono fun e w'' h => ⟨h.1, hW.trans (h.2.mono hW.size)⟩
      clear hK K
      simp only [Act.put, List.setIfInBounds_toArray, List.set_cons_succ, List.set_cons_zero]
      refine wpQuiet_step (fun K hK => ?_)
      rw [if_pos (by rfl)]
      refine ⟨.bool false, fun W hW => quiet_ok ?_, hK _ ?_⟩
      · have f := HC.out W hW
        obtain ⟨⟨c0, c1, c2, _⟩, ⟨e0, e1, e2, _⟩⟩ := f
        go_simp
        all_goals (try omega)
      clear hK K
      simp only [Act.put, List.setIfInBounds_toArray, List.set_cons_succ, List.set_cons_zero]
      refine wpQuiet_nil ?_
      intro W hW
      go_wp2_with fail
      go_roundw
      case rel => exact ⟨k + 1, by omega, by go_num, hW⟩
      case measure => simp [intOf]; omega
    · go_wp2_with fail
      go_ret
      exact ⟨rfl, hb⟩
end Go.Proofs.YtoeffplfkdogdaaDoor

namespace Go.Proofs.YtoeffplfkdogdaaDoor
open Go.RowKit

/-- A gap in cells of the call's own, its types in a block of their own. -/
def GapIn (w : World) (g o t : Nat) (x : List UInt8 × List UInt8 × List Int) : Prop :=
  w.cell? ⟨g, o, none⟩ = some (.string ⟨x.1.toArray⟩) ∧ w.cell? ⟨g, o + 1, none⟩ = some (.string ⟨x.2.1.toArray⟩) ∧ w.cell? ⟨g, o + 2, none⟩ = some (.slice (some ⟨t, 0, none⟩) x.2.2.length x.2.2.length) ∧ ZSRow w t x.2.2
/-- Gaps in a block of the call's own: the types of each in a block of its own, behind. -/
def GOwn (w : World) (g : Nat) (T : Nat → Nat) (L : List (List UInt8 × List UInt8 × List Int)) : Prop :=
  g < w.heap.size ∧ (∀ c, c < L.length * 3 → (∃ v, w.cell? ⟨g, c, none⟩ = some v) ∧ w.frozen? ⟨g, c, none⟩ = false) ∧ (∀ j, (hj : j < L.length) → g < T j ∧ GapIn w g (j * 3) (T j) L[j]) ∧ ∀ i j, i < j → j < L.length → T i < T j
theorem GapIn.kept {w w' : World} {g o t : Nat} {x : List UInt8 × List UInt8 × List Int} (h : GapIn w g o t x) (hb : Below w.heap.size w w') : GapIn w' g o t x := by
  have hlt := World.block_lt_of_cell? _ _ h.1
  unfold GapIn
  rw [hb.cell (p := ⟨g, o, none⟩) hlt, hb.cell (p := ⟨g, o + 1, none⟩) hlt, hb.cell (p := ⟨g, o + 2, none⟩) hlt]
  exact ⟨h.1, h.2.1, h.2.2.1, h.2.2.2.kept hb⟩
theorem GapIn.at {w : World} {g o t : Nat} {x : List UInt8 × List UInt8 × List Int} (h : GapIn w g o t x) (hl : x.2.2.length ≤ 1048576) : GapAt w g o x (.slice (some ⟨t, 0, none⟩) x.2.2.length x.2.2.length) := ⟨h.1, h.2.1, h.2.2.1, h.2.2.2.row hl⟩
theorem GOwn.kept {w w' : World} {g : Nat} {T : Nat → Nat} {L : List (List UInt8 × List UInt8 × List Int)} (h : GOwn w g T L) (hb : Below w.heap.size w w') : GOwn w' g T L :=
  ⟨Nat.lt_of_lt_of_le h.1 hb.size, fun c hc => by rw [hb.cell (p := ⟨g, c, none⟩) h.1, hb.frozen (p := ⟨g, c, none⟩) h.1]; exact h.2.1 c hc, fun j hj => ⟨(h.2.2.1 j hj).1, (h.2.2.1 j hj).2.kept hb⟩, h.2.2.2⟩
theorem GOwn.row {w : World} {g cap : Nat} {T : Nat → Nat} {L : List (List UInt8 × List UInt8 × List Int)} (h : GOwn w g T L) (hx : ∀ x ∈ L, x.2.2.length ≤ 1048576) (hc : L.length ≤ cap) (hm : cap ≤ maxLen) : GRow w (.slice (some ⟨g, 0, none⟩) L.length cap) L :=
  ⟨_, cap, rfl, hc, hm, .inr ⟨g, 0, rfl, h.1, fun j hj => ⟨_, by rw [Nat.zero_add]; exact (h.2.2.1 j hj).2.at (hx _ (List.getElem_mem hj))⟩⟩⟩
/-- What has been copied behind k rounds. -/
def GPart (w : World) (g : Nat) (T : Nat → Nat) (L : List (List UInt8 × List UInt8 × List Int)) (k : Nat) : Prop :=
  g < w.heap.size ∧ (∀ c, c < L.length * 3 → (∃ v, w.cell? ⟨g, c, none⟩ = some v) ∧ w.frozen? ⟨g, c, none⟩ = false) ∧ (∀ j, (hj : j < L.length) → j < k → g < T j ∧ T j < w.heap.size ∧ GapIn w g (j * 3) (T j) L[j]) ∧ ∀ i j, i < j → j < k → T i < T j
theorem GPart.kept {w w' : World} {g k : Nat} {T : Nat → Nat} {L : List (List UInt8 × List UInt8 × List Int)} (h : GPart w g T L k) (hb : Below w.heap.size w w') : GPart w' g T L k :=
  ⟨Nat.lt_of_lt_of_le h.1 hb.size, fun c hc => by rw [hb.cell (p := ⟨g, c, none⟩) h.1, hb.frozen (p := ⟨g, c, none⟩) h.1]; exact h.2.1 c hc, fun j hj hk => ⟨(h.2.2.1 j hj hk).1, Nat.lt_of_lt_of_le (h.2.2.1 j hj hk).2.1 hb.size, (h.2.2.1 j hj hk).2.2.kept hb⟩, h.2.2.2⟩
/-- A gap stored. -/
def gputAt (w : World) (g o : Nat) (a b c : Value) : World := ((w.setCell ⟨g, o, none⟩ a).setCell ⟨g, o + 1, none⟩ b).setCell ⟨g, o + 2, none⟩ c
theorem gputAt_size (w : World) (g o : Nat) (a b c : Value) : (gputAt w g o a b c).heap.size = w.heap.size := by unfold gputAt; simp
theorem gputAt_frozen (w : World) (g o : Nat) (a b c : Value) (p : Addr) : (gputAt w g o a b c).frozen? p = w.frozen? p := by unfold gputAt; simp
theorem gputAt_other {w : World} {g o : Nat} {x y z : Value} {b c : Nat} (h : b ≠ g ∨ (c < o ∨ o + 2 < c)) : (gputAt w g o x y z).cell? ⟨b, c, none⟩ = w.cell? ⟨b, c, none⟩ := by
  have hn : ∀ k, k ≤ 2 → (⟨g, o + k, none⟩ : Addr) ≠ ⟨b, c, none⟩ := fun k hk e => by
    injection e with e1 e2
    rcases h with h | h
    · exact h e1.symm
    · omega
  unfold gputAt
  rw [World.cell?_setCell_other _ _ _ _ (hn 2 (by omega)), World.cell?_setCell_other _ _ _ _ (hn 1 (by omega)), World.cell?_setCell_other _ _ _ _ (show (⟨g, o, none⟩ : Addr) ≠ ⟨b, c, none⟩ from hn 0 (by omega))]
theorem gputAt_at {w : World} {g o : Nat} {a b c a' b' c' : Value} (h0 : w.cell? ⟨g, o, none⟩ = some a') (h1 : w.cell? ⟨g, o + 1, none⟩ = some b') (h2 : w.cell? ⟨g, o + 2, none⟩ = some c') :
    (gputAt w g o a b c).cell? ⟨g, o, none⟩ = some a ∧ (gputAt w g o a b c).cell? ⟨g, o + 1, none⟩ = some b ∧ (gputAt w g o a b c).cell? ⟨g, o + 2, none⟩ = some c := by
  have n : ∀ a b : Nat, a ≠ b → (⟨g, o + a, none⟩ : Addr) ≠ ⟨g, o + b, none⟩ := fun a b hab e => by injection e with _ e2; omega
  unfold gputAt
  refine ⟨?_, ?_, ?_⟩
  · rw [World.cell?_setCell_other _ _ _ _ (show (⟨g, o + 2, none⟩ : Addr) ≠ ⟨g, o, none⟩ from n 2 0 (by omega)), World.cell?_setCell_other _ _ _ _ (show (⟨g, o + 1, none⟩ : Addr) ≠ ⟨g, o, none⟩ from n 1 0 (by omega))]
    exact World.cell?_setCell_same _ _ _ h0
  · rw [World.cell?_setCell_other _ _ _ _ (n 2 1 (by omega))]
    exact World.cell?_setCell_same _ _ _ (by rw [World.cell?_setCell_other _ _ _ _ (show (⟨g, o, none⟩ : Addr) ≠ ⟨g, o + 1, none⟩ from n 0 1 (by omega))]; exact h1)
  · exact World.cell?_setCell_same _ _ _ (by rw [World.cell?_setCell_other _ _ _ _ (n 1 2 (by omega)), World.cell?_setCell_other _ _ _ _ (show (⟨g, o, none⟩ : Addr) ≠ ⟨g, o + 2, none⟩ from n 0 2 (by omega))]; exact h2)
theorem gputAt_below {B : Nat} {a w : World} (h : Below B a w) {g o : Nat} (hg : B ≤ g) (x y z : Value) : Below B a (gputAt w g o x y z) :=
  ((h.setCell (p := ⟨g, o, none⟩) hg _).setCell (p := ⟨g, o + 1, none⟩) hg _).setCell (p := ⟨g, o + 2, none⟩) hg _
theorem zsrow_gput {w : World} {g o t : Nat} {x y z : Value} {P : List Int} (h : ZSRow w t P) (hne : g ≠ t) : ZSRow (gputAt w g o x y z) t P :=
  ⟨by rw [gputAt_size]; exact h.1, fun j hj => by rw [gputAt_other (.inl (fun e => hne e.symm)), gputAt_frozen]; exact h.2 j hj⟩
def updT (T : Nat → Nat) (k t : Nat) (j : Nat) : Nat := if j = k then t else T j
theorem updT_same (T : Nat → Nat) (k t : Nat) : updT T k t k = t := if_pos rfl
theorem updT_ne (T : Nat → Nat) (k t : Nat) {j : Nat} (h : j ≠ k) : updT T k t j = T j := if_neg h
theorem GPart.put {w : World} {g k t : Nat} {T : Nat → Nat} {L : List (List UInt8 × List UInt8 × List Int)} (h : GPart w g T L k) (hk : k < L.length) (hgt : g < t) (ht : ∀ j, j < k → T j < t) (hz : ZSRow w t (L[k]'hk).2.2) :
    GPart (gputAt w g (k * 3) (.string ⟨(L[k]'hk).1.toArray⟩) (.string ⟨(L[k]'hk).2.1.toArray⟩) (.slice (some ⟨t, 0, none⟩) (L[k]'hk).2.2.length (L[k]'hk).2.2.length)) g (updT T k t) L (k + 1) := by
  obtain ⟨⟨v0, m0⟩, _⟩ := h.2.1 (k * 3) (by omega)
  obtain ⟨⟨v1, m1⟩, _⟩ := h.2.1 (k * 3 + 1) (by omega)
  obtain ⟨⟨v2, m2⟩, _⟩ := h.2.1 (k * 3 + 2) (by omega)
  have hat := gputAt_at (a := .string ⟨(L[k]'hk).1.toArray⟩) (b := .string ⟨(L[k]'hk).2.1.toArray⟩) (c := .slice (some ⟨t, 0, none⟩) (L[k]'hk).2.2.length (L[k]'hk).2.2.length) m0 m1 m2
  refine ⟨by rw [gputAt_size]; exact h.1, fun c hc => ?_, fun j hj hjk => ?_, fun i j hij hjk => ?_⟩
  · rw [gputAt_frozen]
    refine ⟨?_, (h.2.1 c hc).2⟩
    by_cases g1 : c < k * 3 ∨ k * 3 + 2 < c
    · rw [gputAt_other (.inr g1)]; exact (h.2.1 c hc).1
    · rcases (show c = k * 3 ∨ c = k * 3 + 1 ∨ c = k * 3 + 2 by omega) with rfl | rfl | rfl
      · exact ⟨_, hat.1⟩
      · exact ⟨_, hat.2.1⟩
      · exact ⟨_, hat.2.2⟩
  · by_cases e : j = k
    · subst e
      refine ⟨by rw [updT_same]; exact hgt, by rw [updT_same, gputAt_size]; exact hz.1, ?_⟩
      rw [updT_same]
      exact ⟨hat.1, hat.2.1, hat.2.2, zsrow_gput hz (by omega)⟩
    · obtain ⟨a1, a2, a3⟩ := h.2.2.1 j hj (by omega)
      refine ⟨by rw [updT_ne _ _ _ e]; exact a1, by rw [updT_ne _ _ _ e, gputAt_size]; exact a2, ?_⟩
      rw [updT_ne _ _ _ e]
      unfold GapIn at a3 ⊢
      rw [gputAt_other (.inr (by omega)), gputAt_other (.inr (by omega)), gputAt_other (.inr (by omega))]
      exact ⟨a3.1, a3.2.1, a3.2.2.1, zsrow_gput a3.2.2.2 (by omega)⟩
  · by_cases e : j = k
    · rw [e, updT_same, updT_ne _ _ _ (by omega)]; exact ht i (by omega)
    · rw [updT_ne _ _ _ e, updT_ne _ _ _ (by omega)]; exact h.2.2.2 i j hij (by omega)
theorem GPart.done {w : World} {g k : Nat} {T : Nat → Nat} {L : List (List UInt8 × List UInt8 × List Int)} (h : GPart w g T L k) (hk : ¬ k < L.length) : GOwn w g T L :=
  ⟨h.1, h.2.1, fun j hj => ⟨(h.2.2.1 j hj (by omega)).1, (h.2.2.1 j hj (by omega)).2.2⟩, fun i j hij hj => h.2.2.2 i j hij (by omega)⟩
theorem info_gap : (Tryd.prog.info? 26).map (fun i => (i.zero, i.size, i.bytes)) = some (some (.agg #[.string ByteArray.empty, .string ByteArray.empty, .slice none 0 0]), 3, 56) := by kernel_rfl
theorem madeg_at {n c : Nat} {x y z : Value} (hc : c < n * 3) : ∃ v, (madeCells #[x, y, z] (n * 3)).toList[c]? = some v := by
  unfold madeCells
  simp only [Array.toList_map, Array.toList_range, List.getElem?_map, List.getElem?_range hc, Option.map_some]
  exact ⟨_, rfl⟩
theorem made_gpart {w w1 : World} {L : List (List UInt8 × List UInt8 × List Int)} (T : Nat → Nat) (hg : w.heap.size < w1.heap.size) (h : w1.ownsRow w.heap.size 26 3 (.slice (some ⟨w.heap.size, 0, none⟩) L.length L.length) L.length (madeCells #[.string ByteArray.empty, .string ByteArray.empty, .slice none 0 0] (L.length * 3)).toList) : GPart w1 w.heap.size T L 0 := by
  refine ⟨hg, fun c hc => ⟨?_, h.frozenAt _⟩, fun j _ hj => absurd hj (Nat.not_lt_zero _), fun i j _ hj => absurd hj (Nat.not_lt_zero _)⟩
  obtain ⟨v, hv⟩ := madeg_at (x := .string ByteArray.empty) (y := .string ByteArray.empty) (z := .slice none 0 0) hc
  exact ⟨v, by rw [h.cellAt c hc]; exact hv⟩

set_option maxRecDepth 20000 in
set_option maxHeartbeats 2000000 in
theorem toGapS_any (v : Value) (L : List (List UInt8 × List UInt8 × List Int)) (w : World) (hr : GRow w v L) (hl : L.length ≤ 1048576) (hx : Hid (∀ x ∈ L, x.2.2.length ≤ 1048576)) :
    Calls Tryd.prog 7 #[v] w fun e w' => ∃ T, e = .returned (.slice (some ⟨w.heap.size, 0, none⟩) L.length L.length) ∧ GOwn w' w.heap.size T L ∧ Below w.heap.size w w' := by
  obtain ⟨i0, hi, hz0, hz1, hz2⟩ := info_parts info_gap
  obtain ⟨a, cap, rfl, hcap, hmax, HROW⟩ := grow_value hr
  have HTO : Hid (∀ (x : List UInt8 × List UInt8 × List Int) (va : Value) W, ZRow .i64 W va x.2.2 → x.2.2.length ≤ 1048576 → Calls Tryd.prog 22 #[.agg #[.string ⟨x.1.toArray⟩, .string ⟨x.2.1.toArray⟩, va]] W fun e w' => (∃ g, e = .returned (.agg #[.string ⟨x.1.toArray⟩, .string ⟨x.2.1.toArray⟩, .slice (some ⟨g, 0, none⟩) x.2.2.length x.2.2.length]) ∧ W.heap.size ≤ g ∧ ZSRow w' g x.2.2) ∧ Below W.heap.size W w') := fun x va W h1 h2 => toGap_any ⟨x.1.toArray⟩ ⟨x.2.1.toArray⟩ va x.2.2 W h1 h2
  clear hr
  go_enter Tryd.func7, Tryd.ntmps7
  go_wp2_with (at_make; refine wpList_make_full _ rfl _ _ 29 rfl w.heap.size 26 i0 (.agg #[.string ByteArray.empty, .string ByteArray.empty, .slice none 0 0]) 3 Tryd.underlying29 hi hz0 hz1 _ _ _ _ L.length rfl rfl rfl rfl ?b2 ?b3 ?b4 ?_)
  case b2 => rw [hz2]; omega
  case b3 => unfold maxLen; omega
  case b4 => exact Nat.le_refl _
  intro w1 hown hgrow
  have hb1 : Below w.heap.size w w1 := (Below.refl _ _).grown hgrow (Nat.le_refl _) (fun k h => by cases h)
  have hlt1 : w.heap.size < w1.heap.size := (hown.lt w.heap.size rfl).2
  have HS1 : Hid (GPart w1 w.heap.size (fun _ => 0) L 0) := made_gpart _ hlt1 hown
  clear hown hgrow hlt1
  go_wp2_with fail
  go_loopw [4] (fun i wr => ∃ k : Nat, k ≤ L.length ∧ i = .int .i64 (k : Int) ∧ Hid (∃ T, GPart wr w.heap.size T L k) ∧ Below w.heap.size w wr) (fun i _ => L.length - (intOf i).toNat)
  case atStart => exact ⟨0, Nat.zero_le _, rfl, ⟨_, HS1.out⟩, hb1⟩
  case round =>
    obtain ⟨k, hk, rfl, HR, hb⟩ := hrel
    clear HS1 hb1
    by_cases hlt : k < L.length
    · obtain ⟨b, o, ha, hbl, hcel⟩ := HROW.out (by omega)
      rw [ha]
      obtain ⟨va, hcx0⟩ := hcel k hlt
      have hcx := hcx0.kept hb
      have hxl := hx.out _ (List.getElem_mem hlt)
      have HST : Hid (∀ W t, Below wr.heap.size wr W → wr.heap.size ≤ t → ZSRow W t (L[k]'hlt).2.2 → (∀ c, c < L.length * 3 → (∃ v, W.cell? ⟨w.heap.size, c, none⟩ = some v) ∧ W.frozen? ⟨w.heap.size, c, none⟩ = false) ∧ ∃ T, GPart (gputAt W w.heap.size (k * 3) (.string ⟨(L[k]'hlt).1.toArray⟩) (.string ⟨(L[k]'hlt).2.1.toArray⟩) (.slice (some ⟨t, 0, none⟩) (L[k]'hlt).2.2.length (L[k]'hlt).2.2.length)) w.heap.size T L (k + 1)) := fun W t hW ht hz => by
        obtain ⟨T, hT⟩ := HR.out
        have h1 := hT.kept hW
        exact ⟨h1.2.1, _, h1.put hlt (by have := hT.1; omega) (fun j hj => by have := (hT.2.2.1 j (by omega) hj).2.1; omega) hz⟩
      obtain ⟨x, hxe⟩ : ∃ x, x = L[k]'hlt := ⟨_, rfl⟩
      rw [← hxe] at hcx hxl HST
      have hz : ZRow .i64 wr va x.2.2 := hcx.2.2.2
      unfold GapAt at hcx
      have c0 := hcx.1
      have c1 := hcx.2.1
      have c2 := hcx.2.2.1
      clear hcx
      have HC : Hid (Calls Tryd.prog 22 #[.agg #[.string ⟨x.1.toArray⟩, .string ⟨x.2.1.toArray⟩, va]] wr fun e w' => (∃ g, e = .returned (.agg #[.string ⟨x.1.toArray⟩, .string ⟨x.2.1.toArray⟩, .slice (some ⟨g, 0, none⟩) x.2.2.length x.2.2.length]) ∧ wr.heap.size ≤ g ∧ ZSRow w' g x.2.2) ∧ Below wr.heap.size wr w') := HTO.out x va wr hz hxl
      obtain ⟨aa, ca, rfl, _, _, _⟩ := hz
      clear hcel hxe hcx0 HTO
      go_wp2_with fail
      refine HC.out.mono ?_
      rintro e w2 ⟨⟨t, rfl, ht, hzt⟩, hb2⟩
      obtain ⟨hcells, hst⟩ := HST.out w2 t hb2 ht hzt
      obtain ⟨⟨y0, m0⟩, f0⟩ := hcells (k * 3) (by omega)
      obtain ⟨⟨y1, m1⟩, f1⟩ := hcells (k * 3 + 1) (by omega)
      obtain ⟨⟨y2, m2⟩, f2⟩ := hcells (k * 3 + 2) (by omega)
      have HQ : Hid (∃ T, GPart (gputAt w2 w.heap.size (k * 3) (.string ⟨x.1.toArray⟩) (.string ⟨x.2.1.toArray⟩) (.slice (some ⟨t, 0, none⟩) x.2.2.length x.2.2.length)) w.heap.size T L (k + 1)) := hst
      have hb3 : Below w.heap.size w (gputAt w2 w.heap.size (k * 3) (.string ⟨x.1.toArray⟩) (.string ⟨x.2.1.toArray⟩) (.slice (some ⟨t, 0, none⟩) x.2.2.length x.2.2.length)) := gputAt_below (hb.trans (hb2.mono hb.size)) (Nat.le_refl _) _ _ _
      unfold gputAt at HQ hb3
      clear hcells hst hb2 c0 c1 c2 hzt HST HC
      go_wp2_with fail
      go_roundw
      case rel => exact ⟨k + 1, by omega, by go_num, HQ, hb3⟩
      case measure => simp [intOf]; omega
    · have HRR : Hid (∃ T, GOwn wr w.heap.size T L) := by obtain ⟨T, hT⟩ := HR.out; exact ⟨T, hT.done hlt⟩
      clear HR
      go_wp2_with fail
      go_ret
      obtain ⟨T, hT⟩ := HRR.out
      exact ⟨T, rfl, hT, hb⟩
end Go.Proofs.YtoeffplfkdogdaaDoor
