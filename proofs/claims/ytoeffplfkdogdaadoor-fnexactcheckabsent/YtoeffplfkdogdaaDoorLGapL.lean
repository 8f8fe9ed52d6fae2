import Derived.Test.YtoeffplfkdogdaaDoorLGap
import Derived.Test.YtoeffplfkdogdaaDoorQk
import Derived.Test.YtoeffplfkdogdaaDoorListS
namespace Go.Proofs.YtoeffplfkdogdaaDoor
open Go.RowKit

/-- The three cells of a gap at a place of a block. -/
def GapAt (w : World) (b o : Nat) (x : List UInt8 × List UInt8 × List Int) (v : Value) : Prop :=
  w.cell? ⟨b, o, none⟩ = some (.string ⟨x.1.toArray⟩) ∧ w.cell? ⟨b, o + 1, none⟩ = some (.string ⟨x.2.1.toArray⟩) ∧ w.cell? ⟨b, o + 2, none⟩ = some v ∧ ZRow .i64 w v x.2.2
/-- A list of gaps as it lies in memory. -/
def GRow (w : World) (v : Value) (L : List (List UInt8 × List UInt8 × List Int)) : Prop :=
  ∃ a cap, v = .slice a L.length cap ∧ L.length ≤ cap ∧ cap ≤ maxLen ∧ (L = [] ∨ ∃ b o, a = some ⟨b, o, none⟩ ∧ b < w.heap.size ∧ ∀ j, (hj : j < L.length) → ∃ va, GapAt w b (o + j * 3) L[j] va)
theorem GapAt.kept {w w' : World} {b o : Nat} {x : List UInt8 × List UInt8 × List Int} {v : Value} (h : GapAt w b o x v) (hb : Below w.heap.size w w') : GapAt w' b o x v := by
  have hlt := World.block_lt_of_cell? _ _ h.1
  unfold GapAt
  rw [hb.cell (p := ⟨b, o, none⟩) hlt, hb.cell (p := ⟨b, o + 1, none⟩) hlt, hb.cell (p := ⟨b, o + 2, none⟩) hlt]
  exact ⟨h.1, h.2.1, h.2.2.1, h.2.2.2.kept hb⟩
theorem GRow.kept {w w' : World} {v : Value} {L : List (List UInt8 × List UInt8 × List Int)} (h : GRow w v L) (hb : Below w.heap.size w w') : GRow w' v L := by
  obtain ⟨a, cap, rfl, h1, h2, h3⟩ := h
  refine ⟨a, cap, rfl, h1, h2, ?_⟩
  rcases h3 with h3 | ⟨b, o, rfl, hb1, hc⟩
  · exact .inl h3
  · exact .inr ⟨b, o, rfl, Nat.lt_of_lt_of_le hb1 hb.size, fun j hj => by obtain ⟨va, h⟩ := hc j hj; exact ⟨va, h.kept hb⟩⟩
theorem grow_value {w : World} {v : Value} {L : List (List UInt8 × List UInt8 × List Int)} (h : GRow w v L) : ∃ a cap, v = .slice a L.length cap ∧ L.length ≤ cap ∧ cap ≤ 9223372036854775807 ∧ Hid (0 < L.length → ∃ b o, a = some ⟨b, o, none⟩ ∧ b < w.heap.size ∧ ∀ j, (hj : j < L.length) → ∃ va, GapAt w b (o + j * 3) L[j] va) := by
  obtain ⟨a, cap, rfl, h1, h2, h3⟩ := h
  unfold maxLen at h2
  refine ⟨a, cap, rfl, h1, by omega, fun hp => ?_⟩
  rcases h3 with rfl | h3
  · simp at hp
  · exact h3
/-- How much a list of gaps weighs. -/
def wtG (L : List (List UInt8 × List UInt8 × List Int)) : Nat := (L.map (fun x => x.1.length + x.2.1.length + x.2.2.length)).sum
theorem wtG_snoc (L : List (List UInt8 × List UInt8 × List Int)) (k : Nat) (h : k < L.length) : wtG (L.take (k + 1)) = wtG (L.take k) + (L[k].1.length + L[k].2.1.length + L[k].2.2.length) := by
  unfold wtG; rw [List.take_succ_eq_append_getElem h, List.map_append, List.sum_append]; simp only [List.map_cons, List.map_nil, List.sum_cons, List.sum_nil, Nat.add_zero]
theorem wtG_le (L : List (List UInt8 × List UInt8 × List Int)) (k : Nat) : wtG (L.take k) ≤ wtG L := by
  have h : wtG L = wtG (L.take k) + wtG (L.drop k) := by unfold wtG; rw [← List.sum_append, ← List.map_append, List.take_append_drop]
  omega
theorem wtG_one {L : List (List UInt8 × List UInt8 × List Int)} {x : List UInt8 × List UInt8 × List Int} (h : x ∈ L) : x.1.length + x.2.1.length + x.2.2.length ≤ wtG L := by
  obtain ⟨k, hk, rfl⟩ := List.getElem_of_mem h
  have h1 := wtG_snoc L k hk
  have h2 := wtG_le L (k + 1)
  omega

set_option maxRecDepth 20000 in
set_option maxHeartbeats 1000000 in
theorem szGapS_any (v : Value) (L : List (List UInt8 × List UInt8 × List Int)) (left : Int) (w : World) (hr : GRow w v L) (hx : Hid (∀ x ∈ L, x.1.length ≤ maxLen ∧ x.2.1.length ≤ maxLen)) (h0 : 0 ≤ left) (h1 : left ≤ 1048576) :
    Calls Tryd.prog 5 #[v, .int .i64 left] w fun e w' => (∃ q : Int, e = .returned (.int .i64 q) ∧ (q = -1 ∨ (0 ≤ q ∧ q = left - (L.length : Int) - (wtG L : Int)))) ∧ Below w.heap.size w w' := by
  obtain ⟨a, cap, rfl, hcap, hmax, HROW⟩ := grow_value hr
  have HSZ : Hid (∀ (x : List UInt8 × List UInt8 × List Int) (va : Value) (q : Int) W, x.1.length ≤ maxLen → x.2.1.length ≤ maxLen → ZRow .i64 W va x.2.2 → 0 ≤ q → q ≤ 1048576 → Calls Tryd.prog 16 #[.agg #[.string ⟨x.1.toArray⟩, .string ⟨x.2.1.toArray⟩, va], .int .i64 q] W fun e w' => (∃ q2 : Int, e = .returned (.int .i64 q2) ∧ (q2 = -1 ∨ (0 ≤ q2 ∧ q2 = q - (x.1.length : Int) - (x.2.1.length : Int) - (x.2.2.length : Int)))) ∧ Below W.heap.size W w') := fun x va q W g1 g2 g3 g4 g5 => by
    have h := szGap_any ⟨x.1.toArray⟩ ⟨x.2.1.toArray⟩ va x.2.2 q W (by rw [size_list]; exact g1) (by rw [size_list]; exact g2) g3 g4 g5
    rw [size_list, size_list] at h; exact h
  clear hr
  by_cases hneg : left - (L.length : Int) < 0
  · go_enter Tryd.func5, Tryd.ntmps5
    go_wp2_with fail
    go_ret
    exact ⟨⟨-1, rfl, .inl rfl⟩, Below.refl _ _⟩
  · have hpos : 0 ≤ left - (L.length : Int) := by omega
    clear hneg
    go_enter Tryd.func5, Tryd.ntmps5
    go_wp2_with fail
    go_loopw [1, 5] (fun q i wr => ∃ k : Nat, k ≤ L.length ∧ i = .int .i64 (k : Int) ∧ q = .int .i64 (left - (L.length : Int) - (wtG (L.take k) : Int)) ∧ 0 ≤ left - (L.length : Int) - (wtG (L.take k) : Int) ∧ Below w.heap.size w wr) (fun _ i _ => L.length - (intOf i).toNat)
    case atStart => exact ⟨0, Nat.zero_le _, rfl, by simp [wtG], by simpa [wtG] using hpos, Below.refl _ _⟩
    case round =>
      obtain ⟨k, hk, rfl, rfl, hq0, hb⟩ := hrel
      have hwl := wtG_le L k
      by_cases hlt : k < L.length
      · obtain ⟨b, o, ha, hbl, hcel⟩ := HROW.out (by omega)
        rw [ha]
        obtain ⟨va, hcx0⟩ := hcel k hlt
        have hcx := hcx0.kept hb
        unfold GapAt at hcx
        obtain ⟨c0, c1, c2, hz⟩ := hcx
        have hxl := hx.out _ (List.getElem_mem hlt)
        have HST : Hid (wtG (L.take (k + 1)) = wtG (L.take k) + ((L[k]'hlt).1.length + (L[k]'hlt).2.1.length + (L[k]'hlt).2.2.length)) := wtG_snoc L k hlt
        obtain ⟨x, hxe⟩ : ∃ x, x = L[k]'hlt := ⟨_, rfl⟩
        rw [← hxe] at c0 c1 hz hxl HST
        obtain ⟨q, hq⟩ : ∃ q : Int, q = left - (L.length : Int) - (wtG (L.take k) : Int) := ⟨_, rfl⟩
        have HQ : Hid (q = left - (L.length : Int) - (wtG (L.take k) : Int)) := hq
        rw [← hq] at hq0 ⊢
        have hq1 : q ≤ 1048576 := by omega
        have HC2 : Hid (Calls Tryd.prog 16 #[.agg #[.string ⟨x.1.toArray⟩, .string ⟨x.2.1.toArray⟩, va], .int .i64 q] wr fun e w' => (∃ q2 : Int, e = .returned (.int .i64 q2) ∧ (q2 = -1 ∨ (0 ≤ q2 ∧ q2 = q - (x.1.length : Int) - (x.2.1.length : Int) - (x.2.2.length : Int)))) ∧ Below wr.heap.size wr w') := HSZ.out x va q wr hxl.1 hxl.2 hz hq0 hq1
        obtain ⟨aa, ca, rfl, _, hca, _⟩ := hz
        clear hcel hxe hq hcx0
        go_wp2_with fail
        refine HC2.out.mono ?_
        rintro e w2 ⟨⟨q2, rfl, hq2⟩, hb2⟩
        rcases hq2 with rfl | ⟨hq20, hq2e⟩
        · go_wp2_with fail
          go_ret
          exact ⟨⟨-1, rfl, .inl rfl⟩, hb.trans (hb2.mono hb.size)⟩
        · have HQ2 : Hid (q2 = left - (L.length : Int) - (wtG (L.take (k + 1)) : Int)) := by have h1 := HQ.out; have h2 := HST.out; show q2 = _; omega
          clear hq2e HC2
          go_wp2_with fail
          go_roundw
          case rel => exact ⟨k + 1, by omega, by go_num, by rw [HQ2.out], by rw [← HQ2.out]; exact hq20, hb.trans (hb2.mono hb.size)⟩
          case measure => simp [intOf]; omega
      · have hfull : wtG (L.take k) = wtG L := by rw [List.take_of_length_le (by omega)]
        rw [hfull] at hq0 ⊢
        clear hfull hwl
        go_wp2_with fail
        go_ret
        exact ⟨⟨_, rfl, .inr ⟨hq0, rfl⟩⟩, hb⟩

set_option maxRecDepth 20000 in
set_option maxHeartbeats 1000000 in
theorem eqGapS_same (v1 v2 : Value) (L : List (List UInt8 × List UInt8 × List Int)) (w : World) (h1 : GRow w v1 L) (h2 : GRow w v2 L) :
    Calls Tryd.prog 10 #[v1, v2] w fun e w' => e = .returned (.bool true) ∧ Below w.heap.size w w' := by
  obtain ⟨a1, cap1, rfl, hc1, hm1, HR1⟩ := grow_value h1
  obtain ⟨a2, cap2, rfl, hc2, hm2, HR2⟩ := grow_value h2
  have HEQ : Hid (∀ (x : (List UInt8 × List UInt8 × List Int)) (va vb : Value) W, ZRow .i64 W va x.2.2 → ZRow .i64 W vb x.2.2 → Calls Tryd.prog 9 #[.agg #[.string ⟨x.1.toArray⟩, .string ⟨x.2.1.toArray⟩, va], .agg #[.string ⟨x.1.toArray⟩, .string ⟨x.2.1.toArray⟩, vb]] W fun e w' => e = .returned (.bool true) ∧ Below W.heap.size W w') := fun x va vb W g1 g2 => eqGap_same ⟨x.1.toArray⟩ ⟨x.2.1.toArray⟩ va vb x.2.2 W g1 g2
  have el : ((L.length : Int) != (L.length : Int)) = false := by simp
  clear h1 h2
  go_enter Tryd.func10, Tryd.ntmps10
  go_wp2_with fail
  go_loopw [5] (fun i wr => ∃ k : Nat, k ≤ L.length ∧ i = .int .i64 (k : Int) ∧ Below w.heap.size w wr) (fun i _ => L.length - (intOf i).toNat)
  case atStart => exact ⟨0, Nat.zero_le _, rfl, Below.refl _ _⟩
  case round =>
    obtain ⟨k, hk, rfl, hb⟩ := hrel
    by_cases hlt : k < L.length
    · obtain ⟨b1, o1, ha1, hbl1, hcel1⟩ := HR1.out (by omega)
      obtain ⟨b2, o2, ha2, hbl2, hcel2⟩ := HR2.out (by omega)
      rw [ha1, ha2]
      obtain ⟨va, q1⟩ := hcel1 k hlt
      obtain ⟨vb, q2⟩ := hcel2 k hlt
      obtain ⟨x, hx⟩ : ∃ x, x = L[k]'hlt := ⟨_, rfl⟩
      rw [← hx] at q1 q2
      have HC : Hid (∀ W, Below w.heap.size w W → GapAt W b1 (o1 + k * 3) x va ∧ GapAt W b2 (o2 + k * 3) x vb) := fun W hW => ⟨q1.kept hW, q2.kept hW⟩
      have HEQ2 : Hid (∀ W, Below w.heap.size w W → Calls Tryd.prog 9 #[.agg #[.string ⟨x.1.toArray⟩, .string ⟨x.2.1.toArray⟩, va], .agg #[.string ⟨x.1.toArray⟩, .string ⟨x.2.1.toArray⟩, vb]] W fun e w' => e = .returned (.bool true) ∧ Below W.heap.size W w') := fun W hW => HEQ.out x va vb W (q1.kept hW).2.2.2 (q2.kept hW).2.2.2
      have hki : (k : Int) < (L.length : Int) := by omega
      have hbd := hb.drew
      unfold GapAt at HC
      clear hcel1 hcel2 hx q1 q2 HEQ
      go_wp2_with fail
      refine wp_region_quiet (C := fun W => Below w.heap.size w W) (by kernel_rfl) (by kernel_rfl) hbd ?_
      refine wpQuiet_step (fun K hK => ?_)
      rw [if_pos (by rfl)]
      refine ⟨.slice (some ⟨b1, o1, none⟩) L.length cap1, fun W hW => quiet_ok ?_, hK _ ?_⟩
      · have f := HC.out W hW
        obtain ⟨⟨c0, c1, c2, _⟩, ⟨e0, e1, e2, _⟩⟩ := f
        go_simp
        all_goals (try omega)
      clear hK K
      simp only [Act.put, List.setIfInBounds_toArray, List.set_cons_succ, List.set_cons_zero]
      refine wpQuiet_step (fun K hK => ?_)
      rw [if_pos (by rfl)]
      refine ⟨.int .i64 (k : Int), fun W hW => quiet_ok ?_, hK _ ?_⟩
      · have f := HC.out W hW
        obtain ⟨⟨c0, c1, c2, _⟩, ⟨e0, e1, e2, _⟩⟩ := f
        go_simp
        all_goals (try omega)
      clear hK K
      simp only [Act.put, List.setIfInBounds_toArray, List.set_cons_succ, List.set_cons_zero]
      refine wpQuiet_step (fun K hK => ?_)
      rw [if_pos (by rfl)]
      refine ⟨.pointer (some ⟨b1, o1 + k * 3, none⟩), fun W hW => quiet_ok ?_, hK _ ?_⟩
      · have f := HC.out W hW
        obtain ⟨⟨c0, c1, c2, _⟩, ⟨e0, e1, e2, _⟩⟩ := f
        go_simp
        all_goals (try omega)
      clear hK K
      simp only [Act.put, List.setIfInBounds_toArray, List.set_cons_succ, List.set_cons_zero]
      refine wpQuiet_step (fun K hK => ?_)
      rw [if_pos (by rfl)]
      refine ⟨.agg #[.string ⟨x.1.toArray⟩, .string ⟨x.2.1.toArray⟩, va], fun W hW => quiet_ok ?_, hK _ ?_⟩
      · have f := HC.out W hW
        obtain ⟨⟨c0, c1, c2, _⟩, ⟨e0, e1, e2, _⟩⟩ := f
        go_simp
        all_goals (try omega)
      clear hK K
      simp only [Act.put, List.setIfInBounds_toArray, List.set_cons_succ, List.set_cons_zero]
      refine wpQuiet_step (fun K hK => ?_)
      rw [if_pos (by rfl)]
      refine ⟨.slice (some ⟨b2, o2, none⟩) L.length cap2, fun W hW => quiet_ok ?_, hK _ ?_⟩
      · have f := HC.out W hW
        obtain ⟨⟨c0, c1, c2, _⟩, ⟨e0, e1, e2, _⟩⟩ := f
        go_simp
        all_goals (try omega)
      clear hK K
      simp only [Act.put, List.setIfInBounds_toArray, List.set_cons_succ, List.set_cons_zero]
      refine wpQuiet_step (fun K hK => ?_)
      rw [if_pos (by rfl)]
      refine ⟨.int .i64 (k : Int), fun W hW => quiet_ok ?_, hK _ ?_⟩
      · have f := HC.out W hW
        obtain ⟨⟨c0, c1, c2, _⟩, ⟨e0, e1, e2, _⟩⟩ := f
        go_simp
        all_goals (try omega)
      clear hK K
      simp only [Act.put, List.setIfInBounds_toArray, List.set_cons_succ, List.set_cons_zero]
      refine wpQuiet_step (fun K hK => ?_)
      rw [if_pos (by rfl)]
      refine ⟨.pointer (some ⟨b2, o2 + k * 3, none⟩), fun W hW => quiet_ok ?_, hK _ ?_⟩
      · have f := HC.out W hW
        obtain ⟨⟨c0, c1, c2, _⟩, ⟨e0, e1, e2, _⟩⟩ := f
        go_simp
        all_goals (try omega)
      clear hK K
      simp only [Act.put, List.setIfInBounds_toArray, List.set_cons_succ, List.set_cons_zero]
      refine wpQuiet_step (fun K hK => ?_)
      rw [if_pos (by rfl)]
      refine ⟨.agg #[.string ⟨x.1.toArray⟩, .string ⟨x.2.1.toArray⟩, vb], fun W hW => quiet_ok ?_, hK _ ?_⟩
      · have f := HC.out W hW
        obtain ⟨⟨c0, c1, c2, _⟩, ⟨e0, e1, e2, _⟩⟩ := f
        go_simp
        all_goals (try omega)
      clear hK K
      simp only [Act.put, List.setIfInBounds_toArray, List.set_cons_succ, List.set_cons_zero]
      refine wpQuiet_step (fun K hK => ?_)
      rw [if_pos (by rfl)]
      refine ⟨.bool true, fun W hW => quiet_call (f := 9) (args := #[.agg #[.string ⟨x.1.toArray⟩, .string ⟨x.2.1.toArray⟩, va], .agg #[.string ⟨x.1.toArray⟩, .string ⟨x.2.1.toArray⟩, vb]]) ?_ ?_, hK _ ?_⟩
      · go_simp
      · exact (HEQ2.out W hW).mono fun e w'' h => ⟨h.1, hW.trans (h.2.mono hW.size)⟩
      clear hK K
      simp only [Act.put, List.setIfInBounds_toArray, List.set_cons_succ, List.set_cons_zero]
      refine wpQuiet_step (fun K hK => ?_)
      rw [if_pos (by rfl)]
      refine ⟨.bool false, fun W hW => quiet_ok ?_, hK _ ?_⟩
      · have f := HC.out W hW
        obtain ⟨⟨c0, c1, c2, _⟩, ⟨e0, e1, e2, _⟩⟩ := f
        go_simp
        all_goals (try omega)
      clear hK K
      simp only [Act.put, List.setIfInBounds_toArray, List.set_cons_succ, List.set_cons_zero]
      refine wpQuiet_nil ?_
      intro W hW
      go_wp2_with fail
      go_roundw
      case rel => exact ⟨k + 1, by omega, by go_num, hW⟩
      case measure => simp [intOf]; omega
    · go_wp2_with fail
      go_ret
      exact ⟨rfl, hb⟩
end Go.Proofs.YtoeffplfkdogdaaDoor
