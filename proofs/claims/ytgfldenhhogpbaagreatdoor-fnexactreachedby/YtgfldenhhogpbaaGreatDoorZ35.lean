import Derived.Test.YtgfldenhhogpbaaGreatDoorZ25
import Derived.Test.YtgfldenhhogpbaaGreatDoorZ34
import Derived.Test.YtgfldenhhogpbaaGreatDoorZ06
namespace Go.Proofs.YtgfldenhhogpbaaGreatDoor
open Go.RowKit

/-- A zone: apex, counter, records. -/
abbrev ZonT : Type := List UInt8 × Int × List (List UInt8 × Int × Int × List UInt8)
/-- Texts no longer than any can be; than the laws ask about. -/
def ZFit (x : ZonT) : Prop := x.1.length ≤ maxLen ∧ ∀ r ∈ x.2.2, r.1.length ≤ maxLen ∧ r.2.2.2.length ≤ maxLen
def ZBig (x : ZonT) : Prop := x.1.length ≤ 1048576 ∧ x.2.2.length ≤ 1048576 ∧ ∀ r ∈ x.2.2, r.1.length ≤ 1048576 ∧ r.2.2.2.length ≤ 1048576
/-- The three cells of a zone at a place of a block. -/
def ZonAt (w : World) (b o : Nat) (x : ZonT) (v : Value) : Prop :=
  w.cell? ⟨b, o, none⟩ = some (.string ⟨x.1.toArray⟩) ∧ w.cell? ⟨b, o + 1, none⟩ = some (.int .i64 x.2.1) ∧ w.cell? ⟨b, o + 2, none⟩ = some v ∧ RRow w v x.2.2
/-- A list of zones as it lies in memory. -/
def ZnRow (w : World) (v : Value) (L : List ZonT) : Prop :=
  ∃ a cap, v = .slice a L.length cap ∧ L.length ≤ cap ∧ cap ≤ maxLen ∧ (L = [] ∨ ∃ b o, a = some ⟨b, o, none⟩ ∧ b < w.heap.size ∧ ∀ j, (hj : j < L.length) → ∃ va, ZonAt w b (o + j * 3) L[j] va)
theorem ZonAt.kept {w w' : World} {b o : Nat} {x : ZonT} {v : Value} (h : ZonAt w b o x v) (hb : Below w.heap.size w w') : ZonAt w' b o x v := by
  have hlt := World.block_lt_of_cell? _ _ h.1
  unfold ZonAt
  rw [hb.cell (p := ⟨b, o, none⟩) hlt, hb.cell (p := ⟨b, o + 1, none⟩) hlt, hb.cell (p := ⟨b, o + 2, none⟩) hlt]
  exact ⟨h.1, h.2.1, h.2.2.1, h.2.2.2.kept hb⟩
theorem ZnRow.kept {w w' : World} {v : Value} {L : List ZonT} (h : ZnRow w v L) (hb : Below w.heap.size w w') : ZnRow w' v L := by
  obtain ⟨a, cap, rfl, h1, h2, h3⟩ := h
  refine ⟨a, cap, rfl, h1, h2, ?_⟩
  rcases h3 with h3 | ⟨b, o, rfl, hb1, hc⟩
  · exact .inl h3
  · exact .inr ⟨b, o, rfl, Nat.lt_of_lt_of_le hb1 hb.size, fun j hj => by obtain ⟨va, h⟩ := hc j hj; exact ⟨va, h.kept hb⟩⟩
theorem znrow_value {w : World} {v : Value} {L : List ZonT} (h : ZnRow w v L) : ∃ a cap, v = .slice a L.length cap ∧ L.length ≤ cap ∧ cap ≤ 9223372036854775807 ∧ Hid (0 < L.length → ∃ b o, a = some ⟨b, o, none⟩ ∧ b < w.heap.size ∧ ∀ j, (hj : j < L.length) → ∃ va, ZonAt w b (o + j * 3) L[j] va) := by
  obtain ⟨a, cap, rfl, h1, h2, h3⟩ := h
  unfold maxLen at h2
  refine ⟨a, cap, rfl, h1, by omega, fun hp => ?_⟩
  rcases h3 with rfl | h3
  · simp at hp
  · exact h3
/-- How much a list of zones weighs. -/
def wtZ (L : List ZonT) : Nat := (L.map (fun x => x.1.length + x.2.2.length + wtR x.2.2)).sum
theorem wtZ_snoc (L : List ZonT) (k : Nat) (h : k < L.length) : wtZ (L.take (k + 1)) = wtZ (L.take k) + (L[k].1.length + L[k].2.2.length + wtR L[k].2.2) := by
  unfold wtZ; rw [List.take_succ_eq_append_getElem h, List.map_append, List.sum_append]; simp only [List.map_cons, List.map_nil, List.sum_cons, List.sum_nil, Nat.add_zero]
theorem wtZ_le (L : List ZonT) (k : Nat) : wtZ (L.take k) ≤ wtZ L := by
  have h : wtZ L = wtZ (L.take k) + wtZ (L.drop k) := by unfold wtZ; rw [← List.sum_append, ← List.map_append, List.take_append_drop]
  omega
theorem wtZ_one {L : List ZonT} {x : ZonT} (h : x ∈ L) : x.1.length + x.2.2.length + wtR x.2.2 ≤ wtZ L := by
  obtain ⟨k, hk, rfl⟩ := List.getElem_of_mem h
  have h1 := wtZ_snoc L k hk
  have h2 := wtZ_le L (k + 1)
  omega

set_option maxRecDepth 20000 in
set_option maxHeartbeats 1000000 in
theorem szZoneS_any (v : Value) (L : List ZonT) (left : Int) (w : World) (hr : ZnRow w v L) (hx : Hid (∀ x ∈ L, ZFit x)) (h0 : 0 ≤ left) (h1 : left ≤ 1048576) :
    Calls Tryz.prog 30 #[v, .int .i64 left] w fun e w' => (∃ q : Int, e = .returned (.int .i64 q) ∧ (q = -1 ∨ (0 ≤ q ∧ q = left - (L.length : Int) - (wtZ L : Int)))) ∧ Below w.heap.size w w' := by
  obtain ⟨a, cap, rfl, hcap, hmax, HROW⟩ := znrow_value hr
  have HSZ : Hid (∀ (x : ZonT) (va : Value) (q : Int) W, x.1.length ≤ maxLen → Hid (∀ r ∈ x.2.2, r.1.length ≤ maxLen ∧ r.2.2.2.length ≤ maxLen) → RRow W va x.2.2 → 0 ≤ q → q ≤ 1048576 → Calls Tryz.prog 23 #[.agg #[.string ⟨x.1.toArray⟩, .int .i64 x.2.1, va], .int .i64 q] W fun e w' => (∃ q2 : Int, e = .returned (.int .i64 q2) ∧ (q2 = -1 ∨ (0 ≤ q2 ∧ q2 = q - (x.1.length : Int) - (x.2.2.length : Int) - (wtR x.2.2 : Int)))) ∧ Below W.heap.size W w') := fun x va q W g1 g2 g3 g4 g5 => by
    have h := szZone_any ⟨x.1.toArray⟩ x.2.1 va x.2.2 q W (by rw [size_list]; exact g1) g3 g2 g4 g5
    rw [size_list] at h; exact h
  clear hr
  by_cases hneg : left - (L.length : Int) < 0
  · go_enter Tryz.func30, Tryz.ntmps30
    go_wp2_with fail
    go_ret
    exact ⟨⟨-1, rfl, .inl rfl⟩, Below.refl _ _⟩
  · have hpos : 0 ≤ left - (L.length : Int) := by omega
    clear hneg
    go_enter Tryz.func30, Tryz.ntmps30
    go_wp2_with fail
    go_loopw [1, 5] (fun q i wr => ∃ k : Nat, k ≤ L.length ∧ i = .int .i64 (k : Int) ∧ q = .int .i64 (left - (L.length : Int) - (wtZ (L.take k) : Int)) ∧ 0 ≤ left - (L.length : Int) - (wtZ (L.take k) : Int) ∧ Below w.heap.size w wr) (fun _ i _ => L.length - (intOf i).toNat)
    case atStart => exact ⟨0, Nat.zero_le _, rfl, by simp [wtZ], by simpa [wtZ] using hpos, Below.refl _ _⟩
    case round =>
      obtain ⟨k, hk, rfl, rfl, hq0, hb⟩ := hrel
      have hwl := wtZ_le L k
      by_cases hlt : k < L.length
      · obtain ⟨b, o, ha, hbl, hcel⟩ := HROW.out (by omega)
        rw [ha]
        obtain ⟨va, hcx0⟩ := hcel k hlt
        have hcx := hcx0.kept hb
        unfold ZonAt at hcx
        obtain ⟨c0, c1, c2, hz⟩ := hcx
        have hxl := hx.out _ (List.getElem_mem hlt)
        have HST : Hid (wtZ (L.take (k + 1)) = wtZ (L.take k) + ((L[k]'hlt).1.length + (L[k]'hlt).2.2.length + wtR (L[k]'hlt).2.2)) := wtZ_snoc L k hlt
        obtain ⟨x, hxe⟩ : ∃ x, x = L[k]'hlt := ⟨_, rfl⟩
        rw [← hxe] at c0 c1 hz hxl HST
        obtain ⟨q, hq⟩ : ∃ q : Int, q = left - (L.length : Int) - (wtZ (L.take k) : Int) := ⟨_, rfl⟩
        have HQ : Hid (q = left - (L.length : Int) - (wtZ (L.take k) : Int)) := hq
        rw [← hq] at hq0 ⊢
        have hq1 : q ≤ 1048576 := by omega
        have HC2 : Hid (Calls Tryz.prog 23 #[.agg #[.string ⟨x.1.toArray⟩, .int .i64 x.2.1, va], .int .i64 q] wr fun e w' => (∃ q2 : Int, e = .returned (.int .i64 q2) ∧ (q2 = -1 ∨ (0 ≤ q2 ∧ q2 = q - (x.1.length : Int) - (x.2.2.length : Int) - (wtR x.2.2 : Int)))) ∧ Below wr.heap.size wr w') := HSZ.out x va q wr hxl.1 hxl.2 hz hq0 hq1
        obtain ⟨aa, ca, rfl, _, hca, _⟩ := hz
        clear hcel hxe hq hcx0
        go_wp2_with fail
        refine HC2.out.mono ?_
        rintro e w2 ⟨⟨q2, rfl, hq2⟩, hb2⟩
        rcases hq2 with rfl | ⟨hq20, hq2e⟩
        · go_wp2_with fail
          go_ret
          exact ⟨⟨-1, rfl, .inl rfl⟩, hb.trans (hb2.mono hb.size)⟩
        · have HQ2 : Hid (q2 = left - (L.length : Int) - (wtZ (L.take (k + 1)) : Int)) := by have h1 := HQ.out; have h2 := HST.out; show q2 = _; omega
          clear hq2e HC2
          go_wp2_with fail
          go_roundw
          case rel => exact ⟨k + 1, by omega, by go_num, by rw [HQ2.out], by rw [← HQ2.out]; exact hq20, hb.trans (hb2.mono hb.size)⟩
          case measure => simp [intOf]; omega
      · have hfull : wtZ (L.take k) = wtZ L := by rw [List.take_of_length_le (by omega)]
        rw [hfull] at hq0 ⊢
        clear hfull hwl
        go_wp2_with fail
        go_ret
        exact ⟨⟨_, rfl, .inr ⟨hq0, rfl⟩⟩, hb⟩

set_option maxRecDepth 20000 in
set_option maxHeartbeats 1000000 in
theorem eqZoneS_same (v1 v2 : Value) (L : List ZonT) (w : World) (h1 : ZnRow w v1 L) (h2 : ZnRow w v2 L) :
    Calls Tryz.prog 37 #[v1, v2] w fun e w' => e = .returned (.bool true) ∧ Below w.heap.size w w' := by
  obtain ⟨a1, cap1, rfl, hc1, hm1, HR1⟩ := znrow_value h1
  obtain ⟨a2, cap2, rfl, hc2, hm2, HR2⟩ := znrow_value h2
  have HEQ : Hid (∀ (x : ZonT) (va vb : Value) W, RRow W va x.2.2 → RRow W vb x.2.2 → Calls Tryz.prog 27 #[.agg #[.string ⟨x.1.toArray⟩, .int .i64 x.2.1, va], .agg #[.string ⟨x.1.toArray⟩, .int .i64 x.2.1, vb]] W fun e w' => e = .returned (.bool true) ∧ Below W.heap.size W w') := fun x va vb W g1 g2 => eqZone_same ⟨x.1.toArray⟩ x.2.1 va vb x.2.2 W g1 g2
  have el : ((L.length : Int) != (L.length : Int)) = false := by simp
  clear h1 h2
  go_enter Tryz.func37, Tryz.ntmps37
  go_wp2_with fail
  go_loopw [5] (fun i wr => ∃ k : Nat, k ≤ L.length ∧ i = .int .i64 (k : Int) ∧ Below w.heap.size w wr) (fun i _ => L.length - (intOf i).toNat)
  case atStart => exact ⟨0, Nat.zero_le _, rfl, Below.refl _ _⟩
  case round =>
    obtain ⟨k, hk, rfl, hb⟩ := hrel
    by_cases hlt : k < L.length
    · obtain ⟨b1, o1, ha1, hbl1, hcel1⟩ := HR1.out (by omega)
      obtain ⟨b2, o2, ha2, hbl2, hcel2⟩ := HR2.out (by omega)
      rw [ha1, ha2]
      obtain ⟨va, q1⟩ := hcel1 k hlt
      obtain ⟨vb, q2⟩ := hcel2 k hlt
      obtain ⟨x, hx⟩ : ∃ x, x = L[k]'hlt := ⟨_, rfl⟩
      rw [← hx] at q1 q2
      have HC : Hid (∀ W, Below w.heap.size w W → ZonAt W b1 (o1 + k * 3) x va ∧ ZonAt W b2 (o2 + k * 3) x vb) := fun W hW => ⟨q1.kept hW, q2.kept hW⟩
      have HEQ2 : Hid (∀ W, Below w.heap.size w W → Calls Tryz.prog 27 #[.agg #[.string ⟨x.1.toArray⟩, .int .i64 x.2.1, va], .agg #[.string ⟨x.1.toArray⟩, .int .i64 x.2.1, vb]] W fun e w' => e = .returned (.bool true) ∧ Below W.heap.size W w') := fun W hW => HEQ.out x va vb W (q1.kept hW).2.2.2 (q2.kept hW).2.2.2
      have hki : (k : Int) < (L.length : Int) := by omega
      have hbd := hb.drew
      unfold ZonAt at HC
      clear hcel1 hcel2 hx q1 q2 HEQ
      go_wp2_with fail
      refine wp_region_quiet (C := fun W => Below w.heap.size w W) (by kernel_rfl) (by kernel_rfl) hbd ?_
      refine wpQuiet_step (fun K hK => ?_)
      rw [if_pos (by rfl)]
      refine ⟨.slice (some ⟨b1, o1, none⟩) L.length cap1, fun W hW => quiet_ok ?_, hK _ ?_⟩
      · have f := HC.out W hW
        obtain ⟨⟨c0, c1, c2, _⟩, ⟨e0, e1, e2, _⟩⟩ := f
        go_simp
        all_goals (try omega)
      clear hK K
      simp only [Act.put, List.setIfInBounds_toArray, List.set_cons_succ, List.set_cons_zero]
      refine wpQuiet_step (fun K hK => ?_)
      rw [if_pos (by rfl)]
      refine ⟨.int .i64 (k : Int), fun W hW => quiet_ok ?_, hK _ ?_⟩
      · have f := HC.out W hW
        obtain ⟨⟨c0, c1, c2, _⟩, ⟨e0, e1, e2, _⟩⟩ := f
        go_simp
        all_goals (try omega)
      clear hK K
      simp only [Act.put, List.setIfInBounds_toArray, List.set_cons_succ, List.set_cons_zero]
      refine wpQuiet_step (fun K hK => ?_)
      rw [if_pos (by rfl)]
      refine ⟨.pointer (some ⟨b1, o1 + k * 3, none⟩), fun W hW => quiet_ok ?_, hK _ ?_⟩
      · have f := HC.out W hW
        obtain ⟨⟨c0, c1, c2, _⟩, ⟨e0, e1, e2, _⟩⟩ := f
        go_simp
        all_goals (try omega)
      clear hK K
      simp only [Act.put, List.setIfInBounds_toArray, List.set_cons_succ, List.set_cons_zero]
      refine wpQuiet_step (fun K hK => ?_)
      rw [if_pos (by rfl)]
      refine ⟨.agg #[.string ⟨x.1.toArray⟩, .int .i64 x.2.1, va], fun W hW => quiet_ok ?_, hK _ ?_⟩
      · have f := HC.out W hW
        obtain ⟨⟨c0, c1, c2, _⟩, ⟨e0, e1, e2, _⟩⟩ := f
        go_simp
        all_goals (try omega)
      clear hK K
      simp only [Act.put, List.setIfInBounds_toArray, List.set_cons_succ, List.set_cons_zero]
      refine wpQuiet_step (fun K hK => ?_)
      rw [if_pos (by rfl)]
      refine ⟨.slice (some ⟨b2, o2, none⟩) L.length cap2, fun W hW => quiet_ok ?_, hK _ ?_⟩
      · have f := HC.out W hW
        obtain ⟨⟨c0, c1, c2, _⟩, ⟨e0, e1, e2, _⟩⟩ := f
        go_simp
        all_goals (try omega)
      clear hK K
      simp only [Act.put, List.setIfInBounds_toArray, List.set_cons_succ, List.set_cons_zero]
      refine wpQuiet_step (fun K hK => ?_)
      rw [if_pos (by rfl)]
      refine ⟨.int .i64 (k : Int), fun W hW => quiet_ok ?_, hK _ ?_⟩
      · have f := HC.out W hW
        obtain ⟨⟨c0, c1, c2, _⟩, ⟨e0, e1, e2, _⟩⟩ := f
        go_simp
        all_goals (try omega)
      clear hK K
      simp only [Act.put, List.setIfInBounds_toArray, List.set_cons_succ, List.set_cons_zero]
      refine wpQuiet_step (fun K hK => ?_)
      rw [if_pos (by rfl)]
      refine ⟨.pointer (some ⟨b2, o2 + k * 3, none⟩), fun W hW => quiet_ok ?_, hK _ ?_⟩
      · have f := HC.out W hW
        obtain ⟨⟨c0, c1, c2, _⟩, ⟨e0, e1, e2, _⟩⟩ := f
        go_simp
        all_goals (try omega)
      clear hK K
      simp only [Act.put, List.setIfInBounds_toArray, List.set_cons_succ, List.set_cons_zero]
      refine wpQuiet_step (fun K hK => ?_)
      rw [if_pos (by rfl)]
      refine ⟨.agg #[.string ⟨x.1.toArray⟩, .int .i64 x.2.1, vb], fun W hW => quiet_ok ?_, hK _ ?_⟩
      · have f := HC.out W hW
        obtain ⟨⟨c0, c1, c2, _⟩, ⟨e0, e1, e2, _⟩⟩ := f
        go_simp
        all_goals (try omega)
      clear hK K
      simp only [Act.put, List.setIfInBounds_toArray, List.set_cons_succ, List.set_cons_zero]
      refine wpQuiet_step (fun K hK => ?_)
      rw [if_pos (by rfl)]
      refine ⟨.bool true, fun W hW => quiet_call (f := 27) (args := #[.agg #[.string ⟨x.1.toArray⟩, .int .i64 x.2.1, va], .agg #[.string ⟨x.1.toArray⟩, .int .i64 x.2.1, vb]]) ?_ ?_, hK _ ?_⟩
      · go_simp
      · exact (HEQ2.out W hW).mono fun e w'' h => ⟨h.1, hW.trans (h.2.mono hW.size)⟩
      clear hK K
      simp only [Act.put, List.setIfInBounds_toArray, List.set_cons_succ, List.set_cons_zero]
      refine wpQuiet_step (fun K hK => ?_)
      rw [if_pos (by rfl)]
      refine ⟨.bool false, fun W hW => quiet_ok ?_, hK _ ?_⟩
      · have f := HC.out W hW
        obtain ⟨⟨c0, c1, c2, _⟩, ⟨e0, e1, e2, _⟩⟩ := f
        go_simp
        all_goals (try omega)
      clear hK K
      simp only [Act.put, List.setIfInBounds_toArray, List.set_cons_succ, List.set_cons_zero]
      refine wpQuiet_nil ?_
      intro W hW
      go_wp2_with fail
      go_roundw
      case rel => exact ⟨k + 1, by omega, by go_num, hW⟩
      case measure => simp [intOf]; omega
    · go_wp2_with fail
      go_ret
      exact ⟨rfl, hb⟩
theorem zbig_of {x : ZonT} (h : x.1.length + x.2.2.length + wtR x.2.2 ≤ 1048576) : ZBig x := by
  refine ⟨by omega, by omega, fun r hr => ?_⟩
  have := wtR_mem hr; omega
theorem sz_world {L : List ZonT} {q : Int} (h0 : 0 ≤ q) (h : q = 1048576 - (L.length : Int) - (wtZ L : Int)) : L.length ≤ 1048576 ∧ ∀ x ∈ L, ZBig x := by
  refine ⟨by omega, fun x hx => zbig_of ?_⟩
  have := wtZ_one hx; omega
/-- A world. -/
def WldV (v : Value) : Value := .agg #[v]
theorem box1w {w W : World} {a : Value} {t : TypeId} (hb : Below (w.alloc (.cells #[a] t)).heap.size (w.alloc (.cells #[a] t)) W) : W.cell? ⟨w.heap.size, 0, none⟩ = some a ∧ Below w.heap.size w W := by
  have hz : w.heap.size < (w.alloc (.cells #[a] t)).heap.size := by simp
  refine ⟨?_, ((Below.refl w.heap.size w).alloc (Nat.le_refl _) _).trans (hb.mono (Nat.le_of_lt hz))⟩
  rw [hb.cell (p := ⟨w.heap.size, _, none⟩) hz]; simp
theorem wld_cell {W : World} {b : Nat} {v0 : Value} {t : TypeId} (h : W.heap[b]? = some (.cells #[v0] t)) : W.cell? ⟨b, 0, none⟩ = some v0 := by unfold World.cell?; rw [h]; rfl

set_option maxRecDepth 20000 in
set_option maxHeartbeats 1000000 in
theorem szWorld_any (v : Value) (L : List ZonT) (left : Int) (w : World) (hr : ZnRow w v L) (hx : Hid (∀ x ∈ L, ZFit x)) (h0 : 0 ≤ left) (h1 : left ≤ 1048576) :
    Calls Tryz.prog 8 #[WldV v, .int .i64 left] w fun e w' => (∃ q : Int, e = .returned (.int .i64 q) ∧ (q = -1 ∨ (0 ≤ q ∧ q = left - (L.length : Int) - (wtZ L : Int)))) ∧ Below w.heap.size w w' := by
  unfold WldV
  obtain ⟨aa, ca, rfl, _, hca, _⟩ := id hr
  have HRA : Hid (∀ W, Below w.heap.size w W → ZnRow W (.slice aa L.length ca) L) := fun W hW => hr.kept hW
  clear hr
  go_enter Tryz.func8, Tryz.ntmps8
  go_wp2_with fail
  refine (szZoneS_any _ L left _ (HRA.out _ ((Below.refl w.heap.size w).alloc (Nat.le_refl _) _)) hx h0 h1).mono ?_
  rintro e w1 ⟨⟨q1, rfl, hq1⟩, hb1⟩
  obtain ⟨_, hbw⟩ := box1w hb1
  rcases hq1 with rfl | ⟨hp1, hq1⟩
  · go_wp2_with fail
    go_ret
    exact ⟨⟨-1, rfl, .inl rfl⟩, hbw⟩
  · have HQ1 : Hid (q1 = left - (L.length : Int) - (wtZ L : Int)) := hq1
    clear hq1
    go_wp2_with fail
    go_ret
    exact ⟨⟨q1, rfl, .inr ⟨hp1, HQ1.out⟩⟩, hbw⟩

set_option maxRecDepth 20000 in
set_option maxHeartbeats 1000000 in
theorem eqWorld_same (v v2 : Value) (L : List ZonT) (w : World) (ha : ZnRow w v L) (ha2 : ZnRow w v2 L) :
    Calls Tryz.prog 12 #[WldV v, WldV v2] w fun e w' => e = .returned (.bool true) ∧ Below w.heap.size w w' := by
  unfold WldV
  obtain ⟨aa, ca, rfl, _, hca, _⟩ := id ha
  obtain ⟨aa2, ca2, rfl, _, hca2, _⟩ := id ha2
  have HRA : Hid (∀ W, Below w.heap.size w W → ZnRow W (.slice aa L.length ca) L ∧ ZnRow W (.slice aa2 L.length ca2) L) := fun W hW => ⟨ha.kept hW, ha2.kept hW⟩
  clear ha ha2
  go_enter Tryz.func12, Tryz.ntmps12
  go_wp2_with fail
  have hA := HRA.out _ (((Below.refl w.heap.size w).alloc (Nat.le_refl _) (.cells #[.slice aa L.length ca] 29)).alloc (by simp) (.cells #[.slice aa2 L.length ca2] 29))
  refine (eqZoneS_same _ _ L _ hA.1 hA.2).mono ?_
  rintro e w1 ⟨rfl, hb1⟩
  obtain ⟨_, _, hbw⟩ := box2 hb1
  clear hA
  go_wp2_with fail
  go_ret
  exact ⟨rfl, hbw⟩
end Go.Proofs.YtgfldenhhogpbaaGreatDoor

namespace Go.Proofs.YtgfldenhhogpbaaGreatDoor
open Go.RowKit

/-- A zone in cells of the call's own, its records in a block of their own. -/
def ZonIn (w : World) (g o t : Nat) (x : ZonT) : Prop :=
  w.cell? ⟨g, o, none⟩ = some (.string ⟨x.1.toArray⟩) ∧ w.cell? ⟨g, o + 1, none⟩ = some (.int .i64 x.2.1) ∧ w.cell? ⟨g, o + 2, none⟩ = some (.slice (some ⟨t, 0, none⟩) x.2.2.length x.2.2.length) ∧ QRow w t x.2.2
/-- Gaps in a block of the call's own: the records of each in a block of its own, behind. -/
def ZnOwn (w : World) (g : Nat) (T : Nat → Nat) (L : List ZonT) : Prop :=
  g < w.heap.size ∧ (∀ c, c < L.length * 3 → (∃ v, w.cell? ⟨g, c, none⟩ = some v) ∧ w.frozen? ⟨g, c, none⟩ = false) ∧ (∀ j, (hj : j < L.length) → g < T j ∧ ZonIn w g (j * 3) (T j) L[j]) ∧ ∀ i j, i < j → j < L.length → T i < T j
theorem ZonIn.kept {w w' : World} {g o t : Nat} {x : ZonT} (h : ZonIn w g o t x) (hb : Below w.heap.size w w') : ZonIn w' g o t x := by
  have hlt := World.block_lt_of_cell? _ _ h.1
  unfold ZonIn
  rw [hb.cell (p := ⟨g, o, none⟩) hlt, hb.cell (p := ⟨g, o + 1, none⟩) hlt, hb.cell (p := ⟨g, o + 2, none⟩) hlt]
  exact ⟨h.1, h.2.1, h.2.2.1, h.2.2.2.kept hb⟩
theorem ZonIn.at {w : World} {g o t : Nat} {x : ZonT} (h : ZonIn w g o t x) (hl : x.2.2.length ≤ 1048576) : ZonAt w g o x (.slice (some ⟨t, 0, none⟩) x.2.2.length x.2.2.length) := ⟨h.1, h.2.1, h.2.2.1, h.2.2.2.row (Nat.le_refl _) (by unfold maxLen; omega)⟩
theorem ZnOwn.kept {w w' : World} {g : Nat} {T : Nat → Nat} {L : List ZonT} (h : ZnOwn w g T L) (hb : Below w.heap.size w w') : ZnOwn w' g T L :=
  ⟨Nat.lt_of_lt_of_le h.1 hb.size, fun c hc => by rw [hb.cell (p := ⟨g, c, none⟩) h.1, hb.frozen (p := ⟨g, c, none⟩) h.1]; exact h.2.1 c hc, fun j hj => ⟨(h.2.2.1 j hj).1, (h.2.2.1 j hj).2.kept hb⟩, h.2.2.2⟩
theorem ZnOwn.row {w : World} {g cap : Nat} {T : Nat → Nat} {L : List ZonT} (h : ZnOwn w g T L) (hx : ∀ x ∈ L, x.2.2.length ≤ 1048576) (hc : L.length ≤ cap) (hm : cap ≤ maxLen) : ZnRow w (.slice (some ⟨g, 0, none⟩) L.length cap) L :=
  ⟨_, cap, rfl, hc, hm, .inr ⟨g, 0, rfl, h.1, fun j hj => ⟨_, by rw [Nat.zero_add]; exact (h.2.2.1 j hj).2.at (hx _ (List.getElem_mem hj))⟩⟩⟩
/-- What has been copied behind k rounds. -/
def ZnPart (w : World) (g : Nat) (T : Nat → Nat) (L : List ZonT) (k : Nat) : Prop :=
  g < w.heap.size ∧ (∀ c, c < L.length * 3 → (∃ v, w.cell? ⟨g, c, none⟩ = some v) ∧ w.frozen? ⟨g, c, none⟩ = false) ∧ (∀ j, (hj : j < L.length) → j < k → g < T j ∧ T j < w.heap.size ∧ ZonIn w g (j * 3) (T j) L[j]) ∧ ∀ i j, i < j → j < k → T i < T j
theorem ZnPart.kept {w w' : World} {g k : Nat} {T : Nat → Nat} {L : List ZonT} (h : ZnPart w g T L k) (hb : Below w.heap.size w w') : ZnPart w' g T L k :=
  ⟨Nat.lt_of_lt_of_le h.1 hb.size, fun c hc => by rw [hb.cell (p := ⟨g, c, none⟩) h.1, hb.frozen (p := ⟨g, c, none⟩) h.1]; exact h.2.1 c hc, fun j hj hk => ⟨(h.2.2.1 j hj hk).1, Nat.lt_of_lt_of_le (h.2.2.1 j hj hk).2.1 hb.size, (h.2.2.1 j hj hk).2.2.kept hb⟩, h.2.2.2⟩
/-- A zone stored. -/
def zputAt (w : World) (g o : Nat) (a b c : Value) : World := ((w.setCell ⟨g, o, none⟩ a).setCell ⟨g, o + 1, none⟩ b).setCell ⟨g, o + 2, none⟩ c
theorem zputAt_size (w : World) (g o : Nat) (a b c : Value) : (zputAt w g o a b c).heap.size = w.heap.size := by unfold zputAt; simp
theorem zputAt_frozen (w : World) (g o : Nat) (a b c : Value) (p : Addr) : (zputAt w g o a b c).frozen? p = w.frozen? p := by unfold zputAt; simp
theorem zputAt_other {w : World} {g o : Nat} {x y z : Value} {b c : Nat} (h : b ≠ g ∨ (c < o ∨ o + 2 < c)) : (zputAt w g o x y z).cell? ⟨b, c, none⟩ = w.cell? ⟨b, c, none⟩ := by
  have hn : ∀ k, k ≤ 2 → (⟨g, o + k, none⟩ : Addr) ≠ ⟨b, c, none⟩ := fun k hk e => by
    injection e with e1 e2
    rcases h with h | h
    · exact h e1.symm
    · omega
  unfold zputAt
  rw [World.cell?_setCell_other _ _ _ _ (hn 2 (by omega)), World.cell?_setCell_other _ _ _ _ (hn 1 (by omega)), World.cell?_setCell_other _ _ _ _ (show (⟨g, o, none⟩ : Addr) ≠ ⟨b, c, none⟩ from hn 0 (by omega))]
theorem zputAt_at {w : World} {g o : Nat} {a b c a' b' c' : Value} (h0 : w.cell? ⟨g, o, none⟩ = some a') (h1 : w.cell? ⟨g, o + 1, none⟩ = some b') (h2 : w.cell? ⟨g, o + 2, none⟩ = some c') :
    (zputAt w g o a b c).cell? ⟨g, o, none⟩ = some a ∧ (zputAt w g o a b c).cell? ⟨g, o + 1, none⟩ = some b ∧ (zputAt w g o a b c).cell? ⟨g, o + 2, none⟩ = some c := by
  have n : ∀ a b : Nat, a ≠ b → (⟨g, o + a, none⟩ : Addr) ≠ ⟨g, o + b, none⟩ := fun a b hab e => by injection e with _ e2; omega
  unfold zputAt
  refine ⟨?_, ?_, ?_⟩
  · rw [World.cell?_setCell_other _ _ _ _ (show (⟨g, o + 2, none⟩ : Addr) ≠ ⟨g, o, none⟩ from n 2 0 (by omega)), World.cell?_setCell_other _ _ _ _ (show (⟨g, o + 1, none⟩ : Addr) ≠ ⟨g, o, none⟩ from n 1 0 (by omega))]
    exact World.cell?_setCell_same _ _ _ h0
  · rw [World.cell?_setCell_other _ _ _ _ (n 2 1 (by omega))]
    exact World.cell?_setCell_same _ _ _ (by rw [World.cell?_setCell_other _ _ _ _ (show (⟨g, o, none⟩ : Addr) ≠ ⟨g, o + 1, none⟩ from n 0 1 (by omega))]; exact h1)
  · exact World.cell?_setCell_same _ _ _ (by rw [World.cell?_setCell_other _ _ _ _ (n 1 2 (by omega)), World.cell?_setCell_other _ _ _ _ (show (⟨g, o, none⟩ : Addr) ≠ ⟨g, o + 2, none⟩ from n 0 2 (by omega))]; exact h2)
theorem zputAt_below {B : Nat} {a w : World} (h : Below B a w) {g o : Nat} (hg : B ≤ g) (x y z : Value) : Below B a (zputAt w g o x y z) :=
  ((h.setCell (p := ⟨g, o, none⟩) hg _).setCell (p := ⟨g, o + 1, none⟩) hg _).setCell (p := ⟨g, o + 2, none⟩) hg _
theorem qrow_zput {w : World} {g o t : Nat} {x y z : Value} {P : List (List UInt8 × Int × Int × List UInt8)} (h : QRow w t P) (hne : g ≠ t) : QRow (zputAt w g o x y z) t P := by
  unfold zputAt
  exact ((h.far hne _).far hne _).far hne _
def updZ (T : Nat → Nat) (k t : Nat) (j : Nat) : Nat := if j = k then t else T j
theorem updZ_same (T : Nat → Nat) (k t : Nat) : updZ T k t k = t := if_pos rfl
theorem updZ_ne (T : Nat → Nat) (k t : Nat) {j : Nat} (h : j ≠ k) : updZ T k t j = T j := if_neg h
theorem ZnPart.put {w : World} {g k t : Nat} {T : Nat → Nat} {L : List ZonT} (h : ZnPart w g T L k) (hk : k < L.length) (hgt : g < t) (ht : ∀ j, j < k → T j < t) (hz : QRow w t (L[k]'hk).2.2) :
    ZnPart (zputAt w g (k * 3) (.string ⟨(L[k]'hk).1.toArray⟩) (.int .i64 (L[k]'hk).2.1) (.slice (some ⟨t, 0, none⟩) (L[k]'hk).2.2.length (L[k]'hk).2.2.length)) g (updZ T k t) L (k + 1) := by
  obtain ⟨⟨v0, m0⟩, _⟩ := h.2.1 (k * 3) (by omega)
  obtain ⟨⟨v1, m1⟩, _⟩ := h.2.1 (k * 3 + 1) (by omega)
  obtain ⟨⟨v2, m2⟩, _⟩ := h.2.1 (k * 3 + 2) (by omega)
  have hat := zputAt_at (a := .string ⟨(L[k]'hk).1.toArray⟩) (b := .int .i64 (L[k]'hk).2.1) (c := .slice (some ⟨t, 0, none⟩) (L[k]'hk).2.2.length (L[k]'hk).2.2.length) m0 m1 m2
  refine ⟨by rw [zputAt_size]; exact h.1, fun c hc => ?_, fun j hj hjk => ?_, fun i j hij hjk => ?_⟩
  · rw [zputAt_frozen]
    refine ⟨?_, (h.2.1 c hc).2⟩
    by_cases g1 : c < k * 3 ∨ k * 3 + 2 < c
    · rw [zputAt_other (.inr g1)]; exact (h.2.1 c hc).1
    · rcases (show c = k * 3 ∨ c = k * 3 + 1 ∨ c = k * 3 + 2 by omega) with rfl | rfl | rfl
      · exact ⟨_, hat.1⟩
      · exact ⟨_, hat.2.1⟩
      · exact ⟨_, hat.2.2⟩
  · by_cases e : j = k
    · subst e
      refine ⟨by rw [updZ_same]; exact hgt, by rw [updZ_same, zputAt_size]; exact hz.1, ?_⟩
      rw [updZ_same]
      exact ⟨hat.1, hat.2.1, hat.2.2, qrow_zput hz (by omega)⟩
    · obtain ⟨a1, a2, a3⟩ := h.2.2.1 j hj (by omega)
      refine ⟨by rw [updZ_ne _ _ _ e]; exact a1, by rw [updZ_ne _ _ _ e, zputAt_size]; exact a2, ?_⟩
      rw [updZ_ne _ _ _ e]
      unfold ZonIn at a3 ⊢
      rw [zputAt_other (.inr (by omega)), zputAt_other (.inr (by omega)), zputAt_other (.inr (by omega))]
      exact ⟨a3.1, a3.2.1, a3.2.2.1, qrow_zput a3.2.2.2 (by omega)⟩
  · by_cases e : j = k
    · rw [e, updZ_same, updZ_ne _ _ _ (by omega)]; exact ht i (by omega)
    · rw [updZ_ne _ _ _ e, updZ_ne _ _ _ (by omega)]; exact h.2.2.2 i j hij (by omega)
theorem ZnPart.done {w : World} {g k : Nat} {T : Nat → Nat} {L : List ZonT} (h : ZnPart w g T L k) (hk : ¬ k < L.length) : ZnOwn w g T L :=
  ⟨h.1, h.2.1, fun j hj => ⟨(h.2.2.1 j hj (by omega)).1, (h.2.2.1 j hj (by omega)).2.2⟩, fun i j hij hj => h.2.2.2 i j hij (by omega)⟩
theorem info_zon : (Tryz.prog.info? 52).map (fun i => (i.zero, i.size, i.bytes)) = some (some (.agg #[.string ByteArray.empty, .int .i64 0, .slice none 0 0]), 3, 48) := by kernel_rfl
theorem madez_at {n c : Nat} {x y z : Value} (hc : c < n * 3) : ∃ v, (madeCells #[x, y, z] (n * 3)).toList[c]? = some v := by
  unfold madeCells
  simp only [Array.toList_map, Array.toList_range, List.getElem?_map, List.getElem?_range hc, Option.map_some]
  exact ⟨_, rfl⟩
theorem made_zpart {w w1 : World} {L : List ZonT} (T : Nat → Nat) (hg : w.heap.size < w1.heap.size) (h : w1.ownsRow w.heap.size 52 3 (.slice (some ⟨w.heap.size, 0, none⟩) L.length L.length) L.length (madeCells #[.string ByteArray.empty, .int .i64 0, .slice none 0 0] (L.length * 3)).toList) : ZnPart w1 w.heap.size T L 0 := by
  refine ⟨hg, fun c hc => ⟨?_, h.frozenAt _⟩, fun j _ hj => absurd hj (Nat.not_lt_zero _), fun i j _ hj => absurd hj (Nat.not_lt_zero _)⟩
  obtain ⟨v, hv⟩ := madez_at (x := .string ByteArray.empty) (y := .int .i64 0) (z := .slice none 0 0) hc
  exact ⟨v, by rw [h.cellAt c hc]; exact hv⟩

set_option maxRecDepth 20000 in
set_option maxHeartbeats 2000000 in
theorem toZoneS_any (v : Value) (L : List ZonT) (w : World) (hr : ZnRow w v L) (hl : L.length ≤ 1048576) (hx : Hid (∀ x ∈ L, x.2.2.length ≤ 1048576)) :
    Calls Tryz.prog 34 #[v] w fun e w' => ∃ T, e = .returned (.slice (some ⟨w.heap.size, 0, none⟩) L.length L.length) ∧ ZnOwn w' w.heap.size T L ∧ Below w.heap.size w w' := by
  obtain ⟨i0, hi, hz0, hz1, hz2⟩ := info_parts info_zon
  obtain ⟨a, cap, rfl, hcap, hmax, HROW⟩ := znrow_value hr
  have HTO : Hid (∀ (x : ZonT) (va : Value) W, RRow W va x.2.2 → x.2.2.length ≤ 1048576 → Calls Tryz.prog 25 #[.agg #[.string ⟨x.1.toArray⟩, .int .i64 x.2.1, va]] W fun e w' => (∃ g, e = .returned (.agg #[.string ⟨x.1.toArray⟩, .int .i64 x.2.1, .slice (some ⟨g, 0, none⟩) x.2.2.length x.2.2.length]) ∧ W.heap.size ≤ g ∧ QRow w' g x.2.2) ∧ Below W.heap.size W w') := fun x va W h1 h2 => toZone_any ⟨x.1.toArray⟩ x.2.1 va x.2.2 W h1 h2
  clear hr
  go_enter Tryz.func34, Tryz.ntmps34
  go_wp2_with (at_make; refine wpList_make_full _ rfl _ _ 27 rfl w.heap.size 52 i0 (.agg #[.string ByteArray.empty, .int .i64 0, .slice none 0 0]) 3 Tryz.underlying27 hi hz0 hz1 _ _ _ _ L.length rfl rfl rfl rfl ?b2 ?b3 ?b4 ?_)
  case b2 => rw [hz2]; omega
  case b3 => unfold maxLen; omega
  case b4 => exact Nat.le_refl _
  intro w1 hown hgrow
  have hb1 : Below w.heap.size w w1 := (Below.refl _ _).grown hgrow (Nat.le_refl _) (fun k h => by cases h)
  have hlt1 : w.heap.size < w1.heap.size := (hown.lt w.heap.size rfl).2
  have HS1 : Hid (ZnPart w1 w.heap.size (fun _ => 0) L 0) := made_zpart _ hlt1 hown
  clear hown hgrow hlt1
  go_wp2_with fail
  go_loopw [4] (fun i wr => ∃ k : Nat, k ≤ L.length ∧ i = .int .i64 (k : Int) ∧ Hid (∃ T, ZnPart wr w.heap.size T L k) ∧ Below w.heap.size w wr) (fun i _ => L.length - (intOf i).toNat)
  case atStart => exact ⟨0, Nat.zero_le _, rfl, ⟨_, HS1.out⟩, hb1⟩
  case round =>
    obtain ⟨k, hk, rfl, HR, hb⟩ := hrel
    clear HS1 hb1
    by_cases hlt : k < L.length
    · obtain ⟨b, o, ha, hbl, hcel⟩ := HROW.out (by omega)
      rw [ha]
      obtain ⟨va, hcx0⟩ := hcel k hlt
      have hcx := hcx0.kept hb
      have hxl := hx.out _ (List.getElem_mem hlt)
      have HST : Hid (∀ W t, Below wr.heap.size wr W → wr.heap.size ≤ t → QRow W t (L[k]'hlt).2.2 → (∀ c, c < L.length * 3 → (∃ v, W.cell? ⟨w.heap.size, c, none⟩ = some v) ∧ W.frozen? ⟨w.heap.size, c, none⟩ = false) ∧ ∃ T, ZnPart (zputAt W w.heap.size (k * 3) (.string ⟨(L[k]'hlt).1.toArray⟩) (.int .i64 (L[k]'hlt).2.1) (.slice (some ⟨t, 0, none⟩) (L[k]'hlt).2.2.length (L[k]'hlt).2.2.length)) w.heap.size T L (k + 1)) := fun W t hW ht hz => by
        obtain ⟨T, hT⟩ := HR.out
        have h1 := hT.kept hW
        exact ⟨h1.2.1, _, h1.put hlt (by have := hT.1; omega) (fun j hj => by have := (hT.2.2.1 j (by omega) hj).2.1; omega) hz⟩
      obtain ⟨x, hxe⟩ : ∃ x, x = L[k]'hlt := ⟨_, rfl⟩
      rw [← hxe] at hcx hxl HST
      have hz : RRow wr va x.2.2 := hcx.2.2.2
      unfold ZonAt at hcx
      have c0 := hcx.1
      have c1 := hcx.2.1
      have c2 := hcx.2.2.1
      clear hcx
      have HC : Hid (Calls Tryz.prog 25 #[.agg #[.string ⟨x.1.toArray⟩, .int .i64 x.2.1, va]] wr fun e w' => (∃ g, e = .returned (.agg #[.string ⟨x.1.toArray⟩, .int .i64 x.2.1, .slice (some ⟨g, 0, none⟩) x.2.2.length x.2.2.length]) ∧ wr.heap.size ≤ g ∧ QRow w' g x.2.2) ∧ Below wr.heap.size wr w') := HTO.out x va wr hz hxl
      obtain ⟨aa, ca, rfl, _, _, _⟩ := hz
      clear hcel hxe hcx0 HTO
      go_wp2_with fail
      refine HC.out.mono ?_
      rintro e w2 ⟨⟨t, rfl, ht, hzt⟩, hb2⟩
      obtain ⟨hcells, hst⟩ := HST.out w2 t hb2 ht hzt
      obtain ⟨⟨y0, m0⟩, f0⟩ := hcells (k * 3) (by omega)
      obtain ⟨⟨y1, m1⟩, f1⟩ := hcells (k * 3 + 1) (by omega)
      obtain ⟨⟨y2, m2⟩, f2⟩ := hcells (k * 3 + 2) (by omega)
      have HQ : Hid (∃ T, ZnPart (zputAt w2 w.heap.size (k * 3) (.string ⟨x.1.toArray⟩) (.int .i64 x.2.1) (.slice (some ⟨t, 0, none⟩) x.2.2.length x.2.2.length)) w.heap.size T L (k + 1)) := hst
      have hb3 : Below w.heap.size w (zputAt w2 w.heap.size (k * 3) (.string ⟨x.1.toArray⟩) (.int .i64 x.2.1) (.slice (some ⟨t, 0, none⟩) x.2.2.length x.2.2.length)) := zputAt_below (hb.trans (hb2.mono hb.size)) (Nat.le_refl _) _ _ _
      unfold zputAt at HQ hb3
      clear hcells hst hb2 c0 c1 c2 hzt HST HC
      go_wp2_with fail
      go_roundw
      case rel => exact ⟨k + 1, by omega, by go_num, HQ, hb3⟩
      case measure => simp [intOf]; omega
    · have HRR : Hid (∃ T, ZnOwn wr w.heap.size T L) := by obtain ⟨T, hT⟩ := HR.out; exact ⟨T, hT.done hlt⟩
      clear HR
      go_wp2_with fail
      go_ret
      obtain ⟨T, hT⟩ := HRR.out
      exact ⟨T, rfl, hT, hb⟩
theorem ZnOwn.far {w : World} {g g' k : Nat} {T : Nat → Nat} {L : List ZonT} (h : ZnOwn w g T L) (hne : g' < g) (u : Value) : ZnOwn (w.setCell ⟨g', k, none⟩ u) g T L := by
  have n : ∀ b o, g ≤ b → (⟨g', k, none⟩ : Addr) ≠ ⟨b, o, none⟩ := fun b o hb e => by injection e with e1; omega
  refine ⟨by simpa using h.1, fun c hc => ?_, fun j hj => ⟨(h.2.2.1 j hj).1, ?_⟩, h.2.2.2⟩
  · rw [World.cell?_setCell_other _ _ _ _ (n _ _ (Nat.le_refl _))]
    simpa using h.2.1 c hc
  · have hT := (h.2.2.1 j hj).1
    obtain ⟨h0, h1, h2, h3⟩ := (h.2.2.1 j hj).2
    refine ⟨?_, ?_, ?_, h3.far (by omega) _⟩
    all_goals (rw [World.cell?_setCell_other _ _ _ _ (n _ _ (Nat.le_refl _))]; assumption)

set_option maxRecDepth 20000 in
set_option maxHeartbeats 2000000 in
theorem toWorld_any (v : Value) (L : List ZonT) (w : World) (hr : ZnRow w v L) (hl : L.length ≤ 1048576) (hx : Hid (∀ x ∈ L, ZBig x)) :
    Calls Tryz.prog 10 #[WldV v] w fun e w' => (∃ g T, e = .returned (WldV (.slice (some ⟨g, 0, none⟩) L.length L.length)) ∧ w.heap.size ≤ g ∧ ZnOwn w' g T L) ∧ Below w.heap.size w w' := by
  unfold WldV
  obtain ⟨aa, ca, rfl, _, hca, _⟩ := id hr
  have HRA : Hid (∀ W, Below w.heap.size w W → ZnRow W (.slice aa L.length ca) L) := fun W hW => hr.kept hW
  clear hr
  go_enter Tryz.func10, Tryz.ntmps10
  go_wp2_with fail
  refine (toZoneS_any _ L _ (HRA.out _ ((((Below.refl w.heap.size w).alloc (Nat.le_refl _) _).alloc (by simp) _).alloc (by simp; omega) _)) hl (fun x h => (hx.out x h).2.1)).mono ?_
  rintro e w1 ⟨T, rfl, hq1, hb1⟩
  obtain ⟨c, d, fz, r, rz, hsz, hblk, hbw⟩ := box3 hb1
  have d0 := d 0
  have fz0 := fz 0
  have r0 := r 0
  have s0 := rz 0
  simp at d0 r0
  have HQ : Hid (ZnOwn w1 (w.heap.size + 1 + 1 + 1) T L) := by
    have h : ZnOwn w1 (w.heap.size + 1 + 1 + 1) T L := by simpa using hq1
    exact h
  have HK : Hid (w1.heap[w.heap.size + 1]? = some (.cells #[.slice none 0 0] 29)) := hblk
  clear c d fz r rz hq1 hblk
  go_wp2_with fail
  (try simp only [Exit.inBlock, Exit.then])
  refine bodyPost_ret (results_cell_row rfl _ _ (w.heap.size + 1) 29 #[.slice (some ⟨w.heap.size + 1 + 1 + 1, 0, none⟩) L.length L.length] (0, 0) _ rfl ?_ Tryz.underlying29 rfl (by kernel_rfl)) rfl ⟨⟨w.heap.size + 1 + 1 + 1, T, rfl, by omega, ?_⟩, ?_⟩
  · have e0 := heap_setCell_same (w1.setCell ⟨w.heap.size + 1 + 1, 0, none⟩ (.slice (some ⟨w.heap.size + 1 + 1 + 1, 0, none⟩) L.length L.length)) (w.heap.size + 1) 0 _ _ (.slice (some ⟨w.heap.size + 1 + 1 + 1, 0, none⟩) L.length L.length) (by rw [heap_setCell_other _ _ _ _ (show w.heap.size + 1 ≠ w.heap.size + 1 + 1 by omega)]; exact HK.out)
    simpa using e0
  · exact (HQ.out.far (by omega) _).far (by omega) _
  · exact (hbw.setCell (p := ⟨w.heap.size + 1 + 1, 0, none⟩) (by show w.heap.size ≤ w.heap.size + 1 + 1; omega) _).setCell (p := ⟨w.heap.size + 1, 0, none⟩) (by show w.heap.size ≤ w.heap.size + 1; omega) _
end Go.Proofs.YtgfldenhhogpbaaGreatDoor
