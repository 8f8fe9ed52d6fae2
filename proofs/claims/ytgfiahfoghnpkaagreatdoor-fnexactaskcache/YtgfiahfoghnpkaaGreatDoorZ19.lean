import Derived.Test.YtgfiahfoghnpkaaGreatDoorZ17
import Derived.Test.YtgfiahfoghnpkaaGreatDoorZ16
import Derived.Test.YtgfiahfoghnpkaaGreatDoorZ18
namespace Go.Proofs.YtgfiahfoghnpkaaGreatDoor
open Go.RowKit

/-- An entry: name, type, none, records, until, used. -/
abbrev EntT : Type := List UInt8 × Int × Bool × List (List UInt8 × Int × Int × List UInt8) × Int × Int
/-- The six cells of an entry at a place of a block. -/
def EntAt (w : World) (b o : Nat) (x : EntT) (v : Value) : Prop :=
  (w.cell? ⟨b, o, none⟩ = some (.string ⟨x.1.toArray⟩) ∧ w.cell? ⟨b, o + 1, none⟩ = some (.int .i64 x.2.1) ∧ w.cell? ⟨b, o + 2, none⟩ = some (.bool x.2.2.1) ∧ w.cell? ⟨b, o + 3, none⟩ = some (v) ∧ w.cell? ⟨b, o + 4, none⟩ = some (.int .i64 x.2.2.2.2.1) ∧ w.cell? ⟨b, o + 5, none⟩ = some (.int .i64 x.2.2.2.2.2)) ∧ RRow w v x.2.2.2.1
/-- A list of entries as it lies in memory. -/
def ERow (w : World) (v : Value) (L : List EntT) : Prop :=
  ∃ a cap, v = .slice a L.length cap ∧ L.length ≤ cap ∧ cap ≤ maxLen ∧ (L = [] ∨ ∃ b o, a = some ⟨b, o, none⟩ ∧ b < w.heap.size ∧ ∀ j, (hj : j < L.length) → ∃ va, EntAt w b (o + j * 6) L[j] va)
theorem EntAt.kept {w w' : World} {b o : Nat} {x : EntT} {v : Value} (h : EntAt w b o x v) (hb : Below w.heap.size w w') : EntAt w' b o x v := by
  have hlt := World.block_lt_of_cell? _ _ h.1.1
  unfold EntAt
  rw [hb.cell (p := ⟨b, o, none⟩) hlt, hb.cell (p := ⟨b, o + 1, none⟩) hlt, hb.cell (p := ⟨b, o + 2, none⟩) hlt, hb.cell (p := ⟨b, o + 3, none⟩) hlt, hb.cell (p := ⟨b, o + 4, none⟩) hlt, hb.cell (p := ⟨b, o + 5, none⟩) hlt]
  exact ⟨h.1, h.2.kept hb⟩
theorem ERow.kept {w w' : World} {v : Value} {L : List EntT} (h : ERow w v L) (hb : Below w.heap.size w w') : ERow w' v L := by
  obtain ⟨a, cap, rfl, h1, h2, h3⟩ := h
  refine ⟨a, cap, rfl, h1, h2, ?_⟩
  rcases h3 with h3 | ⟨b, o, rfl, hb1, hc⟩
  · exact .inl h3
  · exact .inr ⟨b, o, rfl, Nat.lt_of_lt_of_le hb1 hb.size, fun j hj => by obtain ⟨va, h⟩ := hc j hj; exact ⟨va, h.kept hb⟩⟩
theorem erow_value {w : World} {v : Value} {L : List EntT} (h : ERow w v L) : ∃ a cap, v = .slice a L.length cap ∧ L.length ≤ cap ∧ cap ≤ 9223372036854775807 ∧ Hid (0 < L.length → ∃ b o, a = some ⟨b, o, none⟩ ∧ b < w.heap.size ∧ ∀ j, (hj : j < L.length) → ∃ va, EntAt w b (o + j * 6) L[j] va) := by
  obtain ⟨a, cap, rfl, h1, h2, h3⟩ := h
  unfold maxLen at h2
  refine ⟨a, cap, rfl, h1, by omega, fun hp => ?_⟩
  rcases h3 with rfl | h3
  · simp at hp
  · exact h3
/-- How much entries weigh. -/
def wtE1 (x : EntT) : Nat := x.1.length + x.2.2.2.1.length + wtR x.2.2.2.1
def wtE (L : List EntT) : Nat := (L.map wtE1).sum
theorem wtE_snoc (L : List EntT) (k : Nat) (h : k < L.length) : wtE (L.take (k + 1)) = wtE (L.take k) + wtE1 L[k] := by
  unfold wtE; rw [List.take_succ_eq_append_getElem h, List.map_append, List.sum_append]; simp only [List.map_cons, List.map_nil, List.sum_cons, List.sum_nil, Nat.add_zero]
theorem wtE_le (L : List EntT) (k : Nat) : wtE (L.take k) ≤ wtE L := by
  have h : wtE L = wtE (L.take k) + wtE (L.drop k) := by unfold wtE; rw [← List.sum_append, ← List.map_append, List.take_append_drop]
  omega
theorem wtE_one {L : List EntT} {x : EntT} (h : x ∈ L) : wtE1 x ≤ wtE L := by
  obtain ⟨k, hk, rfl⟩ := List.getElem_of_mem h
  have h1 := wtE_snoc L k hk
  have h2 := wtE_le L (k + 1)
  omega
/-- Texts no longer than any can be; than the laws ask about. -/
def EFit (x : EntT) : Prop := x.1.length ≤ maxLen ∧ ∀ r ∈ x.2.2.2.1, r.1.length ≤ maxLen ∧ r.2.2.2.length ≤ maxLen
def EBig (x : EntT) : Prop := x.1.length ≤ 1048576 ∧ x.2.2.2.1.length ≤ 1048576 ∧ ∀ r ∈ x.2.2.2.1, r.1.length ≤ 1048576 ∧ r.2.2.2.length ≤ 1048576
theorem ebig_of {x : EntT} (h : wtE1 x ≤ 1048576) : EBig x := by
  unfold wtE1 at h
  refine ⟨by omega, by omega, fun r hr => ?_⟩
  have := wtR_mem hr; omega
theorem box6c {w W : World} {a b c d e f : Value} {t : TypeId} (hb : Below (w.alloc (.cells #[a, b, c, d, e, f] t)).heap.size (w.alloc (.cells #[a, b, c, d, e, f] t)) W) :
    (W.cell? ⟨w.heap.size, 0, none⟩ = some a ∧ W.cell? ⟨w.heap.size, 1, none⟩ = some b ∧ W.cell? ⟨w.heap.size, 2, none⟩ = some c ∧ W.cell? ⟨w.heap.size, 3, none⟩ = some d ∧ W.cell? ⟨w.heap.size, 4, none⟩ = some e ∧ W.cell? ⟨w.heap.size, 5, none⟩ = some f) ∧ Below w.heap.size w W := by
  have hz : w.heap.size < (w.alloc (.cells #[a, b, c, d, e, f] t)).heap.size := by simp
  refine ⟨⟨?_, ?_, ?_, ?_, ?_, ?_⟩, ((Below.refl w.heap.size w).alloc (Nat.le_refl _) _).trans (hb.mono (Nat.le_of_lt hz))⟩
  all_goals (rw [hb.cell (p := ⟨w.heap.size, _, none⟩) hz]; simp)

set_option maxRecDepth 20000 in
set_option maxHeartbeats 1000000 in
theorem szEntry_any (x : EntT) (v : Value) (left : Int) (w : World) (hn : x.1.length ≤ maxLen) (hr : RRow w v x.2.2.2.1)
    (hx : Hid (∀ r ∈ x.2.2.2.1, r.1.length ≤ maxLen ∧ r.2.2.2.length ≤ maxLen)) (h0 : 0 ≤ left) (h1 : left ≤ 1048576) :
    Calls Tryz.prog 62 #[.agg #[.string ⟨x.1.toArray⟩, .int .i64 x.2.1, .bool x.2.2.1, v, .int .i64 x.2.2.2.2.1, .int .i64 x.2.2.2.2.2], .int .i64 left] w fun e w' => (∃ q : Int, e = .returned (.int .i64 q) ∧ (q = -1 ∨ (0 ≤ q ∧ q = left - (wtE1 x : Int)))) ∧ Below w.heap.size w w' := by
  have HW : Hid (∀ q : Int, q = left - (x.1.length : Int) - (x.2.2.2.1.length : Int) - (wtR x.2.2.2.1 : Int) → q = left - (wtE1 x : Int)) := fun q h => by unfold wtE1; omega
  obtain ⟨n0, ty, no, R, un, us⟩ := x
  simp only at hn hr hx HW ⊢
  obtain ⟨aa, ca, rfl, _, hca, _⟩ := id hr
  have HRA : Hid (∀ W, Below w.heap.size w W → RRow W (.slice aa R.length ca) R) := fun W hW => hr.kept hW
  clear hr
  unfold maxLen at hn
  by_cases g1 : left - (n0.length : Int) < 0
  · go_enter Tryz.func62, Tryz.ntmps62
    go_wp2_with fail
    go_ret
    exact ⟨⟨-1, rfl, .inl rfl⟩, (Below.refl w.heap.size w).alloc (Nat.le_refl _) _⟩
  · go_enter Tryz.func62, Tryz.ntmps62
    go_wp2_with fail
    refine (szRecordS_any _ R (left - (n0.length : Int)) _ (HRA.out _ ((Below.refl w.heap.size w).alloc (Nat.le_refl _) _)) hx (by omega) (by omega)).mono ?_
    rintro e w1 ⟨⟨q1, rfl, hq1⟩, hb1⟩
    obtain ⟨_, hbw⟩ := box6c hb1
    rcases hq1 with ⟨rfl, _⟩ | ⟨hq1, hp1⟩
    · go_wp2_with fail
      go_ret
      exact ⟨⟨-1, rfl, .inl rfl⟩, hbw⟩
    · have HQ1 : Hid (q1 = left - (wtE1 (n0, ty, no, R, un, us) : Int)) := HW.out q1 hq1
      clear hq1
      go_wp2_with fail
      go_ret
      exact ⟨⟨q1, rfl, .inr ⟨hp1, HQ1.out⟩⟩, hbw⟩

set_option maxRecDepth 20000 in
set_option maxHeartbeats 1000000 in
theorem szEntryS_any (v : Value) (L : List EntT) (left : Int) (w : World) (hr : ERow w v L) (hx : Hid (∀ x ∈ L, EFit x)) (h0 : 0 ≤ left) (h1 : left ≤ 1048576) :
    Calls Tryz.prog 30 #[v, .int .i64 left] w fun e w' => (∃ q : Int, e = .returned (.int .i64 q) ∧ (q = -1 ∨ (0 ≤ q ∧ q = left - (L.length : Int) - (wtE L : Int)))) ∧ Below w.heap.size w w' := by
  obtain ⟨a, cap, rfl, hcap, hmax, HROW⟩ := erow_value hr
  have HSZ : Hid (∀ (x : EntT) (va : Value) (q : Int) W, EFit x → RRow W va x.2.2.2.1 → 0 ≤ q → q ≤ 1048576 → Calls Tryz.prog 62 #[.agg #[.string ⟨x.1.toArray⟩, .int .i64 x.2.1, .bool x.2.2.1, va, .int .i64 x.2.2.2.2.1, .int .i64 x.2.2.2.2.2], .int .i64 q] W fun e w' => (∃ q2 : Int, e = .returned (.int .i64 q2) ∧ (q2 = -1 ∨ (0 ≤ q2 ∧ q2 = q - (wtE1 x : Int)))) ∧ Below W.heap.size W w') := fun x va q W g1 g3 g4 g5 => szEntry_any x va q W g1.1 g3 g1.2 g4 g5
  clear hr
  by_cases hneg : left - (L.length : Int) < 0
  · go_enter Tryz.func30, Tryz.ntmps30
    go_wp2_with fail
    go_ret
    exact ⟨⟨-1, rfl, .inl rfl⟩, Below.refl _ _⟩
  · have hpos : 0 ≤ left - (L.length : Int) := by omega
    clear hneg
    go_enter Tryz.func30, Tryz.ntmps30
    go_wp2_with fail
    go_loopw [1, 5] (fun q i wr => ∃ k : Nat, k ≤ L.length ∧ i = .int .i64 (k : Int) ∧ q = .int .i64 (left - (L.length : Int) - (wtE (L.take k) : Int)) ∧ 0 ≤ left - (L.length : Int) - (wtE (L.take k) : Int) ∧ Below w.heap.size w wr) (fun _ i _ => L.length - (intOf i).toNat)
    case atStart => exact ⟨0, Nat.zero_le _, rfl, by simp [wtE], by simpa [wtE] using hpos, Below.refl _ _⟩
    case round =>
      obtain ⟨k, hk, rfl, rfl, hq0, hb⟩ := hrel
      have hwl := wtE_le L k
      by_cases hlt : k < L.length
      · obtain ⟨b, o, ha, hbl, hcel⟩ := HROW.out (by omega)
        rw [ha]
        obtain ⟨va, hcx0⟩ := hcel k hlt
        have hcx := hcx0.kept hb
        unfold EntAt at hcx
        obtain ⟨⟨c0, c1, c2, c3, c4, c5⟩, hz⟩ := hcx
        have hxl := hx.out _ (List.getElem_mem hlt)
        have HST : Hid (wtE (L.take (k + 1)) = wtE (L.take k) + wtE1 (L[k]'hlt)) := wtE_snoc L k hlt
        obtain ⟨x, hxe⟩ : ∃ x, x = L[k]'hlt := ⟨_, rfl⟩
        rw [← hxe] at c0 c1 c2 c4 c5 hz hxl HST
        obtain ⟨q, hq⟩ : ∃ q : Int, q = left - (L.length : Int) - (wtE (L.take k) : Int) := ⟨_, rfl⟩
        have HQ : Hid (q = left - (L.length : Int) - (wtE (L.take k) : Int)) := hq
        rw [← hq] at hq0 ⊢
        have hq1 : q ≤ 1048576 := by omega
        have HC2 : Hid (Calls Tryz.prog 62 #[.agg #[.string ⟨x.1.toArray⟩, .int .i64 x.2.1, .bool x.2.2.1, va, .int .i64 x.2.2.2.2.1, .int .i64 x.2.2.2.2.2], .int .i64 q] wr fun e w' => (∃ q2 : Int, e = .returned (.int .i64 q2) ∧ (q2 = -1 ∨ (0 ≤ q2 ∧ q2 = q - (wtE1 x : Int)))) ∧ Below wr.heap.size wr w') := HSZ.out x va q wr hxl hz hq0 hq1
        obtain ⟨aa, ca, rfl, _, hca, _⟩ := hz
        clear hcel hxe hq hcx0 hxl
        go_wp2_with fail
        refine HC2.out.mono ?_
        rintro e w2 ⟨⟨q2, rfl, hq2⟩, hb2⟩
        rcases hq2 with rfl | ⟨hq20, hq2e⟩
        · go_wp2_with fail
          go_ret
          exact ⟨⟨-1, rfl, .inl rfl⟩, hb.trans (hb2.mono hb.size)⟩
        · have HQ2 : Hid (q2 = left - (L.length : Int) - (wtE (L.take (k + 1)) : Int)) := by have h1 := HQ.out; have h2 := HST.out; show q2 = _; omega
          clear hq2e HC2
          go_wp2_with fail
          go_roundw
          case rel => exact ⟨k + 1, by omega, by go_num, by rw [HQ2.out], by rw [← HQ2.out]; exact hq20, hb.trans (hb2.mono hb.size)⟩
          case measure => simp [intOf]; omega
      · have hfull : wtE (L.take k) = wtE L := by rw [List.take_of_length_le (by omega)]
        rw [hfull] at hq0 ⊢
        clear hfull hwl
        go_wp2_with fail
        go_ret
        exact ⟨⟨_, rfl, .inr ⟨hq0, rfl⟩⟩, hb⟩

/-- A cache. -/
def CchV (now : Int) (v : Value) : Value := .agg #[.int .i64 now, v]
theorem box2c {w W : World} {a b : Value} {t : TypeId} (hb : Below (w.alloc (.cells #[a, b] t)).heap.size (w.alloc (.cells #[a, b] t)) W) :
    (W.cell? ⟨w.heap.size, 0, none⟩ = some a ∧ W.cell? ⟨w.heap.size, 1, none⟩ = some b) ∧ Below w.heap.size w W := by
  have hz : w.heap.size < (w.alloc (.cells #[a, b] t)).heap.size := by simp
  refine ⟨⟨?_, ?_⟩, ((Below.refl w.heap.size w).alloc (Nat.le_refl _) _).trans (hb.mono (Nat.le_of_lt hz))⟩
  all_goals (rw [hb.cell (p := ⟨w.heap.size, _, none⟩) hz]; simp)

set_option maxRecDepth 20000 in
set_option maxHeartbeats 1000000 in
theorem szCache_any (now : Int) (v : Value) (L : List EntT) (left : Int) (w : World) (hr : ERow w v L) (hx : Hid (∀ x ∈ L, EFit x)) (h0 : 0 ≤ left) (h1 : left ≤ 1048576) :
    Calls Tryz.prog 8 #[CchV now v, .int .i64 left] w fun e w' => (∃ q : Int, e = .returned (.int .i64 q) ∧ (q = -1 ∨ (0 ≤ q ∧ q = left - (L.length : Int) - (wtE L : Int)))) ∧ Below w.heap.size w w' := by
  unfold CchV
  obtain ⟨aa, ca, rfl, _, hca, _⟩ := id hr
  have HRA : Hid (∀ W, Below w.heap.size w W → ERow W (.slice aa L.length ca) L) := fun W hW => hr.kept hW
  clear hr
  go_enter Tryz.func8, Tryz.ntmps8
  go_wp2_with fail
  refine (szEntryS_any _ L left _ (HRA.out _ ((Below.refl w.heap.size w).alloc (Nat.le_refl _) _)) hx h0 h1).mono ?_
  rintro e w1 ⟨⟨q1, rfl, hq1⟩, hb1⟩
  obtain ⟨_, hbw⟩ := box2c hb1
  rcases hq1 with rfl | ⟨hp1, hq1⟩
  · go_wp2_with fail
    go_ret
    exact ⟨⟨-1, rfl, .inl rfl⟩, hbw⟩
  · have HQ1 : Hid (q1 = left - (L.length : Int) - (wtE L : Int)) := hq1
    clear hq1
    go_wp2_with fail
    go_ret
    exact ⟨⟨q1, rfl, .inr ⟨hp1, HQ1.out⟩⟩, hbw⟩

set_option maxRecDepth 20000 in
set_option maxHeartbeats 1000000 in
theorem eqEntry_same (x : EntT) (v v2 : Value) (w : World) (ha : RRow w v x.2.2.2.1) (ha2 : RRow w v2 x.2.2.2.1) :
    Calls Tryz.prog 23 #[.agg #[.string ⟨x.1.toArray⟩, .int .i64 x.2.1, .bool x.2.2.1, v, .int .i64 x.2.2.2.2.1, .int .i64 x.2.2.2.2.2], .agg #[.string ⟨x.1.toArray⟩, .int .i64 x.2.1, .bool x.2.2.1, v2, .int .i64 x.2.2.2.2.1, .int .i64 x.2.2.2.2.2]] w fun e w' => e = .returned (.bool true) ∧ Below w.heap.size w w' := by
  obtain ⟨n0, ty, no, R, un, us⟩ := x
  simp only at ha ha2 ⊢
  obtain ⟨aa, ca, rfl, _, hca, _⟩ := id ha
  obtain ⟨aa2, ca2, rfl, _, hca2, _⟩ := id ha2
  have HRA : Hid (∀ W, Below w.heap.size w W → RRow W (.slice aa R.length ca) R ∧ RRow W (.slice aa2 R.length ca2) R) := fun W hW => ⟨ha.kept hW, ha2.kept hW⟩
  clear ha ha2
  have eno : (no != no) = false := by simp
  go_enter Tryz.func23, Tryz.ntmps23
  go_wp2_with fail
  have hA := HRA.out _ (((Below.refl w.heap.size w).alloc (Nat.le_refl _) (.cells #[.string ⟨n0.toArray⟩, .int .i64 ty, .bool no, .slice aa R.length ca, .int .i64 un, .int .i64 us] 44)).alloc (by simp) (.cells #[.string ⟨n0.toArray⟩, .int .i64 ty, .bool no, .slice aa2 R.length ca2, .int .i64 un, .int .i64 us] 44))
  refine (eqRecordS_same _ _ R _ hA.1 hA.2).mono ?_
  rintro e w1 ⟨rfl, hb1⟩
  obtain ⟨d, f, hbw⟩ := box2 hb1
  have d4 := d 4
  have d5 := d 5
  have f4 := f 4
  have f5 := f 5
  simp at d4 d5 f4 f5
  clear d f hA
  go_wp2_with fail
  go_ret
  exact ⟨rfl, hbw⟩

set_option maxRecDepth 20000 in
set_option maxHeartbeats 1000000 in
theorem eqEntryS_same (v1 v2 : Value) (L : List EntT) (w : World) (h1 : ERow w v1 L) (h2 : ERow w v2 L) :
    Calls Tryz.prog 42 #[v1, v2] w fun e w' => e = .returned (.bool true) ∧ Below w.heap.size w w' := by
  obtain ⟨a1, cap1, rfl, hc1, hm1, HR1⟩ := erow_value h1
  obtain ⟨a2, cap2, rfl, hc2, hm2, HR2⟩ := erow_value h2
  have HEQ : Hid (∀ (x : EntT) (va vb : Value) W, RRow W va x.2.2.2.1 → RRow W vb x.2.2.2.1 → Calls Tryz.prog 23 #[.agg #[.string ⟨x.1.toArray⟩, .int .i64 x.2.1, .bool x.2.2.1, va, .int .i64 x.2.2.2.2.1, .int .i64 x.2.2.2.2.2], .agg #[.string ⟨x.1.toArray⟩, .int .i64 x.2.1, .bool x.2.2.1, vb, .int .i64 x.2.2.2.2.1, .int .i64 x.2.2.2.2.2]] W fun e w' => e = .returned (.bool true) ∧ Below W.heap.size W w') := fun x va vb W g1 g2 => eqEntry_same x va vb W g1 g2
  have el : ((L.length : Int) != (L.length : Int)) = false := by simp
  clear h1 h2
  go_enter Tryz.func42, Tryz.ntmps42
  go_wp2_with fail
  go_loopw [5] (fun i wr => ∃ k : Nat, k ≤ L.length ∧ i = .int .i64 (k : Int) ∧ Below w.heap.size w wr) (fun i _ => L.length - (intOf i).toNat)
  case atStart => exact ⟨0, Nat.zero_le _, rfl, Below.refl _ _⟩
  case round =>
    obtain ⟨k, hk, rfl, hb⟩ := hrel
    by_cases hlt : k < L.length
    · obtain ⟨b1, o1, ha1, hbl1, hcel1⟩ := HR1.out (by omega)
      obtain ⟨b2, o2, ha2, hbl2, hcel2⟩ := HR2.out (by omega)
      rw [ha1, ha2]
      obtain ⟨va, q1⟩ := hcel1 k hlt
      obtain ⟨vb, q2⟩ := hcel2 k hlt
      obtain ⟨x, hx⟩ : ∃ x, x = L[k]'hlt := ⟨_, rfl⟩
      rw [← hx] at q1 q2
      have HC : Hid (∀ W, Below w.heap.size w W → EntAt W b1 (o1 + k * 6) x va ∧ EntAt W b2 (o2 + k * 6) x vb) := fun W hW => ⟨q1.kept hW, q2.kept hW⟩
      have HEQ2 : Hid (∀ W, Below w.heap.size w W → Calls Tryz.prog 23 #[.agg #[.string ⟨x.1.toArray⟩, .int .i64 x.2.1, .bool x.2.2.1, va, .int .i64 x.2.2.2.2.1, .int .i64 x.2.2.2.2.2], .agg #[.string ⟨x.1.toArray⟩, .int .i64 x.2.1, .bool x.2.2.1, vb, .int .i64 x.2.2.2.2.1, .int .i64 x.2.2.2.2.2]] W fun e w' => e = .returned (.bool true) ∧ Below W.heap.size W w') := fun W hW => HEQ.out x va vb W (q1.kept hW).2 (q2.kept hW).2
      have hki : (k : Int) < (L.length : Int) := by omega
      have hbd := hb.drew
      unfold EntAt at HC
      clear hcel1 hcel2 hx q1 q2 HEQ
      go_wp2_with fail
      refine wp_region_quiet (C := fun W => Below w.heap.size w W) (by kernel_rfl) (by kernel_rfl) hbd ?_
      refine wpQuiet_step (fun K hK => ?_)
      rw [if_pos (by rfl)]
      refine ⟨.slice (some ⟨b1, o1, none⟩) L.length cap1, fun W hW => quiet_ok ?_, hK _ ?_⟩
      · have f := HC.out W hW
        obtain ⟨⟨⟨c0, c1, c2, c3, c4, c5⟩, _⟩, ⟨⟨e0, e1, e2, e3, e4, e5⟩, _⟩⟩ := f
        go_simp
        all_goals (try omega)
      clear hK K
      simp only [Act.put, List.setIfInBounds_toArray, List.set_cons_succ, List.set_cons_zero]
      refine wpQuiet_step (fun K hK => ?_)
      rw [if_pos (by rfl)]
      refine ⟨.int .i64 (k : Int), fun W hW => quiet_ok ?_, hK _ ?_⟩
      · have f := HC.out W hW
        obtain ⟨⟨⟨c0, c1, c2, c3, c4, c5⟩, _⟩, ⟨⟨e0, e1, e2, e3, e4, e5⟩, _⟩⟩ := f
        go_simp
        all_goals (try omega)
      clear hK K
      simp only [Act.put, List.setIfInBounds_toArray, List.set_cons_succ, List.set_cons_zero]
      refine wpQuiet_step (fun K hK => ?_)
      rw [if_pos (by rfl)]
      refine ⟨.pointer (some ⟨b1, o1 + k * 6, none⟩), fun W hW => quiet_ok ?_, hK _ ?_⟩
      · have f := HC.out W hW
        obtain ⟨⟨⟨c0, c1, c2, c3, c4, c5⟩, _⟩, ⟨⟨e0, e1, e2, e3, e4, e5⟩, _⟩⟩ := f
        go_simp
        all_goals (try omega)
      clear hK K
      simp only [Act.put, List.setIfInBounds_toArray, List.set_cons_succ, List.set_cons_zero]
      refine wpQuiet_step (fun K hK => ?_)
      rw [if_pos (by rfl)]
      refine ⟨.agg #[.string ⟨x.1.toArray⟩, .int .i64 x.2.1, .bool x.2.2.1, va, .int .i64 x.2.2.2.2.1, .int .i64 x.2.2.2.2.2], fun W hW => quiet_ok ?_, hK _ ?_⟩
      · have f := HC.out W hW
        obtain ⟨⟨⟨c0, c1, c2, c3, c4, c5⟩, _⟩, ⟨⟨e0, e1, e2, e3, e4, e5⟩, _⟩⟩ := f
        go_simp
        all_goals (try omega)
      clear hK K
      simp only [Act.put, List.setIfInBounds_toArray, List.set_cons_succ, List.set_cons_zero]
      refine wpQuiet_step (fun K hK => ?_)
      rw [if_pos (by rfl)]
      refine ⟨.slice (some ⟨b2, o2, none⟩) L.length cap2, fun W hW => quiet_ok ?_, hK _ ?_⟩
      · have f := HC.out W hW
        obtain ⟨⟨⟨c0, c1, c2, c3, c4, c5⟩, _⟩, ⟨⟨e0, e1, e2, e3, e4, e5⟩, _⟩⟩ := f
        go_simp
        all_goals (try omega)
      clear hK K
      simp only [Act.put, List.setIfInBounds_toArray, List.set_cons_succ, List.set_cons_zero]
      refine wpQuiet_step (fun K hK => ?_)
      rw [if_pos (by rfl)]
      refine ⟨.int .i64 (k : Int), fun W hW => quiet_ok ?_, hK _ ?_⟩
      · have f := HC.out W hW
        obtain ⟨⟨⟨c0, c1, c2, c3, c4, c5⟩, _⟩, ⟨⟨e0, e1, e2, e3, e4, e5⟩, _⟩⟩ := f
        go_simp
        all_goals (try omega)
      clear hK K
      simp only [Act.put, List.setIfInBounds_toArray, List.set_cons_succ, List.set_cons_zero]
      refine wpQuiet_step (fun K hK => ?_)
      rw [if_pos (by rfl)]
      refine ⟨.pointer (some ⟨b2, o2 + k * 6, none⟩), fun W hW => quiet_ok ?_, hK _ ?_⟩
      · have f := HC.out W hW
        obtain ⟨⟨⟨c0, c1, c2, c3, c4, c5⟩, _⟩, ⟨⟨e0, e1, e2, e3, e4, e5⟩, _⟩⟩ := f
        go_simp
        all_goals (try omega)
      clear hK K
      simp only [Act.put, List.setIfInBounds_toArray, List.set_cons_succ, List.set_cons_zero]
      refine wpQuiet_step (fun K hK => ?_)
      rw [if_pos (by rfl)]
      refine ⟨.agg #[.string ⟨x.1.toArray⟩, .int .i64 x.2.1, .bool x.2.2.1, vb, .int .i64 x.2.2.2.2.1, .int .i64 x.2.2.2.2.2], fun W hW => quiet_ok ?_, hK _ ?_⟩
      · have f := HC.out W hW
        obtain ⟨⟨⟨c0, c1, c2, c3, c4, c5⟩, _⟩, ⟨⟨e0, e1, e2, e3, e4, e5⟩, _⟩⟩ := f
        go_simp
        all_goals (try omega)
      clear hK K
      simp only [Act.put, List.setIfInBounds_toArray, List.set_cons_succ, List.set_cons_zero]
      refine wpQuiet_step (fun K hK => ?_)
      rw [if_pos (by rfl)]
      refine ⟨.bool true, fun W hW => quiet_call (f := 23) (args := #[.agg #[.string ⟨x.1.toArray⟩, .int .i64 x.2.1, .bool x.2.2.1, va, .int .i64 x.2.2.2.2.1, .int .i64 x.2.2.2.2.2], .agg #[.string ⟨x.1.toArray⟩, .int .i64 x.2.1, .bool x.2.2.1, vb, .int .i64 x.2.2.2.2.1, .int .i64 x.2.2.2.2.2]]) ?_ ?_, hK _ ?_⟩
      · go_simp
      · exact (HEQ2.out W hW).mono fun e w'' h => ⟨h.1, hW.trans (h.2.mono hW.size)⟩
      clear hK K
      simp only [Act.put, List.setIfInBounds_toArray, List.set_cons_succ, List.set_cons_zero]
      refine wpQuiet_step (fun K hK => ?_)
      rw [if_pos (by rfl)]
      refine ⟨.bool false, fun W hW => quiet_ok ?_, hK _ ?_⟩
      · have f := HC.out W hW
        obtain ⟨⟨⟨c0, c1, c2, c3, c4, c5⟩, _⟩, ⟨⟨e0, e1, e2, e3, e4, e5⟩, _⟩⟩ := f
        go_simp
        all_goals (try omega)
      clear hK K
      simp only [Act.put, List.setIfInBounds_toArray, List.set_cons_succ, List.set_cons_zero]
      refine wpQuiet_nil ?_
      intro W hW
      go_wp2_with fail
      go_roundw
      case rel => exact ⟨k + 1, by omega, by go_num, hW⟩
      case measure => simp [intOf]; omega
    · go_wp2_with fail
      go_ret
      exact ⟨rfl, hb⟩

set_option maxRecDepth 20000 in
set_option maxHeartbeats 1000000 in
theorem eqCache_same (now : Int) (v v2 : Value) (L : List EntT) (w : World) (ha : ERow w v L) (ha2 : ERow w v2 L) :
    Calls Tryz.prog 14 #[CchV now v, CchV now v2] w fun e w' => e = .returned (.bool true) ∧ Below w.heap.size w w' := by
  unfold CchV
  obtain ⟨aa, ca, rfl, _, hca, _⟩ := id ha
  obtain ⟨aa2, ca2, rfl, _, hca2, _⟩ := id ha2
  have HRA : Hid (∀ W, Below w.heap.size w W → ERow W (.slice aa L.length ca) L ∧ ERow W (.slice aa2 L.length ca2) L) := fun W hW => ⟨ha.kept hW, ha2.kept hW⟩
  clear ha ha2
  go_enter Tryz.func14, Tryz.ntmps14
  go_wp2_with fail
  have hA := HRA.out _ (((Below.refl w.heap.size w).alloc (Nat.le_refl _) (.cells #[.int .i64 now, .slice aa L.length ca] 30)).alloc (by simp) (.cells #[.int .i64 now, .slice aa2 L.length ca2] 30))
  refine (eqEntryS_same _ _ L _ hA.1 hA.2).mono ?_
  rintro e w1 ⟨rfl, hb1⟩
  obtain ⟨_, _, hbw⟩ := box2 hb1
  go_wp2_with fail
  go_ret
  exact ⟨rfl, hbw⟩
end Go.Proofs.YtgfiahfoghnpkaaGreatDoor

namespace Go.Proofs.YtgfiahfoghnpkaaGreatDoor
open Go.RowKit

/-- An entry in cells of the call's own, its records in a block of their own. -/
def EntIn (w : World) (g o t : Nat) (x : EntT) : Prop :=
  (w.cell? ⟨g, o, none⟩ = some (.string ⟨x.1.toArray⟩) ∧ w.cell? ⟨g, o + 1, none⟩ = some (.int .i64 x.2.1) ∧ w.cell? ⟨g, o + 2, none⟩ = some (.bool x.2.2.1) ∧ w.cell? ⟨g, o + 3, none⟩ = some (.slice (some ⟨t, 0, none⟩) x.2.2.2.1.length x.2.2.2.1.length) ∧ w.cell? ⟨g, o + 4, none⟩ = some (.int .i64 x.2.2.2.2.1) ∧ w.cell? ⟨g, o + 5, none⟩ = some (.int .i64 x.2.2.2.2.2)) ∧ QRow w t x.2.2.2.1
/-- Entries in a block of the call's own: the records of each in a block of its own, behind. -/
def EOwn (w : World) (g : Nat) (T : Nat → Nat) (L : List EntT) : Prop :=
  g < w.heap.size ∧ (∀ c, c < L.length * 6 → (∃ v, w.cell? ⟨g, c, none⟩ = some v) ∧ w.frozen? ⟨g, c, none⟩ = false) ∧ (∀ j, (hj : j < L.length) → g < T j ∧ EntIn w g (j * 6) (T j) L[j]) ∧ ∀ i j, i < j → j < L.length → T i < T j
theorem EntIn.kept {w w' : World} {g o t : Nat} {x : EntT} (h : EntIn w g o t x) (hb : Below w.heap.size w w') : EntIn w' g o t x := by
  have hlt := World.block_lt_of_cell? _ _ h.1.1
  unfold EntIn
  rw [hb.cell (p := ⟨g, o, none⟩) hlt, hb.cell (p := ⟨g, o + 1, none⟩) hlt, hb.cell (p := ⟨g, o + 2, none⟩) hlt, hb.cell (p := ⟨g, o + 3, none⟩) hlt, hb.cell (p := ⟨g, o + 4, none⟩) hlt, hb.cell (p := ⟨g, o + 5, none⟩) hlt]
  exact ⟨h.1, h.2.kept hb⟩
theorem EntIn.at {w : World} {g o t : Nat} {x : EntT} (h : EntIn w g o t x) (hl : x.2.2.2.1.length ≤ 1048576) : EntAt w g o x (.slice (some ⟨t, 0, none⟩) x.2.2.2.1.length x.2.2.2.1.length) := ⟨h.1, h.2.row (Nat.le_refl _) (by unfold maxLen; omega)⟩
theorem EOwn.kept {w w' : World} {g : Nat} {T : Nat → Nat} {L : List EntT} (h : EOwn w g T L) (hb : Below w.heap.size w w') : EOwn w' g T L :=
  ⟨Nat.lt_of_lt_of_le h.1 hb.size, fun c hc => by rw [hb.cell (p := ⟨g, c, none⟩) h.1, hb.frozen (p := ⟨g, c, none⟩) h.1]; exact h.2.1 c hc, fun j hj => ⟨(h.2.2.1 j hj).1, (h.2.2.1 j hj).2.kept hb⟩, h.2.2.2⟩
theorem EOwn.row {w : World} {g cap : Nat} {T : Nat → Nat} {L : List EntT} (h : EOwn w g T L) (hx : ∀ x ∈ L, EBig x) (hc : L.length ≤ cap) (hm : cap ≤ maxLen) : ERow w (.slice (some ⟨g, 0, none⟩) L.length cap) L :=
  ⟨_, cap, rfl, hc, hm, .inr ⟨g, 0, rfl, h.1, fun j hj => ⟨_, by rw [Nat.zero_add]; exact (h.2.2.1 j hj).2.at (hx _ (List.getElem_mem hj)).2.1⟩⟩⟩
/-- What has been copied behind k rounds. -/
def EPart (w : World) (g : Nat) (T : Nat → Nat) (L : List EntT) (k : Nat) : Prop :=
  g < w.heap.size ∧ (∀ c, c < L.length * 6 → (∃ v, w.cell? ⟨g, c, none⟩ = some v) ∧ w.frozen? ⟨g, c, none⟩ = false) ∧ (∀ j, (hj : j < L.length) → j < k → g < T j ∧ T j < w.heap.size ∧ EntIn w g (j * 6) (T j) L[j]) ∧ ∀ i j, i < j → j < k → T i < T j
theorem EPart.kept {w w' : World} {g k : Nat} {T : Nat → Nat} {L : List EntT} (h : EPart w g T L k) (hb : Below w.heap.size w w') : EPart w' g T L k :=
  ⟨Nat.lt_of_lt_of_le h.1 hb.size, fun c hc => by rw [hb.cell (p := ⟨g, c, none⟩) h.1, hb.frozen (p := ⟨g, c, none⟩) h.1]; exact h.2.1 c hc, fun j hj hk => ⟨(h.2.2.1 j hj hk).1, Nat.lt_of_lt_of_le (h.2.2.1 j hj hk).2.1 hb.size, (h.2.2.1 j hj hk).2.2.kept hb⟩, h.2.2.2⟩
/-- An entry stored. -/
def eputAt (w : World) (g o : Nat) (a b c d e f : Value) : World := (((((w.setCell ⟨g, o, none⟩ a).setCell ⟨g, o + 1, none⟩ b).setCell ⟨g, o + 2, none⟩ c).setCell ⟨g, o + 3, none⟩ d).setCell ⟨g, o + 4, none⟩ e).setCell ⟨g, o + 5, none⟩ f
theorem eputAt_size (w : World) (g o : Nat) (a b c d e f : Value) : (eputAt w g o a b c d e f).heap.size = w.heap.size := by unfold eputAt; simp
theorem eputAt_frozen (w : World) (g o : Nat) (a b c d e f : Value) (p : Addr) : (eputAt w g o a b c d e f).frozen? p = w.frozen? p := by unfold eputAt; simp
theorem eputAt_other {w : World} {g o : Nat} {v0 v1 v2 v3 v4 v5 : Value} {b c : Nat} (h : b ≠ g ∨ (c < o ∨ o + 5 < c)) : (eputAt w g o v0 v1 v2 v3 v4 v5).cell? ⟨b, c, none⟩ = w.cell? ⟨b, c, none⟩ := by
  have hn : ∀ k, k ≤ 5 → (⟨g, o + k, none⟩ : Addr) ≠ ⟨b, c, none⟩ := fun k hk e => by
    injection e with e1 e2
    rcases h with h | h
    · exact h e1.symm
    · omega
  unfold eputAt
  rw [World.cell?_setCell_other _ _ _ _ (hn 5 (by omega)), World.cell?_setCell_other _ _ _ _ (hn 4 (by omega)), World.cell?_setCell_other _ _ _ _ (hn 3 (by omega)), World.cell?_setCell_other _ _ _ _ (hn 2 (by omega)), World.cell?_setCell_other _ _ _ _ (hn 1 (by omega)), World.cell?_setCell_other _ _ _ _ (show (⟨g, o, none⟩ : Addr) ≠ ⟨b, c, none⟩ from hn 0 (by omega))]
theorem eputAt_at {w : World} {g o : Nat} {a b c d e f u0 u1 u2 u3 u4 u5 : Value} (h0 : w.cell? ⟨g, o, none⟩ = some u0) (h1 : w.cell? ⟨g, o + 1, none⟩ = some u1) (h2 : w.cell? ⟨g, o + 2, none⟩ = some u2) (h3 : w.cell? ⟨g, o + 3, none⟩ = some u3) (h4 : w.cell? ⟨g, o + 4, none⟩ = some u4) (h5 : w.cell? ⟨g, o + 5, none⟩ = some u5) :
    (eputAt w g o a b c d e f).cell? ⟨g, o, none⟩ = some a ∧ (eputAt w g o a b c d e f).cell? ⟨g, o + 1, none⟩ = some b ∧ (eputAt w g o a b c d e f).cell? ⟨g, o + 2, none⟩ = some c ∧ (eputAt w g o a b c d e f).cell? ⟨g, o + 3, none⟩ = some d ∧ (eputAt w g o a b c d e f).cell? ⟨g, o + 4, none⟩ = some e ∧ (eputAt w g o a b c d e f).cell? ⟨g, o + 5, none⟩ = some f := by
  have n : ∀ a b : Nat, a ≠ b → (⟨g, o + a, none⟩ : Addr) ≠ ⟨g, o + b, none⟩ := fun a b hab e => by injection e with _ e2; omega
  unfold eputAt
  refine ⟨?_, ?_, ?_, ?_, ?_, ?_⟩
  · rw [World.cell?_setCell_other _ _ _ _ (show (⟨g, o + 5, none⟩ : Addr) ≠ ⟨g, o, none⟩ from n 5 0 (by omega))]; rw [World.cell?_setCell_other _ _ _ _ (show (⟨g, o + 4, none⟩ : Addr) ≠ ⟨g, o, none⟩ from n 4 0 (by omega))]; rw [World.cell?_setCell_other _ _ _ _ (show (⟨g, o + 3, none⟩ : Addr) ≠ ⟨g, o, none⟩ from n 3 0 (by omega))]; rw [World.cell?_setCell_other _ _ _ _ (show (⟨g, o + 2, none⟩ : Addr) ≠ ⟨g, o, none⟩ from n 2 0 (by omega))]; rw [World.cell?_setCell_other _ _ _ _ (show (⟨g, o + 1, none⟩ : Addr) ≠ ⟨g, o, none⟩ from n 1 0 (by omega))]; exact World.cell?_setCell_same _ _ _ h0
  · rw [World.cell?_setCell_other _ _ _ _ (show (⟨g, o + 5, none⟩ : Addr) ≠ ⟨g, o + 1, none⟩ from n 5 1 (by omega))]; rw [World.cell?_setCell_other _ _ _ _ (show (⟨g, o + 4, none⟩ : Addr) ≠ ⟨g, o + 1, none⟩ from n 4 1 (by omega))]; rw [World.cell?_setCell_other _ _ _ _ (show (⟨g, o + 3, none⟩ : Addr) ≠ ⟨g, o + 1, none⟩ from n 3 1 (by omega))]; rw [World.cell?_setCell_other _ _ _ _ (show (⟨g, o + 2, none⟩ : Addr) ≠ ⟨g, o + 1, none⟩ from n 2 1 (by omega))]; exact World.cell?_setCell_same _ _ _ (by rw [World.cell?_setCell_other _ _ _ _ (show (⟨g, o, none⟩ : Addr) ≠ ⟨g, o + 1, none⟩ from n 0 1 (by omega))];  exact h1)
  · rw [World.cell?_setCell_other _ _ _ _ (show (⟨g, o + 5, none⟩ : Addr) ≠ ⟨g, o + 2, none⟩ from n 5 2 (by omega))]; rw [World.cell?_setCell_other _ _ _ _ (show (⟨g, o + 4, none⟩ : Addr) ≠ ⟨g, o + 2, none⟩ from n 4 2 (by omega))]; rw [World.cell?_setCell_other _ _ _ _ (show (⟨g, o + 3, none⟩ : Addr) ≠ ⟨g, o + 2, none⟩ from n 3 2 (by omega))]; exact World.cell?_setCell_same _ _ _ (by rw [World.cell?_setCell_other _ _ _ _ (show (⟨g, o + 1, none⟩ : Addr) ≠ ⟨g, o + 2, none⟩ from n 1 2 (by omega))]; rw [World.cell?_setCell_other _ _ _ _ (show (⟨g, o, none⟩ : Addr) ≠ ⟨g, o + 2, none⟩ from n 0 2 (by omega))];  exact h2)
  · rw [World.cell?_setCell_other _ _ _ _ (show (⟨g, o + 5, none⟩ : Addr) ≠ ⟨g, o + 3, none⟩ from n 5 3 (by omega))]; rw [World.cell?_setCell_other _ _ _ _ (show (⟨g, o + 4, none⟩ : Addr) ≠ ⟨g, o + 3, none⟩ from n 4 3 (by omega))]; exact World.cell?_setCell_same _ _ _ (by rw [World.cell?_setCell_other _ _ _ _ (show (⟨g, o + 2, none⟩ : Addr) ≠ ⟨g, o + 3, none⟩ from n 2 3 (by omega))]; rw [World.cell?_setCell_other _ _ _ _ (show (⟨g, o + 1, none⟩ : Addr) ≠ ⟨g, o + 3, none⟩ from n 1 3 (by omega))]; rw [World.cell?_setCell_other _ _ _ _ (show (⟨g, o, none⟩ : Addr) ≠ ⟨g, o + 3, none⟩ from n 0 3 (by omega))];  exact h3)
  · rw [World.cell?_setCell_other _ _ _ _ (show (⟨g, o + 5, none⟩ : Addr) ≠ ⟨g, o + 4, none⟩ from n 5 4 (by omega))]; exact World.cell?_setCell_same _ _ _ (by rw [World.cell?_setCell_other _ _ _ _ (show (⟨g, o + 3, none⟩ : Addr) ≠ ⟨g, o + 4, none⟩ from n 3 4 (by omega))]; rw [World.cell?_setCell_other _ _ _ _ (show (⟨g, o + 2, none⟩ : Addr) ≠ ⟨g, o + 4, none⟩ from n 2 4 (by omega))]; rw [World.cell?_setCell_other _ _ _ _ (show (⟨g, o + 1, none⟩ : Addr) ≠ ⟨g, o + 4, none⟩ from n 1 4 (by omega))]; rw [World.cell?_setCell_other _ _ _ _ (show (⟨g, o, none⟩ : Addr) ≠ ⟨g, o + 4, none⟩ from n 0 4 (by omega))];  exact h4)
  · exact World.cell?_setCell_same _ _ _ (by rw [World.cell?_setCell_other _ _ _ _ (show (⟨g, o + 4, none⟩ : Addr) ≠ ⟨g, o + 5, none⟩ from n 4 5 (by omega))]; rw [World.cell?_setCell_other _ _ _ _ (show (⟨g, o + 3, none⟩ : Addr) ≠ ⟨g, o + 5, none⟩ from n 3 5 (by omega))]; rw [World.cell?_setCell_other _ _ _ _ (show (⟨g, o + 2, none⟩ : Addr) ≠ ⟨g, o + 5, none⟩ from n 2 5 (by omega))]; rw [World.cell?_setCell_other _ _ _ _ (show (⟨g, o + 1, none⟩ : Addr) ≠ ⟨g, o + 5, none⟩ from n 1 5 (by omega))]; rw [World.cell?_setCell_other _ _ _ _ (show (⟨g, o, none⟩ : Addr) ≠ ⟨g, o + 5, none⟩ from n 0 5 (by omega))];  exact h5)
theorem eputAt_below {B : Nat} {x w : World} (h : Below B x w) {g o : Nat} (hg : B ≤ g) (a b c d e f : Value) : Below B x (eputAt w g o a b c d e f) :=
  (((((h.setCell (p := ⟨g, o, none⟩) hg _).setCell (p := ⟨g, o + 1, none⟩) hg _).setCell (p := ⟨g, o + 2, none⟩) hg _).setCell (p := ⟨g, o + 3, none⟩) hg _).setCell (p := ⟨g, o + 4, none⟩) hg _).setCell (p := ⟨g, o + 5, none⟩) hg _
theorem qrow_eput {w : World} {g o t : Nat} {a b c d e f : Value} {P : List (List UInt8 × Int × Int × List UInt8)} (h : QRow w t P) (hne : g ≠ t) : QRow (eputAt w g o a b c d e f) t P := by
  unfold eputAt
  exact (((((h.far hne _).far hne _).far hne _).far hne _).far hne _).far hne _
def updE (T : Nat → Nat) (k t : Nat) (j : Nat) : Nat := if j = k then t else T j
theorem updE_same (T : Nat → Nat) (k t : Nat) : updE T k t k = t := if_pos rfl
theorem updE_ne (T : Nat → Nat) (k t : Nat) {j : Nat} (h : j ≠ k) : updE T k t j = T j := if_neg h
theorem EPart.put {w : World} {g k t : Nat} {T : Nat → Nat} {L : List EntT} (h : EPart w g T L k) (hk : k < L.length) (hgt : g < t) (ht : ∀ j, j < k → T j < t) (hz : QRow w t (L[k]'hk).2.2.2.1) :
    EPart (eputAt w g (k * 6) (.string ⟨(L[k]'hk).1.toArray⟩) (.int .i64 (L[k]'hk).2.1) (.bool (L[k]'hk).2.2.1) (.slice (some ⟨t, 0, none⟩) (L[k]'hk).2.2.2.1.length (L[k]'hk).2.2.2.1.length) (.int .i64 (L[k]'hk).2.2.2.2.1) (.int .i64 (L[k]'hk).2.2.2.2.2)) g (updE T k t) L (k + 1) := by
  obtain ⟨⟨v0, m0⟩, _⟩ := h.2.1 (k * 6) (by omega)
  obtain ⟨⟨v1, m1⟩, _⟩ := h.2.1 (k * 6 + 1) (by omega)
  obtain ⟨⟨v2, m2⟩, _⟩ := h.2.1 (k * 6 + 2) (by omega)
  obtain ⟨⟨v3, m3⟩, _⟩ := h.2.1 (k * 6 + 3) (by omega)
  obtain ⟨⟨v4, m4⟩, _⟩ := h.2.1 (k * 6 + 4) (by omega)
  obtain ⟨⟨v5, m5⟩, _⟩ := h.2.1 (k * 6 + 5) (by omega)
  have hat := eputAt_at (a := .string ⟨(L[k]'hk).1.toArray⟩) (b := .int .i64 (L[k]'hk).2.1) (c := .bool (L[k]'hk).2.2.1) (d := .slice (some ⟨t, 0, none⟩) (L[k]'hk).2.2.2.1.length (L[k]'hk).2.2.2.1.length) (e := .int .i64 (L[k]'hk).2.2.2.2.1) (f := .int .i64 (L[k]'hk).2.2.2.2.2) m0 m1 m2 m3 m4 m5
  refine ⟨by rw [eputAt_size]; exact h.1, fun c hc => ?_, fun j hj hjk => ?_, fun i j hij hjk => ?_⟩
  · rw [eputAt_frozen]
    refine ⟨?_, (h.2.1 c hc).2⟩
    by_cases g1 : c < k * 6 ∨ k * 6 + 5 < c
    · rw [eputAt_other (.inr g1)]; exact (h.2.1 c hc).1
    · rcases (show c = k * 6 ∨ c = k * 6 + 1 ∨ c = k * 6 + 2 ∨ c = k * 6 + 3 ∨ c = k * 6 + 4 ∨ c = k * 6 + 5 by omega) with rfl | rfl | rfl | rfl | rfl | rfl
      · exact ⟨_, hat.1⟩
      · exact ⟨_, hat.2.1⟩
      · exact ⟨_, hat.2.2.1⟩
      · exact ⟨_, hat.2.2.2.1⟩
      · exact ⟨_, hat.2.2.2.2.1⟩
      · exact ⟨_, hat.2.2.2.2.2⟩
  · by_cases e : j = k
    · subst e
      refine ⟨by rw [updE_same]; exact hgt, by rw [updE_same, eputAt_size]; exact hz.1, ?_⟩
      rw [updE_same]
      exact ⟨hat, qrow_eput hz (by omega)⟩
    · obtain ⟨a1, a2, a3⟩ := h.2.2.1 j hj (by omega)
      refine ⟨by rw [updE_ne _ _ _ e]; exact a1, by rw [updE_ne _ _ _ e, eputAt_size]; exact a2, ?_⟩
      rw [updE_ne _ _ _ e]
      unfold EntIn at a3 ⊢
      rw [eputAt_other (.inr (by omega)), eputAt_other (.inr (by omega)), eputAt_other (.inr (by omega)), eputAt_other (.inr (by omega)), eputAt_other (.inr (by omega)), eputAt_other (.inr (by omega))]
      exact ⟨a3.1, qrow_eput a3.2 (by omega)⟩
  · by_cases e : j = k
    · rw [e, updE_same, updE_ne _ _ _ (by omega)]; exact ht i (by omega)
    · rw [updE_ne _ _ _ e, updE_ne _ _ _ (by omega)]; exact h.2.2.2 i j hij (by omega)
theorem EPart.done {w : World} {g k : Nat} {T : Nat → Nat} {L : List EntT} (h : EPart w g T L k) (hk : ¬ k < L.length) : EOwn w g T L :=
  ⟨h.1, h.2.1, fun j hj => ⟨(h.2.2.1 j hj (by omega)).1, (h.2.2.1 j hj (by omega)).2.2⟩, fun i j hij hj => h.2.2.2 i j hij (by omega)⟩
theorem info_ent : (Tryz.prog.info? 44).map (fun i => (i.zero, i.size, i.bytes)) = some (some (.agg #[.string ByteArray.empty, .int .i64 0, .bool false, .slice none 0 0, .int .i64 0, .int .i64 0]), 6, 72) := by kernel_rfl
theorem madee_at {n c : Nat} {v0 v1 v2 v3 v4 v5 : Value} (hc : c < n * 6) : ∃ v, (madeCells #[v0, v1, v2, v3, v4, v5] (n * 6)).toList[c]? = some v := by
  unfold madeCells
  simp only [Array.toList_map, Array.toList_range, List.getElem?_map, List.getElem?_range hc, Option.map_some]
  exact ⟨_, rfl⟩
theorem made_epart {w w1 : World} {L : List EntT} (T : Nat → Nat) (hg : w.heap.size < w1.heap.size) (h : w1.ownsRow w.heap.size 44 6 (.slice (some ⟨w.heap.size, 0, none⟩) L.length L.length) L.length (madeCells #[.string ByteArray.empty, .int .i64 0, .bool false, .slice none 0 0, .int .i64 0, .int .i64 0] (L.length * 6)).toList) : EPart w1 w.heap.size T L 0 := by
  refine ⟨hg, fun c hc => ⟨?_, h.frozenAt _⟩, fun j _ hj => absurd hj (Nat.not_lt_zero _), fun i j _ hj => absurd hj (Nat.not_lt_zero _)⟩
  obtain ⟨v, hv⟩ := madee_at (v0 := .string ByteArray.empty) (v1 := .int .i64 0) (v2 := .bool false) (v3 := .slice none 0 0) (v4 := .int .i64 0) (v5 := .int .i64 0) hc
  exact ⟨v, by rw [h.cellAt c hc]; exact hv⟩
/-- Six cells stored. -/
def put6 (w : World) (g : Nat) (v0 v1 v2 v3 v4 v5 : Value) : World := (((((w.setCell ⟨g, 0, none⟩ v0).setCell ⟨g, 1, none⟩ v1).setCell ⟨g, 2, none⟩ v2).setCell ⟨g, 3, none⟩ v3).setCell ⟨g, 4, none⟩ v4).setCell ⟨g, 5, none⟩ v5
theorem put6_heap {w : World} {g : Nat} {t : TypeId} {v0 v1 v2 v3 v4 v5 u0 u1 u2 u3 u4 u5 : Value} (h : w.heap[g]? = some (.cells #[u0, u1, u2, u3, u4, u5] t)) : (put6 w g v0 v1 v2 v3 v4 v5).heap[g]? = some (.cells #[v0, v1, v2, v3, v4, v5] t) := by
  have e0 := heap_setCell_same _ _ 0 _ _ v0 h
  have e1 := heap_setCell_same _ _ 1 _ _ v1 e0
  have e2 := heap_setCell_same _ _ 2 _ _ v2 e1
  have e3 := heap_setCell_same _ _ 3 _ _ v3 e2
  have e4 := heap_setCell_same _ _ 4 _ _ v4 e3
  have e5 := heap_setCell_same _ _ 5 _ _ v5 e4
  unfold put6
  simpa using e5
theorem put6_far {w : World} {g g' : Nat} {v0 v1 v2 v3 v4 v5 : Value} {L : List (List UInt8 × Int × Int × List UInt8)} (h : QRow w g L) (hne : g' ≠ g) : QRow (put6 w g' v0 v1 v2 v3 v4 v5) g L := (((((h.far hne _).far hne _).far hne _).far hne _).far hne _).far hne _
theorem put6_below {B : Nat} {a w : World} (h : Below B a w) {g : Nat} (hg : B ≤ g) (v0 v1 v2 v3 v4 v5 : Value) : Below B a (put6 w g v0 v1 v2 v3 v4 v5) :=
  (((((h.setCell (p := ⟨g, 0, none⟩) hg _).setCell (p := ⟨g, 1, none⟩) hg _).setCell (p := ⟨g, 2, none⟩) hg _).setCell (p := ⟨g, 3, none⟩) hg _).setCell (p := ⟨g, 4, none⟩) hg _).setCell (p := ⟨g, 5, none⟩) hg _

set_option maxRecDepth 20000 in
set_option maxHeartbeats 2000000 in
theorem toEntry_any (x : EntT) (v : Value) (w : World) (hr : RRow w v x.2.2.2.1) (hl : x.2.2.2.1.length ≤ 1048576) :
    Calls Tryz.prog 66 #[.agg #[.string ⟨x.1.toArray⟩, .int .i64 x.2.1, .bool x.2.2.1, v, .int .i64 x.2.2.2.2.1, .int .i64 x.2.2.2.2.2]] w fun e w' => (∃ t, e = .returned (.agg #[.string ⟨x.1.toArray⟩, .int .i64 x.2.1, .bool x.2.2.1, .slice (some ⟨t, 0, none⟩) x.2.2.2.1.length x.2.2.2.1.length, .int .i64 x.2.2.2.2.1, .int .i64 x.2.2.2.2.2]) ∧ w.heap.size ≤ t ∧ QRow w' t x.2.2.2.1) ∧ Below w.heap.size w w' := by
  obtain ⟨n0, ty, no, R, un, us⟩ := x
  simp only at hr hl ⊢
  obtain ⟨aa, ca, rfl, _, hca, _⟩ := id hr
  have HRA : Hid (∀ W, Below w.heap.size w W → RRow W (.slice aa R.length ca) R) := fun W hW => hr.kept hW
  clear hr
  go_enter Tryz.func66, Tryz.ntmps66
  go_wp2_with fail
  refine (toRecordS_any _ R _ (HRA.out _ ((((Below.refl w.heap.size w).alloc (Nat.le_refl _) _).alloc (by simp) _).alloc (by simp; omega) _)) hl).mono ?_
  rintro e w1 ⟨rfl, hq1, hb1⟩
  obtain ⟨c, d, fz, r, rz, hsz, hblk, hbw⟩ := box3 hb1
  have p4 := c 4
  have p5 := c 5
  have d0 := d 0
  have d1 := d 1
  have d2 := d 2
  have d3 := d 3
  have d4 := d 4
  have d5 := d 5
  have fz3 := fz 3
  have fz4 := fz 4
  have fz5 := fz 5
  have r0 := r 0
  have r1 := r 1
  have r2 := r 2
  have r3 := r 3
  have r4 := r 4
  have r5 := r 5
  have s0 := rz 0
  have s1 := rz 1
  have s2 := rz 2
  have s3 := rz 3
  have s4 := rz 4
  have s5 := rz 5
  simp at p4 p5 d0 d1 d2 d3 d4 d5 r0 r1 r2 r3 r4 r5
  have HQ : Hid (QRow w1 (w.heap.size + 1 + 1 + 1) R) := by
    have h : QRow w1 (w.heap.size + 1 + 1 + 1) R := by simpa using hq1
    exact h
  have HK : Hid (w1.heap[w.heap.size + 1]? = some (.cells #[.string ⟨#[]⟩, .int .i64 0, .bool false, .slice none 0 0, .int .i64 0, .int .i64 0] 44)) := hblk
  clear c d fz r rz hq1 hblk
  go_wp2_with fail
  (try simp only [Exit.inBlock, Exit.then])
  refine bodyPost_ret (results_cell_row rfl _ _ (w.heap.size + 1) 44 #[.string ⟨n0.toArray⟩, .int .i64 ty, .bool no, .slice (some ⟨w.heap.size + 1 + 1 + 1, 0, none⟩) R.length R.length, .int .i64 un, .int .i64 us] (0, 0) _ rfl ?_ Tryz.underlying44 rfl (by kernel_rfl)) rfl ⟨⟨w.heap.size + 1 + 1 + 1, rfl, by omega, ?_⟩, ?_⟩
  · exact put6_heap (by rw [heap_setCell_other _ _ _ _ (show w.heap.size + 1 ≠ w.heap.size + 1 + 1 by omega), heap_setCell_other _ _ _ _ (show w.heap.size + 1 ≠ w.heap.size + 1 + 1 by omega), heap_setCell_other _ _ _ _ (show w.heap.size + 1 ≠ w.heap.size + 1 + 1 by omega)]; exact HK.out)
  · exact put6_far (((HQ.out.far (by omega) _).far (by omega) _).far (by omega) _) (by omega)
  · exact put6_below (((hbw.setCell (p := ⟨w.heap.size + 1 + 1, 3, none⟩) (by show w.heap.size ≤ w.heap.size + 1 + 1; omega) _).setCell (p := ⟨w.heap.size + 1 + 1, 4, none⟩) (by show w.heap.size ≤ w.heap.size + 1 + 1; omega) _).setCell (p := ⟨w.heap.size + 1 + 1, 5, none⟩) (by show w.heap.size ≤ w.heap.size + 1 + 1; omega) _) (by omega) _ _ _ _ _ _

set_option maxRecDepth 20000 in
set_option maxHeartbeats 2000000 in
theorem toEntryS_any (v : Value) (L : List EntT) (w : World) (hr : ERow w v L) (hl : L.length ≤ 1048576) (hx : Hid (∀ x ∈ L, EBig x)) :
    Calls Tryz.prog 36 #[v] w fun e w' => ∃ T, e = .returned (.slice (some ⟨w.heap.size, 0, none⟩) L.length L.length) ∧ EOwn w' w.heap.size T L ∧ Below w.heap.size w w' := by
  obtain ⟨i0, hi, hz0, hz1, hz2⟩ := info_parts info_ent
  obtain ⟨a, cap, rfl, hcap, hmax, HROW⟩ := erow_value hr
  have HTO : Hid (∀ (x : EntT) (va : Value) W, RRow W va x.2.2.2.1 → x.2.2.2.1.length ≤ 1048576 → Calls Tryz.prog 66 #[.agg #[.string ⟨x.1.toArray⟩, .int .i64 x.2.1, .bool x.2.2.1, va, .int .i64 x.2.2.2.2.1, .int .i64 x.2.2.2.2.2]] W fun e w' => (∃ t, e = .returned (.agg #[.string ⟨x.1.toArray⟩, .int .i64 x.2.1, .bool x.2.2.1, .slice (some ⟨t, 0, none⟩) x.2.2.2.1.length x.2.2.2.1.length, .int .i64 x.2.2.2.2.1, .int .i64 x.2.2.2.2.2]) ∧ W.heap.size ≤ t ∧ QRow w' t x.2.2.2.1) ∧ Below W.heap.size W w') := fun x va W h1 h2 => toEntry_any x va W h1 h2
  clear hr
  go_enter Tryz.func36, Tryz.ntmps36
  go_wp2_with (at_make; refine wpList_make_full _ rfl _ _ 28 rfl w.heap.size 44 i0 (.agg #[.string ByteArray.empty, .int .i64 0, .bool false, .slice none 0 0, .int .i64 0, .int .i64 0]) 6 Tryz.underlying28 hi hz0 hz1 _ _ _ _ L.length rfl rfl rfl rfl ?b2 ?b3 ?b4 ?_)
  case b2 => rw [hz2]; omega
  case b3 => unfold maxLen; omega
  case b4 => exact Nat.le_refl _
  intro w1 hown hgrow
  have hb1 : Below w.heap.size w w1 := (Below.refl _ _).grown hgrow (Nat.le_refl _) (fun k h => by cases h)
  have hlt1 : w.heap.size < w1.heap.size := (hown.lt w.heap.size rfl).2
  have HS1 : Hid (EPart w1 w.heap.size (fun _ => 0) L 0) := made_epart _ hlt1 hown
  clear hown hgrow hlt1
  go_wp2_with fail
  go_loopw [4] (fun i wr => ∃ k : Nat, k ≤ L.length ∧ i = .int .i64 (k : Int) ∧ Hid (∃ T, EPart wr w.heap.size T L k) ∧ Below w.heap.size w wr) (fun i _ => L.length - (intOf i).toNat)
  case atStart => exact ⟨0, Nat.zero_le _, rfl, ⟨_, HS1.out⟩, hb1⟩
  case round =>
    obtain ⟨k, hk, rfl, HR, hb⟩ := hrel
    clear HS1 hb1
    by_cases hlt : k < L.length
    · obtain ⟨b, o, ha, hbl, hcel⟩ := HROW.out (by omega)
      rw [ha]
      obtain ⟨va, hcx0⟩ := hcel k hlt
      have hcx := hcx0.kept hb
      have hxl := (hx.out _ (List.getElem_mem hlt)).2.1
      have HST : Hid (∀ W t, Below wr.heap.size wr W → wr.heap.size ≤ t → QRow W t (L[k]'hlt).2.2.2.1 → (∀ c, c < L.length * 6 → (∃ v, W.cell? ⟨w.heap.size, c, none⟩ = some v) ∧ W.frozen? ⟨w.heap.size, c, none⟩ = false) ∧ ∃ T, EPart (eputAt W w.heap.size (k * 6) (.string ⟨(L[k]'hlt).1.toArray⟩) (.int .i64 (L[k]'hlt).2.1) (.bool (L[k]'hlt).2.2.1) (.slice (some ⟨t, 0, none⟩) (L[k]'hlt).2.2.2.1.length (L[k]'hlt).2.2.2.1.length) (.int .i64 (L[k]'hlt).2.2.2.2.1) (.int .i64 (L[k]'hlt).2.2.2.2.2)) w.heap.size T L (k + 1)) := fun W t hW ht hz => by
        obtain ⟨T, hT⟩ := HR.out
        have h1 := hT.kept hW
        exact ⟨h1.2.1, _, h1.put hlt (by have := hT.1; omega) (fun j hj => by have := (hT.2.2.1 j (by omega) hj).2.1; omega) hz⟩
      obtain ⟨x, hxe⟩ : ∃ x, x = L[k]'hlt := ⟨_, rfl⟩
      rw [← hxe] at hcx hxl HST
      have hz : RRow wr va x.2.2.2.1 := hcx.2
      unfold EntAt at hcx
      obtain ⟨⟨c0, c1, c2, c3, c4, c5⟩, _⟩ := hcx
      have HC : Hid (Calls Tryz.prog 66 #[.agg #[.string ⟨x.1.toArray⟩, .int .i64 x.2.1, .bool x.2.2.1, va, .int .i64 x.2.2.2.2.1, .int .i64 x.2.2.2.2.2]] wr fun e w' => (∃ t, e = .returned (.agg #[.string ⟨x.1.toArray⟩, .int .i64 x.2.1, .bool x.2.2.1, .slice (some ⟨t, 0, none⟩) x.2.2.2.1.length x.2.2.2.1.length, .int .i64 x.2.2.2.2.1, .int .i64 x.2.2.2.2.2]) ∧ wr.heap.size ≤ t ∧ QRow w' t x.2.2.2.1) ∧ Below wr.heap.size wr w') := HTO.out x va wr hz hxl
      obtain ⟨aa, ca, rfl, _, _, _⟩ := hz
      clear hcel hxe hcx0 HTO
      go_wp2_with fail
      refine HC.out.mono ?_
      rintro e w2 ⟨⟨t, rfl, ht, hzt⟩, hb2⟩
      obtain ⟨hcells, hst⟩ := HST.out w2 t hb2 ht hzt
      obtain ⟨⟨y0, m0⟩, f0⟩ := hcells (k * 6) (by omega)
      obtain ⟨⟨y1, m1⟩, f1⟩ := hcells (k * 6 + 1) (by omega)
      obtain ⟨⟨y2, m2⟩, f2⟩ := hcells (k * 6 + 2) (by omega)
      obtain ⟨⟨y3, m3⟩, f3⟩ := hcells (k * 6 + 3) (by omega)
      obtain ⟨⟨y4, m4⟩, f4⟩ := hcells (k * 6 + 4) (by omega)
      obtain ⟨⟨y5, m5⟩, f5⟩ := hcells (k * 6 + 5) (by omega)
      have HQ : Hid (∃ T, EPart (eputAt w2 w.heap.size (k * 6) (.string ⟨x.1.toArray⟩) (.int .i64 x.2.1) (.bool x.2.2.1) (.slice (some ⟨t, 0, none⟩) x.2.2.2.1.length x.2.2.2.1.length) (.int .i64 x.2.2.2.2.1) (.int .i64 x.2.2.2.2.2)) w.heap.size T L (k + 1)) := hst
      have hb3 : Below w.heap.size w (eputAt w2 w.heap.size (k * 6) (.string ⟨x.1.toArray⟩) (.int .i64 x.2.1) (.bool x.2.2.1) (.slice (some ⟨t, 0, none⟩) x.2.2.2.1.length x.2.2.2.1.length) (.int .i64 x.2.2.2.2.1) (.int .i64 x.2.2.2.2.2)) := eputAt_below (hb.trans (hb2.mono hb.size)) (Nat.le_refl _) _ _ _ _ _ _
      unfold eputAt at HQ hb3
      clear hcells hst hb2 c0 c1 c2 c3 c4 c5 hzt HST HC
      go_wp2_with fail
      go_roundw
      case rel => exact ⟨k + 1, by omega, by go_num, HQ, hb3⟩
      case measure => simp [intOf]; omega
    · have HRR : Hid (∃ T, EOwn wr w.heap.size T L) := by obtain ⟨T, hT⟩ := HR.out; exact ⟨T, hT.done hlt⟩
      clear HR
      go_wp2_with fail
      go_ret
      obtain ⟨T, hT⟩ := HRR.out
      exact ⟨T, rfl, hT, hb⟩

/-- Two cells stored. -/
def put2 (w : World) (g : Nat) (v0 v1 : Value) : World := (w.setCell ⟨g, 0, none⟩ v0).setCell ⟨g, 1, none⟩ v1
theorem put2_heap {w : World} {g : Nat} {t : TypeId} {v0 v1 u0 u1 : Value} (h : w.heap[g]? = some (.cells #[u0, u1] t)) : (put2 w g v0 v1).heap[g]? = some (.cells #[v0, v1] t) := by
  have e0 := heap_setCell_same _ _ 0 _ _ v0 h
  have e1 := heap_setCell_same _ _ 1 _ _ v1 e0
  unfold put2
  simpa using e1
theorem EOwn.far {w : World} {g g' k : Nat} {T : Nat → Nat} {L : List EntT} (h : EOwn w g T L) (hne : g' < g) (u : Value) : EOwn (w.setCell ⟨g', k, none⟩ u) g T L := by
  have n : ∀ b o, g ≤ b → (⟨g', k, none⟩ : Addr) ≠ ⟨b, o, none⟩ := fun b o hb e => by injection e with e1; omega
  refine ⟨by simpa using h.1, fun c hc => ?_, fun j hj => ⟨(h.2.2.1 j hj).1, ?_⟩, h.2.2.2⟩
  · rw [World.cell?_setCell_other _ _ _ _ (n _ _ (Nat.le_refl _))]
    simpa using h.2.1 c hc
  · have hT := (h.2.2.1 j hj).1
    obtain ⟨h1, h2⟩ := (h.2.2.1 j hj).2
    refine ⟨?_, h2.far (by omega) _⟩
    rw [World.cell?_setCell_other _ _ _ _ (n _ _ (Nat.le_refl _)), World.cell?_setCell_other _ _ _ _ (n _ _ (Nat.le_refl _)), World.cell?_setCell_other _ _ _ _ (n _ _ (Nat.le_refl _)), World.cell?_setCell_other _ _ _ _ (n _ _ (Nat.le_refl _)), World.cell?_setCell_other _ _ _ _ (n _ _ (Nat.le_refl _)), World.cell?_setCell_other _ _ _ _ (n _ _ (Nat.le_refl _))]
    exact h1
theorem put2_efar {w : World} {g g' : Nat} {v0 v1 : Value} {T : Nat → Nat} {L : List EntT} (h : EOwn w g T L) (hne : g' < g) : EOwn (put2 w g' v0 v1) g T L := (h.far hne _).far hne _
theorem put2_below {B : Nat} {a w : World} (h : Below B a w) {g : Nat} (hg : B ≤ g) (v0 v1 : Value) : Below B a (put2 w g v0 v1) :=
  (h.setCell (p := ⟨g, 0, none⟩) hg _).setCell (p := ⟨g, 1, none⟩) hg _

set_option maxRecDepth 20000 in
set_option maxHeartbeats 2000000 in
theorem toCache_any (now : Int) (v : Value) (L : List EntT) (w : World) (hr : ERow w v L) (hl : L.length ≤ 1048576) (hx : Hid (∀ x ∈ L, EBig x)) :
    Calls Tryz.prog 11 #[CchV now v] w fun e w' => (∃ g T, e = .returned (CchV now (.slice (some ⟨g, 0, none⟩) L.length L.length)) ∧ w.heap.size ≤ g ∧ EOwn w' g T L) ∧ Below w.heap.size w w' := by
  unfold CchV
  obtain ⟨aa, ca, rfl, _, hca, _⟩ := id hr
  have HRA : Hid (∀ W, Below w.heap.size w W → ERow W (.slice aa L.length ca) L) := fun W hW => hr.kept hW
  clear hr
  go_enter Tryz.func11, Tryz.ntmps11
  go_wp2_with fail
  refine (toEntryS_any _ L _ (HRA.out _ ((((Below.refl w.heap.size w).alloc (Nat.le_refl _) _).alloc (by simp) _).alloc (by simp; omega) _)) hl hx).mono ?_
  rintro e w1 ⟨T, rfl, hq1, hb1⟩
  obtain ⟨c, d, fz, r, rz, hsz, hblk, hbw⟩ := box3 hb1
  have d0 := d 0
  have d1 := d 1
  have fz1 := fz 1
  have r0 := r 0
  have r1 := r 1
  have s0 := rz 0
  have s1 := rz 1
  simp at d0 d1 r0 r1
  have HQ : Hid (EOwn w1 (w.heap.size + 1 + 1 + 1) T L) := by
    have h : EOwn w1 (w.heap.size + 1 + 1 + 1) T L := by simpa using hq1
    exact h
  have HK : Hid (w1.heap[w.heap.size + 1]? = some (.cells #[.int .i64 0, .slice none 0 0] 30)) := hblk
  clear c d fz r rz hq1 hblk
  go_wp2_with fail
  (try simp only [Exit.inBlock, Exit.then])
  refine bodyPost_ret (results_cell_row rfl _ _ (w.heap.size + 1) 30 #[.int .i64 now, .slice (some ⟨w.heap.size + 1 + 1 + 1, 0, none⟩) L.length L.length] (0, 0) _ rfl ?_ Tryz.underlying30 rfl (by kernel_rfl)) rfl ⟨⟨w.heap.size + 1 + 1 + 1, T, rfl, by omega, ?_⟩, ?_⟩
  · exact put2_heap (by rw [heap_setCell_other _ _ _ _ (show w.heap.size + 1 ≠ w.heap.size + 1 + 1 by omega)]; exact HK.out)
  · exact put2_efar (HQ.out.far (by omega) _) (by omega)
  · exact put2_below (hbw.setCell (p := ⟨w.heap.size + 1 + 1, 1, none⟩) (by show w.heap.size ≤ w.heap.size + 1 + 1; omega) _) (by omega) _ _
end Go.Proofs.YtgfiahfoghnpkaaGreatDoor

namespace Go.Proofs.YtgfiahfoghnpkaaGreatDoor
open Go.RowKit

/-- Entries in a block of the call's own. -/
def EQR (w : World) (g : Nat) (L : List EntT) : Prop := ∃ T, EOwn w g T L
theorem EQR.kept {w w' : World} {g : Nat} {L : List EntT} (h : EQR w g L) (hb : Below w.heap.size w w') : EQR w' g L := by
  obtain ⟨T, hT⟩ := h; exact ⟨T, hT.kept hb⟩
theorem EQR.row {w : World} {g : Nat} {L : List EntT} (h : EQR w g L) (hx : ∀ x ∈ L, EBig x) (hl : L.length ≤ 1048576) : ERow w (.slice (some ⟨g, 0, none⟩) L.length L.length) L := by
  obtain ⟨T, hT⟩ := h; exact hT.row hx (Nat.le_refl _) (by unfold maxLen; omega)
theorem sz_cache {L : List EntT} {q : Int} (h0 : 0 ≤ q) (h : q = 1048576 - (L.length : Int) - (wtE L : Int)) : L.length ≤ 1048576 ∧ ∀ x ∈ L, EBig x := by
  refine ⟨by omega, fun x hx => ebig_of ?_⟩
  have := wtE_one hx; omega
theorem cch_cells {W : World} {b : Nat} {v0 v1 : Value} {t : TypeId} (h : W.heap[b]? = some (.cells #[v0, v1] t)) :
    W.cell? ⟨b, 0, none⟩ = some v0 ∧ W.cell? ⟨b, 1, none⟩ = some v1 := by
  refine ⟨?_, ?_⟩ <;> (unfold World.cell?; rw [h]; rfl)
end Go.Proofs.YtgfiahfoghnpkaaGreatDoor
