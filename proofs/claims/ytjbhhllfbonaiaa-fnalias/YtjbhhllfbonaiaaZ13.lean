import Derived.Test.YtjbhhllfbonaiaaZ07
import Derived.Test.YtjbhhllfbonaiaaZ12
namespace Go.Proofs.Ytjbhhllfbonaiaa
open Go.RowKit

/-- The two cells of a column at a place of a block. -/
def ColAt (w : World) (b o : Nat) (x : Int × Int) : Prop := w.cell? ⟨b, o, none⟩ = some (.int .i64 x.1) ∧ w.cell? ⟨b, o + 1, none⟩ = some (.int .i64 x.2)
/-- A list of columns as it lies in memory. -/
def ColRow (w : World) (v : Value) (L : List (Int × Int)) : Prop :=
  ∃ a cap, v = .slice a L.length cap ∧ L.length ≤ cap ∧ cap ≤ maxLen ∧ (L = [] ∨ ∃ b o, a = some ⟨b, o, none⟩ ∧ b < w.heap.size ∧ ∀ j, (hj : j < L.length) → ColAt w b (o + j * 2) L[j])
theorem ColAt.kept {w w' : World} {b o : Nat} {x : Int × Int} (h : ColAt w b o x) (hb : Below w.heap.size w w') : ColAt w' b o x := by
  have hlt := World.block_lt_of_cell? _ _ h.1
  unfold ColAt
  rw [hb.cell (p := ⟨b, o, none⟩) hlt, hb.cell (p := ⟨b, o + 1, none⟩) hlt]
  exact h
theorem ColRow.kept {w w' : World} {v : Value} {L : List (Int × Int)} (h : ColRow w v L) (hb : Below w.heap.size w w') : ColRow w' v L := by
  obtain ⟨a, cap, rfl, h1, h2, h3⟩ := h
  refine ⟨a, cap, rfl, h1, h2, ?_⟩
  rcases h3 with h3 | ⟨b, o, rfl, hb1, hc⟩
  · exact .inl h3
  · exact .inr ⟨b, o, rfl, Nat.lt_of_lt_of_le hb1 hb.size, fun j hj => (hc j hj).kept hb⟩
theorem col_value {w : World} {v : Value} {L : List (Int × Int)} (h : ColRow w v L) : ∃ a cap, v = .slice a L.length cap ∧ L.length ≤ cap ∧ cap ≤ 9223372036854775807 ∧ Hid (0 < L.length → ∃ b o, a = some ⟨b, o, none⟩ ∧ b < w.heap.size ∧ ∀ j, (hj : j < L.length) → ColAt w b (o + j * 2) L[j]) := by
  obtain ⟨a, cap, rfl, h1, h2, h3⟩ := h
  unfold maxLen at h2
  refine ⟨a, cap, rfl, h1, by omega, fun hp => ?_⟩
  rcases h3 with rfl | h3
  · simp at hp
  · exact h3
def FzC (w : World) (b o : Nat) : Prop := w.frozen? ⟨b, o, none⟩ = false ∧ w.frozen? ⟨b, o + 1, none⟩ = false
/-- Columns as they lie in a block of the call's own. -/
def CoRow (w : World) (g : Nat) (L : List (Int × Int)) : Prop := g < w.heap.size ∧ ∀ j, (hj : j < L.length) → ColAt w g (j * 2) L[j] ∧ FzC w g (j * 2)
theorem CoRow.kept {w w' : World} {g : Nat} {L : List (Int × Int)} (h : CoRow w g L) (hb : Below w.heap.size w w') : CoRow w' g L := by
  refine ⟨Nat.lt_of_lt_of_le h.1 hb.size, fun j hj => ⟨(h.2 j hj).1.kept hb, ?_⟩⟩
  unfold FzC
  rw [hb.frozen (p := ⟨g, j * 2, none⟩) h.1, hb.frozen (p := ⟨g, j * 2 + 1, none⟩) h.1]
  exact (h.2 j hj).2
theorem CoRow.row {w : World} {g cap : Nat} {L : List (Int × Int)} (h : CoRow w g L) (hc : L.length ≤ cap) (hm : cap ≤ maxLen) : ColRow w (.slice (some ⟨g, 0, none⟩) L.length cap) L :=
  ⟨_, cap, rfl, hc, hm, .inr ⟨g, 0, rfl, h.1, fun j hj => by rw [Nat.zero_add]; exact (h.2 j hj).1⟩⟩
/-- A column stored. -/
def putC (w : World) (g o : Nat) (x : Int × Int) : World := (w.setCell ⟨g, o, none⟩ (.int .i64 x.1)).setCell ⟨g, o + 1, none⟩ (.int .i64 x.2)
theorem putC_size (w : World) (g o : Nat) (x : Int × Int) : (putC w g o x).heap.size = w.heap.size := by unfold putC; simp
theorem putC_frozen (w : World) (g o : Nat) (x : Int × Int) (p : Addr) : (putC w g o x).frozen? p = w.frozen? p := by unfold putC; simp
theorem putC_other {w : World} {g o : Nat} {x : Int × Int} {b c : Nat} (h : b ≠ g ∨ (c < o ∨ o + 1 < c)) : (putC w g o x).cell? ⟨b, c, none⟩ = w.cell? ⟨b, c, none⟩ := by
  have hn : ∀ k, k ≤ 1 → (⟨g, o + k, none⟩ : Addr) ≠ ⟨b, c, none⟩ := fun k hk e => by
    injection e with e1 e2
    rcases h with h | h
    · exact h e1.symm
    · omega
  unfold putC
  rw [World.cell?_setCell_other _ _ _ _ (hn 1 (by omega)), World.cell?_setCell_other _ _ _ _ (show (⟨g, o, none⟩ : Addr) ≠ ⟨b, c, none⟩ from hn 0 (by omega))]
theorem putC_at {w : World} {g o : Nat} {x y : Int × Int} (h : ColAt w g o y) : ColAt (putC w g o x) g o x := by
  have n : (⟨g, o, none⟩ : Addr) ≠ ⟨g, o + 1, none⟩ := fun e => by injection e with _ e2; omega
  obtain ⟨h0, h1⟩ := h
  unfold putC ColAt
  refine ⟨?_, ?_⟩
  · rw [World.cell?_setCell_other _ _ _ _ n.symm]
    exact World.cell?_setCell_same _ _ _ h0
  · exact World.cell?_setCell_same _ _ _ (by rw [World.cell?_setCell_other _ _ _ _ n]; exact h1)
theorem putC_below {B : Nat} {a w : World} (h : Below B a w) {g o : Nat} (hg : B ≤ g) (x : Int × Int) : Below B a (putC w g o x) :=
  (h.setCell (p := ⟨g, o, none⟩) hg _).setCell (p := ⟨g, o + 1, none⟩) hg _
theorem CoRow.set {w : World} {g : Nat} {L : List (Int × Int)} (h : CoRow w g L) (k : Nat) (hk : k < L.length) (x : Int × Int) : CoRow (putC w g (k * 2) x) g (L.set k x) := by
  refine ⟨by rw [putC_size]; exact h.1, fun j hj => ?_⟩
  have hj' : j < L.length := by simpa using hj
  refine ⟨?_, ?_⟩
  · rw [List.getElem_set]
    split
    · rename_i e; subst e; exact putC_at (h.2 k hk).1
    · rename_i e
      have h0 := (h.2 j hj').1
      unfold ColAt at h0 ⊢
      rw [putC_other (.inr (by omega)), putC_other (.inr (by omega))]
      exact h0
  · have h0 := (h.2 j hj').2
    unfold FzC at h0 ⊢
    rw [putC_frozen, putC_frozen]; exact h0
/-- What has been copied behind k rounds. -/
def partC (L : List (Int × Int)) (k : Nat) : List (Int × Int) := L.take k ++ List.replicate (L.length - k) (0, 0)
theorem partC_length (L : List (Int × Int)) (k : Nat) (h : k ≤ L.length) : (partC L k).length = L.length := by simp [partC]; omega
theorem partC_next (L : List (Int × Int)) (k : Nat) (h : k < L.length) : partC L (k + 1) = (partC L k).set k L[k] := by
  unfold partC
  have hm : (L.take k).length = k := by simp; omega
  rw [List.take_succ_eq_append_getElem h, List.set_append_right _ _ (by omega), hm, Nat.sub_self]
  obtain ⟨m, hm2⟩ : ∃ m, L.length - k = m + 1 := ⟨L.length - k - 1, by omega⟩
  rw [hm2, show L.length - (k + 1) = m by omega, List.replicate_succ]
  simp only [List.set_cons_zero, List.append_assoc, List.singleton_append]
theorem partC_end (L : List (Int × Int)) : partC L L.length = L := by simp [partC]
theorem info_col : (Try.prog.info? 30).map (fun i => (i.zero, i.size, i.bytes)) = some (some (.agg #[.int .i64 0, .int .i64 0]), 2, 16) := by kernel_rfl
theorem made_at2 {n k r : Nat} {a b : Value} (hk : k < n) (hr : r < 2) : (madeCells #[a, b] (n * 2)).toList[k * 2 + r]? = [a, b][r]? := by
  unfold madeCells
  have h1 : k * 2 + r < n * 2 := by omega
  simp only [Array.toList_map, Array.toList_range, List.getElem?_map, List.getElem?_range h1, Option.map_some]
  rw [show (#[a, b] : Array Value).size = 2 from rfl, show (k * 2 + r) % 2 = r by omega]
  match r, hr with
  | 0, _ => rfl
  | 1, _ => rfl
theorem made_corow {w w1 : World} {L : List (Int × Int)} (hg : w.heap.size < w1.heap.size) (h : w1.ownsRow w.heap.size 30 2 (.slice (some ⟨w.heap.size, 0, none⟩) L.length L.length) L.length (madeCells #[.int .i64 0, .int .i64 0] (L.length * 2)).toList) : CoRow w1 w.heap.size (partC L 0) := by
  have hp : partC L 0 = List.replicate L.length (0, 0) := by simp [partC]
  refine ⟨hg, fun j hj => ⟨?_, h.frozenAt _, h.frozenAt _⟩⟩
  have hj' : j < L.length := by rw [hp] at hj; simpa using hj
  have hx : (partC L 0)[j] = (0, 0) := by simp only [hp]; exact List.getElem_replicate _
  rw [hx]
  unfold ColAt
  refine ⟨?_, ?_⟩
  · rw [h.cellAt (j * 2) (by omega), show j * 2 = j * 2 + 0 from rfl, made_at2 hj' (by omega)]; rfl
  · rw [h.cellAt (j * 2 + 1) (by omega), made_at2 hj' (by omega)]; rfl
end Go.Proofs.Ytjbhhllfbonaiaa

namespace Go.Proofs.Ytjbhhllfbonaiaa
open Go.RowKit

/-- A column among n; good columns; columns that can be picked by. -/
def colB (n : Int) (x : Int × Int) : Bool := decide (0 ≤ x.1) && inB x.2 0 (n - 1)
def goodA (L : List (Int × Int)) : Bool := inB (L.length : Int) 1 12 && L.all (colB L.length)
def mostB (t : Int) (x : Int × Int) : Bool := decide (x.1 ≤ t)
def fitA (t : Int) (L : List (Int × Int)) : Bool := L.all (mostB t) && goodA L && inB t 1 600
theorem call_on {L : List (Int × Int)} {p : Int × Int → Bool} {k : Nat} (hk : k < L.length) : (L.take (k + 1)).all p = ((L.take k).all p && p L[k]) := by
  rw [List.take_succ_eq_append_getElem hk, List.all_append]; simp
theorem call_bad {L : List (Int × Int)} {p : Int × Int → Bool} {k : Nat} (hk : k < L.length) (h : p L[k] = false) : L.all p = false := by
  rw [Bool.eq_false_iff]; intro h2
  have h3 := List.all_eq_true.1 h2 _ (List.getElem_mem hk)
  rw [h] at h3; cases h3
theorem goodA_bad {L : List (Int × Int)} {k : Nat} (hk : k < L.length) (h : colB L.length L[k] = false) : goodA L = false := by unfold goodA; rw [call_bad hk h]; simp
theorem goodA_len {L : List (Int × Int)} (h : inB (L.length : Int) 1 12 = false) : goodA L = false := by unfold goodA; rw [h]; simp
theorem goodA_all {L : List (Int × Int)} (h : L.all (colB L.length) = true) : goodA L = inB (L.length : Int) 1 12 := by unfold goodA; rw [h]; simp
theorem fitA_bad {t : Int} {L : List (Int × Int)} {k : Nat} (hk : k < L.length) (h : mostB t L[k] = false) : fitA t L = false := by unfold fitA; rw [call_bad hk h]; simp
theorem fitA_all {t : Int} {L : List (Int × Int)} (h : L.all (mostB t) = true) : fitA t L = (goodA L && inB t 1 600) := by unfold fitA; rw [h]; simp

set_option maxRecDepth 20000 in
set_option maxHeartbeats 1000000 in
theorem sGoodAlias_any (v : Value) (L : List (Int × Int)) (w : World) (hr : ColRow w v L) :
    Calls Try.prog 32 #[v] w fun e w' => e = .returned (.bool (goodA L)) ∧ Below w.heap.size w w' := by
  obtain ⟨a, cap, rfl, hcap, hmax, HROW⟩ := col_value hr
  clear hr
  go_enter Try.func32, Try.ntmps32
  go_wp2_with fail
  go_loopw [7] (fun i wr => ∃ k : Nat, k ≤ L.length ∧ i = .int .i64 (k : Int) ∧ Hid ((L.take k).all (colB L.length) = true) ∧ Below w.heap.size w wr) (fun i _ => L.length - (intOf i).toNat)
  case atStart => exact ⟨0, Nat.zero_le _, rfl, rfl, Below.refl _ _⟩
  case round =>
    obtain ⟨k, hk, rfl, HA, hb⟩ := hrel
    by_cases hlt : k < L.length
    · obtain ⟨b, o, ha, hbl, hc⟩ := HROW.out (by omega)
      rw [ha]
      have hcx := hc k hlt
      unfold ColAt at hcx
      rw [← hb.cell (p := ⟨b, o + k * 2, none⟩) hbl, ← hb.cell (p := ⟨b, o + k * 2 + 1, none⟩) hbl] at hcx
      have HN : Hid ((L.take (k + 1)).all (colB L.length) = ((L.take k).all (colB L.length) && colB L.length (L[k]'hlt))) := call_on hlt
      have HBAD : Hid (colB L.length (L[k]'hlt) = false → goodA L = false) := goodA_bad hlt
      obtain ⟨x, hx⟩ : ∃ x, x = L[k]'hlt := ⟨_, rfl⟩
      rw [← hx] at hcx HN HBAD
      obtain ⟨x1, x2⟩ := x
      obtain ⟨c0, c1⟩ := hcx
      have hbn : Below w.heap.size w (wr.alloc (.cells #[.int .i64 x1, .int .i64 x2] 30)) := hb.alloc hb.size _
      have HC : Hid (colB L.length (x1, x2) = (decide (0 ≤ x1) && inB x2 0 ((L.length : Int) - 1))) := rfl
      clear hc hx
      by_cases h1 : x1 < 0
      · have HB : Hid (goodA L = false) := HBAD.out (by rw [HC.out, decide_eq_false (by omega)]; rfl)
        go_wp2_with fail
        go_ret
        exact ⟨ret_boolY HB.out.symm, hbn⟩
      · have hp : 0 ≤ x1 := by omega
        cases hq : inB x2 0 ((L.length : Int) - 1) with
        | false =>
          have HB : Hid (goodA L = false) := HBAD.out (by rw [HC.out, hq]; simp)
          go_wp2_with fail
          refine (l1In_anyY _ _ _ _).mono ?_
          rintro e w1 ⟨rfl, rfl⟩
          rw [hq]
          go_wp2_with fail
          go_ret
          exact ⟨ret_boolY HB.out.symm, hbn⟩
        | true =>
          have HQ : Hid (colB L.length (x1, x2) = true) := by show _ = _; rw [HC.out, hq, decide_eq_true hp]; rfl
          go_wp2_with fail
          refine (l1In_anyY _ _ _ _).mono ?_
          rintro e w1 ⟨rfl, rfl⟩
          rw [hq]
          clear hq
          go_wp2_with fail
          go_roundw
          case rel => exact ⟨k + 1, by omega, by go_num, by show _ = true; rw [HN.out, HA.out, HQ.out]; rfl, hbn⟩
          case measure => simp [intOf]; omega
    · have HG : Hid (goodA L = inB (L.length : Int) 1 12) := by have := HA.out; rw [List.take_of_length_le (by omega)] at this; exact goodA_all this
      go_wp2_with fail
      refine (l1In_anyY _ _ _ _).mono ?_
      rintro e w1 ⟨rfl, rfl⟩
      go_wp2_with fail
      go_ret
      exact ⟨ret_boolY HG.out.symm, hb⟩

set_option maxRecDepth 20000 in
set_option maxHeartbeats 1000000 in
theorem iGoodAlias_any (v : Value) (L : List (Int × Int)) (w : World) (hr : ColRow w v L) :
    Calls Try.prog 9 #[v] w fun e w' => e = .returned (.bool (goodA L)) ∧ Below w.heap.size w w' := by
  obtain ⟨a, cap, rfl, hcap, hmax, HROW⟩ := col_value hr
  clear hr
  cases h1 : inB (L.length : Int) 1 12 with
  | false =>
    go_enter Try.func9, Try.ntmps9
    go_wp2_with fail
    refine (iWithin_anyY _ _ _ _).mono ?_
    rintro e w1 ⟨rfl, rfl⟩
    rw [h1]
    go_wp2_with fail
    go_ret
    exact ⟨ret_boolY (goodA_len h1).symm, Below.refl _ _⟩
  | true =>
    have H1 : Hid (inB (L.length : Int) 1 12 = true) := h1
    go_enter Try.func9, Try.ntmps9
    go_wp2_with fail
    refine (iWithin_anyY _ _ _ _).mono ?_
    rintro e w1 ⟨rfl, rfl⟩
    rw [h1]
    clear h1
    go_wp2_with fail
    go_loopw [11] (fun i wr => ∃ k : Nat, k ≤ L.length ∧ i = .int .i64 (k : Int) ∧ Hid ((L.take k).all (colB L.length) = true) ∧ Below w1.heap.size w1 wr) (fun i _ => L.length - (intOf i).toNat)
    case atStart => exact ⟨0, Nat.zero_le _, rfl, rfl, Below.refl _ _⟩
    case round =>
      obtain ⟨k, hk, rfl, HA, hb⟩ := hrel
      by_cases hlt : k < L.length
      · obtain ⟨b, o, ha, hbl, hc⟩ := HROW.out (by omega)
        rw [ha]
        have hcx := hc k hlt
        unfold ColAt at hcx
        rw [← hb.cell (p := ⟨b, o + k * 2, none⟩) hbl, ← hb.cell (p := ⟨b, o + k * 2 + 1, none⟩) hbl] at hcx
        have HN : Hid ((L.take (k + 1)).all (colB L.length) = ((L.take k).all (colB L.length) && colB L.length (L[k]'hlt))) := call_on hlt
        have HBAD : Hid (colB L.length (L[k]'hlt) = false → goodA L = false) := goodA_bad hlt
        obtain ⟨x, hx⟩ : ∃ x, x = L[k]'hlt := ⟨_, rfl⟩
        rw [← hx] at hcx HN HBAD
        obtain ⟨x1, x2⟩ := x
        obtain ⟨c0, c1⟩ := hcx
        have hbn : Below w1.heap.size w1 (wr.alloc (.cells #[.int .i64 x1, .int .i64 x2] 30)) := hb.alloc hb.size _
        have HC : Hid (colB L.length (x1, x2) = (decide (0 ≤ x1) && inB x2 0 ((L.length : Int) - 1))) := rfl
        clear hc hx
        by_cases h1 : x1 < 0
        · have HB : Hid (goodA L = false) := HBAD.out (by rw [HC.out, decide_eq_false (by omega)]; rfl)
          go_wp2_with fail
          go_ret
          exact ⟨ret_boolY HB.out.symm, hbn⟩
        · have hp : 0 ≤ x1 := by omega
          cases hq : inB x2 0 ((L.length : Int) - 1) with
          | false =>
            have HB : Hid (goodA L = false) := HBAD.out (by rw [HC.out, hq]; simp)
            go_wp2_with fail
            refine (iWithin_anyY _ _ _ _).mono ?_
            rintro e w2 ⟨rfl, rfl⟩
            rw [hq]
            go_wp2_with fail
            go_ret
            exact ⟨ret_boolY HB.out.symm, hbn⟩
          | true =>
            have HQ : Hid (colB L.length (x1, x2) = true) := by show _ = _; rw [HC.out, hq, decide_eq_true hp]; rfl
            go_wp2_with fail
            refine (iWithin_anyY _ _ _ _).mono ?_
            rintro e w2 ⟨rfl, rfl⟩
            rw [hq]
            clear hq
            go_wp2_with fail
            go_roundw
            case rel => exact ⟨k + 1, by omega, by go_num, by show _ = true; rw [HN.out, HA.out, HQ.out]; rfl, hbn⟩
            case measure => simp [intOf]; omega
      · have HG : Hid (goodA L = true) := by have := HA.out; rw [List.take_of_length_le (by omega)] at this; show _ = _; rw [goodA_all this]; exact H1.out
        go_wp2_with fail
        go_ret
        exact ⟨ret_boolY HG.out.symm, hb⟩
end Go.Proofs.Ytjbhhllfbonaiaa

namespace Go.Proofs.Ytjbhhllfbonaiaa
open Go.RowKit

set_option maxRecDepth 20000 in
set_option maxHeartbeats 1000000 in
theorem sFits_any (v : Value) (t : Int) (L : List (Int × Int)) (w : World) (hr : ColRow w v L) :
    Calls Try.prog 25 #[v, .int .i64 t] w fun e w' => e = .returned (.bool (fitA t L)) ∧ Below w.heap.size w w' := by
  have HR0 : Hid (ColRow w v L) := hr
  obtain ⟨a, cap, rfl, hcap, hmax, HROW⟩ := col_value hr
  clear hr
  go_enter Try.func25, Try.ntmps25
  go_wp2_with fail
  go_loopw [9] (fun i wr => ∃ k : Nat, k ≤ L.length ∧ i = .int .i64 (k : Int) ∧ Hid ((L.take k).all (mostB t) = true) ∧ Below w.heap.size w wr) (fun i _ => L.length - (intOf i).toNat)
  case atStart => exact ⟨0, Nat.zero_le _, rfl, rfl, Below.refl _ _⟩
  case round =>
    obtain ⟨k, hk, rfl, HA, hb⟩ := hrel
    by_cases hlt : k < L.length
    · obtain ⟨b, o, ha, hbl, hc⟩ := HROW.out (by omega)
      rw [ha]
      have hcx := hc k hlt
      unfold ColAt at hcx
      rw [← hb.cell (p := ⟨b, o + k * 2, none⟩) hbl, ← hb.cell (p := ⟨b, o + k * 2 + 1, none⟩) hbl] at hcx
      have HN : Hid ((L.take (k + 1)).all (mostB t) = ((L.take k).all (mostB t) && mostB t (L[k]'hlt))) := call_on hlt
      have HBAD : Hid (mostB t (L[k]'hlt) = false → fitA t L = false) := fitA_bad hlt
      obtain ⟨x, hx⟩ : ∃ x, x = L[k]'hlt := ⟨_, rfl⟩
      rw [← hx] at hcx HN HBAD
      obtain ⟨x1, x2⟩ := x
      obtain ⟨c0, c1⟩ := hcx
      have hbn : Below w.heap.size w (wr.alloc (.cells #[.int .i64 x1, .int .i64 x2] 30)) := hb.alloc hb.size _
      have HC : Hid (mostB t (x1, x2) = decide (x1 ≤ t)) := rfl
      clear hc hx
      by_cases h1 : t < x1
      · have HB : Hid (fitA t L = false) := HBAD.out (by rw [HC.out, decide_eq_false (by omega)])
        go_wp2_with fail
        go_ret
        exact ⟨ret_boolY HB.out.symm, hbn⟩
      · have HQ : Hid (mostB t (x1, x2) = true) := by show _ = _; rw [HC.out, decide_eq_true (by omega)]
        go_wp2_with fail
        go_roundw
        case rel => exact ⟨k + 1, by omega, by go_num, by show _ = true; rw [HN.out, HA.out, HQ.out]; rfl, hbn⟩
        case measure => simp [intOf]; omega
    · have HG : Hid (fitA t L = (goodA L && inB t 1 600)) := by have := HA.out; rw [List.take_of_length_le (by omega)] at this; exact fitA_all this
      cases hg : goodA L with
      | false =>
        have HF : Hid (fitA t L = false) := by show _ = _; rw [HG.out, hg]; rfl
        go_wp2_with fail
        refine (sGoodAlias_any _ L _ (HR0.out.kept hb)).mono ?_
        rintro e w1 ⟨rfl, hb1⟩
        rw [hg]
        go_wp2_with fail
        go_ret
        exact ⟨ret_boolY HF.out.symm, hb.trans (hb1.mono hb.size)⟩
      | true =>
        have HF : Hid (fitA t L = inB t 1 600) := by show _ = _; rw [HG.out, hg]; rfl
        go_wp2_with fail
        refine (sGoodAlias_any _ L _ (HR0.out.kept hb)).mono ?_
        rintro e w1 ⟨rfl, hb1⟩
        rw [hg]
        go_wp2_with fail
        refine (l1In_anyY _ _ _ _).mono ?_
        rintro e w2 ⟨rfl, rfl⟩
        go_wp2_with fail
        go_ret
        exact ⟨ret_boolY HF.out.symm, hb.trans (hb1.mono hb.size)⟩

set_option maxRecDepth 20000 in
set_option maxHeartbeats 1000000 in
theorem iFits_any (v : Value) (t : Int) (L : List (Int × Int)) (w : World) (hr : ColRow w v L) :
    Calls Try.prog 22 #[v, .int .i64 t] w fun e w' => e = .returned (.bool (fitA t L)) ∧ Below w.heap.size w w' := by
  have HR0 : Hid (ColRow w v L) := hr
  obtain ⟨a, cap, rfl, hcap, hmax, HROW⟩ := col_value hr
  clear hr
  cases ht : inB t 1 600 with
  | false =>
    have HF : Hid (fitA t L = false) := by show _ = _; unfold fitA; rw [ht]; simp
    go_enter Try.func22, Try.ntmps22
    go_wp2_with fail
    refine (iWithin_anyY _ _ _ _).mono ?_
    rintro e w1 ⟨rfl, rfl⟩
    rw [ht]
    go_wp2_with fail
    go_ret
    exact ⟨ret_boolY HF.out.symm, Below.refl _ _⟩
  | true =>
  cases hg : goodA L with
  | false =>
    have HF : Hid (fitA t L = false) := by show _ = _; unfold fitA; rw [hg]; simp
    go_enter Try.func22, Try.ntmps22
    go_wp2_with fail
    refine (iWithin_anyY _ _ _ _).mono ?_
    rintro e w1 ⟨rfl, rfl⟩
    rw [ht]
    go_wp2_with fail
    refine (iGoodAlias_any _ L _ HR0.out).mono ?_
    rintro e w2 ⟨rfl, hb2⟩
    rw [hg]
    go_wp2_with fail
    go_ret
    exact ⟨ret_boolY HF.out.symm, hb2⟩
  | true =>
    have HG : Hid (fitA t L = L.all (mostB t)) := by show _ = _; unfold fitA; rw [hg, ht]; simp
    go_enter Try.func22, Try.ntmps22
    go_wp2_with fail
    refine (iWithin_anyY _ _ _ _).mono ?_
    rintro e w1 ⟨rfl, rfl⟩
    rw [ht]
    go_wp2_with fail
    refine (iGoodAlias_any _ L _ HR0.out).mono ?_
    rintro e w2 ⟨rfl, hb2⟩
    rw [hg]
    clear hg ht
    go_wp2_with fail
    go_loopw [17] (fun i wr => ∃ k : Nat, k ≤ L.length ∧ i = .int .i64 (k : Int) ∧ Hid ((L.take k).all (mostB t) = true) ∧ Below w1.heap.size w1 wr) (fun i _ => L.length - (intOf i).toNat)
    case atStart => exact ⟨0, Nat.zero_le _, rfl, rfl, hb2⟩
    case round =>
      obtain ⟨k, hk, rfl, HA, hb⟩ := hrel
      clear hb2
      by_cases hlt : k < L.length
      · obtain ⟨b, o, ha, hbl, hc⟩ := HROW.out (by omega)
        rw [ha]
        have hcx := hc k hlt
        unfold ColAt at hcx
        rw [← hb.cell (p := ⟨b, o + k * 2, none⟩) hbl, ← hb.cell (p := ⟨b, o + k * 2 + 1, none⟩) hbl] at hcx
        have HN : Hid ((L.take (k + 1)).all (mostB t) = ((L.take k).all (mostB t) && mostB t (L[k]'hlt))) := call_on hlt
        have HBAD : Hid (mostB t (L[k]'hlt) = false → fitA t L = false) := fitA_bad hlt
        obtain ⟨x, hx⟩ : ∃ x, x = L[k]'hlt := ⟨_, rfl⟩
        rw [← hx] at hcx HN HBAD
        obtain ⟨x1, x2⟩ := x
        obtain ⟨c0, c1⟩ := hcx
        have hbn : Below w1.heap.size w1 (wr.alloc (.cells #[.int .i64 x1, .int .i64 x2] 30)) := hb.alloc hb.size _
        have HC : Hid (mostB t (x1, x2) = decide (x1 ≤ t)) := rfl
        clear hc hx
        by_cases h1 : t < x1
        · have HB : Hid (fitA t L = false) := HBAD.out (by rw [HC.out, decide_eq_false (by omega)])
          go_wp2_with fail
          go_ret
          exact ⟨ret_boolY HB.out.symm, hbn⟩
        · have HQ : Hid (mostB t (x1, x2) = true) := by show _ = _; rw [HC.out, decide_eq_true (by omega)]
          go_wp2_with fail
          go_roundw
          case rel => exact ⟨k + 1, by omega, by go_num, by show _ = true; rw [HN.out, HA.out, HQ.out]; rfl, hbn⟩
          case measure => simp [intOf]; omega
      · have HF : Hid (fitA t L = true) := by have := HA.out; rw [List.take_of_length_le (by omega)] at this; show _ = _; rw [HG.out, this]
        go_wp2_with fail
        go_ret
        exact ⟨ret_boolY HF.out.symm, hb⟩
end Go.Proofs.Ytjbhhllfbonaiaa

namespace Go.Proofs.Ytjbhhllfbonaiaa
open Go.RowKit

/-- Who is picked by a draw. -/
def pkN (L : List (Int × Int)) (t d : Int) : Int := match L[(d.tdiv t).toNat]? with | some x => if d.tmod t < x.1 then d.tdiv t else x.2 | none => 0
def pkB (L : List (Int × Int)) (t d : Int) : Bool := fitA t L && inB d 0 ((L.length : Int) * t - 1)
def pkV (L : List (Int × Int)) (t d : Int) : Value := .tuple #[.int .i64 (if pkB L t d then pkN L t d else 0), .bool (pkB L t d)]
theorem pk_no {L : List (Int × Int)} {t d : Int} (h : pkB L t d = false) : pkV L t d = .tuple #[.int .i64 0, .bool false] := by unfold pkV; rw [h]; rfl
theorem pk_at {L : List (Int × Int)} {t d : Int} {k : Nat} (h : pkB L t d = true) (hk : k < L.length) (e : d.tdiv t = (k : Int)) : pkV L t d = .tuple #[.int .i64 (if d.tmod t < (L[k]).1 then (k : Int) else (L[k]).2), .bool true] := by
  unfold pkV pkN; rw [h, if_pos rfl, e, Int.toNat_natCast, List.getElem?_eq_getElem hk]
theorem pk_facts {L : List (Int × Int)} {t d : Int} (h : pkB L t d = true) : 1 ≤ t ∧ t ≤ 600 ∧ 0 ≤ d ∧ d ≤ (L.length : Int) * t - 1 ∧ L.length ≤ 12 ∧ ∃ k : Nat, k < L.length ∧ d.tdiv t = (k : Int) ∧ 0 ≤ d.tmod t ∧ d.tmod t < t := by
  unfold pkB fitA goodA inB at h
  simp only [Bool.and_eq_true, decide_eq_true_eq] at h
  obtain ⟨⟨⟨_, ⟨⟨_, hl⟩, _⟩⟩, ht1, ht2⟩, hd1, hd2⟩ := h
  have h0 : 0 ≤ d.tdiv t := Int.tdiv_nonneg hd1 (by omega)
  have h1 : d.tdiv t < (L.length : Int) := by
    rw [Int.tdiv_eq_ediv_of_nonneg hd1]
    exact Int.ediv_lt_of_lt_mul (by omega) (by omega)
  refine ⟨ht1, ht2, hd1, hd2, by omega, (d.tdiv t).toNat, by omega, by omega, ?_, ?_⟩
  · rw [Int.tmod_eq_emod_of_nonneg hd1]; exact Int.emod_nonneg _ (by omega)
  · rw [Int.tmod_eq_emod_of_nonneg hd1]; exact Int.emod_lt_of_pos _ (by omega)
theorem pk_ret {L : List (Int × Int)} {t d x : Int} {b : Bool} (h : pkV L t d = .tuple #[.int .i64 x, .bool b]) : Ending.returned (.tuple #[.int .i64 x, .bool b]) = .returned (pkV L t d) := by rw [h]
theorem mul_small {n t : Int} (h1 : 1 ≤ t) (h2 : t ≤ 600) (h3 : 0 ≤ n) (h4 : n ≤ 12) : 0 ≤ n * t ∧ n * t ≤ 7200 := by
  constructor
  · exact Int.mul_nonneg h3 (by omega)
  · have := Int.mul_le_mul h4 h2 (by omega) (by omega)
    omega
theorem fit_facts {L : List (Int × Int)} {t : Int} (h : fitA t L = true) : 1 ≤ t ∧ t ≤ 600 ∧ L.length ≤ 12 := by
  unfold fitA goodA inB at h
  simp only [Bool.and_eq_true, decide_eq_true_eq] at h
  omega

set_option maxRecDepth 20000 in
set_option maxHeartbeats 1000000 in
theorem sPickBy_any (v : Value) (t d : Int) (L : List (Int × Int)) (w : World) (hr : ColRow w v L) :
    Calls Try.prog 13 #[v, .int .i64 t, .int .i64 d] w fun e w' => e = .returned (pkV L t d) ∧ Below w.heap.size w w' := by
  have HR0 : Hid (ColRow w v L) := hr
  obtain ⟨a, cap, rfl, hcap, hmax, HROW⟩ := col_value hr
  clear hr
  cases hf : fitA t L with
  | false =>
    have HP : Hid (pkV L t d = .tuple #[.int .i64 0, .bool false]) := pk_no (by unfold pkB; rw [hf]; rfl)
    go_enter Try.func13, Try.ntmps13
    go_wp2_with fail
    refine (sFits_any _ _ L _ HR0.out).mono ?_
    rintro e w1 ⟨rfl, hb1⟩
    rw [hf]
    go_wp2_with fail
    go_ret2
    exact ⟨pk_ret HP.out, hb1⟩
  | true =>
    obtain ⟨ht1, ht2, hl12⟩ := fit_facts hf
    have hm := mul_small (n := (L.length : Int)) ht1 ht2 (by omega) (by omega)
    cases hd : inB d 0 ((L.length : Int) * t - 1) with
    | false =>
      have HP : Hid (pkV L t d = .tuple #[.int .i64 0, .bool false]) := pk_no (by unfold pkB; rw [hd]; simp)
      go_enter Try.func13, Try.ntmps13
      go_wp2_with fail
      refine (sFits_any _ _ L _ HR0.out).mono ?_
      rintro e w1 ⟨rfl, hb1⟩
      rw [hf]
      go_wp2_with fail
      refine (l1In_anyY _ _ _ _).mono ?_
      rintro e w2 ⟨rfl, rfl⟩
      rw [hd]
      go_wp2_with fail
      go_ret2
      exact ⟨pk_ret HP.out, hb1⟩
    | true =>
      have hpb : pkB L t d = true := by unfold pkB; rw [hf, hd]; rfl
      obtain ⟨_, _, hd0, hd1, _, k, hk, hek, hm0, hm1⟩ := pk_facts hpb
      have HP : Hid (pkV L t d = .tuple #[.int .i64 (if d.tmod t < (L[k]'hk).1 then (k : Int) else (L[k]'hk).2), .bool true]) := pk_at hpb hk hek
      obtain ⟨b, o, ha, hbl, hc⟩ := HROW.out (by omega)
      have hcx := hc k hk
      obtain ⟨x, hx⟩ : ∃ x, x = L[k]'hk := ⟨_, rfl⟩
      rw [← hx] at hcx HP
      obtain ⟨x1, x2⟩ := x
      have HCX : Hid (ColAt w b (o + k * 2) (x1, x2)) := hcx
      have HR1 := HR0
      rw [ha] at HR1
      rw [ha]
      have hz : (t == 0) = false := by simp; omega
      have hz2 : ¬ t = 0 := by omega
      have hki : (k : Int) < (L.length : Int) := by omega
      obtain ⟨m, hme⟩ : ∃ m, m = d.tmod t := ⟨_, rfl⟩
      have HME : Hid (d.tmod t = m) := hme.symm
      rw [← hme] at HP hm0 hm1
      have HEK : Hid (d.tdiv t = (k : Int)) := hek
      clear hc hx hpb hcx hek hme HR0
      go_enter Try.func13, Try.ntmps13
      go_wp2_with fail
      refine (sFits_any _ _ L _ HR1.out).mono ?_
      rintro e w1 ⟨rfl, hb1⟩
      rw [hf]
      have hc1 := HCX.out.kept hb1
      unfold ColAt at hc1
      obtain ⟨c0, c1⟩ := hc1
      go_wp2_with fail
      refine (l1In_anyY _ _ _ _).mono ?_
      rintro e w2 ⟨rfl, rfl⟩
      rw [hd]
      have ek := HEK.out
      have em := HME.out
      clear hd hf
      by_cases hlt : m < x1
      · have HP2 : Hid (pkV L t d = .tuple #[.int .i64 (k : Int), .bool true]) := by show _ = _; rw [HP.out, if_pos hlt]
        go_wp2_with fail
        go_quiet (fail)
        go_wp2_with fail
        go_ret2
        exact ⟨pk_ret HP2.out, below_drewN hb1 _⟩
      · have HP2 : Hid (pkV L t d = .tuple #[.int .i64 x2, .bool true]) := by show _ = _; rw [HP.out, if_neg hlt]
        go_wp2_with fail
        go_quiet (fail)
        go_wp2_with fail
        go_ret2
        exact ⟨pk_ret HP2.out, below_drewN hb1 _⟩

set_option maxRecDepth 20000 in
set_option maxHeartbeats 1000000 in
theorem iPickBy_any (v : Value) (t d : Int) (L : List (Int × Int)) (w : World) (hr : ColRow w v L) :
    Calls Try.prog 10 #[v, .int .i64 t, .int .i64 d] w fun e w' => e = .returned (pkV L t d) ∧ Below w.heap.size w w' := by
  have HR0 : Hid (ColRow w v L) := hr
  obtain ⟨a, cap, rfl, hcap, hmax, HROW⟩ := col_value hr
  clear hr
  cases hf : fitA t L with
  | false =>
    have HP : Hid (pkV L t d = .tuple #[.int .i64 0, .bool false]) := pk_no (by unfold pkB; rw [hf]; rfl)
    go_enter Try.func10, Try.ntmps10
    go_wp2_with fail
    refine (iFits_any _ _ L _ HR0.out).mono ?_
    rintro e w1 ⟨rfl, hb1⟩
    rw [hf]
    go_wp2_with fail
    go_ret2
    exact ⟨pk_ret HP.out, hb1⟩
  | true =>
    obtain ⟨ht1, ht2, hl12⟩ := fit_facts hf
    have hm := mul_small (n := (L.length : Int)) ht1 ht2 (by omega) (by omega)
    cases hd : inB d 0 ((L.length : Int) * t - 1) with
    | false =>
      have HP : Hid (pkV L t d = .tuple #[.int .i64 0, .bool false]) := pk_no (by unfold pkB; rw [hd]; simp)
      go_enter Try.func10, Try.ntmps10
      go_wp2_with fail
      refine (iFits_any _ _ L _ HR0.out).mono ?_
      rintro e w1 ⟨rfl, hb1⟩
      rw [hf]
      go_wp2_with fail
      refine (iWithin_anyY _ _ _ _).mono ?_
      rintro e w2 ⟨rfl, rfl⟩
      rw [hd]
      go_wp2_with fail
      go_ret2
      exact ⟨pk_ret HP.out, hb1⟩
    | true =>
      have hpb : pkB L t d = true := by unfold pkB; rw [hf, hd]; rfl
      obtain ⟨_, _, hd0, hd1, _, k, hk, hek, hm0, hm1⟩ := pk_facts hpb
      have HP : Hid (pkV L t d = .tuple #[.int .i64 (if d.tmod t < (L[k]'hk).1 then (k : Int) else (L[k]'hk).2), .bool true]) := pk_at hpb hk hek
      obtain ⟨b, o, ha, hbl, hc⟩ := HROW.out (by omega)
      have hcx := hc k hk
      obtain ⟨x, hx⟩ : ∃ x, x = L[k]'hk := ⟨_, rfl⟩
      rw [← hx] at hcx HP
      obtain ⟨x1, x2⟩ := x
      have HCX : Hid (ColAt w b (o + k * 2) (x1, x2)) := hcx
      have HR1 := HR0
      rw [ha] at HR1
      rw [ha]
      have hz : (t == 0) = false := by simp; omega
      have hz2 : ¬ t = 0 := by omega
      have hki : (k : Int) < (L.length : Int) := by omega
      obtain ⟨m, hme⟩ : ∃ m, m = d.tmod t := ⟨_, rfl⟩
      have HME : Hid (d.tmod t = m) := hme.symm
      rw [← hme] at HP hm0 hm1
      have HEK : Hid (d.tdiv t = (k : Int)) := hek
      clear hc hx hpb hcx hek hme HR0
      go_enter Try.func10, Try.ntmps10
      go_wp2_with fail
      refine (iFits_any _ _ L _ HR1.out).mono ?_
      rintro e w1 ⟨rfl, hb1⟩
      rw [hf]
      have hc1 := HCX.out.kept hb1
      unfold ColAt at hc1
      obtain ⟨c0, c1⟩ := hc1
      go_wp2_with fail
      refine (iWithin_anyY _ _ _ _).mono ?_
      rintro e w2 ⟨rfl, rfl⟩
      rw [hd]
      have ek := HEK.out
      have em := HME.out
      clear hd hf
      by_cases hlt : m < x1
      · have HP2 : Hid (pkV L t d = .tuple #[.int .i64 (k : Int), .bool true]) := by show _ = _; rw [HP.out, if_pos hlt]
        go_wp2_with fail
        go_quiet (fail)
        go_wp2_with fail
        go_ret2
        exact ⟨pk_ret HP2.out, below_drewN hb1 _⟩
      · have HP2 : Hid (pkV L t d = .tuple #[.int .i64 x2, .bool true]) := by show _ = _; rw [HP.out, if_neg hlt]
        go_wp2_with fail
        go_quiet (fail)
        go_wp2_with fail
        go_ret2
        exact ⟨pk_ret HP2.out, below_drewN hb1 _⟩
end Go.Proofs.Ytjbhhllfbonaiaa
