import Derived.Test.YtnadkifjnppgcaaLCol
namespace Go.Proofs.Ytnadkifjnppgcaa
open Go.RowKit

/-- A column among n; good columns; columns that can be picked by. -/
def colB (n : Int) (x : Int × Int) : Bool := decide (0 ≤ x.1) && inB x.2 0 (n - 1)
def goodA (L : List (Int × Int)) : Bool := inB (L.length : Int) 1 12 && L.all (colB L.length)
def mostB (t : Int) (x : Int × Int) : Bool := decide (x.1 ≤ t)
def fitA (t : Int) (L : List (Int × Int)) : Bool := L.all (mostB t) && goodA L && inB t 1 600
theorem call_on {L : List (Int × Int)} {p : Int × Int → Bool} {k : Nat} (hk : k < L.length) : (L.take (k + 1)).all p = ((L.take k).all p && p L[k]) := by
  rw [List.take_succ_eq_append_getElem hk, List.all_append]; simp
theorem call_bad {L : List (Int × Int)} {p : Int × Int → Bool} {k : Nat} (hk : k < L.length) (h : p L[k] = false) : L.all p = false := by
  rw [Bool.eq_false_iff]; intro h2
  have h3 := List.all_eq_true.1 h2 _ (List.getElem_mem hk)
  rw [h] at h3; cases h3
theorem goodA_bad {L : List (Int × Int)} {k : Nat} (hk : k < L.length) (h : colB L.length L[k] = false) : goodA L = false := by unfold goodA; rw [call_bad hk h]; simp
theorem goodA_len {L : List (Int × Int)} (h : inB (L.length : Int) 1 12 = false) : goodA L = false := by unfold goodA; rw [h]; simp
theorem goodA_all {L : List (Int × Int)} (h : L.all (colB L.length) = true) : goodA L = inB (L.length : Int) 1 12 := by unfold goodA; rw [h]; simp
theorem fitA_bad {t : Int} {L : List (Int × Int)} {k : Nat} (hk : k < L.length) (h : mostB t L[k] = false) : fitA t L = false := by unfold fitA; rw [call_bad hk h]; simp
theorem fitA_all {t : Int} {L : List (Int × Int)} (h : L.all (mostB t) = true) : fitA t L = (goodA L && inB t 1 600) := by unfold fitA; rw [h]; simp

set_option maxRecDepth 20000 in
set_option maxHeartbeats 1000000 in
theorem sGoodAlias_any (v : Value) (L : List (Int × Int)) (w : World) (hr : ColRow w v L) :
    Calls Try.prog 19 #[v] w fun e w' => e = .returned (.bool (goodA L)) ∧ Below w.heap.size w w' := by
  obtain ⟨a, cap, rfl, hcap, hmax, HROW⟩ := col_value hr
  clear hr
  go_enter Try.func19, Try.ntmps19
  go_wp2_with fail
  go_loopw [7] (fun i wr => ∃ k : Nat, k ≤ L.length ∧ i = .int .i64 (k : Int) ∧ Hid ((L.take k).all (colB L.length) = true) ∧ Below w.heap.size w wr) (fun i _ => L.length - (intOf i).toNat)
  case atStart => exact ⟨0, Nat.zero_le _, rfl, rfl, Below.refl _ _⟩
  case round =>
    obtain ⟨k, hk, rfl, HA, hb⟩ := hrel
    by_cases hlt : k < L.length
    · obtain ⟨b, o, ha, hbl, hc⟩ := HROW.out (by omega)
      rw [ha]
      have hcx := hc k hlt
      unfold ColAt at hcx
      rw [← hb.cell (p := ⟨b, o + k * 2, none⟩) hbl, ← hb.cell (p := ⟨b, o + k * 2 + 1, none⟩) hbl] at hcx
      have HN : Hid ((L.take (k + 1)).all (colB L.length) = ((L.take k).all (colB L.length) && colB L.length (L[k]'hlt))) := call_on hlt
      have HBAD : Hid (colB L.length (L[k]'hlt) = false → goodA L = false) := goodA_bad hlt
      obtain ⟨x, hx⟩ : ∃ x, x = L[k]'hlt := ⟨_, rfl⟩
      rw [← hx] at hcx HN HBAD
      obtain ⟨x1, x2⟩ := x
      obtain ⟨c0, c1⟩ := hcx
      have hbn : Below w.heap.size w (wr.alloc (.cells #[.int .i64 x1, .int .i64 x2] 47)) := hb.alloc hb.size _
      have HC : Hid (colB L.length (x1, x2) = (decide (0 ≤ x1) && inB x2 0 ((L.length : Int) - 1))) := rfl
      clear hc hx
      by_cases h1 : x1 < 0
      · have HB : Hid (goodA L = false) := HBAD.out (by rw [HC.out, decide_eq_false (by omega)]; rfl)
        go_wp2_with fail
        go_ret
        exact ⟨ret_bool HB.out.symm, hbn⟩
      · have hp : 0 ≤ x1 := by omega
        cases hq : inB x2 0 ((L.length : Int) - 1) with
        | false =>
          have HB : Hid (goodA L = false) := HBAD.out (by rw [HC.out, hq]; simp)
          go_wp2_with fail
          refine (l1In_any _ _ _ _).mono ?_
          rintro e w1 ⟨rfl, rfl⟩
          rw [hq]
          go_wp2_with fail
          go_ret
          exact ⟨ret_bool HB.out.symm, hbn⟩
        | true =>
          have HQ : Hid (colB L.length (x1, x2) = true) := by show _ = _; rw [HC.out, hq, decide_eq_true hp]; rfl
          go_wp2_with fail
          refine (l1In_any _ _ _ _).mono ?_
          rintro e w1 ⟨rfl, rfl⟩
          rw [hq]
          clear hq
          go_wp2_with fail
          go_roundw
          case rel => exact ⟨k + 1, by omega, by go_num, by show _ = true; rw [HN.out, HA.out, HQ.out]; rfl, hbn⟩
          case measure => simp [intOf]; omega
    · have HG : Hid (goodA L = inB (L.length : Int) 1 12) := by have := HA.out; rw [List.take_of_length_le (by omega)] at this; exact goodA_all this
      go_wp2_with fail
      refine (l1In_any _ _ _ _).mono ?_
      rintro e w1 ⟨rfl, rfl⟩
      go_wp2_with fail
      go_ret
      exact ⟨ret_bool HG.out.symm, hb⟩

set_option maxRecDepth 20000 in
set_option maxHeartbeats 1000000 in
theorem iGoodAlias_any (v : Value) (L : List (Int × Int)) (w : World) (hr : ColRow w v L) :
    Calls Try.prog 21 #[v] w fun e w' => e = .returned (.bool (goodA L)) ∧ Below w.heap.size w w' := by
  obtain ⟨a, cap, rfl, hcap, hmax, HROW⟩ := col_value hr
  clear hr
  cases h1 : inB (L.length : Int) 1 12 with
  | false =>
    go_enter Try.func21, Try.ntmps21
    go_wp2_with fail
    refine (iWithin_any _ _ _ _).mono ?_
    rintro e w1 ⟨rfl, rfl⟩
    rw [h1]
    go_wp2_with fail
    go_ret
    exact ⟨ret_bool (goodA_len h1).symm, Below.refl _ _⟩
  | true =>
    have H1 : Hid (inB (L.length : Int) 1 12 = true) := h1
    go_enter Try.func21, Try.ntmps21
    go_wp2_with fail
    refine (iWithin_any _ _ _ _).mono ?_
    rintro e w1 ⟨rfl, rfl⟩
    rw [h1]
    clear h1
    go_wp2_with fail
    go_loopw [11] (fun i wr => ∃ k : Nat, k ≤ L.length ∧ i = .int .i64 (k : Int) ∧ Hid ((L.take k).all (colB L.length) = true) ∧ Below w1.heap.size w1 wr) (fun i _ => L.length - (intOf i).toNat)
    case atStart => exact ⟨0, Nat.zero_le _, rfl, rfl, Below.refl _ _⟩
    case round =>
      obtain ⟨k, hk, rfl, HA, hb⟩ := hrel
      by_cases hlt : k < L.length
      · obtain ⟨b, o, ha, hbl, hc⟩ := HROW.out (by omega)
        rw [ha]
        have hcx := hc k hlt
        unfold ColAt at hcx
        rw [← hb.cell (p := ⟨b, o + k * 2, none⟩) hbl, ← hb.cell (p := ⟨b, o + k * 2 + 1, none⟩) hbl] at hcx
        have HN : Hid ((L.take (k + 1)).all (colB L.length) = ((L.take k).all (colB L.length) && colB L.length (L[k]'hlt))) := call_on hlt
        have HBAD : Hid (colB L.length (L[k]'hlt) = false → goodA L = false) := goodA_bad hlt
        obtain ⟨x, hx⟩ : ∃ x, x = L[k]'hlt := ⟨_, rfl⟩
        rw [← hx] at hcx HN HBAD
        obtain ⟨x1, x2⟩ := x
        obtain ⟨c0, c1⟩ := hcx
        have hbn : Below w1.heap.size w1 (wr.alloc (.cells #[.int .i64 x1, .int .i64 x2] 47)) := hb.alloc hb.size _
        have HC : Hid (colB L.length (x1, x2) = (decide (0 ≤ x1) && inB x2 0 ((L.length : Int) - 1))) := rfl
        clear hc hx
        by_cases h1 : x1 < 0
        · have HB : Hid (goodA L = false) := HBAD.out (by rw [HC.out, decide_eq_false (by omega)]; rfl)
          go_wp2_with fail
          go_ret
          exact ⟨ret_bool HB.out.symm, hbn⟩
        · have hp : 0 ≤ x1 := by omega
          cases hq : inB x2 0 ((L.length : Int) - 1) with
          | false =>
            have HB : Hid (goodA L = false) := HBAD.out (by rw [HC.out, hq]; simp)
            go_wp2_with fail
            refine (iWithin_any _ _ _ _).mono ?_
            rintro e w2 ⟨rfl, rfl⟩
            rw [hq]
            go_wp2_with fail
            go_ret
            exact ⟨ret_bool HB.out.symm, hbn⟩
          | true =>
            have HQ : Hid (colB L.length (x1, x2) = true) := by show _ = _; rw [HC.out, hq, decide_eq_true hp]; rfl
            go_wp2_with fail
            refine (iWithin_any _ _ _ _).mono ?_
            rintro e w2 ⟨rfl, rfl⟩
            rw [hq]
            clear hq
            go_wp2_with fail
            go_roundw
            case rel => exact ⟨k + 1, by omega, by go_num, by show _ = true; rw [HN.out, HA.out, HQ.out]; rfl, hbn⟩
            case measure => simp [intOf]; omega
      · have HG : Hid (goodA L = true) := by have := HA.out; rw [List.take_of_length_le (by omega)] at this; show _ = _; rw [goodA_all this]; exact H1.out
        go_wp2_with fail
        go_ret
        exact ⟨ret_bool HG.out.symm, hb⟩
end Go.Proofs.Ytnadkifjnppgcaa
