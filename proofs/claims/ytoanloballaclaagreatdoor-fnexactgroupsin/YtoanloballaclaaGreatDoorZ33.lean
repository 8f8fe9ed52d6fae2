import Derived.Test.YtoanloballaclaaGreatDoorZ31
import Derived.Test.YtoanloballaclaaGreatDoorZ32
namespace Go.Proofs.YtoanloballaclaaGreatDoor
open Go.RowKit

/-- A serial that none of a list is newer than; the first such one. -/
def okB (n o : Int) : Bool := tldB n o && !newB n o
def nwB (L : List Int) (n : Int) : Bool := L.all (okB n)
def nwO (L : List Int) : Option Int := if inB (L.length : Int) 1 20 && L.all serB then L.find? (nwB L) else none
def nwV (L : List Int) : Value := .tuple #[.int .i64 ((nwO L).getD 0), .bool (nwO L).isSome]
theorem nw_len {L : List Int} (h : inB (L.length : Int) 1 20 = false) : nwO L = none := by unfold nwO; rw [h]; rfl
theorem nw_bad {L : List Int} {k : Nat} (hk : k < L.length) (h : serB L[k] = false) : nwO L = none := by
  unfold nwO
  rw [if_neg]
  intro hh
  have h2 := List.all_eq_true.1 (Bool.and_eq_true_iff.1 hh).2 L[k] (List.getElem_mem hk)
  rw [h] at h2; cases h2
theorem nw_find {L : List Int} (h1 : inB (L.length : Int) 1 20 = true) (h2 : L.all serB = true) : nwO L = L.find? (nwB L) := by unfold nwO; rw [h1, h2]; rfl
theorem find_at {L : List Int} {p : Int → Bool} {k : Nat} (hk : k < L.length) (h : (L.take k).find? p = none) (hp : p L[k] = true) : L.find? p = some L[k] := by
  have h2 : (L.take k ++ L[k] :: L.drop (k + 1)).find? p = some L[k] := by rw [List.find?_append, h, List.find?_cons, hp]; rfl
  have e : L.take k ++ L[k] :: L.drop (k + 1) = L := by simp
  rw [e] at h2; exact h2
theorem find_on {L : List Int} {p : Int → Bool} {k : Nat} (hk : k < L.length) (h : (L.take k).find? p = none) (hp : p L[k] = false) : (L.take (k + 1)).find? p = none := by
  rw [List.take_succ_eq_append_getElem hk, List.find?_append, h]; simp [hp]
theorem all_on {L : List Int} {p : Int → Bool} {k : Nat} (hk : k < L.length) : (L.take (k + 1)).all p = ((L.take k).all p && p L[k]) := by
  rw [List.take_succ_eq_append_getElem hk, List.all_append]; simp
theorem nw_ret {L : List Int} {o : Option Int} (h : nwO L = o) : Ending.returned (.tuple #[.int .i64 (o.getD 0), .bool o.isSome]) = .returned (nwV L) := by unfold nwV; rw [h]
theorem les_ser {a b : Int} (ha : serB a = true) (hb : serB b = true) : lesV a b = .tuple #[.bool (newB a b), .bool (tldB a b)] := by unfold lesV; rw [ha, hb]; rfl

end Go.Proofs.YtoanloballaclaaGreatDoor

namespace Go.Proofs.YtoanloballaclaaGreatDoor
open Go.RowKit

/-- A weight; a number that is near 0; good weights. -/
def wtB (n : Int) : Bool := inB n 0 50
def smB (n : Int) : Bool := inB n (-10000) 10000
def goodW (L : List Int) : Bool := inB (L.length : Int) 1 12 && L.all wtB && decide (0 < L.sum)
theorem sum_on {L : List Int} {k : Nat} (hk : k < L.length) : (L.take (k + 1)).sum = (L.take k).sum + L[k] := by
  rw [List.take_succ_eq_append_getElem hk, List.sum_append]; simp
theorem wt_in {n : Int} (h : wtB n = true) : 0 ≤ n ∧ n ≤ 50 := by simpa [wtB, inB] using h
theorem sm_in {n : Int} (h : smB n = true) : -10000 ≤ n ∧ n ≤ 10000 := by simpa [smB, inB] using h
theorem wt_sm {n : Int} (h : wtB n = true) : smB n = true := by
  have := wt_in h
  simp [smB, inB]; omega
theorem all_sm {L : List Int} (h : L.all wtB = true) : L.all smB = true :=
  List.all_eq_true.2 fun x hx => wt_sm (List.all_eq_true.1 h x hx)
theorem sm_sum : ∀ (L : List Int), L.all smB = true → -10000 * (L.length : Int) ≤ L.sum ∧ L.sum ≤ 10000 * (L.length : Int)
  | [], _ => by simp
  | x :: l, h => by
    rw [List.all_cons, Bool.and_eq_true] at h
    have h1 := sm_in h.1
    have h2 := sm_sum l h.2
    rw [List.sum_cons, List.length_cons]
    omega
theorem take_sm {L : List Int} (k : Nat) (h : L.all smB = true) : (L.take k).all smB = true :=
  List.all_eq_true.2 fun x hx => List.all_eq_true.1 h x (List.mem_of_mem_take hx)
theorem all_bad {L : List Int} {p : Int → Bool} {k : Nat} (hk : k < L.length) (h : p L[k] = false) : L.all p = false := by
  rw [Bool.eq_false_iff]; intro h2
  have h3 := List.all_eq_true.1 h2 _ (List.getElem_mem hk)
  rw [h] at h3; cases h3
theorem good_bad {L : List Int} (h : L.all wtB = false) : goodW L = false := by unfold goodW; rw [h]; simp
theorem good_len {L : List Int} (h : inB (L.length : Int) 1 12 = false) : goodW L = false := by unfold goodW; rw [h]; simp
theorem goodW_all {L : List Int} {q : Bool} (h : L.all wtB = true) (hq : inB (L.length : Int) 1 12 = q) : goodW L = (q && decide (0 < L.sum)) := by unfold goodW; rw [h, hq]; simp
theorem i64_wrap {x : Int} (h1 : -9223372036854775808 ≤ x) (h2 : x ≤ 9223372036854775807) : IntKind.i64.wrap x = x := by
  simp [IntKind.wrap, IntKind.signed, IntKind.bits]; omega

set_option maxRecDepth 20000 in
set_option maxHeartbeats 1000000 in
theorem sumOf_any (v : Value) (L : List Int) (w : World) (hr : ZRow .i64 w v L) (hl : L.length ≤ 1048576) (hs : L.all smB = true) :
    Calls Tryz.prog 52 #[v] w fun e w' => e = .returned (.int .i64 L.sum) ∧ w' = w := by
  obtain ⟨a, cap, rfl, hcap, hmax, HROW⟩ := zrow_value hr
  clear hr
  have HS : Hid (L.all smB = true) := hs
  clear hs
  go_enter Tryz.func52, Tryz.ntmps52
  go_wp2_with fail
  go_loopw [3, 8] (fun s i wr => ∃ k : Nat, k ≤ L.length ∧ i = .int .i64 (k : Int) ∧ s = .int .i64 (L.take k).sum ∧ wr = w) (fun _ i _ => L.length - (intOf i).toNat)
  case atStart => exact ⟨0, Nat.zero_le _, rfl, rfl, rfl⟩
  case round =>
    obtain ⟨k, hk, rfl, rfl, rfl⟩ := hrel
    by_cases hlt : k < L.length
    · obtain ⟨b, o, ha, hbl, hc⟩ := HROW.out (by omega)
      rw [ha]
      have hcx := hc k hlt
      have HN : Hid ((L.take (k + 1)).sum = (L.take k).sum + L[k]'hlt) := sum_on hlt
      have hx1 := sm_in (List.all_eq_true.1 HS.out _ (List.getElem_mem hlt))
      have hs1 := sm_sum (L.take k) (take_sm k HS.out)
      rw [List.length_take, Nat.min_eq_left hk] at hs1
      obtain ⟨x, hx⟩ : ∃ x, x = L[k]'hlt := ⟨_, rfl⟩
      rw [← hx] at hcx HN hx1
      obtain ⟨s, hse⟩ : ∃ s, s = (L.take k).sum := ⟨_, rfl⟩
      rw [← hse] at HN hs1 ⊢
      clear hc hx hse
      go_wp2_with fail
      go_roundw
      case rel => exact ⟨k + 1, by omega, by go_num, by rw [HN.out], by trivial⟩
      case measure => simp [intOf]; omega
    · have HE : Hid ((L.take k).sum = L.sum) := by show _ = _; rw [List.take_of_length_le (by omega)]
      rw [HE.out]
      go_wp2_with fail
      go_ret
      exact ⟨rfl, rfl⟩

set_option maxRecDepth 20000 in
set_option maxHeartbeats 1000000 in
theorem sGoodWeights_any (v : Value) (L : List Int) (w : World) (hr : ZRow .i64 w v L) (hl : L.length ≤ 1048576) :
    Calls Tryz.prog 75 #[v] w fun e w' => e = .returned (.bool (goodW L)) ∧ w' = w := by
  obtain ⟨a, cap, rfl, hcap, hmax, HROW⟩ := zrow_value hr
  clear hr
  go_enter Tryz.func75, Tryz.ntmps75
  go_wp2_with fail
  go_loopw [3, 8] (fun s i wr => ∃ k : Nat, k ≤ L.length ∧ i = .int .i64 (k : Int) ∧ s = .int .i64 (L.take k).sum ∧ Hid ((L.take k).all wtB = true) ∧ wr = w) (fun _ i _ => L.length - (intOf i).toNat)
  case atStart => exact ⟨0, Nat.zero_le _, rfl, rfl, rfl, rfl⟩
  case round =>
    obtain ⟨k, hk, rfl, rfl, HA, rfl⟩ := hrel
    have hs1 := sm_sum (L.take k) (all_sm HA.out)
    rw [List.length_take, Nat.min_eq_left hk] at hs1
    by_cases hlt : k < L.length
    · obtain ⟨b, o, ha, hbl, hc⟩ := HROW.out (by omega)
      rw [ha]
      have hcx := hc k hlt
      have HN : Hid ((L.take (k + 1)).sum = (L.take k).sum + L[k]'hlt) := sum_on hlt
      have HNA : Hid ((L.take (k + 1)).all wtB = ((L.take k).all wtB && wtB (L[k]'hlt))) := all_on hlt
      have HBAD : Hid (wtB (L[k]'hlt) = false → goodW L = false) := fun h => good_bad (all_bad hlt h)
      obtain ⟨x, hx⟩ : ∃ x, x = L[k]'hlt := ⟨_, rfl⟩
      rw [← hx] at hcx HN HNA HBAD
      obtain ⟨s, hse⟩ : ∃ s, s = (L.take k).sum := ⟨_, rfl⟩
      rw [← hse] at HN hs1 ⊢
      clear hc hx hse
      cases hq : inB x 0 50 with
      | false =>
        have HB : Hid (goodW L = false) := HBAD.out hq
        go_wp2_with fail
        refine (l1In_anyY _ _ _ _).mono ?_
        rintro e w1 ⟨rfl, rfl⟩
        rw [hq]
        go_wp2_with fail
        go_ret
        exact ⟨ret_boolY HB.out.symm, rfl⟩
      | true =>
        have hx1 := wt_in hq
        go_wp2_with fail
        refine (l1In_anyY _ _ _ _).mono ?_
        rintro e w1 ⟨rfl, rfl⟩
        rw [hq]
        have HQ : Hid (wtB x = true) := hq
        clear hq
        go_wp2_with fail
        go_roundw
        case rel => exact ⟨k + 1, by omega, by go_num, by rw [HN.out], by show _ = true; rw [HNA.out, HA.out, HQ.out]; rfl, by trivial⟩
        case measure => simp [intOf]; omega
    · have HE : Hid ((L.take k).sum = L.sum) := by show _ = _; rw [List.take_of_length_le (by omega)]
      have HALL : Hid (L.all wtB = true) := by have := HA.out; rw [List.take_of_length_le (by omega)] at this; exact this
      rw [HE.out]
      clear hs1
      obtain ⟨s, hse⟩ : ∃ s, s = L.sum := ⟨_, rfl⟩
      rw [← hse]
      have HSE : Hid (s = L.sum) := hse
      clear hse
      cases hq : inB (L.length : Int) 1 12 with
      | false =>
        go_wp2_with fail
        refine (l1In_anyY _ _ _ _).mono ?_
        rintro e w1 ⟨rfl, rfl⟩
        rw [hq]
        have HQ : Hid (goodW L = false) := good_len hq
        clear hq
        go_wp2_with fail
        go_ret
        exact ⟨ret_boolY HQ.out.symm, rfl⟩
      | true =>
        have HG : Hid (goodW L = decide (0 < s)) := by show _ = _; rw [goodW_all HALL.out hq, HSE.out]; simp
        go_wp2_with fail
        refine (l1In_anyY _ _ _ _).mono ?_
        rintro e w1 ⟨rfl, rfl⟩
        rw [hq]
        clear hq
        go_wp2_with fail
        go_ret
        exact ⟨ret_boolY HG.out.symm, rfl⟩

set_option maxRecDepth 20000 in
set_option maxHeartbeats 1000000 in
theorem iGoodWeights_any (v : Value) (L : List Int) (w : World) (hr : ZRow .i64 w v L) :
    Calls Tryz.prog 97 #[v] w fun e w' => e = .returned (.bool (goodW L)) ∧ w' = w := by
  have HR0 : Hid (ZRow .i64 w v L) := hr
  obtain ⟨a, cap, rfl, hcap, hmax, HROW⟩ := zrow_value hr
  clear hr
  cases h1 : inB (L.length : Int) 1 12 with
  | false =>
    go_enter Tryz.func97, Tryz.ntmps97
    go_wp2_with fail
    refine (iWithin_anyY _ _ _ _).mono ?_
    rintro e w1 ⟨rfl, rfl⟩
    rw [h1]
    go_wp2_with fail
    go_ret
    exact ⟨ret_boolY (good_len h1).symm, rfl⟩
  | true =>
    have hl : L.length ≤ 12 := by
      have : 1 ≤ (L.length : Int) ∧ (L.length : Int) ≤ 12 := by simpa [inB] using h1
      omega
    have H1 : Hid (inB (L.length : Int) 1 12 = true) := h1
    go_enter Tryz.func97, Tryz.ntmps97
    go_wp2_with fail
    refine (iWithin_anyY _ _ _ _).mono ?_
    rintro e w1 ⟨rfl, rfl⟩
    rw [h1]
    clear h1
    go_wp2_with fail
    go_loopw [11] (fun i wr => ∃ k : Nat, k ≤ L.length ∧ i = .int .i64 (k : Int) ∧ Hid ((L.take k).all wtB = true) ∧ wr = w1) (fun i _ => L.length - (intOf i).toNat)
    case atStart => exact ⟨0, Nat.zero_le _, rfl, rfl, rfl⟩
    case round =>
      obtain ⟨k, hk, rfl, HA, rfl⟩ := hrel
      by_cases hlt : k < L.length
      · obtain ⟨b, o, ha, hbl, hc⟩ := HROW.out (by omega)
        rw [ha]
        have hcx := hc k hlt
        have HNA : Hid ((L.take (k + 1)).all wtB = ((L.take k).all wtB && wtB (L[k]'hlt))) := all_on hlt
        have HBAD : Hid (wtB (L[k]'hlt) = false → goodW L = false) := fun h => good_bad (all_bad hlt h)
        obtain ⟨x, hx⟩ : ∃ x, x = L[k]'hlt := ⟨_, rfl⟩
        rw [← hx] at hcx HNA HBAD
        clear hc hx
        cases hq : inB x 0 50 with
        | false =>
          have HB : Hid (goodW L = false) := HBAD.out hq
          go_wp2_with fail
          refine (iWithin_anyY _ _ _ _).mono ?_
          rintro e w2 ⟨rfl, rfl⟩
          rw [hq]
          go_wp2_with fail
          go_ret
          exact ⟨ret_boolY HB.out.symm, rfl⟩
        | true =>
          go_wp2_with fail
          refine (iWithin_anyY _ _ _ _).mono ?_
          rintro e w2 ⟨rfl, rfl⟩
          rw [hq]
          have HQ : Hid (wtB x = true) := hq
          clear hq
          go_wp2_with fail
          go_roundw
          case rel => exact ⟨k + 1, by omega, by go_num, by show _ = true; rw [HNA.out, HA.out, HQ.out]; rfl, by trivial⟩
          case measure => simp [intOf]; omega
      · have HALL : Hid (L.all wtB = true) := by have := HA.out; rw [List.take_of_length_le (by omega)] at this; exact this
        have HG : Hid (goodW L = decide (0 < L.sum)) := by show _ = _; rw [goodW_all HALL.out H1.out]; simp
        go_wp2_with fail
        refine (sumOf_any _ L _ HR0.out (by omega) (all_sm HALL.out)).mono ?_
        rintro e w2 ⟨rfl, rfl⟩
        go_wp2_with fail
        go_ret
        exact ⟨ret_boolY HG.out.symm, rfl⟩
end Go.Proofs.YtoanloballaclaaGreatDoor
