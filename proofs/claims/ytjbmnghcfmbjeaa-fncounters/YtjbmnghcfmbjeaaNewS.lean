import Derived.Test.YtjbmnghcfmbjeaaToI
namespace Go.Proofs.Ytjbmnghcfmbjeaa
open Go.RowKit

/-- A serial that none of a list is newer than; the first such one. -/
def okB (n o : Int) : Bool := tldB n o && !newB n o
def nwB (L : List Int) (n : Int) : Bool := L.all (okB n)
def nwO (L : List Int) : Option Int := if inB (L.length : Int) 1 20 && L.all serB then L.find? (nwB L) else none
def nwV (L : List Int) : Value := .tuple #[.int .i64 ((nwO L).getD 0), .bool (nwO L).isSome]
theorem nw_len {L : List Int} (h : inB (L.length : Int) 1 20 = false) : nwO L = none := by unfold nwO; rw [h]; rfl
theorem nw_bad {L : List Int} {k : Nat} (hk : k < L.length) (h : serB L[k] = false) : nwO L = none := by
  unfold nwO
  rw [if_neg]
  intro hh
  have h2 := List.all_eq_true.1 (Bool.and_eq_true_iff.1 hh).2 L[k] (List.getElem_mem hk)
  rw [h] at h2; cases h2
theorem nw_find {L : List Int} (h1 : inB (L.length : Int) 1 20 = true) (h2 : L.all serB = true) : nwO L = L.find? (nwB L) := by unfold nwO; rw [h1, h2]; rfl
theorem find_at {L : List Int} {p : Int → Bool} {k : Nat} (hk : k < L.length) (h : (L.take k).find? p = none) (hp : p L[k] = true) : L.find? p = some L[k] := by
  have h2 : (L.take k ++ L[k] :: L.drop (k + 1)).find? p = some L[k] := by rw [List.find?_append, h, List.find?_cons, hp]; rfl
  have e : L.take k ++ L[k] :: L.drop (k + 1) = L := by simp
  rw [e] at h2; exact h2
theorem find_on {L : List Int} {p : Int → Bool} {k : Nat} (hk : k < L.length) (h : (L.take k).find? p = none) (hp : p L[k] = false) : (L.take (k + 1)).find? p = none := by
  rw [List.take_succ_eq_append_getElem hk, List.find?_append, h]; simp [hp]
theorem all_on {L : List Int} {p : Int → Bool} {k : Nat} (hk : k < L.length) : (L.take (k + 1)).all p = ((L.take k).all p && p L[k]) := by
  rw [List.take_succ_eq_append_getElem hk, List.all_append]; simp
theorem nw_ret {L : List Int} {o : Option Int} (h : nwO L = o) : Ending.returned (.tuple #[.int .i64 (o.getD 0), .bool o.isSome]) = .returned (nwV L) := by unfold nwV; rw [h]
theorem les_ser {a b : Int} (ha : serB a = true) (hb : serB b = true) : lesV a b = .tuple #[.bool (newB a b), .bool (tldB a b)] := by unfold lesV; rw [ha, hb]; rfl

set_option maxRecDepth 20000 in
set_option maxHeartbeats 1000000 in
theorem sNewestOf_any (v : Value) (L : List Int) (w : World) (hr : ZRow .i64 w v L) (hl : L.length ≤ 1048576) :
    Calls Try.prog 28 #[v] w fun e w' => e = .returned (nwV L) ∧ w' = w := by
  obtain ⟨a, cap, rfl, hcap, hmax, HROW⟩ := zrow_value hr
  clear hr
  cases h1 : inB (L.length : Int) 1 20 with
  | false =>
    go_enter Try.func28, Try.ntmps28
    go_wp2_with fail
    refine (l1In_any _ _ _ _).mono ?_
    rintro e w1 ⟨rfl, rfl⟩
    rw [h1]
    go_wp2_with fail
    go_ret2
    exact ⟨nw_ret (o := none) (nw_len h1), rfl⟩
  | true =>
    have H1 : Hid (inB (L.length : Int) 1 20 = true) := h1
    go_enter Try.func28, Try.ntmps28
    go_wp2_with fail
    refine (l1In_any _ _ _ _).mono ?_
    rintro e w1 ⟨rfl, rfl⟩
    rw [h1]
    clear h1
    go_wp2_with fail
    go_loopw [19] (fun i wr => ∃ k : Nat, k ≤ L.length ∧ i = .int .i64 (k : Int) ∧ Hid ((L.take k).all serB = true) ∧ wr = w1) (fun i _ => L.length - (intOf i).toNat)
    case atStart => exact ⟨0, Nat.zero_le _, rfl, rfl, rfl⟩
    case round =>
      obtain ⟨k, hk, rfl, HA, rfl⟩ := hrel
      by_cases hlt : k < L.length
      · obtain ⟨b, o, ha, hbl, hc⟩ := HROW.out (by omega)
        rw [ha]
        have hcx := hc k hlt
        have HN : Hid ((L.take (k + 1)).all serB = ((L.take k).all serB && serB (L[k]'hlt))) := all_on hlt
        have HBAD : Hid (serB (L[k]'hlt) = false → nwO L = none) := nw_bad hlt
        obtain ⟨x, hx⟩ : ∃ x, x = L[k]'hlt := ⟨_, rfl⟩
        rw [← hx] at hcx HN HBAD
        clear hc hx
        cases hs : serB x with
        | false =>
          go_wp2_with fail
          refine (l5Serial_any _ _).mono ?_
          rintro e w2 ⟨rfl, rfl⟩
          rw [hs]
          go_wp2_with fail
          go_ret2
          exact ⟨nw_ret (o := none) (HBAD.out hs), rfl⟩
        | true =>
          go_wp2_with fail
          refine (l5Serial_any _ _).mono ?_
          rintro e w2 ⟨rfl, rfl⟩
          rw [hs]
          go_wp2_with fail
          go_roundw
          case rel => exact ⟨k + 1, by omega, by go_num, by show _ = true; rw [HN.out, HA.out, hs]; rfl, by trivial⟩
          case measure => simp [intOf]; omega
      · have HALL : Hid (L.all serB = true) := by have := HA.out; rw [List.take_of_length_le (by omega)] at this; exact this
        have HF : Hid (nwO L = L.find? (nwB L)) := nw_find H1.out HALL.out
        go_wp2_with fail
        clear HA hlt hk
        go_loopw [29] (fun i w2 => ∃ k : Nat, k ≤ L.length ∧ i = .int .i64 (k : Int) ∧ Hid ((L.take k).find? (nwB L) = none) ∧ w2 = wr) (fun i _ => L.length - (intOf i).toNat)
        case atStart => exact ⟨0, Nat.zero_le _, rfl, rfl, rfl⟩
        case round =>
          obtain ⟨k, hk, rfl, HA, rfl⟩ := hrel
          by_cases hlt : k < L.length
          · obtain ⟨b, o, ha, hbl, hc⟩ := HROW.out (by omega)
            rw [ha]
            have hcx := hc k hlt
            have HHIT : Hid (nwB L (L[k]'hlt) = true → nwO L = some (L[k]'hlt)) := fun h => HF.out.trans (find_at hlt HA.out h)
            have HON : Hid (nwB L (L[k]'hlt) = false → (L.take (k + 1)).find? (nwB L) = none) := find_on hlt HA.out
            have HSX : Hid (serB (L[k]'hlt) = true) := List.all_eq_true.1 HALL.out _ (List.getElem_mem hlt)
            obtain ⟨x, hx⟩ : ∃ x, x = L[k]'hlt := ⟨_, rfl⟩
            rw [← hx] at hcx HHIT HON HSX
            have HC : Hid (∀ j, (hj : j < L.length) → wr.cell? ⟨b, o + j, none⟩ = some (.int .i64 L[j])) := hc
            clear hc hx
            go_wp2_with fail
            clear hcx
            go_loopw [8, 35] (fun q i w3 => ∃ j : Nat, j ≤ L.length ∧ i = .int .i64 (j : Int) ∧ q = .bool ((L.take j).all (okB x)) ∧ w3 = wr) (fun _ i _ => L.length - (intOf i).toNat)
            case atStart => exact ⟨0, Nat.zero_le _, rfl, rfl, rfl⟩
            case round =>
              obtain ⟨j, hj, rfl, rfl, rfl⟩ := hrel
              by_cases hjl : j < L.length
              · have hcy := HC.out j hjl
                have HN : Hid ((L.take (j + 1)).all (okB x) = ((L.take j).all (okB x) && okB x (L[j]'hjl))) := all_on hjl
                have HSY : Hid (serB (L[j]'hjl) = true) := List.all_eq_true.1 HALL.out _ (List.getElem_mem hjl)
                obtain ⟨y, hy⟩ : ∃ y, y = L[j]'hjl := ⟨_, rfl⟩
                rw [← hy] at hcy HN HSY
                have HL : Hid (lesV x y = .tuple #[.bool (newB x y), .bool (tldB x y)]) := les_ser HSX.out HSY.out
                have HOK : Hid (okB x y = (tldB x y && !newB x y)) := rfl
                clear hy
                obtain ⟨q, hq⟩ : ∃ q, q = (L.take j).all (okB x) := ⟨_, rfl⟩
                obtain ⟨nn, hnn⟩ : ∃ q, q = newB x y := ⟨_, rfl⟩
                obtain ⟨tt, htt⟩ : ∃ q, q = tldB x y := ⟨_, rfl⟩
                rw [← hq] at HN ⊢
                rw [← hnn, ← htt] at HL HOK
                rw [HOK.out] at HN
                clear hq hnn htt HOK
                go_wp2_with fail
                refine (sSerialLess_any _ _ _).mono ?_
                rintro e w5 ⟨rfl, rfl⟩
                rw [HL.out]
                cases q <;> cases tt <;> cases nn
                all_goals (go_wp2_with fail)
                all_goals go_roundw
                all_goals first
                  | exact ⟨j + 1, by omega, by go_num, by rw [HN.out]; rfl, by trivial⟩
                  | (simp [intOf]; omega)
              · have HQ : Hid ((L.take j).all (okB x) = nwB L x) := by show _ = _; rw [List.take_of_length_le (by omega)]; rfl
                rw [HQ.out]
                cases hq : nwB L x with
                | true =>
                  have HR := HHIT.out hq
                  go_wp2_with fail
                  go_ret2
                  exact ⟨nw_ret HR, rfl⟩
                | false =>
                  have HR : Hid ((L.take (k + 1)).find? (nwB L) = none) := HON.out hq
                  go_wp2_with fail
                  go_roundw
                  case rel => exact ⟨k + 1, by omega, by go_num, HR, by trivial⟩
                  case measure => simp [intOf]; omega
          · have HR : Hid (nwO L = none) := by have := HA.out; rw [List.take_of_length_le (by omega)] at this; show _ = _; rw [HF.out, this]
            go_wp2_with fail
            go_ret2
            exact ⟨nw_ret (o := none) HR.out, rfl⟩
end Go.Proofs.Ytjbmnghcfmbjeaa
