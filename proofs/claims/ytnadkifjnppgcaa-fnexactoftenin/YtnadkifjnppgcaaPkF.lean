import Derived.Test.YtnadkifjnppgcaaPkC
namespace Go.Proofs.Ytnadkifjnppgcaa
open Go.RowKit

set_option maxRecDepth 20000 in
set_option maxHeartbeats 1000000 in
theorem sFits_any (v : Value) (t : Int) (L : List (Int × Int)) (w : World) (hr : ColRow w v L) :
    Calls Try.prog 36 #[v, .int .i64 t] w fun e w' => e = .returned (.bool (fitA t L)) ∧ Below w.heap.size w w' := by
  have HR0 : Hid (ColRow w v L) := hr
  obtain ⟨a, cap, rfl, hcap, hmax, HROW⟩ := col_value hr
  clear hr
  go_enter Try.func36, Try.ntmps36
  go_wp2_with fail
  go_loopw [9] (fun i wr => ∃ k : Nat, k ≤ L.length ∧ i = .int .i64 (k : Int) ∧ Hid ((L.take k).all (mostB t) = true) ∧ Below w.heap.size w wr) (fun i _ => L.length - (intOf i).toNat)
  case atStart => exact ⟨0, Nat.zero_le _, rfl, rfl, Below.refl _ _⟩
  case round =>
    obtain ⟨k, hk, rfl, HA, hb⟩ := hrel
    by_cases hlt : k < L.length
    · obtain ⟨b, o, ha, hbl, hc⟩ := HROW.out (by omega)
      rw [ha]
      have hcx := hc k hlt
      unfold ColAt at hcx
      rw [← hb.cell (p := ⟨b, o + k * 2, none⟩) hbl, ← hb.cell (p := ⟨b, o + k * 2 + 1, none⟩) hbl] at hcx
      have HN : Hid ((L.take (k + 1)).all (mostB t) = ((L.take k).all (mostB t) && mostB t (L[k]'hlt))) := call_on hlt
      have HBAD : Hid (mostB t (L[k]'hlt) = false → fitA t L = false) := fitA_bad hlt
      obtain ⟨x, hx⟩ : ∃ x, x = L[k]'hlt := ⟨_, rfl⟩
      rw [← hx] at hcx HN HBAD
      obtain ⟨x1, x2⟩ := x
      obtain ⟨c0, c1⟩ := hcx
      have hbn : Below w.heap.size w (wr.alloc (.cells #[.int .i64 x1, .int .i64 x2] 47)) := hb.alloc hb.size _
      have HC : Hid (mostB t (x1, x2) = decide (x1 ≤ t)) := rfl
      clear hc hx
      by_cases h1 : t < x1
      · have HB : Hid (fitA t L = false) := HBAD.out (by rw [HC.out, decide_eq_false (by omega)])
        go_wp2_with fail
        go_ret
        exact ⟨ret_bool HB.out.symm, hbn⟩
      · have HQ : Hid (mostB t (x1, x2) = true) := by show _ = _; rw [HC.out, decide_eq_true (by omega)]
        go_wp2_with fail
        go_roundw
        case rel => exact ⟨k + 1, by omega, by go_num, by show _ = true; rw [HN.out, HA.out, HQ.out]; rfl, hbn⟩
        case measure => simp [intOf]; omega
    · have HG : Hid (fitA t L = (goodA L && inB t 1 600)) := by have := HA.out; rw [List.take_of_length_le (by omega)] at this; exact fitA_all this
      cases hg : goodA L with
      | false =>
        have HF : Hid (fitA t L = false) := by show _ = _; rw [HG.out, hg]; rfl
        go_wp2_with fail
        refine (sGoodAlias_any _ L _ (HR0.out.kept hb)).mono ?_
        rintro e w1 ⟨rfl, hb1⟩
        rw [hg]
        go_wp2_with fail
        go_ret
        exact ⟨ret_bool HF.out.symm, hb.trans (hb1.mono hb.size)⟩
      | true =>
        have HF : Hid (fitA t L = inB t 1 600) := by show _ = _; rw [HG.out, hg]; rfl
        go_wp2_with fail
        refine (sGoodAlias_any _ L _ (HR0.out.kept hb)).mono ?_
        rintro e w1 ⟨rfl, hb1⟩
        rw [hg]
        go_wp2_with fail
        refine (l1In_any _ _ _ _).mono ?_
        rintro e w2 ⟨rfl, rfl⟩
        go_wp2_with fail
        go_ret
        exact ⟨ret_bool HF.out.symm, hb.trans (hb1.mono hb.size)⟩

set_option maxRecDepth 20000 in
set_option maxHeartbeats 1000000 in
theorem iFits_any (v : Value) (t : Int) (L : List (Int × Int)) (w : World) (hr : ColRow w v L) :
    Calls Try.prog 37 #[v, .int .i64 t] w fun e w' => e = .returned (.bool (fitA t L)) ∧ Below w.heap.size w w' := by
  have HR0 : Hid (ColRow w v L) := hr
  obtain ⟨a, cap, rfl, hcap, hmax, HROW⟩ := col_value hr
  clear hr
  cases ht : inB t 1 600 with
  | false =>
    have HF : Hid (fitA t L = false) := by show _ = _; unfold fitA; rw [ht]; simp
    go_enter Try.func37, Try.ntmps37
    go_wp2_with fail
    refine (iWithin_any _ _ _ _).mono ?_
    rintro e w1 ⟨rfl, rfl⟩
    rw [ht]
    go_wp2_with fail
    go_ret
    exact ⟨ret_bool HF.out.symm, Below.refl _ _⟩
  | true =>
  cases hg : goodA L with
  | false =>
    have HF : Hid (fitA t L = false) := by show _ = _; unfold fitA; rw [hg]; simp
    go_enter Try.func37, Try.ntmps37
    go_wp2_with fail
    refine (iWithin_any _ _ _ _).mono ?_
    rintro e w1 ⟨rfl, rfl⟩
    rw [ht]
    go_wp2_with fail
    refine (iGoodAlias_any _ L _ HR0.out).mono ?_
    rintro e w2 ⟨rfl, hb2⟩
    rw [hg]
    go_wp2_with fail
    go_ret
    exact ⟨ret_bool HF.out.symm, hb2⟩
  | true =>
    have HG : Hid (fitA t L = L.all (mostB t)) := by show _ = _; unfold fitA; rw [hg, ht]; simp
    go_enter Try.func37, Try.ntmps37
    go_wp2_with fail
    refine (iWithin_any _ _ _ _).mono ?_
    rintro e w1 ⟨rfl, rfl⟩
    rw [ht]
    go_wp2_with fail
    refine (iGoodAlias_any _ L _ HR0.out).mono ?_
    rintro e w2 ⟨rfl, hb2⟩
    rw [hg]
    clear hg ht
    go_wp2_with fail
    go_loopw [17] (fun i wr => ∃ k : Nat, k ≤ L.length ∧ i = .int .i64 (k : Int) ∧ Hid ((L.take k).all (mostB t) = true) ∧ Below w1.heap.size w1 wr) (fun i _ => L.length - (intOf i).toNat)
    case atStart => exact ⟨0, Nat.zero_le _, rfl, rfl, hb2⟩
    case round =>
      obtain ⟨k, hk, rfl, HA, hb⟩ := hrel
      clear hb2
      by_cases hlt : k < L.length
      · obtain ⟨b, o, ha, hbl, hc⟩ := HROW.out (by omega)
        rw [ha]
        have hcx := hc k hlt
        unfold ColAt at hcx
        rw [← hb.cell (p := ⟨b, o + k * 2, none⟩) hbl, ← hb.cell (p := ⟨b, o + k * 2 + 1, none⟩) hbl] at hcx
        have HN : Hid ((L.take (k + 1)).all (mostB t) = ((L.take k).all (mostB t) && mostB t (L[k]'hlt))) := call_on hlt
        have HBAD : Hid (mostB t (L[k]'hlt) = false → fitA t L = false) := fitA_bad hlt
        obtain ⟨x, hx⟩ : ∃ x, x = L[k]'hlt := ⟨_, rfl⟩
        rw [← hx] at hcx HN HBAD
        obtain ⟨x1, x2⟩ := x
        obtain ⟨c0, c1⟩ := hcx
        have hbn : Below w1.heap.size w1 (wr.alloc (.cells #[.int .i64 x1, .int .i64 x2] 47)) := hb.alloc hb.size _
        have HC : Hid (mostB t (x1, x2) = decide (x1 ≤ t)) := rfl
        clear hc hx
        by_cases h1 : t < x1
        · have HB : Hid (fitA t L = false) := HBAD.out (by rw [HC.out, decide_eq_false (by omega)])
          go_wp2_with fail
          go_ret
          exact ⟨ret_bool HB.out.symm, hbn⟩
        · have HQ : Hid (mostB t (x1, x2) = true) := by show _ = _; rw [HC.out, decide_eq_true (by omega)]
          go_wp2_with fail
          go_roundw
          case rel => exact ⟨k + 1, by omega, by go_num, by show _ = true; rw [HN.out, HA.out, HQ.out]; rfl, hbn⟩
          case measure => simp [intOf]; omega
      · have HF : Hid (fitA t L = true) := by have := HA.out; rw [List.take_of_length_le (by omega)] at this; show _ = _; rw [HG.out, this]
        go_wp2_with fail
        go_ret
        exact ⟨ret_bool HF.out.symm, hb⟩
end Go.Proofs.Ytnadkifjnppgcaa
