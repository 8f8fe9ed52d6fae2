import Derived.Test.YtnadkifjnppgcaaPkF
namespace Go.Proofs.Ytnadkifjnppgcaa
open Go.RowKit

/-- Who is picked by a draw. -/
def pkN (L : List (Int × Int)) (t d : Int) : Int := match L[(d.tdiv t).toNat]? with | some x => if d.tmod t < x.1 then d.tdiv t else x.2 | none => 0
def pkB (L : List (Int × Int)) (t d : Int) : Bool := fitA t L && inB d 0 ((L.length : Int) * t - 1)
def pkV (L : List (Int × Int)) (t d : Int) : Value := .tuple #[.int .i64 (if pkB L t d then pkN L t d else 0), .bool (pkB L t d)]
theorem pk_no {L : List (Int × Int)} {t d : Int} (h : pkB L t d = false) : pkV L t d = .tuple #[.int .i64 0, .bool false] := by unfold pkV; rw [h]; rfl
theorem pk_at {L : List (Int × Int)} {t d : Int} {k : Nat} (h : pkB L t d = true) (hk : k < L.length) (e : d.tdiv t = (k : Int)) : pkV L t d = .tuple #[.int .i64 (if d.tmod t < (L[k]).1 then (k : Int) else (L[k]).2), .bool true] := by
  unfold pkV pkN; rw [h, if_pos rfl, e, Int.toNat_natCast, List.getElem?_eq_getElem hk]
theorem pk_facts {L : List (Int × Int)} {t d : Int} (h : pkB L t d = true) : 1 ≤ t ∧ t ≤ 600 ∧ 0 ≤ d ∧ d ≤ (L.length : Int) * t - 1 ∧ L.length ≤ 12 ∧ ∃ k : Nat, k < L.length ∧ d.tdiv t = (k : Int) ∧ 0 ≤ d.tmod t ∧ d.tmod t < t := by
  unfold pkB fitA goodA inB at h
  simp only [Bool.and_eq_true, decide_eq_true_eq] at h
  obtain ⟨⟨⟨_, ⟨⟨_, hl⟩, _⟩⟩, ht1, ht2⟩, hd1, hd2⟩ := h
  have h0 : 0 ≤ d.tdiv t := Int.tdiv_nonneg hd1 (by omega)
  have h1 : d.tdiv t < (L.length : Int) := by
    rw [Int.tdiv_eq_ediv_of_nonneg hd1]
    exact Int.ediv_lt_of_lt_mul (by omega) (by omega)
  refine ⟨ht1, ht2, hd1, hd2, by omega, (d.tdiv t).toNat, by omega, by omega, ?_, ?_⟩
  · rw [Int.tmod_eq_emod_of_nonneg hd1]; exact Int.emod_nonneg _ (by omega)
  · rw [Int.tmod_eq_emod_of_nonneg hd1]; exact Int.emod_lt_of_pos _ (by omega)
theorem pk_ret {L : List (Int × Int)} {t d x : Int} {b : Bool} (h : pkV L t d = .tuple #[.int .i64 x, .bool b]) : Ending.returned (.tuple #[.int .i64 x, .bool b]) = .returned (pkV L t d) := by rw [h]
theorem mul_small {n t : Int} (h1 : 1 ≤ t) (h2 : t ≤ 600) (h3 : 0 ≤ n) (h4 : n ≤ 12) : 0 ≤ n * t ∧ n * t ≤ 7200 := by
  constructor
  · exact Int.mul_nonneg h3 (by omega)
  · have := Int.mul_le_mul h4 h2 (by omega) (by omega)
    omega
theorem fit_facts {L : List (Int × Int)} {t : Int} (h : fitA t L = true) : 1 ≤ t ∧ t ≤ 600 ∧ L.length ≤ 12 := by
  unfold fitA goodA inB at h
  simp only [Bool.and_eq_true, decide_eq_true_eq] at h
  omega

set_option maxRecDepth 20000 in
set_option maxHeartbeats 1000000 in
theorem sPickBy_any (v : Value) (t d : Int) (L : List (Int × Int)) (w : World) (hr : ColRow w v L) :
    Calls Try.prog 22 #[v, .int .i64 t, .int .i64 d] w fun e w' => e = .returned (pkV L t d) ∧ Below w.heap.size w w' := by
  have HR0 : Hid (ColRow w v L) := hr
  obtain ⟨a, cap, rfl, hcap, hmax, HROW⟩ := col_value hr
  clear hr
  cases hf : fitA t L with
  | false =>
    have HP : Hid (pkV L t d = .tuple #[.int .i64 0, .bool false]) := pk_no (by unfold pkB; rw [hf]; rfl)
    go_enter Try.func22, Try.ntmps22
    go_wp2_with fail
    refine (sFits_any _ _ L _ HR0.out).mono ?_
    rintro e w1 ⟨rfl, hb1⟩
    rw [hf]
    go_wp2_with fail
    go_ret2
    exact ⟨pk_ret HP.out, hb1⟩
  | true =>
    obtain ⟨ht1, ht2, hl12⟩ := fit_facts hf
    have hm := mul_small (n := (L.length : Int)) ht1 ht2 (by omega) (by omega)
    cases hd : inB d 0 ((L.length : Int) * t - 1) with
    | false =>
      have HP : Hid (pkV L t d = .tuple #[.int .i64 0, .bool false]) := pk_no (by unfold pkB; rw [hd]; simp)
      go_enter Try.func22, Try.ntmps22
      go_wp2_with fail
      refine (sFits_any _ _ L _ HR0.out).mono ?_
      rintro e w1 ⟨rfl, hb1⟩
      rw [hf]
      go_wp2_with fail
      refine (l1In_any _ _ _ _).mono ?_
      rintro e w2 ⟨rfl, rfl⟩
      rw [hd]
      go_wp2_with fail
      go_ret2
      exact ⟨pk_ret HP.out, hb1⟩
    | true =>
      have hpb : pkB L t d = true := by unfold pkB; rw [hf, hd]; rfl
      obtain ⟨_, _, hd0, hd1, _, k, hk, hek, hm0, hm1⟩ := pk_facts hpb
      have HP : Hid (pkV L t d = .tuple #[.int .i64 (if d.tmod t < (L[k]'hk).1 then (k : Int) else (L[k]'hk).2), .bool true]) := pk_at hpb hk hek
      obtain ⟨b, o, ha, hbl, hc⟩ := HROW.out (by omega)
      have hcx := hc k hk
      obtain ⟨x, hx⟩ : ∃ x, x = L[k]'hk := ⟨_, rfl⟩
      rw [← hx] at hcx HP
      obtain ⟨x1, x2⟩ := x
      have HCX : Hid (ColAt w b (o + k * 2) (x1, x2)) := hcx
      have HR1 := HR0
      rw [ha] at HR1
      rw [ha]
      have hz : (t == 0) = false := by simp; omega
      have hz2 : ¬ t = 0 := by omega
      have hki : (k : Int) < (L.length : Int) := by omega
      obtain ⟨m, hme⟩ : ∃ m, m = d.tmod t := ⟨_, rfl⟩
      have HME : Hid (d.tmod t = m) := hme.symm
      rw [← hme] at HP hm0 hm1
      have HEK : Hid (d.tdiv t = (k : Int)) := hek
      clear hc hx hpb hcx hek hme HR0
      go_enter Try.func22, Try.ntmps22
      go_wp2_with fail
      refine (sFits_any _ _ L _ HR1.out).mono ?_
      rintro e w1 ⟨rfl, hb1⟩
      rw [hf]
      have hc1 := HCX.out.kept hb1
      unfold ColAt at hc1
      obtain ⟨c0, c1⟩ := hc1
      go_wp2_with fail
      refine (l1In_any _ _ _ _).mono ?_
      rintro e w2 ⟨rfl, rfl⟩
      rw [hd]
      have ek := HEK.out
      have em := HME.out
      clear hd hf
      by_cases hlt : m < x1
      · have HP2 : Hid (pkV L t d = .tuple #[.int .i64 (k : Int), .bool true]) := by show _ = _; rw [HP.out, if_pos hlt]
        go_wp2_with fail
        go_quiet (fail)
        go_wp2_with fail
        go_ret2
        exact ⟨pk_ret HP2.out, below_drewN hb1 _⟩
      · have HP2 : Hid (pkV L t d = .tuple #[.int .i64 x2, .bool true]) := by show _ = _; rw [HP.out, if_neg hlt]
        go_wp2_with fail
        go_quiet (fail)
        go_wp2_with fail
        go_ret2
        exact ⟨pk_ret HP2.out, below_drewN hb1 _⟩

set_option maxRecDepth 20000 in
set_option maxHeartbeats 1000000 in
theorem iPickBy_any (v : Value) (t d : Int) (L : List (Int × Int)) (w : World) (hr : ColRow w v L) :
    Calls Try.prog 23 #[v, .int .i64 t, .int .i64 d] w fun e w' => e = .returned (pkV L t d) ∧ Below w.heap.size w w' := by
  have HR0 : Hid (ColRow w v L) := hr
  obtain ⟨a, cap, rfl, hcap, hmax, HROW⟩ := col_value hr
  clear hr
  cases hf : fitA t L with
  | false =>
    have HP : Hid (pkV L t d = .tuple #[.int .i64 0, .bool false]) := pk_no (by unfold pkB; rw [hf]; rfl)
    go_enter Try.func23, Try.ntmps23
    go_wp2_with fail
    refine (iFits_any _ _ L _ HR0.out).mono ?_
    rintro e w1 ⟨rfl, hb1⟩
    rw [hf]
    go_wp2_with fail
    go_ret2
    exact ⟨pk_ret HP.out, hb1⟩
  | true =>
    obtain ⟨ht1, ht2, hl12⟩ := fit_facts hf
    have hm := mul_small (n := (L.length : Int)) ht1 ht2 (by omega) (by omega)
    cases hd : inB d 0 ((L.length : Int) * t - 1) with
    | false =>
      have HP : Hid (pkV L t d = .tuple #[.int .i64 0, .bool false]) := pk_no (by unfold pkB; rw [hd]; simp)
      go_enter Try.func23, Try.ntmps23
      go_wp2_with fail
      refine (iFits_any _ _ L _ HR0.out).mono ?_
      rintro e w1 ⟨rfl, hb1⟩
      rw [hf]
      go_wp2_with fail
      refine (iWithin_any _ _ _ _).mono ?_
      rintro e w2 ⟨rfl, rfl⟩
      rw [hd]
      go_wp2_with fail
      go_ret2
      exact ⟨pk_ret HP.out, hb1⟩
    | true =>
      have hpb : pkB L t d = true := by unfold pkB; rw [hf, hd]; rfl
      obtain ⟨_, _, hd0, hd1, _, k, hk, hek, hm0, hm1⟩ := pk_facts hpb
      have HP : Hid (pkV L t d = .tuple #[.int .i64 (if d.tmod t < (L[k]'hk).1 then (k : Int) else (L[k]'hk).2), .bool true]) := pk_at hpb hk hek
      obtain ⟨b, o, ha, hbl, hc⟩ := HROW.out (by omega)
      have hcx := hc k hk
      obtain ⟨x, hx⟩ : ∃ x, x = L[k]'hk := ⟨_, rfl⟩
      rw [← hx] at hcx HP
      obtain ⟨x1, x2⟩ := x
      have HCX : Hid (ColAt w b (o + k * 2) (x1, x2)) := hcx
      have HR1 := HR0
      rw [ha] at HR1
      rw [ha]
      have hz : (t == 0) = false := by simp; omega
      have hz2 : ¬ t = 0 := by omega
      have hki : (k : Int) < (L.length : Int) := by omega
      obtain ⟨m, hme⟩ : ∃ m, m = d.tmod t := ⟨_, rfl⟩
      have HME : Hid (d.tmod t = m) := hme.symm
      rw [← hme] at HP hm0 hm1
      have HEK : Hid (d.tdiv t = (k : Int)) := hek
      clear hc hx hpb hcx hek hme HR0
      go_enter Try.func23, Try.ntmps23
      go_wp2_with fail
      refine (iFits_any _ _ L _ HR1.out).mono ?_
      rintro e w1 ⟨rfl, hb1⟩
      rw [hf]
      have hc1 := HCX.out.kept hb1
      unfold ColAt at hc1
      obtain ⟨c0, c1⟩ := hc1
      go_wp2_with fail
      refine (iWithin_any _ _ _ _).mono ?_
      rintro e w2 ⟨rfl, rfl⟩
      rw [hd]
      have ek := HEK.out
      have em := HME.out
      clear hd hf
      by_cases hlt : m < x1
      · have HP2 : Hid (pkV L t d = .tuple #[.int .i64 (k : Int), .bool true]) := by show _ = _; rw [HP.out, if_pos hlt]
        go_wp2_with fail
        go_quiet (fail)
        go_wp2_with fail
        go_ret2
        exact ⟨pk_ret HP2.out, below_drewN hb1 _⟩
      · have HP2 : Hid (pkV L t d = .tuple #[.int .i64 x2, .bool true]) := by show _ = _; rw [HP.out, if_neg hlt]
        go_wp2_with fail
        go_quiet (fail)
        go_wp2_with fail
        go_ret2
        exact ⟨pk_ret HP2.out, below_drewN hb1 _⟩
end Go.Proofs.Ytnadkifjnppgcaa
