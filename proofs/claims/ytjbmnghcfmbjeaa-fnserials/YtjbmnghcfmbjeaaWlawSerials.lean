import Derived.Test.YtjbmnghcfmbjeaaCurD
namespace Go.Proofs.Ytjbmnghcfmbjeaa

theorem add_no {s n : Int} (h : (serB s && inB n 0 2147483647) = false) : addV s n = .tuple #[.int .i64 0, .bool false] := by unfold addV; rw [h]; rfl
/-- What is added is newer, and as many steps lie between. -/
theorem add_yes {s n : Int} (h : (serB s && inB n 0 2147483647) = true) : ∃ t : Int, addV s n = .tuple #[.int .i64 t, .bool true] ∧ lesV s t = .tuple #[.bool (decide (0 < n)), .bool true] ∧ lesV t s = .tuple #[.bool false, .bool true] ∧ stpV s t = .tuple #[.int .i64 n, .bool true] := by
  have hs := ser_in (Bool.and_eq_true_iff.1 h).1
  have hn : 0 ≤ n ∧ n ≤ 2147483647 := by simpa [inB] using (Bool.and_eq_true_iff.1 h).2
  have h1 : serB s = true := (Bool.and_eq_true_iff.1 h).1
  have h2 : serB ((s + n) % 4294967296) = true := by simp only [serB, inB, Bool.and_eq_true, decide_eq_true_eq]; omega
  have e1 : stp s ((s + n) % 4294967296) = n := by unfold stp; omega
  have e2 : stp ((s + n) % 4294967296) s = (-n) % 4294967296 := by unfold stp; omega
  refine ⟨(s + n) % 4294967296, by unfold addV; rw [h]; rfl, ?_, ?_, ?_⟩
  · unfold lesV newB tldB
    rw [h1, h2, e1]
    have a1 : inB n 1 2147483647 = decide (0 < n) := by rw [Bool.eq_iff_iff]; simp only [inB, Bool.and_eq_true, decide_eq_true_eq]; omega
    have a2 : (n != 2147483648) = true := by simp; omega
    rw [a1, a2]; rfl
  · unfold lesV newB tldB
    rw [h1, h2, e2]
    have a1 : inB ((-n) % 4294967296) 1 2147483647 = false := by rw [Bool.eq_false_iff]; simp only [inB, ne_eq, Bool.and_eq_true, decide_eq_true_eq]; omega
    have a2 : ((-n) % 4294967296 != 2147483648) = true := by simp; omega
    rw [a1, a2]; rfl
  · unfold stpV; rw [h1, h2, e1]; rfl
/-- Of two serials one is newer at most. -/
theorem les_two (a b : Int) : ∃ (x z i o : Bool) (p : Int), lesV a b = .tuple #[.bool x, .bool i] ∧ lesV b a = .tuple #[.bool z, .bool i] ∧ stpV a b = .tuple #[.int .i64 p, .bool o] ∧
    (i = false ∨ (i = true ∧ a = b ∧ x = false ∧ z = false) ∨ (i = true ∧ a ≠ b ∧ x = true ∧ z = false) ∨ (i = true ∧ a ≠ b ∧ x = false ∧ z = true)) := by
  refine ⟨serB a && serB b && newB a b, serB b && serB a && newB b a, serB a && serB b && tldB a b, serB a && serB b, if serB a && serB b then stp a b else 0, rfl, ?_, rfl, ?_⟩
  · have hsym : serB a = true → serB b = true → tldB b a = tldB a b := fun ha hb => by
      have := ser_in ha; have := ser_in hb
      unfold tldB stp; rw [Bool.eq_iff_iff]; simp only [bne_iff_ne, ne_eq]; omega
    unfold lesV
    cases ha : serB a <;> cases hb : serB b <;> simp
    exact hsym ha hb
  · cases ha : serB a with
    | false => left; rfl
    | true =>
      cases hb : serB b with
      | false => left; rfl
      | true =>
        have h1 := ser_in ha
        have h2 := ser_in hb
        simp only [Bool.true_and]
        cases ht : tldB a b with
        | false => left; rfl
        | true =>
          right
          have ht' : stp a b ≠ 2147483648 := by simpa [tldB] using ht
          unfold newB inB stp at *
          by_cases hab : a = b
          · left; subst hab; simp
          · right
            by_cases hl : (b - a) % 4294967296 ≤ 2147483647
            · left
              refine ⟨rfl, hab, ?_, ?_⟩
              · simp only [Bool.and_eq_true, decide_eq_true_eq]; omega
              · rw [Bool.eq_false_iff]; simp only [ne_eq, Bool.and_eq_true, decide_eq_true_eq]; omega
            · right
              refine ⟨rfl, hab, ?_, ?_⟩
              · rw [Bool.eq_false_iff]; simp only [ne_eq, Bool.and_eq_true, decide_eq_true_eq]; omega
              · simp only [Bool.and_eq_true, decide_eq_true_eq]; omega
end Go.Proofs.Ytjbmnghcfmbjeaa
namespace Go.Proofs.Ytjbmnghcfmbjeaa.lawSerials
open Go.RowKit

set_option maxRecDepth 20000 in
set_option maxHeartbeats 2000000 in
theorem walk (v : Value) (P : List Int) (u : Value) (R : List Int) (w : World) (hr : ZRow .u8 w v P) (hb : Hid (∀ x ∈ P, 0 ≤ x ∧ x ≤ 255)) (hr2 : ZRow .u8 w u R) (hb2 : Hid (∀ x ∈ R, 0 ≤ x ∧ x ≤ 255)) :
    Calls Try.prog 3 #[v, u] w fun e w' => e = .returned (.bool true) ∧ Below w.heap.size w w' := by
  have HR : Hid (ZRow .u8 w v P) := hr
  have HR2 : Hid (ZRow .u8 w u R) := hr2
  obtain ⟨a1, cap1, rfl, hcap1, hmax1, _⟩ := zrow_value hr
  obtain ⟨a2, cap2, rfl, hcap2, hmax2, _⟩ := zrow_value hr2
  clear hr hr2
  by_cases hbig : (1048576 : Int) < wrap64 ((P.length : Int) + (R.length : Int))
  · go_enter Try.func3, Try.ntmps3
    go_wp2_with fail
    go_ret
    exact ⟨rfl, Below.refl _ _⟩
  · go_enter Try.func3, Try.ntmps3
    go_wp2_with fail
    refine (drawSerialAdd_any _ P _ HR.out hb (by omega)).mono ?_
    rintro e w1 ⟨s, n, ⟨rfl, hs, hn⟩, hb1⟩
    have hb1z := hb1.size
    have hle2 : R.length ≤ 9223372036854775807 := by omega
    have HR2' : Hid (ZRow .u8 w1 (.slice a2 R.length cap2) R) := HR2.out.kept hb1
    cases hok : (serB s && inB n 0 2147483647) with
    | false =>
      have HX : Hid (addV s n = .tuple #[.int .i64 0, .bool false]) := add_no hok
      clear hok
      go_wp2_with fail
      refine (iSerialAdd_any _ _ _).mono ?_
      rintro e w2 ⟨rfl, rfl⟩
      rw [HX.out]
      go_wp2_with fail
      refine (sSerialAdd_any _ _ _).mono ?_
      rintro e w2 ⟨rfl, rfl⟩
      rw [HX.out]
      go_wp2_with fail
      refine (drawSerialLess_any _ R _ HR2'.out hb2 hle2).mono ?_
      rintro e w3 ⟨a, b, ⟨rfl, ha, hbb⟩, hb3⟩
      have hb03 : Below w.heap.size w w3 := hb1.trans (hb3.mono hb1z)
      clear hb3
      obtain ⟨x, z, i, oo, p, hl1, hl2, hl3, hcase⟩ := les_two a b
      have HL1 : Hid (lesV a b = .tuple #[.bool x, .bool i]) := hl1
      have HL2 : Hid (lesV b a = .tuple #[.bool z, .bool i]) := hl2
      have HL3 : Hid (stpV a b = .tuple #[.int .i64 p, .bool oo]) := hl3
      clear hl1 hl2 hl3
      have d1 : (p != p) = false := by simp
      have d2 : (oo != oo) = false := by simp
      rcases hcase with rfl | ⟨rfl, rfl, rfl, rfl⟩ | ⟨rfl, hne, rfl, rfl⟩ | ⟨rfl, hne, rfl, rfl⟩
      · have d4 : (x != x) = false := by simp
        go_wp2_with fail
        refine (iSerialLess_any _ _ _).mono ?_
        rintro e w2 ⟨rfl, rfl⟩
        rw [HL1.out]
        go_wp2_with fail
        refine (sSerialLess_any _ _ _).mono ?_
        rintro e w2 ⟨rfl, rfl⟩
        rw [HL1.out]
        go_wp2_with fail
        refine (iSerialLess_any _ _ _).mono ?_
        rintro e w2 ⟨rfl, rfl⟩
        rw [HL2.out]
        go_wp2_with fail
        refine (iStepsBetween_any _ _ _).mono ?_
        rintro e w2 ⟨rfl, rfl⟩
        rw [HL3.out]
        go_wp2_with fail
        refine (sStepsBetween_any _ _ _).mono ?_
        rintro e w2 ⟨rfl, rfl⟩
        rw [HL3.out]
        go_wp2_with fail
        all_goals go_ret
        all_goals exact ⟨rfl, hb03⟩
      · have d3 : (a != a) = false := by simp
        go_wp2_with fail
        refine (iSerialLess_any _ _ _).mono ?_
        rintro e w2 ⟨rfl, rfl⟩
        rw [HL1.out]
        go_wp2_with fail
        refine (sSerialLess_any _ _ _).mono ?_
        rintro e w2 ⟨rfl, rfl⟩
        rw [HL1.out]
        go_wp2_with fail
        refine (iSerialLess_any _ _ _).mono ?_
        rintro e w2 ⟨rfl, rfl⟩
        rw [HL2.out]
        go_wp2_with fail
        refine (iStepsBetween_any _ _ _).mono ?_
        rintro e w2 ⟨rfl, rfl⟩
        rw [HL3.out]
        go_wp2_with fail
        refine (sStepsBetween_any _ _ _).mono ?_
        rintro e w2 ⟨rfl, rfl⟩
        rw [HL3.out]
        go_wp2_with fail
        all_goals go_ret
        all_goals exact ⟨rfl, hb03⟩
      · have d3 : (a != b) = true := by simpa using hne
        go_wp2_with fail
        refine (iSerialLess_any _ _ _).mono ?_
        rintro e w2 ⟨rfl, rfl⟩
        rw [HL1.out]
        go_wp2_with fail
        refine (sSerialLess_any _ _ _).mono ?_
        rintro e w2 ⟨rfl, rfl⟩
        rw [HL1.out]
        go_wp2_with fail
        refine (iSerialLess_any _ _ _).mono ?_
        rintro e w2 ⟨rfl, rfl⟩
        rw [HL2.out]
        go_wp2_with fail
        refine (iStepsBetween_any _ _ _).mono ?_
        rintro e w2 ⟨rfl, rfl⟩
        rw [HL3.out]
        go_wp2_with fail
        refine (sStepsBetween_any _ _ _).mono ?_
        rintro e w2 ⟨rfl, rfl⟩
        rw [HL3.out]
        go_wp2_with fail
        all_goals go_ret
        all_goals exact ⟨rfl, hb03⟩
      · have d3 : (a != b) = true := by simpa using hne
        go_wp2_with fail
        refine (iSerialLess_any _ _ _).mono ?_
        rintro e w2 ⟨rfl, rfl⟩
        rw [HL1.out]
        go_wp2_with fail
        refine (sSerialLess_any _ _ _).mono ?_
        rintro e w2 ⟨rfl, rfl⟩
        rw [HL1.out]
        go_wp2_with fail
        refine (iSerialLess_any _ _ _).mono ?_
        rintro e w2 ⟨rfl, rfl⟩
        rw [HL2.out]
        go_wp2_with fail
        refine (iStepsBetween_any _ _ _).mono ?_
        rintro e w2 ⟨rfl, rfl⟩
        rw [HL3.out]
        go_wp2_with fail
        refine (sStepsBetween_any _ _ _).mono ?_
        rintro e w2 ⟨rfl, rfl⟩
        rw [HL3.out]
        go_wp2_with fail
        all_goals go_ret
        all_goals exact ⟨rfl, hb03⟩
    | true =>
      obtain ⟨t, hx1, hx2, hx3, hx4⟩ := add_yes hok
      have HX : Hid (addV s n = .tuple #[.int .i64 t, .bool true]) := hx1
      have HX2 : Hid (lesV s t = .tuple #[.bool (decide (0 < n)), .bool true]) := hx2
      have HX3 : Hid (lesV t s = .tuple #[.bool false, .bool true]) := hx3
      have HX4 : Hid (stpV s t = .tuple #[.int .i64 n, .bool true]) := hx4
      clear hx1 hx2 hx3 hx4
      have e1 : (t != t) = false := by simp
      have e2 : (n != n) = false := by simp
      by_cases hn0 : 0 < n
      · have e3 : decide (0 < n) = true := by simpa using hn0
        rw [e3] at HX2
        clear hok e3
        go_wp2_with fail
        refine (iSerialAdd_any _ _ _).mono ?_
        rintro e w2 ⟨rfl, rfl⟩
        rw [HX.out]
        go_wp2_with fail
        refine (sSerialAdd_any _ _ _).mono ?_
        rintro e w2 ⟨rfl, rfl⟩
        rw [HX.out]
        go_wp2_with fail
        refine (iSerialLess_any _ _ _).mono ?_
        rintro e w2 ⟨rfl, rfl⟩
        rw [HX2.out]
        go_wp2_with fail
        refine (iSerialLess_any _ _ _).mono ?_
        rintro e w2 ⟨rfl, rfl⟩
        rw [HX3.out]
        go_wp2_with fail
        refine (iStepsBetween_any _ _ _).mono ?_
        rintro e w2 ⟨rfl, rfl⟩
        rw [HX4.out]
        go_wp2_with fail
        refine (drawSerialLess_any _ R _ HR2'.out hb2 hle2).mono ?_
        rintro e w3 ⟨a, b, ⟨rfl, ha, hbb⟩, hb3⟩
        have hb03 : Below w.heap.size w w3 := hb1.trans (hb3.mono hb1z)
        clear hb3
        obtain ⟨x, z, i, oo, p, hl1, hl2, hl3, hcase⟩ := les_two a b
        have HL1 : Hid (lesV a b = .tuple #[.bool x, .bool i]) := hl1
        have HL2 : Hid (lesV b a = .tuple #[.bool z, .bool i]) := hl2
        have HL3 : Hid (stpV a b = .tuple #[.int .i64 p, .bool oo]) := hl3
        clear hl1 hl2 hl3
        have d1 : (p != p) = false := by simp
        have d2 : (oo != oo) = false := by simp
        rcases hcase with rfl | ⟨rfl, rfl, rfl, rfl⟩ | ⟨rfl, hne, rfl, rfl⟩ | ⟨rfl, hne, rfl, rfl⟩
        · have d4 : (x != x) = false := by simp
          go_wp2_with fail
          refine (iSerialLess_any _ _ _).mono ?_
          rintro e w2 ⟨rfl, rfl⟩
          rw [HL1.out]
          go_wp2_with fail
          refine (sSerialLess_any _ _ _).mono ?_
          rintro e w2 ⟨rfl, rfl⟩
          rw [HL1.out]
          go_wp2_with fail
          refine (iSerialLess_any _ _ _).mono ?_
          rintro e w2 ⟨rfl, rfl⟩
          rw [HL2.out]
          go_wp2_with fail
          refine (iStepsBetween_any _ _ _).mono ?_
          rintro e w2 ⟨rfl, rfl⟩
          rw [HL3.out]
          go_wp2_with fail
          refine (sStepsBetween_any _ _ _).mono ?_
          rintro e w2 ⟨rfl, rfl⟩
          rw [HL3.out]
          go_wp2_with fail
          all_goals go_ret
          all_goals exact ⟨rfl, hb03⟩
        · have d3 : (a != a) = false := by simp
          go_wp2_with fail
          refine (iSerialLess_any _ _ _).mono ?_
          rintro e w2 ⟨rfl, rfl⟩
          rw [HL1.out]
          go_wp2_with fail
          refine (sSerialLess_any _ _ _).mono ?_
          rintro e w2 ⟨rfl, rfl⟩
          rw [HL1.out]
          go_wp2_with fail
          refine (iSerialLess_any _ _ _).mono ?_
          rintro e w2 ⟨rfl, rfl⟩
          rw [HL2.out]
          go_wp2_with fail
          refine (iStepsBetween_any _ _ _).mono ?_
          rintro e w2 ⟨rfl, rfl⟩
          rw [HL3.out]
          go_wp2_with fail
          refine (sStepsBetween_any _ _ _).mono ?_
          rintro e w2 ⟨rfl, rfl⟩
          rw [HL3.out]
          go_wp2_with fail
          all_goals go_ret
          all_goals exact ⟨rfl, hb03⟩
        · have d3 : (a != b) = true := by simpa using hne
          go_wp2_with fail
          refine (iSerialLess_any _ _ _).mono ?_
          rintro e w2 ⟨rfl, rfl⟩
          rw [HL1.out]
          go_wp2_with fail
          refine (sSerialLess_any _ _ _).mono ?_
          rintro e w2 ⟨rfl, rfl⟩
          rw [HL1.out]
          go_wp2_with fail
          refine (iSerialLess_any _ _ _).mono ?_
          rintro e w2 ⟨rfl, rfl⟩
          rw [HL2.out]
          go_wp2_with fail
          refine (iStepsBetween_any _ _ _).mono ?_
          rintro e w2 ⟨rfl, rfl⟩
          rw [HL3.out]
          go_wp2_with fail
          refine (sStepsBetween_any _ _ _).mono ?_
          rintro e w2 ⟨rfl, rfl⟩
          rw [HL3.out]
          go_wp2_with fail
          all_goals go_ret
          all_goals exact ⟨rfl, hb03⟩
        · have d3 : (a != b) = true := by simpa using hne
          go_wp2_with fail
          refine (iSerialLess_any _ _ _).mono ?_
          rintro e w2 ⟨rfl, rfl⟩
          rw [HL1.out]
          go_wp2_with fail
          refine (sSerialLess_any _ _ _).mono ?_
          rintro e w2 ⟨rfl, rfl⟩
          rw [HL1.out]
          go_wp2_with fail
          refine (iSerialLess_any _ _ _).mono ?_
          rintro e w2 ⟨rfl, rfl⟩
          rw [HL2.out]
          go_wp2_with fail
          refine (iStepsBetween_any _ _ _).mono ?_
          rintro e w2 ⟨rfl, rfl⟩
          rw [HL3.out]
          go_wp2_with fail
          refine (sStepsBetween_any _ _ _).mono ?_
          rintro e w2 ⟨rfl, rfl⟩
          rw [HL3.out]
          go_wp2_with fail
          all_goals go_ret
          all_goals exact ⟨rfl, hb03⟩
      · have e3 : decide (0 < n) = false := by simpa using hn0
        rw [e3] at HX2
        clear hok e3
        go_wp2_with fail
        refine (iSerialAdd_any _ _ _).mono ?_
        rintro e w2 ⟨rfl, rfl⟩
        rw [HX.out]
        go_wp2_with fail
        refine (sSerialAdd_any _ _ _).mono ?_
        rintro e w2 ⟨rfl, rfl⟩
        rw [HX.out]
        go_wp2_with fail
        refine (iSerialLess_any _ _ _).mono ?_
        rintro e w2 ⟨rfl, rfl⟩
        rw [HX2.out]
        go_wp2_with fail
        refine (iSerialLess_any _ _ _).mono ?_
        rintro e w2 ⟨rfl, rfl⟩
        rw [HX3.out]
        go_wp2_with fail
        refine (iStepsBetween_any _ _ _).mono ?_
        rintro e w2 ⟨rfl, rfl⟩
        rw [HX4.out]
        go_wp2_with fail
        refine (drawSerialLess_any _ R _ HR2'.out hb2 hle2).mono ?_
        rintro e w3 ⟨a, b, ⟨rfl, ha, hbb⟩, hb3⟩
        have hb03 : Below w.heap.size w w3 := hb1.trans (hb3.mono hb1z)
        clear hb3
        obtain ⟨x, z, i, oo, p, hl1, hl2, hl3, hcase⟩ := les_two a b
        have HL1 : Hid (lesV a b = .tuple #[.bool x, .bool i]) := hl1
        have HL2 : Hid (lesV b a = .tuple #[.bool z, .bool i]) := hl2
        have HL3 : Hid (stpV a b = .tuple #[.int .i64 p, .bool oo]) := hl3
        clear hl1 hl2 hl3
        have d1 : (p != p) = false := by simp
        have d2 : (oo != oo) = false := by simp
        rcases hcase with rfl | ⟨rfl, rfl, rfl, rfl⟩ | ⟨rfl, hne, rfl, rfl⟩ | ⟨rfl, hne, rfl, rfl⟩
        · have d4 : (x != x) = false := by simp
          go_wp2_with fail
          refine (iSerialLess_any _ _ _).mono ?_
          rintro e w2 ⟨rfl, rfl⟩
          rw [HL1.out]
          go_wp2_with fail
          refine (sSerialLess_any _ _ _).mono ?_
          rintro e w2 ⟨rfl, rfl⟩
          rw [HL1.out]
          go_wp2_with fail
          refine (iSerialLess_any _ _ _).mono ?_
          rintro e w2 ⟨rfl, rfl⟩
          rw [HL2.out]
          go_wp2_with fail
          refine (iStepsBetween_any _ _ _).mono ?_
          rintro e w2 ⟨rfl, rfl⟩
          rw [HL3.out]
          go_wp2_with fail
          refine (sStepsBetween_any _ _ _).mono ?_
          rintro e w2 ⟨rfl, rfl⟩
          rw [HL3.out]
          go_wp2_with fail
          all_goals go_ret
          all_goals exact ⟨rfl, hb03⟩
        · have d3 : (a != a) = false := by simp
          go_wp2_with fail
          refine (iSerialLess_any _ _ _).mono ?_
          rintro e w2 ⟨rfl, rfl⟩
          rw [HL1.out]
          go_wp2_with fail
          refine (sSerialLess_any _ _ _).mono ?_
          rintro e w2 ⟨rfl, rfl⟩
          rw [HL1.out]
          go_wp2_with fail
          refine (iSerialLess_any _ _ _).mono ?_
          rintro e w2 ⟨rfl, rfl⟩
          rw [HL2.out]
          go_wp2_with fail
          refine (iStepsBetween_any _ _ _).mono ?_
          rintro e w2 ⟨rfl, rfl⟩
          rw [HL3.out]
          go_wp2_with fail
          refine (sStepsBetween_any _ _ _).mono ?_
          rintro e w2 ⟨rfl, rfl⟩
          rw [HL3.out]
          go_wp2_with fail
          all_goals go_ret
          all_goals exact ⟨rfl, hb03⟩
        · have d3 : (a != b) = true := by simpa using hne
          go_wp2_with fail
          refine (iSerialLess_any _ _ _).mono ?_
          rintro e w2 ⟨rfl, rfl⟩
          rw [HL1.out]
          go_wp2_with fail
          refine (sSerialLess_any _ _ _).mono ?_
          rintro e w2 ⟨rfl, rfl⟩
          rw [HL1.out]
          go_wp2_with fail
          refine (iSerialLess_any _ _ _).mono ?_
          rintro e w2 ⟨rfl, rfl⟩
          rw [HL2.out]
          go_wp2_with fail
          refine (iStepsBetween_any _ _ _).mono ?_
          rintro e w2 ⟨rfl, rfl⟩
          rw [HL3.out]
          go_wp2_with fail
          refine (sStepsBetween_any _ _ _).mono ?_
          rintro e w2 ⟨rfl, rfl⟩
          rw [HL3.out]
          go_wp2_with fail
          all_goals go_ret
          all_goals exact ⟨rfl, hb03⟩
        · have d3 : (a != b) = true := by simpa using hne
          go_wp2_with fail
          refine (iSerialLess_any _ _ _).mono ?_
          rintro e w2 ⟨rfl, rfl⟩
          rw [HL1.out]
          go_wp2_with fail
          refine (sSerialLess_any _ _ _).mono ?_
          rintro e w2 ⟨rfl, rfl⟩
          rw [HL1.out]
          go_wp2_with fail
          refine (iSerialLess_any _ _ _).mono ?_
          rintro e w2 ⟨rfl, rfl⟩
          rw [HL2.out]
          go_wp2_with fail
          refine (iStepsBetween_any _ _ _).mono ?_
          rintro e w2 ⟨rfl, rfl⟩
          rw [HL3.out]
          go_wp2_with fail
          refine (sStepsBetween_any _ _ _).mono ?_
          rintro e w2 ⟨rfl, rfl⟩
          rw [HL3.out]
          go_wp2_with fail
          all_goals go_ret
          all_goals exact ⟨rfl, hb03⟩
end Go.Proofs.Ytjbmnghcfmbjeaa.lawSerials
