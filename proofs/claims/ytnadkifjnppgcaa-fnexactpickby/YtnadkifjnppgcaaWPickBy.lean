import Derived.Test.YtnadkifjnppgcaaPkP
namespace Go.Proofs.Ytnadkifjnppgcaa.pickBy
open Go.RowKit

set_option maxRecDepth 20000 in
set_option maxHeartbeats 1000000 in
theorem walk (v : Value) (L : List (Int × Int)) (t d : Int) (w : World) (hr : ColRow w v L) (_ : -9223372036854775808 ≤ t ∧ t ≤ 9223372036854775807) (_ : -9223372036854775808 ≤ d ∧ d ≤ 9223372036854775807) :
    Calls Try.prog 6 #[v, .int .i64 t, .int .i64 d] w fun e w' => e = .returned (.bool true) ∧ Below w.heap.size w w' := by
  have HR : Hid (ColRow w v L) := hr
  obtain ⟨a, cap, rfl, hcap, hmax, _⟩ := col_value hr
  clear hr
  by_cases hl : L.length ≤ 1048576
  · have HQ : Hid ((if L.length ≤ 1048576 then 1048576 - (L.length : Int) else -1) = 1048576 - (L.length : Int)) := if_pos hl
    have hq : ¬ (1048576 - (L.length : Int) < 0) := by omega
    have hml : L.length ≤ maxLen := by unfold maxLen; omega
    obtain ⟨x, b0, hx⟩ : ∃ x b0, pkV L t d = .tuple #[.int .i64 x, .bool b0] := ⟨_, _, rfl⟩
    have HX : Hid (pkV L t d = .tuple #[.int .i64 x, .bool b0]) := hx
    clear hx
    have e1 : (x != x) = false := by simp
    have e2 : (b0 != b0) = false := by simp
    go_enter Try.func6, Try.ntmps6
    go_wp2_with fail
    refine (szColumnS_any _ L _ HR.out).mono ?_
    rintro e w0 ⟨rfl, rfl⟩
    rw [HQ.out]
    go_wp2_with fail
    refine (toColumnS_any _ L _ HR.out hl).mono ?_
    rintro e w1 ⟨rfl, hs1, hb1⟩
    have HS1 : Hid (ColRow w1 (.slice (some ⟨w0.heap.size, 0, none⟩) L.length L.length) L) := hs1.row (Nat.le_refl _) hml
    clear hs1
    go_wp2_with fail
    refine (sPickBy_any _ t d L _ HS1.out).mono ?_
    rintro e w2 ⟨rfl, hb2⟩
    have hb02 := hb1.trans (hb2.mono hb1.size)
    rw [HX.out]
    go_wp2_with fail
    refine (toColumnS_any _ L _ (HR.out.kept hb02) hl).mono ?_
    rintro e w3 ⟨rfl, hs3, hb3⟩
    have hb03 := hb02.trans (hb3.mono hb02.size)
    have HS3 : Hid (ColRow w3 (.slice (some ⟨w2.heap.size, 0, none⟩) L.length L.length) L) := hs3.row (Nat.le_refl _) hml
    clear hs3
    go_wp2_with fail
    refine (iPickBy_any _ t d L _ HS3.out).mono ?_
    rintro e w4 ⟨rfl, hb4⟩
    have hb04 := hb03.trans (hb4.mono hb03.size)
    rw [HX.out]
    go_wp2_with fail
    refine (toColumnS_any _ L _ (HR.out.kept hb04) hl).mono ?_
    rintro e w5 ⟨rfl, hs5, hb5⟩
    have hb05 := hb04.trans (hb5.mono hb04.size)
    have HS5 : Hid (ColRow w5 (.slice (some ⟨w4.heap.size, 0, none⟩) L.length L.length) L) := hs5.row (Nat.le_refl _) hml
    clear hs5
    go_wp2_with fail
    refine (eqColumnS_same _ _ L _ ((HS3.out.kept hb4).kept hb5) HS5.out).mono ?_
    rintro e w6 ⟨rfl, hb6⟩
    go_wp2_with fail
    go_ret
    exact ⟨rfl, hb05.trans (hb6.mono hb05.size)⟩
  · have HQ : Hid ((if L.length ≤ 1048576 then 1048576 - (L.length : Int) else -1) = -1) := if_neg hl
    go_enter Try.func6, Try.ntmps6
    go_wp2_with fail
    refine (szColumnS_any _ L _ HR.out).mono ?_
    rintro e w0 ⟨rfl, rfl⟩
    rw [HQ.out]
    go_wp2_with fail
    go_ret
    exact ⟨rfl, Below.refl _ _⟩
end Go.Proofs.Ytnadkifjnppgcaa.pickBy
