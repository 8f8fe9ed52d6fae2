import Derived.Test.YtnadkifjnppgcaaPkW
namespace Go.Proofs.Ytnadkifjnppgcaa.goodWeights
open Go.RowKit

set_option maxRecDepth 20000 in
set_option maxHeartbeats 1000000 in
theorem walk (v : Value) (L : List Int) (w : World) (hr : ZRow .i64 w v L) (_ : Hid (∀ x ∈ L, -9223372036854775808 ≤ x ∧ x ≤ 9223372036854775807)) :
    Calls Try.prog 3 #[v] w fun e w' => e = .returned (.bool true) ∧ Below w.heap.size w w' := by
  have HR : Hid (ZRow .i64 w v L) := hr
  obtain ⟨a, cap, rfl, hcap, hmax, _⟩ := zrow_value hr
  clear hr
  by_cases h : (1048576 : Int) < (L.length : Int)
  · go_enter Try.func3, Try.ntmps3
    go_wp2_with fail
    go_ret
    exact ⟨rfl, Below.refl _ _⟩
  · have hl : L.length ≤ 1048576 := by omega
    obtain ⟨b0, hx⟩ : ∃ b0, goodW L = b0 := ⟨_, rfl⟩
    have HX : Hid (goodW L = b0) := hx
    clear hx
    have e2 : (b0 != b0) = false := by simp
    go_enter Try.func3, Try.ntmps3
    go_wp2_with fail
    refine (toIntS_any _ L _ HR.out hl).mono ?_
    rintro e w1 ⟨rfl, hs1, hb1⟩
    have HS1 : Hid (ZRow .i64 w1 (.slice (some ⟨w.heap.size, 0, none⟩) L.length L.length) L) := hs1.row hl
    clear hs1
    go_wp2_with fail
    refine (sGoodWeights_any _ L _ HS1.out hl).mono ?_
    rintro e w2 ⟨rfl, rfl⟩
    rw [HX.out]
    go_wp2_with fail
    refine (toIntS_any _ L _ (HR.out.kept hb1) hl).mono ?_
    rintro e w3 ⟨rfl, hs3, hb3⟩
    have hb03 := hb1.trans (hb3.mono hb1.size)
    have HS3 : Hid (ZRow .i64 w3 (.slice (some ⟨w2.heap.size, 0, none⟩) L.length L.length) L) := hs3.row hl
    clear hs3
    go_wp2_with fail
    refine (iGoodWeights_any _ L _ HS3.out).mono ?_
    rintro e w4 ⟨rfl, rfl⟩
    rw [HX.out]
    go_wp2_with fail
    refine (toIntS_any _ L _ (HR.out.kept hb03) hl).mono ?_
    rintro e w5 ⟨rfl, hs5, hb5⟩
    have hb05 := hb03.trans (hb5.mono hb03.size)
    have HS5 : Hid (ZRow .i64 w5 (.slice (some ⟨w4.heap.size, 0, none⟩) L.length L.length) L) := hs5.row hl
    clear hs5
    go_wp2_with fail
    refine (eqIntS_any _ _ L L _ (HS3.out.kept hb5) HS5.out).mono ?_
    rintro e w6 ⟨rfl, hb6⟩
    have e3 : (L == L) = true := by simp
    rw [e3]
    go_wp2_with fail
    go_ret
    exact ⟨rfl, hb05.trans (hb6.mono hb05.size)⟩
end Go.Proofs.Ytnadkifjnppgcaa.goodWeights
