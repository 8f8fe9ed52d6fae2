import Derived.Test.YtmhiopkpjdnddaaDoorListT
namespace Go.Proofs.YtmhiopkpjdnddaaDoor
open Go.RowKit

set_option maxRecDepth 20000 in
set_option maxHeartbeats 1000000 in
theorem sameTexts_any (va vb : Value) (A : List (List UInt8)) (w : World) (hra : Row w va A) (hrb : Row w vb A) :
    Calls Tryd.prog 12 #[va, vb] w fun e w' => e = .returned (.bool true) ∧ Below w.heap.size w w' := by
  obtain ⟨aa, ca, rfl, hca, hma, HA⟩ := row_value hra
  obtain ⟨ab, cb, rfl, hcb, hmb, HB⟩ := row_value hrb
  clear hra hrb
  have e0 : ((A.length : Int) != (A.length : Int)) = false := by simp
  go_enter Tryd.func12, Tryd.ntmps12
  go_wp2_with fail
  go_loopw [13] (fun i wr => ∃ k : Nat, k ≤ A.length ∧ i = .int .i64 k ∧ Below w.heap.size w wr) (fun i _ => A.length - (intOf i).toNat)
  case atStart => exact ⟨0, Nat.zero_le _, rfl, Below.refl _ _⟩
  case round =>
    obtain ⟨k, hk, rfl, hb⟩ := hrel
    by_cases hlt : k < A.length
    · obtain ⟨ba, oa, ha, hba, hcA⟩ := HA.out (by omega)
      obtain ⟨bb, ob, hb', hbb, hcB⟩ := HB.out (by omega)
      rw [ha, hb']
      have cA := hcA k hlt
      have cB := hcB k hlt
      rw [← hb.cell (p := ⟨ba, oa + k, none⟩) hba] at cA
      rw [← hb.cell (p := ⟨bb, ob + k, none⟩) hbb] at cB
      obtain ⟨x, hx⟩ : ∃ x, x = A[k]'hlt := ⟨_, rfl⟩
      rw [← hx] at cA cB
      unfold S at cA cB
      clear hcA hcB hx
      go_wp2_with fail
      go_quiet (fail)
      go_wp2_with fail
      go_roundw
      case rel => exact ⟨k + 1, by omega, by go_num, below_drewN hb _⟩
      case measure => simp [intOf]; omega
    · go_wp2_with fail
      go_ret
      exact ⟨rfl, hb⟩
end Go.Proofs.YtmhiopkpjdnddaaDoor
