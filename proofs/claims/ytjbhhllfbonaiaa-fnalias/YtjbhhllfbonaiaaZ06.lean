import Derived.Test.YtjbhhllfbonaiaaZ00
import Derived.OwnWalk
import Derived.Deep.QuietTactic
import Derived.BigQuiet
import Derived.WalkSmall
namespace Go.Proofs.Ytjbhhllfbonaiaa
open Go.RowKit

theorem zret_bool {a b : Bool} (h : a = b) : Ending.returned (.bool a) = .returned (.bool b) := by rw [h]
theorem info_intY : (Try.prog.info? 3).map (fun i => (i.zero, i.size, i.bytes)) = some (some (.int .i64 0), 1, 8) := by kernel_rfl
theorem info_u32 : (Try.prog.info? 68).map (fun i => (i.zero, i.size, i.bytes)) = some (some (.int .u32 0), 1, 4) := by kernel_rfl
/-- Numbers in a block of the call's own. -/
def ZSRow (w : World) (g : Nat) (zs : List Int) : Prop := g < w.heap.size ∧ ∀ j, (hj : j < zs.length) → w.cell? ⟨g, j, none⟩ = some (.int .i64 zs[j]) ∧ w.frozen? ⟨g, j, none⟩ = false
theorem ZSRow.kept {w w' : World} {g : Nat} {zs : List Int} (h : ZSRow w g zs) (hb : Below w.heap.size w w') : ZSRow w' g zs :=
  ⟨Nat.lt_of_lt_of_le h.1 hb.size, fun j hj => by rw [hb.cell (p := ⟨g, j, none⟩) h.1, hb.frozen (p := ⟨g, j, none⟩) h.1]; exact h.2 j hj⟩
theorem ZSRow.set {w : World} {g : Nat} {zs : List Int} (h : ZSRow w g zs) (k : Nat) (hk : k < zs.length) (c : Int) : ZSRow (w.setCell ⟨g, k, none⟩ (.int .i64 c)) g (zs.set k c) := by
  refine ⟨by simpa using h.1, fun j hj => ?_⟩
  have hj' : j < zs.length := by simpa using hj
  refine ⟨?_, by simpa using (h.2 j hj').2⟩
  rw [List.getElem_set]
  split
  · rename_i e; subst e; exact World.cell?_setCell_same _ _ _ (h.2 k hk).1
  · rename_i e
    rw [World.cell?_setCell_other _ _ _ _ (show (⟨g, k, none⟩ : Addr) ≠ ⟨g, j, none⟩ by intro h; cases h; exact e rfl)]
    exact (h.2 j hj').1
theorem ZSRow.row {w : World} {g : Nat} {zs : List Int} (h : ZSRow w g zs) (hl : zs.length ≤ 1048576) : ZRow .i64 w (.slice (some ⟨g, 0, none⟩) zs.length zs.length) zs :=
  ⟨_, zs.length, rfl, Nat.le_refl _, by unfold maxLen; omega, .inr ⟨g, 0, rfl, h.1, fun j hj => by rw [Nat.zero_add]; exact (h.2 j hj).1⟩⟩

def partZ (P : List Int) (k : Nat) : List Int := P.take k ++ List.replicate (P.length - k) 0
theorem partZ_length (P : List Int) (k : Nat) (h : k ≤ P.length) : (partZ P k).length = P.length := by simp [partZ]; omega
theorem partZ_next (P : List Int) (k : Nat) (h : k < P.length) : partZ P (k + 1) = (partZ P k).set k P[k] := by
  unfold partZ
  have hm : (P.take k).length = k := by simp; omega
  rw [List.take_succ_eq_append_getElem h, List.set_append_right _ _ (by omega), hm, Nat.sub_self]
  obtain ⟨m, hm2⟩ : ∃ m, P.length - k = m + 1 := ⟨P.length - k - 1, by omega⟩
  rw [hm2, show P.length - (k + 1) = m by omega, List.replicate_succ]
  simp only [List.set_cons_zero, List.append_assoc, List.singleton_append]
theorem partZ_end (P : List Int) : partZ P P.length = P := by simp [partZ]
theorem zs_own {w : World} {base : Nat} {g cap : Nat} {zs : List Int} (h : w.ownsRow base 3 1 (.slice (some ⟨g, 0, none⟩) zs.length cap) zs.length (zs.map (Value.int .i64))) : ZSRow w g zs :=
  ⟨(h.lt g rfl).2, fun j hj => ⟨by rw [h.cellAt j (by omega), List.getElem?_map, List.getElem?_eq_getElem hj]; rfl, h.frozenAt j⟩⟩
theorem made_zs {w w1 : World} {P : List Int} (h : w1.ownsRow w.heap.size 3 1 (.slice (some ⟨w.heap.size, 0, none⟩) P.length P.length) P.length (madeCells #[.int .i64 0] P.length).toList) : ZSRow w1 w.heap.size (partZ P 0) := by
  have e : (madeCells #[.int .i64 0] P.length).toList = (partZ P 0).map (Value.int .i64) := by
    rw [show partZ P 0 = List.replicate P.length 0 by simp [partZ], List.map_replicate]
    refine List.ext_getElem (by simp [madeCells]) (fun i h1 h2 => ?_)
    simp [madeCells, Nat.mod_one]
  rw [e] at h
  have hl : (partZ P 0).length = P.length := partZ_length P 0 (Nat.zero_le _)
  rw [← hl] at h
  exact zs_own h

end Go.Proofs.Ytjbhhllfbonaiaa

namespace Go.Proofs.Ytjbhhllfbonaiaa
open Go.RowKit

set_option maxRecDepth 20000 in
set_option maxHeartbeats 1000000 in
theorem sameInts_same (va vb : Value) (A : List Int) (w : World) (hra : ZRow .i64 w va A) (hrb : ZRow .i64 w vb A) :
    Calls Try.prog 11 #[va, vb] w fun e w' => e = .returned (.bool true) ∧ Below w.heap.size w w' := by
  obtain ⟨aa, ca, rfl, hca, hma, HA⟩ := zrow_value hra
  obtain ⟨ab, cb, rfl, hcb, hmb, HB⟩ := zrow_value hrb
  clear hra hrb
  have e0 : ((A.length : Int) != (A.length : Int)) = false := by simp
  go_enter Try.func11, Try.ntmps11
  go_wp2_with fail
  go_loopw [13] (fun i wr => ∃ k : Nat, k ≤ A.length ∧ i = .int .i64 k ∧ Below w.heap.size w wr) (fun i _ => A.length - (intOf i).toNat)
  case atStart => exact ⟨0, Nat.zero_le _, rfl, Below.refl _ _⟩
  case round =>
    obtain ⟨k, hk, rfl, hb⟩ := hrel
    by_cases hlt : k < A.length
    · obtain ⟨ba, oa, ha, hba, hcA⟩ := HA.out (by omega)
      obtain ⟨bb, ob, hb', hbb, hcB⟩ := HB.out (by omega)
      rw [ha, hb']
      have cA := hcA k hlt
      have cB := hcB k hlt
      rw [← hb.cell (p := ⟨ba, oa + k, none⟩) hba] at cA
      rw [← hb.cell (p := ⟨bb, ob + k, none⟩) hbb] at cB
      obtain ⟨x, hx⟩ : ∃ x, x = A[k]'hlt := ⟨_, rfl⟩
      rw [← hx] at cA cB
      have e1 : (x != x) = false := by simp
      clear hcA hcB hx
      go_wp2_with fail
      go_quiet (fail)
      go_wp2_with fail
      go_roundw
      case rel => exact ⟨k + 1, by omega, by go_num, below_drewN hb _⟩
      case measure => simp [intOf]; omega
    · go_wp2_with fail
      go_ret
      exact ⟨rfl, hb⟩
end Go.Proofs.Ytjbhhllfbonaiaa
