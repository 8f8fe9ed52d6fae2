import Derived.Test.YtoopfmebpjojiaaDoorListS
namespace Go.Proofs.YtoopfmebpjojiaaDoor
open Go.RowKit

/-- What has been copied behind k rounds. -/
def part (P : List (List UInt8)) (k : Nat) : List (List UInt8) := P.take k ++ List.replicate (P.length - k) []
theorem part_length (P : List (List UInt8)) (k : Nat) (h : k ≤ P.length) : (part P k).length = P.length := by simp [part]; omega
theorem part_next (P : List (List UInt8)) (k : Nat) (h : k < P.length) : part P (k + 1) = (part P k).set k P[k] := by
  unfold part
  have hm : (P.take k).length = k := by simp; omega
  rw [List.take_succ_eq_append_getElem h, List.set_append_right _ _ (by omega), hm, Nat.sub_self]
  obtain ⟨m, hm2⟩ : ∃ m, P.length - k = m + 1 := ⟨P.length - k - 1, by omega⟩
  rw [hm2, show P.length - (k + 1) = m by omega, List.replicate_succ]
  simp only [List.set_cons_zero, List.append_assoc, List.singleton_append]
theorem part_end (P : List (List UInt8)) : part P P.length = P := by simp [part]

theorem made_srow {w w1 : World} {P : List (List UInt8)} (h : w1.ownsRow w.heap.size 9 1 (.slice (some ⟨w.heap.size, 0, none⟩) P.length P.length) P.length (madeCells #[.string ByteArray.empty] P.length).toList) : SRow w1 w.heap.size (part P 0) := by
  have e : (madeCells #[.string ByteArray.empty] P.length).toList = (part P 0).map S := by
    rw [← Lib.cellsOf_nil P.length]
    simp [Lib.cellsOf, part, S]
    right; rfl
  rw [e] at h
  exact srow_own h (by simp [part])

set_option maxRecDepth 20000 in
set_option maxHeartbeats 1000000 in
theorem toStringS_any (v : Value) (P : List (List UInt8)) (w : World) (hr : Row w v P) (hl : P.length ≤ 1048576) :
    Calls Tryd.prog 12 #[v] w fun e w' => e = .returned (.slice (some ⟨w.heap.size, 0, none⟩) P.length P.length) ∧ SRow w' w.heap.size P ∧ Below w.heap.size w w' := by
  obtain ⟨i0, hi, hz0, hz1, hz2⟩ := info_parts info_string
  obtain ⟨a, cap, rfl, hcap, hmax, HROW⟩ := row_value hr
  clear hr
  go_enter Tryd.func12, Tryd.ntmps12
  go_wp2_with (at_make; refine wpList_make_full _ rfl _ _ 22 rfl w.heap.size 9 i0 (.string ByteArray.empty) 1 Tryd.underlying22 hi hz0 hz1 _ _ _ _ P.length rfl rfl rfl rfl ?b2 ?b3 ?b4 ?_)
  case b2 => rw [hz2]; omega
  case b3 => unfold maxLen; omega
  case b4 => exact Nat.le_refl _
  intro w1 hown hgrow
  have hb1 : Below w.heap.size w w1 := (Below.refl _ _).grown hgrow (Nat.le_refl _) (fun k h => by cases h)
  have hs1 := made_srow (w := w) (P := P) hown
  have HS1 : Hid (SRow w1 w.heap.size (part P 0)) := hs1
  clear hown hgrow hs1
  go_wp2_with fail
  go_loopw [4] (fun i wr => ∃ k : Nat, k ≤ P.length ∧ i = .int .i64 k ∧ Hid (SRow wr w.heap.size (part P k)) ∧ Below w.heap.size w wr) (fun i _ => P.length - (intOf i).toNat)
  case atStart => exact ⟨0, Nat.zero_le _, rfl, HS1, hb1⟩
  case round =>
    obtain ⟨k, hk, rfl, HR, hb⟩ := hrel
    by_cases hlt : k < P.length
    · obtain ⟨b, o, ha, hbl, hc⟩ := HROW.out (by omega)
      rw [ha]
      have hcx := hc k hlt
      rw [← hb.cell (p := ⟨b, o + k, none⟩) hbl] at hcx
      have hpk := HR.out.2 k (by rw [part_length P k hk]; exact hlt)
      have hcg := hpk.1
      have hfg := hpk.2
      have hset := HR.out.set k (by rw [part_length P k hk]; exact hlt) (P[k]'hlt)
      rw [← part_next P k hlt] at hset
      obtain ⟨y, hy⟩ : ∃ y, y = P[k]'hlt := ⟨_, rfl⟩
      rw [← hy] at hcx hset
      have HSS : Hid (SRow (wr.setCell ⟨w.heap.size, k, none⟩ (.string ⟨y.toArray⟩)) w.heap.size (part P (k + 1))) := hset
      unfold S at hcx hcg
      clear hc hset hpk hy
      go_wp2_with fail
      go_roundw
      case rel => exact ⟨k + 1, by omega, by go_num, HSS, hb.setCell (p := ⟨w.heap.size, k, none⟩) (Nat.le_refl _) _⟩
      case measure => simp [intOf]; omega
    · have hkk : k = P.length := by omega
      have HF : Hid (SRow wr w.heap.size P) := by have := HR.out; rw [hkk, part_end] at this; exact this
      clear hkk
      go_wp2_with fail
      go_ret
      exact ⟨rfl, HF.out, hb⟩
set_option maxRecDepth 20000 in
set_option maxHeartbeats 1000000 in
theorem eqStringS_any (va vb : Value) (A B : List (List UInt8)) (w : World) (hra : Row w va A) (hrb : Row w vb B) :
    Calls Tryd.prog 15 #[va, vb] w fun e w' => e = .returned (.bool (A == B)) ∧ Below w.heap.size w w' := by
  obtain ⟨aa, ca, rfl, hca, hma, HA⟩ := row_value hra
  obtain ⟨ab, cb, rfl, hcb, hmb, HB⟩ := row_value hrb
  clear hra hrb
  by_cases hl : A.length = B.length
  · have e0 : ((A.length : Int) != (B.length : Int)) = false := by simp; omega
    have HL : Hid (A.length = B.length) := hl
    have hl1 : A.length ≤ B.length := by omega
    have hl2 : B.length ≤ A.length := by omega
    clear hl
    go_enter Tryd.func15, Tryd.ntmps15
    go_wp2_with fail
    go_loopw [5] (fun i wr => ∃ k : Nat, k ≤ A.length ∧ i = .int .i64 k ∧ Hid (A.take k = B.take k) ∧ Below w.heap.size w wr) (fun i _ => A.length - (intOf i).toNat)
    case atStart => exact ⟨0, Nat.zero_le _, rfl, rfl, Below.refl _ _⟩
    case round =>
      obtain ⟨k, hk, rfl, HK, hb⟩ := hrel
      by_cases hlt : k < A.length
      · have hltB : k < B.length := by omega
        obtain ⟨ba, oa, ha, hba, hcA⟩ := HA.out (by omega)
        obtain ⟨bb, ob, hb', hbb, hcB⟩ := HB.out (by omega)
        rw [ha, hb']
        have cA := hcA k hlt
        have cB := hcB k hltB
        rw [← hb.cell (p := ⟨ba, oa + k, none⟩) hba] at cA
        rw [← hb.cell (p := ⟨bb, ob + k, none⟩) hbb] at cB
        have HT : Hid (A.take (k + 1) = A.take k ++ [A[k]'hlt] ∧ B.take (k + 1) = B.take k ++ [B[k]'hltB]) := ⟨List.take_succ_eq_append_getElem hlt, List.take_succ_eq_append_getElem hltB⟩
        have HNE : Hid (A[k]'hlt ≠ B[k]'hltB → A ≠ B) := fun h e => by subst e; exact h rfl
        obtain ⟨x, hx⟩ : ∃ x, x = A[k]'hlt := ⟨_, rfl⟩
        obtain ⟨y, hy⟩ : ∃ y, y = B[k]'hltB := ⟨_, rfl⟩
        rw [← hx] at cA HT HNE
        rw [← hy] at cB HT HNE
        unfold S at cA cB
        clear hcA hcB hx hy
        by_cases hxy : x = y
        · subst hxy
          go_wp2_with fail
          go_quiet (fail)
          go_wp2_with fail
          go_roundw
          case rel => exact ⟨k + 1, by omega, by go_num, by show _ = _; rw [HT.out.1, HT.out.2, HK.out], below_drewN hb _⟩
          case measure => simp [intOf]; omega
        · have e1 : (x == y) = false := by simpa using hxy
          have HN : Hid (A ≠ B) := HNE.out hxy
          clear hxy HT HNE
          go_wp2_with fail
          go_quiet (fail)
          go_wp2_with fail
          go_ret
          exact ⟨ret_bool (by rw [beq_eq_false_iff_ne.2 HN.out]), below_drewN hb _⟩
      · have HE : Hid (A = B) := by
          have := HK.out
          rw [List.take_of_length_le (by omega), List.take_of_length_le (by omega)] at this; exact this
        go_wp2_with fail
        go_ret
        exact ⟨ret_bool (by rw [HE.out]; simp), hb⟩
  · have e0 : ((A.length : Int) != (B.length : Int)) = true := by simp; omega
    have HN : Hid (A ≠ B) := fun e => hl (by rw [e])
    clear hl
    go_enter Tryd.func15, Tryd.ntmps15
    go_wp2_with fail
    go_ret
    exact ⟨ret_bool (by rw [beq_eq_false_iff_ne.2 HN.out]), Below.refl _ _⟩
end Go.Proofs.YtoopfmebpjojiaaDoor
