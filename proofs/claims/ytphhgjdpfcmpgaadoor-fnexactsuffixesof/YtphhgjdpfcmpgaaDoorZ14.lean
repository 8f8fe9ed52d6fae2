import Derived.Test.YtphhgjdpfcmpgaaDoorZ05
import Derived.Test.YtphhgjdpfcmpgaaDoorZ08
namespace Go.Proofs.YtphhgjdpfcmpgaaDoor
open Go.RowKit

theorem growni_refl (w : World) (row : Option Nat) : w.grownBy w row := ⟨rfl, rfl, rfl, Nat.le_refl _, fun _ _ _ => rfl⟩
theorem growni_set {w a : World} {g k : Nat} {u : Value} (h : w.grownBy a (some g)) : w.grownBy (a.setCell ⟨g, k, none⟩ u) (some g) :=
  ⟨h.os, h.tape, h.output, by simpa using h.size, fun i hi hne => (Below.heap_setCell a ⟨g, k, none⟩ u i (fun e => hne (by rw [e]))).trans (h.block i hi hne)⟩

set_option maxRecDepth 20000 in
set_option maxHeartbeats 1000000 in
theorem eqIntS_any (va vb : Value) (A B : List Nat) (w : World) (hra : IRow w va A) (hrb : IRow w vb B) :
    Calls Tryd.prog 27 #[va, vb] w fun e w' => e = .returned (.bool (A == B)) ∧ Below w.heap.size w w' := by
  obtain ⟨aa, ca, rfl, hca, hma, HA⟩ := irow_value hra
  obtain ⟨ab, cb, rfl, hcb, hmb, HB⟩ := irow_value hrb
  clear hra hrb
  by_cases hl : A.length = B.length
  · have e0 : ((A.length : Int) != (B.length : Int)) = false := by simp; omega
    have HL : Hid (A.length = B.length) := hl
    have hl1 : A.length ≤ B.length := by omega
    have hl2 : B.length ≤ A.length := by omega
    clear hl
    go_enter Tryd.func27, Tryd.ntmps27
    go_wp2_with fail
    go_loopw [5] (fun i wr => ∃ k : Nat, k ≤ A.length ∧ i = .int .i64 k ∧ Hid (A.take k = B.take k) ∧ Below w.heap.size w wr) (fun i _ => A.length - (intOf i).toNat)
    case atStart => exact ⟨0, Nat.zero_le _, rfl, rfl, Below.refl _ _⟩
    case round =>
      obtain ⟨k, hk, rfl, HK, hb⟩ := hrel
      by_cases hlt : k < A.length
      · have hltB : k < B.length := by omega
        obtain ⟨ba, oa, ha, hba, hcA⟩ := HA.out (by omega)
        obtain ⟨bb, ob, hb', hbb, hcB⟩ := HB.out (by omega)
        rw [ha, hb']
        have cA := hcA k hlt
        have cB := hcB k hltB
        rw [← hb.cell (p := ⟨ba, oa + k, none⟩) hba] at cA
        rw [← hb.cell (p := ⟨bb, ob + k, none⟩) hbb] at cB
        have HT : Hid (A.take (k + 1) = A.take k ++ [A[k]'hlt] ∧ B.take (k + 1) = B.take k ++ [B[k]'hltB]) := ⟨List.take_succ_eq_append_getElem hlt, List.take_succ_eq_append_getElem hltB⟩
        have HNE : Hid (A[k]'hlt ≠ B[k]'hltB → A ≠ B) := fun h e => by subst e; exact h rfl
        obtain ⟨x, hx⟩ : ∃ x, x = A[k]'hlt := ⟨_, rfl⟩
        obtain ⟨y, hy⟩ : ∃ y, y = B[k]'hltB := ⟨_, rfl⟩
        rw [← hx] at cA HT HNE
        rw [← hy] at cB HT HNE
        clear hcA hcB hx hy
        by_cases hxy : x = y
        · subst hxy
          have e1 : ((x : Int) != (x : Int)) = false := by simp
          go_wp2_with fail
          go_quiet (fail)
          go_wp2_with fail
          go_roundw
          case rel => exact ⟨k + 1, by omega, by go_num, by show _ = _; rw [HT.out.1, HT.out.2, HK.out], below_drewN hb _⟩
          case measure => simp [intOf]; omega
        · have e1 : ((x : Int) != (y : Int)) = true := by simp; omega
          have HN : Hid (A ≠ B) := HNE.out hxy
          clear hxy HT HNE
          go_wp2_with fail
          go_quiet (fail)
          go_wp2_with fail
          go_ret
          exact ⟨ret_bool (by rw [beq_eq_false_iff_ne.2 HN.out]), below_drewN hb _⟩
      · have HE : Hid (A = B) := by
          have := HK.out
          rw [List.take_of_length_le (by omega), List.take_of_length_le (by omega)] at this; exact this
        go_wp2_with fail
        go_ret
        exact ⟨ret_bool (by rw [HE.out]; simp), hb⟩
  · have e0 : ((A.length : Int) != (B.length : Int)) = true := by simp; omega
    have HN : Hid (A ≠ B) := fun e => hl (by rw [e])
    clear hl
    go_enter Tryd.func27, Tryd.ntmps27
    go_wp2_with fail
    go_ret
    exact ⟨ret_bool (by rw [beq_eq_false_iff_ne.2 HN.out]), Below.refl _ _⟩

def marksI (n : Nat) : List Nat := (List.range n).map (· + 1)
theorem marksI_length (n : Nat) : (marksI n).length = n := by simp [marksI]
theorem marksI_get (n k : Nat) (h : k < n) : (marksI n)[k]'(by rw [marksI_length]; exact h) = k + 1 := by simp [marksI]
/-- Behind k rounds. -/
def halfI (L : List Nat) (k : Nat) : List Nat := marksI k ++ L.drop k
theorem halfI_length (L : List Nat) (k : Nat) (h : k ≤ L.length) : (halfI L k).length = L.length := by simp [halfI, marksI]; omega
theorem halfI_zero (L : List Nat) : halfI L 0 = L := by simp [halfI, marksI]
theorem halfI_end (L : List Nat) : halfI L L.length = marksI L.length := by simp [halfI]
theorem halfI_next (L : List Nat) (k : Nat) (h : k < L.length) : halfI L (k + 1) = (halfI L k).set k (k + 1) := by
  unfold halfI
  have hm : (marksI k).length = k := marksI_length k
  rw [List.set_append_right _ _ (by omega), hm, Nat.sub_self, List.drop_eq_getElem_cons h]
  simp only [marksI, List.range_succ, List.map_append, List.map_cons, List.map_nil, List.set_cons_zero, List.append_assoc, List.singleton_append]

set_option maxRecDepth 20000 in
set_option maxHeartbeats 1000000 in
theorem markIntS_any (v : Value) (L : List Nat) (base : Nat) (w : World) (h : OwnI w base v L) (hL : L.length ≤ 1048576) :
    Calls Tryd.prog 28 #[v, .int .i64 1] w fun e w' => e = .returned (.int .i64 ((L.length : Int) + 1)) ∧ OwnI w' base v (marksI L.length) ∧ w.grownBy w' v.ownBlock := by
  rcases h with ⟨rfl, rfl⟩ | ⟨g, cap, rfl, hcap, hmax, hbase, hs⟩
  · go_enter Tryd.func28, Tryd.ntmps28
    go_wp2_with fail
    go_rounds 1
    go_ret
    exact ⟨rfl, .inl ⟨rfl, rfl⟩, growni_refl _ _⟩
  · have HS : Hid (ISRow w g L) := hs
    unfold maxLen at hmax
    clear hs
    go_enter Tryd.func28, Tryd.ntmps28
    go_wp2_with fail
    go_loopw [1, 5] (fun q i wr => ∃ k : Nat, k ≤ L.length ∧ i = .int .i64 k ∧ q = .int .i64 ((k : Int) + 1) ∧ Hid (ISRow wr g (halfI L k)) ∧ w.grownBy wr (some g)) (fun _ i _ => L.length - (intOf i).toNat)
    case atStart => exact ⟨0, Nat.zero_le _, rfl, rfl, by rw [halfI_zero]; exact HS, growni_refl _ _⟩
    case round =>
      obtain ⟨k, hk, rfl, rfl, HR, hgr⟩ := hrel
      by_cases hlt : k < L.length
      · have hs1 := HR.out
        have hpk := hs1.2 k (by rw [halfI_length L k hk]; exact hlt)
        have hcg := hpk.1
        have hfg := hpk.2
        have hset := hs1.set k (by rw [halfI_length L k hk]; exact hlt) (k + 1)
        rw [← halfI_next L k hlt, show ((k + 1 : Nat) : Int) = (k : Int) + 1 by omega] at hset
        have HSS : Hid (ISRow (wr.setCell ⟨g, k, none⟩ (.int .i64 ((k : Int) + 1))) g (halfI L (k + 1))) := hset
        clear hset hpk hs1
        go_wp2_with fail
        go_roundw
        case rel => exact ⟨k + 1, by omega, by go_num, by go_num, HSS, growni_set hgr⟩
        case measure => simp [intOf]; omega
      · have hkk : k = L.length := by omega
        have HF : Hid (ISRow wr g (marksI L.length)) := by have := HR.out; rw [hkk, halfI_end] at this; exact this
        have HK : Hid (k = L.length) := hkk
        clear hkk
        go_wp2_with fail
        go_ret
        exact ⟨ret_int (by rw [HK.out]), .inr ⟨g, cap, by rw [marksI_length], by rw [marksI_length]; exact hcap, by unfold maxLen; omega, hbase, HF.out⟩, hgr⟩

set_option maxRecDepth 20000 in
set_option maxHeartbeats 1000000 in
theorem heldIntS_any (v : Value) (n : Nat) (w : World) (hr : IRow w v (marksI n)) (hL : n ≤ 1048576) :
    Calls Tryd.prog 29 #[v, .int .i64 1] w fun e w' => e = .returned (.int .i64 ((n : Int) + 1)) ∧ w' = w := by
  obtain ⟨a, cap, rfl, hcap, hmax, HROW⟩ := irow_value hr
  rw [marksI_length] at hcap ⊢
  clear hr
  go_enter Tryd.func29, Tryd.ntmps29
  go_wp2_with fail
  go_loop [1, 5] (fun q i => ∃ k : Nat, k ≤ n ∧ i = .int .i64 k ∧ q = .int .i64 ((k : Int) + 1)) (fun _ i => n - (intOf i).toNat)
  case atStart => exact ⟨0, Nat.zero_le _, rfl, rfl⟩
  case round =>
    obtain ⟨k, hk, rfl, rfl⟩ := hrel
    by_cases hlt : k < n
    · obtain ⟨b, o, ha, hbl, hc⟩ := HROW.out (by rw [marksI_length]; omega)
      rw [ha]
      have hcx := hc k (by rw [marksI_length]; exact hlt)
      rw [marksI_get n k hlt, show ((k + 1 : Nat) : Int) = (k : Int) + 1 by omega] at hcx
      have e1 : ((k : Int) + 1 != (k : Int) + 1) = false := by simp
      clear hc
      go_wp2_with fail
      go_round
      case rel => exact ⟨k + 1, by omega, by go_num, by go_num⟩
      case measure => simp [intOf]; omega
    · have HK : Hid (k = n) := (show k = n by omega)
      go_wp2_with fail
      go_ret
      exact ⟨ret_int (by rw [HK.out]), rfl⟩
end Go.Proofs.YtphhgjdpfcmpgaaDoor
