import Derived.Test.YtlmgipmolaeclaaDoorInts
namespace Go.Proofs.YtlmgipmolaeclaaDoor
open Go.RowKit

/-- Whether a number stands among others. -/
def hasB (ps : List Nat) (n : Int) : Bool := ps.any (fun p => decide ((p : Int) = n))
theorem hasB_at {ps : List Nat} {n : Int} (k : Nat) (hk : k < ps.length) (h : ((ps[k] : Nat) : Int) = n) : hasB ps n = true := by
  unfold hasB; rw [List.any_eq_true]; exact ⟨_, List.getElem_mem hk, by simpa using h⟩
theorem hasB_none {ps : List Nat} {n : Int} (h : ∀ j, (hj : j < ps.length) → ((ps[j] : Nat) : Int) ≠ n) : hasB ps n = false := by
  unfold hasB; rw [List.any_eq_false]; intro p hp
  obtain ⟨j, hj, rfl⟩ := List.getElem_of_mem hp
  simpa using h j hj

set_option maxRecDepth 20000 in
set_option maxHeartbeats 1000000 in
theorem l1Has_any (v : Value) (ps : List Nat) (n : Int) (w : World) (hr : IRow w v ps) :
    Calls Tryd.prog 36 #[v, .int .i64 n] w fun e w' => e = .returned (.bool (hasB ps n)) ∧ w' = w := by
  obtain ⟨a, cap, rfl, hcap, hmax, HROW⟩ := irow_value hr
  clear hr
  go_enter Tryd.func36, Tryd.ntmps36
  go_wp2_with fail
  go_loop [9] (fun i => ∃ (k : Nat), k ≤ ps.length ∧ i = .int .i64 k ∧ Hid (∀ j, (hj : j < ps.length) → j < k → ((ps[j] : Nat) : Int) ≠ n)) (fun i => ps.length - (intOf i).toNat)
  case atStart => exact ⟨0, Nat.zero_le _, rfl, fun j _ h => absurd h (Nat.not_lt_zero _)⟩
  case round =>
    obtain ⟨k, hk, rfl, HX⟩ := hrel
    by_cases hlt : k < ps.length
    · obtain ⟨b, o, ha, hbl, hc⟩ := HROW.out (by omega)
      rw [ha]
      have hcx := hc k hlt
      clear hc
      by_cases heq : ((ps[k]'hlt : Nat) : Int) = n
      · have HR : Hid (hasB ps n = true) := hasB_at k hlt heq
        rw [heq] at hcx
        clear heq
        go_wp2_with fail
        go_ret
        exact ⟨ret_bool HR.out.symm, rfl⟩
      · have HR : Hid (∀ j, (hj : j < ps.length) → j < k + 1 → ((ps[j] : Nat) : Int) ≠ n) := fun j hj h => by
          rcases Nat.lt_or_ge j k with h' | h'
          · exact HX.out j hj h'
          · obtain rfl : j = k := by omega
            exact heq
        obtain ⟨y, hy⟩ : ∃ y : Int, y = ((ps[k]'hlt : Nat) : Int) := ⟨_, rfl⟩
        rw [← hy] at hcx heq
        clear hy
        go_wp2_with fail
        go_round
        case rel => exact ⟨k + 1, by omega, by go_num, HR.out⟩
        case measure => simp [intOf]; omega
    · have HR : Hid (hasB ps n = false) := hasB_none (fun j hj => HX.out j hj (by omega))
      go_wp2_with fail
      go_ret
      exact ⟨ret_bool HR.out.symm, rfl⟩

/-- Numbers that stand in a new block. -/
theorem irow_lit (w : World) (ps : List Nat) (t : TypeId) (h : ps.length ≤ maxLen) : IRow (w.alloc (.cells (ps.map (fun p : Nat => Value.int .i64 (p : Int))).toArray t)) (.slice (some ⟨w.heap.size, 0, none⟩) ps.length ps.length) ps :=
  ⟨_, _, rfl, Nat.le_refl _, h, .inr ⟨w.heap.size, 0, rfl, by simp, fun j hj => by
    rw [Nat.zero_add]
    simp [hj]⟩⟩
/-- The types that a record may have. -/
def typB (n : Int) : Bool := hasB [1, 2, 5, 6, 15, 16] n
/-- The codes that a message may have. -/
def codeB (n : Int) : Bool := hasB [0, 1, 3, 5] n

set_option maxRecDepth 20000 in
set_option maxHeartbeats 1000000 in
theorem l3Type_any (n : Int) (w : World) :
    Calls Tryd.prog 22 #[.int .i64 n] w fun e w' => e = .returned (.bool (typB n)) ∧ Below w.heap.size w w' := by
  have HL := irow_lit w [1, 2, 5, 6, 15, 16]
  go_enter Tryd.func22, Tryd.ntmps22
  go_wp2_with fail
  refine (l1Has_any _ [1, 2, 5, 6, 15, 16] n _ (HL _ (by decide))).mono ?_
  rintro e w1 ⟨rfl, rfl⟩
  go_wp2_with fail
  go_ret
  exact ⟨rfl, (Below.refl w.heap.size w).alloc (Nat.le_refl _) _⟩
end Go.Proofs.YtlmgipmolaeclaaDoor
