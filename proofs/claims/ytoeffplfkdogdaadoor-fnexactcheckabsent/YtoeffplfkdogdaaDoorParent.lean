import Derived.Test.YtoeffplfkdogdaaDoorPlain
namespace Go.Proofs.YtoeffplfkdogdaaDoor
open Go.RowKit

/-- What is behind the first dot. -/
def parentL : List UInt8 → List UInt8
  | [] => []
  | c :: l => if c = 46 then l else parentL l
theorem parent_join : ∀ l : List UInt8, parentL l = joinD (cut 46 l).tail
  | [] => by simp [parentL, cut, joinD]
  | c :: l => by
    by_cases h : c = 46
    · simp [parentL, cut, h, joinD_cut]
    · have ih := parent_join l
      cases e : cut 46 l with
      | nil => exact absurd e (cut_ne 46 l)
      | cons p r => rw [e] at ih; simp [parentL, cut, h, ih, e]

theorem parent_at {l : List UInt8} {k : Nat} (h : parentL l = parentL (l.drop k)) (hk : k < l.length) (hc : l[k] = 46) : parentL l = l.drop (k + 1) := by
  rw [h, List.drop_eq_getElem_cons hk, parentL, if_pos hc]
theorem parent_next {l : List UInt8} {k : Nat} (h : parentL l = parentL (l.drop k)) (hk : k < l.length) (hc : ¬ l[k] = 46) : parentL l = parentL (l.drop (k + 1)) := by
  rw [h, List.drop_eq_getElem_cons hk, parentL, if_neg hc]
theorem parent_end {l : List UInt8} {k : Nat} (h : parentL l = parentL (l.drop k)) (hk : ¬ k < l.length) : parentL l = [] := by
  rw [h, List.drop_of_length_le (by omega)]; rfl



set_option maxRecDepth 20000 in
set_option maxHeartbeats 1000000 in
theorem l1Parent_any (s : ByteArray) (w : World) (hs : s.size ≤ 4294967280) :
    Calls Tryd.prog 71 #[.string s] w fun e w' => e = .returned (.string ⟨(parentL s.data.toList).toArray⟩) ∧ w' = w := by
  go_enter Tryd.func71, Tryd.ntmps71
  go_wp2_with fail
  go_loop [3] (fun i => ∃ k : Nat, k ≤ s.size ∧ i = .int .i64 k ∧ Hid (parentL s.data.toList = parentL (s.data.toList.drop k))) (fun i => s.size - (intOf i).toNat)
  case atStart => exact ⟨0, Nat.zero_le _, rfl, rfl⟩
  case round =>
    obtain ⟨k, hk, rfl, HA⟩ := hrel
    by_cases hlt : k < s.size
    · by_cases hc : s[k] = 46
      · have e1 : ((s[k].toNat : Int) == 46) = true := by rw [hc]; rfl
        have HC : Hid (s[k] = 46) := hc
        clear hc
        go_wp2_with fail
        go_ret
        refine ⟨?_, rfl⟩
        have h1 := extract_S s (k + 1) s.size
        have h2 : s.data.toList.take s.size = s.data.toList := List.take_of_length_le (by simp)
        rw [h2, ← parent_at HA.out (by simpa using hlt) HC.out] at h1
        exact congrArg Ending.returned h1
      · have e1 : ((s[k].toNat : Int) == 46) = false := by
          rw [beq_eq_false_iff_ne]; intro h; exact hc (UInt8.toNat_inj.1 (by show s[k].toNat = 46; omega))
        have HR : Hid (parentL s.data.toList = parentL (s.data.toList.drop (k + 1))) := parent_next HA.out (by simpa using hlt) hc
        clear hc
        go_wp2_with fail
        go_round
        case rel => exact ⟨k + 1, by omega, by go_num, HR⟩
        case measure => simp [intOf]; omega
    · go_wp2_with fail
      go_ret
      exact ⟨ret_S (parent_end HA.out (by simpa using hlt)).symm, rfl⟩

/-- What ParentOf tells. -/
def parentT (l : List UInt8) : List UInt8 := if nameB l = true ∧ l ≠ [] then parentL l else []
def parentB (l : List UInt8) : Bool := nameB l && !l.isEmpty

theorem rest_row {w1 : World} {g cap : Nat} {p : List UInt8} {r : List (List UInt8)} (hcap : r.length + 1 ≤ cap) (hmax : cap ≤ maxLen) (hgl : g < w1.heap.size) (hc : Hid (∀ j, j < (p :: r).length → w1.cell? ⟨g, j, none⟩ = ((p :: r).map S)[j]?)) :
    Hid ((cap = 1 → Row w1 (.slice (some ⟨g, 0, none⟩) r.length 0) r) ∧ Row w1 (.slice (some ⟨g, 1, none⟩) r.length (cap - 1)) r) := by
  refine ⟨fun h => ?_, ?_⟩
  · obtain rfl : r = [] := List.length_eq_zero_iff.1 (by omega)
    exact ⟨_, 0, rfl, Nat.le_refl _, by unfold maxLen; omega, .inl rfl⟩
  · refine ⟨_, cap - 1, rfl, by omega, by omega, .inr ⟨g, 1, rfl, hgl, fun j hj => ?_⟩⟩
    rw [hc.out (1 + j) (by simp; omega), Nat.add_comm 1 j, List.map_cons, List.getElem?_cons_succ, List.getElem?_map, List.getElem?_eq_getElem hj]
    rfl

end Go.Proofs.YtoeffplfkdogdaaDoor
