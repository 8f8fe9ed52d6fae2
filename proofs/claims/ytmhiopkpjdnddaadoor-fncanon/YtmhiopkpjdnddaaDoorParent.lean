import Derived.Test.YtmhiopkpjdnddaaDoorPlain
namespace Go.Proofs.YtmhiopkpjdnddaaDoor
open Go.RowKit

/-- What is behind the first dot. -/
def parentL : List UInt8 → List UInt8
  | [] => []
  | c :: l => if c = 46 then l else parentL l
theorem parent_join : ∀ l : List UInt8, parentL l = joinD (cut 46 l).tail
  | [] => by simp [parentL, cut, joinD]
  | c :: l => by
    by_cases h : c = 46
    · simp [parentL, cut, h, joinD_cut]
    · have ih := parent_join l
      cases e : cut 46 l with
      | nil => exact absurd e (cut_ne 46 l)
      | cons p r => rw [e] at ih; simp [parentL, cut, h, ih, e]

theorem parent_at {l : List UInt8} {k : Nat} (h : parentL l = parentL (l.drop k)) (hk : k < l.length) (hc : l[k] = 46) : parentL l = l.drop (k + 1) := by
  rw [h, List.drop_eq_getElem_cons hk, parentL, if_pos hc]
theorem parent_next {l : List UInt8} {k : Nat} (h : parentL l = parentL (l.drop k)) (hk : k < l.length) (hc : ¬ l[k] = 46) : parentL l = parentL (l.drop (k + 1)) := by
  rw [h, List.drop_eq_getElem_cons hk, parentL, if_neg hc]
theorem parent_end {l : List UInt8} {k : Nat} (h : parentL l = parentL (l.drop k)) (hk : ¬ k < l.length) : parentL l = [] := by
  rw [h, List.drop_of_length_le (by omega)]; rfl



set_option maxRecDepth 20000 in
set_option maxHeartbeats 1000000 in
theorem l1Parent_any (s : ByteArray) (w : World) (hs : s.size ≤ 4294967280) :
    Calls Tryd.prog 39 #[.string s] w fun e w' => e = .returned (.string ⟨(parentL s.data.toList).toArray⟩) ∧ w' = w := by
  go_enter Tryd.func39, Tryd.ntmps39
  go_wp2_with fail
  go_loop [3] (fun i => ∃ k : Nat, k ≤ s.size ∧ i = .int .i64 k ∧ Hid (parentL s.data.toList = parentL (s.data.toList.drop k))) (fun i => s.size - (intOf i).toNat)
  case atStart => exact ⟨0, Nat.zero_le _, rfl, rfl⟩
  case round =>
    obtain ⟨k, hk, rfl, HA⟩ := hrel
    by_cases hlt : k < s.size
    · by_cases hc : s[k] = 46
      · have e1 : ((s[k].toNat : Int) == 46) = true := by rw [hc]; rfl
        have HC : Hid (s[k] = 46) := hc
        clear hc
        go_wp2_with fail
        go_ret
        refine ⟨?_, rfl⟩
        have h1 := extract_S s (k + 1) s.size
        have h2 : s.data.toList.take s.size = s.data.toList := List.take_of_length_le (by simp)
        rw [h2, ← parent_at HA.out (by simpa using hlt) HC.out] at h1
        exact congrArg Ending.returned h1
      · have e1 : ((s[k].toNat : Int) == 46) = false := by
          rw [beq_eq_false_iff_ne]; intro h; exact hc (UInt8.toNat_inj.1 (by show s[k].toNat = 46; omega))
        have HR : Hid (parentL s.data.toList = parentL (s.data.toList.drop (k + 1))) := parent_next HA.out (by simpa using hlt) hc
        clear hc
        go_wp2_with fail
        go_round
        case rel => exact ⟨k + 1, by omega, by go_num, HR⟩
        case measure => simp [intOf]; omega
    · go_wp2_with fail
      go_ret
      exact ⟨ret_S (parent_end HA.out (by simpa using hlt)).symm, rfl⟩

/-- What ParentOf tells. -/
def parentT (l : List UInt8) : List UInt8 := if nameB l = true ∧ l ≠ [] then parentL l else []
def parentB (l : List UInt8) : Bool := nameB l && !l.isEmpty

set_option maxRecDepth 20000 in
set_option maxHeartbeats 1000000 in
theorem sParentOf_any (s : ByteArray) (w : World) (hs : s.size ≤ 4294967280) :
    Calls Tryd.prog 11 #[.string s] w fun e w' => e = .returned (.tuple #[.string ⟨(parentT s.data.toList).toArray⟩, .bool (parentB s.data.toList)]) ∧ Below w.heap.size w w' := by
  cases hN : nameB s.data.toList with
  | false =>
    have HN : Hid (nameB s.data.toList = false) := hN
    have HP : Hid (parentT s.data.toList = [] ∧ parentB s.data.toList = false) := by unfold parentT parentB; rw [hN]; exact ⟨if_neg (by simp), rfl⟩
    clear hN
    go_enter Tryd.func11, Tryd.ntmps11
    go_wp2_with fail
    refine (sGoodName_any s w hs).mono ?_
    rintro e w1 ⟨rfl, hb⟩
    rw [HN.out]
    go_wp2_with fail
    go_ret2
    exact ⟨ret_two (by rw [HP.out.1]; rfl) (val_bool HP.out.2.symm), hb⟩
  | true =>
    have HN : Hid (nameB s.data.toList = true) := hN
    by_cases h0 : s.data.toList = []
    · have HP : Hid (parentT s.data.toList = [] ∧ parentB s.data.toList = false) := by unfold parentT parentB; rw [h0]; exact ⟨if_neg (by simp), by simp⟩
      have e0 : (s.toList == []) = true := by rw [ByteArray.toList_eq]; simpa using h0
      clear hN h0
      go_enter Tryd.func11, Tryd.ntmps11
      go_wp2_with fail
      refine (sGoodName_any s w hs).mono ?_
      rintro e w1 ⟨rfl, hb⟩
      rw [HN.out]
      go_wp2_with fail
      go_ret2
      exact ⟨ret_two (by rw [HP.out.1]; rfl) (val_bool HP.out.2.symm), hb⟩
    · have HP : Hid (parentT s.data.toList = parentL s.data.toList ∧ parentB s.data.toList = true) := by unfold parentT parentB; rw [hN]; exact ⟨if_pos ⟨rfl, h0⟩, by simpa using h0⟩
      have e0 : (s.toList == []) = false := by rw [ByteArray.toList_eq]; simpa using h0
      clear hN h0
      go_enter Tryd.func11, Tryd.ntmps11
      go_wp2_with fail
      refine (sGoodName_any s w hs).mono ?_
      rintro e w1 ⟨rfl, hb⟩
      rw [HN.out]
      go_wp2_with fail
      refine (l1Parent_any s w1 hs).mono ?_
      rintro e w2 ⟨rfl, rfl⟩
      go_wp2_with fail
      go_ret2
      exact ⟨ret_two (by rw [HP.out.1]; rfl) (val_bool HP.out.2.symm), hb⟩

theorem rest_row {w1 : World} {g cap : Nat} {p : List UInt8} {r : List (List UInt8)} (hcap : r.length + 1 ≤ cap) (hmax : cap ≤ maxLen) (hgl : g < w1.heap.size) (hc : Hid (∀ j, j < (p :: r).length → w1.cell? ⟨g, j, none⟩ = ((p :: r).map S)[j]?)) :
    Hid ((cap = 1 → Row w1 (.slice (some ⟨g, 0, none⟩) r.length 0) r) ∧ Row w1 (.slice (some ⟨g, 1, none⟩) r.length (cap - 1)) r) := by
  refine ⟨fun h => ?_, ?_⟩
  · obtain rfl : r = [] := List.length_eq_zero_iff.1 (by omega)
    exact ⟨_, 0, rfl, Nat.le_refl _, by unfold maxLen; omega, .inl rfl⟩
  · refine ⟨_, cap - 1, rfl, by omega, by omega, .inr ⟨g, 1, rfl, hgl, fun j hj => ?_⟩⟩
    rw [hc.out (1 + j) (by simp; omega), Nat.add_comm 1 j, List.map_cons, List.getElem?_cons_succ, List.getElem?_map, List.getElem?_eq_getElem hj]
    rfl

set_option maxRecDepth 20000 in
set_option maxHeartbeats 1000000 in
theorem iParentOf_any (s : ByteArray) (w : World) (hE : Env w) :
    Calls Tryd.prog 10 #[.string s] w fun e w' => e = .returned (.tuple #[.string ⟨(parentT s.data.toList).toArray⟩, .bool (parentB s.data.toList)]) ∧ Below w.heap.size w w' := by
  cases hN : nameB s.data.toList with
  | false =>
    have HN : Hid (nameB s.data.toList = false) := hN
    have HP : Hid (parentT s.data.toList = [] ∧ parentB s.data.toList = false) := by unfold parentT parentB; rw [hN]; exact ⟨if_neg (by simp), rfl⟩
    clear hN
    go_enter Tryd.func10, Tryd.ntmps10
    go_wp2_with fail
    refine (splitName_any s w hE).mono ?_
    rintro e w1 ⟨v, rfl, _, hv, hb⟩
    rw [hv HN.out, HN.out]
    clear hv
    go_wp2_with fail
    go_ret2
    exact ⟨ret_two (by rw [HP.out.1]; rfl) (val_bool HP.out.2.symm), hb⟩
  | true =>
    have HN : Hid (nameB s.data.toList = true) := hN
    by_cases h0 : s.data.toList = []
    · have HP : Hid (parentT s.data.toList = [] ∧ parentB s.data.toList = false) := by unfold parentT parentB; rw [h0]; exact ⟨if_neg (by simp), by simp⟩
      have H0 : Hid (s.data.toList = []) := h0
      clear hN h0
      go_enter Tryd.func10, Tryd.ntmps10
      go_wp2_with fail
      refine (splitName_any s w hE).mono ?_
      rintro e w1 ⟨v, rfl, hown, _, hb⟩
      rw [HN.out]
      have hown := hown HN.out
      rw [show labelsOf s.data.toList = [] by unfold labelsOf; rw [if_pos H0.out]] at hown
      obtain ⟨a, cap, hv, _⟩ := row_own hown
      rw [hv]
      clear hown hv
      go_wp2_with fail
      go_ret2
      exact ⟨ret_two (by rw [HP.out.1]; rfl) (val_bool HP.out.2.symm), hb⟩
    · have HP : Hid (parentT s.data.toList = joinD (cut 46 s.data.toList).tail ∧ parentB s.data.toList = true) := by unfold parentT parentB; rw [hN, ← parent_join]; exact ⟨if_pos ⟨rfl, h0⟩, by simpa using h0⟩
      have H0 : Hid (¬ s.data.toList = []) := h0
      have hsz : s.data.toList.length ≤ 60 := by
        unfold nameB at hN; simp at hN; simpa using hN.2.1
      have HSZ : Hid (s.data.toList.length ≤ 60) := hsz
      clear hN h0 hsz
      go_enter Tryd.func10, Tryd.ntmps10
      go_wp2_with fail
      refine (splitName_any s w hE).mono ?_
      rintro e w1 ⟨v, rfl, hown, _, hb⟩
      rw [HN.out]
      have hown := hown HN.out
      rw [show labelsOf s.data.toList = cut 46 s.data.toList by unfold labelsOf; rw [if_neg H0.out]] at hown
      obtain ⟨p, r, hpr⟩ : ∃ p r, cut 46 s.data.toList = p :: r := by
        cases e : cut 46 s.data.toList with
        | nil => exact absurd e (cut_ne _ _)
        | cons p r => exact ⟨p, r, rfl⟩
      rw [hpr] at HP hown
      have HPR : Hid (cut 46 s.data.toList = p :: r) := hpr
      clear hpr
      obtain ⟨g, cap, hv, hg, hgl, hcap, hmax, hcell⟩ := own_shape hown (by simp)
      rw [hv]
      have HCE : Hid (∀ j, j < (p :: r).length → w1.cell? ⟨g, j, none⟩ = ((p :: r).map S)[j]?) := hcell
      simp only [List.length_cons] at hcap ⊢
      clear hown hv hcell
      have HR := rest_row hcap hmax hgl HCE
      have HJL : Hid ((joinD r).length ≤ 1048576) := by
        have h1 := joinD_cut s.data.toList
        rw [HPR.out] at h1
        have h2 : (joinD r).length ≤ (joinD (p :: r)).length := by
          by_cases hr : r = []
          · subst hr; simp [joinD]
          · rw [joinD, if_neg hr]; simp; omega
        rw [h1] at h2
        have h3 := HSZ.out
        exact (show (joinD r).length ≤ 1048576 by omega)
      by_cases hc1 : cap = 1
      · have hrow := HR.out.1 hc1
        subst hc1
        obtain rfl : r = [] := List.length_eq_zero_iff.1 (by omega)
        have HROW : Hid (Row w1 (.slice (some ⟨g, 0, none⟩) 0 0) []) := hrow
        clear hrow HR hcap
        simp only [List.length_nil]
        go_wp2_with fail
        have hrow := HROW.out
        refine (joinLabels_any _ [] _ hrow HJL).mono ?_
        rintro e w2 ⟨rfl, hb2⟩
        go_wp2_with fail
        go_ret2
        exact ⟨ret_two (by rw [HP.out.1]; rfl) (val_bool HP.out.2.symm), hb.trans (hb2.mono hb.size)⟩
      · have hrow := HR.out.2
        go_wp2_with fail
        refine (joinLabels_any _ r _ hrow HJL).mono ?_
        rintro e w2 ⟨rfl, hb2⟩
        go_wp2_with fail
        go_ret2
        exact ⟨ret_two (by rw [HP.out.1]; rfl) (val_bool HP.out.2.symm), hb.trans (hb2.mono hb.size)⟩
end Go.Proofs.YtmhiopkpjdnddaaDoor
