import Derived.Test.YtmhiopkpjdnddaaDoorParent
namespace Go.Proofs.YtmhiopkpjdnddaaDoor
open Go.RowKit

/-- What WildOf tells. -/
def wildT (l : List UInt8) : List UInt8 := if nameB l = true ∧ l ≠ [] then joinD ([42] :: (cut 46 l).tail) else []

theorem label_ne {p : List UInt8} (h : labelB p = true) : p ≠ [] := by
  intro e; subst e; revert h; decide
theorem joinD_ne {r : List (List UInt8)} (hr : r ≠ []) (h : ∀ p ∈ r, p ≠ []) : joinD r ≠ [] := by
  match r, hr with
  | p :: q, _ =>
    have hp := h p (by simp)
    unfold joinD
    split
    · exact hp
    · simp
theorem name_labels {l : List UInt8} (hN : nameB l = true) (h0 : l ≠ []) : ∀ p ∈ cut 46 l, p ≠ [] := by
  intro p hp
  unfold nameB labelsOf at hN
  rw [if_neg h0] at hN
  simp only [Bool.and_eq_true, List.all_eq_true] at hN
  exact label_ne (hN.1 p hp)
theorem wild_one {l : List UInt8} (hN : nameB l = true) (h0 : l ≠ []) (hp : parentL l = []) : wildT l = [42] := by
  unfold wildT; rw [if_pos ⟨hN, h0⟩]
  by_cases hr : (cut 46 l).tail = []
  · rw [hr]; simp [joinD]
  · rw [parent_join] at hp
    exact absurd hp (joinD_ne hr (fun p hp => name_labels hN h0 p (List.mem_of_mem_tail hp)))
theorem wild_more {l : List UInt8} (hN : nameB l = true) (h0 : l ≠ []) (hp : parentL l ≠ []) : wildT l = 42 :: 46 :: parentL l := by
  unfold wildT; rw [if_pos ⟨hN, h0⟩]
  have hr : (cut 46 l).tail ≠ [] := by
    intro e; rw [parent_join, e] at hp; exact hp rfl
  rw [joinD, if_neg hr, ← parent_join]; rfl

theorem val_str {x : ByteArray} {l : List UInt8} (h : x.data.toList = l) : Value.string x = .string ⟨l.toArray⟩ := by rw [data_eq h]

set_option maxRecDepth 20000 in
set_option maxHeartbeats 1000000 in
theorem l1Wild_any (s : ByteArray) (w : World) (hs : s.size ≤ 4294967280) (hN : Hid (nameB s.data.toList = true ∧ s.data.toList ≠ [])) :
    Calls Tryd.prog 42 #[.string s] w fun e w' => e = .returned (.string ⟨(wildT s.data.toList).toArray⟩) ∧ w' = w := by
  by_cases hp : parentL s.data.toList = []
  · have HW := wild_one hN.out.1 hN.out.2 hp
    have HWH : Hid (wildT s.data.toList = [42]) := HW
    have HP : Hid (parentL s.data.toList = []) := hp
    clear HW hp
    go_enter Tryd.func42, Tryd.ntmps42
    go_wp2_with fail
    refine (l1Parent_any s w hs).mono ?_
    rintro e w1 ⟨rfl, rfl⟩
    rw [HP.out]
    go_wp2_with fail
    go_ret
    exact ⟨ret_S HWH.out.symm, rfl⟩
  · have HW := wild_more hN.out.1 hN.out.2 hp
    have HWH : Hid (wildT s.data.toList = 42 :: 46 :: parentL s.data.toList) := HW
    have hpl : (parentL s.data.toList).length ≤ s.size := by
      rw [parent_join]
      have h1 := joinD_cut s.data.toList
      cases e : cut 46 s.data.toList with
      | nil => simp [joinD]
      | cons p r =>
        rw [e] at h1
        have h2 : (joinD r).length ≤ (joinD (p :: r)).length := by
          by_cases hr : r = []
          · subst hr; simp [joinD]
          · rw [joinD, if_neg hr]; simp; omega
        rw [h1] at h2
        simpa using h2
    obtain ⟨x, hx⟩ : ∃ x, x = parentL s.data.toList := ⟨_, rfl⟩
    rw [← hx] at hp hpl HWH
    have HX : Hid (x = parentL s.data.toList) := hx
    have e1 : (x == []) = false := by simpa using hp
    clear HW hp hx
    go_enter Tryd.func42, Tryd.ntmps42
    go_wp2_with fail
    refine (l1Parent_any s w hs).mono ?_
    rintro e w1 ⟨rfl, rfl⟩
    rw [← HX.out]
    go_wp2_with fail
    go_ret
    exact ⟨congrArg Ending.returned (val_str (by rw [HWH.out]; simp)), rfl⟩
set_option maxRecDepth 20000 in
set_option maxHeartbeats 1000000 in
theorem sWildOf_any (s : ByteArray) (w : World) (hs : s.size ≤ 4294967280) :
    Calls Tryd.prog 17 #[.string s] w fun e w' => e = .returned (.tuple #[.string ⟨(wildT s.data.toList).toArray⟩, .bool (parentB s.data.toList)]) ∧ Below w.heap.size w w' := by
  cases hN : nameB s.data.toList with
  | false =>
    have HN : Hid (nameB s.data.toList = false) := hN
    have HP : Hid (wildT s.data.toList = [] ∧ parentB s.data.toList = false) := by unfold wildT parentB; rw [hN]; exact ⟨if_neg (by simp), rfl⟩
    clear hN
    go_enter Tryd.func17, Tryd.ntmps17
    go_wp2_with fail
    refine (sGoodName_any s w hs).mono ?_
    rintro e w1 ⟨rfl, hb⟩
    rw [HN.out]
    go_wp2_with fail
    go_ret2
    exact ⟨ret_two (by rw [HP.out.1]; rfl) (val_bool HP.out.2.symm), hb⟩
  | true =>
    have HN : Hid (nameB s.data.toList = true) := hN
    by_cases h0 : s.data.toList = []
    · have HP : Hid (wildT s.data.toList = [] ∧ parentB s.data.toList = false) := by unfold wildT parentB; rw [h0]; exact ⟨if_neg (by simp), by simp⟩
      have e0 : (s.toList == []) = true := by rw [ByteArray.toList_eq]; simpa using h0
      clear hN h0
      go_enter Tryd.func17, Tryd.ntmps17
      go_wp2_with fail
      refine (sGoodName_any s w hs).mono ?_
      rintro e w1 ⟨rfl, hb⟩
      rw [HN.out]
      go_wp2_with fail
      go_ret2
      exact ⟨ret_two (by rw [HP.out.1]; rfl) (val_bool HP.out.2.symm), hb⟩
    · have HP : Hid (wildT s.data.toList = wildT s.data.toList ∧ parentB s.data.toList = true) := by unfold parentB; rw [hN]; exact ⟨rfl, by simpa using h0⟩
      have H00 : Hid (s.data.toList ≠ []) := h0
      have e0 : (s.toList == []) = false := by rw [ByteArray.toList_eq]; simpa using h0
      clear hN h0
      go_enter Tryd.func17, Tryd.ntmps17
      go_wp2_with fail
      refine (sGoodName_any s w hs).mono ?_
      rintro e w1 ⟨rfl, hb⟩
      rw [HN.out]
      go_wp2_with fail
      refine (l1Wild_any s w1 hs ⟨HN.out, H00.out⟩).mono ?_
      rintro e w2 ⟨rfl, rfl⟩
      go_wp2_with fail
      go_ret2
      exact ⟨ret_two rfl (val_bool HP.out.2.symm), hb⟩


theorem own_free {w : World} {base : Nat} {v : Value} {n : Nat} {xs : List Value} (h : w.ownsRow base 9 1 v n xs) {g m cap : Nat} (hv : v = .slice (some ⟨g, 0, none⟩) m cap) (j : Nat) : w.frozen? ⟨g, j, none⟩ = false := by
  subst hv
  obtain ⟨_, ⟨h1, _⟩ | ⟨g', cap', cur, e, _, hh, _⟩⟩ := h
  · cases h1
  · cases e
    simp [World.frozen?, hh]

theorem star_row {w1 : World} {g cap : Nat} {p : List UInt8} {r : List (List UInt8)} (hcap : r.length + 1 ≤ cap) (hmax : cap ≤ maxLen) (hgl : g < w1.heap.size) (hc0 : w1.cell? ⟨g, 0, none⟩ = some (.string ⟨p.toArray⟩))
    (hc : Hid (∀ j, j < (p :: r).length → w1.cell? ⟨g, j, none⟩ = ((p :: r).map S)[j]?)) :
    Hid (Row (w1.setCell ⟨g, 0, none⟩ (.string ⟨#[42]⟩)) (.slice (some ⟨g, 0, none⟩) (r.length + 1) cap) ([42] :: r)) := by
  refine ⟨some ⟨g, 0, none⟩, cap, rfl, hcap, hmax, .inr ⟨g, 0, rfl, by simpa using hgl, fun j hj => ?_⟩⟩
  rw [Nat.zero_add]
  match j, hj with
  | 0, _ => exact World.cell?_setCell_same _ _ _ hc0
  | j + 1, hj =>
    rw [World.cell?_setCell_other _ _ _ _ (show (⟨g, 0, none⟩ : Addr) ≠ ⟨g, j + 1, none⟩ by intro e; cases e), hc.out (j + 1) (by simpa using hj), List.map_cons, List.getElem?_cons_succ, List.getElem?_map, List.getElem?_eq_getElem (by simpa using hj)]
    rfl

set_option maxRecDepth 20000 in
set_option maxHeartbeats 1000000 in
theorem iWildOf_any (s : ByteArray) (w : World) (hE : Env w) :
    Calls Tryd.prog 16 #[.string s] w fun e w' => e = .returned (.tuple #[.string ⟨(wildT s.data.toList).toArray⟩, .bool (parentB s.data.toList)]) ∧ Below w.heap.size w w' := by
  cases hN : nameB s.data.toList with
  | false =>
    have HN : Hid (nameB s.data.toList = false) := hN
    have HP : Hid (wildT s.data.toList = [] ∧ parentB s.data.toList = false) := by unfold wildT parentB; rw [hN]; exact ⟨if_neg (by simp), rfl⟩
    clear hN
    go_enter Tryd.func16, Tryd.ntmps16
    go_wp2_with fail
    refine (splitName_any s w hE).mono ?_
    rintro e w1 ⟨v, rfl, _, hv, hb⟩
    rw [hv HN.out, HN.out]
    clear hv
    go_wp2_with fail
    go_ret2
    exact ⟨ret_two (by rw [HP.out.1]; rfl) (val_bool HP.out.2.symm), hb⟩
  | true =>
    have HN : Hid (nameB s.data.toList = true) := hN
    by_cases h0 : s.data.toList = []
    · have HP : Hid (wildT s.data.toList = [] ∧ parentB s.data.toList = false) := by unfold wildT parentB; rw [h0]; exact ⟨if_neg (by simp), by simp⟩
      have H0 : Hid (s.data.toList = []) := h0
      clear hN h0
      go_enter Tryd.func16, Tryd.ntmps16
      go_wp2_with fail
      refine (splitName_any s w hE).mono ?_
      rintro e w1 ⟨v, rfl, hown, _, hb⟩
      rw [HN.out]
      have hown := hown HN.out
      rw [show labelsOf s.data.toList = [] by unfold labelsOf; rw [if_pos H0.out]] at hown
      obtain ⟨a, cap, hv, _⟩ := row_own hown
      rw [hv]
      clear hown hv
      go_wp2_with fail
      go_ret2
      exact ⟨ret_two (by rw [HP.out.1]; rfl) (val_bool HP.out.2.symm), hb⟩
    · have HP : Hid (wildT s.data.toList = joinD ([42] :: (cut 46 s.data.toList).tail) ∧ parentB s.data.toList = true) := by unfold wildT parentB; rw [hN]; exact ⟨if_pos ⟨rfl, h0⟩, by simpa using h0⟩
      have H0 : Hid (¬ s.data.toList = []) := h0
      have hsz : s.data.toList.length ≤ 60 := by
        unfold nameB at hN; simp at hN; simpa using hN.2.1
      have HSZ : Hid (s.data.toList.length ≤ 60) := hsz
      clear hN h0 hsz
      go_enter Tryd.func16, Tryd.ntmps16
      go_wp2_with fail
      refine (splitName_any s w hE).mono ?_
      rintro e w1 ⟨v, rfl, hown, _, hb⟩
      rw [HN.out]
      have hown := hown HN.out
      rw [show labelsOf s.data.toList = cut 46 s.data.toList by unfold labelsOf; rw [if_neg H0.out]] at hown
      obtain ⟨p, r, hpr⟩ : ∃ p r, cut 46 s.data.toList = p :: r := by
        cases e : cut 46 s.data.toList with
        | nil => exact absurd e (cut_ne _ _)
        | cons p r => exact ⟨p, r, rfl⟩
      rw [hpr] at HP hown
      have HPR : Hid (cut 46 s.data.toList = p :: r) := hpr
      clear hpr
      obtain ⟨g, cap, hv, hg, hgl, hcap, hmax, hcell⟩ := own_shape hown (by simp)
      have hfr := own_free hown hv 0
      have hc0 : w1.cell? ⟨g, 0, none⟩ = some (.string ⟨p.toArray⟩) := hcell 0 (by simp)
      rw [hv]
      have HCE : Hid (∀ j, j < (p :: r).length → w1.cell? ⟨g, j, none⟩ = ((p :: r).map S)[j]?) := hcell
      simp only [List.length_cons] at hcap ⊢
      have HROW := star_row (p := p) hcap hmax hgl hc0 HCE
      have HJL : Hid ((joinD ([42] :: r)).length ≤ 1048576) := by
        have h1 := joinD_cut s.data.toList
        rw [HPR.out] at h1
        have h2 : (joinD r).length ≤ (joinD (p :: r)).length := by
          by_cases hr : r = []
          · subst hr; simp [joinD]
          · rw [joinD, if_neg hr]; simp; omega
        rw [h1] at h2
        have h3 := HSZ.out
        have h4 : (joinD ([42] :: r)).length ≤ (joinD r).length + 2 := by
          by_cases hr : r = []
          · subst hr; simp [joinD]
          · rw [joinD, if_neg hr]; simp
        exact (show (joinD ([42] :: r)).length ≤ 1048576 by omega)
      clear hown hv hcell
      go_wp2_with fail
      refine (joinLabels_any _ ([42] :: r) _ HROW.out HJL).mono ?_
      rintro e w2 ⟨rfl, hb2⟩
      have hbs : Below w.heap.size w (w1.setCell ⟨g, 0, none⟩ (.string ⟨#[42]⟩)) := hb.setCell (p := ⟨g, 0, none⟩) hg _
      have hb3 := hbs.trans (hb2.mono hbs.size)
      clear hbs hb2
      go_wp2_with fail
      go_ret2
      exact ⟨ret_two (by rw [HP.out.1]; rfl) (val_bool HP.out.2.symm), hb3⟩
end Go.Proofs.YtmhiopkpjdnddaaDoor
