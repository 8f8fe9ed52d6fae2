import Derived.Test.YtdmellmmhipncaaGreatDoorZ05
import Derived.Deep.QuietTactic
import Derived.BigQuiet
import Derived.WalkSmall
namespace Go.Proofs.YtdmellmmhipncaaGreatDoor
open Go.RowKit

theorem shape_of_own {w : World} {base : Nat} {v : Value} {P : List (List UInt8)} (h : w.ownsRow base 9 1 v P.length (P.map S)) :
    ∃ g cap, (v = .slice none 0 0 ∧ P = []) ∨ (v = .slice (some ⟨g, 0, none⟩) P.length cap ∧ base ≤ g ∧ g < w.heap.size ∧ P.length ≤ cap ∧ cap ≤ maxLen ∧ ∀ j, (hj : j < P.length) → w.cell? ⟨g, j, none⟩ = some (S P[j])) := by
  have h0 := h
  obtain ⟨hl, ⟨rfl, hn⟩ | ⟨g, cap, cur, rfl, hg, hh, hc, hm, hs, hx⟩⟩ := h
  · exact ⟨0, 0, .inl ⟨rfl, List.length_eq_zero_iff.1 hn⟩⟩
  · have := h0.lt g rfl
    exact ⟨g, cap, .inr ⟨rfl, this.1, this.2, hc, hm, fun j hj => by rw [h0.cellAt j (by omega), List.getElem?_map, List.getElem?_eq_getElem hj]; rfl⟩⟩

theorem own_mono {w : World} {base base' e size : Nat} {v : Value} {n : Nat} {xs : List Value} (h : w.ownsRow base e size v n xs) (hb : base' ≤ base) : w.ownsRow base' e size v n xs := by
  obtain ⟨hl, hh | ⟨g, cap, cur, rfl, hg, hr⟩⟩ := h
  · exact ⟨hl, .inl hh⟩
  · exact ⟨hl, .inr ⟨g, cap, cur, rfl, Nat.le_trans hb hg, hr⟩⟩

/-- A list of texts in memory, by its value. -/
theorem row_value {w : World} {v : Value} {P : List (List UInt8)} (h : Row w v P) : ∃ a cap, v = .slice a P.length cap ∧ P.length ≤ cap ∧ cap ≤ 2 ^ 63 - 1 ∧ Hid (0 < P.length → ∃ b o, a = some ⟨b, o, none⟩ ∧ b < w.heap.size ∧ ∀ j, (hj : j < P.length) → w.cell? ⟨b, o + j, none⟩ = some (S P[j])) := by
  obtain ⟨a, cap, rfl, h1, h2, h3⟩ := h
  unfold maxLen at h2
  refine ⟨a, cap, rfl, h1, h2, fun hp => ?_⟩
  rcases h3 with rfl | h3
  · simp at hp
  · exact h3

theorem name_eight {l : List UInt8} (h : nameB l = true) : (labelsOf l).length ≤ 8 := by
  unfold nameB at h; simp only [Bool.and_eq_true, decide_eq_true_eq] at h; exact h.2.2

theorem val_int {k : IntKind} {a b : Int} (h : a = b) : Value.int k a = .int k b := by rw [h]
theorem ret_three {a b c d e f : Value} (h : a = d) (k : b = e) (l : c = f) : Ending.returned (.tuple #[a, b, c]) = .returned (.tuple #[d, e, f]) := by rw [h, k, l]

theorem cut_append (b : UInt8) : ∀ (x y : List UInt8), cut b (x ++ b :: y) = cut b x ++ cut b y
  | [], y => by simp [cut]
  | c :: x, y => by
    have ih := cut_append b x y
    by_cases h : c = b
    · simp [cut, h, ih]
    · cases e : cut b x with
      | nil => exact absurd e (cut_ne b x)
      | cons p r => rw [e] at ih; simp [cut, h, ih, e]
theorem cut_no (b : UInt8) : ∀ l, ∀ p ∈ cut b l, b ∉ p
  | [], p, hp => by simp [cut] at hp; simp [hp]
  | c :: l, p, hp => by
    have ih := cut_no b l
    by_cases h : c = b
    · simp only [cut, h, if_true, List.mem_cons] at hp
      rcases hp with rfl | hp
      · simp
      · exact ih p hp
    · cases e : cut b l with
      | nil => exact absurd e (cut_ne b l)
      | cons q r =>
        simp only [cut, h, if_false, e, List.mem_cons] at hp
        rcases hp with rfl | hp
        · have := ih q (by rw [e]; simp)
          simp only [List.mem_cons, not_or]; exact ⟨fun e => h e.symm, this⟩
        · exact ih p (by rw [e]; simp [hp])
theorem cut_plain (b : UInt8) : ∀ l : List UInt8, b ∉ l → cut b l = [l]
  | [], _ => rfl
  | c :: l, h => by
    simp only [List.mem_cons, not_or] at h
    have ih := cut_plain b l h.2
    simp [cut, Ne.symm h.1, ih]
theorem cut_joinD : ∀ Q : List (List UInt8), Q ≠ [] → (∀ p ∈ Q, 46 ∉ p) → cut 46 (joinD Q) = Q
  | [], h, _ => absurd rfl h
  | [p], _, h => by simp [joinD, cut_plain 46 p (h p (by simp))]
  | p :: q :: r, _, h => by
    have ih := cut_joinD (q :: r) (by simp) (fun x hx => h x (by simp at hx ⊢; right; exact hx))
    rw [joinD, if_neg (by simp), cut_append, ih, cut_plain 46 p (h p (by simp))]
    rfl

/-- Labels that are not empty and hold no dot. -/
def Plain (Q : List (List UInt8)) : Prop := ∀ p ∈ Q, p ≠ [] ∧ 46 ∉ p
theorem Plain.drop {Q : List (List UInt8)} (h : Plain Q) (k : Nat) : Plain (Q.drop k) := fun p hp => h p (List.mem_of_mem_drop hp)
theorem plain_ne {r : List (List UInt8)} (hr : r ≠ []) (h : Plain r) : joinD r ≠ [] := by
  match r, hr with
  | p :: q, _ =>
    have hp := (h p (by simp)).1
    unfold joinD
    split
    · exact hp
    · simp
theorem lab_ne {p : List UInt8} (h : labelB p = true) : p ≠ [] := by
  intro e; subst e; revert h; decide
theorem name_plain {l : List UInt8} (h : nameB l = true) : Plain (labelsOf l) := by
  intro p hp
  have h1 : labelB p = true := by
    unfold nameB at h; simp only [Bool.and_eq_true, List.all_eq_true] at h; exact h.1 p hp
  refine ⟨lab_ne h1, ?_⟩
  unfold labelsOf at hp
  split at hp
  · simp at hp
  · exact cut_no 46 l p hp
theorem joinD_labels (l : List UInt8) : joinD (labelsOf l) = l := by
  unfold labelsOf
  split
  · rename_i h; rw [h]; rfl
  · exact joinD_cut l

def tot (P : List (List UInt8)) : Nat := (P.map List.length).sum
theorem tot_snoc (P : List (List UInt8)) (k : Nat) (h : k < P.length) : tot (P.take (k + 1)) = tot (P.take k) + P[k].length := by
  unfold tot; rw [List.take_succ_eq_append_getElem h, List.map_append, List.sum_append]; simp only [List.map_cons, List.map_nil, List.sum_cons, List.sum_nil, Nat.add_zero]
theorem tot_full (P : List (List UInt8)) (k : Nat) (h : ¬ k < P.length) : tot (P.take k) = tot P := by rw [List.take_of_length_le (by omega)]
theorem tot_one {P : List (List UInt8)} {p : List UInt8} (h : p ∈ P) : p.length ≤ tot P := by
  unfold tot
  induction P with
  | nil => simp at h
  | cons q r ih =>
    rcases List.mem_cons.1 h with rfl | h
    · simp
    · have := ih h; simp; omega

theorem joinD_tot : ∀ P : List (List UInt8), (joinD P).length ≤ tot P + P.length
  | [] => by simp [joinD, tot]
  | p :: r => by
    have ih := joinD_tot r
    have e : tot (p :: r) = p.length + tot r := by simp [tot]
    unfold joinD
    split
    · rw [e]; simp; omega
    · rw [e]; simp; omega
theorem label_nodot {p : List UInt8} (h : labelB p = true) : 46 ∉ p := by
  intro hm
  unfold labelB at h
  rw [Bool.or_eq_true] at h
  rcases h with h | h
  · have : p = [42] := by simpa using h
    rw [this] at hm; revert hm; decide
  · simp only [Bool.and_eq_true, List.all_eq_true] at h
    have := h.2.2 46 hm
    revert this; decide

/-- What NameOf tells. -/
def nameOfB (P : List (List UInt8)) : Bool := P.all labelB && nameB (joinD P)
def nameOfT (P : List (List UInt8)) : List UInt8 := if nameOfB P = true then joinD P else []
theorem joinD_small : ∀ P : List (List UInt8), (∀ p ∈ P, p.length ≤ 20) → (joinD P).length ≤ 21 * P.length
  | [], _ => by simp [joinD]
  | p :: r, h => by
    have h1 := h p (by simp)
    have ih := joinD_small r (fun q hq => h q (by simp [hq]))
    unfold joinD
    split
    · simp; omega
    · simp; omega

theorem label_le {p : List UInt8} (h : labelB p = true) : p.length ≤ 20 := by
  unfold labelB at h
  rw [Bool.or_eq_true] at h
  rcases h with h1 | h1
  · have : p = [42] := by simpa using h1
    subst this; simp
  · simp only [Bool.and_eq_true, decide_eq_true_eq] at h1
    exact h1.2.1
theorem are_small {P : List (List UInt8)} (h : areB P = true) : (joinD P).length ≤ 168 := by
  unfold areB at h
  simp only [Bool.and_eq_true, decide_eq_true_eq, List.all_eq_true] at h
  have := joinD_small P (fun p hp => label_le (h.2 p hp))
  omega
theorem nameOf_eq {P : List (List UInt8)} : nameOfB P = (areB P && decide ((joinD P).length ≤ 60)) := by
  unfold nameOfB areB
  cases ha : P.all labelB with
  | false => simp
  | true =>
    have hp : Plain P := fun p hp => ⟨lab_ne (List.all_eq_true.1 ha p hp), label_nodot (List.all_eq_true.1 ha p hp)⟩
    have hl : labelsOf (joinD P) = P := by
      unfold labelsOf
      by_cases h0 : P = []
      · subst h0; simp [joinD]
      · rw [if_neg (plain_ne h0 hp), cut_joinD P h0 (fun p h => (hp p h).2)]
    unfold nameB; rw [hl, ha, Bool.true_and, Bool.true_and, Bool.and_true, Bool.and_comm]

theorem val_strJ {x : ByteArray} {l : List UInt8} (h : x.data.toList = l) : Value.string x = .string ⟨l.toArray⟩ := by rw [data_eq h]

theorem ret_S {x y : List UInt8} (h : x = y) : Ending.returned (.string ⟨x.toArray⟩) = .returned (.string ⟨y.toArray⟩) := by rw [h]
end Go.Proofs.YtdmellmmhipncaaGreatDoor

namespace Go.Proofs.YtdmellmmhipncaaGreatDoor
open Go.RowKit

/-- What is behind the first dot. -/
def parentL : List UInt8 → List UInt8
  | [] => []
  | c :: l => if c = 46 then l else parentL l
theorem parent_join : ∀ l : List UInt8, parentL l = joinD (cut 46 l).tail
  | [] => by simp [parentL, cut, joinD]
  | c :: l => by
    by_cases h : c = 46
    · simp [parentL, cut, h, joinD_cut]
    · have ih := parent_join l
      cases e : cut 46 l with
      | nil => exact absurd e (cut_ne 46 l)
      | cons p r => rw [e] at ih; simp [parentL, cut, h, ih, e]

theorem parent_at {l : List UInt8} {k : Nat} (h : parentL l = parentL (l.drop k)) (hk : k < l.length) (hc : l[k] = 46) : parentL l = l.drop (k + 1) := by
  rw [h, List.drop_eq_getElem_cons hk, parentL, if_pos hc]
theorem parent_next {l : List UInt8} {k : Nat} (h : parentL l = parentL (l.drop k)) (hk : k < l.length) (hc : ¬ l[k] = 46) : parentL l = parentL (l.drop (k + 1)) := by
  rw [h, List.drop_eq_getElem_cons hk, parentL, if_neg hc]
theorem parent_end {l : List UInt8} {k : Nat} (h : parentL l = parentL (l.drop k)) (hk : ¬ k < l.length) : parentL l = [] := by
  rw [h, List.drop_of_length_le (by omega)]; rfl



/-- What ParentOf tells. -/
def parentT (l : List UInt8) : List UInt8 := if nameB l = true ∧ l ≠ [] then parentL l else []
def parentB (l : List UInt8) : Bool := nameB l && !l.isEmpty

theorem rest_row {w1 : World} {g cap : Nat} {p : List UInt8} {r : List (List UInt8)} (hcap : r.length + 1 ≤ cap) (hmax : cap ≤ maxLen) (hgl : g < w1.heap.size) (hc : Hid (∀ j, j < (p :: r).length → w1.cell? ⟨g, j, none⟩ = ((p :: r).map S)[j]?)) :
    Hid ((cap = 1 → Row w1 (.slice (some ⟨g, 0, none⟩) r.length 0) r) ∧ Row w1 (.slice (some ⟨g, 1, none⟩) r.length (cap - 1)) r) := by
  refine ⟨fun h => ?_, ?_⟩
  · obtain rfl : r = [] := List.length_eq_zero_iff.1 (by omega)
    exact ⟨_, 0, rfl, Nat.le_refl _, by unfold maxLen; omega, .inl rfl⟩
  · refine ⟨_, cap - 1, rfl, by omega, by omega, .inr ⟨g, 1, rfl, hgl, fun j hj => ?_⟩⟩
    rw [hc.out (1 + j) (by simp; omega), Nat.add_comm 1 j, List.map_cons, List.getElem?_cons_succ, List.getElem?_map, List.getElem?_eq_getElem hj]
    rfl

end Go.Proofs.YtdmellmmhipncaaGreatDoor

namespace Go.Proofs.YtdmellmmhipncaaGreatDoor
open Go.RowKit

/-- Texts as they lie in a block of the call's own. -/
def SRow (w : World) (g : Nat) (P : List (List UInt8)) : Prop := g < w.heap.size ∧ ∀ j, (hj : j < P.length) → w.cell? ⟨g, j, none⟩ = some (S P[j]) ∧ w.frozen? ⟨g, j, none⟩ = false
theorem SRow.kept {w w' : World} {g : Nat} {P : List (List UInt8)} (h : SRow w g P) (hb : Below w.heap.size w w') : SRow w' g P :=
  ⟨Nat.lt_of_lt_of_le h.1 hb.size, fun j hj => by rw [hb.cell (p := ⟨g, j, none⟩) h.1, hb.frozen (p := ⟨g, j, none⟩) h.1]; exact h.2 j hj⟩
theorem SRow.set {w : World} {g : Nat} {P : List (List UInt8)} (h : SRow w g P) (k : Nat) (hk : k < P.length) (c : List UInt8) : SRow (w.setCell ⟨g, k, none⟩ (.string ⟨c.toArray⟩)) g (P.set k c) := by
  refine ⟨by simpa using h.1, fun j hj => ?_⟩
  have hj' : j < P.length := by simpa using hj
  refine ⟨?_, by simpa using (h.2 j hj').2⟩
  rw [List.getElem_set]
  split
  · rename_i e; subst e; exact World.cell?_setCell_same _ _ _ (h.2 k hk).1
  · rename_i e
    rw [World.cell?_setCell_other _ _ _ _ (show (⟨g, k, none⟩ : Addr) ≠ ⟨g, j, none⟩ by intro h; cases h; exact e rfl)]
    exact (h.2 j hj').1
theorem SRow.far {w : World} {g g' k : Nat} {P : List (List UInt8)} (h : SRow w g P) (hne : g' ≠ g) (u : Value) : SRow (w.setCell ⟨g', k, none⟩ u) g P := by
  refine ⟨by simpa using h.1, fun j hj => ⟨?_, by simpa using (h.2 j hj).2⟩⟩
  rw [World.cell?_setCell_other _ _ _ _ (show (⟨g', k, none⟩ : Addr) ≠ ⟨g, j, none⟩ by intro h; cases h; exact hne rfl)]
  exact (h.2 j hj).1
theorem SRow.row {w : World} {g cap : Nat} {P : List (List UInt8)} (h : SRow w g P) (hc : P.length ≤ cap) (hm : cap ≤ maxLen) : Row w (.slice (some ⟨g, 0, none⟩) P.length cap) P :=
  ⟨_, cap, rfl, hc, hm, .inr ⟨g, 0, rfl, h.1, fun j hj => by rw [Nat.zero_add]; exact (h.2 j hj).1⟩⟩
theorem srow_own {w : World} {base g cap n : Nat} {P : List (List UInt8)} (h : w.ownsRow base 9 1 (.slice (some ⟨g, 0, none⟩) n cap) n (P.map S)) (hn : n = P.length) : SRow w g P := by
  subst hn
  refine ⟨(h.lt g rfl).2, fun j hj => ⟨?_, h.frozenAt j⟩⟩
  rw [h.cellAt j (by omega), List.getElem?_map, List.getElem?_eq_getElem hj]; rfl

end Go.Proofs.YtdmellmmhipncaaGreatDoor

namespace Go.Proofs.YtdmellmmhipncaaGreatDoor
open Go.RowKit

set_option maxRecDepth 20000 in
set_option maxHeartbeats 1000000 in
theorem l1Join_any (v : Value) (P : List (List UInt8)) (w : World) (hr : Row w v P) (hl : Hid ((joinD P).length ≤ 1048576)) :
    Calls Tryz.prog 89 #[v] w fun e w' => e = .returned (.string ⟨(joinD P).toArray⟩) ∧ w' = w := by
  obtain ⟨a, cap, rfl, hcap, hmax, HROW⟩ := row_value hr
  clear hr
  go_enter Tryz.func89, Tryz.ntmps89
  go_wp2_with fail
  go_loop [3, 8] (fun v i => ∃ k : Nat, k ≤ P.length ∧ i = .int .i64 k ∧ v = .string ⟨(joinD (P.take k)).toArray⟩) (fun _ i => P.length - (intOf i).toNat)
  case atStart => exact ⟨0, Nat.zero_le _, rfl, rfl⟩
  case round =>
    obtain ⟨k, hk, rfl, rfl⟩ := hrel
    have hjl : (joinD (P.take k)).length ≤ 1048576 := Nat.le_trans (joinD_take_le P k) hl.out
    by_cases hlt : k < P.length
    · obtain ⟨b, o, ha, hbl, hc⟩ := HROW.out (by omega)
      rw [ha]
      have hcx := hc k hlt
      have hxl := joinD_take_le P (k + 1)
      have hlo := hl.out
      obtain ⟨x, hx⟩ : ∃ x, x = P[k]'hlt := ⟨_, rfl⟩
      rw [← hx] at hcx
      unfold S at hcx
      clear hc
      by_cases h0 : k = 0
      · subst h0
        rw [Nat.add_zero] at hcx
        have hJ := joinD_one P hlt
        rw [← hx] at hJ
        rw [show 0 + 1 = 1 from rfl, hJ] at hxl
        have HJ : Hid (joinD (P.take 1) = x) := hJ
        obtain ⟨z, hz⟩ : ∃ z, z = joinD (P.take 0) := ⟨_, rfl⟩
        rw [← hz] at hjl ⊢
        have HZ : Hid (z = []) := by rw [hz]; exact (by simp [joinD] : joinD (P.take 0) = [])
        clear hJ hx hz
        go_wp2_with fail
        go_round
        case rel => exact ⟨1, by omega, by go_num, val_strJ (by rw [HJ.out, HZ.out]; simp)⟩
        case measure => simp [intOf]; omega
      · have hJ := joinD_step P k (by omega) hlt
        rw [← hx] at hJ
        rw [hJ] at hxl
        have HJ : Hid (joinD (P.take (k + 1)) = joinD (P.take k) ++ [46] ++ x) := hJ
        simp only [List.length_append, List.length_cons, List.length_nil] at hxl
        have hk0 : (0 : Int) < (k : Int) := by omega
        obtain ⟨z, hz⟩ : ∃ z, z = joinD (P.take k) := ⟨_, rfl⟩
        rw [← hz] at hxl hjl HJ ⊢
        clear hJ hx hz
        go_wp2_with fail
        go_round
        case rel => exact ⟨k + 1, by omega, by go_num, val_strJ (by rw [HJ.out]; simp)⟩
        case measure => simp [intOf]; omega
    · have hfull : Hid (P.take k = P) := List.take_of_length_le (by omega)
      go_wp2_with fail
      go_ret
      exact ⟨ret_S (by rw [hfull.out]), rfl⟩

set_option maxRecDepth 20000 in
set_option maxHeartbeats 1000000 in
theorem iNameOf_any (v : Value) (P : List (List UInt8)) (w : World) (hr : Row w v P) (hl : Hid (P.length + tot P ≤ 68719476736)) (hE : Env w) :
    Calls Tryz.prog 113 #[v] w fun e w' => e = .returned (.tuple #[.string ⟨(nameOfT P).toArray⟩, .bool (nameOfB P)]) ∧ Below w.heap.size w w' := by
  have HPL : Hid (∀ p ∈ P, p.length ≤ maxLen) := fun p hp => by have := tot_one hp; have := hl.out; unfold maxLen; omega
  have hT := hE.1
  cases hA : areB P with
  | false =>
    have HA : Hid (areB P = false) := hA
    have HN : Hid (nameOfB P = false) := by rw [nameOf_eq, hA]; exact rfl
    clear hA
    go_enter Tryz.func113, Tryz.ntmps113
    go_wp2_with fail
    refine (areLabels_any v P w hT hr HPL).mono ?_
    rintro e w1 ⟨rfl, hb1⟩
    rw [HA.out]
    go_wp2_with fail
    go_ret2
    exact ⟨ret_two (by unfold nameOfT; rw [HN.out]; rfl) (val_bool HN.out.symm), hb1⟩
  | true =>
    have HA : Hid (areB P = true) := hA
    have HJL : Hid ((joinD P).length ≤ 1048576) := Nat.le_trans (are_small hA) (by decide)
    have HN : Hid (nameOfB P = decide ((joinD P).length ≤ 60)) := by rw [nameOf_eq, hA, Bool.true_and]; exact rfl
    clear hA
    go_enter Tryz.func113, Tryz.ntmps113
    go_wp2_with fail
    refine (areLabels_any v P w hT hr HPL).mono ?_
    rintro e w1 ⟨rfl, hb1⟩
    rw [HA.out]
    have hr1 := hr.kept hb1
    go_wp2_with fail
    refine (joinLabels_any v P w1 hr1 HJL).mono ?_
    rintro e w2 ⟨rfl, hb2⟩
    have hbb := hb1.trans (hb2.mono hb1.size)
    have hjl := HJL.out
    obtain ⟨x, hx⟩ : ∃ x, x = joinD P := ⟨_, rfl⟩
    rw [← hx] at HN hjl ⊢
    have HX : Hid (x = joinD P) := hx
    clear hx hb1 hb2 hr hr1
    by_cases h60 : (60 : Int) < (x.length : Int)
    · have HNN : Hid (nameOfB P = false) := by rw [HN.out]; exact decide_eq_false (by omega)
      go_wp2_with fail
      go_ret2
      exact ⟨ret_two (by unfold nameOfT; rw [HNN.out]; rfl) (val_bool HNN.out.symm), hbb⟩
    · have HNN : Hid (nameOfB P = true) := by rw [HN.out]; exact decide_eq_true (by omega)
      go_wp2_with fail
      go_ret2
      exact ⟨ret_two (by unfold nameOfT; rw [HNN.out, HX.out]; rfl) (val_bool HNN.out.symm), hbb⟩
end Go.Proofs.YtdmellmmhipncaaGreatDoor

namespace Go.Proofs.YtdmellmmhipncaaGreatDoor
open Go.RowKit

theorem index_no {b : UInt8} : ∀ {l : List UInt8}, b ∉ l → Lib.index l [b] = -1
  | [], _ => by simp [Lib.index]
  | c :: l, h => by
    simp only [List.mem_cons, not_or] at h
    have hp : ([b] : List UInt8).isPrefixOf (c :: l) = false := by simp [List.isPrefixOf, h.1]
    rw [Lib.index, hp, index_no h.2]; simp
theorem index_at {b : UInt8} {r : List UInt8} : ∀ {a : List UInt8}, b ∉ a → Lib.index (a ++ b :: r) [b] = (a.length : Int)
  | [], _ => by rw [List.nil_append, Lib.index]; simp [List.isPrefixOf]
  | c :: a, h => by
    simp only [List.mem_cons, not_or] at h
    have hp : ([b] : List UInt8).isPrefixOf (c :: (a ++ b :: r)) = false := by simp [List.isPrefixOf, h.1]
    rw [List.cons_append, Lib.index, hp, index_at h.2]
    have : (((a.length : Int)) == -1) = false := by rw [beq_eq_false_iff_ne]; omega
    rw [this]; simp
theorem splitK_no {b : UInt8} {n : Nat} {l : List UInt8} (h : b ∉ l) : Lib.splitK [b] 0 n l = [l] := by
  cases n with
  | zero => rfl
  | succ n => rw [Lib.splitK, index_no h]; rfl
theorem splitK_at {b : UInt8} {n : Nat} {a r : List UInt8} (h : b ∉ a) : Lib.splitK [b] 0 (n + 1) (a ++ b :: r) = a :: Lib.splitK [b] 0 n r := by
  rw [Lib.splitK, index_at h]
  have : (((a.length : Int)) == -1) = false := by rw [beq_eq_false_iff_ne]; omega
  rw [this]
  simp only [Bool.false_eq_true, if_false, Int.toNat_natCast, Nat.add_zero, List.length_cons, List.length_nil, Nat.zero_add]
  rw [List.take_left', ← List.drop_drop, List.drop_left']
  · rfl
  · rfl
  · rfl
theorem cut_at {b : UInt8} {a r : List UInt8} (h : b ∉ a) : cut b (a ++ b :: r) = a :: cut b r := by
  rw [cut_append, cut_plain b a h]; rfl
theorem splitK_cut {b : UInt8} : ∀ (n : Nat) (l : List UInt8), (cut b l).length ≤ n + 1 → Lib.splitK [b] 0 n l = cut b l := by
  intro n
  induction n with
  | zero =>
    intro l h
    by_cases hm : b ∈ l
    · obtain ⟨a, r, rfl, ha⟩ := List.eq_append_cons_of_mem hm
      rw [cut_at ha] at h
      have := List.length_pos_iff.2 (cut_ne b r)
      simp only [List.length_cons] at h; omega
    · rw [splitK_no hm, cut_plain b l hm]
  | succ n ih =>
    intro l h
    by_cases hm : b ∈ l
    · obtain ⟨a, r, rfl, ha⟩ := List.eq_append_cons_of_mem hm
      rw [cut_at ha] at h ⊢
      rw [splitK_at ha, ih r (by simp only [List.length_cons] at h; omega)]
    · rw [splitK_no hm, cut_plain b l hm]
theorem splitK_long {b : UInt8} : ∀ (n : Nat) (l : List UInt8), n + 1 ≤ (cut b l).length → (Lib.splitK [b] 0 n l).length = n + 1 := by
  intro n
  induction n with
  | zero => intro l _; rfl
  | succ n ih =>
    intro l h
    by_cases hm : b ∈ l
    · obtain ⟨a, r, rfl, ha⟩ := List.eq_append_cons_of_mem hm
      rw [cut_at ha] at h
      rw [splitK_at ha, List.length_cons, ih r (by simp only [List.length_cons] at h; omega)]
    · rw [cut_plain b l hm] at h; simp at h
theorem split4 {b : UInt8} {l : List UInt8} {N : Nat} (hN : N = min 5 (l.length + 1) - 1) :
    ((Lib.splitK [b] 0 N l).length = 4 ↔ (cut b l).length = 4) ∧ ((cut b l).length = 4 → Lib.splitK [b] 0 N l = cut b l) := by
  have hc := cut_length_le b l
  by_cases h : (cut b l).length ≤ N + 1
  · have e := splitK_cut N l h
    rw [e]; exact ⟨Iff.rfl, fun _ => rfl⟩
  · have e := splitK_long (b := b) N l (by omega)
    rw [e]
    refine ⟨⟨fun h4 => ?_, fun h4 => ?_⟩, fun h4 => ?_⟩ <;> omega
theorem split_three {b : UInt8} {l : List UInt8} (h : 4 ≤ (cut b l).length) : ∃ p q t r, l = p ++ b :: (q ++ b :: (t ++ b :: r)) ∧ cut b l = p :: q :: t :: cut b r ∧ Lib.splitK [b] 0 3 l = [p, q, t, r] := by
  have step : ∀ {l : List UInt8}, 2 ≤ (cut b l).length → ∃ a r, l = a ++ b :: r ∧ b ∉ a ∧ cut b l = a :: cut b r := by
    intro l h
    by_cases hm : b ∈ l
    · obtain ⟨a, r, rfl, ha⟩ := List.eq_append_cons_of_mem hm
      exact ⟨a, r, rfl, ha, cut_at ha⟩
    · rw [cut_plain b l hm] at h; simp at h
  obtain ⟨p, r1, e1, hp, c1⟩ := step (l := l) (by omega)
  rw [c1, List.length_cons] at h
  obtain ⟨q, r2, e2, hq, c2⟩ := step (l := r1) (by omega)
  rw [c2, List.length_cons] at h
  obtain ⟨t, r3, e3, ht, c3⟩ := step (l := r2) (by omega)
  refine ⟨p, q, t, r3, by rw [e1, e2, e3], by rw [c1, c2, c3], ?_⟩
  rw [e1, splitK_at hp, e2, splitK_at hq, e3, splitK_at ht]; rfl
/-- What strings.Cut tells at one byte, by the cutting. -/
theorem libCut_no {b : UInt8} {l : List UInt8} (h : b ∉ l) : Lib.cut l [b] = (l, [], false) := by
  unfold Lib.cut; rw [index_no h]; rfl
theorem libCut_at {b : UInt8} {a r : List UInt8} (h : b ∉ a) : Lib.cut (a ++ b :: r) [b] = (a, r, true) := by
  unfold Lib.cut; rw [index_at h]
  have e1 : (a ++ b :: r).take a.length = a := List.take_left' rfl
  have e2 : (a ++ b :: r).drop (a.length + 1) = r := by rw [← List.drop_drop, List.drop_left' rfl]; rfl
  simp [e1, e2]
end Go.Proofs.YtdmellmmhipncaaGreatDoor

namespace Go.Proofs.YtdmellmmhipncaaGreatDoor
open Go.RowKit

/-- What has been copied behind k rounds. -/
def part (P : List (List UInt8)) (k : Nat) : List (List UInt8) := P.take k ++ List.replicate (P.length - k) []
theorem part_length (P : List (List UInt8)) (k : Nat) (h : k ≤ P.length) : (part P k).length = P.length := by simp [part]; omega
theorem part_next (P : List (List UInt8)) (k : Nat) (h : k < P.length) : part P (k + 1) = (part P k).set k P[k] := by
  unfold part
  have hm : (P.take k).length = k := by simp; omega
  rw [List.take_succ_eq_append_getElem h, List.set_append_right _ _ (by omega), hm, Nat.sub_self]
  obtain ⟨m, hm2⟩ : ∃ m, P.length - k = m + 1 := ⟨P.length - k - 1, by omega⟩
  rw [hm2, show P.length - (k + 1) = m by omega, List.replicate_succ]
  simp only [List.set_cons_zero, List.append_assoc, List.singleton_append]
theorem part_end (P : List (List UInt8)) : part P P.length = P := by simp [part]

theorem made_srow {w w1 : World} {P : List (List UInt8)} (h : w1.ownsRow w.heap.size 9 1 (.slice (some ⟨w.heap.size, 0, none⟩) P.length P.length) P.length (madeCells #[.string ByteArray.empty] P.length).toList) : SRow w1 w.heap.size (part P 0) := by
  have e : (madeCells #[.string ByteArray.empty] P.length).toList = (part P 0).map S := by
    rw [← Lib.cellsOf_nil P.length]
    simp [Lib.cellsOf, part, S]
    right; rfl
  rw [e] at h
  exact srow_own h (by simp [part])

end Go.Proofs.YtdmellmmhipncaaGreatDoor
