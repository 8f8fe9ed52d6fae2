import Derived.Test.YtdmellmmhipncaaGreatDoorZ10
import Derived.Test.YtdmellmmhipncaaGreatDoorZ05
namespace Go.Proofs.YtdmellmmhipncaaGreatDoor
open Go.RowKit

def foldL (p : List UInt8) : List UInt8 := p.map foldC
/-- The bytes of the label that stands at a place. -/
def labAt (l : List UInt8) (a c : Nat) : List UInt8 := (l.take (a + 1 + c)).drop (a + 1)
theorem labAt_length {l : List UInt8} {a c : Nat} (h : a + c < l.length) : (labAt l a c).length = c := by
  unfold labAt; rw [List.length_drop, List.length_take]; omega

/-- What is read at a place: labels, the place behind, the places of the labels that are told there itself. -/
def rd (l : List UInt8) : Nat → Nat → Nat → Option Nat → List (List UInt8) → List Nat → Option (List (List UInt8) × Nat × List Nat)
  | 0, _, _, _, _, _ => none
  | n + 1, a, least, pt, raw, pl =>
    if h : a < l.length then
      if l[a].toNat = 0 then some (raw, pt.getD (a + 1), pl)
      else if l[a].toNat ≤ 20 then
        if a + l[a].toNat < l.length then rd l n (a + 1 + l[a].toNat) least pt (raw ++ [labAt l a l[a].toNat]) (if pt = none then pl ++ [a] else pl) else none
      else if 192 ≤ l[a].toNat then
        if h2 : a + 1 < l.length then
          if (l[a].toNat - 192) * 256 + l[a + 1].toNat < least then rd l n ((l[a].toNat - 192) * 256 + l[a + 1].toNat) ((l[a].toNat - 192) * 256 + l[a + 1].toNat) (some (pt.getD (a + 2))) raw pl else none
        else none
      else none
    else none

section
variable {l : List UInt8} {n a least : Nat} {pt : Option Nat} {raw : List (List UInt8)} {pl : List Nat}
theorem rd_out (h : ¬ a < l.length) : rd l (n + 1) a least pt raw pl = none := by rw [rd, dif_neg h]
theorem rd_end (h : a < l.length) (hc : l[a].toNat = 0) : rd l (n + 1) a least pt raw pl = some (raw, pt.getD (a + 1), pl) := by rw [rd, dif_pos h, if_pos hc]
theorem rd_lab (h : a < l.length) (h1 : ¬ l[a].toNat = 0) (h2 : l[a].toNat ≤ 20) (h3 : a + l[a].toNat < l.length) :
    rd l (n + 1) a least pt raw pl = rd l n (a + 1 + l[a].toNat) least pt (raw ++ [labAt l a l[a].toNat]) (if pt = none then pl ++ [a] else pl) := by
  rw [rd, dif_pos h, if_neg h1, if_pos h2, if_pos h3]
theorem rd_lab_out (h : a < l.length) (h1 : ¬ l[a].toNat = 0) (h2 : l[a].toNat ≤ 20) (h3 : ¬ a + l[a].toNat < l.length) : rd l (n + 1) a least pt raw pl = none := by
  rw [rd, dif_pos h, if_neg h1, if_pos h2, if_neg h3]
theorem rd_mid (h : a < l.length) (h1 : ¬ l[a].toNat ≤ 20) (h2 : ¬ 192 ≤ l[a].toNat) : rd l (n + 1) a least pt raw pl = none := by
  rw [rd, dif_pos h, if_neg (by omega), if_neg h1, if_neg h2]
theorem rd_ptr_out (h : a < l.length) (h1 : 192 ≤ l[a].toNat) (h2 : ¬ a + 1 < l.length) : rd l (n + 1) a least pt raw pl = none := by
  rw [rd, dif_pos h, if_neg (by omega), if_neg (by omega), if_pos h1, dif_neg h2]
theorem rd_ptr_no (h : a < l.length) (h1 : 192 ≤ l[a].toNat) (h2 : a + 1 < l.length) (h3 : ¬ (l[a].toNat - 192) * 256 + l[a + 1].toNat < least) : rd l (n + 1) a least pt raw pl = none := by
  rw [rd, dif_pos h, if_neg (by omega), if_neg (by omega), if_pos h1, dif_pos h2, if_neg h3]
theorem rd_ptr (h : a < l.length) (h1 : 192 ≤ l[a].toNat) (h2 : a + 1 < l.length) {q : Nat} (hq : q = (l[a].toNat - 192) * 256 + l[a + 1].toNat) (h3 : q < least) :
    rd l (n + 1) a least pt raw pl = rd l n q q (some (pt.getD (a + 2))) raw pl := by
  rw [rd, dif_pos h, if_neg (by omega), if_neg (by omega), if_pos h1, dif_pos h2, ← hq, if_pos h3]
end

theorem rd_grows (l : List UInt8) : ∀ (n a least : Nat) (pt : Option Nat) (raw : List (List UInt8)) (pl : List Nat) (R : List (List UInt8)) (e : Nat) (q : List Nat), rd l n a least pt raw pl = some (R, e, q) → raw <+: R
  | 0, _, _, _, _, _, _, _, _, h => by simp [rd] at h
  | n + 1, a, least, pt, raw, pl, R, e, q, h => by
    rw [rd] at h
    (repeat' split at h) <;> first | (cases h; done) | skip
    · simp only [Option.some.injEq, Prod.mk.injEq] at h; rw [h.1]; exact List.prefix_refl _
    · exact (List.prefix_append _ _).trans (rd_grows l n _ _ _ _ _ _ _ _ h)
    · exact (List.prefix_append _ _).trans (rd_grows l n _ _ _ _ _ _ _ _ h)
    · exact rd_grows l n _ _ _ _ _ _ _ _ h

/-- The name that is told. -/
def nmR : Option (List (List UInt8) × Nat × List Nat) → Option (List UInt8 × Nat × List Nat)
  | none => none
  | some (R, e, q) => if nameOfB (R.map foldL) = true then some (joinD (R.map foldL), e, q) else none

theorem foldC_dot {c : UInt8} : foldC c = 46 ↔ c = 46 := by
  constructor
  · intro h
    by_cases hg : 65 ≤ c.toNat ∧ c.toNat ≤ 90
    · have h1 := foldC_toNat hg.1 hg.2
      rw [h, show (46 : UInt8).toNat = 46 from rfl] at h1
      omega
    · rwa [foldC_same hg] at h
  · intro h; subst h; decide
theorem foldL_dot {x : List UInt8} : 46 ∈ foldL x ↔ 46 ∈ x := by
  unfold foldL; rw [List.mem_map]
  constructor
  · rintro ⟨c, hc, h⟩; rw [foldC_dot] at h; rwa [← h]
  · intro h; exact ⟨46, h, by decide⟩

theorem nmR_long {l : List UInt8} {n a least : Nat} {pt : Option Nat} {raw : List (List UInt8)} {pl : List Nat} (h : 8 < raw.length) : nmR (rd l n a least pt raw pl) = none := by
  cases e : rd l n a least pt raw pl with
  | none => rfl
  | some x =>
    obtain ⟨R, e', q⟩ := x
    have hp := (rd_grows l n a least pt raw pl R e' q e).length_le
    have hN : nameOfB (R.map foldL) = false := by
      rw [nameOf_eq]; unfold areB; rw [List.length_map, decide_eq_false (by omega)]; rfl
    simp [nmR, hN]
theorem nmR_dot {l : List UInt8} {n a least : Nat} {pt : Option Nat} {raw : List (List UInt8)} {pl : List Nat} {x : List UInt8} (hx : x ∈ raw) (h : 46 ∈ x) : nmR (rd l n a least pt raw pl) = none := by
  cases e : rd l n a least pt raw pl with
  | none => rfl
  | some y =>
    obtain ⟨R, e', q⟩ := y
    have hp := (rd_grows l n a least pt raw pl R e' q e).subset hx
    have hN : nameOfB (R.map foldL) = false := by
      unfold nameOfB
      have : (R.map foldL).all labelB = false := by
        rw [Bool.eq_false_iff]; intro ha
        have h1 := List.all_eq_true.1 ha (foldL x) (List.mem_map.2 ⟨x, hp, rfl⟩)
        exact label_nodot h1 (foldL_dot.2 h)
      rw [this]; rfl
    simp [nmR, hN]

theorem fold_label {x : List UInt8} (h : labelB x = true) : foldL x = x := by
  have hc : ∀ c ∈ x, ¬ (65 ≤ c.toNat ∧ c.toNat ≤ 90) := by
    intro c hc
    unfold labelB at h
    rw [Bool.or_eq_true] at h
    rcases h with h | h
    · have : x = [42] := by simpa using h
      subst this
      have : c = 42 := by simpa using hc
      subst this; decide
    · simp only [Bool.and_eq_true, List.all_eq_true] at h
      have := h.2.2 c hc
      unfold okC kindOf at this
      intro hh
      rw [if_neg (by omega), if_neg (by omega), if_pos (by omega)] at this
      revert this; decide
  unfold foldL
  rw [List.map_congr_left (fun c hh => foldC_same (hc c hh)), List.map_id']
theorem joinD_fold : ∀ R : List (List UInt8), (joinD R).map foldC = joinD (R.map foldL)
  | [] => rfl
  | p :: r => by
    have ih := joinD_fold r
    rw [List.map_cons]
    unfold joinD
    by_cases h : r = []
    · subst h; simp [foldL]
    · rw [if_neg h, if_neg (by simpa using h), List.map_append, List.map_cons, ih, show foldC 46 = 46 by decide]; rfl
theorem fold_plain {R : List (List UInt8)} (h : Plain R) : Plain (R.map foldL) := by
  intro p hp
  obtain ⟨q, hq, rfl⟩ := List.mem_map.1 hp
  have := h q hq
  refine ⟨?_, fun hd => this.2 (foldL_dot.1 hd)⟩
  unfold foldL; simpa using this.1
theorem fold_name {R : List (List UInt8)} (h : Plain R) : foldB (joinD R) = nameOfB (R.map foldL) := by
  have hp := fold_plain h
  unfold foldB nameOfB
  rw [joinD_fold]
  have hl : (joinD R).length = (joinD (R.map foldL)).length := by rw [← joinD_fold]; simp
  cases hn : nameB (joinD (R.map foldL)) with
  | false => simp
  | true =>
    have h2 : labelsOf (joinD (R.map foldL)) = R.map foldL := by
      unfold labelsOf
      by_cases h0 : R.map foldL = []
      · rw [h0]; simp [joinD]
      · rw [if_neg (plain_ne h0 hp), cut_joinD _ h0 (fun p h => (hp p h).2)]
    unfold nameB at hn
    rw [h2] at hn
    simp only [Bool.and_eq_true, decide_eq_true_eq] at hn
    rw [hn.1, hl, decide_eq_true hn.2.1]
theorem fold_text {R : List (List UInt8)} (h : Plain R) : foldT (joinD R) = if nameOfB (R.map foldL) = true then joinD (R.map foldL) else [] := by
  have hb := fold_name h
  unfold foldB at hb
  unfold foldT
  rw [← hb, joinD_fold]
  simp only [Bool.and_eq_true, decide_eq_true_eq]

/-- How far the reading has still to go. -/
def ms (l : List UInt8) (a least : Nat) : Nat := least * 70002 + (l.length - a)
/-- The reading from a place on. -/
def takeR (l : List UInt8) (a : Nat) : Option (List (List UInt8) × Nat × List Nat) := rd l (a * 70002 + 70002) a a none [] []
def takeN (l : List UInt8) (a : Nat) : Option (List UInt8 × Nat × List Nat) := nmR (takeR l a)

/-- The state of a reading that tells R. -/
def Going (l : List UInt8) (R : Option (List UInt8 × Nat × List Nat)) (a least : Nat) (pt : Option Nat) (raw : List (List UInt8)) (pl : List Nat) : Prop :=
  ∃ n, ms l a least < n ∧ nmR (rd l n a least pt raw pl) = R
theorem going_start (l : List UInt8) (a : Nat) (h : l.length ≤ 70000) : Going l (takeN l a) a a none [] [] :=
  ⟨a * 70002 + 70002, by unfold ms; omega, rfl⟩
section
variable {l : List UInt8} {R : Option (List UInt8 × Nat × List Nat)} {a least : Nat} {pt : Option Nat} {raw : List (List UInt8)} {pl : List Nat}
theorem going_out (g : Going l R a least pt raw pl) (h : ¬ a < l.length) : R = none := by
  obtain ⟨n, hn, hr⟩ := g
  obtain ⟨m, rfl⟩ : ∃ m, n = m + 1 := ⟨n - 1, by omega⟩
  rw [rd_out h] at hr; exact hr.symm
theorem going_end (g : Going l R a least pt raw pl) (h : a < l.length) (hc : l[a].toNat = 0) : R = nmR (some (raw, pt.getD (a + 1), pl)) := by
  obtain ⟨n, hn, hr⟩ := g
  obtain ⟨m, rfl⟩ : ∃ m, n = m + 1 := ⟨n - 1, by omega⟩
  rw [rd_end h hc] at hr; exact hr.symm
theorem going_lab (g : Going l R a least pt raw pl) (h : a < l.length) (h1 : ¬ l[a].toNat = 0) (h2 : l[a].toNat ≤ 20) (h3 : a + l[a].toNat < l.length) :
    Going l R (a + 1 + l[a].toNat) least pt (raw ++ [labAt l a l[a].toNat]) (if pt = none then pl ++ [a] else pl) ∧ ms l (a + 1 + l[a].toNat) least + 1 + l[a].toNat ≤ ms l a least := by
  obtain ⟨n, hn, hr⟩ := g
  obtain ⟨m, rfl⟩ : ∃ m, n = m + 1 := ⟨n - 1, by omega⟩
  rw [rd_lab h h1 h2 h3] at hr
  have : ms l (a + 1 + l[a].toNat) least + 1 + l[a].toNat ≤ ms l a least := by unfold ms; omega
  exact ⟨⟨m, by omega, hr⟩, this⟩
theorem going_lab_out (g : Going l R a least pt raw pl) (h : a < l.length) (h1 : ¬ l[a].toNat = 0) (h2 : l[a].toNat ≤ 20) (h3 : ¬ a + l[a].toNat < l.length) : R = none := by
  obtain ⟨n, hn, hr⟩ := g
  obtain ⟨m, rfl⟩ : ∃ m, n = m + 1 := ⟨n - 1, by omega⟩
  rw [rd_lab_out h h1 h2 h3] at hr; exact hr.symm
theorem going_mid (g : Going l R a least pt raw pl) (h : a < l.length) (h1 : ¬ l[a].toNat ≤ 20) (h2 : ¬ 192 ≤ l[a].toNat) : R = none := by
  obtain ⟨n, hn, hr⟩ := g
  obtain ⟨m, rfl⟩ : ∃ m, n = m + 1 := ⟨n - 1, by omega⟩
  rw [rd_mid h h1 h2] at hr; exact hr.symm
theorem going_ptr_out (g : Going l R a least pt raw pl) (h : a < l.length) (h1 : 192 ≤ l[a].toNat) (h2 : ¬ a + 1 < l.length) : R = none := by
  obtain ⟨n, hn, hr⟩ := g
  obtain ⟨m, rfl⟩ : ∃ m, n = m + 1 := ⟨n - 1, by omega⟩
  rw [rd_ptr_out h h1 h2] at hr; exact hr.symm
theorem going_ptr_no (g : Going l R a least pt raw pl) (h : a < l.length) (h1 : 192 ≤ l[a].toNat) (h2 : a + 1 < l.length) (h3 : ¬ (l[a].toNat - 192) * 256 + l[a + 1].toNat < least) : R = none := by
  obtain ⟨n, hn, hr⟩ := g
  obtain ⟨m, rfl⟩ : ∃ m, n = m + 1 := ⟨n - 1, by omega⟩
  rw [rd_ptr_no h h1 h2 h3] at hr; exact hr.symm
theorem going_ptr (g : Going l R a least pt raw pl) (hl : l.length ≤ 70000) (h : a < l.length) (h1 : 192 ≤ l[a].toNat) (h2 : a + 1 < l.length) {q : Nat} (hq : q = (l[a].toNat - 192) * 256 + l[a + 1].toNat) (h3 : q < least) :
    Going l R q q (some (pt.getD (a + 2))) raw pl ∧ ms l q q < ms l a least := by
  obtain ⟨n, hn, hr⟩ := g
  obtain ⟨m, rfl⟩ : ∃ m, n = m + 1 := ⟨n - 1, by omega⟩
  rw [rd_ptr h h1 h2 hq h3] at hr
  have : ms l q q < ms l a least := by clear hr hq; unfold ms; omega
  exact ⟨⟨m, by omega, hr⟩, this⟩
theorem going_long (g : Going l R a least pt raw pl) (h : 8 < raw.length) : R = none := by
  obtain ⟨n, hn, hr⟩ := g
  rw [nmR_long h] at hr; exact hr.symm
end
end Go.Proofs.YtdmellmmhipncaaGreatDoor

namespace Go.Proofs.YtdmellmmhipncaaGreatDoor
open Go.RowKit

/-- What stands at a place: 0 nothing, 1 an end, 2 a label, 3 a pointer. -/
def stands (l : List UInt8) (a : Nat) : Int :=
  if h : a < l.length then
    if l[a].toNat = 0 then 1 else if l[a].toNat ≤ 20 then (if a + l[a].toNat < l.length then 2 else 0) else if 192 ≤ l[a].toNat then (if a + 1 < l.length then 3 else 0) else 0
  else 0
theorem ret_intK {a b : Int} (h : a = b) : Ending.returned (.int .i64 a) = .returned (.int .i64 b) := by rw [h]

set_option maxRecDepth 20000 in
set_option maxHeartbeats 1000000 in
theorem whatStands_low (s : ByteArray) (a : Int) (w : World) (ha : a < 0) :
    Calls Tryz.prog 110 #[.string s, .int .i64 a] w fun e w' => e = .returned (.int .i64 0) ∧ w' = w := by
  go_enter Tryz.func110, Tryz.ntmps110
  go_wp2_with fail
  go_ret
  exact ⟨rfl, rfl⟩

set_option maxRecDepth 20000 in
set_option maxHeartbeats 2000000 in
theorem whatStands_any (s : ByteArray) (a : Nat) (w : World) (hs : s.size ≤ 70000) (ha64 : a ≤ 9223372036854775807) :
    Calls Tryz.prog 110 #[.string s, .int .i64 (a : Int)] w fun e w' => e = .returned (.int .i64 (stands s.data.toList a)) ∧ w' = w := by
  by_cases ha : a < s.size
  · have hc255 : s[a].toNat < 256 := s[a].toNat_lt
    have hst : stands s.data.toList a = if s[a].toNat = 0 then 1 else if s[a].toNat ≤ 20 then (if a + s[a].toNat < s.size then 2 else 0) else if 192 ≤ s[a].toNat then (if a + 1 < s.size then 3 else 0) else 0 := by
      have hal : a < s.data.toList.length := by simpa using ha
      unfold stands; rw [dif_pos hal]
      have e : s.data.toList[a] = s[a] := rfl
      have e2 : s.data.toList.length = s.size := by simp
      rw [e, e2]
    obtain ⟨c, hc⟩ : ∃ c : Nat, c = s[a].toNat := ⟨_, rfl⟩
    have hsa : (s[a].toNat : Int) ≤ 255 := by omega
    rw [← hc] at hst hc255
    have HST : Hid (stands s.data.toList a = if c = 0 then 1 else if c ≤ 20 then (if a + c < s.size then 2 else 0) else if 192 ≤ c then (if a + 1 < s.size then 3 else 0) else 0) := hst
    have hci : (s[a].toNat : Int) = (c : Int) := by rw [hc]
    clear hst
    by_cases h0 : c = 0
    · have HR : Hid (stands s.data.toList a = 1) := by rw [HST.out, if_pos h0]; exact rfl
      have e0 : ((s[a].toNat : Int) == 0) = true := by rw [hci, h0]; rfl
      clear HST hc hci
      go_enter Tryz.func110, Tryz.ntmps110
      go_wp2_with fail
      go_ret
      exact ⟨ret_intK HR.out.symm, rfl⟩
    · have e0 : ((s[a].toNat : Int) == 0) = false := by rw [hci, beq_eq_false_iff_ne]; omega
      by_cases h20 : c ≤ 20
      · have g20 : (s[a].toNat : Int) ≤ 20 := by rw [hci]; omega
        by_cases hin : a + c < s.size
        · have gin : (a : Int) + (s[a].toNat : Int) < (s.size : Int) := by rw [hci]; omega
          have HR : Hid (stands s.data.toList a = 2) := by rw [HST.out, if_neg h0, if_pos h20, if_pos hin]; exact rfl
          clear HST hc hci
          go_enter Tryz.func110, Tryz.ntmps110
          go_wp2_with fail
          go_ret
          exact ⟨ret_intK HR.out.symm, rfl⟩
        · have gin : decide ((a : Int) + (s[a].toNat : Int) < (s.size : Int)) = false := by rw [hci]; simp; omega
          have HR : Hid (stands s.data.toList a = 0) := by rw [HST.out, if_neg h0, if_pos h20, if_neg hin]; exact rfl
          clear HST hc hci
          go_enter Tryz.func110, Tryz.ntmps110
          go_wp2_with fail
          go_ret
          exact ⟨ret_intK HR.out.symm, rfl⟩
      · have g20 : decide ((s[a].toNat : Int) ≤ 20) = false := by rw [hci]; simp; omega
        by_cases h192 : 192 ≤ c
        · have g192 : (192 : Int) ≤ (s[a].toNat : Int) := by rw [hci]; omega
          by_cases hin : a + 1 < s.size
          · have HR : Hid (stands s.data.toList a = 3) := by rw [HST.out, if_neg h0, if_neg h20, if_pos h192, if_pos hin]; exact rfl
            clear HST hc hci
            go_enter Tryz.func110, Tryz.ntmps110
            go_wp2_with fail
            go_ret
            exact ⟨ret_intK HR.out.symm, rfl⟩
          · have HR : Hid (stands s.data.toList a = 0) := by rw [HST.out, if_neg h0, if_neg h20, if_pos h192, if_neg hin]; exact rfl
            have gin : decide ((a : Int) + 1 < (s.size : Int)) = false := by simp; omega
            clear HST hc hci
            go_enter Tryz.func110, Tryz.ntmps110
            go_wp2_with fail
            go_ret
            exact ⟨ret_intK HR.out.symm, rfl⟩
        · have g192 : decide ((192 : Int) ≤ (s[a].toNat : Int)) = false := by rw [hci]; simp; omega
          have HR : Hid (stands s.data.toList a = 0) := by rw [HST.out, if_neg h0, if_neg h20, if_neg h192]; exact rfl
          clear HST hc hci
          go_enter Tryz.func110, Tryz.ntmps110
          go_wp2_with fail
          go_ret
          exact ⟨ret_intK HR.out.symm, rfl⟩
  · have HR : Hid (stands s.data.toList a = 0) := by unfold stands; rw [dif_neg (by simpa using ha)]; exact rfl
    go_enter Tryz.func110, Tryz.ntmps110
    go_wp2_with fail
    go_ret
    exact ⟨ret_intK HR.out.symm, rfl⟩

set_option maxRecDepth 20000 in
set_option maxHeartbeats 1000000 in
theorem labelAt_any (s : ByteArray) (a : Nat) (w : World) (hs : s.size ≤ 70000) (ha : a < s.size) (hin : a + s[a].toNat < s.size) (hE : Env w) :
    Calls Tryz.prog 111 #[.string s, .int .i64 (a : Int)] w fun e w' => e = .returned (.string ⟨(foldL (labAt s.data.toList a s[a].toNat)).toArray⟩) ∧ Below w.heap.size w w' := by
  have hx := extract_S s (a + 1) (a + 1 + s[a].toNat)
  have hsz : (s.extract (a + 1) (a + 1 + s[a].toNat)).size ≤ maxLen := by
    rw [ByteArray.size_extract]; unfold maxLen; omega
  have hlo : (s.extract (a + 1) (a + 1 + s[a].toNat)).data.toList = labAt s.data.toList a s[a].toNat := by
    unfold labAt; rw [Lib.extract_data, List.drop_take]
  have HLO : Hid ((s.extract (a + 1) (a + 1 + s[a].toNat)).data.toList = labAt s.data.toList a s[a].toNat) := hlo
  clear hx hlo
  go_enter Tryz.func111, Tryz.ntmps111
  go_wp2_with fail
  refine (foldBytes_any _ w hsz hE).mono ?_
  rintro e w1 ⟨rfl, hb⟩
  rw [HLO.out]
  go_wp2_with fail
  go_ret
  exact ⟨rfl, hb⟩

set_option maxRecDepth 20000 in
set_option maxHeartbeats 1000000 in
theorem pointerAt_any (s : ByteArray) (a : Nat) (w : World) (hs : s.size ≤ 70000) (ha : a + 1 < s.size) (h192 : 192 ≤ s[a].toNat) :
    Calls Tryz.prog 112 #[.string s, .int .i64 (a : Int)] w fun e w' => e = .returned (.int .i64 (((s[a].toNat - 192) * 256 + s[a + 1].toNat : Nat) : Int)) ∧ Below w.heap.size w w' := by
  have ha0 : a < s.size := by omega
  have h1 : s[a].toNat < 256 := s[a].toNat_lt
  have h2 : s[a + 1].toNat < 256 := s[a + 1].toNat_lt
  have hix : Sem.run Tryz.prog (Instr.index 9 (.string s) (.int .i64 ((a : Int) + 1))) w.drew = .ok (.int .u8 (s[a + 1].toNat : Int)) w.drew := by
    rw [run_index_string _ _ _ _ _ Tryz.underlying9, dif_pos ⟨by omega, by omega⟩]
    have e : ((a : Int) + 1).toNat = a + 1 := by omega
    simp only [e]
  go_enter Tryz.func112, Tryz.ntmps112
  go_wp2_with fail
  go_region
  all_goals
    go_wp2_with fail
    go_ret
    exact ⟨ret_intK (by omega), below_drewN (Below.refl _ _) _⟩
end Go.Proofs.YtdmellmmhipncaaGreatDoor
