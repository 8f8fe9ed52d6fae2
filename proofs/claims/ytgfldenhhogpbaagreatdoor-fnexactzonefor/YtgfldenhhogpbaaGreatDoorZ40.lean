import Derived.Test.YtgfldenhhogpbaaGreatDoorZ39
import Derived.Test.YtgfldenhhogpbaaGreatDoorZ33
namespace Go.Proofs.YtgfldenhhogpbaaGreatDoor
open Go.RowKit

/-- A name is there: it has a record, or one below it has. -/
def thereB (L : List (List UInt8 × Int × Int × List UInt8)) (n : List UInt8) : Bool := L.any (fun x => belowB x.1 n)
/-- The least number below J that is so, or J. -/
def leastN (p : Nat → Bool) : Nat → Nat
  | 0 => 0
  | J + 1 => if leastN p J < J then leastN p J else if p J = true then J else J + 1
theorem least_facts (p : Nat → Bool) : ∀ J, leastN p J ≤ J ∧ (∀ i, i < leastN p J → p i = false) ∧ (leastN p J < J → p (leastN p J) = true)
  | 0 => ⟨Nat.le_refl _, fun i h => absurd h (Nat.not_lt_zero _), fun h => absurd h (Nat.not_lt_zero _)⟩
  | J + 1 => by
    obtain ⟨h1, h2, h3⟩ := least_facts p J
    rw [leastN]
    by_cases h : leastN p J < J
    · rw [if_pos h]; exact ⟨by omega, h2, fun _ => h3 h⟩
    · have hJ : leastN p J = J := by omega
      rw [if_neg h]
      rw [hJ] at h2
      by_cases hp : p J = true
      · rw [if_pos hp]; exact ⟨by omega, h2, fun _ => hp⟩
      · rw [if_neg hp]
        refine ⟨Nat.le_refl _, fun i hi => ?_, fun h' => absurd h' (Nat.lt_irrefl _)⟩
        rcases Nat.lt_or_ge i J with h' | h'
        · exact h2 i h'
        · obtain rfl : i = J := by omega
          simpa using hp
theorem least_is {p : Nat → Bool} {J j : Nat} (hj : j ≤ J) (h : ∀ i, i < j → p i = false) (ht : j = J ∨ p j = true) : leastN p J = j := by
  obtain ⟨h1, h2, h3⟩ := least_facts p J
  rcases Nat.lt_trichotomy (leastN p J) j with hl | hl | hl
  · have := h _ hl; rw [h3 (by omega)] at this; cases this
  · exact hl
  · rcases ht with rfl | ht
    · omega
    · have := h2 _ hl; rw [ht] at this; cases this
/-- The longest name that is there, at or above a name. -/
def enclN (ap : List UInt8) (L : List (List UInt8 × Int × Int × List UInt8)) (nm : List UInt8) : Nat := leastN (fun j => thereB L (upAt nm j)) (upN ap nm)
def encl (ap : List UInt8) (L : List (List UInt8 × Int × Int × List UInt8)) (nm : List UInt8) : List UInt8 := upAt nm (enclN ap L nm)

theorem zone_facts {ap : List UInt8} {ct : Int} {L : List (List UInt8 × Int × Int × List UInt8)} (h : zoneB ap ct L = true) : nameB ap = true ∧ aresB L = true ∧ risesB L = true ∧ allB ap L = true ∧ soaB ap L = true ∧ L.length ≤ 40 := by
  unfold zoneB at h
  simp only [Bool.and_eq_true, decide_eq_true_eq] at h
  obtain ⟨_, h, _⟩ := h
  unfold ruleB at h
  by_cases hc : (apexB ap && listB L) = true
  · rw [if_pos hc] at h
    rw [Bool.and_eq_true] at hc
    have h2 := hc.2
    unfold listB at h2
    simp only [Bool.and_eq_true, decide_eq_true_eq] at h2
    refine ⟨apex_name hc.1, h2.2.1, h2.2.2, ?_, ?_, h2.1⟩
    · cases ha : allB ap L with
      | true => rfl
      | false => unfold ruleI at h; rw [if_pos ha] at h; cases h
    · cases ha : soaB ap L with
      | true => rfl
      | false =>
        unfold ruleI at h
        by_cases hb : allB ap L = false
        · rw [if_pos hb] at h; cases h
        · rw [if_neg hb, if_pos ha] at h; cases h
  · rw [if_neg hc] at h; cases h
theorem below_self (a : List UInt8) : belowB a a = true := by unfold belowB; simp
theorem there_apex {ap : List UInt8} {L : List (List UInt8 × Int × Int × List UInt8)} (h : soaB ap L = true) : thereB L ap = true := by
  unfold soaB at h
  simp only [Bool.and_eq_true, decide_eq_true_eq] at h
  have h2 := h.2
  unfold nAt at h2
  obtain ⟨x, hx⟩ : ∃ x, x ∈ L.filter (fun x => x.2.1 == 6 && x.1 == ap) := by
    cases e : L.filter (fun x => x.2.1 == 6 && x.1 == ap) with
    | nil => rw [e] at h2; cases h2
    | cons x r => exact ⟨x, by simp⟩
  obtain ⟨hm, hp⟩ := List.mem_filter.1 hx
  simp only [Bool.and_eq_true, beq_iff_eq] at hp
  unfold thereB
  rw [List.any_eq_true]
  exact ⟨x, hm, by rw [hp.2]; exact below_self ap⟩

/-- The first record of type 2, not at the apex, that a name is below. -/
def cutP (ap nm : List UInt8) (x : (List UInt8 × Int × Int × List UInt8)) : Bool := (x.2.1 == 2 && !(x.1 == ap)) && belowB nm x.1
def cutF (ap : List UInt8) (L : List (List UInt8 × Int × Int × List UInt8)) (nm : List UInt8) : Option (List UInt8) := (L.find? (cutP ap nm)).map (fun x => x.1)
theorem below_le {a b : List UInt8} (ha : nameB a = true) (hb : nameB b = true) (h : belowB a b = true) : cmpN b a ≠ 1 := by
  have h1 := (below_iff ha hb).1 h
  exact pre_le _ _ h1
theorem up_lt {ap nm c : List UInt8} (hap : nameB ap = true) (hnm : nameB nm = true) (hc : nameB c = true) (h1 : belowB nm c = true) (h2 : belowB c ap = true) (hne : c ≠ ap) : ∃ j, j < upN ap nm ∧ upAt nm j = c := by
  obtain ⟨e, hl⟩ := up_of hnm hc h1
  obtain ⟨e2, hl2⟩ := up_of hc hap h2
  refine ⟨_, ?_, e⟩
  have hlt : (labelsOf ap).length < (labelsOf c).length := by
    rcases Nat.lt_or_ge (labelsOf ap).length (labelsOf c).length with h' | h'
    · exact h'
    · exfalso
      have : (labelsOf c).length - (labelsOf ap).length = 0 := by omega
      rw [this] at e2
      unfold upAt at e2
      rw [List.drop_zero, joinD_labels] at e2
      exact hne e2
  unfold upN
  omega
theorem up_up {nm : List UInt8} (h : nameB nm = true) {i j : Nat} (hij : i ≤ j) : belowB (upAt nm i) (upAt nm j) = true := by
  obtain ⟨_, a2, _⟩ := up_below h i
  obtain ⟨_, b2, _⟩ := up_below h j
  have hi : labelsOf (upAt nm i) = (labelsOf nm).drop i := labels_join ((name_plain h).drop i)
  have hj : labelsOf (upAt nm j) = (labelsOf nm).drop j := labels_join ((name_plain h).drop j)
  rw [below_iff a2 b2, List.reverse_prefix, hi, hj]
  have e : (labelsOf nm).drop j = ((labelsOf nm).drop i).drop (j - i) := by rw [List.drop_drop]; congr 1; omega
  rw [e]
  exact List.drop_suffix _ _
theorem find_first {p : (List UInt8 × Int × Int × List UInt8) → Bool} : ∀ {L : List (List UInt8 × Int × Int × List UInt8)} {x : (List UInt8 × Int × Int × List UInt8)}, L.find? p = some x → ∃ i, ∃ h : i < L.length, L[i] = x ∧ p x = true ∧ ∀ j, (hj : j < L.length) → p L[j] = true → i ≤ j
  | [], x, h => by simp at h
  | y :: r, x, h => by
    rw [List.find?_cons] at h
    cases hp : p y with
    | true =>
      rw [hp] at h
      simp only [Option.some.injEq] at h
      subst h
      exact ⟨0, by simp, rfl, hp, fun j _ _ => Nat.zero_le _⟩
    | false =>
      rw [hp] at h
      obtain ⟨i, hi, e, hx, hf⟩ := find_first h
      refine ⟨i + 1, by simpa using hi, by simpa using e, hx, fun j hj hpj => ?_⟩
      cases j with
      | zero => rw [show (y :: r)[0] = y from rfl, hp] at hpj; cases hpj
      | succ j => have := hf j (by simpa using hj) (by simpa using hpj); omega
theorem cut7_same {ap : List UInt8} {L : List (List UInt8 × Int × Int × List UInt8)} {nm : List UInt8} (hap : nameB ap = true) (hnm : nameB nm = true) (hg : aresB L = true) (hr : risesB L = true) (ha : allB ap L = true) : (zcutJ L nm (upN ap nm)).map (upAt nm) = cutF ap L nm := by
  have HB : ∀ x ∈ L, belowB x.1 ap = true := fun x hx => List.all_eq_true.1 ha x hx
  have HN : ∀ x ∈ L, nameB x.1 = true := fun x hx => ares_name hg hx
  unfold cutF
  cases hF : L.find? (cutP ap nm) with
  | none =>
    cases hj : zcutJ L nm (upN ap nm) with
    | none => rfl
    | some j =>
      exfalso
      obtain ⟨h1, h2, _⟩ := last_some hj
      obtain ⟨k, hk, e1, e2⟩ := held_iff.1 h2
      obtain ⟨u1, _, _⟩ := up_below hnm j
      have hne := (up_ne hnm h1).1
      have := List.find?_eq_none.1 hF k hk
      unfold cutP at this
      rw [e1, e2, u1] at this
      simp [hne] at this
  | some x =>
    obtain ⟨i, hi, ei, hx, hf⟩ := find_first hF
    have hxm : x ∈ L := ei ▸ List.getElem_mem hi
    have hx' := hx
    unfold cutP at hx'
    simp only [Bool.and_eq_true, beq_iff_eq, Bool.not_eq_true', beq_eq_false_iff_ne] at hx'
    obtain ⟨⟨x2, xne⟩, xb⟩ := hx'
    obtain ⟨j0, hj0, ej0⟩ := up_lt hap hnm (HN x hxm) xb (HB x hxm) xne
    have hheld : heldB L (upAt nm j0) 2 = true := held_iff.2 ⟨x, hxm, ej0.symm, x2⟩
    cases hj : zcutJ L nm (upN ap nm) with
    | none => have := last_none hj j0 hj0; rw [hheld] at this; cases this
    | some j =>
      obtain ⟨h1, h2, h3⟩ := last_some hj
      have hle := h3 j0 hj0 hheld
      obtain ⟨k, hk, e1, e2⟩ := held_iff.1 h2
      obtain ⟨u1, u2, _⟩ := up_below hnm j
      have hne := (up_ne hnm h1).1
      obtain ⟨m, hm, em⟩ := List.getElem_of_mem hk
      have hpm : cutP ap nm L[m] = true := by
        rw [em]; unfold cutP; rw [e1, e2, u1]; simp [hne]
      have him := hf m hm hpm
      have c1 := rise_mono hg hr i m him hm
      rw [ei, em, e1] at c1
      have hb := up_up hnm hle
      rw [ej0] at hb
      have c2 := below_le (HN x hxm) u2 hb
      show some (upAt nm j) = some x.1
      rw [le_anti c1 c2]
/-- What CutAbove tells. -/
def cutT (ap : List UInt8) (L : List (List UInt8 × Int × Int × List UInt8)) (nm : List UInt8) : List UInt8 × Bool := ((cutF ap L nm).getD [], (cutF ap L nm).isSome)
theorem cutT_same {ap : List UInt8} {L : List (List UInt8 × Int × Int × List UInt8)} {nm : List UInt8} (hap : nameB ap = true) (hnm : nameB nm = true) (hg : aresB L = true) (hr : risesB L = true) (ha : allB ap L = true) : cutV nm (zcutJ L nm (upN ap nm)) = cutT ap L nm := by
  unfold cutT cutV
  rw [← cut7_same hap hnm hg hr ha]
  cases zcutJ L nm (upN ap nm) <;> rfl
/-- A name that lies in a good zone. -/
def inZ (ap : List UInt8) (ct : Int) (L : List (List UInt8 × Int × Int × List UInt8)) (nm : List UInt8) : Bool := zoneB ap ct L && (nameB nm && belowB nm ap)
/-- What EncloserOf and CutAbove tell. -/
def encT (ap : List UInt8) (ct : Int) (L : List (List UInt8 × Int × Int × List UInt8)) (nm : List UInt8) : List UInt8 × Bool := if inZ ap ct L nm = true then (encl ap L nm, true) else ([], false)
def cutZ (ap : List UInt8) (ct : Int) (L : List (List UInt8 × Int × Int × List UInt8)) (nm : List UInt8) : List UInt8 × Bool := if inZ ap ct L nm = true then cutT ap L nm else ([], false)
theorem inZ_facts {ap : List UInt8} {ct : Int} {L : List (List UInt8 × Int × Int × List UInt8)} {nm : List UInt8} (h : inZ ap ct L nm = true) : zoneB ap ct L = true ∧ nameB nm = true ∧ belowB nm ap = true := by
  unfold inZ at h; simp only [Bool.and_eq_true] at h; exact h
end Go.Proofs.YtgfldenhhogpbaaGreatDoor
