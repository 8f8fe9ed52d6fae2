import Derived.Test.YtoobaaklklommaaGreatDoorZ26
import Derived.Test.YtoobaaklklommaaGreatDoorZ29
import Derived.Test.YtoobaaklklommaaGreatDoorZ12
import Derived.Test.YtoobaaklklommaaGreatDoorZ10
namespace Go.Proofs.YtoobaaklklommaaGreatDoor
open Go.RowKit

/-- All neighbours of a list are so. -/
def adjB (p : (List UInt8 × Int × Int × List UInt8) → (List UInt8 × Int × Int × List UInt8) → Bool) : List (List UInt8 × Int × Int × List UInt8) → Bool
  | [] => true
  | [_] => true
  | x :: y :: r => p x y && adjB p (y :: r)
theorem adj_iff (p : (List UInt8 × Int × Int × List UInt8) → (List UInt8 × Int × Int × List UInt8) → Bool) : ∀ L : List (List UInt8 × Int × Int × List UInt8), adjB p L = true ↔ ∀ j, (h : j + 1 < L.length) → p (L[j]'(by omega)) L[j + 1] = true
  | [] => ⟨fun _ j h => by simp at h, fun _ => rfl⟩
  | [_] => ⟨fun _ j h => by simp at h, fun _ => rfl⟩
  | x :: y :: r => by
    have ih := adj_iff p (y :: r)
    rw [adjB, Bool.and_eq_true, ih]
    constructor
    · rintro ⟨h1, h2⟩ j h
      cases j with
      | zero => exact h1
      | succ j => exact h2 j (by simpa using h)
    · intro h
      exact ⟨h 0 (by simp), fun j hj => h (j + 1) (by simpa using hj)⟩
theorem adj_bad {p : (List UInt8 × Int × Int × List UInt8) → (List UInt8 × Int × Int × List UInt8) → Bool} {L : List (List UInt8 × Int × Int × List UInt8)} (j : Nat) (h : j + 1 < L.length) (hp : p (L[j]'(by omega)) L[j + 1] = false) : adjB p L = false := by
  cases hc : adjB p L with
  | false => exact rfl
  | true => exact absurd ((adj_iff p L).1 hc j h) (by rw [hp]; simp)
theorem adj_same {p q : (List UInt8 × Int × Int × List UInt8) → (List UInt8 × Int × Int × List UInt8) → Bool} {L : List (List UInt8 × Int × Int × List UInt8)} (h : ∀ j, (hj : j + 1 < L.length) → p (L[j]'(by omega)) L[j + 1] = q (L[j]'(by omega)) L[j + 1]) : adjB p L = adjB q L := by
  rw [Bool.eq_iff_iff, adj_iff, adj_iff]
  exact ⟨fun g j hj => by rw [← h j hj]; exact g j hj, fun g j hj => by rw [h j hj]; exact g j hj⟩

/-- The order of records. -/
def cmp4 (x y : (List UInt8 × Int × Int × List UInt8)) : Int := ordR x.1 x.2.1 x.2.2.1 x.2.2.2 y.1 y.2.1 y.2.2.1 y.2.2.2
def risesB (L : List (List UInt8 × Int × Int × List UInt8)) : Bool := adjB (fun x y => decide (cmp4 x y < 0)) L
/-- Records as a zone has them. -/
def listB (L : List (List UInt8 × Int × Int × List UInt8)) : Bool := decide (L.length ≤ 40) && (aresB L && risesB L)

def allB (ap : List UInt8) (L : List (List UInt8 × Int × Int × List UInt8)) : Bool := L.all (fun x => belowB x.1 ap)
/-- As many records of type 6 are at a name; as many are elsewhere. -/
def nAt (ap : List UInt8) (L : List (List UInt8 × Int × Int × List UInt8)) : Nat := (L.filter (fun x => x.2.1 == 6 && x.1 == ap)).length
def nOff (ap : List UInt8) (L : List (List UInt8 × Int × Int × List UInt8)) : Nat := (L.filter (fun x => x.2.1 == 6 && !(x.1 == ap))).length
def soaB (ap : List UInt8) (L : List (List UInt8 × Int × Int × List UInt8)) : Bool := decide (nOff ap L = 0) && decide (nAt ap L = 1)
def ttlP (x y : (List UInt8 × Int × Int × List UInt8)) : Bool := !((x.1 == y.1 && x.2.1 == y.2.1) && !(x.2.2.1 == y.2.2.1))
def cnP (x y : (List UInt8 × Int × Int × List UInt8)) : Bool := !(x.1 == y.1 && (x.2.1 == 5 || y.2.1 == 5))
def heldB (L : List (List UInt8 × Int × Int × List UInt8)) (n : List UInt8) (t : Int) : Bool := L.any (fun x => x.1 == n && x.2.1 == t)
def mayB (r c : (List UInt8 × Int × Int × List UInt8)) : Bool := !(belowB r.1 c.1) || (r.2.1 == 1 || (r.1 == c.1 && r.2.1 == c.2.1))
def cutsB (ap : List UInt8) (L : List (List UInt8 × Int × Int × List UInt8)) : Bool := L.all (fun c => (!(c.2.1 == 2) || c.1 == ap) || L.all (fun r => mayB r c))
/-- The first rule that is broken, as the program looks for it. -/
def ruleI (ap : List UInt8) (L : List (List UInt8 × Int × Int × List UInt8)) : Int :=
  if allB ap L = false then 1 else if soaB ap L = false then 2 else if adjB ttlP L = false then 3 else if adjB cnP L = false then 4 else if heldB L ap 5 = true then 5 else if cutsB ap L = false then 6 else 0

/-- The cut at or above a name, nearest to the apex. -/
def upAt (nm : List UInt8) (j : Nat) : List UInt8 := joinD ((labelsOf nm).drop j)
def upN (ap nm : List UInt8) : Nat := (labelsOf nm).length - (labelsOf ap).length
def zcutJ (L : List (List UInt8 × Int × Int × List UInt8)) (nm : List UInt8) (J : Nat) : Option Nat := ((List.range J).filter (fun j => heldB L (upAt nm j) 2)).getLast?
def zcutR (ap : List UInt8) (L : List (List UInt8 × Int × Int × List UInt8)) (nm : List UInt8) : Option (List UInt8) := (zcutJ L nm (upN ap nm)).map (upAt nm)
def ttlS (x y : (List UInt8 × Int × Int × List UInt8)) : Bool := !((x.1 == y.1 && x.2.1 == y.2.1) && (!(x.2.2.1 == y.2.2.1) || x.2.2.2 == y.2.2.2))
def pairB (p : (List UInt8 × Int × Int × List UInt8) → (List UInt8 × Int × Int × List UInt8) → Bool) : List (List UInt8 × Int × Int × List UInt8) → Bool
  | [] => true
  | x :: r => r.all (p x) && pairB p r
def okAt (c : Option (List UInt8)) (r : (List UInt8 × Int × Int × List UInt8)) : Bool := match c with | none => true | some c => r.2.1 == 1 || (r.2.1 == 2 && r.1 == c)
def zcutS (ap : List UInt8) (L : List (List UInt8 × Int × Int × List UInt8)) : Bool := L.all (fun r => okAt (zcutR ap L r.1) r)
/-- The first rule that is broken, as the specification looks for it. -/
def ruleS (ap : List UInt8) (L : List (List UInt8 × Int × Int × List UInt8)) : Int :=
  if allB ap L = false then 1 else if ¬ nAt ap L + 2 * nOff ap L = 1 then 2 else if adjB ttlS L = false then 3 else if pairB cnP L = false then 4 else if heldB L ap 5 = true then 5 else if zcutS ap L = false then 6 else 0

theorem pair_iff (p : (List UInt8 × Int × Int × List UInt8) → (List UInt8 × Int × Int × List UInt8) → Bool) : ∀ L : List (List UInt8 × Int × Int × List UInt8), pairB p L = true ↔ ∀ i j, (hij : i < j) → (hj : j < L.length) → p (L[i]'(by omega)) L[j] = true
  | [] => ⟨fun _ i j _ hj => by simp at hj, fun _ => rfl⟩
  | x :: r => by
    have ih := pair_iff p r
    rw [pairB, Bool.and_eq_true, ih, List.all_eq_true]
    constructor
    · rintro ⟨h1, h2⟩ i j hij hj
      cases j with
      | zero => omega
      | succ j =>
        have hj' : j < r.length := by simpa using hj
        cases i with
        | zero => exact h1 _ (List.getElem_mem hj')
        | succ i => exact h2 i j (by omega) hj'
    · intro h
      refine ⟨fun y hy => ?_, fun i j hij hj => h (i + 1) (j + 1) (by omega) (by simpa using hj)⟩
      obtain ⟨j, hj, rfl⟩ := List.getElem_of_mem hy
      exact h 0 (j + 1) (by omega) (by simpa using hj)

theorem ares_get {L : List (List UInt8 × Int × Int × List UInt8)} (h : aresB L = true) (j : Nat) (hj : j < L.length) : recB L[j].1 L[j].2.1 L[j].2.2.1 L[j].2.2.2 = true := by
  unfold aresB at h; exact List.all_eq_true.1 h _ (List.getElem_mem hj)
theorem ares_name {L : List (List UInt8 × Int × Int × List UInt8)} (h : aresB L = true) {x : (List UInt8 × Int × Int × List UInt8)} (hx : x ∈ L) : nameB x.1 = true := by
  obtain ⟨j, hj, rfl⟩ := List.getElem_of_mem hx
  exact (recB_name (ares_get h j hj)).1

theorem cmp4_name {x y : (List UInt8 × Int × Int × List UInt8)} (hx : nameB x.1 = true) (hy : nameB y.1 = true) (h : cmp4 x y < 0) : cmpN x.1 y.1 ≠ 1 := by
  intro hc
  have e : cmpT x.1 y.1 = 1 := by rw [cmpT_good ⟨hx, hy⟩]; exact hc
  unfold cmp4 ordR ordA at h
  rw [e] at h
  simp [orI] at h
theorem le_trans4 {a b c : List UInt8} (h1 : cmpN a b ≠ 1) (h2 : cmpN b c ≠ 1) : cmpN a c ≠ 1 := by
  rcases cmpR_vals (labelsOf a).reverse (labelsOf b).reverse with e1 | e1 | e1
  · rcases cmpR_vals (labelsOf b).reverse (labelsOf c).reverse with e2 | e2 | e2
    · have := cmpR_trans _ _ _ e1 e2; unfold cmpN; rw [this]; decide
    · have := cmpN_zero (x := b) (y := c) e2; subst this; exact h1
    · exact absurd e2 h2
  · have := cmpN_zero (x := a) (y := b) e1; subst this; exact h2
  · exact absurd e1 h1
theorem le_anti {a b : List UInt8} (h1 : cmpN a b ≠ 1) (h2 : cmpN b a ≠ 1) : a = b := by
  rcases cmpR_vals (labelsOf a).reverse (labelsOf b).reverse with e1 | e1 | e1
  · have h := cmpN_swap a b; unfold cmpN at h h2; rw [e1] at h; exact absurd h h2
  · exact cmpN_zero e1
  · exact absurd e1 h1
theorem rise_mono {L : List (List UInt8 × Int × Int × List UInt8)} (hg : aresB L = true) (hr : risesB L = true) (i : Nat) : ∀ j, (hij : i ≤ j) → (hj : j < L.length) → cmpN (L[i]'(by omega)).1 L[j].1 ≠ 1
  | j, hij, hj => by
    by_cases e : i = j
    · subst e; rw [cmpN_self]; decide
    · cases j with
      | zero => omega
      | succ j =>
        have ih := rise_mono hg hr i j (by omega) (by omega)
        have h := (adj_iff _ L).1 hr j hj
        have h' := cmp4_name (ares_name hg (List.getElem_mem (by omega : j < L.length))) (ares_name hg (List.getElem_mem hj)) (by simpa using h)
        exact le_trans4 ih h'
theorem rise_mid {L : List (List UInt8 × Int × Int × List UInt8)} (hg : aresB L = true) (hr : risesB L = true) {i m j : Nat} (h1 : i ≤ m) (h2 : m ≤ j) (hj : j < L.length) (h : (L[i]'(by omega)).1 = L[j].1) : (L[m]'(by omega)).1 = (L[i]'(by omega)).1 := by
  have a := rise_mono hg hr i m h1 (by omega)
  have b := rise_mono hg hr m j h2 hj
  rw [← h] at b
  exact (le_anti a b).symm

theorem cn_same {L : List (List UInt8 × Int × Int × List UInt8)} (hg : aresB L = true) (hr : risesB L = true) : adjB cnP L = pairB cnP L := by
  rw [Bool.eq_iff_iff, adj_iff, pair_iff]
  constructor
  · intro h i j hij hj
    cases hc : cnP (L[i]'(by omega)) L[j] with
    | true => exact rfl
    | false =>
      exfalso
      unfold cnP at hc
      simp only [Bool.not_eq_false', Bool.and_eq_true, beq_iff_eq, Bool.or_eq_true] at hc
      obtain ⟨hn, ht | ht⟩ := hc
      · have hm := rise_mid hg hr (Nat.le_succ i) hij hj hn
        have := h i (by omega)
        unfold cnP at this
        simp [hm, ht] at this
      · have hm := rise_mid hg hr (i := i) (m := j - 1) (by omega) (by omega) hj hn
        have := h (j - 1) (by omega)
        unfold cnP at this
        have e : j - 1 + 1 = j := by omega
        simp only [e] at this
        simp [hm, hn, ht] at this
  · exact fun h j hj => h j (j + 1) (by omega) hj

theorem ttl_same {L : List (List UInt8 × Int × Int × List UInt8)} (hr : risesB L = true) (hg : aresB L = true) : adjB ttlP L = adjB ttlS L := by
  refine adj_same fun j hj => ?_
  have h := (adj_iff _ L).1 hr j hj
  have h0 : cmp4 (L[j]'(by omega)) L[j + 1] < 0 := by simpa using h
  have hn := ares_name hg (List.getElem_mem (by omega : j < L.length))
  unfold ttlP ttlS
  cases hc : (L[j]'(by omega)).2.2.1 == L[j + 1].2.2.1 with
  | false => rfl
  | true =>
    cases hd : (L[j]'(by omega)).2.2.2 == L[j + 1].2.2.2 with
    | false => rfl
    | true =>
      cases hb : ((L[j]'(by omega)).1 == L[j + 1].1 && (L[j]'(by omega)).2.1 == L[j + 1].2.1) with
      | false => rfl
      | true =>
        exfalso
        simp only [beq_iff_eq, Bool.and_eq_true] at hc hd hb
        obtain ⟨e1, e2⟩ := hb
        obtain ⟨x, hx⟩ : ∃ x, x = L[j]'(by omega) := ⟨_, rfl⟩
        obtain ⟨y, hy⟩ : ∃ y, y = L[j + 1]'hj := ⟨_, rfl⟩
        rw [← hx, ← hy] at e1 e2 hc hd h0
        rw [← hx] at hn
        obtain ⟨x1, x2, x3, x4⟩ := x
        obtain ⟨y1, y2, y3, y4⟩ := y
        simp only at e1 e2 hc hd hn
        subst e1 e2 hc hd
        have c0 : cmpT x1 x1 = 0 := by rw [cmpT_good ⟨hn, hn⟩]; exact cmpN_self x1
        have c1 : Lib.compareInt x2 x2 = 0 := (ci_zero _ _).2 rfl
        have c2 : Lib.compareInt x3 x3 = 0 := (ci_zero _ _).2 rfl
        unfold cmp4 ordR ordA ordB at h0
        simp only [c0, c1, c2, cmp_self] at h0
        simp [orI] at h0

theorem soa_same (ap : List UInt8) (L : List (List UInt8 × Int × Int × List UInt8)) : (soaB ap L = false) ↔ ¬ nAt ap L + 2 * nOff ap L = 1 := by
  unfold soaB
  rw [← Bool.decide_and, decide_eq_false_iff_not]
  constructor
  · intro h g; exact h ⟨by omega, by omega⟩
  · intro h g; exact h (by omega)

theorem held_iff {L : List (List UInt8 × Int × Int × List UInt8)} {n : List UInt8} {t : Int} : heldB L n t = true ↔ ∃ x ∈ L, x.1 = n ∧ x.2.1 = t := by
  unfold heldB; rw [List.any_eq_true]; simp

theorem last_some {J : Nat} {p : Nat → Bool} {j : Nat} (h : ((List.range J).filter p).getLast? = some j) : j < J ∧ p j = true ∧ ∀ i, i < J → p i = true → i ≤ j := by
  induction J with
  | zero => simp at h
  | succ J ih =>
    rw [List.range_succ, List.filter_append] at h
    cases hp : p J with
    | true =>
      have e : [J].filter p = [J] := by simp [hp]
      rw [e, List.getLast?_append] at h
      simp at h
      subst h
      exact ⟨by omega, hp, fun i hi _ => by omega⟩
    | false =>
      have e : [J].filter p = [] := by simp [hp]
      rw [e, List.append_nil] at h
      obtain ⟨a, b, c⟩ := ih h
      refine ⟨by omega, b, fun i hi hpi => ?_⟩
      rcases Nat.lt_or_ge i J with h' | h'
      · exact c i h' hpi
      · have : i = J := by omega
        subst this; rw [hp] at hpi; cases hpi
theorem last_none {J : Nat} {p : Nat → Bool} (h : ((List.range J).filter p).getLast? = none) : ∀ i, i < J → p i = false := by
  intro i hi
  rw [List.getLast?_eq_none_iff] at h
  cases hp : p i with
  | false => exact rfl
  | true =>
    have : i ∈ (List.range J).filter p := List.mem_filter.2 ⟨List.mem_range.2 hi, hp⟩
    rw [h] at this; cases this

/-- What a name is below, by how many labels are left out. -/
theorem up_of {a c : List UInt8} (ha : nameB a = true) (hc : nameB c = true) (h : belowB a c = true) : upAt a ((labelsOf a).length - (labelsOf c).length) = c ∧ (labelsOf c).length ≤ (labelsOf a).length := by
  have hb := (below_iff ha hc).1 h
  have hs : labelsOf c <:+ labelsOf a := List.reverse_prefix.1 hb
  obtain ⟨t, ht⟩ := hs
  have hl : (labelsOf a).length = t.length + (labelsOf c).length := by rw [← ht]; simp
  refine ⟨?_, by omega⟩
  unfold upAt
  have : (labelsOf a).length - (labelsOf c).length = t.length := by omega
  rw [this, ← ht, List.drop_left, joinD_labels]
theorem up_below {a : List UInt8} (ha : nameB a = true) (j : Nat) : belowB a (upAt a j) = true ∧ nameB (upAt a j) = true ∧ (labelsOf (upAt a j)).length = (labelsOf a).length - j := by
  have hn := name_drop ha j
  have hl : labelsOf (upAt a j) = (labelsOf a).drop j := labels_join ((name_plain ha).drop j)
  refine ⟨(below_iff ha hn).2 ?_, hn, by rw [hl]; simp⟩
  show (labelsOf (upAt a j)).reverse <+: (labelsOf a).reverse
  rw [hl, List.reverse_prefix]
  exact List.drop_suffix j _

theorem cut_same {ap : List UInt8} {L : List (List UInt8 × Int × Int × List UInt8)} (hap : nameB ap = true) (hg : aresB L = true) (hb : allB ap L = true) : cutsB ap L = zcutS ap L := by
  have HB : ∀ x ∈ L, belowB x.1 ap = true := fun x hx => List.all_eq_true.1 hb x hx
  have HN : ∀ x ∈ L, nameB x.1 = true := fun x hx => ares_name hg hx
  rw [Bool.eq_iff_iff]
  unfold cutsB zcutS
  rw [List.all_eq_true, List.all_eq_true]
  constructor
  · intro h r hr
    unfold zcutR
    cases hj : zcutJ L r.1 (upN ap r.1) with
    | none => rfl
    | some j =>
      obtain ⟨h1, h2, _⟩ := last_some hj
      obtain ⟨k, hk, e1, e2⟩ := held_iff.1 h2
      obtain ⟨u1, u2, u3⟩ := up_below (HN r hr) j
      have hne : k.1 ≠ ap := by
        intro e
        rw [e1] at e
        rw [e] at u3
        unfold upN at h1
        omega
      have h3 := h k hk
      have e3 : (k.1 == ap) = false := by simpa using hne
      rw [e2, e3] at h3
      have h4 : L.all (fun r => mayB r k) = true := by simpa using h3
      have h5 := List.all_eq_true.1 h4 r hr
      unfold mayB at h5
      rw [e1, u1, e2] at h5
      show (r.2.1 == 1 || (r.2.1 == 2 && r.1 == upAt r.1 j)) = true
      simp only [Bool.not_true, Bool.false_or, Bool.or_eq_true, Bool.and_eq_true] at h5 ⊢
      rcases h5 with h5 | ⟨h5, h6⟩
      · exact .inl h5
      · exact .inr ⟨h6, h5⟩
  · intro h k hk
    by_cases hkt : k.2.1 = 2 ∧ k.1 ≠ ap
    · obtain ⟨e2, hne⟩ := hkt
      have e3 : (k.1 == ap) = false := by simpa using hne
      rw [e2, e3]
      have hall : L.all (fun r => mayB r k) = true := by
        rw [List.all_eq_true]
        intro r hr
        cases hbl : belowB r.1 k.1 with
        | false => unfold mayB; rw [hbl]; rfl
        | true =>
          obtain ⟨ej, hlk⟩ := up_of (HN r hr) (HN k hk) hbl
          obtain ⟨ea, hla⟩ := up_of (HN k hk) hap (HB k hk)
          obtain ⟨er, hlr⟩ := up_of (HN r hr) hap (HB r hr)
          have hlt : (labelsOf ap).length < (labelsOf k.1).length := by
            rcases Nat.lt_or_ge (labelsOf ap).length (labelsOf k.1).length with h' | h'
            · exact h'
            · exfalso
              have : (labelsOf k.1).length - (labelsOf ap).length = 0 := by omega
              rw [this] at ea
              unfold upAt at ea
              rw [List.drop_zero, joinD_labels] at ea
              exact hne ea
          have hp : heldB L (upAt r.1 ((labelsOf r.1).length - (labelsOf k.1).length)) 2 = true := held_iff.2 ⟨k, hk, ej.symm, e2⟩
          have hjl : (labelsOf r.1).length - (labelsOf k.1).length < upN ap r.1 := by unfold upN; omega
          have hS := h r hr
          unfold zcutR at hS
          cases hj : zcutJ L r.1 (upN ap r.1) with
          | none => have := last_none hj _ hjl; rw [hp] at this; cases this
          | some j0 =>
            obtain ⟨h1, h2, h3⟩ := last_some hj
            rw [hj] at hS
            have hS' : (r.2.1 == 1 || (r.2.1 == 2 && r.1 == upAt r.1 j0)) = true := hS
            unfold mayB
            rw [hbl, e2]
            simp only [Bool.not_true, Bool.false_or, Bool.or_eq_true, Bool.and_eq_true, beq_iff_eq] at hS' ⊢
            rcases hS' with hS' | ⟨ht, hn⟩
            · exact .inl hS'
            · refine .inr ⟨?_, ht⟩
              obtain ⟨_, _, u3⟩ := up_below (HN r hr) j0
              rw [← hn] at u3
              have := h3 _ hjl hp
              have e0 : (labelsOf r.1).length - (labelsOf k.1).length = 0 := by unfold upN at h1; omega
              rw [e0] at ej
              unfold upAt at ej
              rw [List.drop_zero, joinD_labels] at ej
              exact ej
      rw [hall]; simp
    · have : (!(k.2.1 == 2) || k.1 == ap) = true := by
        rw [Bool.or_eq_true]
        by_cases e : k.2.1 = 2
        · right
          by_cases e' : k.1 = ap
          · simpa using e'
          · exact absurd ⟨e, e'⟩ hkt
        · left; simpa using e
      rw [this]; rfl

theorem rule_same {ap : List UInt8} {L : List (List UInt8 × Int × Int × List UInt8)} (hap : nameB ap = true) (hg : aresB L = true) (hr : risesB L = true) : ruleI ap L = ruleS ap L := by
  unfold ruleI ruleS
  cases ha : allB ap L with
  | false => rfl
  | true =>
    simp only [reduceCtorEq, if_false]
    rw [cut_same hap hg ha, cn_same hg hr, ttl_same hr hg]
    by_cases hs : soaB ap L = false
    · rw [if_pos hs, if_pos ((soa_same ap L).1 hs)]
    · rw [if_neg hs, if_neg (fun h => hs ((soa_same ap L).2 h))]

/-- RuleOf in plain words. -/
def ruleB (ap : List UInt8) (L : List (List UInt8 × Int × Int × List UInt8)) : Int := if (apexB ap && listB L) = true then ruleI ap L else 9
theorem ruleB_spec (ap : List UInt8) (L : List (List UInt8 × Int × Int × List UInt8)) : ruleB ap L = if (apexB ap && listB L) = true then ruleS ap L else 9 := by
  unfold ruleB
  by_cases h : (apexB ap && listB L) = true
  · rw [if_pos h, if_pos h]
    rw [Bool.and_eq_true] at h
    have h2 := h.2
    unfold listB at h2
    simp only [Bool.and_eq_true] at h2
    exact rule_same (apex_name h.1) h2.2.1 h2.2.2
  · rw [if_neg h, if_neg h]
end Go.Proofs.YtoobaaklklommaaGreatDoor
