import Derived.Test.YtgfldenhhogpbaaGreatDoorZ40
import Derived.Test.YtgfldenhhogpbaaGreatDoorZ18
import Derived.Test.YtgfldenhhogpbaaGreatDoorZ19
import Derived.Test.YtgfldenhhogpbaaGreatDoorZ21
import Derived.Test.YtgfldenhhogpbaaGreatDoorZ06
namespace Go.Proofs.YtgfldenhhogpbaaGreatDoor
open Go.RowKit

/-- The last of the first zones that a name is below. -/
def lastZ (L : List ZonT) (n : List UInt8) : Nat → Nat
  | 0 => 0
  | k + 1 => if belowB n (zO L k).1 = true then k else lastZ L n k
theorem lastZ_yes {L : List ZonT} {n : List UInt8} {k : Nat} (h : belowB n (zO L k).1 = true) : lastZ L n (k + 1) = k := by show (if _ then _ else _) = _; rw [if_pos h]
theorem lastZ_no {L : List ZonT} {n : List UInt8} {k : Nat} (h : belowB n (zO L k).1 = false) : lastZ L n (k + 1) = lastZ L n k := by show (if _ then _ else _) = _; rw [if_neg (by rw [h]; simp)]
theorem lastZ_le (L : List ZonT) (n : List UInt8) : ∀ k, lastZ L n k ≤ k ∧ (0 < k → lastZ L n k < k)
  | 0 => ⟨Nat.le_refl _, fun h => absurd h (Nat.lt_irrefl _)⟩
  | k + 1 => by
    have ih := lastZ_le L n k
    cases h : belowB n (zO L k).1 with
    | true => rw [lastZ_yes h]; omega
    | false => rw [lastZ_no h]; omega
theorem below_root (n : List UInt8) : belowB n [] = true := by unfold belowB; simp
theorem lastZ_below {L : List ZonT} (h0 : (zO L 0).1 = []) (n : List UInt8) : ∀ k, belowB n (zO L (lastZ L n k)).1 = true
  | 0 => by show belowB n (zO L 0).1 = true; rw [h0]; exact below_root n
  | k + 1 => by
    cases h : belowB n (zO L k).1 with
    | true => rw [lastZ_yes h]; exact h
    | false => rw [lastZ_no h]; exact lastZ_below h0 n k
/-- Of two names above one the one that stands behind has more labels. -/
theorem many_lt {n a b : List UInt8} (hn : nameB n = true) (ha : nameB a = true) (hb : nameB b = true) (h1 : belowB n a = true) (h2 : belowB n b = true) (hc : cmpN a b < 0) : manyN a < manyN b := by
  rw [below_iff hn ha] at h1
  rw [below_iff hn hb] at h2
  unfold manyN
  rcases Nat.lt_or_ge (labelsOf a).length (labelsOf b).length with h | h
  · exact h
  · exfalso
    have h3 : (labelsOf b).reverse <+: (labelsOf a).reverse := List.prefix_of_prefix_length_le h2 h1 (by simpa using h)
    have h4 := pre_le _ _ h3
    have h5 := (tp_names.anti a b).1 hc
    have h6 : cmpN b a = -1 ∨ cmpN b a = 0 ∨ cmpN b a = 1 := cmpR_vals _ _
    have h7 : cmpN b a ≠ 1 := h4
    have h8 : 0 < cmpN b a := h5
    omega
/-- The zones of a good world rise. -/
theorem world_rise {L : List ZonT} (h : ∀ j, (hj : j + 1 < L.length) → cmpN (L[j]'(by omega)).1 (L[j + 1]).1 < 0) : ∀ i j, i < j → (hj : j < L.length) → cmpN (zO L i).1 (zO L j).1 < 0 := by
  intro i j hij hj
  obtain ⟨d, rfl⟩ : ∃ d, j = i + 1 + d := ⟨j - i - 1, by omega⟩
  clear hij
  induction d with
  | zero => rw [zO_at (show i < L.length by omega), zO_at (show i + 1 + 0 < L.length by omega)]; exact h i hj
  | succ d ih =>
    have h1 := ih (by omega)
    have h2 := h (i + 1 + d) (by omega)
    rw [zO_at (show i + 1 + d < L.length by omega)] at h1
    rw [zO_at (show i + 1 + (d + 1) < L.length by omega)]
    exact tp_names.ltr h1 (Int.le_of_lt h2)
/-- What the specification asks at a zone is what the program asks. -/
theorem last_step {L : List ZonT} {n : List UInt8} (hw : worldB L = true) (hn : nameB n = true) {k : Nat} (hk : k < L.length) (hb : belowB n (zO L k).1 = true) : (manyN (zO L (lastZ L n k)).1 < manyN (zO L k).1 ∧ 0 < k) ∨ (k = 0 ∧ lastZ L n k = 0) := by
  obtain ⟨h1, h2, h3, h4⟩ := world_facts hw
  rcases Nat.eq_zero_or_pos k with hk0 | hk0
  · subst hk0; exact .inr ⟨rfl, rfl⟩
  · refine .inl ⟨?_, hk0⟩
    have h5 := (lastZ_le L n k).2 hk0
    have ha : nameB (zO L (lastZ L n k)).1 = true := by rw [zO_at (show lastZ L n k < L.length by omega)]; exact zone_name (h3 _ (by omega))
    have hz : nameB (zO L k).1 = true := by rw [zO_at hk]; exact zone_name (h3 _ hk)
    exact many_lt hn ha hz (lastZ_below h2 n k) hb (world_rise h4 _ _ h5 hk)
def zfO (L : List ZonT) (n : List UInt8) : Bool := nameB n && worldB L
def zfN (L : List ZonT) (n : List UInt8) : Int := if zfO L n = true then (lastZ L n L.length : Int) else 0
theorem zret2 {a b : Int} {p q : Bool} (h1 : a = b) (h2 : p = q) : Ending.returned (.tuple #[.int .i64 a, .bool p]) = .returned (.tuple #[.int .i64 b, .bool q]) := by rw [h1, h2]
end Go.Proofs.YtgfldenhhogpbaaGreatDoor

namespace Go.Proofs.YtgfldenhhogpbaaGreatDoor
open Go.RowKit

/-- The number of the zone of an apex. -/
def atI (L : List ZonT) (c : List UInt8) : Option Nat := L.findIdx? (fun z => z.1 == c)
def numO (o : Option Nat) : Int := match o with
  | none => -1
  | some j => (j : Int)
theorem atI_of {L : List ZonT} {c : List UInt8} {k : Nat} (hk : k < L.length) (h : (L[k]'hk).1 = c) (hn : ∀ j, j < k → (zO L j).1 ≠ c) : atI L c = some k := by
  unfold atI
  rw [List.findIdx?_eq_some_iff_getElem]
  refine ⟨hk, by simpa using h, fun j hj => ?_⟩
  have h1 := hn j hj
  rw [zO_at (show j < L.length by omega)] at h1
  simpa using h1
theorem atI_no {L : List ZonT} {c : List UInt8} (h : ∀ j, j < L.length → (zO L j).1 ≠ c) : atI L c = none := by
  unfold atI
  rw [List.findIdx?_eq_none_iff]
  intro x hx
  obtain ⟨j, hj, rfl⟩ := List.getElem_of_mem hx
  have h1 := h j hj
  rw [zO_at hj] at h1
  simpa using h1
theorem atI_some {L : List ZonT} {c : List UInt8} {j : Nat} (h : atI L c = some j) : j < L.length ∧ (zO L j).1 = c := by
  unfold atI at h
  rw [List.findIdx?_eq_some_iff_getElem] at h
  obtain ⟨hj, h1, _⟩ := h
  refine ⟨hj, ?_⟩
  rw [zO_at hj]
  simpa using h1
/-- The zone to ask next. -/
def nextZ (L : List ZonT) (n : List UInt8) (k : Nat) : Option Nat := if (cutT (zO L k).1 (zO L k).2.2 n).2 = true then atI L (cutT (zO L k).1 (zO L k).2.2 n).1 else none
/-- The zones that are asked behind one. -/
def reachL : Nat → List ZonT → List UInt8 → Nat → List (List UInt8)
  | 0, _, _, _ => []
  | f + 1, L, n, k => match nextZ L n k with
    | none => []
    | some j => (zO L j).1 :: reachL f L n j
def reach (L : List ZonT) (n : List UInt8) : List (List UInt8) := [] :: reachL L.length L n 0
theorem reachL_none {f : Nat} {L : List ZonT} {n : List UInt8} {k : Nat} (h : nextZ L n k = none) : reachL f L n k = [] := by
  cases f with
  | zero => rfl
  | succ f => show (match nextZ L n k with | none => [] | some j => (zO L j).1 :: reachL f L n j) = []; rw [h]
theorem reachL_some {f : Nat} {L : List ZonT} {n : List UInt8} {k j : Nat} (h : nextZ L n k = some j) : reachL (f + 1) L n k = (zO L j).1 :: reachL f L n j := by
  show (match nextZ L n k with | none => [] | some j => (zO L j).1 :: reachL f L n j) = _; rw [h]
theorem cut_facts {ap n : List UInt8} {ct : Int} {L : List (List UInt8 × Int × Int × List UInt8)} (hz : zoneB ap ct L = true) (h : (cutT ap L n).2 = true) : belowB n (cutT ap L n).1 = true ∧ nameB (cutT ap L n).1 = true ∧ cmpN ap (cutT ap L n).1 < 0 := by
  obtain ⟨hap, hg, _, ha, _, _⟩ := zone_facts hz
  unfold cutT cutF at h ⊢
  cases hF : L.find? (cutP ap n) with
  | none => rw [hF] at h; simp at h
  | some x =>
    simp only [Option.map_some, Option.getD_some]
    have hx := List.mem_of_find?_eq_some hF
    have hp := List.find?_some hF
    unfold cutP at hp
    simp only [Bool.and_eq_true, beq_iff_eq, Bool.not_eq_true', beq_eq_false_iff_ne] at hp
    have hnx : nameB x.1 = true := ares_name hg hx
    have hbx : belowB x.1 ap = true := List.all_eq_true.1 ha x hx
    refine ⟨hp.2, hnx, ?_⟩
    have h1 := below_le hnx hap hbx
    have h2 : cmpN ap x.1 = -1 ∨ cmpN ap x.1 = 0 ∨ cmpN ap x.1 = 1 := cmpR_vals _ _
    have h3 : cmpN ap x.1 ≠ 0 := fun e => hp.1.2 (cmpN_zero e).symm
    omega
theorem next_facts {L : List ZonT} {n : List UInt8} (hw : worldB L = true) {k j : Nat} (hk : k < L.length) (h : nextZ L n k = some j) : j < L.length ∧ k < j ∧ belowB n (zO L j).1 = true ∧ (cutT (zO L k).1 (zO L k).2.2 n).2 = true ∧ atI L (cutT (zO L k).1 (zO L k).2.2 n).1 = some j ∧ (zO L j).1 = (cutT (zO L k).1 (zO L k).2.2 n).1 := by
  unfold nextZ at h
  by_cases hc : (cutT (zO L k).1 (zO L k).2.2 n).2 = true
  · rw [if_pos hc] at h
    obtain ⟨hj, he⟩ := atI_some h
    obtain ⟨_, _, h3, h4⟩ := world_facts hw
    have hz : zoneB (zO L k).1 (zO L k).2.1 (zO L k).2.2 = true := by rw [zO_at hk]; exact h3 k hk
    obtain ⟨c1, c2, c3⟩ := cut_facts hz hc
    rw [← he] at c1 c3
    refine ⟨hj, ?_, c1, hc, h, he⟩
    rcases Nat.lt_trichotomy k j with g | g | g
    · exact g
    · subst g; rw [cmpN_self] at c3; omega
    · have h5 := world_rise h4 j k g hk
      have h6 := cmpN_swap (zO L j).1 (zO L k).1
      omega
  · rw [if_neg hc] at h; cases h
theorem next_no {L : List ZonT} {n : List UInt8} {k : Nat} (h : nextZ L n k = none) : (cutT (zO L k).1 (zO L k).2.2 n).2 = false ∨ atI L (cutT (zO L k).1 (zO L k).2.2 n).1 = none := by
  unfold nextZ at h
  by_cases hc : (cutT (zO L k).1 (zO L k).2.2 n).2 = true
  · rw [if_pos hc] at h; exact .inr h
  · exact .inl (by simpa using hc)
theorem root_at {L : List ZonT} (hw : worldB L = true) : 0 < L.length ∧ (zO L 0).1 = [] := ⟨(world_facts hw).1.1, (world_facts hw).2.1⟩
/-- What ReachedBy and IsDelegated tell. -/
def rchO (L : List ZonT) (n : List UInt8) : Bool := nameB n && worldB L
def rchL (L : List ZonT) (n : List UInt8) : List (List UInt8) := if rchO L n = true then reach L n else []
def delO (L : List ZonT) (n : List UInt8) : Bool := worldB L && (atI L n).isSome
def delB (L : List ZonT) (n : List UInt8) : Bool := delO L n && ((reach L n).getLast? == some n)
theorem reachL_len {L : List ZonT} {n : List UInt8} (hw : worldB L = true) : ∀ f k, k < L.length → (reachL f L n k).length + k < L.length
  | 0, k, hk => by show 0 + k < L.length; omega
  | f + 1, k, hk => by
    cases h : nextZ L n k with
    | none => rw [reachL_none h]; simpa using hk
    | some j =>
      obtain ⟨hj, hkj, _⟩ := next_facts hw hk h
      rw [reachL_some h]
      have := reachL_len (n := n) hw f j hj
      simp only [List.length_cons]
      omega
theorem reach_len {L : List ZonT} {n : List UInt8} (hw : worldB L = true) : 1 ≤ (reach L n).length ∧ (reach L n).length ≤ 6 := by
  have h1 := reachL_len (n := n) hw L.length 0 (root_at hw).1
  have h2 := (world_facts hw).1.2
  unfold reach
  simp only [List.length_cons]
  omega
/-- How many a slice has. -/
def lenS (v : Value) : Nat := match v with
  | .slice _ n _ => n
  | _ => 0
theorem own1_slice {w : World} {base : Nat} {v : Value} {P : List (List UInt8)} (h : w.ownsRow base 9 1 v P.length (P.map S)) : ∃ a c, v = .slice a P.length c := by
  obtain ⟨g, cap, ⟨rfl, rfl⟩ | ⟨rfl, _⟩⟩ := shape_of_own h
  · exact ⟨none, 0, rfl⟩
  · exact ⟨_, cap, rfl⟩
theorem rch_base {w : World} {a b : Nat} {v : Value} {L : List (List UInt8)} (h : OwnS w b v L) (hab : a ≤ b) : OwnS w a v L := by
  rcases h with h | ⟨g, cap, h1, h2, h3, h4, h5⟩
  · exact .inl h
  · exact .inr ⟨g, cap, h1, h2, h3, Nat.le_trans hab h4, h5⟩
end Go.Proofs.YtgfldenhhogpbaaGreatDoor
