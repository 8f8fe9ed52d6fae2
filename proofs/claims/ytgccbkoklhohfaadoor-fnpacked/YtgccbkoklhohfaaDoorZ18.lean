import Derived.Test.YtgccbkoklhohfaaDoorZ16
import Derived.Test.YtgccbkoklhohfaaDoorZ05
import Derived.Test.YtgccbkoklhohfaaDoorZ15
import Derived.Handy
namespace Go.Proofs.YtgccbkoklhohfaaDoor
open Go.RowKit

theorem row_drop {w : World} {b o cap : Nat} {P : List (List UInt8)} {i : Nat} (hcap : P.length ≤ cap) (hmax : cap ≤ 9223372036854775807) (hbl : b < w.heap.size) (hc : ∀ j, (hj : j < P.length) → w.cell? ⟨b, o + j, none⟩ = some (S P[j])) :
    Row w (.slice (some ⟨b, o + i, none⟩) (P.length - i) (cap - i)) (P.drop i) := by
  refine ⟨_, cap - i, by rw [List.length_drop], by rw [List.length_drop]; omega, by unfold maxLen; omega, .inr ⟨b, o + i, rfl, hbl, fun j hj => ?_⟩⟩
  have h : j < P.length - i := by simpa using hj
  have := hc (i + j) (by omega)
  rw [List.getElem_drop, ← this, Nat.add_assoc]

/-- What is told of a name: labels, up to the longest suffix that was told. -/
def packL (T : List (List UInt8)) (ps : List Nat) : List (List UInt8) → List UInt8
  | [] => [0]
  | x :: r => if T.idxOf (joinD (x :: r)) < T.length then ptr (ps.getD (T.idxOf (joinD (x :: r))) 0) else UInt8.ofNat x.length :: (x ++ packL T ps r)

theorem packL_hit {T P : List (List UInt8)} {ps : List Nat} {k j : Nat} {pre : List UInt8} (h : packL T ps P = pre ++ packL T ps (P.drop k)) (hk : k < P.length) (hi : idxI T (joinD (P.drop k)) = (j : Int)) (hj : j < ps.length) : packL T ps P = pre ++ ptr ps[j] := by
  rw [h, List.drop_eq_getElem_cons hk, packL, ← List.drop_eq_getElem_cons hk]
  unfold idxI at hi
  split at hi
  · rename_i hlt
    have e : T.idxOf (joinD (P.drop k)) = j := by omega
    rw [if_pos hlt, e, List.getD_eq_getElem?_getD, List.getElem?_eq_getElem hj]; rfl
  · omega
theorem packL_miss {T P : List (List UInt8)} {ps : List Nat} {k : Nat} {pre : List UInt8} (h : packL T ps P = pre ++ packL T ps (P.drop k)) (hk : k < P.length) (hi : idxI T (joinD (P.drop k)) < 0) : packL T ps P = (pre ++ UInt8.ofNat P[k].length :: P[k]) ++ packL T ps (P.drop (k + 1)) := by
  rw [h, List.drop_eq_getElem_cons hk, packL, ← List.drop_eq_getElem_cons hk]
  unfold idxI at hi
  split at hi
  · omega
  · rename_i hlt
    rw [if_neg hlt]; simp
theorem idxI_lt {T : List (List UInt8)} {x : List UInt8} {j : Nat} (h : idxI T x = (j : Int)) : j < T.length := by
  unfold idxI at h; split at h <;> omega
theorem idxI_ge (T : List (List UInt8)) (x : List UInt8) : -1 ≤ idxI T x := by
  unfold idxI; split <;> omega

/-- The suffixes of a name that are told anew, and their places. -/
def newS (T : List (List UInt8)) : List (List UInt8) → List (List UInt8)
  | [] => []
  | x :: r => if T.idxOf (joinD (x :: r)) < T.length then [] else joinD (x :: r) :: newS T r
def newP (T : List (List UInt8)) : Nat → List (List UInt8) → List Nat
  | _, [] => []
  | a, x :: r => if T.idxOf (joinD (x :: r)) < T.length then [] else a :: newP T (a + 1 + x.length) r
theorem new_length (T : List (List UInt8)) : ∀ (P : List (List UInt8)) (a : Nat), (newP T a P).length = (newS T P).length
  | [], _ => rfl
  | x :: r, a => by
    unfold newP newS
    split
    · rfl
    · simp [new_length T r]
theorem newS_length (T : List (List UInt8)) : ∀ P : List (List UInt8), (newS T P).length ≤ P.length
  | [] => Nat.le_refl _
  | x :: r => by
    unfold newS
    split
    · simp
    · have := newS_length T r
      simp; omega
theorem idx_ff {T : List (List UInt8)} {x : List UInt8} {j : Nat} (hi : idxI T x = (j : Int)) : T.idxOf x < T.length := by
  unfold idxI at hi; split at hi
  · assumption
  · omega
theorem idx_no {T : List (List UInt8)} {x : List UInt8} (hi : idxI T x < 0) : ¬ T.idxOf x < T.length := by
  unfold idxI at hi; split at hi
  · omega
  · assumption
theorem new_hit {T P : List (List UInt8)} {a k j : Nat} (hk : k < P.length) (hi : idxI T (joinD (P.drop k)) = (j : Int)) : newS T (P.drop k) = [] ∧ newP T a (P.drop k) = [] := by
  have h := idx_ff hi
  rw [List.drop_eq_getElem_cons hk] at h ⊢
  unfold newS newP
  rw [if_pos h, if_pos h]; exact ⟨rfl, rfl⟩
theorem new_miss {T P : List (List UInt8)} {a k : Nat} (hk : k < P.length) (hi : idxI T (joinD (P.drop k)) < 0) :
    newS T (P.drop k) = joinD (P.drop k) :: newS T (P.drop (k + 1)) ∧ newP T a (P.drop k) = a :: newP T (a + 1 + P[k].length) (P.drop (k + 1)) := by
  have h := idx_no hi
  rw [List.drop_eq_getElem_cons hk] at h ⊢
  rw [newS, newP, if_neg h, if_neg h]
  exact ⟨rfl, rfl⟩
/-- Suffixes become shorter. -/
theorem joinD_shorter {P : List (List UInt8)} {k : Nat} (hk : k < P.length) (h0 : P[k] ≠ []) : (joinD (P.drop (k + 1))).length < (joinD (P.drop k)).length := by
  have h1 : 0 < P[k].length := List.length_pos_iff.2 h0
  rw [List.drop_eq_getElem_cons hk, joinD]
  split
  · rename_i h; rw [h]; simp [joinD]; exact h1
  · rw [List.length_append, List.length_cons]; omega
/-- What is longer is not found. -/
theorem idx_longer {T Q : List (List UInt8)} {x : List UInt8} (h : ∀ y ∈ Q, x.length < y.length) : idxI (T ++ Q) x = idxI T x := by
  have hn : x ∉ Q := fun hx => Nat.lt_irrefl _ (h x hx)
  unfold idxI
  rw [List.idxOf_append]
  by_cases hm : x ∈ T
  · rw [if_pos hm]
    have := List.idxOf_lt_length_iff.2 hm
    rw [if_pos (by rw [List.length_append]; omega), if_pos this]
  · rw [if_neg hm]
    have h1 : List.idxOf x Q = Q.length := List.idxOf_eq_length hn
    have h2 : List.idxOf x T = T.length := List.idxOf_eq_length hm
    rw [h1, h2, List.length_append, if_neg (by omega), if_neg (by omega)]
end Go.Proofs.YtgccbkoklhohfaaDoor

namespace Go.Proofs.YtgccbkoklhohfaaDoor
open Go.RowKit

/-- What is packed so far, in memory, beside the labels of a name. -/
structure PkS (base pb : Nat) (vl : Value) (P : List (List UInt8)) (w : World) (vw vt vp : Value) (B : List UInt8) (T : List (List UInt8)) (ps : List Nat) : Prop where
  low : base ≤ pb
  box : w.heap[pb]? = some (.cells #[vw, vt, vp] 83)
  wire : w.ownsRow base 5 1 vw B.length (B.map B8)
  told : w.ownsRow base 9 1 vt T.length (T.map S)
  places : w.ownsRow base 3 1 vp ps.length (ps.map I64)
  labels : w.ownsRow base 9 1 vl P.length (P.map S)
  apart : ∀ g, vl.ownBlock = some g → vt.ownBlock ≠ some g

section
variable {base pb : Nat} {vl : Value} {P : List (List UInt8)} {w w' : World} {vw vt vp : Value} {B : List UInt8} {T : List (List UInt8)} {ps : List Nat}
theorem PkS.lt (h : PkS base pb vl P w vw vt vp B T ps) : pb < w.heap.size := by
  have := h.box
  by_cases e : pb < w.heap.size
  · exact e
  · rw [Array.getElem?_eq_none (by omega)] at this; cases this
theorem PkS.base_le (h : PkS base pb vl P w vw vt vp B T ps) : base ≤ w.heap.size := Nat.le_trans h.low (Nat.le_of_lt h.lt)
theorem PkS.below (h : PkS base pb vl P w vw vt vp B T ps) (hb : Below w.heap.size w w') : PkS base pb vl P w' vw vt vp B T ps :=
  ⟨h.low, (hb.block pb h.lt).trans h.box, own_below h.wire hb, own_below h.told hb, own_below h.places hb, own_below h.labels hb, h.apart⟩
theorem PkS.cells (h : PkS base pb vl P w vw vt vp B T ps) : w.cell? ⟨pb, 0, none⟩ = some vw ∧ w.cell? ⟨pb, 1, none⟩ = some vt ∧ w.cell? ⟨pb, 2, none⟩ = some vp ∧ w.frozen? ⟨pb, 0, none⟩ = false ∧ w.frozen? ⟨pb, 1, none⟩ = false ∧ w.frozen? ⟨pb, 2, none⟩ = false := by
  have := h.box
  refine ⟨?_, ?_, ?_, ?_, ?_, ?_⟩ <;> simp [World.cell?, World.frozen?, this]
theorem PkS.tell {vt' : Value} {T' : List (List UInt8)} (h : PkS base pb vl P w vw vt vp B T ps) (hk : Kpt w w' (fun k => vt.ownBlock = some k)) (ho : w'.ownsRow base 9 1 vt' T'.length (T'.map S)) (ha : ∀ g, vl.ownBlock = some g → vt'.ownBlock ≠ some g) :
    PkS base pb vl P (w'.setCell ⟨pb, 1, none⟩ vt') vw vt' vp B T' ps ∧ Below base w (w'.setCell ⟨pb, 1, none⟩ vt') := by
  have hbx : w'.heap[pb]? = some (.cells #[vw, vt, vp] 83) := (hk.block pb h.lt (own_box h.told h.box (by decide))).trans h.box
  have w1 := own_kpt h.wire hk (fun g h1 h2 => own_ne (by decide) h.told h.wire g h2 h1)
  have w2 := own_kpt h.places hk (fun g h1 h2 => own_ne (by decide) h.told h.places g h2 h1)
  have w3 := own_kpt h.labels hk (fun g h1 h2 => h.apart g h1 h2)
  have ks : Kpt w' (w'.setCell ⟨pb, 1, none⟩ vt') (fun k => k = pb) := kpt_set _ _ _ _ rfl
  refine ⟨⟨h.low, (heap_setCell_same w' pb 1 _ _ vt' hbx), own_kpt w1 ks (fun g h1 e => own_box w1 hbx (by decide) (e ▸ h1)), own_kpt ho ks (fun g h1 e => own_box ho hbx (by decide) (e ▸ h1)), own_kpt w2 ks (fun g h1 e => own_box w2 hbx (by decide) (e ▸ h1)), own_kpt w3 ks (fun g h1 e => own_box w3 hbx (by decide) (e ▸ h1)), ha⟩, ?_⟩
  exact ((hk.mono (T := fun k => base ≤ k) (fun k _ e => (h.told.lt k e).1)).trans (ks.mono (fun k _ e => e ▸ h.low))).below h.base_le (fun k h1 h2 => by omega)
theorem PkS.place {vp' : Value} {ps' : List Nat} (h : PkS base pb vl P w vw vt vp B T ps) (hk : Kpt w w' (fun k => vp.ownBlock = some k)) (ho : w'.ownsRow base 3 1 vp' ps'.length (ps'.map I64)) :
    PkS base pb vl P (w'.setCell ⟨pb, 2, none⟩ vp') vw vt vp' B T ps' ∧ Below base w (w'.setCell ⟨pb, 2, none⟩ vp') := by
  have hbx : w'.heap[pb]? = some (.cells #[vw, vt, vp] 83) := (hk.block pb h.lt (own_box h.places h.box (by decide))).trans h.box
  have w1 := own_kpt h.wire hk (fun g h1 h2 => own_ne (by decide) h.places h.wire g h2 h1)
  have w2 := own_kpt h.told hk (fun g h1 h2 => own_ne (by decide) h.places h.told g h2 h1)
  have w3 := own_kpt h.labels hk (fun g h1 h2 => own_ne (by decide) h.places h.labels g h2 h1)
  have ks : Kpt w' (w'.setCell ⟨pb, 2, none⟩ vp') (fun k => k = pb) := kpt_set _ _ _ _ rfl
  refine ⟨⟨h.low, (heap_setCell_same w' pb 2 _ _ vp' hbx), own_kpt w1 ks (fun g h1 e => own_box w1 hbx (by decide) (e ▸ h1)), own_kpt w2 ks (fun g h1 e => own_box w2 hbx (by decide) (e ▸ h1)), own_kpt ho ks (fun g h1 e => own_box ho hbx (by decide) (e ▸ h1)), own_kpt w3 ks (fun g h1 e => own_box w3 hbx (by decide) (e ▸ h1)), h.apart⟩, ?_⟩
  exact ((hk.mono (T := fun k => base ≤ k) (fun k _ e => (h.places.lt k e).1)).trans (ks.mono (fun k _ e => e ▸ h.low))).below h.base_le (fun k h1 h2 => by omega)
theorem PkS.put {vw' : Value} {B' : List UInt8} (h : PkS base pb vl P w vw vt vp B T ps) (hk : Kpt w w' (fun k => vw.ownBlock = some k)) (ho : w'.ownsRow base 5 1 vw' B'.length (B'.map B8)) :
    PkS base pb vl P (w'.setCell ⟨pb, 0, none⟩ vw') vw' vt vp B' T ps ∧ Below base w (w'.setCell ⟨pb, 0, none⟩ vw') := by
  have hbx : w'.heap[pb]? = some (.cells #[vw, vt, vp] 83) := (hk.block pb h.lt (own_box h.wire h.box (by decide))).trans h.box
  have w1 := own_kpt h.told hk (fun g h1 h2 => own_ne (by decide) h.wire h.told g h2 h1)
  have w2 := own_kpt h.places hk (fun g h1 h2 => own_ne (by decide) h.wire h.places g h2 h1)
  have w3 := own_kpt h.labels hk (fun g h1 h2 => own_ne (by decide) h.wire h.labels g h2 h1)
  have ks : Kpt w' (w'.setCell ⟨pb, 0, none⟩ vw') (fun k => k = pb) := kpt_set _ _ _ _ rfl
  refine ⟨⟨h.low, (heap_setCell_same w' pb 0 _ _ vw' hbx), own_kpt ho ks (fun g h1 e => own_box ho hbx (by decide) (e ▸ h1)), own_kpt w1 ks (fun g h1 e => own_box w1 hbx (by decide) (e ▸ h1)), own_kpt w2 ks (fun g h1 e => own_box w2 hbx (by decide) (e ▸ h1)), own_kpt w3 ks (fun g h1 e => own_box w3 hbx (by decide) (e ▸ h1)), h.apart⟩, ?_⟩
  exact ((hk.mono (T := fun k => base ≤ k) (fun k _ e => (h.wire.lt k e).1)).trans (ks.mono (fun k _ e => e ▸ h.low))).below h.base_le (fun k h1 h2 => by omega)
theorem box3_cells {W : World} {b : Nat} {v0 v1 v2 : Value} {t : TypeId} (h : W.heap[b]? = some (.cells #[v0, v1, v2] t)) : W.cell? ⟨b, 0, none⟩ = some v0 ∧ W.cell? ⟨b, 1, none⟩ = some v1 ∧ W.cell? ⟨b, 2, none⟩ = some v2 ∧ W.frozen? ⟨b, 0, none⟩ = false ∧ W.frozen? ⟨b, 1, none⟩ = false ∧ W.frozen? ⟨b, 2, none⟩ = false := by
  refine ⟨?_, ?_, ?_, ?_, ?_, ?_⟩ <;> simp [World.cell?, World.frozen?, h]
theorem PkS.boxW (h : PkS base pb vl P w vw vt vp B T ps) (hk : Kpt w w' (fun k => vw.ownBlock = some k)) : w'.heap[pb]? = some (.cells #[vw, vt, vp] 83) := (hk.block pb h.lt (own_box h.wire h.box (by decide))).trans h.box
theorem PkS.boxT (h : PkS base pb vl P w vw vt vp B T ps) (hk : Kpt w w' (fun k => vt.ownBlock = some k)) : w'.heap[pb]? = some (.cells #[vw, vt, vp] 83) := (hk.block pb h.lt (own_box h.told h.box (by decide))).trans h.box
theorem PkS.boxP (h : PkS base pb vl P w vw vt vp B T ps) (hk : Kpt w w' (fun k => vp.ownBlock = some k)) : w'.heap[pb]? = some (.cells #[vw, vt, vp] 83) := (hk.block pb h.lt (own_box h.places h.box (by decide))).trans h.box
end

/-- How far the telling of a name is. -/
structure PkN (P T : List (List UInt8)) (ps : List Nat) (a k : Nat) (pre : List UInt8) (sP : List (List UInt8)) (pP : List Nat) : Prop where
  bytes : packL T ps P = pre ++ packL T ps (P.drop k)
  names : newS T P = sP ++ newS T (P.drop k)
  spots : newP T a P = pP ++ newP T (a + pre.length) (P.drop k)
  longer : ∀ y ∈ sP, (joinD (P.drop k)).length < y.length
  len : pre.length ≤ 21 * k
  lens : sP.length = k
  lenp : pP.length = k
theorem PkN.start (P T : List (List UInt8)) (ps : List Nat) (a : Nat) : PkN P T ps a 0 [] [] [] :=
  ⟨by rw [List.drop_zero]; rfl, by rw [List.drop_zero]; rfl, by rw [List.drop_zero]; rfl, fun y h => (by cases h), Nat.le_refl _, rfl, rfl⟩
theorem PkN.miss {P T : List (List UInt8)} {ps : List Nat} {a k : Nat} {pre : List UInt8} {sP : List (List UInt8)} {pP : List Nat} (h : PkN P T ps a k pre sP pP) (hk : k < P.length) (hi : idxI T (joinD (P.drop k)) < 0) (hx : P[k].length ≤ 20 ∧ 0 < P[k].length) :
    PkN P T ps a (k + 1) (pre ++ UInt8.ofNat P[k].length :: P[k]) (sP ++ [joinD (P.drop k)]) (pP ++ [a + pre.length]) := by
  have hm := new_miss (a := a + pre.length) hk hi
  have hs := joinD_shorter hk (List.length_pos_iff.1 hx.2)
  have hl := h.len
  refine ⟨packL_miss h.bytes hk hi, ?_, ?_, fun y hy => ?_, ?_, by simp [h.lens], by simp [h.lenp]⟩
  · rw [h.names, hm.1, List.append_assoc]; rfl
  · rw [h.spots, hm.2, List.append_assoc, List.length_append, List.length_cons]
    rw [show a + (pre.length + (P[k].length + 1)) = a + pre.length + 1 + P[k].length by omega]; rfl
  · rcases List.mem_append.1 hy with h1 | h1
    · exact Nat.lt_trans hs (h.longer y h1)
    · rw [List.mem_singleton] at h1; rw [h1]; exact hs
  · rw [List.length_append, List.length_cons]; omega
theorem PkN.hit {P T : List (List UInt8)} {ps : List Nat} {a k j : Nat} {pre : List UInt8} {sP : List (List UInt8)} {pP : List Nat} (h : PkN P T ps a k pre sP pP) (hk : k < P.length) (hi : idxI T (joinD (P.drop k)) = (j : Int)) (hj : j < ps.length) :
    packL T ps P = pre ++ ptr ps[j] ∧ newS T P = sP ∧ newP T a P = pP := by
  have hm := new_hit (a := a + pre.length) hk hi
  exact ⟨packL_hit h.bytes hk hi hj, by rw [h.names, hm.1, List.append_nil], by rw [h.spots, hm.2, List.append_nil]⟩
theorem PkN.fin {P T : List (List UInt8)} {ps : List Nat} {a k : Nat} {pre : List UInt8} {sP : List (List UInt8)} {pP : List Nat} (h : PkN P T ps a k pre sP pP) (hk : ¬ k < P.length) :
    packL T ps P = pre ++ [0] ∧ newS T P = sP ∧ newP T a P = pP := by
  have e : P.drop k = [] := List.drop_of_length_le (by omega)
  refine ⟨by rw [h.bytes, e]; rfl, ?_, ?_⟩
  · rw [h.names, e]; exact List.append_nil _
  · rw [h.spots, e]; exact List.append_nil _
theorem PkN.idx {P T : List (List UInt8)} {ps : List Nat} {a k : Nat} {pre : List UInt8} {sP : List (List UInt8)} {pP : List Nat} (h : PkN P T ps a k pre sP pP) : idxI (T ++ sP) (joinD (P.drop k)) = idxI T (joinD (P.drop k)) := idx_longer h.longer
/-- Names packed one behind the other, with what was told kept aside. -/
def trkR (B : List UInt8) (T : List (List UInt8)) (ps : List Nat) : List (List UInt8) → Option (List UInt8)
  | [] => some B
  | s :: r => if nameB s = true then trkR (B ++ packL T ps (labelsOf s)) (T ++ newS T (labelsOf s)) (ps ++ newP T B.length (labelsOf s)) r else none

theorem row_cells {w : World} {a : Option Addr} {n cap : Nat} {P : List (List UInt8)} (h : Row w (.slice a n cap) P) : n = P.length ∧ P.length ≤ cap ∧ cap ≤ 9223372036854775807 ∧ (0 < P.length → ∃ b o, a = some ⟨b, o, none⟩ ∧ b < w.heap.size ∧ ∀ j, (hj : j < P.length) → w.cell? ⟨b, o + j, none⟩ = some (S P[j])) := by
  obtain ⟨a', c', e, h1, h2, h3⟩ := h
  cases e
  unfold maxLen at h2
  refine ⟨rfl, h1, by omega, fun h0 => ?_⟩
  rcases h3 with h3 | h3
  · rw [h3] at h0; simp at h0
  · exact h3
end Go.Proofs.YtgccbkoklhohfaaDoor

namespace Go.Proofs.YtgccbkoklhohfaaDoor
open Go.RowKit

set_option maxRecDepth 20000 in
set_option maxHeartbeats 4000000 in
theorem put_any (base pb : Nat) (vl vw0 vt0 vp0 : Value) (P : List (List UInt8)) (B : List UInt8) (T : List (List UInt8)) (ps : List Nat) (w : World) (h : Hid (PkS base pb vl P w vw0 vt0 vp0 B T ps)) (hlen : Hid (T.length = ps.length)) (h8 : P.length ≤ 8) (hx : Hid (∀ p ∈ P, p.length ≤ 20 ∧ 0 < p.length)) (hps : Hid (∀ p ∈ ps, p ≤ 4000)) (hT : T.length ≤ 10000) (hB : B.length ≤ 100000) :
    Calls Tryd.prog 88 #[.pointer (some ⟨pb, 0, none⟩), vl] w fun e w' => e = .returned (.tuple #[]) ∧ ∃ vw' vt' vp', PkS base pb vl P w' vw' vt' vp' (B ++ packL T ps P) (T ++ newS T P) (ps ++ newP T B.length P) ∧ Below base w w' := by
  obtain ⟨i0, hi, hz0, hz1, hz2⟩ := info_parts info_byte
  obtain ⟨i9, hi9, hs0, hs1, hs2⟩ := info_parts info_string
  obtain ⟨i3, hi3, hn0, hn1, hn2⟩ := info_parts info_int
  obtain ⟨al, capl, hvl, hcap, hmax⟩ := own_slice h.out.labels
  subst hvl
  go_enter Tryd.func88, Tryd.ntmps88
  go_wp2_with fail
  go_loopw [10] (fun i wr => ∃ (k : Nat) (pre : List UInt8) (sP : List (List UInt8)) (pP : List Nat) (vw vt vp : Value) (Bk : List UInt8) (Tk : List (List UInt8)) (pk : List Nat), k ≤ P.length ∧ i = .int .i64 (k : Int) ∧ Hid (PkN P T ps B.length k pre sP pP) ∧ Hid (Bk = B ++ pre ∧ Tk = T ++ sP ∧ pk = ps ++ pP) ∧ Hid (PkS base pb (.slice al P.length capl) P wr vw vt vp Bk Tk pk) ∧ Hid (Below base w wr)) (fun i _ => P.length - (intOf i).toNat)
  case atStart => exact ⟨0, [], [], [], vw0, vt0, vp0, B, T, ps, Nat.zero_le _, rfl, PkN.start _ _ _ _, (by simp : B = B ++ [] ∧ T = T ++ [] ∧ ps = ps ++ []), h, Below.refl _ _⟩
  case round =>
    obtain ⟨k, pre, sP, pP, vw, vt, vp, Bk, Tk, pk, hk, rfl, HN, HEQ, HS, HB⟩ := hrel
    obtain ⟨aw, cw, hvw, hcw, hmw⟩ := own_slice HS.out.wire
    subst hvw
    obtain ⟨c0, c1, c2, f0, f1, f2⟩ := HS.out.cells
    have hbk : Bk.length ≤ 101000 := by
      have h1 := HN.out.len
      rw [HEQ.out.1, List.length_append]; omega
    have htk : Tk.length ≤ 10010 := by
      have h1 := HN.out.lens
      rw [HEQ.out.2.1, List.length_append]; omega
    have hpk : pk.length ≤ 10010 := by
      have h1 := HN.out.lenp
      have h2 := hlen.out
      rw [HEQ.out.2.2, List.length_append]; omega
    by_cases hlt : k < P.length
    · obtain ⟨_, _, _, hrow⟩ := row_cells (row_own HS.out.labels)
      obtain ⟨b, o, ha, hbl, hc⟩ := hrow (by omega)
      rw [ha]
      have hcx : wr.cell? ⟨b, o + k, none⟩ = some (.string ⟨(P[k]'hlt).toArray⟩) := hc k hlt
      have HROW2 : Hid (Row wr (.slice (some ⟨b, o + k, none⟩) (P.length - k) (capl - k)) (P.drop k)) := row_drop (i := k) hcap hmax hbl hc
      have HJL : Hid ((joinD (P.drop k)).length ≤ 1048576) := by
        have h1 := joinD_small (P.drop k) (fun p h => (hx.out p (List.mem_of_mem_drop h)).1)
        rw [List.length_drop] at h1
        exact (show (joinD (P.drop k)).length ≤ 1048576 by omega)
      have hxl := (hx.out _ (List.getElem_mem hlt)).1
      have HMISS : Hid (idxI T (joinD (P.drop k)) < 0 → PkN P T ps B.length (k + 1) (pre ++ UInt8.ofNat (P[k]'hlt).length :: P[k]'hlt) (sP ++ [joinD (P.drop k)]) (pP ++ [Bk.length])) := fun h => by
        rw [HEQ.out.1, List.length_append]; exact HN.out.miss hlt h (hx.out _ (List.getElem_mem hlt))
      have HHIT : Hid (∀ j, (hj : j < ps.length) → idxI T (joinD (P.drop k)) = (j : Int) → packL T ps P = pre ++ ptr ps[j] ∧ newS T P = sP ∧ newP T B.length P = pP) := fun j hj h => HN.out.hit hlt h hj
      have HIDX : Hid (idxI Tk (joinD (P.drop k)) = idxI T (joinD (P.drop k))) := by rw [HEQ.out.2.1]; exact HN.out.idx
      obtain ⟨x, hxe⟩ : ∃ x, x = P[k]'hlt := ⟨_, rfl⟩
      rw [← hxe] at hcx hxl HMISS
      clear hxe hc hrow
      go_wp2_with fail
      refine (joinLabels_any _ (P.drop k) _ HROW2.out HJL).mono ?_
      rintro e w2 ⟨rfl, hb2⟩
      have HS2 : Hid (PkS base pb (.slice al P.length capl) P w2 (.slice aw Bk.length cw) vt vp Bk Tk pk) := HS.out.below hb2
      have HB2 : Hid (Below base w w2) := HB.out.trans (hb2.mono HS.out.base_le)
      clear c0 c1 c2 f0 f1 f2 hcx hb2
      obtain ⟨c0, c1, c2, f0, f1, f2⟩ := HS2.out.cells
      go_wp2_with fail
      refine (index_any _ Tk _ _ (row_own HS2.out.told)).mono ?_
      rintro e w3 ⟨rfl, rfl⟩
      rw [HIDX.out]
      have hge := idxI_ge T (joinD (P.drop k))
      have HLT : Hid (∀ j : Nat, idxI T (joinD (P.drop k)) = (j : Int) → j < T.length) := fun j h => idxI_lt h
      obtain ⟨q, hq⟩ : ∃ q, q = idxI T (joinD (P.drop k)) := ⟨_, rfl⟩
      rw [← hq] at hge HLT HMISS HHIT ⊢
      clear hq
      by_cases hneg : q < 0
      · have HM : Hid (PkN P T ps B.length (k + 1) (pre ++ UInt8.ofNat x.length :: x) (sP ++ [joinD (P.drop k)]) (pP ++ [Bk.length])) := HMISS.out hneg
        obtain ⟨sx, hsx⟩ : ∃ sx, sx = joinD (P.drop k) := ⟨_, rfl⟩
        rw [← hsx] at HM ⊢
        clear hsx
        go_wp2_with (first | (at_builtin; refine wpList_append_own_at _ rfl (.tmp 46) (.tmp 48) 24 rfl base 9 i9 (.string ByteArray.empty) 1 16 Tryd.underlying24 hi9 hs0 hs1 hs2 rfl (by decide) _ _ _ rfl (HS2.out.told.alloc _) ⟨w3.heap.size, 0, none⟩ 1 1 [.string ⟨sx.toArray⟩] rfl rfl ?d1 ?d2 ?d3 ?d4 ?d5 ?_))
        case d1 => exact cell_new_one _ _ _
        case d2 => exact one_string _
        case d3 => unfold maxLen; omega
        case d4 => omega
        case d5 => simp; exact Nat.le_succ_of_le HS2.out.base_le
        intro vt1 w4 hown4 hgrow4 _ hat4
        have HK4 : Hid (Kpt w3 w4 (fun k => vt.ownBlock = some k)) := (kpt_alloc _ _ _).trans (grown_kpt hgrow4)
        have HAP : Hid (∀ g, (Value.slice al P.length capl).ownBlock = some g → vt1.ownBlock ≠ some g) := fun g hg h1 => by
          rcases hat4 with e | e
          · exact HS2.out.apart g hg (e ▸ h1)
          · rw [e] at h1
            have e2 := Option.some.inj h1
            have e3 := (HS2.out.labels.lt g hg).2
            (try simp at e2); omega
        obtain ⟨T4, hT4⟩ : ∃ T4, T4 = Tk ++ [sx] := ⟨_, rfl⟩
        have HO4 : Hid (w4.ownsRow base 9 1 vt1 T4.length (T4.map S)) := by
          have e : (Tk ++ [sx]).map S = Tk.map S ++ [S sx] := List.map_append
          have e2 : (Tk ++ [sx]).length = Tk.length + 1 := List.length_append
          rw [hT4, e, e2]; exact hown4
        have HT4 : Hid (T4 = Tk ++ [sx]) := hT4
        clear hT4
        obtain ⟨at1, ct1, hvt1, _, _⟩ := own_slice HO4.out
        subst hvt1
        have hbx4 := HS2.out.boxT HK4.out
        have HST := HS2.out.tell HK4.out HO4.out HAP.out
        obtain ⟨w5, hw5⟩ : ∃ w5, w5 = w4.setCell ⟨pb, 1, none⟩ (.slice at1 T4.length ct1) := ⟨_, rfl⟩
        rw [← hw5] at HST
        have HS5 : Hid (PkS base pb (.slice al P.length capl) P w5 (.slice aw Bk.length cw) (.slice at1 T4.length ct1) vp Bk T4 pk) := HST.1
        have HB5 : Hid (Below base w w5) := HB2.out.trans HST.2
        have HW5 : Hid (w4.setCell ⟨pb, 1, none⟩ (.slice at1 T4.length ct1) = w5) := hw5.symm
        clear c0 c1 c2 f0 f1 f2 hown4 hgrow4 hat4 HS2 HST hw5
        obtain ⟨c0, c1, c2, f0, f1, f2⟩ := box3_cells hbx4
        clear hbx4
        go_wp2_with fail
        rw [HW5.out]
        clear c0 c1 c2 f0 f1 f2 HW5 HO4 HAP HK4
        obtain ⟨c0, c1, c2, f0, f1, f2⟩ := HS5.out.cells
        have hbz5 := HS5.out.base_le
        have HP5 : Hid ((w5.drew.alloc (.cells #[.int .i64 (Bk.length : Int)] 3)).ownsRow base 3 1 vp pk.length (pk.map I64)) := own_below HS5.out.places (((Below.refl w5.heap.size w5).drew).alloc (Nat.le_refl _) _)
        have HSA : Hid ((w5.alloc (.cells #[.int .i64 (Bk.length : Int)] 3)).drew.cell? ⟨pb, 0, none⟩ = some (.slice aw Bk.length cw) ∧ (w5.alloc (.cells #[.int .i64 (Bk.length : Int)] 3)).drew.cell? ⟨pb, 2, none⟩ = some vp) := by
          have e := (((Below.refl w5.heap.size w5).drew).alloc (Nat.le_refl _) (.cells #[.int .i64 (Bk.length : Int)] 3)).block pb HS5.out.lt
          have e2 := box3_cells (e.trans HS5.out.box)
          exact ⟨e2.1, e2.2.2.1⟩
        have HBX : Hid (∀ w6, ((w5.drew).alloc (.cells #[.int .i64 (Bk.length : Int)] 3)).grownBy w6 vp.ownBlock → Kpt w5 w6 (fun k => vp.ownBlock = some k) ∧ w6.heap[pb]? = some (.cells #[.slice aw Bk.length cw, .slice at1 T4.length ct1, vp] 83)) := fun w6 hg => by
          have hk : Kpt w5 w6 (fun k => vp.ownBlock = some k) := (below_kpt0 (((Below.refl w5.heap.size w5).drew).alloc (Nat.le_refl _) _) _).trans (grown_kpt hg)
          exact ⟨hk, HS5.out.boxP hk⟩
        have HKP : Hid (∀ (w6 : World) (v2 v : Value), w6.heap[pb]? = some (.cells #[.slice aw Bk.length cw, .slice at1 T4.length ct1, v2] 83) → (w6.setCell ⟨pb, 2, none⟩ v).cell? ⟨pb, 0, none⟩ = some (.slice aw Bk.length cw)) := fun w6 v2 v hb => (box3_cells (heap_setCell_same w6 pb 2 _ _ v hb)).1
        have HSH : Hid (∀ (v : Value) (w6 : World), w6.ownsRow base 3 1 v (pk.length + 1) (pk.map I64 ++ [.int .i64 (Bk.length : Int)]) → ∃ a c, v = .slice a (pk.length + 1) c) := fun v w6 h => by
          obtain ⟨a, c, e, _⟩ := own_slice h
          exact ⟨a, c, e⟩
        refine wp_region_noPanic ?_
        refine wp_region_held_drew (S := fun W => W.cell? ⟨pb, 0, none⟩ = some (.slice aw Bk.length cw)) (by kernel_rfl) (by simpa using c0) (fun hS0 => ?_)
        refine wpAnyH_take (i := 0) (v := .pointer (some ⟨pb, 0, none⟩)) rfl (by kernel_rfl) (by kernel_rfl) (by kernel_rfl) (fun _ _ _ h => h) (Or.inl ⟨by rfl, ?_⟩) (by assumption) ?_
        · intro W hSW
          go_simp
          all_goals (try omega)
        simp only [Act.put]
        refine wpAnyH_take (i := 1) (v := .pointer (some ⟨pb, 0, none⟩)) rfl (by kernel_rfl) (by kernel_rfl) (by kernel_rfl) (fun _ _ _ h => h) (Or.inl ⟨by rfl, ?_⟩) (by assumption) ?_
        · intro W hSW
          go_simp
          all_goals (try omega)
        simp only [Act.put]
        refine wpAnyH_take (i := 2) (v := .pointer (some ⟨pb, 0, none⟩)) rfl (by kernel_rfl) (by kernel_rfl) (by kernel_rfl) (fun _ _ _ h => h) (Or.inl ⟨by rfl, ?_⟩) (by assumption) ?_
        · intro W hSW
          go_simp
          all_goals (try omega)
        simp only [Act.put]
        refine wpAnyH_take (i := 3) (v := .pointer (some ⟨pb, 2, none⟩)) rfl (by kernel_rfl) (by kernel_rfl) (by kernel_rfl) (fun _ _ _ h => h) (Or.inl ⟨by rfl, ?_⟩) (by assumption) ?_
        · intro W hSW
          go_simp
          all_goals (try omega)
        simp only [Act.put]
        refine wpAnyH_take (i := 5) (v := .pointer (some ⟨pb, 0, none⟩)) rfl (by kernel_rfl) (by kernel_rfl) (by kernel_rfl) (fun _ _ _ h => h) (Or.inl ⟨by rfl, ?_⟩) (by assumption) ?_
        · intro W hSW
          go_simp
          all_goals (try omega)
        simp only [Act.put]
        refine wpAnyH_take (i := 6) (v := .pointer (some ⟨pb, 0, none⟩)) rfl (by kernel_rfl) (by kernel_rfl) (by kernel_rfl) (fun _ _ _ h => h) (Or.inl ⟨by rfl, ?_⟩) (by assumption) ?_
        · intro W hSW
          go_simp
          all_goals (try omega)
        simp only [Act.put]
        refine wpAnyH_take (i := 7) (v := .pointer (some ⟨pb, 0, none⟩)) rfl (by kernel_rfl) (by kernel_rfl) (by kernel_rfl) (fun _ _ _ h => h) (Or.inl ⟨by rfl, ?_⟩) (by assumption) ?_
        · intro W hSW
          go_simp
          all_goals (try omega)
        simp only [Act.put]
        refine wpAnyH_take (i := 8) (v := .slice aw Bk.length cw) rfl (by kernel_rfl) (by kernel_rfl) (by kernel_rfl) (fun _ _ _ h => h) (Or.inl ⟨by rfl, ?_⟩) (by assumption) ?_
        · intro W hSW
          go_simp
          all_goals (try omega)
        simp only [Act.put]
        refine wpAnyH_take (i := 9) (v := .int .i64 (Bk.length : Int)) rfl (by kernel_rfl) (by kernel_rfl) (by kernel_rfl) (fun _ _ _ h => h) (Or.inl ⟨by rfl, ?_⟩) (by assumption) ?_
        · intro W hSW
          go_simp
          all_goals (try omega)
        simp only [Act.put]
        refine wpAnyH_ready (rs := [4, 10]) (by kernel_rfl) (by simp) ?_
        refine AllReadyH.cons rfl (fun K hK => ?_) (AllReadyH.cons rfl (fun K hK => ?_) AllReadyH.nil)
        · rw [if_pos (by rfl)]
          go_simp
          refine hK.out _ _ hS0 (fun _ => ?_)
          clear hK K
          refine wpAnyH_ready (rs := [10]) (by kernel_rfl) (by simp) ?_
          refine AllReadyH.cons rfl (fun K hK => ?_) AllReadyH.nil
          rw [if_pos (by rfl)]
          go_simp
          refine hK.out _ _ (HSA.out.1) (fun _ => ?_)
          clear hK K
          refine wpAnyH_ready (rs := [11]) (by kernel_rfl) (by simp) ?_
          refine AllReadyH.cons rfl (fun K hK => ?_) AllReadyH.nil
          refine step_append_at rfl (.tmp 56) (.tmp 62) 70 rfl base 3 i3 (.int .i64 0) 1 8 Tryd.underlying70 hi3 hn0 hn1 hn2 rfl (by decide) _ _ _ rfl HP5.out ⟨w5.heap.size, 0, none⟩ 1 1 [.int .i64 (Bk.length : Int)] rfl rfl (cell_new_one _ _ _) (one_int _) (by unfold maxLen; omega) (by omega) (by simp; omega) ?_
          intro vp6 w6 hown6 hgrow6 _
          obtain ⟨hk6, hbx6⟩ := HBX.out w6 hgrow6
          obtain ⟨ap6, cp6, hvp6⟩ := HSH.out _ _ hown6
          subst hvp6
          refine hK.out _ _ (box3_cells hbx6).1 (fun hS6 => ?_)
          clear hK K c0 c1 c2 f0 f1 f2
          obtain ⟨c0, c1, c2, f0, f1, f2⟩ := box3_cells hbx6
          simp only [Act.put]
          refine wpAnyH_take (i := 12) (v := .pointer (some ⟨pb, 0, none⟩)) rfl (by kernel_rfl) (by kernel_rfl) (by kernel_rfl) (fun _ _ _ h => h) (Or.inl ⟨by rfl, ?_⟩) (by assumption) ?_
          · intro W hSW
            go_simp
            all_goals (try omega)
          simp only [Act.put]
          refine wpAnyH_take (i := 13) (v := .pointer (some ⟨pb, 2, none⟩)) rfl (by kernel_rfl) (by kernel_rfl) (by kernel_rfl) (fun _ _ _ h => h) (Or.inl ⟨by rfl, ?_⟩) (by assumption) ?_
          · intro W hSW
            go_simp
            all_goals (try omega)
          simp only [Act.put]
          refine wpAnyH_ready (rs := [14]) (by kernel_rfl) (by simp) ?_
          refine AllReadyH.cons rfl (fun K hK => ?_) AllReadyH.nil
          rw [if_pos (by rfl)]
          go_simp
          refine hK.out _ _ (HKP.out _ _ _ hbx6) (fun _ => ?_)
          clear hK K
          refine wpAnyH_done (by kernel_rfl) ?_ _
          refine NoPanic.normal ?_
          have hown7 : w6.ownsRow base 3 1 (.slice ap6 (pk.length + 1) cp6) (pk ++ [Bk.length]).length ((pk ++ [Bk.length]).map I64) := by
            have e : (pk ++ [Bk.length]).map I64 = pk.map I64 ++ [I64 Bk.length] := List.map_append
            have e2 : (pk ++ [Bk.length]).length = pk.length + 1 := List.length_append
            rw [e, e2]; exact hown6
          have HSP := HS5.out.place hk6 hown7
          clear hown6 hown7 hgrow6 hk6 hbx6 hS6 c0 c1 c2 f0 f1 f2
          obtain ⟨w7, hw7⟩ : ∃ w7, w7 = w6.setCell ⟨pb, 2, none⟩ (.slice ap6 (pk.length + 1) cp6) := ⟨_, rfl⟩
          rw [← hw7] at HSP ⊢
          clear hw7
          obtain ⟨p7, hp7⟩ : ∃ p7, p7 = pk ++ [Bk.length] := ⟨_, rfl⟩
          rw [← hp7] at HSP
          have HP7 : Hid (p7 = pk ++ [Bk.length]) := hp7
          have HS7 : Hid (PkS base pb (.slice al P.length capl) P w7 (.slice aw Bk.length cw) (.slice at1 T4.length ct1) (.slice ap6 (pk.length + 1) cp6) Bk T4 p7) := HSP.1
          have HB7 : Hid (Below base w w7) := HB5.out.trans HSP.2
          clear HSP hp7
          obtain ⟨c0, c1, c2, f0, f1, f2⟩ := HS7.out.cells
          go_wp2_with fail
          refine (appendLabel_any base _ Bk x _ HS7.out.wire HS7.out.base_le (by omega) (by omega)).mono ?_
          rintro e w8 ⟨v8, rfl, hown8, hk8⟩
          obtain ⟨B8', hB8⟩ : ∃ B8', B8' = Bk ++ UInt8.ofNat x.length :: x := ⟨_, rfl⟩
          rw [← hB8] at hown8
          obtain ⟨a8, cc8, hv8, _, _⟩ := own_slice hown8
          subst hv8
          have HSQ := HS7.out.put hk8 hown8
          have hbx8 := HS7.out.boxW hk8
          have HSQ1 : Hid (PkS base pb (.slice al P.length capl) P (w8.setCell ⟨pb, 0, none⟩ (.slice a8 B8'.length cc8)) (.slice a8 B8'.length cc8) (.slice at1 T4.length ct1) (.slice ap6 (pk.length + 1) cp6) B8' T4 p7) := HSQ.1
          have HB8 : Hid (Below base w (w8.setCell ⟨pb, 0, none⟩ (.slice a8 B8'.length cc8))) := HB7.out.trans HSQ.2
          have HB8' : Hid (B8' = Bk ++ UInt8.ofNat x.length :: x) := hB8
          clear c0 c1 c2 f0 f1 f2 HSQ hown8 hk8 hB8
          obtain ⟨c0, c1, c2, f0, f1, f2⟩ := box3_cells hbx8
          clear hbx8
          go_wp2_with fail
          go_roundw
          case rel =>
            refine ⟨k + 1, _, _, _, .slice a8 B8'.length cc8, .slice at1 T4.length ct1, .slice ap6 (pk.length + 1) cp6, B8', T4, p7, by omega, by go_num, HM, ⟨?_, ?_, ?_⟩, (by rw [← ha]; exact HSQ1), HB8⟩
            · rw [HB8'.out, HEQ.out.1, List.append_assoc]
            · rw [HT4.out, HEQ.out.2.1, List.append_assoc]
            · rw [HP7.out, HEQ.out.2.2, List.append_assoc]
          case measure => simp [intOf]; omega
        · rw [if_pos (by rfl)]
          go_simp
          refine hK.out _ _ (HSA.out.1) (fun _ => ?_)
          clear hK K
          refine wpAnyH_ready (rs := [4]) (by kernel_rfl) (by simp) ?_
          refine AllReadyH.cons rfl (fun K hK => ?_) AllReadyH.nil
          rw [if_pos (by rfl)]
          have hc2 := HSA.out.2
          go_simp
          refine hK.out _ _ (HSA.out.1) (fun _ => ?_)
          clear hK K hc2
          refine wpAnyH_ready (rs := [11]) (by kernel_rfl) (by simp) ?_
          refine AllReadyH.cons rfl (fun K hK => ?_) AllReadyH.nil
          refine step_append_at rfl (.tmp 56) (.tmp 62) 70 rfl base 3 i3 (.int .i64 0) 1 8 Tryd.underlying70 hi3 hn0 hn1 hn2 rfl (by decide) _ _ _ rfl HP5.out ⟨w5.heap.size, 0, none⟩ 1 1 [.int .i64 (Bk.length : Int)] rfl rfl (cell_new_one _ _ _) (one_int _) (by unfold maxLen; omega) (by omega) (by simp; omega) ?_
          intro vp6 w6 hown6 hgrow6 _
          obtain ⟨hk6, hbx6⟩ := HBX.out w6 hgrow6
          obtain ⟨ap6, cp6, hvp6⟩ := HSH.out _ _ hown6
          subst hvp6
          refine hK.out _ _ (box3_cells hbx6).1 (fun hS6 => ?_)
          clear hK K c0 c1 c2 f0 f1 f2
          obtain ⟨c0, c1, c2, f0, f1, f2⟩ := box3_cells hbx6
          simp only [Act.put]
          refine wpAnyH_take (i := 12) (v := .pointer (some ⟨pb, 0, none⟩)) rfl (by kernel_rfl) (by kernel_rfl) (by kernel_rfl) (fun _ _ _ h => h) (Or.inl ⟨by rfl, ?_⟩) (by assumption) ?_
          · intro W hSW
            go_simp
            all_goals (try omega)
          simp only [Act.put]
          refine wpAnyH_take (i := 13) (v := .pointer (some ⟨pb, 2, none⟩)) rfl (by kernel_rfl) (by kernel_rfl) (by kernel_rfl) (fun _ _ _ h => h) (Or.inl ⟨by rfl, ?_⟩) (by assumption) ?_
          · intro W hSW
            go_simp
            all_goals (try omega)
          simp only [Act.put]
          refine wpAnyH_ready (rs := [14]) (by kernel_rfl) (by simp) ?_
          refine AllReadyH.cons rfl (fun K hK => ?_) AllReadyH.nil
          rw [if_pos (by rfl)]
          go_simp
          refine hK.out _ _ (HKP.out _ _ _ hbx6) (fun _ => ?_)
          clear hK K
          refine wpAnyH_done (by kernel_rfl) ?_ _
          refine NoPanic.normal ?_
          have hown7 : w6.ownsRow base 3 1 (.slice ap6 (pk.length + 1) cp6) (pk ++ [Bk.length]).length ((pk ++ [Bk.length]).map I64) := by
            have e : (pk ++ [Bk.length]).map I64 = pk.map I64 ++ [I64 Bk.length] := List.map_append
            have e2 : (pk ++ [Bk.length]).length = pk.length + 1 := List.length_append
            rw [e, e2]; exact hown6
          have HSP := HS5.out.place hk6 hown7
          clear hown6 hown7 hgrow6 hk6 hbx6 hS6 c0 c1 c2 f0 f1 f2
          obtain ⟨w7, hw7⟩ : ∃ w7, w7 = w6.setCell ⟨pb, 2, none⟩ (.slice ap6 (pk.length + 1) cp6) := ⟨_, rfl⟩
          rw [← hw7] at HSP ⊢
          clear hw7
          obtain ⟨p7, hp7⟩ : ∃ p7, p7 = pk ++ [Bk.length] := ⟨_, rfl⟩
          rw [← hp7] at HSP
          have HP7 : Hid (p7 = pk ++ [Bk.length]) := hp7
          have HS7 : Hid (PkS base pb (.slice al P.length capl) P w7 (.slice aw Bk.length cw) (.slice at1 T4.length ct1) (.slice ap6 (pk.length + 1) cp6) Bk T4 p7) := HSP.1
          have HB7 : Hid (Below base w w7) := HB5.out.trans HSP.2
          clear HSP hp7
          obtain ⟨c0, c1, c2, f0, f1, f2⟩ := HS7.out.cells
          go_wp2_with fail
          refine (appendLabel_any base _ Bk x _ HS7.out.wire HS7.out.base_le (by omega) (by omega)).mono ?_
          rintro e w8 ⟨v8, rfl, hown8, hk8⟩
          obtain ⟨B8', hB8⟩ : ∃ B8', B8' = Bk ++ UInt8.ofNat x.length :: x := ⟨_, rfl⟩
          rw [← hB8] at hown8
          obtain ⟨a8, cc8, hv8, _, _⟩ := own_slice hown8
          subst hv8
          have HSQ := HS7.out.put hk8 hown8
          have hbx8 := HS7.out.boxW hk8
          have HSQ1 : Hid (PkS base pb (.slice al P.length capl) P (w8.setCell ⟨pb, 0, none⟩ (.slice a8 B8'.length cc8)) (.slice a8 B8'.length cc8) (.slice at1 T4.length ct1) (.slice ap6 (pk.length + 1) cp6) B8' T4 p7) := HSQ.1
          have HB8 : Hid (Below base w (w8.setCell ⟨pb, 0, none⟩ (.slice a8 B8'.length cc8))) := HB7.out.trans HSQ.2
          have HB8' : Hid (B8' = Bk ++ UInt8.ofNat x.length :: x) := hB8
          clear c0 c1 c2 f0 f1 f2 HSQ hown8 hk8 hB8
          obtain ⟨c0, c1, c2, f0, f1, f2⟩ := box3_cells hbx8
          clear hbx8
          go_wp2_with fail
          go_roundw
          case rel =>
            refine ⟨k + 1, _, _, _, .slice a8 B8'.length cc8, .slice at1 T4.length ct1, .slice ap6 (pk.length + 1) cp6, B8', T4, p7, by omega, by go_num, HM, ⟨?_, ?_, ?_⟩, (by rw [← ha]; exact HSQ1), HB8⟩
            · rw [HB8'.out, HEQ.out.1, List.append_assoc]
            · rw [HT4.out, HEQ.out.2.1, List.append_assoc]
            · rw [HP7.out, HEQ.out.2.2, List.append_assoc]
          case measure => simp [intOf]; omega
      · obtain ⟨j, rfl⟩ : ∃ j : Nat, q = (j : Int) := ⟨q.toNat, by omega⟩
        have hjT := HLT.out j rfl
        have hj : j < ps.length := by rw [← hlen.out]; exact hjT
        obtain ⟨HH, HH2, HH3⟩ := HHIT.out j hj rfl
        have HHH : Hid (packL T ps P = pre ++ ptr (ps[j]'hj) ∧ newS T P = sP ∧ newP T B.length P = pP) := ⟨HH, HH2, HH3⟩
        clear HH HH2 HH3
        have hpj := hps.out _ (List.getElem_mem hj)
        obtain ⟨ap, cp, hvp, hcp, hmp, HPR⟩ := irow_value (irow_own HS2.out.places)
        have hjk : j < pk.length := by rw [HEQ.out.2.2, List.length_append]; omega
        obtain ⟨bp, op, hap, hbp, hcpx⟩ := HPR.out (by omega)
        have hcj := hcpx j hjk
        have hpe : pk[j]'hjk = ps[j]'hj := by
          have h1 : pk[j]? = some (ps[j]'hj) := by rw [HEQ.out.2.2, List.getElem?_append_left hj, List.getElem?_eq_getElem hj]
          rw [List.getElem?_eq_getElem hjk] at h1
          exact Option.some.inj h1
        rw [hpe] at hcj
        subst hvp
        subst hap
        obtain ⟨pj, hpje⟩ : ∃ pj, pj = ps[j]'hj := ⟨_, rfl⟩
        rw [← hpje] at hcj hpj HHH
        clear hcpx hpje HPR hpe
        go_wp2_with fail
        have HS3 : Hid (PkS base pb (.slice al P.length capl) P w3.drew (.slice aw Bk.length cw) vt (.slice (some ⟨bp, op, none⟩) pk.length cp) Bk Tk pk) := HS2.out.below (Below.refl _ _).drew
        have HSX : Hid (∀ w4, Kpt w3.drew w4 (fun k => (Value.slice aw Bk.length cw).ownBlock = some k) → w4.cell? ⟨pb, 2, none⟩ = some (.slice (some ⟨bp, op, none⟩) pk.length cp) ∧ w4.cell? ⟨bp, op + j, none⟩ = some (.int .i64 (pj : Int))) := fun w4 hk => by
          refine ⟨(box3_cells (HS3.out.boxW hk)).2.2.1, hk.cell (p := ⟨bp, op + j, none⟩) (by simpa using hcj) (fun e => own_ne (by decide) HS3.out.wire HS3.out.places bp e rfl)⟩
        have hpb : bp ≠ pb := fun e => own_box HS2.out.places HS2.out.box (by decide) (by rw [← e]; rfl)
        refine wp_region_noPanic ?_
        refine wp_region_held_drew (S := fun W => W.cell? ⟨pb, 2, none⟩ = some (.slice (some ⟨bp, op, none⟩) pk.length cp) ∧ W.cell? ⟨bp, op + j, none⟩ = some (.int .i64 (pj : Int))) (by kernel_rfl) (HSX.out _ (Kpt.refl _ _)) (fun hS0 => ?_)
        refine wpAnyH_take (i := 0) (v := .pointer (some ⟨pb, 0, none⟩)) rfl (by kernel_rfl) (by kernel_rfl) (by kernel_rfl) (fun _ _ _ h => h) (Or.inl ⟨by rfl, ?_⟩) (by assumption) ?_
        · intro W hSW
          go_simp
          all_goals (try omega)
        simp only [Act.put]
        refine wpAnyH_take (i := 1) (v := .pointer (some ⟨pb, 0, none⟩)) rfl (by kernel_rfl) (by kernel_rfl) (by kernel_rfl) (fun _ _ _ h => h) (Or.inl ⟨by rfl, ?_⟩) (by assumption) ?_
        · intro W hSW
          go_simp
          all_goals (try omega)
        simp only [Act.put]
        refine wpAnyH_take (i := 2) (v := .pointer (some ⟨pb, 0, none⟩)) rfl (by kernel_rfl) (by kernel_rfl) (by kernel_rfl) (fun _ _ _ h => h) (Or.inl ⟨by rfl, ?_⟩) (by assumption) ?_
        · intro W hSW
          go_simp
          all_goals (try omega)
        simp only [Act.put]
        refine wpAnyH_take (i := 3) (v := .pointer (some ⟨pb, 0, none⟩)) rfl (by kernel_rfl) (by kernel_rfl) (by kernel_rfl) (fun _ _ _ h => h) (Or.inl ⟨by rfl, ?_⟩) (by assumption) ?_
        · intro W hSW
          go_simp
          all_goals (try omega)
        simp only [Act.put]
        refine wpAnyH_take (i := 5) (v := .pointer (some ⟨pb, 0, none⟩)) rfl (by kernel_rfl) (by kernel_rfl) (by kernel_rfl) (fun _ _ _ h => h) (Or.inl ⟨by rfl, ?_⟩) (by assumption) ?_
        · intro W hSW
          go_simp
          all_goals (try omega)
        simp only [Act.put]
        refine wpAnyH_take (i := 6) (v := .pointer (some ⟨pb, 0, none⟩)) rfl (by kernel_rfl) (by kernel_rfl) (by kernel_rfl) (fun _ _ _ h => h) (Or.inl ⟨by rfl, ?_⟩) (by assumption) ?_
        · intro W hSW
          go_simp
          all_goals (try omega)
        simp only [Act.put]
        refine wpAnyH_take (i := 7) (v := .pointer (some ⟨pb, 2, none⟩)) rfl (by kernel_rfl) (by kernel_rfl) (by kernel_rfl) (fun _ _ _ h => h) (Or.inl ⟨by rfl, ?_⟩) (by assumption) ?_
        · intro W hSW
          go_simp
          all_goals (try omega)
        simp only [Act.put]
        refine wpAnyH_take (i := 8) (v := .slice (some ⟨bp, op, none⟩) pk.length cp) rfl (by kernel_rfl) (by kernel_rfl) (by kernel_rfl) (fun _ _ _ h => h) (Or.inl ⟨by rfl, ?_⟩) (by assumption) ?_
        · intro W hSW
          obtain ⟨hs2, hs3⟩ := hSW
          go_simp
          all_goals (try omega)
        simp only [Act.put]
        refine wpAnyH_take (i := 9) (v := .int .i64 (j : Int)) rfl (by kernel_rfl) (by kernel_rfl) (by kernel_rfl) (fun _ _ _ h => h) (Or.inl ⟨by rfl, ?_⟩) (by assumption) ?_
        · intro W hSW
          go_simp
          all_goals (try omega)
        simp only [Act.put]
        refine wpAnyH_take (i := 10) (v := .pointer (some ⟨bp, op + j, none⟩)) rfl (by kernel_rfl) (by kernel_rfl) (by kernel_rfl) (fun _ _ _ h => h) (Or.inl ⟨by rfl, ?_⟩) (by assumption) ?_
        · intro W hSW
          obtain ⟨hs2, hs3⟩ := hSW
          go_simp
          all_goals (try omega)
        simp only [Act.put]
        refine wpAnyH_take (i := 11) (v := .int .i64 (pj : Int)) rfl (by kernel_rfl) (by kernel_rfl) (by kernel_rfl) (fun _ _ _ h => h) (Or.inl ⟨by rfl, ?_⟩) (by assumption) ?_
        · intro W hSW
          obtain ⟨hs2, hs3⟩ := hSW
          go_simp
          all_goals (try omega)
        simp only [Act.put]
        refine wpAnyH_ready (rs := [4]) (by kernel_rfl) (by simp) ?_
        refine AllReadyH.cons rfl (fun K hK => ?_) AllReadyH.nil
        rw [if_pos (by rfl)]
        go_simp
        refine hK.out _ _ hS0 (fun _ => ?_)
        clear hK K
        refine wpAnyH_ready (rs := [12]) (by kernel_rfl) (by simp) ?_
        refine AllReadyH.cons rfl (fun K hK => ?_) AllReadyH.nil
        rw [if_pos (by rfl)]
        go_simp
        refine (appendPointer_any base _ Bk pj _ HS3.out.wire HS3.out.base_le (by omega) hpj).mono ?_
        rintro e w4 ⟨v4, rfl, hown4, hk4⟩
        go_simp
        obtain ⟨B4, hB4⟩ : ∃ B4, B4 = Bk ++ ptr pj := ⟨_, rfl⟩
        rw [← hB4] at hown4
        have HB4 : Hid (B4 = Bk ++ ptr pj) := hB4
        clear hB4
        obtain ⟨a4, cc4, hv4, _, _⟩ := own_slice hown4
        subst hv4
        have HSQ := HS3.out.put hk4 hown4
        have hbx4 := HS3.out.boxW hk4
        refine hK.out _ _ (HSX.out w4 hk4) (fun hS4 => ?_)
        clear hK K c0 c1 c2 f0 f1 f2
        obtain ⟨c0, c1, c2, f0, f1, f2⟩ := box3_cells hbx4
        refine wpAnyH_take (i := 13) (v := .pointer (some ⟨pb, 0, none⟩)) rfl (by kernel_rfl) (by kernel_rfl) (by kernel_rfl) (fun _ _ _ h => h) (Or.inl ⟨by rfl, ?_⟩) (by assumption) ?_
        · intro W hSW
          go_simp
          all_goals (try omega)
        simp only [Act.put]
        refine wpAnyH_take (i := 14) (v := .pointer (some ⟨pb, 0, none⟩)) rfl (by kernel_rfl) (by kernel_rfl) (by kernel_rfl) (fun _ _ _ h => h) (Or.inl ⟨by rfl, ?_⟩) (by assumption) ?_
        · intro W hSW
          go_simp
          all_goals (try omega)
        simp only [Act.put]
        refine wpAnyH_ready (rs := [15]) (by kernel_rfl) (by simp) ?_
        refine AllReadyH.cons rfl (fun K hK => ?_) AllReadyH.nil
        rw [if_pos (by rfl)]
        go_simp
        refine hK.out _ _ ⟨(box3_cells HSQ.1.box).2.2.1, ?_⟩ (fun _ => ?_)
        · rw [World.cell?_setCell_far _ _ _ _ (show pb ≠ bp from fun e => hpb e.symm)]; exact hS4.2
        clear hK K
        refine wpAnyH_done (by kernel_rfl) ?_ _
        refine NoPanic.normal ?_
        have HF : Hid (∃ vw' vt' vp', PkS base pb (.slice al P.length capl) P (w4.setCell ⟨pb, 0, none⟩ (.slice a4 B4.length cc4)) vw' vt' vp' (B ++ packL T ps P) (T ++ newS T P) (ps ++ newP T B.length P) ∧ Below base w (w4.setCell ⟨pb, 0, none⟩ (.slice a4 B4.length cc4))) := by
          refine ⟨.slice a4 B4.length cc4, vt, .slice (some ⟨bp, op, none⟩) pk.length cp, ?_, HB2.out.trans ((below_kpt (B := base) ((Below.refl base w3).drew)).below HS2.out.base_le (fun k h1 h2 => by omega) |>.trans HSQ.2)⟩
          rw [HHH.out.1, HHH.out.2.1, HHH.out.2.2, ← List.append_assoc, ← HEQ.out.1, ← HEQ.out.2.1, ← HEQ.out.2.2, ← HB4.out]
          exact HSQ.1
        go_wp2_with fail
        (try simp only [Exit.inBlock, Exit.then]); refine bodyPost_ret (results_none rfl _ _ _) rfl ?_
        exact ⟨rfl, HF.out⟩
    · obtain ⟨HE1, HE2, HE3⟩ := HN.out.fin hlt
      have HHH : Hid (packL T ps P = pre ++ [0] ∧ newS T P = sP ∧ newP T B.length P = pP) := ⟨HE1, HE2, HE3⟩
      clear HE1 HE2 HE3
      go_wp2_with (first | (at_builtin; refine wpList_append_own _ rfl (.tmp 80) (.tmp 81) 22 rfl base 5 i0 (.int .u8 0) 1 1 Tryd.underlying22 hi hz0 hz1 hz2 rfl (by decide) _ _ _ rfl (HS.out.wire.alloc _) ⟨wr.heap.size, 0, none⟩ 1 1 [.int .u8 0] rfl rfl ?d1 ?d2 ?d3 ?d4 ?d5 ?_))
      case d1 => exact cell_new_one _ _ _
      case d2 => exact one_byte _
      case d3 => unfold maxLen; omega
      case d4 => omega
      case d5 => simp; exact Nat.le_succ_of_le HS.out.base_le
      intro v1 w1 hown1 hgrow1 _
      have hk1 : Kpt wr w1 (fun k => (Value.slice aw Bk.length cw).ownBlock = some k) := (kpt_alloc _ _ _).trans (grown_kpt hgrow1)
      obtain ⟨B4, hB4⟩ : ∃ B4, B4 = Bk ++ [0] := ⟨_, rfl⟩
      have hown4 : w1.ownsRow base 5 1 v1 B4.length (B4.map B8) := by
        have e : (Bk ++ [(0 : UInt8)]).map B8 = Bk.map B8 ++ [.int .u8 0] := List.map_append
        have e2 : (Bk ++ [(0 : UInt8)]).length = Bk.length + 1 := List.length_append
        rw [hB4, e, e2]; exact hown1
      have HB4 : Hid (B4 = Bk ++ [0]) := hB4
      clear hB4
      obtain ⟨a4, cc4, hv4, _, _⟩ := own_slice hown4
      subst hv4
      have HSQ := HS.out.put hk1 hown4
      have hbx4 := HS.out.boxW hk1
      have HF : Hid (∃ vw' vt' vp', PkS base pb (.slice al P.length capl) P (w1.setCell ⟨pb, 0, none⟩ (.slice a4 B4.length cc4)) vw' vt' vp' (B ++ packL T ps P) (T ++ newS T P) (ps ++ newP T B.length P) ∧ Below base w (w1.setCell ⟨pb, 0, none⟩ (.slice a4 B4.length cc4))) := by
        refine ⟨.slice a4 B4.length cc4, vt, vp, ?_, HB.out.trans HSQ.2⟩
        rw [HHH.out.1, HHH.out.2.1, HHH.out.2.2, ← List.append_assoc, ← HEQ.out.1, ← HEQ.out.2.1, ← HEQ.out.2.2, ← HB4.out]
        exact HSQ.1
      clear c0 c1 c2 f0 f1 f2 hown1 hown4 hgrow1 hk1 HSQ
      obtain ⟨c0, c1, c2, f0, f1, f2⟩ := box3_cells hbx4
      clear hbx4
      go_wp2_with fail
      (try simp only [Exit.inBlock, Exit.then]); refine bodyPost_end (results_none rfl _ _ _) rfl ?_
      exact ⟨rfl, HF.out⟩
end Go.Proofs.YtgccbkoklhohfaaDoor

namespace Go.Proofs.YtgccbkoklhohfaaDoor
open Go.RowKit

theorem tot_joinD : ∀ P : List (List UInt8), tot P + P.length ≤ (joinD P).length + 1
  | [] => by simp [joinD, tot]
  | p :: r => by
    have ih := tot_joinD r
    have e : tot (p :: r) = p.length + tot r := by simp [tot]
    unfold joinD
    split
    · rename_i h; rw [e, h]; simp [tot]
    · rw [e]; simp; omega
theorem packL_len (T : List (List UInt8)) (ps : List Nat) : ∀ P : List (List UInt8), (packL T ps P).length ≤ tot P + P.length + 2
  | [] => by simp [packL]
  | x :: r => by
    have ih := packL_len T ps r
    have e : tot (x :: r) = x.length + tot r := by simp [tot]
    unfold packL
    split
    · rw [e]; simp [ptr]
    · rw [e]; simp; omega
theorem pk_ps {T : List (List UInt8)} : ∀ (P : List (List UInt8)) (a : Nat), ∀ p ∈ newP T a P, p ≤ a + (tot P + P.length)
  | [], a, p, hp => by simp [newP] at hp
  | x :: r, a, p, hp => by
    have e : tot (x :: r) = x.length + tot r := by simp [tot]
    unfold newP at hp
    split at hp
    · cases hp
    · rcases List.mem_cons.1 hp with h | h
      · omega
      · have h1 := pk_ps r (a + 1 + x.length) p h
        rw [e, List.length_cons]; omega
theorem packL_small (T : List (List UInt8)) (ps : List Nat) : ∀ P : List (List UInt8), (∀ p ∈ P, p.length ≤ 20) → (packL T ps P).length ≤ 21 * P.length + 2
  | [], _ => by simp [packL]
  | x :: r, h => by
    have h1 := h x (by simp)
    have ih := packL_small T ps r (fun q hq => h q (by simp [hq]))
    unfold packL
    split
    · simp [ptr]
    · simp; omega
theorem name_labels {l : List UInt8} (h : nameB l = true) : (∀ p ∈ labelsOf l, p.length ≤ 20 ∧ 0 < p.length) ∧ (labelsOf l).length ≤ 8 := by
  unfold nameB at h
  simp only [Bool.and_eq_true, List.all_eq_true, decide_eq_true_eq] at h
  refine ⟨fun p hp => ?_, h.2.2⟩
  exact ⟨label_le (h.1 p hp), List.length_pos_iff.2 (lab_ne (h.1 p hp))⟩
theorem trk_no {P : List (List UInt8)} {B : List UInt8} {T : List (List UInt8)} {ps : List Nat} {k : Nat} {R : Option (List UInt8)} (h : R = trkR B T ps (P.drop k)) (hk : k < P.length) (hn : nameB P[k] = false) : R = none := by
  rw [h, List.drop_eq_getElem_cons hk, trkR, hn]; rfl
theorem trk_yes {P : List (List UInt8)} {B : List UInt8} {T : List (List UInt8)} {ps : List Nat} {k : Nat} {R : Option (List UInt8)} (h : R = trkR B T ps (P.drop k)) (hk : k < P.length) (hn : nameB P[k] = true) : R = trkR (B ++ packL T ps (labelsOf P[k])) (T ++ newS T (labelsOf P[k])) (ps ++ newP T B.length (labelsOf P[k])) (P.drop (k + 1)) := by
  rw [h, List.drop_eq_getElem_cons hk, trkR, if_pos hn]
theorem trk_end {P : List (List UInt8)} {B : List UInt8} {T : List (List UInt8)} {ps : List Nat} {k : Nat} {R : Option (List UInt8)} (h : R = trkR B T ps (P.drop k)) (hk : ¬ k < P.length) : R = some B := by
  rw [h, List.drop_of_length_le (by omega), trkR]
/-- A text, or none, and whether. -/
def putVal (R : Option (List UInt8)) : Ending := .returned (.tuple #[.string ⟨(R.getD []).toArray⟩, .bool R.isSome])
theorem put_none {R : Option (List UInt8)} (h : R = none) : Ending.returned (.tuple #[.string ⟨#[]⟩, .bool false]) = putVal R := by rw [h]; rfl
theorem put_some {R : Option (List UInt8)} {x : ByteArray} {y : List UInt8} (h : R = some y) (hx : x.data.toList = y) : Ending.returned (.tuple #[.string x, .bool true]) = putVal R := by
  rw [h]; unfold putVal; rw [data_eq hx]; rfl

/-- What is packed so far, between two names. -/
structure PkT (base pb k : Nat) (w : World) (vw vt vp : Value) (B : List UInt8) (T : List (List UInt8)) (ps : List Nat) : Prop where
  low : base ≤ pb
  box : w.heap[pb]? = some (.cells #[vw, vt, vp] 83)
  wire : w.ownsRow base 5 1 vw B.length (B.map B8)
  told : w.ownsRow base 9 1 vt T.length (T.map S)
  places : w.ownsRow base 3 1 vp ps.length (ps.map I64)
  same : T.length = ps.length
  few : T.length ≤ 8 * k
  near : ∀ p ∈ ps, p ≤ 63 * k
  short : B.length ≤ 63 * k
theorem PkT.lt {base pb k : Nat} {w : World} {vw vt vp : Value} {B : List UInt8} {T : List (List UInt8)} {ps : List Nat} (h : PkT base pb k w vw vt vp B T ps) : pb < w.heap.size := by
  have := h.box
  by_cases e : pb < w.heap.size
  · exact e
  · rw [Array.getElem?_eq_none (by omega)] at this; cases this
theorem PkT.below {base pb k : Nat} {w w' : World} {vw vt vp : Value} {B : List UInt8} {T : List (List UInt8)} {ps : List Nat} (h : PkT base pb k w vw vt vp B T ps) (hb : Below w.heap.size w w') : PkT base pb k w' vw vt vp B T ps :=
  ⟨h.low, (hb.block pb h.lt).trans h.box, own_below h.wire hb, own_below h.told hb, own_below h.places hb, h.same, h.few, h.near, h.short⟩
theorem PkT.with {base pb k : Nat} {w w' : World} {vw vt vp vl : Value} {B : List UInt8} {T P : List (List UInt8)} {ps : List Nat} (h : PkT base pb k w vw vt vp B T ps) (hb : Below w.heap.size w w') (hl : w'.ownsRow w.heap.size 9 1 vl P.length (P.map S)) (hbs : base ≤ w.heap.size) : PkS base pb vl P w' vw vt vp B T ps :=
  ⟨h.low, (hb.block pb h.lt).trans h.box, own_below h.wire hb, own_below h.told hb, own_below h.places hb, own_mono hl hbs, fun g h1 h2 => by
    have h3 := (hl.lt g h1).1
    have h4 := (h.told.lt g h2).2
    omega⟩
theorem PkT.next {base pb k : Nat} {w w' : World} {vw vt vp vl vw' vt' vp' : Value} {B : List UInt8} {T : List (List UInt8)} {ps : List Nat} {s : List UInt8} (h : PkT base pb k w vw vt vp B T ps) (hn : nameB s = true) (hs : PkS base pb vl (labelsOf s) w' vw' vt' vp' (B ++ packL T ps (labelsOf s)) (T ++ newS T (labelsOf s)) (ps ++ newP T B.length (labelsOf s))) :
    PkT base pb (k + 1) w' vw' vt' vp' (B ++ packL T ps (labelsOf s)) (T ++ newS T (labelsOf s)) (ps ++ newP T B.length (labelsOf s)) := by
  obtain ⟨hx, h8⟩ := name_labels hn
  have h1 := newS_length T (labelsOf s)
  have h2 := new_length T (labelsOf s) B.length
  have h3 := packL_len T ps (labelsOf s)
  have h7 := tot_joinD (labelsOf s)
  rw [joinD_labels] at h7
  have h8' : s.length ≤ 60 := by
    unfold nameB at hn
    simp only [Bool.and_eq_true, decide_eq_true_eq] at hn
    omega
  have h4 := h.same
  have h5 := h.few
  have h6 := h.short
  refine ⟨hs.low, hs.box, hs.wire, hs.told, hs.places, ?_, ?_, fun p hp => ?_, ?_⟩
  · rw [List.length_append, List.length_append]; omega
  · rw [List.length_append]; omega
  · rcases List.mem_append.1 hp with h' | h'
    · have := h.near p h'; omega
    · have := pk_ps (labelsOf s) B.length p h'
      omega
  · rw [List.length_append]; omega

theorem blk_fresh (w : World) (o : Obj) : (w.alloc o).heap[w.heap.size]? = some o := by
  show (w.heap.push o)[w.heap.size]? = some o
  simp

set_option maxRecDepth 20000 in
set_option maxHeartbeats 2000000 in
theorem iPackAll_any (v : Value) (P : List (List UInt8)) (w : World) (hr : Row w v P) (h30 : P.length ≤ 30) (hE : Env w) :
    Calls Tryd.prog 68 #[v] w fun e w' => e = putVal (trkR [] [] [] P) ∧ Below w.heap.size w w' := by
  obtain ⟨a, cap, rfl, hcap, hmax, HROW⟩ := row_value hr
  clear hr
  have HR0 : Hid (trkR [] [] [] P = trkR [] [] [] (P.drop 0)) := by rw [List.drop_zero]; exact rfl
  obtain ⟨R, hR⟩ : ∃ R, R = trkR [] [] [] P := ⟨_, rfl⟩
  rw [← hR] at HR0 ⊢
  clear hR
  go_enter Tryd.func68, Tryd.ntmps68
  go_wp2_with fail
  go_loopw [11] (fun i wr => ∃ (k : Nat) (vw vt vp : Value) (B : List UInt8) (T : List (List UInt8)) (ps : List Nat), k ≤ P.length ∧ i = .int .i64 (k : Int) ∧ Hid (R = trkR B T ps (P.drop k)) ∧ Hid (PkT w.heap.size w.heap.size k wr vw vt vp B T ps) ∧ Hid (Below w.heap.size w wr)) (fun i _ => P.length - (intOf i).toNat)
  case atStart =>
    refine ⟨0, .slice none 0 0, .slice none 0 0, .slice none 0 0, [], [], [], Nat.zero_le _, rfl, HR0, ?_, (Below.refl w.heap.size w).alloc (Nat.le_refl _) _⟩
    exact ⟨Nat.le_refl _, blk_fresh _ _, World.ownsRow_nil _ _ _ _, World.ownsRow_nil _ _ _ _, World.ownsRow_nil _ _ _ _, rfl, Nat.le_refl _, fun p hp => (by cases hp), Nat.le_refl _⟩
  case round =>
    obtain ⟨k, vw, vt, vp, B, T, ps, hk, rfl, HR, HT, HB⟩ := hrel
    have hB1 := HB.out.size
    by_cases hlt : k < P.length
    · obtain ⟨b, o, ha, hbl, hc⟩ := HROW.out (by omega)
      rw [ha]
      have hcx := hc k hlt
      rw [← HB.out.cell (p := ⟨b, o + k, none⟩) hbl] at hcx
      have HNO : Hid (nameB (P[k]'hlt) = false → R = none) := fun h => trk_no HR.out hlt h
      have HYES : Hid (nameB (P[k]'hlt) = true → R = trkR (B ++ packL T ps (labelsOf (P[k]'hlt))) (T ++ newS T (labelsOf (P[k]'hlt))) (ps ++ newP T B.length (labelsOf (P[k]'hlt))) (P.drop (k + 1))) := fun h => trk_yes HR.out hlt h
      obtain ⟨x, hx⟩ : ∃ x, x = P[k]'hlt := ⟨_, rfl⟩
      rw [← hx] at hcx HNO HYES
      unfold S at hcx
      clear hc hx
      go_wp2_with fail
      refine (splitName_any ⟨x.toArray⟩ _ (hE.below HB.out)).mono ?_
      rintro e w1 ⟨v, rfl, hown, hv, hb1⟩
      rw [show (⟨x.toArray⟩ : ByteArray).data.toList = x from rfl] at hown hv ⊢
      have hb01 : Below w.heap.size w w1 := HB.out.trans (hb1.mono hB1)
      cases hN : nameB x with
      | false =>
        have HN : Hid (R = none) := HNO.out hN
        rw [hv hN]
        clear hv hown hN
        go_wp2_with fail
        go_ret2
        exact ⟨put_none HN.out, hb01⟩
      | true =>
        have HN : Hid (R = trkR (B ++ packL T ps (labelsOf x)) (T ++ newS T (labelsOf x)) (ps ++ newP T B.length (labelsOf x)) (P.drop (k + 1))) := HYES.out hN
        have HNB : Hid (nameB x = true) := hN
        have HPS : Hid (PkS w.heap.size w.heap.size v (labelsOf x) w1 vw vt vp B T ps) := HT.out.with hb1 (hown hN) hB1
        obtain ⟨hxl, h8⟩ := name_labels hN
        have HXL : Hid (∀ p ∈ labelsOf x, p.length ≤ 20 ∧ 0 < p.length) := hxl
        have hsm := HT.out.few
        have hsh := HT.out.short
        have HNR : Hid (∀ p ∈ ps, p ≤ 4000) := fun p hp => by have := HT.out.near p hp; omega
        clear hv hown hN hxl
        go_wp2_with fail
        refine (put_any w.heap.size w.heap.size v vw vt vp (labelsOf x) B T ps _ HPS HT.out.same h8 HXL HNR (by omega) (by omega)).mono ?_
        rintro e w2 ⟨rfl, vw2, vt2, vp2, hs2, hb2⟩
        have HT2 : Hid (PkT w.heap.size w.heap.size (k + 1) w2 vw2 vt2 vp2 (B ++ packL T ps (labelsOf x)) (T ++ newS T (labelsOf x)) (ps ++ newP T B.length (labelsOf x))) := HT.out.next HNB.out hs2
        have HB2 : Hid (Below w.heap.size w w2) := hb01.trans hb2
        clear hs2 hb2
        go_wp2_with fail
        go_roundw
        case rel => exact ⟨k + 1, vw2, vt2, vp2, _, _, _, by omega, by go_num, HN, HT2, HB2⟩
        case measure => simp [intOf]; omega
    · have HN : Hid (R = some B) := trk_end HR.out hlt
      have hconv := own_string HT.out.wire
      obtain ⟨c0, c1, c2, f0, f1, f2⟩ := box3_cells HT.out.box
      have hbb := HB.out
      go_wp2_with fail
      go_ret2
      exact ⟨put_some HN.out rfl, hbb⟩
end Go.Proofs.YtgccbkoklhohfaaDoor

namespace Go.Proofs.YtgccbkoklhohfaaDoor
open Go.RowKit

/-- Labels with their lengths, and a byte 0. -/
def wireL : List (List UInt8) → List UInt8
  | [] => [0]
  | x :: r => UInt8.ofNat x.length :: (x ++ wireL r)
theorem packL_plain : ∀ P : List (List UInt8), packL [] [] P = wireL P
  | [] => rfl
  | x :: r => by unfold packL wireL; rw [if_neg (by simp), packL_plain r]

/-- What NameBytes tells. -/
def wireT (l : List UInt8) : List UInt8 := if nameB l = true then wireL (labelsOf l) else []
/-- What stands ahead of the labels that are still to come. -/
def headL (P : List (List UInt8)) (k : Nat) : List UInt8 := ((P.take k).map (fun x => UInt8.ofNat x.length :: x)).flatten
theorem headL_zero (P : List (List UInt8)) : headL P 0 = [] := by simp [headL]
theorem headL_next (P : List (List UInt8)) (k : Nat) (h : k < P.length) : headL P (k + 1) = headL P k ++ (UInt8.ofNat P[k].length :: P[k]) := by
  unfold headL; rw [List.take_succ_eq_append_getElem h, List.map_append, List.flatten_append]; simp only [List.map_cons, List.map_nil, List.flatten_cons, List.flatten_nil, List.append_nil]
theorem headL_end (P : List (List UInt8)) (k : Nat) (h : ¬ k < P.length) : headL P k ++ [0] = wireL P := by
  unfold headL; rw [List.take_of_length_le (by omega)]
  clear h
  induction P with
  | nil => rfl
  | cons x r ih => rw [wireL, ← ih]; simp
theorem val_strN {x : ByteArray} {l : List UInt8} (h : x.data.toList = l) : Value.string x = .string ⟨l.toArray⟩ := by rw [data_eq h]

theorem bytes_new {w : World} {n : Int} {x : List UInt8} (hn : n = (x.length : Int)) (hx : x.length ≤ 255) :
    Sem.run Tryd.prog (convert 22 9 (.slice (some ⟨w.heap.size, 0, none⟩) 1 1)) (w.alloc (.cells #[.int .u8 n] 5)) = .ok (.string ⟨#[UInt8.ofNat x.length]⟩) (w.alloc (.cells #[.int .u8 n] 5)) := by
  refine run_convert_bytes_back _ 22 9 5 ⟨w.heap.size, 0, none⟩ 1 [UInt8.ofNat x.length] Tryd.underlying22 Tryd.underlying5 Tryd.underlying9 (fun j hj => ?_)
  match j, hj with
  | 0, _ =>
    have := b8_ofNat hx
    unfold B8 at this
    rw [cell_new_one w (.int .u8 n) 5 0 (.int .u8 n) rfl, hn]
    exact congrArg some this.symm



theorem trk_one (s : List UInt8) : trkR [] [] [] [s] = if nameB s = true then some (wireL (labelsOf s)) else none := by
  rw [trkR]
  split
  · rw [trkR, packL_plain]; rfl
  · rfl
theorem row_lit1 (w : World) (nm : ByteArray) : Row (w.alloc (.cells #[.string nm] 9)) (.slice (some ⟨w.heap.size, 0, none⟩) 1 1) [nm.data.toList] := by
  refine row_own (base := w.heap.size) ?_
  exact World.ownsRow_lit w #[.string nm] 1 (Nat.le_refl _) (by unfold maxLen; omega) rfl

set_option maxRecDepth 20000 in
set_option maxHeartbeats 1000000 in
theorem iNameBytes_any (s : ByteArray) (w : World) (hE : Env w) :
    Calls Tryd.prog 71 #[.string s] w fun e w' => e = .returned (.tuple #[.string ⟨(wireT s.data.toList).toArray⟩, .bool (nameB s.data.toList)]) ∧ Below w.heap.size w w' := by
  have HV : Hid (∃ x : ByteArray, putVal (trkR [] [] [] [s.data.toList]) = .returned (.tuple #[.string x, .bool (nameB s.data.toList)]) ∧ x = ⟨(wireT s.data.toList).toArray⟩) := by
    rw [trk_one]
    refine ⟨_, ?_, rfl⟩
    unfold wireT putVal
    cases nameB s.data.toList <;> rfl
  obtain ⟨x, hx, hxe⟩ := HV.out
  have HX : Hid (x = ⟨(wireT s.data.toList).toArray⟩) := hxe
  have hb0 : Below w.heap.size w (w.alloc (.cells #[.string s] 9)) := (Below.refl w.heap.size w).alloc (Nat.le_refl _) _
  have HC : Hid (Calls Tryd.prog 68 #[.slice (some ⟨w.heap.size, 0, none⟩) 1 1] (w.alloc (.cells #[.string s] 9)) fun e w' => e = .returned (.tuple #[.string x, .bool (nameB s.data.toList)]) ∧ Below (w.alloc (.cells #[.string s] 9)).heap.size (w.alloc (.cells #[.string s] 9)) w') := by
    have h := iPackAll_any _ [s.data.toList] _ (row_lit1 w s) (by simp) (hE.below hb0)
    rw [hx] at h; exact h
  obtain ⟨b, hbe⟩ : ∃ b, b = nameB s.data.toList := ⟨_, rfl⟩
  rw [← hbe] at HC ⊢
  clear hx hxe hbe HV
  go_enter Tryd.func71, Tryd.ntmps71
  go_wp2_with fail
  refine HC.out.mono ?_
  rintro e w1 ⟨rfl, hb1⟩
  have hb01 := hb0.trans (hb1.mono hb0.size)
  go_wp2_with fail
  go_ret2
  exact ⟨ret_two (congrArg Value.string HX.out) rfl, hb01⟩
end Go.Proofs.YtgccbkoklhohfaaDoor
