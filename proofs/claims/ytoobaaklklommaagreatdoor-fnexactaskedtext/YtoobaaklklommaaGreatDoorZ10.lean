import Derived.Test.YtoobaaklklommaaGreatDoorZ09
import Derived.Test.YtoobaaklklommaaGreatDoorZ04
import Derived.Handy
import Derived.Lib.AtoiAll
import Derived.Lib.ItoaNum
import Derived.Lib.LaidTab
import Derived.Lib.ConvBytes
import Derived.WalkSmall
import Derived.Lib.Bytealg
import Derived.BigRegion
import Derived.Deep.QuietTactic
namespace Go.Proofs.YtoobaaklklommaaGreatDoor
open Go.RowKit

theorem row_drop {w : World} {b o cap : Nat} {P : List (List UInt8)} {i : Nat} (hcap : P.length ≤ cap) (hmax : cap ≤ 9223372036854775807) (hbl : b < w.heap.size) (hc : ∀ j, (hj : j < P.length) → w.cell? ⟨b, o + j, none⟩ = some (S P[j])) :
    Row w (.slice (some ⟨b, o + i, none⟩) (P.length - i) (cap - i)) (P.drop i) := by
  refine ⟨_, cap - i, by rw [List.length_drop], by rw [List.length_drop]; omega, by unfold maxLen; omega, .inr ⟨b, o + i, rfl, hbl, fun j hj => ?_⟩⟩
  have h : j < P.length - i := by simpa using hj
  have := hc (i + j) (by omega)
  rw [List.getElem_drop, ← this, Nat.add_assoc]

/-- What is told of a name: labels, up to the longest suffix that was told. -/
def packL (T : List (List UInt8)) (ps : List Nat) : List (List UInt8) → List UInt8
  | [] => [0]
  | x :: r => if T.idxOf (joinD (x :: r)) < T.length then ptr (ps.getD (T.idxOf (joinD (x :: r))) 0) else UInt8.ofNat x.length :: (x ++ packL T ps r)

theorem packL_hit {T P : List (List UInt8)} {ps : List Nat} {k j : Nat} {pre : List UInt8} (h : packL T ps P = pre ++ packL T ps (P.drop k)) (hk : k < P.length) (hi : idxI T (joinD (P.drop k)) = (j : Int)) (hj : j < ps.length) : packL T ps P = pre ++ ptr ps[j] := by
  rw [h, List.drop_eq_getElem_cons hk, packL, ← List.drop_eq_getElem_cons hk]
  unfold idxI at hi
  split at hi
  · rename_i hlt
    have e : T.idxOf (joinD (P.drop k)) = j := by omega
    rw [if_pos hlt, e, List.getD_eq_getElem?_getD, List.getElem?_eq_getElem hj]; rfl
  · omega
theorem packL_miss {T P : List (List UInt8)} {ps : List Nat} {k : Nat} {pre : List UInt8} (h : packL T ps P = pre ++ packL T ps (P.drop k)) (hk : k < P.length) (hi : idxI T (joinD (P.drop k)) < 0) : packL T ps P = (pre ++ UInt8.ofNat P[k].length :: P[k]) ++ packL T ps (P.drop (k + 1)) := by
  rw [h, List.drop_eq_getElem_cons hk, packL, ← List.drop_eq_getElem_cons hk]
  unfold idxI at hi
  split at hi
  · omega
  · rename_i hlt
    rw [if_neg hlt]; simp
theorem idxI_lt {T : List (List UInt8)} {x : List UInt8} {j : Nat} (h : idxI T x = (j : Int)) : j < T.length := by
  unfold idxI at h; split at h <;> omega
theorem idxI_ge (T : List (List UInt8)) (x : List UInt8) : -1 ≤ idxI T x := by
  unfold idxI; split <;> omega

/-- The suffixes of a name that are told anew, and their places. -/
def newS (T : List (List UInt8)) : List (List UInt8) → List (List UInt8)
  | [] => []
  | x :: r => if T.idxOf (joinD (x :: r)) < T.length then [] else joinD (x :: r) :: newS T r
def newP (T : List (List UInt8)) : Nat → List (List UInt8) → List Nat
  | _, [] => []
  | a, x :: r => if T.idxOf (joinD (x :: r)) < T.length then [] else a :: newP T (a + 1 + x.length) r
theorem new_length (T : List (List UInt8)) : ∀ (P : List (List UInt8)) (a : Nat), (newP T a P).length = (newS T P).length
  | [], _ => rfl
  | x :: r, a => by
    unfold newP newS
    split
    · rfl
    · simp [new_length T r]
theorem newS_length (T : List (List UInt8)) : ∀ P : List (List UInt8), (newS T P).length ≤ P.length
  | [] => Nat.le_refl _
  | x :: r => by
    unfold newS
    split
    · simp
    · have := newS_length T r
      simp; omega
theorem idx_ff {T : List (List UInt8)} {x : List UInt8} {j : Nat} (hi : idxI T x = (j : Int)) : T.idxOf x < T.length := by
  unfold idxI at hi; split at hi
  · assumption
  · omega
theorem idx_no {T : List (List UInt8)} {x : List UInt8} (hi : idxI T x < 0) : ¬ T.idxOf x < T.length := by
  unfold idxI at hi; split at hi
  · omega
  · assumption
theorem new_hit {T P : List (List UInt8)} {a k j : Nat} (hk : k < P.length) (hi : idxI T (joinD (P.drop k)) = (j : Int)) : newS T (P.drop k) = [] ∧ newP T a (P.drop k) = [] := by
  have h := idx_ff hi
  rw [List.drop_eq_getElem_cons hk] at h ⊢
  unfold newS newP
  rw [if_pos h, if_pos h]; exact ⟨rfl, rfl⟩
theorem new_miss {T P : List (List UInt8)} {a k : Nat} (hk : k < P.length) (hi : idxI T (joinD (P.drop k)) < 0) :
    newS T (P.drop k) = joinD (P.drop k) :: newS T (P.drop (k + 1)) ∧ newP T a (P.drop k) = a :: newP T (a + 1 + P[k].length) (P.drop (k + 1)) := by
  have h := idx_no hi
  rw [List.drop_eq_getElem_cons hk] at h ⊢
  rw [newS, newP, if_neg h, if_neg h]
  exact ⟨rfl, rfl⟩
/-- Suffixes become shorter. -/
theorem joinD_shorter {P : List (List UInt8)} {k : Nat} (hk : k < P.length) (h0 : P[k] ≠ []) : (joinD (P.drop (k + 1))).length < (joinD (P.drop k)).length := by
  have h1 : 0 < P[k].length := List.length_pos_iff.2 h0
  rw [List.drop_eq_getElem_cons hk, joinD]
  split
  · rename_i h; rw [h]; simp [joinD]; exact h1
  · rw [List.length_append, List.length_cons]; omega
/-- What is longer is not found. -/
theorem idx_longer {T Q : List (List UInt8)} {x : List UInt8} (h : ∀ y ∈ Q, x.length < y.length) : idxI (T ++ Q) x = idxI T x := by
  have hn : x ∉ Q := fun hx => Nat.lt_irrefl _ (h x hx)
  unfold idxI
  rw [List.idxOf_append]
  by_cases hm : x ∈ T
  · rw [if_pos hm]
    have := List.idxOf_lt_length_iff.2 hm
    rw [if_pos (by rw [List.length_append]; omega), if_pos this]
  · rw [if_neg hm]
    have h1 : List.idxOf x Q = Q.length := List.idxOf_eq_length hn
    have h2 : List.idxOf x T = T.length := List.idxOf_eq_length hm
    rw [h1, h2, List.length_append, if_neg (by omega), if_neg (by omega)]
end Go.Proofs.YtoobaaklklommaaGreatDoor

namespace Go.Proofs.YtoobaaklklommaaGreatDoor
open Go.RowKit

/-- What is packed so far, in memory, beside the labels of a name. -/
structure PkS (base pb : Nat) (vl : Value) (P : List (List UInt8)) (w : World) (vw vt vp : Value) (B : List UInt8) (T : List (List UInt8)) (ps : List Nat) : Prop where
  low : base ≤ pb
  box : w.heap[pb]? = some (.cells #[vw, vt, vp] 336)
  wire : w.ownsRow base 5 1 vw B.length (B.map B8)
  told : w.ownsRow base 9 1 vt T.length (T.map S)
  places : w.ownsRow base 3 1 vp ps.length (ps.map I64)
  labels : w.ownsRow base 9 1 vl P.length (P.map S)
  apart : ∀ g, vl.ownBlock = some g → vt.ownBlock ≠ some g

section
variable {base pb : Nat} {vl : Value} {P : List (List UInt8)} {w w' : World} {vw vt vp : Value} {B : List UInt8} {T : List (List UInt8)} {ps : List Nat}
theorem PkS.lt (h : PkS base pb vl P w vw vt vp B T ps) : pb < w.heap.size := by
  have := h.box
  by_cases e : pb < w.heap.size
  · exact e
  · rw [Array.getElem?_eq_none (by omega)] at this; cases this
theorem PkS.base_le (h : PkS base pb vl P w vw vt vp B T ps) : base ≤ w.heap.size := Nat.le_trans h.low (Nat.le_of_lt h.lt)
theorem PkS.below (h : PkS base pb vl P w vw vt vp B T ps) (hb : Below w.heap.size w w') : PkS base pb vl P w' vw vt vp B T ps :=
  ⟨h.low, (hb.block pb h.lt).trans h.box, own_below h.wire hb, own_below h.told hb, own_below h.places hb, own_below h.labels hb, h.apart⟩
theorem PkS.cells (h : PkS base pb vl P w vw vt vp B T ps) : w.cell? ⟨pb, 0, none⟩ = some vw ∧ w.cell? ⟨pb, 1, none⟩ = some vt ∧ w.cell? ⟨pb, 2, none⟩ = some vp ∧ w.frozen? ⟨pb, 0, none⟩ = false ∧ w.frozen? ⟨pb, 1, none⟩ = false ∧ w.frozen? ⟨pb, 2, none⟩ = false := by
  have := h.box
  refine ⟨?_, ?_, ?_, ?_, ?_, ?_⟩ <;> simp [World.cell?, World.frozen?, this]
theorem PkS.tell {vt' : Value} {T' : List (List UInt8)} (h : PkS base pb vl P w vw vt vp B T ps) (hk : Kpt w w' (fun k => vt.ownBlock = some k)) (ho : w'.ownsRow base 9 1 vt' T'.length (T'.map S)) (ha : ∀ g, vl.ownBlock = some g → vt'.ownBlock ≠ some g) :
    PkS base pb vl P (w'.setCell ⟨pb, 1, none⟩ vt') vw vt' vp B T' ps ∧ Below base w (w'.setCell ⟨pb, 1, none⟩ vt') := by
  have hbx : w'.heap[pb]? = some (.cells #[vw, vt, vp] 336) := (hk.block pb h.lt (own_box h.told h.box (by decide))).trans h.box
  have w1 := own_kpt h.wire hk (fun g h1 h2 => own_ne (by decide) h.told h.wire g h2 h1)
  have w2 := own_kpt h.places hk (fun g h1 h2 => own_ne (by decide) h.told h.places g h2 h1)
  have w3 := own_kpt h.labels hk (fun g h1 h2 => h.apart g h1 h2)
  have ks : Kpt w' (w'.setCell ⟨pb, 1, none⟩ vt') (fun k => k = pb) := kpt_set _ _ _ _ rfl
  refine ⟨⟨h.low, (heap_setCell_same w' pb 1 _ _ vt' hbx), own_kpt w1 ks (fun g h1 e => own_box w1 hbx (by decide) (e ▸ h1)), own_kpt ho ks (fun g h1 e => own_box ho hbx (by decide) (e ▸ h1)), own_kpt w2 ks (fun g h1 e => own_box w2 hbx (by decide) (e ▸ h1)), own_kpt w3 ks (fun g h1 e => own_box w3 hbx (by decide) (e ▸ h1)), ha⟩, ?_⟩
  exact ((hk.mono (T := fun k => base ≤ k) (fun k _ e => (h.told.lt k e).1)).trans (ks.mono (fun k _ e => e ▸ h.low))).below h.base_le (fun k h1 h2 => by omega)
theorem PkS.place {vp' : Value} {ps' : List Nat} (h : PkS base pb vl P w vw vt vp B T ps) (hk : Kpt w w' (fun k => vp.ownBlock = some k)) (ho : w'.ownsRow base 3 1 vp' ps'.length (ps'.map I64)) :
    PkS base pb vl P (w'.setCell ⟨pb, 2, none⟩ vp') vw vt vp' B T ps' ∧ Below base w (w'.setCell ⟨pb, 2, none⟩ vp') := by
  have hbx : w'.heap[pb]? = some (.cells #[vw, vt, vp] 336) := (hk.block pb h.lt (own_box h.places h.box (by decide))).trans h.box
  have w1 := own_kpt h.wire hk (fun g h1 h2 => own_ne (by decide) h.places h.wire g h2 h1)
  have w2 := own_kpt h.told hk (fun g h1 h2 => own_ne (by decide) h.places h.told g h2 h1)
  have w3 := own_kpt h.labels hk (fun g h1 h2 => own_ne (by decide) h.places h.labels g h2 h1)
  have ks : Kpt w' (w'.setCell ⟨pb, 2, none⟩ vp') (fun k => k = pb) := kpt_set _ _ _ _ rfl
  refine ⟨⟨h.low, (heap_setCell_same w' pb 2 _ _ vp' hbx), own_kpt w1 ks (fun g h1 e => own_box w1 hbx (by decide) (e ▸ h1)), own_kpt w2 ks (fun g h1 e => own_box w2 hbx (by decide) (e ▸ h1)), own_kpt ho ks (fun g h1 e => own_box ho hbx (by decide) (e ▸ h1)), own_kpt w3 ks (fun g h1 e => own_box w3 hbx (by decide) (e ▸ h1)), h.apart⟩, ?_⟩
  exact ((hk.mono (T := fun k => base ≤ k) (fun k _ e => (h.places.lt k e).1)).trans (ks.mono (fun k _ e => e ▸ h.low))).below h.base_le (fun k h1 h2 => by omega)
theorem PkS.put {vw' : Value} {B' : List UInt8} (h : PkS base pb vl P w vw vt vp B T ps) (hk : Kpt w w' (fun k => vw.ownBlock = some k)) (ho : w'.ownsRow base 5 1 vw' B'.length (B'.map B8)) :
    PkS base pb vl P (w'.setCell ⟨pb, 0, none⟩ vw') vw' vt vp B' T ps ∧ Below base w (w'.setCell ⟨pb, 0, none⟩ vw') := by
  have hbx : w'.heap[pb]? = some (.cells #[vw, vt, vp] 336) := (hk.block pb h.lt (own_box h.wire h.box (by decide))).trans h.box
  have w1 := own_kpt h.told hk (fun g h1 h2 => own_ne (by decide) h.wire h.told g h2 h1)
  have w2 := own_kpt h.places hk (fun g h1 h2 => own_ne (by decide) h.wire h.places g h2 h1)
  have w3 := own_kpt h.labels hk (fun g h1 h2 => own_ne (by decide) h.wire h.labels g h2 h1)
  have ks : Kpt w' (w'.setCell ⟨pb, 0, none⟩ vw') (fun k => k = pb) := kpt_set _ _ _ _ rfl
  refine ⟨⟨h.low, (heap_setCell_same w' pb 0 _ _ vw' hbx), own_kpt ho ks (fun g h1 e => own_box ho hbx (by decide) (e ▸ h1)), own_kpt w1 ks (fun g h1 e => own_box w1 hbx (by decide) (e ▸ h1)), own_kpt w2 ks (fun g h1 e => own_box w2 hbx (by decide) (e ▸ h1)), own_kpt w3 ks (fun g h1 e => own_box w3 hbx (by decide) (e ▸ h1)), h.apart⟩, ?_⟩
  exact ((hk.mono (T := fun k => base ≤ k) (fun k _ e => (h.wire.lt k e).1)).trans (ks.mono (fun k _ e => e ▸ h.low))).below h.base_le (fun k h1 h2 => by omega)
theorem box3_cells {W : World} {b : Nat} {v0 v1 v2 : Value} {t : TypeId} (h : W.heap[b]? = some (.cells #[v0, v1, v2] t)) : W.cell? ⟨b, 0, none⟩ = some v0 ∧ W.cell? ⟨b, 1, none⟩ = some v1 ∧ W.cell? ⟨b, 2, none⟩ = some v2 ∧ W.frozen? ⟨b, 0, none⟩ = false ∧ W.frozen? ⟨b, 1, none⟩ = false ∧ W.frozen? ⟨b, 2, none⟩ = false := by
  refine ⟨?_, ?_, ?_, ?_, ?_, ?_⟩ <;> simp [World.cell?, World.frozen?, h]
theorem PkS.boxW (h : PkS base pb vl P w vw vt vp B T ps) (hk : Kpt w w' (fun k => vw.ownBlock = some k)) : w'.heap[pb]? = some (.cells #[vw, vt, vp] 336) := (hk.block pb h.lt (own_box h.wire h.box (by decide))).trans h.box
theorem PkS.boxT (h : PkS base pb vl P w vw vt vp B T ps) (hk : Kpt w w' (fun k => vt.ownBlock = some k)) : w'.heap[pb]? = some (.cells #[vw, vt, vp] 336) := (hk.block pb h.lt (own_box h.told h.box (by decide))).trans h.box
theorem PkS.boxP (h : PkS base pb vl P w vw vt vp B T ps) (hk : Kpt w w' (fun k => vp.ownBlock = some k)) : w'.heap[pb]? = some (.cells #[vw, vt, vp] 336) := (hk.block pb h.lt (own_box h.places h.box (by decide))).trans h.box
end

/-- How far the telling of a name is. -/
structure PkN (P T : List (List UInt8)) (ps : List Nat) (a k : Nat) (pre : List UInt8) (sP : List (List UInt8)) (pP : List Nat) : Prop where
  bytes : packL T ps P = pre ++ packL T ps (P.drop k)
  names : newS T P = sP ++ newS T (P.drop k)
  spots : newP T a P = pP ++ newP T (a + pre.length) (P.drop k)
  longer : ∀ y ∈ sP, (joinD (P.drop k)).length < y.length
  len : pre.length ≤ 21 * k
  lens : sP.length = k
  lenp : pP.length = k
theorem PkN.start (P T : List (List UInt8)) (ps : List Nat) (a : Nat) : PkN P T ps a 0 [] [] [] :=
  ⟨by rw [List.drop_zero]; rfl, by rw [List.drop_zero]; rfl, by rw [List.drop_zero]; rfl, fun y h => (by cases h), Nat.le_refl _, rfl, rfl⟩
theorem PkN.miss {P T : List (List UInt8)} {ps : List Nat} {a k : Nat} {pre : List UInt8} {sP : List (List UInt8)} {pP : List Nat} (h : PkN P T ps a k pre sP pP) (hk : k < P.length) (hi : idxI T (joinD (P.drop k)) < 0) (hx : P[k].length ≤ 20 ∧ 0 < P[k].length) :
    PkN P T ps a (k + 1) (pre ++ UInt8.ofNat P[k].length :: P[k]) (sP ++ [joinD (P.drop k)]) (pP ++ [a + pre.length]) := by
  have hm := new_miss (a := a + pre.length) hk hi
  have hs := joinD_shorter hk (List.length_pos_iff.1 hx.2)
  have hl := h.len
  refine ⟨packL_miss h.bytes hk hi, ?_, ?_, fun y hy => ?_, ?_, by simp [h.lens], by simp [h.lenp]⟩
  · rw [h.names, hm.1, List.append_assoc]; rfl
  · rw [h.spots, hm.2, List.append_assoc, List.length_append, List.length_cons]
    rw [show a + (pre.length + (P[k].length + 1)) = a + pre.length + 1 + P[k].length by omega]; rfl
  · rcases List.mem_append.1 hy with h1 | h1
    · exact Nat.lt_trans hs (h.longer y h1)
    · rw [List.mem_singleton] at h1; rw [h1]; exact hs
  · rw [List.length_append, List.length_cons]; omega
theorem PkN.hit {P T : List (List UInt8)} {ps : List Nat} {a k j : Nat} {pre : List UInt8} {sP : List (List UInt8)} {pP : List Nat} (h : PkN P T ps a k pre sP pP) (hk : k < P.length) (hi : idxI T (joinD (P.drop k)) = (j : Int)) (hj : j < ps.length) :
    packL T ps P = pre ++ ptr ps[j] ∧ newS T P = sP ∧ newP T a P = pP := by
  have hm := new_hit (a := a + pre.length) hk hi
  exact ⟨packL_hit h.bytes hk hi hj, by rw [h.names, hm.1, List.append_nil], by rw [h.spots, hm.2, List.append_nil]⟩
theorem PkN.fin {P T : List (List UInt8)} {ps : List Nat} {a k : Nat} {pre : List UInt8} {sP : List (List UInt8)} {pP : List Nat} (h : PkN P T ps a k pre sP pP) (hk : ¬ k < P.length) :
    packL T ps P = pre ++ [0] ∧ newS T P = sP ∧ newP T a P = pP := by
  have e : P.drop k = [] := List.drop_of_length_le (by omega)
  refine ⟨by rw [h.bytes, e]; rfl, ?_, ?_⟩
  · rw [h.names, e]; exact List.append_nil _
  · rw [h.spots, e]; exact List.append_nil _
theorem PkN.idx {P T : List (List UInt8)} {ps : List Nat} {a k : Nat} {pre : List UInt8} {sP : List (List UInt8)} {pP : List Nat} (h : PkN P T ps a k pre sP pP) : idxI (T ++ sP) (joinD (P.drop k)) = idxI T (joinD (P.drop k)) := idx_longer h.longer
/-- Names packed one behind the other, with what was told kept aside. -/
def trkR (B : List UInt8) (T : List (List UInt8)) (ps : List Nat) : List (List UInt8) → Option (List UInt8)
  | [] => some B
  | s :: r => if nameB s = true then trkR (B ++ packL T ps (labelsOf s)) (T ++ newS T (labelsOf s)) (ps ++ newP T B.length (labelsOf s)) r else none

theorem row_cells {w : World} {a : Option Addr} {n cap : Nat} {P : List (List UInt8)} (h : Row w (.slice a n cap) P) : n = P.length ∧ P.length ≤ cap ∧ cap ≤ 9223372036854775807 ∧ (0 < P.length → ∃ b o, a = some ⟨b, o, none⟩ ∧ b < w.heap.size ∧ ∀ j, (hj : j < P.length) → w.cell? ⟨b, o + j, none⟩ = some (S P[j])) := by
  obtain ⟨a', c', e, h1, h2, h3⟩ := h
  cases e
  unfold maxLen at h2
  refine ⟨rfl, h1, by omega, fun h0 => ?_⟩
  rcases h3 with h3 | h3
  · rw [h3] at h0; simp at h0
  · exact h3
end Go.Proofs.YtoobaaklklommaaGreatDoor

namespace Go.Proofs.YtoobaaklklommaaGreatDoor
open Go.RowKit

set_option maxRecDepth 20000 in
set_option maxHeartbeats 4000000 in
theorem put_any (base pb : Nat) (vl vw0 vt0 vp0 : Value) (P : List (List UInt8)) (B : List UInt8) (T : List (List UInt8)) (ps : List Nat) (w : World) (h : Hid (PkS base pb vl P w vw0 vt0 vp0 B T ps)) (hlen : Hid (T.length = ps.length)) (h8 : P.length ≤ 8) (hx : Hid (∀ p ∈ P, p.length ≤ 20 ∧ 0 < p.length)) (hps : Hid (∀ p ∈ ps, p ≤ 4000)) (hT : T.length ≤ 10000) (hB : B.length ≤ 100000) :
    Calls Tryz.prog 304 #[.pointer (some ⟨pb, 0, none⟩), vl] w fun e w' => e = .returned (.tuple #[]) ∧ ∃ vw' vt' vp', PkS base pb vl P w' vw' vt' vp' (B ++ packL T ps P) (T ++ newS T P) (ps ++ newP T B.length P) ∧ Below base w w' := by
  obtain ⟨i0, hi, hz0, hz1, hz2⟩ := info_parts info_byte
  obtain ⟨i9, hi9, hs0, hs1, hs2⟩ := info_parts info_string
  obtain ⟨i3, hi3, hn0, hn1, hn2⟩ := info_parts info_int
  obtain ⟨al, capl, hvl, hcap, hmax⟩ := own_slice h.out.labels
  subst hvl
  go_enter Tryz.func304, Tryz.ntmps304
  go_wp2_with fail
  go_loopw [10] (fun i wr => ∃ (k : Nat) (pre : List UInt8) (sP : List (List UInt8)) (pP : List Nat) (vw vt vp : Value) (Bk : List UInt8) (Tk : List (List UInt8)) (pk : List Nat), k ≤ P.length ∧ i = .int .i64 (k : Int) ∧ Hid (PkN P T ps B.length k pre sP pP) ∧ Hid (Bk = B ++ pre ∧ Tk = T ++ sP ∧ pk = ps ++ pP) ∧ Hid (PkS base pb (.slice al P.length capl) P wr vw vt vp Bk Tk pk) ∧ Hid (Below base w wr)) (fun i _ => P.length - (intOf i).toNat)
  case atStart => exact ⟨0, [], [], [], vw0, vt0, vp0, B, T, ps, Nat.zero_le _, rfl, PkN.start _ _ _ _, (by simp : B = B ++ [] ∧ T = T ++ [] ∧ ps = ps ++ []), h, Below.refl _ _⟩
  case round =>
    obtain ⟨k, pre, sP, pP, vw, vt, vp, Bk, Tk, pk, hk, rfl, HN, HEQ, HS, HB⟩ := hrel
    obtain ⟨aw, cw, hvw, hcw, hmw⟩ := own_slice HS.out.wire
    subst hvw
    obtain ⟨c0, c1, c2, f0, f1, f2⟩ := HS.out.cells
    have hbk : Bk.length ≤ 101000 := by
      have h1 := HN.out.len
      rw [HEQ.out.1, List.length_append]; omega
    have htk : Tk.length ≤ 10010 := by
      have h1 := HN.out.lens
      rw [HEQ.out.2.1, List.length_append]; omega
    have hpk : pk.length ≤ 10010 := by
      have h1 := HN.out.lenp
      have h2 := hlen.out
      rw [HEQ.out.2.2, List.length_append]; omega
    by_cases hlt : k < P.length
    · obtain ⟨_, _, _, hrow⟩ := row_cells (row_own HS.out.labels)
      obtain ⟨b, o, ha, hbl, hc⟩ := hrow (by omega)
      rw [ha]
      have hcx : wr.cell? ⟨b, o + k, none⟩ = some (.string ⟨(P[k]'hlt).toArray⟩) := hc k hlt
      have HROW2 : Hid (Row wr (.slice (some ⟨b, o + k, none⟩) (P.length - k) (capl - k)) (P.drop k)) := row_drop (i := k) hcap hmax hbl hc
      have HJL : Hid ((joinD (P.drop k)).length ≤ 1048576) := by
        have h1 := joinD_small (P.drop k) (fun p h => (hx.out p (List.mem_of_mem_drop h)).1)
        rw [List.length_drop] at h1
        exact (show (joinD (P.drop k)).length ≤ 1048576 by omega)
      have hxl := (hx.out _ (List.getElem_mem hlt)).1
      have HMISS : Hid (idxI T (joinD (P.drop k)) < 0 → PkN P T ps B.length (k + 1) (pre ++ UInt8.ofNat (P[k]'hlt).length :: P[k]'hlt) (sP ++ [joinD (P.drop k)]) (pP ++ [Bk.length])) := fun h => by
        rw [HEQ.out.1, List.length_append]; exact HN.out.miss hlt h (hx.out _ (List.getElem_mem hlt))
      have HHIT : Hid (∀ j, (hj : j < ps.length) → idxI T (joinD (P.drop k)) = (j : Int) → packL T ps P = pre ++ ptr ps[j] ∧ newS T P = sP ∧ newP T B.length P = pP) := fun j hj h => HN.out.hit hlt h hj
      have HIDX : Hid (idxI Tk (joinD (P.drop k)) = idxI T (joinD (P.drop k))) := by rw [HEQ.out.2.1]; exact HN.out.idx
      obtain ⟨x, hxe⟩ : ∃ x, x = P[k]'hlt := ⟨_, rfl⟩
      rw [← hxe] at hcx hxl HMISS
      clear hxe hc hrow
      go_wp2_with fail
      refine (joinLabels_any _ (P.drop k) _ HROW2.out HJL).mono ?_
      rintro e w2 ⟨rfl, hb2⟩
      have HS2 : Hid (PkS base pb (.slice al P.length capl) P w2 (.slice aw Bk.length cw) vt vp Bk Tk pk) := HS.out.below hb2
      have HB2 : Hid (Below base w w2) := HB.out.trans (hb2.mono HS.out.base_le)
      clear c0 c1 c2 f0 f1 f2 hcx hb2
      obtain ⟨c0, c1, c2, f0, f1, f2⟩ := HS2.out.cells
      go_wp2_with fail
      refine (index_any _ Tk _ _ (row_own HS2.out.told)).mono ?_
      rintro e w3 ⟨rfl, rfl⟩
      rw [HIDX.out]
      have hge := idxI_ge T (joinD (P.drop k))
      have HLT : Hid (∀ j : Nat, idxI T (joinD (P.drop k)) = (j : Int) → j < T.length) := fun j h => idxI_lt h
      obtain ⟨q, hq⟩ : ∃ q, q = idxI T (joinD (P.drop k)) := ⟨_, rfl⟩
      rw [← hq] at hge HLT HMISS HHIT ⊢
      clear hq
      by_cases hneg : q < 0
      · have HM : Hid (PkN P T ps B.length (k + 1) (pre ++ UInt8.ofNat x.length :: x) (sP ++ [joinD (P.drop k)]) (pP ++ [Bk.length])) := HMISS.out hneg
        obtain ⟨sx, hsx⟩ : ∃ sx, sx = joinD (P.drop k) := ⟨_, rfl⟩
        rw [← hsx] at HM ⊢
        clear hsx
        go_wp2_with (first | (at_builtin; refine wpList_append_own_at _ rfl (.tmp 46) (.tmp 48) 104 rfl base 9 i9 (.string ByteArray.empty) 1 16 Tryz.underlying104 hi9 hs0 hs1 hs2 rfl (by decide) _ _ _ rfl (HS2.out.told.alloc _) ⟨w3.heap.size, 0, none⟩ 1 1 [.string ⟨sx.toArray⟩] rfl rfl ?d1 ?d2 ?d3 ?d4 ?d5 ?_))
        case d1 => exact cell_new_one _ _ _
        case d2 => exact one_string _
        case d3 => unfold maxLen; omega
        case d4 => omega
        case d5 => simp; exact Nat.le_succ_of_le HS2.out.base_le
        intro vt1 w4 hown4 hgrow4 _ hat4
        have HK4 : Hid (Kpt w3 w4 (fun k => vt.ownBlock = some k)) := (kpt_alloc _ _ _).trans (grown_kpt hgrow4)
        have HAP : Hid (∀ g, (Value.slice al P.length capl).ownBlock = some g → vt1.ownBlock ≠ some g) := fun g hg h1 => by
          rcases hat4 with e | e
          · exact HS2.out.apart g hg (e ▸ h1)
          · rw [e] at h1
            have e2 := Option.some.inj h1
            have e3 := (HS2.out.labels.lt g hg).2
            (try simp at e2); omega
        obtain ⟨T4, hT4⟩ : ∃ T4, T4 = Tk ++ [sx] := ⟨_, rfl⟩
        have HO4 : Hid (w4.ownsRow base 9 1 vt1 T4.length (T4.map S)) := by
          have e : (Tk ++ [sx]).map S = Tk.map S ++ [S sx] := List.map_append
          have e2 : (Tk ++ [sx]).length = Tk.length + 1 := List.length_append
          rw [hT4, e, e2]; exact hown4
        have HT4 : Hid (T4 = Tk ++ [sx]) := hT4
        clear hT4
        obtain ⟨at1, ct1, hvt1, _, _⟩ := own_slice HO4.out
        subst hvt1
        have hbx4 := HS2.out.boxT HK4.out
        have HST := HS2.out.tell HK4.out HO4.out HAP.out
        obtain ⟨w5, hw5⟩ : ∃ w5, w5 = w4.setCell ⟨pb, 1, none⟩ (.slice at1 T4.length ct1) := ⟨_, rfl⟩
        rw [← hw5] at HST
        have HS5 : Hid (PkS base pb (.slice al P.length capl) P w5 (.slice aw Bk.length cw) (.slice at1 T4.length ct1) vp Bk T4 pk) := HST.1
        have HB5 : Hid (Below base w w5) := HB2.out.trans HST.2
        have HW5 : Hid (w4.setCell ⟨pb, 1, none⟩ (.slice at1 T4.length ct1) = w5) := hw5.symm
        clear c0 c1 c2 f0 f1 f2 hown4 hgrow4 hat4 HS2 HST hw5
        obtain ⟨c0, c1, c2, f0, f1, f2⟩ := box3_cells hbx4
        clear hbx4
        go_wp2_with fail
        rw [HW5.out]
        clear c0 c1 c2 f0 f1 f2 HW5 HO4 HAP HK4
        obtain ⟨c0, c1, c2, f0, f1, f2⟩ := HS5.out.cells
        have hbz5 := HS5.out.base_le
        have HP5 : Hid ((w5.drew.alloc (.cells #[.int .i64 (Bk.length : Int)] 3)).ownsRow base 3 1 vp pk.length (pk.map I64)) := own_below HS5.out.places (((Below.refl w5.heap.size w5).drew).alloc (Nat.le_refl _) _)
        have HSA : Hid ((w5.alloc (.cells #[.int .i64 (Bk.length : Int)] 3)).drew.cell? ⟨pb, 0, none⟩ = some (.slice aw Bk.length cw) ∧ (w5.alloc (.cells #[.int .i64 (Bk.length : Int)] 3)).drew.cell? ⟨pb, 2, none⟩ = some vp) := by
          have e := (((Below.refl w5.heap.size w5).drew).alloc (Nat.le_refl _) (.cells #[.int .i64 (Bk.length : Int)] 3)).block pb HS5.out.lt
          have e2 := box3_cells (e.trans HS5.out.box)
          exact ⟨e2.1, e2.2.2.1⟩
        have HBX : Hid (∀ w6, ((w5.drew).alloc (.cells #[.int .i64 (Bk.length : Int)] 3)).grownBy w6 vp.ownBlock → Kpt w5 w6 (fun k => vp.ownBlock = some k) ∧ w6.heap[pb]? = some (.cells #[.slice aw Bk.length cw, .slice at1 T4.length ct1, vp] 336)) := fun w6 hg => by
          have hk : Kpt w5 w6 (fun k => vp.ownBlock = some k) := (below_kpt0 (((Below.refl w5.heap.size w5).drew).alloc (Nat.le_refl _) _) _).trans (grown_kpt hg)
          exact ⟨hk, HS5.out.boxP hk⟩
        have HKP : Hid (∀ (w6 : World) (v2 v : Value), w6.heap[pb]? = some (.cells #[.slice aw Bk.length cw, .slice at1 T4.length ct1, v2] 336) → (w6.setCell ⟨pb, 2, none⟩ v).cell? ⟨pb, 0, none⟩ = some (.slice aw Bk.length cw)) := fun w6 v2 v hb => (box3_cells (heap_setCell_same w6 pb 2 _ _ v hb)).1
        have HSH : Hid (∀ (v : Value) (w6 : World), w6.ownsRow base 3 1 v (pk.length + 1) (pk.map I64 ++ [.int .i64 (Bk.length : Int)]) → ∃ a c, v = .slice a (pk.length + 1) c) := fun v w6 h => by
          obtain ⟨a, c, e, _⟩ := own_slice h
          exact ⟨a, c, e⟩
        refine wp_region_noPanic ?_
        refine wp_region_held_drew (S := fun W => W.cell? ⟨pb, 0, none⟩ = some (.slice aw Bk.length cw)) (by kernel_rfl) (by simpa using c0) (fun hS0 => ?_)
        refine wpAnyH_take (i := 0) (v := .pointer (some ⟨pb, 0, none⟩)) rfl (by kernel_rfl) (by kernel_rfl) (by kernel_rfl) (fun _ _ _ h => h) (Or.inl ⟨by rfl, ?_⟩) (by assumption) ?_
        · intro W hSW
          go_simp
          all_goals (try omega)
        simp only [Act.put]
        refine wpAnyH_take (i := 1) (v := .pointer (some ⟨pb, 0, none⟩)) rfl (by kernel_rfl) (by kernel_rfl) (by kernel_rfl) (fun _ _ _ h => h) (Or.inl ⟨by rfl, ?_⟩) (by assumption) ?_
        · intro W hSW
          go_simp
          all_goals (try omega)
        simp only [Act.put]
        refine wpAnyH_take (i := 2) (v := .pointer (some ⟨pb, 0, none⟩)) rfl (by kernel_rfl) (by kernel_rfl) (by kernel_rfl) (fun _ _ _ h => h) (Or.inl ⟨by rfl, ?_⟩) (by assumption) ?_
        · intro W hSW
          go_simp
          all_goals (try omega)
        simp only [Act.put]
        refine wpAnyH_take (i := 3) (v := .pointer (some ⟨pb, 2, none⟩)) rfl (by kernel_rfl) (by kernel_rfl) (by kernel_rfl) (fun _ _ _ h => h) (Or.inl ⟨by rfl, ?_⟩) (by assumption) ?_
        · intro W hSW
          go_simp
          all_goals (try omega)
        simp only [Act.put]
        refine wpAnyH_take (i := 5) (v := .pointer (some ⟨pb, 0, none⟩)) rfl (by kernel_rfl) (by kernel_rfl) (by kernel_rfl) (fun _ _ _ h => h) (Or.inl ⟨by rfl, ?_⟩) (by assumption) ?_
        · intro W hSW
          go_simp
          all_goals (try omega)
        simp only [Act.put]
        refine wpAnyH_take (i := 6) (v := .pointer (some ⟨pb, 0, none⟩)) rfl (by kernel_rfl) (by kernel_rfl) (by kernel_rfl) (fun _ _ _ h => h) (Or.inl ⟨by rfl, ?_⟩) (by assumption) ?_
        · intro W hSW
          go_simp
          all_goals (try omega)
        simp only [Act.put]
        refine wpAnyH_take (i := 7) (v := .pointer (some ⟨pb, 0, none⟩)) rfl (by kernel_rfl) (by kernel_rfl) (by kernel_rfl) (fun _ _ _ h => h) (Or.inl ⟨by rfl, ?_⟩) (by assumption) ?_
        · intro W hSW
          go_simp
          all_goals (try omega)
        simp only [Act.put]
        refine wpAnyH_take (i := 8) (v := .slice aw Bk.length cw) rfl (by kernel_rfl) (by kernel_rfl) (by kernel_rfl) (fun _ _ _ h => h) (Or.inl ⟨by rfl, ?_⟩) (by assumption) ?_
        · intro W hSW
          go_simp
          all_goals (try omega)
        simp only [Act.put]
        refine wpAnyH_take (i := 9) (v := .int .i64 (Bk.length : Int)) rfl (by kernel_rfl) (by kernel_rfl) (by kernel_rfl) (fun _ _ _ h => h) (Or.inl ⟨by rfl, ?_⟩) (by assumption) ?_
        · intro W hSW
          go_simp
          all_goals (try omega)
        simp only [Act.put]
        refine wpAnyH_ready (rs := [4, 10]) (by kernel_rfl) (by simp) ?_
        refine AllReadyH.cons rfl (fun K hK => ?_) (AllReadyH.cons rfl (fun K hK => ?_) AllReadyH.nil)
        · rw [if_pos (by rfl)]
          go_simp
          refine hK.out _ _ hS0 (fun _ => ?_)
          clear hK K
          refine wpAnyH_ready (rs := [10]) (by kernel_rfl) (by simp) ?_
          refine AllReadyH.cons rfl (fun K hK => ?_) AllReadyH.nil
          rw [if_pos (by rfl)]
          go_simp
          refine hK.out _ _ (HSA.out.1) (fun _ => ?_)
          clear hK K
          refine wpAnyH_ready (rs := [11]) (by kernel_rfl) (by simp) ?_
          refine AllReadyH.cons rfl (fun K hK => ?_) AllReadyH.nil
          refine step_append_at rfl (.tmp 56) (.tmp 62) 254 rfl base 3 i3 (.int .i64 0) 1 8 Tryz.underlying254 hi3 hn0 hn1 hn2 rfl (by decide) _ _ _ rfl HP5.out ⟨w5.heap.size, 0, none⟩ 1 1 [.int .i64 (Bk.length : Int)] rfl rfl (cell_new_one _ _ _) (one_int _) (by unfold maxLen; omega) (by omega) (by simp; omega) ?_
          intro vp6 w6 hown6 hgrow6 _
          obtain ⟨hk6, hbx6⟩ := HBX.out w6 hgrow6
          obtain ⟨ap6, cp6, hvp6⟩ := HSH.out _ _ hown6
          subst hvp6
          refine hK.out _ _ (box3_cells hbx6).1 (fun hS6 => ?_)
          clear hK K c0 c1 c2 f0 f1 f2
          obtain ⟨c0, c1, c2, f0, f1, f2⟩ := box3_cells hbx6
          simp only [Act.put]
          refine wpAnyH_take (i := 12) (v := .pointer (some ⟨pb, 0, none⟩)) rfl (by kernel_rfl) (by kernel_rfl) (by kernel_rfl) (fun _ _ _ h => h) (Or.inl ⟨by rfl, ?_⟩) (by assumption) ?_
          · intro W hSW
            go_simp
            all_goals (try omega)
          simp only [Act.put]
          refine wpAnyH_take (i := 13) (v := .pointer (some ⟨pb, 2, none⟩)) rfl (by kernel_rfl) (by kernel_rfl) (by kernel_rfl) (fun _ _ _ h => h) (Or.inl ⟨by rfl, ?_⟩) (by assumption) ?_
          · intro W hSW
            go_simp
            all_goals (try omega)
          simp only [Act.put]
          refine wpAnyH_ready (rs := [14]) (by kernel_rfl) (by simp) ?_
          refine AllReadyH.cons rfl (fun K hK => ?_) AllReadyH.nil
          rw [if_pos (by rfl)]
          go_simp
          refine hK.out _ _ (HKP.out _ _ _ hbx6) (fun _ => ?_)
          clear hK K
          refine wpAnyH_done (by kernel_rfl) ?_ _
          refine NoPanic.normal ?_
          have hown7 : w6.ownsRow base 3 1 (.slice ap6 (pk.length + 1) cp6) (pk ++ [Bk.length]).length ((pk ++ [Bk.length]).map I64) := by
            have e : (pk ++ [Bk.length]).map I64 = pk.map I64 ++ [I64 Bk.length] := List.map_append
            have e2 : (pk ++ [Bk.length]).length = pk.length + 1 := List.length_append
            rw [e, e2]; exact hown6
          have HSP := HS5.out.place hk6 hown7
          clear hown6 hown7 hgrow6 hk6 hbx6 hS6 c0 c1 c2 f0 f1 f2
          obtain ⟨w7, hw7⟩ : ∃ w7, w7 = w6.setCell ⟨pb, 2, none⟩ (.slice ap6 (pk.length + 1) cp6) := ⟨_, rfl⟩
          rw [← hw7] at HSP ⊢
          clear hw7
          obtain ⟨p7, hp7⟩ : ∃ p7, p7 = pk ++ [Bk.length] := ⟨_, rfl⟩
          rw [← hp7] at HSP
          have HP7 : Hid (p7 = pk ++ [Bk.length]) := hp7
          have HS7 : Hid (PkS base pb (.slice al P.length capl) P w7 (.slice aw Bk.length cw) (.slice at1 T4.length ct1) (.slice ap6 (pk.length + 1) cp6) Bk T4 p7) := HSP.1
          have HB7 : Hid (Below base w w7) := HB5.out.trans HSP.2
          clear HSP hp7
          obtain ⟨c0, c1, c2, f0, f1, f2⟩ := HS7.out.cells
          go_wp2_with fail
          refine (appendLabel_any base _ Bk x _ HS7.out.wire HS7.out.base_le (by omega) (by omega)).mono ?_
          rintro e w8 ⟨v8, rfl, hown8, hk8⟩
          obtain ⟨B8', hB8⟩ : ∃ B8', B8' = Bk ++ UInt8.ofNat x.length :: x := ⟨_, rfl⟩
          rw [← hB8] at hown8
          obtain ⟨a8, cc8, hv8, _, _⟩ := own_slice hown8
          subst hv8
          have HSQ := HS7.out.put hk8 hown8
          have hbx8 := HS7.out.boxW hk8
          have HSQ1 : Hid (PkS base pb (.slice al P.length capl) P (w8.setCell ⟨pb, 0, none⟩ (.slice a8 B8'.length cc8)) (.slice a8 B8'.length cc8) (.slice at1 T4.length ct1) (.slice ap6 (pk.length + 1) cp6) B8' T4 p7) := HSQ.1
          have HB8 : Hid (Below base w (w8.setCell ⟨pb, 0, none⟩ (.slice a8 B8'.length cc8))) := HB7.out.trans HSQ.2
          have HB8' : Hid (B8' = Bk ++ UInt8.ofNat x.length :: x) := hB8
          clear c0 c1 c2 f0 f1 f2 HSQ hown8 hk8 hB8
          obtain ⟨c0, c1, c2, f0, f1, f2⟩ := box3_cells hbx8
          clear hbx8
          go_wp2_with fail
          go_roundw
          case rel =>
            refine ⟨k + 1, _, _, _, .slice a8 B8'.length cc8, .slice at1 T4.length ct1, .slice ap6 (pk.length + 1) cp6, B8', T4, p7, by omega, by go_num, HM, ⟨?_, ?_, ?_⟩, (by rw [← ha]; exact HSQ1), HB8⟩
            · rw [HB8'.out, HEQ.out.1, List.append_assoc]
            · rw [HT4.out, HEQ.out.2.1, List.append_assoc]
            · rw [HP7.out, HEQ.out.2.2, List.append_assoc]
          case measure => simp [intOf]; omega
        · rw [if_pos (by rfl)]
          go_simp
          refine hK.out _ _ (HSA.out.1) (fun _ => ?_)
          clear hK K
          refine wpAnyH_ready (rs := [4]) (by kernel_rfl) (by simp) ?_
          refine AllReadyH.cons rfl (fun K hK => ?_) AllReadyH.nil
          rw [if_pos (by rfl)]
          have hc2 := HSA.out.2
          go_simp
          refine hK.out _ _ (HSA.out.1) (fun _ => ?_)
          clear hK K hc2
          refine wpAnyH_ready (rs := [11]) (by kernel_rfl) (by simp) ?_
          refine AllReadyH.cons rfl (fun K hK => ?_) AllReadyH.nil
          refine step_append_at rfl (.tmp 56) (.tmp 62) 254 rfl base 3 i3 (.int .i64 0) 1 8 Tryz.underlying254 hi3 hn0 hn1 hn2 rfl (by decide) _ _ _ rfl HP5.out ⟨w5.heap.size, 0, none⟩ 1 1 [.int .i64 (Bk.length : Int)] rfl rfl (cell_new_one _ _ _) (one_int _) (by unfold maxLen; omega) (by omega) (by simp; omega) ?_
          intro vp6 w6 hown6 hgrow6 _
          obtain ⟨hk6, hbx6⟩ := HBX.out w6 hgrow6
          obtain ⟨ap6, cp6, hvp6⟩ := HSH.out _ _ hown6
          subst hvp6
          refine hK.out _ _ (box3_cells hbx6).1 (fun hS6 => ?_)
          clear hK K c0 c1 c2 f0 f1 f2
          obtain ⟨c0, c1, c2, f0, f1, f2⟩ := box3_cells hbx6
          simp only [Act.put]
          refine wpAnyH_take (i := 12) (v := .pointer (some ⟨pb, 0, none⟩)) rfl (by kernel_rfl) (by kernel_rfl) (by kernel_rfl) (fun _ _ _ h => h) (Or.inl ⟨by rfl, ?_⟩) (by assumption) ?_
          · intro W hSW
            go_simp
            all_goals (try omega)
          simp only [Act.put]
          refine wpAnyH_take (i := 13) (v := .pointer (some ⟨pb, 2, none⟩)) rfl (by kernel_rfl) (by kernel_rfl) (by kernel_rfl) (fun _ _ _ h => h) (Or.inl ⟨by rfl, ?_⟩) (by assumption) ?_
          · intro W hSW
            go_simp
            all_goals (try omega)
          simp only [Act.put]
          refine wpAnyH_ready (rs := [14]) (by kernel_rfl) (by simp) ?_
          refine AllReadyH.cons rfl (fun K hK => ?_) AllReadyH.nil
          rw [if_pos (by rfl)]
          go_simp
          refine hK.out _ _ (HKP.out _ _ _ hbx6) (fun _ => ?_)
          clear hK K
          refine wpAnyH_done (by kernel_rfl) ?_ _
          refine NoPanic.normal ?_
          have hown7 : w6.ownsRow base 3 1 (.slice ap6 (pk.length + 1) cp6) (pk ++ [Bk.length]).length ((pk ++ [Bk.length]).map I64) := by
            have e : (pk ++ [Bk.length]).map I64 = pk.map I64 ++ [I64 Bk.length] := List.map_append
            have e2 : (pk ++ [Bk.length]).length = pk.length + 1 := List.length_append
            rw [e, e2]; exact hown6
          have HSP := HS5.out.place hk6 hown7
          clear hown6 hown7 hgrow6 hk6 hbx6 hS6 c0 c1 c2 f0 f1 f2
          obtain ⟨w7, hw7⟩ : ∃ w7, w7 = w6.setCell ⟨pb, 2, none⟩ (.slice ap6 (pk.length + 1) cp6) := ⟨_, rfl⟩
          rw [← hw7] at HSP ⊢
          clear hw7
          obtain ⟨p7, hp7⟩ : ∃ p7, p7 = pk ++ [Bk.length] := ⟨_, rfl⟩
          rw [← hp7] at HSP
          have HP7 : Hid (p7 = pk ++ [Bk.length]) := hp7
          have HS7 : Hid (PkS base pb (.slice al P.length capl) P w7 (.slice aw Bk.length cw) (.slice at1 T4.length ct1) (.slice ap6 (pk.length + 1) cp6) Bk T4 p7) := HSP.1
          have HB7 : Hid (Below base w w7) := HB5.out.trans HSP.2
          clear HSP hp7
          obtain ⟨c0, c1, c2, f0, f1, f2⟩ := HS7.out.cells
          go_wp2_with fail
          refine (appendLabel_any base _ Bk x _ HS7.out.wire HS7.out.base_le (by omega) (by omega)).mono ?_
          rintro e w8 ⟨v8, rfl, hown8, hk8⟩
          obtain ⟨B8', hB8⟩ : ∃ B8', B8' = Bk ++ UInt8.ofNat x.length :: x := ⟨_, rfl⟩
          rw [← hB8] at hown8
          obtain ⟨a8, cc8, hv8, _, _⟩ := own_slice hown8
          subst hv8
          have HSQ := HS7.out.put hk8 hown8
          have hbx8 := HS7.out.boxW hk8
          have HSQ1 : Hid (PkS base pb (.slice al P.length capl) P (w8.setCell ⟨pb, 0, none⟩ (.slice a8 B8'.length cc8)) (.slice a8 B8'.length cc8) (.slice at1 T4.length ct1) (.slice ap6 (pk.length + 1) cp6) B8' T4 p7) := HSQ.1
          have HB8 : Hid (Below base w (w8.setCell ⟨pb, 0, none⟩ (.slice a8 B8'.length cc8))) := HB7.out.trans HSQ.2
          have HB8' : Hid (B8' = Bk ++ UInt8.ofNat x.length :: x) := hB8
          clear c0 c1 c2 f0 f1 f2 HSQ hown8 hk8 hB8
          obtain ⟨c0, c1, c2, f0, f1, f2⟩ := box3_cells hbx8
          clear hbx8
          go_wp2_with fail
          go_roundw
          case rel =>
            refine ⟨k + 1, _, _, _, .slice a8 B8'.length cc8, .slice at1 T4.length ct1, .slice ap6 (pk.length + 1) cp6, B8', T4, p7, by omega, by go_num, HM, ⟨?_, ?_, ?_⟩, (by rw [← ha]; exact HSQ1), HB8⟩
            · rw [HB8'.out, HEQ.out.1, List.append_assoc]
            · rw [HT4.out, HEQ.out.2.1, List.append_assoc]
            · rw [HP7.out, HEQ.out.2.2, List.append_assoc]
          case measure => simp [intOf]; omega
      · obtain ⟨j, rfl⟩ : ∃ j : Nat, q = (j : Int) := ⟨q.toNat, by omega⟩
        have hjT := HLT.out j rfl
        have hj : j < ps.length := by rw [← hlen.out]; exact hjT
        obtain ⟨HH, HH2, HH3⟩ := HHIT.out j hj rfl
        have HHH : Hid (packL T ps P = pre ++ ptr (ps[j]'hj) ∧ newS T P = sP ∧ newP T B.length P = pP) := ⟨HH, HH2, HH3⟩
        clear HH HH2 HH3
        have hpj := hps.out _ (List.getElem_mem hj)
        obtain ⟨ap, cp, hvp, hcp, hmp, HPR⟩ := irow_value (irow_own HS2.out.places)
        have hjk : j < pk.length := by rw [HEQ.out.2.2, List.length_append]; omega
        obtain ⟨bp, op, hap, hbp, hcpx⟩ := HPR.out (by omega)
        have hcj := hcpx j hjk
        have hpe : pk[j]'hjk = ps[j]'hj := by
          have h1 : pk[j]? = some (ps[j]'hj) := by rw [HEQ.out.2.2, List.getElem?_append_left hj, List.getElem?_eq_getElem hj]
          rw [List.getElem?_eq_getElem hjk] at h1
          exact Option.some.inj h1
        rw [hpe] at hcj
        subst hvp
        subst hap
        obtain ⟨pj, hpje⟩ : ∃ pj, pj = ps[j]'hj := ⟨_, rfl⟩
        rw [← hpje] at hcj hpj HHH
        clear hcpx hpje HPR hpe
        go_wp2_with fail
        have HS3 : Hid (PkS base pb (.slice al P.length capl) P w3.drew (.slice aw Bk.length cw) vt (.slice (some ⟨bp, op, none⟩) pk.length cp) Bk Tk pk) := HS2.out.below (Below.refl _ _).drew
        have HSX : Hid (∀ w4, Kpt w3.drew w4 (fun k => (Value.slice aw Bk.length cw).ownBlock = some k) → w4.cell? ⟨pb, 2, none⟩ = some (.slice (some ⟨bp, op, none⟩) pk.length cp) ∧ w4.cell? ⟨bp, op + j, none⟩ = some (.int .i64 (pj : Int))) := fun w4 hk => by
          refine ⟨(box3_cells (HS3.out.boxW hk)).2.2.1, hk.cell (p := ⟨bp, op + j, none⟩) (by simpa using hcj) (fun e => own_ne (by decide) HS3.out.wire HS3.out.places bp e rfl)⟩
        have hpb : bp ≠ pb := fun e => own_box HS2.out.places HS2.out.box (by decide) (by rw [← e]; rfl)
        refine wp_region_noPanic ?_
        refine wp_region_held_drew (S := fun W => W.cell? ⟨pb, 2, none⟩ = some (.slice (some ⟨bp, op, none⟩) pk.length cp) ∧ W.cell? ⟨bp, op + j, none⟩ = some (.int .i64 (pj : Int))) (by kernel_rfl) (HSX.out _ (Kpt.refl _ _)) (fun hS0 => ?_)
        refine wpAnyH_take (i := 0) (v := .pointer (some ⟨pb, 0, none⟩)) rfl (by kernel_rfl) (by kernel_rfl) (by kernel_rfl) (fun _ _ _ h => h) (Or.inl ⟨by rfl, ?_⟩) (by assumption) ?_
        · intro W hSW
          go_simp
          all_goals (try omega)
        simp only [Act.put]
        refine wpAnyH_take (i := 1) (v := .pointer (some ⟨pb, 0, none⟩)) rfl (by kernel_rfl) (by kernel_rfl) (by kernel_rfl) (fun _ _ _ h => h) (Or.inl ⟨by rfl, ?_⟩) (by assumption) ?_
        · intro W hSW
          go_simp
          all_goals (try omega)
        simp only [Act.put]
        refine wpAnyH_take (i := 2) (v := .pointer (some ⟨pb, 0, none⟩)) rfl (by kernel_rfl) (by kernel_rfl) (by kernel_rfl) (fun _ _ _ h => h) (Or.inl ⟨by rfl, ?_⟩) (by assumption) ?_
        · intro W hSW
          go_simp
          all_goals (try omega)
        simp only [Act.put]
        refine wpAnyH_take (i := 3) (v := .pointer (some ⟨pb, 0, none⟩)) rfl (by kernel_rfl) (by kernel_rfl) (by kernel_rfl) (fun _ _ _ h => h) (Or.inl ⟨by rfl, ?_⟩) (by assumption) ?_
        · intro W hSW
          go_simp
          all_goals (try omega)
        simp only [Act.put]
        refine wpAnyH_take (i := 5) (v := .pointer (some ⟨pb, 0, none⟩)) rfl (by kernel_rfl) (by kernel_rfl) (by kernel_rfl) (fun _ _ _ h => h) (Or.inl ⟨by rfl, ?_⟩) (by assumption) ?_
        · intro W hSW
          go_simp
          all_goals (try omega)
        simp only [Act.put]
        refine wpAnyH_take (i := 6) (v := .pointer (some ⟨pb, 0, none⟩)) rfl (by kernel_rfl) (by kernel_rfl) (by kernel_rfl) (fun _ _ _ h => h) (Or.inl ⟨by rfl, ?_⟩) (by assumption) ?_
        · intro W hSW
          go_simp
          all_goals (try omega)
        simp only [Act.put]
        refine wpAnyH_take (i := 7) (v := .pointer (some ⟨pb, 2, none⟩)) rfl (by kernel_rfl) (by kernel_rfl) (by kernel_rfl) (fun _ _ _ h => h) (Or.inl ⟨by rfl, ?_⟩) (by assumption) ?_
        · intro W hSW
          go_simp
          all_goals (try omega)
        simp only [Act.put]
        refine wpAnyH_take (i := 8) (v := .slice (some ⟨bp, op, none⟩) pk.length cp) rfl (by kernel_rfl) (by kernel_rfl) (by kernel_rfl) (fun _ _ _ h => h) (Or.inl ⟨by rfl, ?_⟩) (by assumption) ?_
        · intro W hSW
          obtain ⟨hs2, hs3⟩ := hSW
          go_simp
          all_goals (try omega)
        simp only [Act.put]
        refine wpAnyH_take (i := 9) (v := .int .i64 (j : Int)) rfl (by kernel_rfl) (by kernel_rfl) (by kernel_rfl) (fun _ _ _ h => h) (Or.inl ⟨by rfl, ?_⟩) (by assumption) ?_
        · intro W hSW
          go_simp
          all_goals (try omega)
        simp only [Act.put]
        refine wpAnyH_take (i := 10) (v := .pointer (some ⟨bp, op + j, none⟩)) rfl (by kernel_rfl) (by kernel_rfl) (by kernel_rfl) (fun _ _ _ h => h) (Or.inl ⟨by rfl, ?_⟩) (by assumption) ?_
        · intro W hSW
          obtain ⟨hs2, hs3⟩ := hSW
          go_simp
          all_goals (try omega)
        simp only [Act.put]
        refine wpAnyH_take (i := 11) (v := .int .i64 (pj : Int)) rfl (by kernel_rfl) (by kernel_rfl) (by kernel_rfl) (fun _ _ _ h => h) (Or.inl ⟨by rfl, ?_⟩) (by assumption) ?_
        · intro W hSW
          obtain ⟨hs2, hs3⟩ := hSW
          go_simp
          all_goals (try omega)
        simp only [Act.put]
        refine wpAnyH_ready (rs := [4]) (by kernel_rfl) (by simp) ?_
        refine AllReadyH.cons rfl (fun K hK => ?_) AllReadyH.nil
        rw [if_pos (by rfl)]
        go_simp
        refine hK.out _ _ hS0 (fun _ => ?_)
        clear hK K
        refine wpAnyH_ready (rs := [12]) (by kernel_rfl) (by simp) ?_
        refine AllReadyH.cons rfl (fun K hK => ?_) AllReadyH.nil
        rw [if_pos (by rfl)]
        go_simp
        refine (appendPointer_any base _ Bk pj _ HS3.out.wire HS3.out.base_le (by omega) hpj).mono ?_
        rintro e w4 ⟨v4, rfl, hown4, hk4⟩
        go_simp
        obtain ⟨B4, hB4⟩ : ∃ B4, B4 = Bk ++ ptr pj := ⟨_, rfl⟩
        rw [← hB4] at hown4
        have HB4 : Hid (B4 = Bk ++ ptr pj) := hB4
        clear hB4
        obtain ⟨a4, cc4, hv4, _, _⟩ := own_slice hown4
        subst hv4
        have HSQ := HS3.out.put hk4 hown4
        have hbx4 := HS3.out.boxW hk4
        refine hK.out _ _ (HSX.out w4 hk4) (fun hS4 => ?_)
        clear hK K c0 c1 c2 f0 f1 f2
        obtain ⟨c0, c1, c2, f0, f1, f2⟩ := box3_cells hbx4
        refine wpAnyH_take (i := 13) (v := .pointer (some ⟨pb, 0, none⟩)) rfl (by kernel_rfl) (by kernel_rfl) (by kernel_rfl) (fun _ _ _ h => h) (Or.inl ⟨by rfl, ?_⟩) (by assumption) ?_
        · intro W hSW
          go_simp
          all_goals (try omega)
        simp only [Act.put]
        refine wpAnyH_take (i := 14) (v := .pointer (some ⟨pb, 0, none⟩)) rfl (by kernel_rfl) (by kernel_rfl) (by kernel_rfl) (fun _ _ _ h => h) (Or.inl ⟨by rfl, ?_⟩) (by assumption) ?_
        · intro W hSW
          go_simp
          all_goals (try omega)
        simp only [Act.put]
        refine wpAnyH_ready (rs := [15]) (by kernel_rfl) (by simp) ?_
        refine AllReadyH.cons rfl (fun K hK => ?_) AllReadyH.nil
        rw [if_pos (by rfl)]
        go_simp
        refine hK.out _ _ ⟨(box3_cells HSQ.1.box).2.2.1, ?_⟩ (fun _ => ?_)
        · rw [World.cell?_setCell_far _ _ _ _ (show pb ≠ bp from fun e => hpb e.symm)]; exact hS4.2
        clear hK K
        refine wpAnyH_done (by kernel_rfl) ?_ _
        refine NoPanic.normal ?_
        have HF : Hid (∃ vw' vt' vp', PkS base pb (.slice al P.length capl) P (w4.setCell ⟨pb, 0, none⟩ (.slice a4 B4.length cc4)) vw' vt' vp' (B ++ packL T ps P) (T ++ newS T P) (ps ++ newP T B.length P) ∧ Below base w (w4.setCell ⟨pb, 0, none⟩ (.slice a4 B4.length cc4))) := by
          refine ⟨.slice a4 B4.length cc4, vt, .slice (some ⟨bp, op, none⟩) pk.length cp, ?_, HB2.out.trans ((below_kpt (B := base) ((Below.refl base w3).drew)).below HS2.out.base_le (fun k h1 h2 => by omega) |>.trans HSQ.2)⟩
          rw [HHH.out.1, HHH.out.2.1, HHH.out.2.2, ← List.append_assoc, ← HEQ.out.1, ← HEQ.out.2.1, ← HEQ.out.2.2, ← HB4.out]
          exact HSQ.1
        go_wp2_with fail
        (try simp only [Exit.inBlock, Exit.then]); refine bodyPost_ret (results_none rfl _ _ _) rfl ?_
        exact ⟨rfl, HF.out⟩
    · obtain ⟨HE1, HE2, HE3⟩ := HN.out.fin hlt
      have HHH : Hid (packL T ps P = pre ++ [0] ∧ newS T P = sP ∧ newP T B.length P = pP) := ⟨HE1, HE2, HE3⟩
      clear HE1 HE2 HE3
      go_wp2_with (first | (at_builtin; refine wpList_append_own _ rfl (.tmp 80) (.tmp 81) 165 rfl base 5 i0 (.int .u8 0) 1 1 Tryz.underlying165 hi hz0 hz1 hz2 rfl (by decide) _ _ _ rfl (HS.out.wire.alloc _) ⟨wr.heap.size, 0, none⟩ 1 1 [.int .u8 0] rfl rfl ?d1 ?d2 ?d3 ?d4 ?d5 ?_))
      case d1 => exact cell_new_one _ _ _
      case d2 => exact one_byte _
      case d3 => unfold maxLen; omega
      case d4 => omega
      case d5 => simp; exact Nat.le_succ_of_le HS.out.base_le
      intro v1 w1 hown1 hgrow1 _
      have hk1 : Kpt wr w1 (fun k => (Value.slice aw Bk.length cw).ownBlock = some k) := (kpt_alloc _ _ _).trans (grown_kpt hgrow1)
      obtain ⟨B4, hB4⟩ : ∃ B4, B4 = Bk ++ [0] := ⟨_, rfl⟩
      have hown4 : w1.ownsRow base 5 1 v1 B4.length (B4.map B8) := by
        have e : (Bk ++ [(0 : UInt8)]).map B8 = Bk.map B8 ++ [.int .u8 0] := List.map_append
        have e2 : (Bk ++ [(0 : UInt8)]).length = Bk.length + 1 := List.length_append
        rw [hB4, e, e2]; exact hown1
      have HB4 : Hid (B4 = Bk ++ [0]) := hB4
      clear hB4
      obtain ⟨a4, cc4, hv4, _, _⟩ := own_slice hown4
      subst hv4
      have HSQ := HS.out.put hk1 hown4
      have hbx4 := HS.out.boxW hk1
      have HF : Hid (∃ vw' vt' vp', PkS base pb (.slice al P.length capl) P (w1.setCell ⟨pb, 0, none⟩ (.slice a4 B4.length cc4)) vw' vt' vp' (B ++ packL T ps P) (T ++ newS T P) (ps ++ newP T B.length P) ∧ Below base w (w1.setCell ⟨pb, 0, none⟩ (.slice a4 B4.length cc4))) := by
        refine ⟨.slice a4 B4.length cc4, vt, vp, ?_, HB.out.trans HSQ.2⟩
        rw [HHH.out.1, HHH.out.2.1, HHH.out.2.2, ← List.append_assoc, ← HEQ.out.1, ← HEQ.out.2.1, ← HEQ.out.2.2, ← HB4.out]
        exact HSQ.1
      clear c0 c1 c2 f0 f1 f2 hown1 hown4 hgrow1 hk1 HSQ
      obtain ⟨c0, c1, c2, f0, f1, f2⟩ := box3_cells hbx4
      clear hbx4
      go_wp2_with fail
      (try simp only [Exit.inBlock, Exit.then]); refine bodyPost_end (results_none rfl _ _ _) rfl ?_
      exact ⟨rfl, HF.out⟩
end Go.Proofs.YtoobaaklklommaaGreatDoor

namespace Go.Proofs.YtoobaaklklommaaGreatDoor
open Go.RowKit

theorem tot_joinD : ∀ P : List (List UInt8), tot P + P.length ≤ (joinD P).length + 1
  | [] => by simp [joinD, tot]
  | p :: r => by
    have ih := tot_joinD r
    have e : tot (p :: r) = p.length + tot r := by simp [tot]
    unfold joinD
    split
    · rename_i h; rw [e, h]; simp [tot]
    · rw [e]; simp; omega
theorem packL_len (T : List (List UInt8)) (ps : List Nat) : ∀ P : List (List UInt8), (packL T ps P).length ≤ tot P + P.length + 2
  | [] => by simp [packL]
  | x :: r => by
    have ih := packL_len T ps r
    have e : tot (x :: r) = x.length + tot r := by simp [tot]
    unfold packL
    split
    · rw [e]; simp [ptr]
    · rw [e]; simp; omega
theorem pk_ps {T : List (List UInt8)} : ∀ (P : List (List UInt8)) (a : Nat), ∀ p ∈ newP T a P, p ≤ a + (tot P + P.length)
  | [], a, p, hp => by simp [newP] at hp
  | x :: r, a, p, hp => by
    have e : tot (x :: r) = x.length + tot r := by simp [tot]
    unfold newP at hp
    split at hp
    · cases hp
    · rcases List.mem_cons.1 hp with h | h
      · omega
      · have h1 := pk_ps r (a + 1 + x.length) p h
        rw [e, List.length_cons]; omega
theorem packL_small (T : List (List UInt8)) (ps : List Nat) : ∀ P : List (List UInt8), (∀ p ∈ P, p.length ≤ 20) → (packL T ps P).length ≤ 21 * P.length + 2
  | [], _ => by simp [packL]
  | x :: r, h => by
    have h1 := h x (by simp)
    have ih := packL_small T ps r (fun q hq => h q (by simp [hq]))
    unfold packL
    split
    · simp [ptr]
    · simp; omega
theorem name_labels {l : List UInt8} (h : nameB l = true) : (∀ p ∈ labelsOf l, p.length ≤ 20 ∧ 0 < p.length) ∧ (labelsOf l).length ≤ 8 := by
  unfold nameB at h
  simp only [Bool.and_eq_true, List.all_eq_true, decide_eq_true_eq] at h
  refine ⟨fun p hp => ?_, h.2.2⟩
  exact ⟨label_le (h.1 p hp), List.length_pos_iff.2 (lab_ne (h.1 p hp))⟩
theorem trk_no {P : List (List UInt8)} {B : List UInt8} {T : List (List UInt8)} {ps : List Nat} {k : Nat} {R : Option (List UInt8)} (h : R = trkR B T ps (P.drop k)) (hk : k < P.length) (hn : nameB P[k] = false) : R = none := by
  rw [h, List.drop_eq_getElem_cons hk, trkR, hn]; rfl
theorem trk_yes {P : List (List UInt8)} {B : List UInt8} {T : List (List UInt8)} {ps : List Nat} {k : Nat} {R : Option (List UInt8)} (h : R = trkR B T ps (P.drop k)) (hk : k < P.length) (hn : nameB P[k] = true) : R = trkR (B ++ packL T ps (labelsOf P[k])) (T ++ newS T (labelsOf P[k])) (ps ++ newP T B.length (labelsOf P[k])) (P.drop (k + 1)) := by
  rw [h, List.drop_eq_getElem_cons hk, trkR, if_pos hn]
theorem trk_end {P : List (List UInt8)} {B : List UInt8} {T : List (List UInt8)} {ps : List Nat} {k : Nat} {R : Option (List UInt8)} (h : R = trkR B T ps (P.drop k)) (hk : ¬ k < P.length) : R = some B := by
  rw [h, List.drop_of_length_le (by omega), trkR]
/-- A text, or none, and whether. -/
def putVal (R : Option (List UInt8)) : Ending := .returned (.tuple #[.string ⟨(R.getD []).toArray⟩, .bool R.isSome])
theorem put_none {R : Option (List UInt8)} (h : R = none) : Ending.returned (.tuple #[.string ⟨#[]⟩, .bool false]) = putVal R := by rw [h]; rfl
theorem put_some {R : Option (List UInt8)} {x : ByteArray} {y : List UInt8} (h : R = some y) (hx : x.data.toList = y) : Ending.returned (.tuple #[.string x, .bool true]) = putVal R := by
  rw [h]; unfold putVal; rw [data_eq hx]; rfl

/-- What is packed so far, between two names. -/
structure PkT (base pb k : Nat) (w : World) (vw vt vp : Value) (B : List UInt8) (T : List (List UInt8)) (ps : List Nat) : Prop where
  low : base ≤ pb
  box : w.heap[pb]? = some (.cells #[vw, vt, vp] 336)
  wire : w.ownsRow base 5 1 vw B.length (B.map B8)
  told : w.ownsRow base 9 1 vt T.length (T.map S)
  places : w.ownsRow base 3 1 vp ps.length (ps.map I64)
  same : T.length = ps.length
  few : T.length ≤ 8 * k
  near : ∀ p ∈ ps, p ≤ 63 * k
  short : B.length ≤ 63 * k
theorem PkT.lt {base pb k : Nat} {w : World} {vw vt vp : Value} {B : List UInt8} {T : List (List UInt8)} {ps : List Nat} (h : PkT base pb k w vw vt vp B T ps) : pb < w.heap.size := by
  have := h.box
  by_cases e : pb < w.heap.size
  · exact e
  · rw [Array.getElem?_eq_none (by omega)] at this; cases this
theorem PkT.below {base pb k : Nat} {w w' : World} {vw vt vp : Value} {B : List UInt8} {T : List (List UInt8)} {ps : List Nat} (h : PkT base pb k w vw vt vp B T ps) (hb : Below w.heap.size w w') : PkT base pb k w' vw vt vp B T ps :=
  ⟨h.low, (hb.block pb h.lt).trans h.box, own_below h.wire hb, own_below h.told hb, own_below h.places hb, h.same, h.few, h.near, h.short⟩
theorem PkT.with {base pb k : Nat} {w w' : World} {vw vt vp vl : Value} {B : List UInt8} {T P : List (List UInt8)} {ps : List Nat} (h : PkT base pb k w vw vt vp B T ps) (hb : Below w.heap.size w w') (hl : w'.ownsRow w.heap.size 9 1 vl P.length (P.map S)) (hbs : base ≤ w.heap.size) : PkS base pb vl P w' vw vt vp B T ps :=
  ⟨h.low, (hb.block pb h.lt).trans h.box, own_below h.wire hb, own_below h.told hb, own_below h.places hb, own_mono hl hbs, fun g h1 h2 => by
    have h3 := (hl.lt g h1).1
    have h4 := (h.told.lt g h2).2
    omega⟩
theorem PkT.next {base pb k : Nat} {w w' : World} {vw vt vp vl vw' vt' vp' : Value} {B : List UInt8} {T : List (List UInt8)} {ps : List Nat} {s : List UInt8} (h : PkT base pb k w vw vt vp B T ps) (hn : nameB s = true) (hs : PkS base pb vl (labelsOf s) w' vw' vt' vp' (B ++ packL T ps (labelsOf s)) (T ++ newS T (labelsOf s)) (ps ++ newP T B.length (labelsOf s))) :
    PkT base pb (k + 1) w' vw' vt' vp' (B ++ packL T ps (labelsOf s)) (T ++ newS T (labelsOf s)) (ps ++ newP T B.length (labelsOf s)) := by
  obtain ⟨hx, h8⟩ := name_labels hn
  have h1 := newS_length T (labelsOf s)
  have h2 := new_length T (labelsOf s) B.length
  have h3 := packL_len T ps (labelsOf s)
  have h7 := tot_joinD (labelsOf s)
  rw [joinD_labels] at h7
  have h8' : s.length ≤ 60 := by
    unfold nameB at hn
    simp only [Bool.and_eq_true, decide_eq_true_eq] at hn
    omega
  have h4 := h.same
  have h5 := h.few
  have h6 := h.short
  refine ⟨hs.low, hs.box, hs.wire, hs.told, hs.places, ?_, ?_, fun p hp => ?_, ?_⟩
  · rw [List.length_append, List.length_append]; omega
  · rw [List.length_append]; omega
  · rcases List.mem_append.1 hp with h' | h'
    · have := h.near p h'; omega
    · have := pk_ps (labelsOf s) B.length p h'
      omega
  · rw [List.length_append]; omega

theorem blk_fresh (w : World) (o : Obj) : (w.alloc o).heap[w.heap.size]? = some o := by
  show (w.heap.push o)[w.heap.size]? = some o
  simp

set_option maxRecDepth 20000 in
set_option maxHeartbeats 2000000 in
theorem iPackAll_any (v : Value) (P : List (List UInt8)) (w : World) (hr : Row w v P) (h30 : P.length ≤ 30) (hE : Env w) :
    Calls Tryz.prog 303 #[v] w fun e w' => e = putVal (trkR [] [] [] P) ∧ Below w.heap.size w w' := by
  obtain ⟨a, cap, rfl, hcap, hmax, HROW⟩ := row_value hr
  clear hr
  have HR0 : Hid (trkR [] [] [] P = trkR [] [] [] (P.drop 0)) := by rw [List.drop_zero]; exact rfl
  obtain ⟨R, hR⟩ : ∃ R, R = trkR [] [] [] P := ⟨_, rfl⟩
  rw [← hR] at HR0 ⊢
  clear hR
  go_enter Tryz.func303, Tryz.ntmps303
  go_wp2_with fail
  go_loopw [11] (fun i wr => ∃ (k : Nat) (vw vt vp : Value) (B : List UInt8) (T : List (List UInt8)) (ps : List Nat), k ≤ P.length ∧ i = .int .i64 (k : Int) ∧ Hid (R = trkR B T ps (P.drop k)) ∧ Hid (PkT w.heap.size w.heap.size k wr vw vt vp B T ps) ∧ Hid (Below w.heap.size w wr)) (fun i _ => P.length - (intOf i).toNat)
  case atStart =>
    refine ⟨0, .slice none 0 0, .slice none 0 0, .slice none 0 0, [], [], [], Nat.zero_le _, rfl, HR0, ?_, (Below.refl w.heap.size w).alloc (Nat.le_refl _) _⟩
    exact ⟨Nat.le_refl _, blk_fresh _ _, World.ownsRow_nil _ _ _ _, World.ownsRow_nil _ _ _ _, World.ownsRow_nil _ _ _ _, rfl, Nat.le_refl _, fun p hp => (by cases hp), Nat.le_refl _⟩
  case round =>
    obtain ⟨k, vw, vt, vp, B, T, ps, hk, rfl, HR, HT, HB⟩ := hrel
    have hB1 := HB.out.size
    by_cases hlt : k < P.length
    · obtain ⟨b, o, ha, hbl, hc⟩ := HROW.out (by omega)
      rw [ha]
      have hcx := hc k hlt
      rw [← HB.out.cell (p := ⟨b, o + k, none⟩) hbl] at hcx
      have HNO : Hid (nameB (P[k]'hlt) = false → R = none) := fun h => trk_no HR.out hlt h
      have HYES : Hid (nameB (P[k]'hlt) = true → R = trkR (B ++ packL T ps (labelsOf (P[k]'hlt))) (T ++ newS T (labelsOf (P[k]'hlt))) (ps ++ newP T B.length (labelsOf (P[k]'hlt))) (P.drop (k + 1))) := fun h => trk_yes HR.out hlt h
      obtain ⟨x, hx⟩ : ∃ x, x = P[k]'hlt := ⟨_, rfl⟩
      rw [← hx] at hcx HNO HYES
      unfold S at hcx
      clear hc hx
      go_wp2_with fail
      refine (splitName_any ⟨x.toArray⟩ _ (hE.below HB.out)).mono ?_
      rintro e w1 ⟨v, rfl, hown, hv, hb1⟩
      rw [show (⟨x.toArray⟩ : ByteArray).data.toList = x from rfl] at hown hv ⊢
      have hb01 : Below w.heap.size w w1 := HB.out.trans (hb1.mono hB1)
      cases hN : nameB x with
      | false =>
        have HN : Hid (R = none) := HNO.out hN
        rw [hv hN]
        clear hv hown hN
        go_wp2_with fail
        go_ret2
        exact ⟨put_none HN.out, hb01⟩
      | true =>
        have HN : Hid (R = trkR (B ++ packL T ps (labelsOf x)) (T ++ newS T (labelsOf x)) (ps ++ newP T B.length (labelsOf x)) (P.drop (k + 1))) := HYES.out hN
        have HNB : Hid (nameB x = true) := hN
        have HPS : Hid (PkS w.heap.size w.heap.size v (labelsOf x) w1 vw vt vp B T ps) := HT.out.with hb1 (hown hN) hB1
        obtain ⟨hxl, h8⟩ := name_labels hN
        have HXL : Hid (∀ p ∈ labelsOf x, p.length ≤ 20 ∧ 0 < p.length) := hxl
        have hsm := HT.out.few
        have hsh := HT.out.short
        have HNR : Hid (∀ p ∈ ps, p ≤ 4000) := fun p hp => by have := HT.out.near p hp; omega
        clear hv hown hN hxl
        go_wp2_with fail
        refine (put_any w.heap.size w.heap.size v vw vt vp (labelsOf x) B T ps _ HPS HT.out.same h8 HXL HNR (by omega) (by omega)).mono ?_
        rintro e w2 ⟨rfl, vw2, vt2, vp2, hs2, hb2⟩
        have HT2 : Hid (PkT w.heap.size w.heap.size (k + 1) w2 vw2 vt2 vp2 (B ++ packL T ps (labelsOf x)) (T ++ newS T (labelsOf x)) (ps ++ newP T B.length (labelsOf x))) := HT.out.next HNB.out hs2
        have HB2 : Hid (Below w.heap.size w w2) := hb01.trans hb2
        clear hs2 hb2
        go_wp2_with fail
        go_roundw
        case rel => exact ⟨k + 1, vw2, vt2, vp2, _, _, _, by omega, by go_num, HN, HT2, HB2⟩
        case measure => simp [intOf]; omega
    · have HN : Hid (R = some B) := trk_end HR.out hlt
      have hconv := own_string HT.out.wire
      obtain ⟨c0, c1, c2, f0, f1, f2⟩ := box3_cells HT.out.box
      have hbb := HB.out
      go_wp2_with fail
      go_ret2
      exact ⟨put_some HN.out rfl, hbb⟩
end Go.Proofs.YtoobaaklklommaaGreatDoor

namespace Go.Proofs.YtoobaaklklommaaGreatDoor
open Go.RowKit

/-- Labels with their lengths, and a byte 0. -/
def wireL : List (List UInt8) → List UInt8
  | [] => [0]
  | x :: r => UInt8.ofNat x.length :: (x ++ wireL r)
theorem packL_plain : ∀ P : List (List UInt8), packL [] [] P = wireL P
  | [] => rfl
  | x :: r => by unfold packL wireL; rw [if_neg (by simp), packL_plain r]

/-- What NameBytes tells. -/
def wireT (l : List UInt8) : List UInt8 := if nameB l = true then wireL (labelsOf l) else []
/-- What stands ahead of the labels that are still to come. -/
def headL (P : List (List UInt8)) (k : Nat) : List UInt8 := ((P.take k).map (fun x => UInt8.ofNat x.length :: x)).flatten
theorem headL_zero (P : List (List UInt8)) : headL P 0 = [] := by simp [headL]
theorem headL_next (P : List (List UInt8)) (k : Nat) (h : k < P.length) : headL P (k + 1) = headL P k ++ (UInt8.ofNat P[k].length :: P[k]) := by
  unfold headL; rw [List.take_succ_eq_append_getElem h, List.map_append, List.flatten_append]; simp only [List.map_cons, List.map_nil, List.flatten_cons, List.flatten_nil, List.append_nil]
theorem headL_end (P : List (List UInt8)) (k : Nat) (h : ¬ k < P.length) : headL P k ++ [0] = wireL P := by
  unfold headL; rw [List.take_of_length_le (by omega)]
  clear h
  induction P with
  | nil => rfl
  | cons x r ih => rw [wireL, ← ih]; simp
theorem val_strN {x : ByteArray} {l : List UInt8} (h : x.data.toList = l) : Value.string x = .string ⟨l.toArray⟩ := by rw [data_eq h]

theorem bytes_new {w : World} {n : Int} {x : List UInt8} (hn : n = (x.length : Int)) (hx : x.length ≤ 255) :
    Sem.run Tryz.prog (convert 165 9 (.slice (some ⟨w.heap.size, 0, none⟩) 1 1)) (w.alloc (.cells #[.int .u8 n] 5)) = .ok (.string ⟨#[UInt8.ofNat x.length]⟩) (w.alloc (.cells #[.int .u8 n] 5)) := by
  refine run_convert_bytes_back _ 165 9 5 ⟨w.heap.size, 0, none⟩ 1 [UInt8.ofNat x.length] Tryz.underlying165 Tryz.underlying5 Tryz.underlying9 (fun j hj => ?_)
  match j, hj with
  | 0, _ =>
    have := b8_ofNat hx
    unfold B8 at this
    rw [cell_new_one w (.int .u8 n) 5 0 (.int .u8 n) rfl, hn]
    exact congrArg some this.symm

set_option maxRecDepth 20000 in
set_option maxHeartbeats 1000000 in
theorem l2Bytes_any (s : ByteArray) (w : World) (hs : s.size ≤ 4294967280) (hn : Hid (nameB s.data.toList = true)) :
    Calls Tryz.prog 174 #[.string s] w fun e w' => e = .returned (.string ⟨(wireL (labelsOf s.data.toList)).toArray⟩) ∧ Below w.heap.size w w' := by
  go_enter Tryz.func174, Tryz.ntmps174
  go_wp2_with fail
  refine (l1Labels_any s w hs).mono ?_
  rintro e w1 ⟨v, rfl, hown, hb⟩
  have hown := hown hn.out
  obtain ⟨hx, h8⟩ := name_labels hn.out
  rw [hn.out]
  obtain ⟨P, hP⟩ : ∃ P, P = labelsOf s.data.toList := ⟨_, rfl⟩
  rw [← hP] at hown hx h8
  have HP : Hid (P = labelsOf s.data.toList) := hP
  have HX : Hid (∀ p ∈ P, p.length ≤ 20 ∧ 0 < p.length) := hx
  obtain ⟨a, cap, hv, hcap, hmax, HROW⟩ := row_valueI (row_own hown)
  rw [hv]
  clear hown hP hx hv
  go_wp2_with fail
  go_loopw [5, 15] (fun v i wr => ∃ k : Nat, k ≤ P.length ∧ i = .int .i64 k ∧ v = .string ⟨(headL P k).toArray⟩ ∧ (headL P k).length ≤ 21 * k ∧ Below w.heap.size w wr ∧ Below w1.heap.size w1 wr) (fun _ i _ => P.length - (intOf i).toNat)
  case atStart => exact ⟨0, Nat.zero_le _, rfl, by rw [headL_zero], by rw [headL_zero]; exact Nat.le_refl _, hb, Below.refl _ _⟩
  case round =>
    obtain ⟨k, hk, rfl, rfl, hhl, hbr, hb1⟩ := hrel
    by_cases hlt : k < P.length
    · obtain ⟨b, o, ha, hbl, hc⟩ := HROW.out (by omega)
      rw [ha]
      have hcx : wr.cell? ⟨b, o + k, none⟩ = some (.string ⟨(P[k]'hlt).toArray⟩) := by rw [hb1.cell (p := ⟨b, o + k, none⟩) hbl]; exact hc k hlt
      clear hc
      have hxl := (HX.out _ (List.getElem_mem hlt)).1
      have HN : Hid (headL P (k + 1) = headL P k ++ (UInt8.ofNat (P[k]'hlt).length :: P[k]'hlt)) := headL_next P k hlt
      obtain ⟨x, hxe⟩ : ∃ x, x = P[k]'hlt := ⟨_, rfl⟩
      rw [← hxe] at hcx hxl HN
      obtain ⟨z, hz⟩ : ∃ z, z = headL P k := ⟨_, rfl⟩
      rw [← hz] at hhl HN ⊢
      clear hxe hz
      have hconv := bytes_new (w := wr) (n := (x.length : Int)) (x := x) rfl (by omega)
      go_wp2_with fail
      go_roundw
      case rel => exact ⟨k + 1, by omega, by go_num, val_strN (by rw [HN.out]; simp), by rw [HN.out]; simp; omega, hbr.alloc hbr.size _, hb1.alloc hb1.size _⟩
      case measure => simp [intOf]; omega
    · have HE : Hid (headL P k ++ [0] = wireL P) := headL_end P k hlt
      obtain ⟨z, hz⟩ : ∃ z, z = headL P k := ⟨_, rfl⟩
      rw [← hz] at hhl HE ⊢
      clear hz
      go_wp2_with fail
      go_ret
      exact ⟨congrArg Ending.returned (val_strN (by rw [← HP.out, ← HE.out]; simp)), hbr⟩


theorem trk_one (s : List UInt8) : trkR [] [] [] [s] = if nameB s = true then some (wireL (labelsOf s)) else none := by
  rw [trkR]
  split
  · rw [trkR, packL_plain]; rfl
  · rfl
theorem row_lit1 (w : World) (nm : ByteArray) : Row (w.alloc (.cells #[.string nm] 9)) (.slice (some ⟨w.heap.size, 0, none⟩) 1 1) [nm.data.toList] := by
  refine row_own (base := w.heap.size) ?_
  exact World.ownsRow_lit w #[.string nm] 1 (Nat.le_refl _) (by unfold maxLen; omega) rfl

set_option maxRecDepth 20000 in
set_option maxHeartbeats 1000000 in
theorem iNameBytes_any (s : ByteArray) (w : World) (hE : Env w) :
    Calls Tryz.prog 302 #[.string s] w fun e w' => e = .returned (.tuple #[.string ⟨(wireT s.data.toList).toArray⟩, .bool (nameB s.data.toList)]) ∧ Below w.heap.size w w' := by
  have HV : Hid (∃ x : ByteArray, putVal (trkR [] [] [] [s.data.toList]) = .returned (.tuple #[.string x, .bool (nameB s.data.toList)]) ∧ x = ⟨(wireT s.data.toList).toArray⟩) := by
    rw [trk_one]
    refine ⟨_, ?_, rfl⟩
    unfold wireT putVal
    cases nameB s.data.toList <;> rfl
  obtain ⟨x, hx, hxe⟩ := HV.out
  have HX : Hid (x = ⟨(wireT s.data.toList).toArray⟩) := hxe
  have hb0 : Below w.heap.size w (w.alloc (.cells #[.string s] 9)) := (Below.refl w.heap.size w).alloc (Nat.le_refl _) _
  have HC : Hid (Calls Tryz.prog 303 #[.slice (some ⟨w.heap.size, 0, none⟩) 1 1] (w.alloc (.cells #[.string s] 9)) fun e w' => e = .returned (.tuple #[.string x, .bool (nameB s.data.toList)]) ∧ Below (w.alloc (.cells #[.string s] 9)).heap.size (w.alloc (.cells #[.string s] 9)) w') := by
    have h := iPackAll_any _ [s.data.toList] _ (row_lit1 w s) (by simp) (hE.below hb0)
    rw [hx] at h; exact h
  obtain ⟨b, hbe⟩ : ∃ b, b = nameB s.data.toList := ⟨_, rfl⟩
  rw [← hbe] at HC ⊢
  clear hx hxe hbe HV
  go_enter Tryz.func302, Tryz.ntmps302
  go_wp2_with fail
  refine HC.out.mono ?_
  rintro e w1 ⟨rfl, hb1⟩
  have hb01 := hb0.trans (hb1.mono hb0.size)
  go_wp2_with fail
  go_ret2
  exact ⟨ret_two (congrArg Value.string HX.out) rfl, hb01⟩
end Go.Proofs.YtoobaaklklommaaGreatDoor

namespace Go.Proofs.YtoobaaklklommaaGreatDoor
open Go.RowKit

/-- A number in so many bytes, the highest first. -/
def beB (n : Int) : Nat → List UInt8
  | 0 => []
  | k + 1 => beB (n / 256) k ++ [UInt8.ofNat (n % 256).toNat]
theorem beB_length : ∀ (k : Nat) (n : Int), (beB n k).length = k
  | 0, _ => rfl
  | k + 1, n => by rw [beB, List.length_append, beB_length k]; rfl

theorem made_brow {w w1 : World} {N : Nat} (h : w1.ownsRow w.heap.size 5 1 (.slice (some ⟨w.heap.size, 0, none⟩) N N) N (madeCells #[.int .u8 0] N).toList) : BRow w1 w.heap.size (List.replicate N 0) := by
  refine ⟨(h.lt w.heap.size rfl).2, fun j hj => ⟨?_, h.frozenAt j⟩⟩
  have hj' : j < N := by simpa using hj
  rw [h.cellAt j (by omega)]
  have e : (madeCells #[.int .u8 0] N).toList = List.replicate N (.int .u8 0) := by
    apply List.ext_getElem
    · simp [madeCells]
    · intro i h1 h2; simp [madeCells, Nat.mod_one]
  rw [e]
  simp [hj']

set_option maxRecDepth 20000 in
set_option maxHeartbeats 1000000 in
theorem l3Number_any (n : Int) (N : Nat) (w : World) (h1 : -9223372036854775808 ≤ n) (h2 : n ≤ 9223372036854775807) (hN : N ≤ 8) :
    Calls Tryz.prog 172 #[.int .i64 n, .int .i64 (N : Int)] w fun e w' => e = .returned (.string ⟨(beB n N).toArray⟩) ∧ Below w.heap.size w w' := by
  obtain ⟨i0, hi, hz0, hz1, hz2⟩ := info_parts info_byte
  go_enter Tryz.func172, Tryz.ntmps172
  go_wp2_with (at_make; refine wpList_make_full _ rfl _ _ 165 rfl w.heap.size 5 i0 (.int .u8 0) 1 Tryz.underlying165 hi hz0 hz1 _ _ _ _ N rfl rfl rfl rfl ?b2 ?b3 ?b4 ?_)
  case b2 => rw [hz2]; omega
  case b3 => unfold maxLen; omega
  case b4 => exact Nat.le_refl _
  intro w1 hown hgrow
  have hb1 : Below w.heap.size w w1 := (Below.refl _ _).grown hgrow (Nat.le_refl _) (fun k h => by cases h)
  have HB0 : Hid (BRow w1 w.heap.size (List.replicate N 0 ++ [])) := by rw [List.append_nil]; exact made_brow hown
  clear hown hgrow
  go_wp2_with fail
  go_loopw [0, 6] (fun vn i wr => ∃ (j : Nat) (m : Int) (tl : List UInt8), j ≤ N ∧ vn = .int .i64 m ∧ i = .int .i64 ((j : Int) - 1) ∧ -9223372036854775808 ≤ m ∧ m ≤ 9223372036854775807 ∧ Hid (beB n N = beB m j ++ tl ∧ tl.length + j = N) ∧ Hid (BRow wr w.heap.size (List.replicate j 0 ++ tl)) ∧ Below w.heap.size w wr) (fun _ i _ => (intOf i + 1).toNat)
  case atStart => exact ⟨N, n, [], Nat.le_refl _, rfl, rfl, h1, h2, ⟨by simp, by simp⟩, HB0, hb1⟩
  case round =>
    obtain ⟨j, m, tl, hj, rfl, rfl, hm1, hm2, HS, HR, hb⟩ := hrel
    clear HB0 hb1
    cases j with
    | zero =>
      have hrow : BRow wr w.heap.size tl := by simpa using HR.out
      have hconv := string_of (cap := N) hrow N (by have := HS.out.2; omega)
      have he : beB n N = tl := by have := HS.out.1; simpa [beB] using this
      have HE : Hid (beB n N = tl) := he
      clear he
      clear hrow
      go_wp2_with fail
      go_ret
      exact ⟨by rw [HE.out]; rfl, hb⟩
    | succ j =>
      have hji : ((j + 1 : Nat) : Int) - 1 = (j : Int) := by omega
      rw [hji]
      have hlen : j < (List.replicate (j + 1) (0 : UInt8) ++ tl).length := by rw [List.length_append, List.length_replicate]; omega
      have hcx := (HR.out.2 j hlen).1
      have hfx := (HR.out.2 j hlen).2
      obtain ⟨c, hc⟩ : ∃ c : UInt8, c = UInt8.ofNat (m % 256).toNat := ⟨_, rfl⟩
      have hcn : (c.toNat : Int) = m % 256 := by rw [hc, UInt8.toNat_ofNat']; omega
      have hset := HR.out.set j hlen c
      rw [hcn] at hset
      have hl2 : (List.replicate (j + 1) (0 : UInt8) ++ tl).set j c = List.replicate j 0 ++ (c :: tl) := by
        rw [List.replicate_succ', List.append_assoc, List.set_append_right _ _ (by simp)]
        simp
      rw [hl2] at hset
      have HSET : Hid (BRow (wr.setCell ⟨w.heap.size, j, none⟩ (.int .u8 (m % 256))) w.heap.size (List.replicate j 0 ++ (c :: tl))) := hset
      have HN : Hid (beB n N = beB (m / 256) j ++ (c :: tl) ∧ (c :: tl).length + j = N) := by
        refine ⟨?_, ?_⟩
        · rw [HS.out.1, beB, ← hc]; simp
        · have := HS.out.2; simp; omega
      obtain ⟨u, hu⟩ : ∃ u, u = (List.replicate (j + 1) (0 : UInt8) ++ tl)[j]'hlen := ⟨_, rfl⟩
      rw [← hu] at hcx
      clear hset hl2 hc hcn hu hlen hji
      go_wp2_with fail
      go_roundw
      case rel => exact ⟨j, m / 256, c :: tl, by omega, rfl, rfl, by omega, by omega, HN, HSET, hb.setCell (p := ⟨w.heap.size, j, none⟩) (Nat.le_refl _) _⟩
      case measure => simp [intOf]

/-- The labels that l1Labels tells, name or not. -/
def labsV (l : List UInt8) : List (List UInt8) := if l = [] then [] else if (cut 46 l).all labelB = true then cut 46 l else []
theorem labsV_name {l : List UInt8} (h : nameB l = true) : labsV l = labelsOf l := by
  unfold labsV labelsOf
  split
  · rfl
  · rename_i h0
    rw [if_pos]
    unfold nameB labelsOf at h
    rw [if_neg h0] at h
    simp only [Bool.and_eq_true] at h
    exact h.1

set_option maxRecDepth 20000 in
set_option maxHeartbeats 1000000 in
theorem l1Labels_full (s : ByteArray) (w : World) (hs : s.size ≤ 4294967280) :
    Calls Tryz.prog 151 #[.string s] w fun e w' => ∃ v, e = .returned (.tuple #[v, .bool (nameB s.data.toList)]) ∧
      w'.ownsRow w.heap.size 9 1 v (labsV s.data.toList).length ((labsV s.data.toList).map S) ∧ Below w.heap.size w w' := by
  by_cases h0 : s.data.toList = []
  · obtain rfl : s = ⟨#[]⟩ := data_eq h0
    go_enter Tryz.func151, Tryz.ntmps151
    go_wp2_with fail
    go_ret2
    exact ⟨_, rfl, World.ownsRow_nil _ _ _ _, Below.refl _ _⟩
  · have H0 : Hid (¬ s.data.toList = []) := h0
    have e0 : (s.toList == []) = false := by rw [ByteArray.toList_eq]; simpa using h0
    clear h0
    have hsz : s.data.toList.length = s.size := by simp
    have HSZ : Hid (s.data.toList.length = s.size) := hsz
    clear hsz
    go_enter Tryz.func151, Tryz.ntmps151
    go_wp2_with fail
    refine (l1Split_any s 46 _ w hs rfl).mono ?_
    rintro e w1 ⟨v, rfl, hown, hb⟩
    have hne : 0 < (cut 46 s.data.toList).length := List.length_pos_iff.2 (cut_ne _ _)
    obtain ⟨g, cap, hv, hg, hgl, hcap, hmax, hcell⟩ := own_shape hown hne
    obtain ⟨P, hP⟩ : ∃ P, P = cut 46 s.data.toList := ⟨_, rfl⟩
    rw [← hP] at hown hne hv hcap hcell
    have HP : Hid (P = cut 46 s.data.toList) := hP
    have HOWN : Hid (w1.ownsRow w.heap.size 9 1 v P.length (P.map S)) := hown
    have HCE : Hid (∀ j, j < P.length → w1.cell? ⟨g, j, none⟩ = (P.map S)[j]?) := hcell
    have HN : Hid ((cut 46 s.data.toList).all labelB = true → w1.ownsRow w.heap.size 9 1 v (labsV s.data.toList).length ((labsV s.data.toList).map S)) := fun ha => by
      unfold labsV; rw [if_neg H0.out, if_pos ha, ← hP]; exact hown
    rw [hv] at HN ⊢
    clear hP hown hcell HOWN hv
    unfold maxLen at hmax
    go_wp2_with fail
    go_loop [13] (fun i => ∃ k : Nat, k ≤ P.length ∧ i = .int .i64 k ∧ Hid ((P.take k).all labelB = true)) (fun i => P.length - (intOf i).toNat)
    case atStart => exact ⟨0, Nat.zero_le _, rfl, rfl⟩
    case round =>
      obtain ⟨k, hk, rfl, HA⟩ := hrel
      by_cases hlt : k < P.length
      · have hcx : w1.cell? ⟨g, k, none⟩ = some (.string ⟨(P[k]'hlt).toArray⟩) := by rw [HCE.out k hlt, List.getElem?_map, List.getElem?_eq_getElem hlt]; rfl
        have hpl : (⟨(P[k]'hlt).toArray⟩ : ByteArray).size ≤ maxLen := by
          have h1 := cut_piece_le 46 s.data.toList (P[k]'hlt) (by rw [← HP.out]; exact List.getElem_mem _)
          have h2 := HSZ.out
          show (P[k]'hlt).toArray.size ≤ maxLen
          unfold maxLen; simp only [List.size_toArray]; omega
        cases ho : labelB (P[k]'hlt) with
        | true =>
          have HO : Hid (labelB (P[k]'hlt) = true) := ho
          clear ho
          go_wp2_with fail
          refine (l1Label_any _ _ hpl).mono ?_
          rintro e w2 ⟨rfl, rfl⟩
          rw [show (⟨(P[k]'hlt).toArray⟩ : ByteArray).data.toList = P[k]'hlt from rfl, HO.out]
          go_wp2_with fail
          go_round
          case rel => exact ⟨k + 1, by omega, by go_num, pieces_step HA.out hlt HO.out⟩
          case measure => simp [intOf]; omega
        | false =>
          have HO : Hid (labelB (P[k]'hlt) = false) := ho
          clear ho
          go_wp2_with fail
          refine (l1Label_any _ _ hpl).mono ?_
          rintro e w2 ⟨rfl, rfl⟩
          rw [show (⟨(P[k]'hlt).toArray⟩ : ByteArray).data.toList = P[k]'hlt from rfl, HO.out]
          go_wp2_with fail
          go_ret2
          have hN := name_not H0.out (by rw [← HP.out]; exact pieces_not hlt HO.out)
          refine ⟨_, ret_two rfl (val_bool hN.symm), ?_, hb⟩
          have hna : ¬ (cut 46 s.data.toList).all labelB = true := by rw [← HP.out, pieces_not hlt HO.out]; simp
          unfold labsV; rw [if_neg H0.out, if_neg hna]; exact World.ownsRow_nil _ _ _ _
      · have HALL : Hid ((cut 46 s.data.toList).all labelB = true) := by rw [← HP.out]; exact pieces_full HA.out hlt
        have hN := name_is H0.out HALL.out
        rw [← HP.out, HSZ.out] at hN
        have HNN : Hid (nameB s.data.toList = (decide ((s.size : Int) ≤ 60) && decide ((P.length : Int) ≤ 8))) := hN
        clear hN
        by_cases h60 : (s.size : Int) ≤ 60
        · go_wp2_with fail
          go_ret2
          exact ⟨_, ret_two rfl (val_bool (by rw [HNN.out]; simp [h60])), HN.out HALL.out, hb⟩
        · have d60 : decide ((s.size : Int) ≤ 60) = false := by simp; omega
          go_wp2_with fail
          go_ret2
          exact ⟨_, ret_two rfl (val_bool (by rw [HNN.out, d60]; simp)), HN.out HALL.out, hb⟩

/-- A name that data may have. -/
def targB (l : List UInt8) : Bool := nameB l && ((labelsOf l).all (fun x => !(x == [42])) && !(l == []))

set_option maxRecDepth 20000 in
set_option maxHeartbeats 1000000 in
theorem l3Target_any (s : ByteArray) (w : World) (hs : s.size ≤ 4294967280) :
    Calls Tryz.prog 173 #[.string s] w fun e w' => e = .returned (.bool (targB s.data.toList)) ∧ Below w.heap.size w w' := by
  go_enter Tryz.func173, Tryz.ntmps173
  go_wp2_with fail
  refine (l1Labels_full s w hs).mono ?_
  rintro e w1 ⟨v, rfl, hown, hb⟩
  obtain ⟨P, hP⟩ : ∃ P, P = labsV s.data.toList := ⟨_, rfl⟩
  rw [← hP] at hown
  have hlenP : P.length ≤ 4294967290 := by
    have h1 := cut_length_le 46 s.data.toList
    have h2 : s.data.toList.length = s.size := by simp
    rw [hP]; unfold labsV
    split
    · simp
    · split
      · omega
      · simp
  obtain ⟨a, cap, hv, hcap, hmax, HROW⟩ := row_value (row_own hown)
  rw [hv]
  have HP : Hid (P = labsV s.data.toList) := hP
  clear hown hv hP
  obtain ⟨b0, hb0⟩ : ∃ b, b = nameB s.data.toList := ⟨_, rfl⟩
  rw [← hb0]
  have HB : Hid (b0 = nameB s.data.toList) := hb0
  clear hb0
  go_wp2_with fail
  go_loop [4, 14] (fun vb i => ∃ k : Nat, k ≤ P.length ∧ i = .int .i64 (k : Int) ∧ vb = .bool (b0 && (P.take k).all (fun x => !(x == [42])))) (fun _ i => P.length - (intOf i).toNat)
  case atStart => exact ⟨0, Nat.zero_le _, rfl, by simp⟩
  case round =>
    obtain ⟨k, hk, rfl, rfl⟩ := hrel
    by_cases hlt : k < P.length
    · obtain ⟨bb, o, ha, hbl, hc⟩ := HROW.out (by omega)
      rw [ha]
      have hcx := hc k hlt
      have ht : (P.take (k + 1)).all (fun x => !(x == [42])) = ((P.take k).all (fun x => !(x == [42])) && !((P[k]'hlt) == [42])) := by
        rw [List.take_succ_eq_append_getElem hlt]; simp only [List.all_append, List.all_cons, List.all_nil, Bool.and_true]
      have HT : Hid ((P.take (k + 1)).all (fun x => !(x == [42])) = ((P.take k).all (fun x => !(x == [42])) && !((P[k]'hlt) == [42]))) := ht
      clear ht
      obtain ⟨x, hx⟩ : ∃ x, x = P[k]'hlt := ⟨_, rfl⟩
      rw [← hx] at hcx HT
      unfold S at hcx
      clear hc hx
      obtain ⟨c, hcc⟩ : ∃ c, c = (b0 && (P.take k).all (fun x => !(x == [42]))) := ⟨_, rfl⟩
      rw [← hcc]
      have HC : Hid (c = (b0 && (P.take k).all (fun x => !(x == [42])))) := hcc
      clear hcc
      cases c with
      | false =>
        go_wp2_with fail
        go_round
        case rel => exact ⟨k + 1, by omega, by go_num, congrArg Value.bool (by rw [HT.out, ← Bool.and_assoc, ← HC.out]; rfl)⟩
        case measure => simp [intOf]; omega
      | true =>
        go_wp2_with fail
        go_round
        case rel => exact ⟨k + 1, by omega, by go_num, congrArg Value.bool (by rw [HT.out, ← Bool.and_assoc, ← HC.out]; rfl)⟩
        case measure => simp [intOf]; omega
    · have hfull : P.take k = P := List.take_of_length_le (by omega)
      rw [hfull]
      obtain ⟨c, hcc⟩ : ∃ c, c = (b0 && P.all (fun x => !(x == [42]))) := ⟨_, rfl⟩
      rw [← hcc]
      have HC : Hid (targB s.data.toList = (c && !(s.data.toList == []))) := by
        unfold targB
        rw [hcc, HB.out]
        cases hn : nameB s.data.toList with
        | false => exact rfl
        | true => rw [HP.out, labsV_name hn, Bool.true_and, Bool.true_and]; exact rfl
      clear hcc hfull
      cases c with
      | false =>
        go_wp2_with fail
        go_ret
        exact ⟨ret_bool (by rw [HC.out]; rfl), hb⟩
      | true =>
        go_wp2_with fail
        go_ret
        exact ⟨ret_bool (by rw [HC.out, ByteArray.toList_eq]; cases s.data.toList <;> rfl), hb⟩
end Go.Proofs.YtoobaaklklommaaGreatDoor

namespace Go.Proofs.YtoobaaklklommaaGreatDoor
open Go.RowKit

/-- A number of so many at most. -/
def numIn (l : List UInt8) (hi : Int) : Bool := decide (0 ≤ intV l) && decide (intV l ≤ hi)
def txtB (c : UInt8) : Bool := decide (32 ≤ c.toNat) && decide (c.toNat ≤ 126)
/-- The bytes of data of a type, none where it is not as its type asks. -/
def dataA (l : List UInt8) : Option (List UInt8) := if (cut 46 l).all (fun x => numIn x 255) = true ∧ (cut 46 l).length = 4 then some ((cut 46 l).map (fun x => UInt8.ofNat (intV x).toNat)) else none
def dataN (l : List UInt8) : Option (List UInt8) := if targB l = true then some (wireL (labelsOf l)) else none
def dataS (l : List UInt8) : Option (List UInt8) := if numIn l 4294967295 = true then some (beB (intV l) 4) else none
def dataM (l : List UInt8) : Option (List UInt8) := match cut 32 l with
  | [a, b] => if numIn a 65535 = true ∧ targB b = true then some (beB (intV a) 2 ++ wireL (labelsOf b)) else none
  | _ => none
def dataT (l : List UInt8) : Option (List UInt8) := if l.all txtB = true ∧ l.length ≤ 30 then some (UInt8.ofNat l.length :: l) else none
def dataP (k : Int) (l : List UInt8) : Option (List UInt8) :=
  if k = 1 then dataA l else if k = 2 ∨ k = 5 then dataN l else if k = 6 then dataS l else if k = 15 then dataM l else if k = 16 then dataT l else none

/-- What l3Bytes tells. -/
def BytesRes (D : Option (List UInt8)) (e : Ending) : Prop := ∃ x : ByteArray, e = .returned (.tuple #[.string x, .bool D.isSome]) ∧ ∀ y, D = some y → x = ⟨y.toArray⟩
theorem br_none {D : Option (List UInt8)} {x : ByteArray} (h : D = none) : BytesRes D (.returned (.tuple #[.string x, .bool false])) := ⟨x, by rw [h]; rfl, fun y hy => by rw [h] at hy; cases hy⟩
theorem br_some {D : Option (List UInt8)} {x : ByteArray} {y : List UInt8} (h : D = some y) (hx : x.data.toList = y) : BytesRes D (.returned (.tuple #[.string x, .bool true])) := ⟨x, by rw [h]; rfl, fun z hz => by rw [h] at hz; cases hz; exact data_eq hx⟩

theorem intV_range (l : List UInt8) : -1 ≤ intV l ∧ intV l < 10000000000 := by
  unfold intV
  split
  · rename_i h
    have h1 := decV_lt l l.length (by rw [List.take_length]; exact h.2.2.2)
    rw [List.take_length] at h1
    have h2 := pow10 (k := l.length) h.2.1
    omega
  · omega

set_option maxRecDepth 20000 in
set_option maxHeartbeats 1000000 in
theorem bytesS (s : ByteArray) (w : World) (hs : s.size ≤ 1048576) :
    Calls Tryz.prog 141 #[.int .i64 6, .string s] w fun e w' => BytesRes (dataS s.data.toList) e ∧ Below w.heap.size w w' := by
  have hr := intV_range s.data.toList
  go_enter Tryz.func141, Tryz.ntmps141
  go_wp2_with fail
  refine (l1Int_any s w (by omega)).mono ?_
  rintro e w1 ⟨rfl, rfl⟩
  obtain ⟨n, hn⟩ : ∃ n, n = intV s.data.toList := ⟨_, rfl⟩
  rw [← hn] at hr ⊢
  have HN : Hid (n = intV s.data.toList) := hn
  clear hn
  have hr1 := hr.1
  have hr2 := hr.2
  clear hr
  go_wp2_with fail
  refine (l3Number_any n 4 _ (by omega) (by omega) (by omega)).mono ?_
  rintro e w2 ⟨rfl, hb2⟩
  obtain ⟨y, hy⟩ : ∃ y, y = beB n 4 := ⟨_, rfl⟩
  rw [← hy]
  have HY : Hid (y = beB n 4) := hy
  clear hy
  go_wp2_with fail
  refine (l1In_any _ _ _ _).mono ?_
  rintro e w3 ⟨rfl, rfl⟩
  cases hd : (decide ((0 : Int) ≤ n) && decide (n ≤ 4294967295)) with
  | false =>
    have HR : Hid (dataS s.data.toList = none) := if_neg (by unfold numIn; rw [← HN.out, hd]; simp)
    clear hd
    go_wp2_with fail
    go_ret2
    exact ⟨br_none HR.out, hb2⟩
  | true =>
    have HR : Hid (dataS s.data.toList = some y) := by
      have h : dataS s.data.toList = some (beB (intV s.data.toList) 4) := if_pos (by unfold numIn; rw [← HN.out, hd])
      rw [HY.out, HN.out]; exact h
    clear hd
    go_wp2_with fail
    go_ret2
    exact ⟨br_some HR.out rfl, hb2⟩

set_option maxRecDepth 20000 in
set_option maxHeartbeats 1000000 in
theorem bytesN (k : Int) (s : ByteArray) (w : World) (hs : s.size ≤ 1048576) (hk : k = 2 ∨ k = 5) :
    Calls Tryz.prog 141 #[.int .i64 k, .string s] w fun e w' => BytesRes (dataN s.data.toList) e ∧ Below w.heap.size w w' := by
  rcases hk with rfl | rfl
  all_goals
    cases ht : targB s.data.toList with
    | false =>
      have HT : Hid (targB s.data.toList = false) := ht
      have HR : Hid (dataN s.data.toList = none) := if_neg (by rw [ht]; simp)
      clear ht
      go_enter Tryz.func141, Tryz.ntmps141
      go_wp2_with fail
      refine (l3Target_any s w (by omega)).mono ?_
      rintro e w1 ⟨rfl, hb1⟩
      rw [HT.out]
      go_wp2_with fail
      go_ret2
      exact ⟨br_none HR.out, hb1⟩
    | true =>
      have HT : Hid (targB s.data.toList = true) := ht
      have HNM : Hid (nameB s.data.toList = true) := by
        unfold targB at ht; simp only [Bool.and_eq_true] at ht; exact ht.1
      have HR : Hid (dataN s.data.toList = some (wireL (labelsOf s.data.toList))) := if_pos ht
      clear ht
      go_enter Tryz.func141, Tryz.ntmps141
      go_wp2_with fail
      refine (l3Target_any s w (by omega)).mono ?_
      rintro e w1 ⟨rfl, hb1⟩
      rw [HT.out]
      go_wp2_with fail
      refine (l2Bytes_any s w1 (by omega) HNM).mono ?_
      rintro e w2 ⟨rfl, hb2⟩
      go_wp2_with fail
      go_ret2
      exact ⟨br_some HR.out rfl, hb1.trans (hb2.mono hb1.size)⟩

set_option maxRecDepth 20000 in
set_option maxHeartbeats 1000000 in
theorem bytesO (k : Int) (s : ByteArray) (w : World) (h1 : (k == 1) = false) (h2 : (k == 2) = false) (h5 : (k == 5) = false) (h6 : (k == 6) = false) (h15 : (k == 15) = false) (h16 : (k == 16) = false) :
    Calls Tryz.prog 141 #[.int .i64 k, .string s] w fun e w' => BytesRes none e ∧ Below w.heap.size w w' := by
  go_enter Tryz.func141, Tryz.ntmps141
  go_wp2_with fail
  go_ret2
  exact ⟨br_none rfl, Below.refl _ _⟩

theorem txt_step {l : List UInt8} {k : Nat} (h : (l.take k).all txtB = true) (hk : k < l.length) (ho : txtB l[k] = true) : (l.take (k + 1)).all txtB = true := by
  rw [List.take_succ_eq_append_getElem hk]; simp only [List.all_append, h, List.all_cons, ho, List.all_nil, Bool.and_true]
theorem txt_full {l : List UInt8} {k : Nat} (h : (l.take k).all txtB = true) (hk : ¬ k < l.length) : l.all txtB = true := by
  rwa [List.take_of_length_le (by omega)] at h
theorem txt_not {l : List UInt8} {k : Nat} (hk : k < l.length) (ho : txtB l[k] = false) : l.all txtB = false := by
  rw [Bool.eq_false_iff]; intro h
  have := List.all_eq_true.1 h l[k] (List.getElem_mem _)
  rw [ho] at this; cases this

set_option maxRecDepth 20000 in
set_option maxHeartbeats 1000000 in
theorem bytesT (s : ByteArray) (w : World) (hs : s.size ≤ 1048576) :
    Calls Tryz.prog 141 #[.int .i64 16, .string s] w fun e w' => BytesRes (dataT s.data.toList) e ∧ Below w.heap.size w w' := by
  have HLEN : Hid (s.data.toList.length = s.size) := (by simp : s.data.toList.length = s.size)
  go_enter Tryz.func141, Tryz.ntmps141
  go_wp2_with fail
  go_loop [13] (fun i => ∃ k : Nat, k ≤ s.size ∧ i = .int .i64 (k : Int) ∧ Hid ((s.data.toList.take k).all txtB = true)) (fun i => s.size - (intOf i).toNat)
  case atStart => exact ⟨0, Nat.zero_le _, rfl, rfl⟩
  case round =>
    obtain ⟨k, hk, rfl, HA⟩ := hrel
    by_cases hlt : k < s.size
    · have hkl : k < s.data.toList.length := by rw [HLEN.out]; exact hlt
      have hc255 : s[k].toNat < 256 := s[k].toNat_lt
      have HNO : Hid (txtB s[k] = false → dataT s.data.toList = none) := fun h => if_neg (fun hc => by have := txt_not hkl h; rw [this] at hc; cases hc.1)
      have HYES : Hid (txtB s[k] = true → (s.data.toList.take (k + 1)).all txtB = true) := fun h => txt_step HA.out hkl h
      rcases (show (s[k].toNat : Int) < 32 ∨ (126 : Int) < (s[k].toNat : Int) ∨ ((32 : Int) ≤ (s[k].toNat : Int) ∧ (s[k].toNat : Int) ≤ 126) by omega) with g | g | ⟨g1, g2⟩
      · have HR : Hid (dataT s.data.toList = none) := HNO.out (by unfold txtB; rw [decide_eq_false (by omega)]; rfl)
        go_wp2_with fail
        go_ret2
        exact ⟨br_none HR.out, Below.refl _ _⟩
      · have HR : Hid (dataT s.data.toList = none) := HNO.out (by unfold txtB; rw [decide_eq_false (p := s[k].toNat ≤ 126) (by omega), Bool.and_false])
        go_wp2_with fail
        go_ret2
        exact ⟨br_none HR.out, Below.refl _ _⟩
      · have HAN : Hid ((s.data.toList.take (k + 1)).all txtB = true) := HYES.out (by unfold txtB; rw [decide_eq_true (by omega), decide_eq_true (by omega)]; rfl)
        go_wp2_with fail
        go_round
        case rel => exact ⟨k + 1, by omega, by go_num, HAN⟩
        case measure => simp [intOf]; omega
    · have HALL : Hid (s.data.toList.all txtB = true) := txt_full HA.out (by rw [HLEN.out]; exact hlt)
      have hconv := byte_new (w := w) (n := (s.size : Int) % 256) (k := s.size % 256) (by omega) (by omega)
      by_cases h30 : s.size ≤ 30
      · have g30 : (s.size : Int) ≤ 30 := by omega
        have hconv2 := byte_new (w := w) (n := (s.size : Int)) (k := s.size) rfl (by omega)
        have HR : Hid (dataT s.data.toList = some (UInt8.ofNat s.size :: s.data.toList)) := by
          have h : dataT s.data.toList = some (UInt8.ofNat s.data.toList.length :: s.data.toList) := if_pos ⟨HALL.out, by rw [HLEN.out]; exact h30⟩
          rw [HLEN.out] at h; exact h
        go_wp2_with fail
        go_ret2
        exact ⟨br_some HR.out (by simp), (Below.refl _ _).alloc (Nat.le_refl _) _⟩
      · have g30 : decide ((s.size : Int) ≤ 30) = false := by simp; omega
        have HR : Hid (dataT s.data.toList = none) := if_neg (fun h => h30 (by have := h.2; rw [HLEN.out] at this; exact this))
        go_wp2_with fail
        go_ret2
        exact ⟨br_none HR.out, (Below.refl _ _).alloc (Nat.le_refl _) _⟩

/-- The bytes of so many pieces. -/
def accA (P : List (List UInt8)) : List UInt8 := P.map (fun x => UInt8.ofNat (intV x).toNat)
theorem accA_step (P : List (List UInt8)) (k : Nat) (h : k < P.length) : accA (P.take (k + 1)) = accA (P.take k) ++ [UInt8.ofNat (intV P[k]).toNat] := by
  unfold accA; rw [List.take_succ_eq_append_getElem h, List.map_append]; rfl
theorem num_step {P : List (List UInt8)} {k : Nat} (h : (P.take k).all (fun x => numIn x 255) = true) (hk : k < P.length) (ho : numIn P[k] 255 = true) : (P.take (k + 1)).all (fun x => numIn x 255) = true := by
  rw [List.take_succ_eq_append_getElem hk]; simp only [List.all_append, h, List.all_cons, ho, List.all_nil, Bool.and_true]
theorem num_not {P : List (List UInt8)} {k : Nat} (hk : k < P.length) (ho : numIn P[k] 255 = false) : P.all (fun x => numIn x 255) = false := by
  rw [Bool.eq_false_iff]; intro h
  have := List.all_eq_true.1 h P[k] (List.getElem_mem _)
  rw [ho] at this; cases this
theorem beB_one {n : Int} (h0 : 0 ≤ n) (h1 : n ≤ 255) : beB n 1 = [UInt8.ofNat n.toNat] := by
  have e : n % 256 = n := by omega
  simp [beB, e]

set_option maxRecDepth 20000 in
set_option maxHeartbeats 1000000 in
theorem bytesA (s : ByteArray) (w : World) (hs : s.size ≤ 1048576) :
    Calls Tryz.prog 141 #[.int .i64 1, .string s] w fun e w' => BytesRes (dataA s.data.toList) e ∧ Below w.heap.size w w' := by
  have HLEN : Hid (s.data.toList.length = s.size) := (by simp : s.data.toList.length = s.size)
  go_enter Tryz.func141, Tryz.ntmps141
  go_wp2_with fail
  refine (l1Split_any s 46 _ w (by omega) rfl).mono ?_
  rintro e w1 ⟨v, rfl, hown, hb⟩
  obtain ⟨a, cap, hv, hcap, hmax, HROW⟩ := row_value (row_own hown)
  rw [hv]
  have hpl : (cut 46 s.data.toList).length ≤ 1048577 := by have := cut_length_le 46 s.data.toList; rw [HLEN.out] at this; omega
  have HPC : Hid (∀ p ∈ cut 46 s.data.toList, p.length ≤ 1048576) := fun p hp => by have := cut_piece_le 46 _ p hp; rw [HLEN.out] at this; omega
  have HDA : Hid (dataA s.data.toList = if (cut 46 s.data.toList).all (fun x => numIn x 255) = true ∧ (cut 46 s.data.toList).length = 4 then some (accA (cut 46 s.data.toList)) else none) := rfl
  obtain ⟨P, hP⟩ : ∃ P, P = cut 46 s.data.toList := ⟨_, rfl⟩
  rw [← hP] at HDA HPC hpl hcap HROW ⊢
  clear hown hv hP
  go_wp2_with fail
  go_loopw [6, 21] (fun vo i wr => ∃ k : Nat, k ≤ P.length ∧ i = .int .i64 (k : Int) ∧ vo = .string ⟨(accA (P.take k)).toArray⟩ ∧ (accA (P.take k)).length ≤ k ∧ Hid ((P.take k).all (fun x => numIn x 255) = true) ∧ Below w.heap.size w wr ∧ Below w1.heap.size w1 wr) (fun _ i _ => P.length - (intOf i).toNat)
  case atStart => exact ⟨0, Nat.zero_le _, rfl, rfl, Nat.le_refl _, rfl, hb, Below.refl _ _⟩
  case round =>
    obtain ⟨k, hk, rfl, rfl, hal, HA, hbr, hb1⟩ := hrel
    by_cases hlt : k < P.length
    · obtain ⟨b, o, ha, hbl, hc⟩ := HROW.out (by omega)
      rw [ha]
      have hcx := hc k hlt
      rw [← hb1.cell (p := ⟨b, o + k, none⟩) hbl] at hcx
      have hxl : (⟨(P[k]'hlt).toArray⟩ : ByteArray).size ≤ 4294967280 := by rw [size_list]; have := HPC.out _ (List.getElem_mem hlt); omega
      have HNO : Hid (numIn (P[k]'hlt) 255 = false → dataA s.data.toList = none) := fun h => by rw [HDA.out]; exact if_neg (fun hc => by rw [num_not hlt h] at hc; cases hc.1)
      have HYES : Hid (numIn (P[k]'hlt) 255 = true → (P.take (k + 1)).all (fun x => numIn x 255) = true) := fun h => num_step HA.out hlt h
      have HACC : Hid (accA (P.take (k + 1)) = accA (P.take k) ++ [UInt8.ofNat (intV (P[k]'hlt)).toNat]) := accA_step P k hlt
      obtain ⟨x, hx⟩ : ∃ x, x = P[k]'hlt := ⟨_, rfl⟩
      rw [← hx] at hcx hxl HNO HYES HACC
      unfold S at hcx
      clear hc hx
      obtain ⟨z, hz⟩ : ∃ z, z = accA (P.take k) := ⟨_, rfl⟩
      rw [← hz] at hal HACC ⊢
      clear hz
      have hr := intV_range x
      go_wp2_with fail
      refine (l1Int_any _ _ hxl).mono ?_
      rintro e w2 ⟨rfl, rfl⟩
      rw [show (⟨x.toArray⟩ : ByteArray).data.toList = x from rfl]
      obtain ⟨n, hn⟩ : ∃ n, n = intV x := ⟨_, rfl⟩
      rw [← hn] at hr HACC ⊢
      have HN : Hid (n = intV x) := hn
      have hr1 := hr.1
      have hr2 := hr.2
      clear hn hr
      go_wp2_with fail
      refine (l1In_any _ _ _ _).mono ?_
      rintro e w3 ⟨rfl, rfl⟩
      cases hd : (decide ((0 : Int) ≤ n) && decide (n ≤ 255)) with
      | false =>
        have HR : Hid (dataA s.data.toList = none) := HNO.out (by unfold numIn; rw [← HN.out]; exact hd)
        clear hd
        go_wp2_with fail
        go_ret2
        exact ⟨br_none HR.out, hbr⟩
      | true =>
        have HAN : Hid ((P.take (k + 1)).all (fun x => numIn x 255) = true) := HYES.out (by unfold numIn; rw [← HN.out]; exact hd)
        have hd2 : 0 ≤ n ∧ n ≤ 255 := by simpa using hd
        have HB1 : Hid (beB n 1 = [UInt8.ofNat n.toNat]) := beB_one hd2.1 hd2.2
        clear hd hd2
        go_wp2_with fail
        refine (l3Number_any n 1 _ (by omega) (by omega) (by omega)).mono ?_
        rintro e w4 ⟨rfl, hb4⟩
        rw [HB1.out]
        go_wp2_with fail
        go_roundw
        case rel => exact ⟨k + 1, by omega, by go_num, val_strM (by rw [HACC.out]; simp), by rw [HACC.out]; simp; omega, HAN, hbr.trans (hb4.mono hbr.size), hb1.trans (hb4.mono hb1.size)⟩
        case measure => simp [intOf]; omega
    · have hfull : P.take k = P := List.take_of_length_le (by omega)
      have hall := HA.out
      rw [hfull] at hall
      rw [hfull] at hal ⊢
      obtain ⟨z, hz⟩ : ∃ z, z = accA P := ⟨_, rfl⟩
      rw [← hz] at hal HDA ⊢
      by_cases h4 : P.length = 4
      · have HR : Hid (dataA s.data.toList = some z) := by rw [HDA.out]; exact if_pos ⟨hall, h4⟩
        have e4 : ((P.length : Int) == 4) = true := by rw [h4]; rfl
        clear hz hall hfull h4
        go_wp2_with fail
        go_ret2
        exact ⟨br_some HR.out rfl, hbr⟩
      · have HR : Hid (dataA s.data.toList = none) := by rw [HDA.out]; exact if_neg (fun h => h4 h.2)
        have e4 : ((P.length : Int) == 4) = false := by rw [beq_eq_false_iff_ne]; omega
        clear hz hall hfull h4
        go_wp2_with fail
        go_ret2
        exact ⟨br_none HR.out, hbr⟩
end Go.Proofs.YtoobaaklklommaaGreatDoor

namespace Go.Proofs.YtoobaaklklommaaGreatDoor
open Go.RowKit

theorem decDigits_numL (u : Nat) : Lib.decDigits u = numL u := by
  induction u using Nat.strongRecOn with
  | _ u ih =>
    rw [Lib.decDigits, numL]
    by_cases h : u < 10
    · rw [dif_pos h, if_pos h]
    · rw [dif_neg h, if_neg h, ih (u / 10) (by omega)]
theorem digit_of {d : Nat} (h : d < 10) : digB (UInt8.ofNat (48 + d)) = true ∧ (UInt8.ofNat (48 + d)).toNat = 48 + d := by
  have e : (UInt8.ofNat (48 + d)).toNat = 48 + d := by rw [UInt8.toNat_ofNat']; omega
  refine ⟨?_, e⟩
  unfold digB; rw [e, decide_eq_true (by omega), decide_eq_true (by omega)]; rfl
theorem numL_ne (n : Nat) : numL n ≠ [] := by
  rw [numL]; split <;> simp
theorem numL_dig (n : Nat) : (numL n).all digB = true := by
  induction n using Nat.strongRecOn with
  | _ n ih =>
    by_cases h : n < 10
    · rw [numL_small h, List.all_cons, (digit_of h).1]; rfl
    · rw [numL_big h, List.all_append, ih (n / 10) (by omega), List.all_cons, (digit_of (d := n % 10) (by omega)).1]; rfl
theorem decV_app (l : List UInt8) (c : UInt8) : decV (l ++ [c]) = 10 * decV l + (c.toNat - 48) := by
  unfold decV; rw [List.foldl_append]; rfl
theorem decV_numL (n : Nat) : decV (numL n) = n := by
  induction n using Nat.strongRecOn with
  | _ n ih =>
    by_cases h : n < 10
    · rw [numL_small h]
      show 10 * 0 + ((UInt8.ofNat (48 + n)).toNat - 48) = n
      rw [(digit_of h).2]; omega
    · rw [numL_big h, decV_app, ih (n / 10) (by omega), (digit_of (d := n % 10) (by omega)).2]; omega
theorem numL_zero : numL 0 = [48] := by rw [numL_small (by omega)]; rfl
theorem numL_head (n : Nat) (h0 : n ≠ 0) : (numL n).head? ≠ some 48 := by
  induction n using Nat.strongRecOn with
  | _ n ih =>
    by_cases h : n < 10
    · rw [numL_small h]
      intro e
      have e2 := congrArg UInt8.toNat (Option.some.inj e)
      rw [(digit_of h).2] at e2
      have : (48 : UInt8).toNat = 48 := rfl
      omega
    · have := ih (n / 10) (by omega) (by omega)
      rw [numL_big h]
      cases hq : numL (n / 10) with
      | nil => exact absurd hq (numL_ne _)
      | cons a r => rw [hq] at this; exact this
theorem intV_numL {n : Nat} (h : n < 10000000000) : intV (numL n) = (n : Int) := by
  have hl := numL_length 9 n (by omega)
  have h1 : 1 ≤ (numL n).length := List.length_pos_iff.2 (numL_ne n)
  have hz : ¬ ((numL n).head? = some 48 ∧ 1 < (numL n).length) := by
    rintro ⟨ha, hb⟩
    by_cases h0 : n = 0
    · rw [h0, numL_zero] at hb; simp at hb
    · exact numL_head n h0 ha
  unfold intV
  rw [if_pos ⟨h1, hl, hz, numL_dig n⟩, decV_numL]
theorem numL_canon : ∀ (k : Nat) (l : List UInt8), l.length = k → l ≠ [] → l.all digB = true → ¬ (l.head? = some 48 ∧ 1 < l.length) → numL (decV l) = l := by
  intro k
  induction k with
  | zero => intro l hl hn; exact absurd (List.length_eq_zero_iff.1 hl) hn
  | succ k ih =>
    intro l hl hn hd hz
    have hlast := List.dropLast_concat_getLast hn
    have hml : l.dropLast.length = k := by rw [List.length_dropLast, hl]; rfl
    generalize l.getLast hn = c at hlast
    generalize l.dropLast = m at hlast hml
    subst hlast
    rw [List.all_append, Bool.and_eq_true] at hd
    have hc : digB c = true := by simpa using hd.2
    unfold digB at hc
    simp only [Bool.and_eq_true, decide_eq_true_eq] at hc
    have hcc : UInt8.ofNat (48 + (c.toNat - 48)) = c := by
      apply UInt8.toNat_inj.1; rw [UInt8.toNat_ofNat']; have := c.toNat_lt; omega
    rw [decV_app]
    by_cases hm : m = []
    · subst hm
      rw [show decV [] = 0 from rfl, Nat.mul_zero, Nat.zero_add, numL_small (by omega), hcc]; rfl
    · have hmz : m.head? ≠ some 48 := by
        intro e
        apply hz
        refine ⟨?_, ?_⟩
        · cases m with
          | nil => exact absurd rfl hm
          | cons a r => exact e
        · rw [List.length_append]; have := List.length_pos_iff.2 hm; simp; omega
      have hi := ih m hml hm hd.1 (fun h => hmz h.1)
      have hpos : decV m ≠ 0 := by
        intro e; rw [e, numL_zero] at hi; rw [← hi] at hmz; exact hmz rfl
      rw [numL_big (by omega), show (10 * decV m + (c.toNat - 48)) / 10 = decV m by omega, show (10 * decV m + (c.toNat - 48)) % 10 = c.toNat - 48 by omega, hi, hcc]
theorem intV_nat {l : List UInt8} (h : 0 ≤ intV l) : ∃ n : Nat, intV l = (n : Int) ∧ n < 10000000000 ∧ l = numL n := by
  have hr := (intV_range l).2
  unfold intV at h hr ⊢
  split at h
  · rename_i hc
    rw [if_pos hc] at hr ⊢
    refine ⟨decV l, rfl, by omega, ?_⟩
    exact (numL_canon l.length l rfl (by intro e; rw [e] at hc; simp at hc) hc.2.2.2 hc.2.2.1).symm
  · omega
theorem parse_digits : ∀ (l : List UInt8) (acc k : Nat), l.all digB = true → acc < 10 ^ k → k + l.length ≤ 18 → Lib.parseUint10 acc l = .ok (l.foldl (fun n c => 10 * n + (c.toNat - 48)) acc) := by
  intro l
  induction l with
  | nil => intro acc k _ _ _; rfl
  | cons c r ih =>
    intro acc k hd ha hk
    simp only [List.all_cons, Bool.and_eq_true] at hd
    have hc := hd.1
    unfold digB at hc
    simp only [Bool.and_eq_true, decide_eq_true_eq] at hc
    simp only [List.length_cons] at hk
    have hp : 10 ^ k ≤ 10 ^ 17 := Nat.pow_le_pow_right (by omega) (by omega)
    have hp17 : (10 : Nat) ^ 17 = 100000000000000000 := by decide
    rw [Lib.parseUint10, if_pos hc, if_neg (by omega), if_neg (by omega)]
    have e : acc * 10 + (c.toNat - 48) = 10 * acc + (c.toNat - 48) := by omega
    rw [e, ih (10 * acc + (c.toNat - 48)) (k + 1) hd.2 (by rw [Nat.pow_succ]; omega) (by omega)]
    rfl
theorem atoi_num {n : Nat} (h : n < 10000000000) : Lib.atoiAll (numL n) = .ok (n : Int) := by
  have hl := numL_length 9 n (by omega)
  have hd := numL_dig n
  have hv := decV_numL n
  cases hq : numL n with
  | nil => exact absurd hq (numL_ne n)
  | cons c r =>
    rw [hq] at hl hd hv
    have hc : digB c = true := by simp only [List.all_cons, Bool.and_eq_true] at hd; exact hd.1
    unfold digB at hc
    simp only [Bool.and_eq_true, decide_eq_true_eq] at hc
    have hp := parse_digits (c :: r) 0 0 hd (by simp) (by omega)
    rw [show (c :: r).foldl (fun n c => 10 * n + (c.toNat - 48)) 0 = n from hv] at hp
    unfold Lib.atoiAll
    simp only
    rw [if_neg (by omega)]
    unfold Lib.parseMag
    rw [if_neg (by simp), hp]
    simp only
    rw [if_neg (by omega), if_neg (by omega), if_neg (by omega)]
/-- What readNumber tells. -/
def rdNum (l : List UInt8) (m : Int) : Int := if numIn l m = true then intV l else 0
theorem num_yes {l : List UInt8} {n m : Int} (h0 : 0 ≤ n) (h1 : n ≤ m) (hm : m < 10000000000) (he : Lib.itoa n = l) : numIn l m = true ∧ rdNum l m = n := by
  have e : intV l = n := by
    unfold Lib.itoa at he
    rw [if_neg (by omega), decDigits_numL] at he
    rw [← he, intV_numL (by omega)]; omega
  have h : numIn l m = true := by unfold numIn; rw [e, decide_eq_true h0, decide_eq_true h1]; rfl
  exact ⟨h, by unfold rdNum; rw [if_pos h, e]⟩
theorem num_atoi {l : List UInt8} {m : Int} (h : numIn l m = true) : Lib.atoiAll l = .ok (intV l) ∧ 0 ≤ intV l ∧ intV l ≤ m ∧ Lib.itoa (intV l) = l := by
  unfold numIn at h
  simp only [Bool.and_eq_true, decide_eq_true_eq] at h
  obtain ⟨n, e, hn, hl⟩ := intV_nat h.1
  refine ⟨?_, h.1, h.2, ?_⟩
  · rw [e, hl]; exact atoi_num hn
  · rw [e]; unfold Lib.itoa; rw [if_neg (by omega), decDigits_numL]; exact hl.symm
theorem num_no {l : List UInt8} {m : Int} (h : numIn l m = false) : rdNum l m = 0 := by unfold rdNum; rw [h]; rfl
end Go.Proofs.YtoobaaklklommaaGreatDoor

namespace Go.Proofs.YtoobaaklklommaaGreatDoor
open Go.RowKit Go.Sort

/-- A package variable of the library's that holds an error. -/
def VarIn (w : World) (n : String) : Prop := ∃ tp p, w.var? Tryz.prog n = some #[.iface tp p]
/-- What the walks of records ask of the world. -/
def EnvR (w : World) : Prop := Env w ∧ Lib.TabIs Tryz.prog w "internal/strconv.uint64pow10" .u64 Lib.pow10Tab ∧ VarIn w "strconv.ErrSyntax" ∧ VarIn w "strconv.ErrRange"
theorem var_kept {w w' : World} {n : String} {cs : Array Value} (hv : w.var? Tryz.prog n = some cs) (h : Below w.heap.size w w') : w'.var? Tryz.prog n = some cs := by
  unfold World.var? at hv ⊢
  cases hg : Tryz.prog.globalNamed n with
  | none => rw [hg] at hv; simp at hv
  | some g =>
    rw [hg] at hv
    simp only [Option.bind_some] at hv ⊢
    have hlt : g < w.heap.size := by
      apply Classical.byContradiction; intro hc
      rw [Array.getElem?_eq_none (by omega)] at hv; simp at hv
    rw [h.block g hlt]; exact hv
theorem VarIn.below {w w' : World} {n : String} (h : VarIn w n) (hb : Below w.heap.size w w') : VarIn w' n := by
  obtain ⟨tp, p, hv⟩ := h; exact ⟨tp, p, var_kept hv hb⟩
theorem EnvR.below {w w' : World} (h : EnvR w) (hb : Below w.heap.size w w') : EnvR w' :=
  ⟨h.1.below hb, var_kept h.2.1 hb, h.2.2.1.below hb, h.2.2.2.below hb⟩
theorem below_bytesW (w : World) (e : TypeId) (s : ByteArray) : Below w.heap.size w (Lib.bytesWorld w e s) :=
  (Below.refl _ _).grown (row := none) ⟨rfl, rfl, rfl, by rw [Lib.bytesWorld_size]; omega, fun k hk _ => Lib.bytesWorld_at_old w e s k hk⟩ (Nat.le_refl _) (fun k h => by cases h)
theorem below_growW {w w' : World} (h : ∃ k os, w' = grow (w.drewN k) os) : Below w.heap.size w w' := by
  obtain ⟨k, os, rfl⟩ := h
  exact ⟨rfl, rfl, rfl, by simp [grow], fun i hi => by show (w.heap ++ os)[i]? = _; rw [Array.getElem?_append_left (by exact hi)]⟩
/-- What Itoa alone asks for. -/
def EnvT (w : World) : Prop := Env w ∧ Lib.TabIs Tryz.prog w "internal/strconv.uint64pow10" .u64 Lib.pow10Tab
theorem EnvR.tab {w : World} (h : EnvR w) : EnvT w := ⟨h.1, h.2.1⟩
theorem EnvT.below {w w' : World} (h : EnvT w) (hb : Below w.heap.size w w') : EnvT w' := ⟨h.1.below hb, var_kept h.2 hb⟩
theorem itoaT_nat (n : Nat) (w : World) (h1 : n ≤ 9223372036854775807) (hE : EnvT w) :
    Calls Tryz.prog 110 #[.int .i64 (n : Int)] w fun e w' => e = .returned (.string ⟨(numL n).toArray⟩) ∧ Below w.heap.size w w' := by
  have h := (Tryz.strconv_Itoa n (by omega) (by omega) w hE.2).mono fun _ _ h => (⟨h.1, below_growW h.2⟩ : _ ∧ Below w.heap.size w _)
  rw [show Lib.itoa (n : Int) = numL n by unfold Lib.itoa; rw [if_neg (by omega), decDigits_numL]; rfl] at h
  exact h
theorem itoa_any (n : Int) (w : World) (h0 : -9223372036854775808 ≤ n) (h1 : n ≤ 9223372036854775807) (hE : EnvR w) :
    Calls Tryz.prog 110 #[.int .i64 n] w fun e w' => e = .returned (.string ⟨(Lib.itoa n).toArray⟩) ∧ Below w.heap.size w w' :=
  (Tryz.strconv_Itoa n h0 h1 w hE.2.1).mono fun _ _ h => ⟨h.1, below_growW h.2⟩
theorem itoa_nat (n : Nat) (w : World) (h1 : n ≤ 9223372036854775807) (hE : EnvR w) :
    Calls Tryz.prog 110 #[.int .i64 (n : Int)] w fun e w' => e = .returned (.string ⟨(numL n).toArray⟩) ∧ Below w.heap.size w w' := by
  have h := itoa_any n w (by omega) (by omega) hE
  rw [show Lib.itoa (n : Int) = numL n by unfold Lib.itoa; rw [if_neg (by omega), decDigits_numL]; rfl] at h
  exact h

/-- What readNumber answers. -/
def rdVal (l : List UInt8) (m : Int) : Value := .tuple #[.int .i64 (rdNum l m), .bool (numIn l m)]
theorem rd_ret_no {l : List UInt8} {m : Int} (h : numIn l m = false) : Ending.returned (.tuple #[.int .i64 0, .bool false]) = .returned (rdVal l m) := by
  unfold rdVal; rw [num_no h, h]
theorem rd_ret_yes {l : List UInt8} {m n : Int} (h : numIn l m = true ∧ rdNum l m = n) : Ending.returned (.tuple #[.int .i64 n, .bool true]) = .returned (rdVal l m) := by
  unfold rdVal; rw [h.1, h.2]
theorem itoa_len {n : Int} (h0 : 0 ≤ n) (h1 : n < 10000000000) : (Lib.itoa n).length ≤ 10 := by
  unfold Lib.itoa; rw [if_neg (by omega), decDigits_numL]; exact numL_length 9 _ (by omega)

set_option maxRecDepth 20000 in
set_option maxHeartbeats 1000000 in
theorem readNumber_any (s : ByteArray) (m : Int) (w : World) (hs : s.size ≤ 4294967280) (hm0 : 0 ≤ m) (hm : m < 10000000000) (hE : EnvR w) :
    Calls Tryz.prog 149 #[.string s, .int .i64 m] w fun e w' => e = .returned (rdVal s.data.toList m) ∧ Below w.heap.size w w' := by
  cases hA : Lib.atoiAll s.data.toList with
  | «syntax» =>
    have HR : Hid (numIn s.data.toList m = false) := by
      cases h : numIn s.data.toList m with
      | false => exact rfl
      | true => have := (num_atoi h).1; rw [hA] at this; cases this
    obtain ⟨tp, p, hv⟩ := hE.2.2.1
    go_enter Tryz.func149, Tryz.ntmps149
    go_wp2_with fail
    refine (Tryz.strconv_Atoi_syntax_var s (by omega) hA tp p w hv).mono ?_
    rintro e w1 ⟨N, rfl, hN, _, hb⟩
    clear hA hv
    go_wp2_with fail
    go_ret2
    exact ⟨rd_ret_no HR.out, hb⟩
  | range =>
    have HR : Hid (numIn s.data.toList m = false) := by
      cases h : numIn s.data.toList m with
      | false => exact rfl
      | true => have := (num_atoi h).1; rw [hA] at this; cases this
    obtain ⟨tp, p, hv⟩ := hE.2.2.2
    go_enter Tryz.func149, Tryz.ntmps149
    go_wp2_with fail
    refine (Tryz.strconv_Atoi_range_var s (by omega) hA tp p w hv).mono ?_
    rintro e w1 ⟨N, rfl, hN, _, hb⟩
    clear hA hv
    go_wp2_with fail
    go_ret2
    exact ⟨rd_ret_no HR.out, hb⟩
  | ok n =>
    have HA : Hid (numIn s.data.toList m = true → intV s.data.toList = n ∧ 0 ≤ n ∧ n ≤ m ∧ Lib.itoa n = s.data.toList) := fun h => by
      obtain ⟨q1, q2, q3, q4⟩ := num_atoi h
      rw [hA] at q1
      have e : n = intV s.data.toList := by injection q1
      rw [e]; exact ⟨rfl, q2, q3, q4⟩
    have hok := Tryz.strconv_Atoi_ok s (by omega) n hA w
    have HOK : Hid (Calls Tryz.prog 181 #[.string s] w fun e w' => e = .returned (.tuple #[.int .i64 n, .nilIface]) ∧ Below w.heap.size w w') := by
      refine hok.mono fun e w' h => ⟨h.1, ?_⟩
      rcases h.2 with h | ⟨t, h⟩
      · rw [h]; exact Below.refl _ _
      · rw [h]; exact below_bytesW _ _ _
    clear hok hA
    by_cases h0 : n < 0
    · have HR : Hid (numIn s.data.toList m = false) := by
        cases h : numIn s.data.toList m with
        | false => exact rfl
        | true => have := (HA.out h).2.1; omega
      go_enter Tryz.func149, Tryz.ntmps149
      go_wp2_with fail
      refine HOK.out.mono ?_
      rintro e w1 ⟨rfl, hb⟩
      go_wp2_with fail
      go_ret2
      exact ⟨rd_ret_no HR.out, hb⟩
    · by_cases h1 : m < n
      · have HR : Hid (numIn s.data.toList m = false) := by
          cases h : numIn s.data.toList m with
          | false => exact rfl
          | true => have := (HA.out h).2.2.1; omega
        have h0' : 0 ≤ n := by omega
        go_enter Tryz.func149, Tryz.ntmps149
        go_wp2_with fail
        refine HOK.out.mono ?_
        rintro e w1 ⟨rfl, hb⟩
        go_wp2_with fail
        go_ret2
        exact ⟨rd_ret_no HR.out, hb⟩
      · have h0' : 0 ≤ n := by omega
        have h1' : n ≤ m := by omega
        have HL := itoa_len h0' (by omega)
        have HIT : Hid (∀ W, EnvR W → Calls Tryz.prog 110 #[.int .i64 n] W fun e w' => e = .returned (.string ⟨(Lib.itoa n).toArray⟩) ∧ Below W.heap.size W w') := fun W hW => itoa_any n W (by omega) (by omega) hW
        have HYES : Hid (Lib.itoa n = s.data.toList → numIn s.data.toList m = true ∧ rdNum s.data.toList m = n) := fun h => num_yes h0' h1' hm h
        obtain ⟨z, hz⟩ : ∃ z, z = Lib.itoa n := ⟨_, rfl⟩
        rw [← hz] at HIT HL HYES HA
        clear hz h0 h1
        by_cases hq : z = s.data.toList
        · have HR := HYES.out hq
          have e1 : (z == s.toList) = true := by rw [ByteArray.toList_eq]; simpa using hq
          have HRR : Hid (numIn s.data.toList m = true ∧ rdNum s.data.toList m = n) := HR
          clear HR hq
          go_enter Tryz.func149, Tryz.ntmps149
          go_wp2_with fail
          refine HOK.out.mono ?_
          rintro e w1 ⟨rfl, hb⟩
          go_wp2_with fail
          refine (HIT.out _ (hE.below hb)).mono ?_
          rintro e w2 ⟨rfl, hb2⟩
          go_wp2_with fail
          go_ret2
          exact ⟨rd_ret_yes HRR.out, hb.trans (hb2.mono hb.size)⟩
        · have HR : Hid (numIn s.data.toList m = false) := by
            cases h : numIn s.data.toList m with
            | false => exact rfl
            | true => exact absurd (HA.out h).2.2.2 hq
          have e1 : (z == s.toList) = false := by rw [ByteArray.toList_eq]; simpa using hq
          clear hq
          go_enter Tryz.func149, Tryz.ntmps149
          go_wp2_with fail
          refine HOK.out.mono ?_
          rintro e w1 ⟨rfl, hb⟩
          go_wp2_with fail
          refine (HIT.out _ (hE.below hb)).mono ?_
          rintro e w2 ⟨rfl, hb2⟩
          go_wp2_with fail
          go_ret2
          exact ⟨rd_ret_no HR.out, hb.trans (hb2.mono hb.size)⟩
end Go.Proofs.YtoobaaklklommaaGreatDoor

namespace Go.Proofs.YtoobaaklklommaaGreatDoor
open Go.RowKit

theorem dataM_two {l a b : List UInt8} (h : cut 32 l = [a, b]) : dataM l = if numIn a 65535 = true ∧ targB b = true then some (beB (intV a) 2 ++ wireL (labelsOf b)) else none := by
  unfold dataM; rw [h]
theorem dataM_not {l : List UInt8} (h : ¬ (cut 32 l).length = 2) : dataM l = none := by
  unfold dataM
  split
  · rename_i a b e; rw [e] at h; exact absurd rfl h
  · rfl
theorem two_of {P : List (List UInt8)} (h : P.length = 2) : ∃ a b, P = [a, b] := by
  match P, h with
  | [a, b], _ => exact ⟨a, b, rfl⟩

set_option maxRecDepth 20000 in
set_option maxHeartbeats 2000000 in
theorem bytesM (s : ByteArray) (w : World) (hs : s.size ≤ 1048576) :
    Calls Tryz.prog 141 #[.int .i64 15, .string s] w fun e w' => BytesRes (dataM s.data.toList) e ∧ Below w.heap.size w w' := by
  have HLEN : Hid (s.data.toList.length = s.size) := (by simp : s.data.toList.length = s.size)
  go_enter Tryz.func141, Tryz.ntmps141
  go_wp2_with fail
  refine (l1Split_any s 32 _ w (by omega) rfl).mono ?_
  rintro e w1 ⟨v, rfl, hown, hb⟩
  by_cases h2 : (cut 32 s.data.toList).length = 2
  · obtain ⟨x, y, hxy⟩ := two_of h2
    have HDM := dataM_two hxy
    have hxl : x.length ≤ 1048576 := by have := cut_piece_le 32 s.data.toList x (by rw [hxy]; simp); rw [HLEN.out] at this; omega
    have hyl : y.length ≤ 1048576 := by have := cut_piece_le 32 s.data.toList y (by rw [hxy]; simp); rw [HLEN.out] at this; omega
    rw [hxy] at hown
    obtain ⟨g, cap, hv, hg, hgl, hcap, hmax, hcell⟩ := own_shape hown (by simp)
    have hc0 : w1.cell? ⟨g, 0, none⟩ = some (.string ⟨x.toArray⟩) := hcell 0 (by simp)
    have hc1 : w1.cell? ⟨g, 1, none⟩ = some (.string ⟨y.toArray⟩) := hcell 1 (by simp)
    rw [hv]
    simp only [List.length_cons, List.length_nil] at hcap ⊢
    unfold maxLen at hmax
    have HDMH : Hid (dataM s.data.toList = if numIn x 65535 = true ∧ targB y = true then some (beB (intV x) 2 ++ wireL (labelsOf y)) else none) := HDM
    have HCB : Hid (∀ W, Below w1.heap.size w1 W → W.cell? ⟨g, 0, none⟩ = some (.string ⟨x.toArray⟩) ∧ W.cell? ⟨g, 1, none⟩ = some (.string ⟨y.toArray⟩)) := fun W hW => by
      rw [hW.cell (p := ⟨g, 0, none⟩) hgl, hW.cell (p := ⟨g, 1, none⟩) hgl]; exact ⟨hc0, hc1⟩
    have hxs : (⟨x.toArray⟩ : ByteArray).size ≤ 4294967280 := by rw [size_list]; omega
    have hys : (⟨y.toArray⟩ : ByteArray).size ≤ 4294967280 := by rw [size_list]; omega
    have hr := intV_range x
    have hr1 := hr.1
    have hr2 := hr.2
    clear hown hv hcell hxy h2 HDM hr
    cases hd : (decide ((0 : Int) ≤ intV x) && decide (intV x ≤ 65535)) with
    | false =>
      have HR : Hid (dataM s.data.toList = none) := by rw [HDMH.out]; exact if_neg (fun h => by have := h.1; unfold numIn at this; rw [hd] at this; cases this)
      have HD : Hid ((decide ((0 : Int) ≤ intV x) && decide (intV x ≤ 65535)) = false) := hd
      clear hd
      go_wp2_with fail
      refine (l1Int_any _ _ hxs).mono ?_
      rintro e w2 ⟨rfl, rfl⟩
      rw [show (⟨x.toArray⟩ : ByteArray).data.toList = x from rfl]
      go_wp2_with fail
      refine (l1In_any _ _ _ _).mono ?_
      rintro e w3 ⟨rfl, rfl⟩
      rw [HD.out]
      go_wp2_with fail
      go_ret2
      exact ⟨br_none HR.out, hb⟩
    | true =>
      have HD : Hid ((decide ((0 : Int) ≤ intV x) && decide (intV x ≤ 65535)) = true) := hd
      clear hd
      cases ht : targB y with
      | false =>
        have HR : Hid (dataM s.data.toList = none) := by rw [HDMH.out]; exact if_neg (fun h => by have := h.2; rw [ht] at this; cases this)
        have HT : Hid (targB y = false) := ht
        clear ht
        go_wp2_with fail
        refine (l1Int_any _ _ hxs).mono ?_
        rintro e w2 ⟨rfl, rfl⟩
        rw [show (⟨x.toArray⟩ : ByteArray).data.toList = x from rfl]
        go_wp2_with fail
        refine (l1In_any _ _ _ _).mono ?_
        rintro e w3 ⟨rfl, rfl⟩
        rw [HD.out]
        go_wp2_with fail
        refine (l3Target_any _ _ hys).mono ?_
        rintro e w4 ⟨rfl, hb4⟩
        rw [show (⟨y.toArray⟩ : ByteArray).data.toList = y from rfl, HT.out]
        go_wp2_with fail
        go_ret2
        exact ⟨br_none HR.out, hb.trans (hb4.mono hb.size)⟩
      | true =>
        have HR : Hid (dataM s.data.toList = some (beB (intV x) 2 ++ wireL (labelsOf y))) := by
          rw [HDMH.out]; exact if_pos ⟨by unfold numIn; exact HD.out, ht⟩
        have HT : Hid (targB y = true) := ht
        have HNM : Hid (nameB y = true) := by unfold targB at ht; simp only [Bool.and_eq_true] at ht; exact ht.1
        have hwl : (wireL (labelsOf y)).length ≤ 1000 := by
          obtain ⟨q1, q2⟩ := name_labels HNM.out
          have : ∀ P : List (List UInt8), (∀ p ∈ P, p.length ≤ 20) → (wireL P).length ≤ 21 * P.length + 1 := by
            intro P
            induction P with
            | nil => intro _; simp [wireL]
            | cons c r ih => intro hh; have a1 := hh c (by simp); have a2 := ih (fun q hq => hh q (by simp [hq])); unfold wireL; simp; omega
          have := this (labelsOf y) (fun p hp => (q1 p hp).1)
          omega
        have hbl : (beB (intV x) 2).length ≤ 2 := by rw [beB_length]; omega
        clear ht
        go_wp2_with fail
        refine (l1Int_any _ _ hxs).mono ?_
        rintro e w2 ⟨rfl, rfl⟩
        rw [show (⟨x.toArray⟩ : ByteArray).data.toList = x from rfl]
        go_wp2_with fail
        refine (l1In_any _ _ _ _).mono ?_
        rintro e w3 ⟨rfl, rfl⟩
        rw [HD.out]
        go_wp2_with fail
        refine (l3Target_any _ _ hys).mono ?_
        rintro e w4 ⟨rfl, hb4⟩
        rw [show (⟨y.toArray⟩ : ByteArray).data.toList = y from rfl, HT.out]
        have hcw := HCB.out w4 hb4
        have hcw0 := hcw.1
        have hcw1 := hcw.2
        clear hcw hc0 hc1
        obtain ⟨n, hn⟩ : ∃ n, n = intV x := ⟨_, rfl⟩
        rw [← hn] at hr1 hr2 hbl HR
        obtain ⟨p, hp⟩ : ∃ p, p = beB n 2 := ⟨_, rfl⟩
        obtain ⟨q, hq⟩ : ∃ q, q = wireL (labelsOf y) := ⟨_, rfl⟩
        rw [← hp, ← hq] at HR
        rw [← hp] at hbl
        rw [← hq] at hwl
        have HI : Hid (∀ W, Calls Tryz.prog 74 #[.string ⟨x.toArray⟩] W fun e w' => e = .returned (.int .i64 n) ∧ w' = W) := fun W => by
          have h := l1Int_any ⟨x.toArray⟩ W hxs
          rw [show (⟨x.toArray⟩ : ByteArray).data.toList = x from rfl, ← hn] at h; exact h
        have HNU : Hid (∀ W, Calls Tryz.prog 172 #[.int .i64 n, .int .i64 2] W fun e w' => e = .returned (.string ⟨p.toArray⟩) ∧ Below W.heap.size W w') := fun W => by
          have h := l3Number_any n 2 W (by omega) (by omega) (by omega)
          rw [← hp] at h; exact h
        have HBY : Hid (∀ W, Calls Tryz.prog 174 #[.string ⟨y.toArray⟩] W fun e w' => e = .returned (.string ⟨q.toArray⟩) ∧ Below W.heap.size W w') := fun W => by
          have h := l2Bytes_any ⟨y.toArray⟩ W hys HNM
          rw [show (⟨y.toArray⟩ : ByteArray).data.toList = y from rfl, ← hq] at h; exact h
        have HTR : Hid (∀ W W', Below w3.heap.size w3 W → Below W.heap.size W W' → Below w3.heap.size w3 W' ∧ W'.cell? ⟨g, 0, none⟩ = some (.string ⟨x.toArray⟩) ∧ W'.cell? ⟨g, 1, none⟩ = some (.string ⟨y.toArray⟩)) := fun W W' h1 h2 => ⟨h1.trans (h2.mono h1.size), HCB.out W' (h1.trans (h2.mono h1.size))⟩
        have hbd := hb4.drew
        clear hn hp hq HCB HDMH hxs hys
        go_wp2_with fail
        go_region_with (first
          | (go_at_call 74; refine (HI.out _).mono ?_; rintro e w5 ⟨rfl, rfl⟩)
          | (go_at_call 172; refine (HNU.out _).mono ?_; rintro e w5 ⟨rfl, hb5⟩; have hbw := HTR.out _ _ (by assumption) hb5; have hbw1 := hbw.1; have hcx0 := hbw.2.1; have hcx1 := hbw.2.2)
          | (go_at_call 174; refine (HBY.out _).mono ?_; rintro e w6 ⟨rfl, hb6⟩; have hbv := HTR.out _ _ (by assumption) hb6; have hbv1 := hbv.1; have hcy0 := hbv.2.1; have hcy1 := hbv.2.2))
        all_goals
          go_wp2_with fail
          go_ret2
          refine ⟨br_some HR.out (by simp), ?_⟩
          first
          | exact hb.trans (hbw1.mono hb.size)
          | exact hb.trans (hbv1.mono hb.size)
  · have HR : Hid (dataM s.data.toList = none) := dataM_not h2
    obtain ⟨a, cap, hv, hcap, hmax, HROW⟩ := row_value (row_own hown)
    rw [hv]
    have e2 : (((cut 32 s.data.toList).length : Int) != 2) = true := by simp; omega
    clear hown hv
    go_wp2_with fail
    go_ret2
    exact ⟨br_none HR.out, hb⟩

theorem l3Bytes_any (k : Int) (s : ByteArray) (w : World) (hs : s.size ≤ 1048576) :
    Calls Tryz.prog 141 #[.int .i64 k, .string s] w fun e w' => BytesRes (dataP k s.data.toList) e ∧ Below w.heap.size w w' := by
  unfold dataP
  by_cases h1 : k = 1
  · subst h1; exact bytesA s w hs
  · rw [if_neg h1]
    by_cases h2 : k = 2 ∨ k = 5
    · rw [if_pos h2]; exact bytesN k s w hs h2
    · rw [if_neg h2]
      by_cases h6 : k = 6
      · subst h6; exact bytesS s w hs
      · rw [if_neg h6]
        by_cases h15 : k = 15
        · subst h15; exact bytesM s w hs
        · rw [if_neg h15]
          by_cases h16 : k = 16
          · subst h16; exact bytesT s w hs
          · rw [if_neg h16]
            exact bytesO k s w (by simpa using h1) (by simpa using fun h => h2 (.inl h)) (by simpa using fun h => h2 (.inr h)) (by simpa using h6) (by simpa using h15) (by simpa using h16)
end Go.Proofs.YtoobaaklklommaaGreatDoor

namespace Go.Proofs.YtoobaaklklommaaGreatDoor
open Go.RowKit

/-- A record's value. -/
def RecV (nm : ByteArray) (ty ttl : Int) (d : ByteArray) : Value := .agg #[.string nm, .int .i64 ty, .int .i64 ttl, .string d]
/-- A good record. -/
def recB (nm : List UInt8) (ty ttl : Int) (d : List UInt8) : Bool := (dataP ty d).isSome && (nameB nm && (decide (0 ≤ ttl) && decide (ttl ≤ 100000)))

theorem box4 {w W : World} {a b c d : Value} {t : TypeId} (hb : Below (w.alloc (.cells #[a, b, c, d] t)).heap.size (w.alloc (.cells #[a, b, c, d] t)) W) :
    W.cell? ⟨w.heap.size, 0, none⟩ = some a ∧ W.cell? ⟨w.heap.size, 1, none⟩ = some b ∧ W.cell? ⟨w.heap.size, 2, none⟩ = some c ∧ W.cell? ⟨w.heap.size, 3, none⟩ = some d ∧ Below w.heap.size w W := by
  have hz : w.heap.size < (w.alloc (.cells #[a, b, c, d] t)).heap.size := by simp
  refine ⟨?_, ?_, ?_, ?_, ((Below.refl w.heap.size w).alloc (Nat.le_refl _) _).trans (hb.mono (Nat.le_of_lt hz))⟩
  · rw [hb.cell (p := ⟨w.heap.size, 0, none⟩) hz]; simp
  · rw [hb.cell (p := ⟨w.heap.size, 1, none⟩) hz]; simp
  · rw [hb.cell (p := ⟨w.heap.size, 2, none⟩) hz]; simp
  · rw [hb.cell (p := ⟨w.heap.size, 3, none⟩) hz]; simp

set_option maxRecDepth 20000 in
set_option maxHeartbeats 1000000 in
theorem sGoodRecord_any (nm d : ByteArray) (ty ttl : Int) (w : World) (hn : nm.size ≤ 1048576) (hd : d.size ≤ 1048576) :
    Calls Tryz.prog 106 #[RecV nm ty ttl d] w fun e w' => e = .returned (.bool (recB nm.data.toList ty ttl d.data.toList)) ∧ Below w.heap.size w w' := by
  unfold RecV
  go_enter Tryz.func106, Tryz.ntmps106
  go_wp2_with fail
  refine (l3Bytes_any ty d _ hd).mono ?_
  rintro e w1 ⟨⟨x, rfl, _⟩, hb1⟩
  obtain ⟨c0, _, c2, _, hbw⟩ := box4 hb1
  have HB0 : Hid (∀ W, Below w1.heap.size w1 W → W.cell? ⟨w.heap.size, 2, none⟩ = some (.int .i64 ttl) ∧ Below w.heap.size w W) := fun W hW => by
    have hz : w.heap.size < w1.heap.size := Nat.lt_of_lt_of_le (by simp) hb1.size
    rw [hW.cell (p := ⟨w.heap.size, 2, none⟩) hz]
    exact ⟨c2, hbw.trans (hW.mono hbw.size)⟩
  clear hb1
  cases hD : (dataP ty d.data.toList).isSome with
  | false =>
    have HR : Hid (recB nm.data.toList ty ttl d.data.toList = false) := by unfold recB; rw [hD]; exact rfl
    clear hD
    go_wp2_with fail
    go_ret
    exact ⟨ret_bool HR.out.symm, hbw⟩
  | true =>
    have HD : Hid ((dataP ty d.data.toList).isSome = true) := hD
    clear hD
    cases hN : nameB nm.data.toList with
    | false =>
      have HR : Hid (recB nm.data.toList ty ttl d.data.toList = false) := by unfold recB; rw [hN, Bool.false_and, Bool.and_false]; exact rfl
      have HN : Hid (nameB nm.data.toList = false) := hN
      clear hN
      go_wp2_with fail
      refine (sGoodName_any nm _ (by omega)).mono ?_
      rintro e w2 ⟨rfl, hb2⟩
      rw [HN.out]
      go_wp2_with fail
      go_ret
      exact ⟨ret_bool HR.out.symm, (HB0.out w2 hb2).2⟩
    | true =>
      have HR : Hid (recB nm.data.toList ty ttl d.data.toList = (decide ((0 : Int) ≤ ttl) && decide (ttl ≤ 100000))) := by unfold recB; rw [hN, HD.out, Bool.true_and, Bool.true_and]; exact rfl
      have HN : Hid (nameB nm.data.toList = true) := hN
      clear hN
      go_wp2_with fail
      refine (sGoodName_any nm _ (by omega)).mono ?_
      rintro e w2 ⟨rfl, hb2⟩
      rw [HN.out]
      have hc2 := (HB0.out w2 hb2).1
      have hbw2 := (HB0.out w2 hb2).2
      clear c0 c2
      go_wp2_with fail
      refine (l1In_any _ _ _ _).mono ?_
      rintro e w3 ⟨rfl, rfl⟩
      rw [← HR.out]
      go_wp2_with fail
      go_ret
      exact ⟨rfl, hbw2⟩

/-- A record's text. -/
def recT (nm : List UInt8) (ty ttl : Nat) (d : List UInt8) : List UInt8 := (if nm = [] then [46] else nm) ++ (32 :: (numL ttl ++ (32 :: (numL ty ++ (32 :: d)))))
end Go.Proofs.YtoobaaklklommaaGreatDoor

namespace Go.Proofs.YtoobaaklklommaaGreatDoor
open Go.RowKit

theorem mem_cut {b c : UInt8} (h : c ≠ b) : ∀ l : List UInt8, c ∈ l ↔ ∃ p ∈ cut b l, c ∈ p
  | [] => by simp [cut]
  | d :: l => by
    have ih := mem_cut h l
    by_cases hd : d = b
    · subst hd
      simp only [cut, if_true, List.mem_cons]
      constructor
      · rintro (e | e)
        · exact absurd e h
        · obtain ⟨p, h1, h2⟩ := ih.1 e; exact ⟨p, .inr h1, h2⟩
      · rintro ⟨p, rfl | h1, h2⟩
        · cases h2
        · exact .inr (ih.2 ⟨p, h1, h2⟩)
    · cases e : cut b l with
      | nil => exact absurd e (cut_ne b l)
      | cons q r =>
        rw [e] at ih
        simp only [cut, hd, if_false, e, List.mem_cons]
        constructor
        · rintro (e1 | e1)
          · exact ⟨d :: q, .inl rfl, by rw [e1]; exact List.mem_cons_self⟩
          · obtain ⟨p, h1, h2⟩ := ih.1 e1
            rcases List.mem_cons.1 h1 with rfl | h1
            · exact ⟨d :: p, .inl rfl, List.mem_cons_of_mem _ h2⟩
            · exact ⟨p, .inr h1, h2⟩
        · rintro ⟨p, rfl | h1, h2⟩
          · rcases List.mem_cons.1 h2 with h2 | h2
            · exact .inl h2
            · exact .inr (ih.2 ⟨q, List.mem_cons_self, h2⟩)
          · exact .inr (ih.2 ⟨p, List.mem_cons_of_mem _ h1, h2⟩)
theorem index_mem (c : UInt8) : ∀ l : List UInt8, 0 ≤ Lib.indexByte l c ↔ c ∈ l
  | [] => by simp [Lib.indexByte]
  | b :: l => by
    have ih := index_mem c l
    have hg := Lib.indexByte_ge l c
    unfold Lib.indexByte
    by_cases h : b = c
    · subst h; simp
    · have hb : (b == c) = false := by simpa using h
      rw [hb]
      simp only [Bool.false_eq_true, if_false, List.mem_cons]
      by_cases hm : Lib.indexByte l c = -1
      · have hb2 : (Lib.indexByte l c == -1) = true := by rw [hm]; rfl
        rw [hb2, if_pos rfl]
        constructor
        · intro hh; omega
        · rintro (e | e)
          · exact absurd e.symm h
          · have := ih.2 e; omega
      · have hb2 : (Lib.indexByte l c == -1) = false := by simpa using hm
        rw [hb2]
        simp only [Bool.false_eq_true, if_false]
        constructor
        · intro hh; exact .inr (ih.1 (by omega))
        · rintro (e | e)
          · exact absurd e.symm h
          · have := ih.2 e; omega
theorem star_label {l : List UInt8} (hn : nameB l = true) (h0 : l ≠ []) : (labelsOf l).all (fun x => !(x == [42])) = !decide (0 ≤ Lib.indexByte l 42) := by
  have hl : labelsOf l = cut 46 l := by unfold labelsOf; rw [if_neg h0]
  unfold nameB at hn
  simp only [Bool.and_eq_true, List.all_eq_true] at hn
  rw [hl] at hn ⊢
  by_cases hm : (42 : UInt8) ∈ l
  · rw [decide_eq_true ((index_mem 42 l).2 hm)]
    obtain ⟨p, hp, h42⟩ := (mem_cut (b := 46) (c := 42) (by decide) l).1 hm
    rw [Bool.not_true, Bool.eq_false_iff]
    intro ha
    have h1 := List.all_eq_true.1 ha p hp
    have h2 := hn.1 p hp
    unfold labelB at h2
    rw [Bool.or_eq_true] at h2
    rcases h2 with h2 | h2
    · rw [h2] at h1; cases h1
    · simp only [Bool.and_eq_true, List.all_eq_true] at h2
      have := h2.2.2 42 h42
      revert this; decide
  · rw [decide_eq_false (fun h => hm ((index_mem 42 l).1 h)), Bool.not_false, List.all_eq_true]
    intro p hp
    cases hq : (p == [42]) with
    | false => rfl
    | true =>
      have : p = [42] := by simpa using hq
      subst this
      exact absurd ((mem_cut (b := 46) (c := 42) (by decide) l).2 ⟨[42], hp, by simp⟩) hm
theorem targ_host {l : List UInt8} : targB l = (!(l == []) && (nameB l && !decide (0 ≤ Lib.indexByte l 42))) := by
  unfold targB
  by_cases h0 : l = []
  · subst h0; simp
  · have e : (l == []) = false := by simpa using h0
    rw [e, Bool.not_false, Bool.and_true, Bool.true_and]
    cases hn : nameB l with
    | false => rfl
    | true => rw [star_label hn h0]
end Go.Proofs.YtoobaaklklommaaGreatDoor

namespace Go.Proofs.YtoobaaklklommaaGreatDoor
open Go.RowKit

set_option maxRecDepth 20000 in
set_option maxHeartbeats 400000 in
theorem hostBytes_any (s : ByteArray) (w : World) (hE : Env w) :
    Calls Tryz.prog 301 #[.string s] w fun e w' => e = .returned (.string ⟨(wireT s.data.toList).toArray⟩) ∧ Below w.heap.size w w' := by
  go_enter Tryz.func301, Tryz.ntmps301
  go_wp2_with fail
  refine (iNameBytes_any s w hE).mono ?_
  rintro e w1 ⟨rfl, hb⟩
  go_wp2_with fail
  go_ret
  exact ⟨rfl, hb⟩

set_option maxRecDepth 20000 in
set_option maxHeartbeats 1000000 in
theorem numberBytes_any (n : Int) (N : Nat) (w : World) (h1 : 0 ≤ n) (h2 : n ≤ 9223372036854775807) (hN : N ≤ 8) :
    Calls Tryz.prog 311 #[.int .i64 n, .int .i64 (N : Int)] w fun e w' => e = .returned (.string ⟨(beB n N).toArray⟩) ∧ Below w.heap.size w w' := by
  obtain ⟨i0, hi, hz0, hz1, hz2⟩ := info_parts info_byte
  go_enter Tryz.func311, Tryz.ntmps311
  go_wp2_with (at_make; refine wpList_make_full _ rfl _ _ 165 rfl w.heap.size 5 i0 (.int .u8 0) 1 Tryz.underlying165 hi hz0 hz1 _ _ _ _ N rfl rfl rfl rfl ?b2 ?b3 ?b4 ?_)
  case b2 => rw [hz2]; omega
  case b3 => unfold maxLen; omega
  case b4 => exact Nat.le_refl _
  intro w1 hown hgrow
  have hb1 : Below w.heap.size w w1 := (Below.refl _ _).grown hgrow (Nat.le_refl _) (fun k h => by cases h)
  have HB0 : Hid (BRow w1 w.heap.size (List.replicate N 0 ++ [])) := by rw [List.append_nil]; exact made_brow hown
  clear hown hgrow
  go_wp2_with fail
  go_loopw [0, 11] (fun vn i wr => ∃ (k j : Nat) (m : Int) (tl : List UInt8), k + j = N ∧ vn = .int .i64 m ∧ i = .int .i64 (k : Int) ∧ 0 ≤ m ∧ m ≤ 9223372036854775807 ∧ Hid (beB n N = beB m j ++ tl ∧ tl.length + j = N) ∧ Hid (BRow wr w.heap.size (List.replicate j 0 ++ tl)) ∧ Below w.heap.size w wr) (fun _ i _ => N - (intOf i).toNat)
  case atStart => exact ⟨0, N, n, [], by omega, rfl, rfl, h1, h2, ⟨by simp, by simp⟩, HB0, hb1⟩
  case round =>
    obtain ⟨k, j, m, tl, hkj, rfl, rfl, hm1, hm2, HS, HR, hb⟩ := hrel
    clear HB0 hb1
    cases j with
    | zero =>
      have hrow : BRow wr w.heap.size tl := by simpa using HR.out
      have hconv := string_of (cap := N) hrow N (by have := HS.out.2; omega)
      have he : beB n N = tl := by have := HS.out.1; simpa [beB] using this
      have HE : Hid (beB n N = tl) := he
      have hkN : (N : Int) ≤ (k : Int) := by omega
      clear he
      clear hrow
      go_wp2_with fail
      go_ret
      exact ⟨by rw [HE.out]; rfl, hb⟩
    | succ j =>
      have hkN : (k : Int) < (N : Int) := by omega
      have hidx2 : (N : Int) - 1 - (k : Int) = (j : Int) := by omega
      have hlen : j < (List.replicate (j + 1) (0 : UInt8) ++ tl).length := by rw [List.length_append, List.length_replicate]; omega
      have hcx := (HR.out.2 j hlen).1
      have hfx := (HR.out.2 j hlen).2
      obtain ⟨c, hc⟩ : ∃ c : UInt8, c = UInt8.ofNat (m % 256).toNat := ⟨_, rfl⟩
      have hcn : (c.toNat : Int) = m % 256 := by rw [hc, UInt8.toNat_ofNat']; omega
      have hset := HR.out.set j hlen c
      rw [hcn] at hset
      have hl2 : (List.replicate (j + 1) (0 : UInt8) ++ tl).set j c = List.replicate j 0 ++ (c :: tl) := by
        rw [List.replicate_succ', List.append_assoc, List.set_append_right _ _ (by simp)]
        simp
      rw [hl2] at hset
      have HSET : Hid (BRow (wr.setCell ⟨w.heap.size, j, none⟩ (.int .u8 (m % 256))) w.heap.size (List.replicate j 0 ++ (c :: tl))) := hset
      have HN : Hid (beB n N = beB (m / 256) j ++ (c :: tl) ∧ (c :: tl).length + j = N) := by
        refine ⟨?_, ?_⟩
        · rw [HS.out.1, beB, ← hc]; simp
        · have := HS.out.2; simp; omega
      obtain ⟨u, hu⟩ : ∃ u, u = (List.replicate (j + 1) (0 : UInt8) ++ tl)[j]'hlen := ⟨_, rfl⟩
      rw [← hu] at hcx
      have hjN : (j : Int) < (N : Int) := by omega
      clear hset hl2 hc hcn hu hlen
      go_wp2_with fail
      go_roundw
      case rel => exact ⟨k + 1, j, m / 256, c :: tl, by omega, rfl, by go_num, by omega, by omega, HN, HSET, hb.setCell (p := ⟨w.heap.size, j, none⟩) (Nat.le_refl _) _⟩
      case measure => simp [intOf]; omega

set_option maxRecDepth 20000 in
set_option maxHeartbeats 400000 in
theorem isHost_any (s : ByteArray) (w : World) (hE : Env w) :
    Calls Tryz.prog 155 #[.string s] w fun e w' => e = .returned (.bool (targB s.data.toList)) ∧ Below w.heap.size w w' := by
  have HT : Hid (targB s.data.toList = (!(s.data.toList == []) && (nameB s.data.toList && !decide (0 ≤ Lib.indexByte s.data.toList 42)))) := targ_host
  by_cases h0 : s.data.toList = []
  · obtain rfl : s = ⟨#[]⟩ := data_eq h0
    go_enter Tryz.func155, Tryz.ntmps155
    go_wp2_with fail
    go_ret
    exact ⟨ret_bool (by rw [HT.out]; rfl), Below.refl _ _⟩
  · have e0 : (s.toList == []) = false := by rw [ByteArray.toList_eq]; simpa using h0
    have e1 : (s.data.toList == []) = false := by simpa using h0
    rw [e1, Bool.not_false, Bool.true_and] at HT
    clear h0 e1
    cases hN : nameB s.data.toList with
    | false =>
      rw [hN] at HT
      have HN : Hid (nameB s.data.toList = false) := hN
      clear hN
      go_enter Tryz.func155, Tryz.ntmps155
      go_wp2_with fail
      refine (iGoodName_any s w hE).mono ?_
      rintro e w1 ⟨rfl, hb⟩
      rw [HN.out]
      go_wp2_with fail
      go_ret
      exact ⟨ret_bool (by rw [HT.out]; rfl), hb⟩
    | true =>
      rw [hN] at HT
      have HN : Hid (nameB s.data.toList = true) := hN
      clear hN
      go_enter Tryz.func155, Tryz.ntmps155
      go_wp2_with fail
      refine (iGoodName_any s w hE).mono ?_
      rintro e w1 ⟨rfl, hb⟩
      rw [HN.out]
      go_wp2_with fail
      refine (Tryz.strings_Contains_one s 42 w1).mono ?_
      rintro e w2 ⟨rfl, rfl⟩
      obtain ⟨b, hbb⟩ : ∃ b, b = decide (0 ≤ Lib.indexByte s.data.toList 42) := ⟨_, rfl⟩
      rw [← hbb] at HT ⊢
      clear hbb
      go_wp2_with fail
      go_ret
      exact ⟨ret_bool (by rw [HT.out]; rfl), hb⟩

def noteB (l : List UInt8) : Bool := decide (l.length ≤ 30) && l.all txtB
set_option maxRecDepth 20000 in
set_option maxHeartbeats 1000000 in
theorem isNote_any (s : ByteArray) (w : World) :
    Calls Tryz.prog 234 #[.string s] w fun e w' => e = .returned (.bool (noteB s.data.toList)) ∧ w' = w := by
  have HLEN : Hid (s.data.toList.length = s.size) := (by simp : s.data.toList.length = s.size)
  by_cases h30 : (30 : Int) < (s.size : Int)
  · have HR : Hid (noteB s.data.toList = false) := by unfold noteB; rw [HLEN.out, decide_eq_false (by omega)]; exact rfl
    go_enter Tryz.func234, Tryz.ntmps234
    go_wp2_with fail
    go_ret
    exact ⟨ret_bool HR.out.symm, rfl⟩
  · have HR : Hid (noteB s.data.toList = s.data.toList.all txtB) := by unfold noteB; rw [HLEN.out, decide_eq_true (by omega)]; exact Bool.true_and _
    go_enter Tryz.func234, Tryz.ntmps234
    go_wp2_with fail
    go_loop [9] (fun i => ∃ k : Nat, k ≤ s.size ∧ i = .int .i64 (k : Int) ∧ Hid ((s.data.toList.take k).all txtB = true)) (fun i => s.size - (intOf i).toNat)
    case atStart => exact ⟨0, Nat.zero_le _, rfl, rfl⟩
    case round =>
      obtain ⟨k, hk, rfl, HA⟩ := hrel
      by_cases hlt : k < s.size
      · have hkl : k < s.data.toList.length := by rw [HLEN.out]; exact hlt
        have hc255 : s[k].toNat < 256 := s[k].toNat_lt
        have HNO : Hid (txtB s[k] = false → noteB s.data.toList = false) := fun h => by rw [HR.out]; exact txt_not hkl h
        have HYES : Hid (txtB s[k] = true → (s.data.toList.take (k + 1)).all txtB = true) := fun h => txt_step HA.out hkl h
        rcases (show (s[k].toNat : Int) < 32 ∨ (126 : Int) < (s[k].toNat : Int) ∨ ((32 : Int) ≤ (s[k].toNat : Int) ∧ (s[k].toNat : Int) ≤ 126) by omega) with g | g | ⟨g1, g2⟩
        · have HF : Hid (noteB s.data.toList = false) := HNO.out (by unfold txtB; rw [decide_eq_false (by omega)]; rfl)
          go_wp2_with fail
          go_ret
          exact ⟨ret_bool HF.out.symm, rfl⟩
        · have HF : Hid (noteB s.data.toList = false) := HNO.out (by unfold txtB; rw [decide_eq_false (p := s[k].toNat ≤ 126) (by omega), Bool.and_false])
          go_wp2_with fail
          go_ret
          exact ⟨ret_bool HF.out.symm, rfl⟩
        · have HAN : Hid ((s.data.toList.take (k + 1)).all txtB = true) := HYES.out (by unfold txtB; rw [decide_eq_true (by omega), decide_eq_true (by omega)]; rfl)
          go_wp2_with fail
          go_round
          case rel => exact ⟨k + 1, by omega, by go_num, HAN⟩
          case measure => simp [intOf]; omega
      · have HF : Hid (noteB s.data.toList = true) := by rw [HR.out]; exact txt_full HA.out (by rw [HLEN.out]; exact hlt)
        go_wp2_with fail
        go_ret
        exact ⟨ret_bool HF.out.symm, rfl⟩
end Go.Proofs.YtoobaaklklommaaGreatDoor

namespace Go.Proofs.YtoobaaklklommaaGreatDoor
open Go.RowKit

theorem quiet_ok {P : Program} {o : Oper} {a : Act} {C : World → Prop} {w : World} {v : Value} (h : (execOp a.eval o).run P w = .ok (.value v) w) : o.quietAt P a C w v := by
  unfold Oper.quietAt; rw [h]; exact ⟨rfl, rfl⟩
theorem quiet_call {P : Program} {o : Oper} {a : Act} {C : World → Prop} {w : World} {v : Value} {f : FuncId} {args : Array Value} (h : (execOp a.eval o).run P w = .ok (.enter f args) w) (hc : Calls P f args w (fun e w'' => e = .returned v ∧ C w'')) : o.quietAt P a C w v := by
  unfold Oper.quietAt; rw [h]; exact ⟨rfl, hc⟩

set_option maxRecDepth 20000 in
set_option maxHeartbeats 4000000 in
theorem l3Text_any (nm d : ByteArray) (ty ttl : Nat) (w : World) (hn : nm.size ≤ 1048576) (hd : d.size ≤ 1048576) (hty : ty < 10000000000) (httl : ttl < 10000000000) :
    Calls Tryz.prog 108 #[RecV nm (ty : Int) (ttl : Int) d] w fun e w' => e = .returned (.string ⟨(recT nm.data.toList ty ttl d.data.toList).toArray⟩) ∧ Below w.heap.size w w' := by
  unfold RecV
  have hl1 := numL_length 10 ty (by omega)
  have hl2 := numL_length 10 ttl (by omega)
  have HN : Hid (∀ (n : Nat) (W : World), n < 10000000000 → Calls Tryz.prog 107 #[.int .i64 (n : Int)] W fun e w' => e = .returned (.string ⟨(numL n).toArray⟩) ∧ Below W.heap.size W w') := fun n W hn => l1Num_any n n W (Nat.le_refl _) (by omega)
  have HRT : Hid (recT nm.data.toList ty ttl d.data.toList = (if nm.data.toList = [] then [46] else nm.data.toList) ++ (32 :: (numL ttl ++ (32 :: (numL ty ++ (32 :: d.data.toList)))))) := rfl
  obtain ⟨W0, hW0⟩ : ∃ W0, W0 = w.alloc (.cells #[.string nm, .int .i64 (ty : Int), .int .i64 (ttl : Int), .string d] 108) := ⟨_, rfl⟩
  have HTR : Hid (∀ W W', Below W0.heap.size W0 W → Below W.heap.size W W' → Below W0.heap.size W0 W' ∧ W'.cell? ⟨w.heap.size, 1, none⟩ = some (.int .i64 (ty : Int)) ∧ W'.cell? ⟨w.heap.size, 2, none⟩ = some (.int .i64 (ttl : Int)) ∧ W'.cell? ⟨w.heap.size, 3, none⟩ = some (.string d)) := fun W W' h1 h2 => by
    have h3 := h1.trans (h2.mono h1.size)
    have h4 := h3
    rw [hW0] at h4
    exact ⟨h3, (box4 h4).2.1, (box4 h4).2.2.1, (box4 h4).2.2.2.1⟩
  have HBW : Hid (∀ W, Below W0.heap.size W0 W → Below w.heap.size w W) := fun W h => by rw [hW0] at h; exact (box4 h).2.2.2.2
  have hbd : Below W0.heap.size W0 W0.drew := (Below.refl _ _).drew
  rw [hW0] at HTR HBW hbd
  clear hW0
  by_cases h0 : nm.data.toList = []
  · rw [if_pos h0] at HRT
    obtain rfl : nm = ⟨#[]⟩ := data_eq h0
    clear h0
    go_enter Tryz.func108, Tryz.ntmps108
    go_wp2_with fail
    refine wp_region_quiet (C := fun W => Below (w.alloc (.cells #[.string ⟨#[]⟩, .int .i64 (ty : Int), .int .i64 (ttl : Int), .string d] 108)).heap.size (w.alloc (.cells #[.string ⟨#[]⟩, .int .i64 (ty : Int), .int .i64 (ttl : Int), .string d] 108)) W) (by kernel_rfl) (by kernel_rfl) hbd ?_
    refine wpQuiet_step (fun K hK => ?_)
    rw [if_pos (by rfl)]
    refine ⟨.string ⟨#[46]⟩, fun W hW => quiet_ok ?_, hK _ ?_⟩
    · have q := (HTR.out W W hW (Below.refl _ _)).2
      have q1 := q.1
      have q2 := q.2.1
      have q3 := q.2.2
      go_simp
      all_goals (try omega)
    clear hK K
    simp only [Act.put, List.setIfInBounds_toArray, List.set_cons_succ, List.set_cons_zero]
    refine wpQuiet_step (fun K hK => ?_)
    rw [if_pos (by rfl)]
    refine ⟨.string (⟨#[46]⟩ ++ ⟨#[32]⟩), fun W hW => quiet_ok ?_, hK _ ?_⟩
    · have q := (HTR.out W W hW (Below.refl _ _)).2
      have q1 := q.1
      have q2 := q.2.1
      have q3 := q.2.2
      go_simp
      all_goals (try omega)
    clear hK K
    simp only [Act.put, List.setIfInBounds_toArray, List.set_cons_succ, List.set_cons_zero]
    refine wpQuiet_step (fun K hK => ?_)
    rw [if_pos (by rfl)]
    refine ⟨.pointer (some ⟨w.heap.size, 2, none⟩), fun W hW => quiet_ok ?_, hK _ ?_⟩
    · have q := (HTR.out W W hW (Below.refl _ _)).2
      have q1 := q.1
      have q2 := q.2.1
      have q3 := q.2.2
      go_simp
      all_goals (try omega)
    clear hK K
    simp only [Act.put, List.setIfInBounds_toArray, List.set_cons_succ, List.set_cons_zero]
    refine wpQuiet_step (fun K hK => ?_)
    rw [if_pos (by rfl)]
    refine ⟨.int .i64 (ttl : Int), fun W hW => quiet_ok ?_, hK _ ?_⟩
    · have q := (HTR.out W W hW (Below.refl _ _)).2
      have q1 := q.1
      have q2 := q.2.1
      have q3 := q.2.2
      go_simp
      all_goals (try omega)
    clear hK K
    simp only [Act.put, List.setIfInBounds_toArray, List.set_cons_succ, List.set_cons_zero]
    refine wpQuiet_step (fun K hK => ?_)
    rw [if_pos (by rfl)]
    refine ⟨.string ⟨(numL ttl).toArray⟩, fun W hW => quiet_call (f := 107) (args := #[.int .i64 (ttl : Int)]) ?_ ?_, hK _ ?_⟩
    · go_simp
    · exact (HN.out _ _ (by assumption)).mono fun e w'' h => ⟨h.1, (HTR.out _ _ hW h.2).1⟩
    clear hK K
    simp only [Act.put, List.setIfInBounds_toArray, List.set_cons_succ, List.set_cons_zero]
    refine wpQuiet_step (fun K hK => ?_)
    rw [if_pos (by rfl)]
    refine ⟨.string (⟨#[46]⟩ ++ ⟨#[32]⟩ ++ ⟨(numL ttl).toArray⟩), fun W hW => quiet_ok ?_, hK _ ?_⟩
    · have q := (HTR.out W W hW (Below.refl _ _)).2
      have q1 := q.1
      have q2 := q.2.1
      have q3 := q.2.2
      go_simp
      all_goals (try omega)
    clear hK K
    simp only [Act.put, List.setIfInBounds_toArray, List.set_cons_succ, List.set_cons_zero]
    refine wpQuiet_step (fun K hK => ?_)
    rw [if_pos (by rfl)]
    refine ⟨.string (⟨#[46]⟩ ++ ⟨#[32]⟩ ++ ⟨(numL ttl).toArray⟩ ++ ⟨#[32]⟩), fun W hW => quiet_ok ?_, hK _ ?_⟩
    · have q := (HTR.out W W hW (Below.refl _ _)).2
      have q1 := q.1
      have q2 := q.2.1
      have q3 := q.2.2
      go_simp
      all_goals (try omega)
    clear hK K
    simp only [Act.put, List.setIfInBounds_toArray, List.set_cons_succ, List.set_cons_zero]
    refine wpQuiet_step (fun K hK => ?_)
    rw [if_pos (by rfl)]
    refine ⟨.pointer (some ⟨w.heap.size, 1, none⟩), fun W hW => quiet_ok ?_, hK _ ?_⟩
    · have q := (HTR.out W W hW (Below.refl _ _)).2
      have q1 := q.1
      have q2 := q.2.1
      have q3 := q.2.2
      go_simp
      all_goals (try omega)
    clear hK K
    simp only [Act.put, List.setIfInBounds_toArray, List.set_cons_succ, List.set_cons_zero]
    refine wpQuiet_step (fun K hK => ?_)
    rw [if_pos (by rfl)]
    refine ⟨.int .i64 (ty : Int), fun W hW => quiet_ok ?_, hK _ ?_⟩
    · have q := (HTR.out W W hW (Below.refl _ _)).2
      have q1 := q.1
      have q2 := q.2.1
      have q3 := q.2.2
      go_simp
      all_goals (try omega)
    clear hK K
    simp only [Act.put, List.setIfInBounds_toArray, List.set_cons_succ, List.set_cons_zero]
    refine wpQuiet_step (fun K hK => ?_)
    rw [if_pos (by rfl)]
    refine ⟨.string ⟨(numL ty).toArray⟩, fun W hW => quiet_call (f := 107) (args := #[.int .i64 (ty : Int)]) ?_ ?_, hK _ ?_⟩
    · go_simp
    · exact (HN.out _ _ (by assumption)).mono fun e w'' h => ⟨h.1, (HTR.out _ _ hW h.2).1⟩
    clear hK K
    simp only [Act.put, List.setIfInBounds_toArray, List.set_cons_succ, List.set_cons_zero]
    refine wpQuiet_step (fun K hK => ?_)
    rw [if_pos (by rfl)]
    refine ⟨.string (⟨#[46]⟩ ++ ⟨#[32]⟩ ++ ⟨(numL ttl).toArray⟩ ++ ⟨#[32]⟩ ++ ⟨(numL ty).toArray⟩), fun W hW => quiet_ok ?_, hK _ ?_⟩
    · have q := (HTR.out W W hW (Below.refl _ _)).2
      have q1 := q.1
      have q2 := q.2.1
      have q3 := q.2.2
      go_simp
      all_goals (try omega)
    clear hK K
    simp only [Act.put, List.setIfInBounds_toArray, List.set_cons_succ, List.set_cons_zero]
    refine wpQuiet_step (fun K hK => ?_)
    rw [if_pos (by rfl)]
    refine ⟨.string (⟨#[46]⟩ ++ ⟨#[32]⟩ ++ ⟨(numL ttl).toArray⟩ ++ ⟨#[32]⟩ ++ ⟨(numL ty).toArray⟩ ++ ⟨#[32]⟩), fun W hW => quiet_ok ?_, hK _ ?_⟩
    · have q := (HTR.out W W hW (Below.refl _ _)).2
      have q1 := q.1
      have q2 := q.2.1
      have q3 := q.2.2
      go_simp
      all_goals (try omega)
    clear hK K
    simp only [Act.put, List.setIfInBounds_toArray, List.set_cons_succ, List.set_cons_zero]
    refine wpQuiet_step (fun K hK => ?_)
    rw [if_pos (by rfl)]
    refine ⟨.pointer (some ⟨w.heap.size, 3, none⟩), fun W hW => quiet_ok ?_, hK _ ?_⟩
    · have q := (HTR.out W W hW (Below.refl _ _)).2
      have q1 := q.1
      have q2 := q.2.1
      have q3 := q.2.2
      go_simp
      all_goals (try omega)
    clear hK K
    simp only [Act.put, List.setIfInBounds_toArray, List.set_cons_succ, List.set_cons_zero]
    refine wpQuiet_step (fun K hK => ?_)
    rw [if_pos (by rfl)]
    refine ⟨.string d, fun W hW => quiet_ok ?_, hK _ ?_⟩
    · have q := (HTR.out W W hW (Below.refl _ _)).2
      have q1 := q.1
      have q2 := q.2.1
      have q3 := q.2.2
      go_simp
      all_goals (try omega)
    clear hK K
    simp only [Act.put, List.setIfInBounds_toArray, List.set_cons_succ, List.set_cons_zero]
    refine wpQuiet_step (fun K hK => ?_)
    rw [if_pos (by rfl)]
    refine ⟨.string (⟨#[46]⟩ ++ ⟨#[32]⟩ ++ ⟨(numL ttl).toArray⟩ ++ ⟨#[32]⟩ ++ ⟨(numL ty).toArray⟩ ++ ⟨#[32]⟩ ++ d), fun W hW => quiet_ok ?_, hK _ ?_⟩
    · have q := (HTR.out W W hW (Below.refl _ _)).2
      have q1 := q.1
      have q2 := q.2.1
      have q3 := q.2.2
      go_simp
      all_goals (try omega)
    clear hK K
    simp only [Act.put, List.setIfInBounds_toArray, List.set_cons_succ, List.set_cons_zero]
    refine wpQuiet_step (fun K hK => ?_)
    rw [if_pos (by rfl)]
    refine ⟨.string (⟨#[46]⟩ ++ ⟨#[32]⟩ ++ ⟨(numL ttl).toArray⟩ ++ ⟨#[32]⟩ ++ ⟨(numL ty).toArray⟩ ++ ⟨#[32]⟩ ++ d), fun W hW => quiet_ok ?_, hK _ ?_⟩
    · have q := (HTR.out W W hW (Below.refl _ _)).2
      have q1 := q.1
      have q2 := q.2.1
      have q3 := q.2.2
      go_simp
      all_goals (try omega)
    clear hK K
    simp only [Act.put, List.setIfInBounds_toArray, List.set_cons_succ, List.set_cons_zero]
    refine wpQuiet_nil ?_
    intro W hW
    go_wp2_with fail
    go_ret
    exact ⟨congrArg Ending.returned (val_strM (by rw [HRT.out]; simp)), HBW.out W hW⟩
  · have e0 : nm.toList.isEmpty = false := by rw [ByteArray.toList_eq]; simpa using h0
    have e1 : (nm.toList == []) = false := by rw [ByteArray.toList_eq]; simpa using h0
    rw [if_neg h0] at HRT
    clear h0
    go_enter Tryz.func108, Tryz.ntmps108
    go_wp2_with fail
    refine wp_region_quiet (C := fun W => Below (w.alloc (.cells #[.string nm, .int .i64 (ty : Int), .int .i64 (ttl : Int), .string d] 108)).heap.size (w.alloc (.cells #[.string nm, .int .i64 (ty : Int), .int .i64 (ttl : Int), .string d] 108)) W) (by kernel_rfl) (by kernel_rfl) hbd ?_
    refine wpQuiet_step (fun K hK => ?_)
    rw [if_pos (by rfl)]
    refine ⟨.string nm, fun W hW => quiet_ok ?_, hK _ ?_⟩
    · have q := (HTR.out W W hW (Below.refl _ _)).2
      have q1 := q.1
      have q2 := q.2.1
      have q3 := q.2.2
      go_simp
      all_goals (try omega)
    clear hK K
    simp only [Act.put, List.setIfInBounds_toArray, List.set_cons_succ, List.set_cons_zero]
    refine wpQuiet_step (fun K hK => ?_)
    rw [if_pos (by rfl)]
    refine ⟨.string (nm ++ ⟨#[32]⟩), fun W hW => quiet_ok ?_, hK _ ?_⟩
    · have q := (HTR.out W W hW (Below.refl _ _)).2
      have q1 := q.1
      have q2 := q.2.1
      have q3 := q.2.2
      go_simp
      all_goals (try omega)
    clear hK K
    simp only [Act.put, List.setIfInBounds_toArray, List.set_cons_succ, List.set_cons_zero]
    refine wpQuiet_step (fun K hK => ?_)
    rw [if_pos (by rfl)]
    refine ⟨.pointer (some ⟨w.heap.size, 2, none⟩), fun W hW => quiet_ok ?_, hK _ ?_⟩
    · have q := (HTR.out W W hW (Below.refl _ _)).2
      have q1 := q.1
      have q2 := q.2.1
      have q3 := q.2.2
      go_simp
      all_goals (try omega)
    clear hK K
    simp only [Act.put, List.setIfInBounds_toArray, List.set_cons_succ, List.set_cons_zero]
    refine wpQuiet_step (fun K hK => ?_)
    rw [if_pos (by rfl)]
    refine ⟨.int .i64 (ttl : Int), fun W hW => quiet_ok ?_, hK _ ?_⟩
    · have q := (HTR.out W W hW (Below.refl _ _)).2
      have q1 := q.1
      have q2 := q.2.1
      have q3 := q.2.2
      go_simp
      all_goals (try omega)
    clear hK K
    simp only [Act.put, List.setIfInBounds_toArray, List.set_cons_succ, List.set_cons_zero]
    refine wpQuiet_step (fun K hK => ?_)
    rw [if_pos (by rfl)]
    refine ⟨.string ⟨(numL ttl).toArray⟩, fun W hW => quiet_call (f := 107) (args := #[.int .i64 (ttl : Int)]) ?_ ?_, hK _ ?_⟩
    · go_simp
    · exact (HN.out _ _ (by assumption)).mono fun e w'' h => ⟨h.1, (HTR.out _ _ hW h.2).1⟩
    clear hK K
    simp only [Act.put, List.setIfInBounds_toArray, List.set_cons_succ, List.set_cons_zero]
    refine wpQuiet_step (fun K hK => ?_)
    rw [if_pos (by rfl)]
    refine ⟨.string (nm ++ ⟨#[32]⟩ ++ ⟨(numL ttl).toArray⟩), fun W hW => quiet_ok ?_, hK _ ?_⟩
    · have q := (HTR.out W W hW (Below.refl _ _)).2
      have q1 := q.1
      have q2 := q.2.1
      have q3 := q.2.2
      go_simp
      all_goals (try omega)
    clear hK K
    simp only [Act.put, List.setIfInBounds_toArray, List.set_cons_succ, List.set_cons_zero]
    refine wpQuiet_step (fun K hK => ?_)
    rw [if_pos (by rfl)]
    refine ⟨.string (nm ++ ⟨#[32]⟩ ++ ⟨(numL ttl).toArray⟩ ++ ⟨#[32]⟩), fun W hW => quiet_ok ?_, hK _ ?_⟩
    · have q := (HTR.out W W hW (Below.refl _ _)).2
      have q1 := q.1
      have q2 := q.2.1
      have q3 := q.2.2
      go_simp
      all_goals (try omega)
    clear hK K
    simp only [Act.put, List.setIfInBounds_toArray, List.set_cons_succ, List.set_cons_zero]
    refine wpQuiet_step (fun K hK => ?_)
    rw [if_pos (by rfl)]
    refine ⟨.pointer (some ⟨w.heap.size, 1, none⟩), fun W hW => quiet_ok ?_, hK _ ?_⟩
    · have q := (HTR.out W W hW (Below.refl _ _)).2
      have q1 := q.1
      have q2 := q.2.1
      have q3 := q.2.2
      go_simp
      all_goals (try omega)
    clear hK K
    simp only [Act.put, List.setIfInBounds_toArray, List.set_cons_succ, List.set_cons_zero]
    refine wpQuiet_step (fun K hK => ?_)
    rw [if_pos (by rfl)]
    refine ⟨.int .i64 (ty : Int), fun W hW => quiet_ok ?_, hK _ ?_⟩
    · have q := (HTR.out W W hW (Below.refl _ _)).2
      have q1 := q.1
      have q2 := q.2.1
      have q3 := q.2.2
      go_simp
      all_goals (try omega)
    clear hK K
    simp only [Act.put, List.setIfInBounds_toArray, List.set_cons_succ, List.set_cons_zero]
    refine wpQuiet_step (fun K hK => ?_)
    rw [if_pos (by rfl)]
    refine ⟨.string ⟨(numL ty).toArray⟩, fun W hW => quiet_call (f := 107) (args := #[.int .i64 (ty : Int)]) ?_ ?_, hK _ ?_⟩
    · go_simp
    · exact (HN.out _ _ (by assumption)).mono fun e w'' h => ⟨h.1, (HTR.out _ _ hW h.2).1⟩
    clear hK K
    simp only [Act.put, List.setIfInBounds_toArray, List.set_cons_succ, List.set_cons_zero]
    refine wpQuiet_step (fun K hK => ?_)
    rw [if_pos (by rfl)]
    refine ⟨.string (nm ++ ⟨#[32]⟩ ++ ⟨(numL ttl).toArray⟩ ++ ⟨#[32]⟩ ++ ⟨(numL ty).toArray⟩), fun W hW => quiet_ok ?_, hK _ ?_⟩
    · have q := (HTR.out W W hW (Below.refl _ _)).2
      have q1 := q.1
      have q2 := q.2.1
      have q3 := q.2.2
      go_simp
      all_goals (try omega)
    clear hK K
    simp only [Act.put, List.setIfInBounds_toArray, List.set_cons_succ, List.set_cons_zero]
    refine wpQuiet_step (fun K hK => ?_)
    rw [if_pos (by rfl)]
    refine ⟨.string (nm ++ ⟨#[32]⟩ ++ ⟨(numL ttl).toArray⟩ ++ ⟨#[32]⟩ ++ ⟨(numL ty).toArray⟩ ++ ⟨#[32]⟩), fun W hW => quiet_ok ?_, hK _ ?_⟩
    · have q := (HTR.out W W hW (Below.refl _ _)).2
      have q1 := q.1
      have q2 := q.2.1
      have q3 := q.2.2
      go_simp
      all_goals (try omega)
    clear hK K
    simp only [Act.put, List.setIfInBounds_toArray, List.set_cons_succ, List.set_cons_zero]
    refine wpQuiet_step (fun K hK => ?_)
    rw [if_pos (by rfl)]
    refine ⟨.pointer (some ⟨w.heap.size, 3, none⟩), fun W hW => quiet_ok ?_, hK _ ?_⟩
    · have q := (HTR.out W W hW (Below.refl _ _)).2
      have q1 := q.1
      have q2 := q.2.1
      have q3 := q.2.2
      go_simp
      all_goals (try omega)
    clear hK K
    simp only [Act.put, List.setIfInBounds_toArray, List.set_cons_succ, List.set_cons_zero]
    refine wpQuiet_step (fun K hK => ?_)
    rw [if_pos (by rfl)]
    refine ⟨.string d, fun W hW => quiet_ok ?_, hK _ ?_⟩
    · have q := (HTR.out W W hW (Below.refl _ _)).2
      have q1 := q.1
      have q2 := q.2.1
      have q3 := q.2.2
      go_simp
      all_goals (try omega)
    clear hK K
    simp only [Act.put, List.setIfInBounds_toArray, List.set_cons_succ, List.set_cons_zero]
    refine wpQuiet_step (fun K hK => ?_)
    rw [if_pos (by rfl)]
    refine ⟨.string (nm ++ ⟨#[32]⟩ ++ ⟨(numL ttl).toArray⟩ ++ ⟨#[32]⟩ ++ ⟨(numL ty).toArray⟩ ++ ⟨#[32]⟩ ++ d), fun W hW => quiet_ok ?_, hK _ ?_⟩
    · have q := (HTR.out W W hW (Below.refl _ _)).2
      have q1 := q.1
      have q2 := q.2.1
      have q3 := q.2.2
      go_simp
      all_goals (try omega)
    clear hK K
    simp only [Act.put, List.setIfInBounds_toArray, List.set_cons_succ, List.set_cons_zero]
    refine wpQuiet_step (fun K hK => ?_)
    rw [if_pos (by rfl)]
    refine ⟨.string (nm ++ ⟨#[32]⟩ ++ ⟨(numL ttl).toArray⟩ ++ ⟨#[32]⟩ ++ ⟨(numL ty).toArray⟩ ++ ⟨#[32]⟩ ++ d), fun W hW => quiet_ok ?_, hK _ ?_⟩
    · have q := (HTR.out W W hW (Below.refl _ _)).2
      have q1 := q.1
      have q2 := q.2.1
      have q3 := q.2.2
      go_simp
      all_goals (try omega)
    clear hK K
    simp only [Act.put, List.setIfInBounds_toArray, List.set_cons_succ, List.set_cons_zero]
    refine wpQuiet_nil ?_
    intro W hW
    go_wp2_with fail
    go_ret
    exact ⟨congrArg Ending.returned (val_strM (by rw [HRT.out]; simp)), HBW.out W hW⟩
end Go.Proofs.YtoobaaklklommaaGreatDoor

namespace Go.Proofs.YtoobaaklklommaaGreatDoor
open Go.RowKit

theorem dataP_kind {k : Int} {l : List UInt8} (h : (dataP k l).isSome = true) : k = 1 ∨ k = 2 ∨ k = 5 ∨ k = 6 ∨ k = 15 ∨ k = 16 := by
  unfold dataP at h
  by_cases h1 : k = 1
  · exact .inl h1
  · rw [if_neg h1] at h
    by_cases h2 : k = 2 ∨ k = 5
    · rcases h2 with h2 | h2
      · exact .inr (.inl h2)
      · exact .inr (.inr (.inl h2))
    · rw [if_neg h2] at h
      by_cases h6 : k = 6
      · exact .inr (.inr (.inr (.inl h6)))
      · rw [if_neg h6] at h
        by_cases h15 : k = 15
        · exact .inr (.inr (.inr (.inr (.inl h15))))
        · rw [if_neg h15] at h
          by_cases h16 : k = 16
          · exact .inr (.inr (.inr (.inr (.inr h16))))
          · rw [if_neg h16] at h; cases h
theorem recB_facts {nm d : List UInt8} {ty ttl : Int} (h : recB nm ty ttl d = true) : 1 ≤ ty ∧ ty ≤ 16 ∧ 0 ≤ ttl ∧ ttl ≤ 100000 := by
  unfold recB at h
  simp only [Bool.and_eq_true, decide_eq_true_eq] at h
  have := dataP_kind h.1
  omega

/-- What RecordText tells. -/
def recX (nm : List UInt8) (ty ttl : Int) (d : List UInt8) : List UInt8 := if recB nm ty ttl d = true then recT nm ty.toNat ttl.toNat d else []


/-- The name that a record's data has. -/
def toT (ty : Int) (d : List UInt8) : List UInt8 := if ty = 2 ∨ ty = 5 then d else if ty = 15 then (cut 32 d).getD 1 [] else []


theorem dataM_len {l : List UInt8} (h : (dataP 15 l).isSome = true) : (cut 32 l).length = 2 := by
  by_cases h2 : (cut 32 l).length = 2
  · exact h2
  · have e : dataP 15 l = dataM l := by unfold dataP; rw [if_neg (by omega), if_neg (by omega), if_neg (by omega), if_pos rfl]
    rw [e, dataM_not h2] at h; cases h
theorem recB_two {nm d : List UInt8} {ty ttl : Int} (h : recB nm ty ttl d = true) : ty = 15 → (cut 32 d).length = 2 := by
  intro e; subst e
  unfold recB at h
  simp only [Bool.and_eq_true] at h
  exact dataM_len h.1

/-- What TargetOf tells. -/
def targO (nm : List UInt8) (ty ttl : Int) (d : List UInt8) : Bool := recB nm ty ttl d && !(toT ty d).isEmpty
def targX (nm : List UInt8) (ty ttl : Int) (d : List UInt8) : List UInt8 := if targO nm ty ttl d = true then toT ty d else []


end Go.Proofs.YtoobaaklklommaaGreatDoor

namespace Go.Proofs.YtoobaaklklommaaGreatDoor
open Go.RowKit

/-- A zone's name: the root, or a name without a star. -/
def apexB (s : List UInt8) : Bool := s == [] || targB s
theorem apex_labels (s : List UInt8) : apexB s = (nameB s && (labelsOf s).all (fun x => !(x == [42]))) := by
  unfold apexB
  by_cases h0 : s = []
  · subst h0; rfl
  · have e : (s == []) = false := by simpa using h0
    rw [targ_host, e]
    cases hn : nameB s with
    | false => rfl
    | true => rw [star_label hn h0]; simp
theorem apex_name {s : List UInt8} (h : apexB s = true) : nameB s = true := by
  rw [apex_labels, Bool.and_eq_true] at h; exact h.1

set_option maxRecDepth 20000 in
set_option maxHeartbeats 400000 in
theorem isApex_any (s : ByteArray) (w : World) (hE : Env w) :
    Calls Tryz.prog 121 #[.string s] w fun e w' => e = .returned (.bool (apexB s.data.toList)) ∧ Below w.heap.size w w' := by
  by_cases h0 : s.data.toList = []
  · obtain rfl : s = ⟨#[]⟩ := data_eq h0
    go_enter Tryz.func121, Tryz.ntmps121
    go_wp2_with fail
    go_ret
    exact ⟨rfl, Below.refl _ _⟩
  · have e0 : (s.toList == []) = false := by rw [ByteArray.toList_eq]; simpa using h0
    have HT : Hid (apexB s.data.toList = targB s.data.toList) := by
      have e1 : (s.data.toList == []) = false := by simpa using h0
      unfold apexB; rw [e1]; exact rfl
    clear h0
    go_enter Tryz.func121, Tryz.ntmps121
    go_wp2_with fail
    refine (isHost_any s w hE).mono ?_
    rintro e w1 ⟨rfl, hb⟩
    obtain ⟨b, hbb⟩ : ∃ b, b = targB s.data.toList := ⟨_, rfl⟩
    rw [← hbb] at HT ⊢
    clear hbb
    go_wp2_with fail
    go_ret
    exact ⟨ret_bool HT.out.symm, hb⟩

set_option maxRecDepth 20000 in
set_option maxHeartbeats 1000000 in
theorem l6Apex_any (s : ByteArray) (w : World) (hs : s.size ≤ 4294967280) :
    Calls Tryz.prog 117 #[.string s] w fun e w' => e = .returned (.bool (apexB s.data.toList)) ∧ Below w.heap.size w w' := by
  have HA : Hid (apexB s.data.toList = (nameB s.data.toList && (labelsOf s.data.toList).all (fun x => !(x == [42])))) := apex_labels _
  obtain ⟨r, hr⟩ : ∃ r, r = apexB s.data.toList := ⟨_, rfl⟩
  rw [← hr] at HA ⊢
  clear hr
  go_enter Tryz.func117, Tryz.ntmps117
  go_wp2_with fail
  refine (l1LabelsQ_any s w hs).mono ?_
  rintro e w1 ⟨v, rfl, hN, hb, Q, hQ⟩
  obtain ⟨P, hP, hPn⟩ : ∃ P, w1.ownsRow w.heap.size 9 1 v P.length (P.map S) ∧ (nameB s.data.toList = true → P = labelsOf s.data.toList) := by
    cases hc : nameB s.data.toList with
    | true => exact ⟨_, hN hc, fun _ => rfl⟩
    | false => exact ⟨Q, hQ, fun h => by cases h⟩
  have HR : Hid (r = (nameB s.data.toList && P.all (fun x => !(x == [42])))) := by
    show r = _
    rw [HA.out]
    cases hc : nameB s.data.toList with
    | true => rw [hPn hc]
    | false => rfl
  obtain ⟨a, cap, hv, hcap, hmax, HC⟩ : ∃ a cap, v = .slice a P.length cap ∧ P.length ≤ cap ∧ cap ≤ maxLen ∧ Hid (0 < P.length → ∃ g, a = some ⟨g, 0, none⟩ ∧ ∀ j, (hj : j < P.length) → w1.cell? ⟨g, j, none⟩ = some (S P[j])) := by
    obtain ⟨g, cap, ⟨rfl, rfl⟩ | ⟨rfl, hg, hgl, hcap, hmax, hcell⟩⟩ := shape_of_own hP
    · exact ⟨none, 0, rfl, Nat.le_refl _, Nat.zero_le _, fun h => by simp at h⟩
    · exact ⟨_, cap, rfl, hcap, hmax, fun _ => ⟨g, rfl, hcell⟩⟩
  subst hv
  obtain ⟨nb, hnb⟩ : ∃ nb, nb = nameB s.data.toList := ⟨_, rfl⟩
  rw [← hnb] at HR ⊢
  clear hN hQ hP hPn hnb HA
  unfold maxLen at hmax
  go_wp2_with fail
  go_loop [4, 14] (fun o i => ∃ (k : Nat) (ok : Bool), k ≤ P.length ∧ i = .int .i64 (k : Int) ∧ o = .bool ok ∧ Hid (ok = (nb && (P.take k).all (fun x => !(x == [42]))))) (fun _ i => P.length - (intOf i).toNat)
  case atStart => exact ⟨0, nb, Nat.zero_le _, rfl, rfl, by show nb = _; simp⟩
  case round =>
    obtain ⟨k, ok, hk, rfl, rfl, HO⟩ := hrel
    by_cases hlt : k < P.length
    · obtain ⟨g, rfl, hcell⟩ := HC.out (by omega)
      have hcx := hcell k hlt
      have HN : Hid (ok = false → false = (nb && (P.take (k + 1)).all (fun x => !(x == [42])))) := fun h => by
        have h1 := HO.out
        rw [List.take_succ_eq_append_getElem hlt, List.all_append, ← Bool.and_assoc, ← h1, h]; rfl
      have HM : Hid (ok = true → (!((P[k]'hlt) == [42])) = (nb && (P.take (k + 1)).all (fun x => !(x == [42])))) := fun h => by
        have h1 := HO.out
        rw [List.take_succ_eq_append_getElem hlt, List.all_append, ← Bool.and_assoc, ← h1, h]; simp
      obtain ⟨x, hx⟩ : ∃ x, x = P[k]'hlt := ⟨_, rfl⟩
      rw [← hx] at hcx HM
      unfold S at hcx
      clear hcell hx
      cases ok with
      | false =>
        go_wp2_with fail
        go_round
        case rel => exact ⟨k + 1, false, by omega, by go_num, rfl, HN.out rfl⟩
        case measure => simp [intOf]; omega
      | true =>
        go_wp2_with fail
        go_round
        case rel => exact ⟨k + 1, !(x == [42]), by omega, by go_num, by simp, HM.out rfl⟩
        case measure => simp [intOf]; omega
    · have HF : Hid (r = ok) := by
        show r = ok
        rw [HR.out, HO.out, List.take_of_length_le (by omega)]
      go_wp2_with fail
      go_ret
      exact ⟨ret_bool HF.out.symm, hb⟩
end Go.Proofs.YtoobaaklklommaaGreatDoor
