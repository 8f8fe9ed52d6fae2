import Derived.Test.YtpghpeombednkaaGreatDoorPackN
namespace Go.Proofs.YtpghpeombednkaaGreatDoor
open Go.RowKit

/-- What is packed so far, in memory, beside the labels of a name. -/
structure PkS (base pb : Nat) (vl : Value) (P : List (List UInt8)) (w : World) (vw vt vp : Value) (B : List UInt8) (T : List (List UInt8)) (ps : List Nat) : Prop where
  low : base ≤ pb
  box : w.heap[pb]? = some (.cells #[vw, vt, vp] 104)
  wire : w.ownsRow base 5 1 vw B.length (B.map B8)
  told : w.ownsRow base 9 1 vt T.length (T.map S)
  places : w.ownsRow base 3 1 vp ps.length (ps.map I64)
  labels : w.ownsRow base 9 1 vl P.length (P.map S)
  apart : ∀ g, vl.ownBlock = some g → vt.ownBlock ≠ some g

section
variable {base pb : Nat} {vl : Value} {P : List (List UInt8)} {w w' : World} {vw vt vp : Value} {B : List UInt8} {T : List (List UInt8)} {ps : List Nat}
theorem PkS.lt (h : PkS base pb vl P w vw vt vp B T ps) : pb < w.heap.size := by
  have := h.box
  by_cases e : pb < w.heap.size
  · exact e
  · rw [Array.getElem?_eq_none (by omega)] at this; cases this
theorem PkS.base_le (h : PkS base pb vl P w vw vt vp B T ps) : base ≤ w.heap.size := Nat.le_trans h.low (Nat.le_of_lt h.lt)
theorem PkS.below (h : PkS base pb vl P w vw vt vp B T ps) (hb : Below w.heap.size w w') : PkS base pb vl P w' vw vt vp B T ps :=
  ⟨h.low, (hb.block pb h.lt).trans h.box, own_below h.wire hb, own_below h.told hb, own_below h.places hb, own_below h.labels hb, h.apart⟩
theorem PkS.cells (h : PkS base pb vl P w vw vt vp B T ps) : w.cell? ⟨pb, 0, none⟩ = some vw ∧ w.cell? ⟨pb, 1, none⟩ = some vt ∧ w.cell? ⟨pb, 2, none⟩ = some vp ∧ w.frozen? ⟨pb, 0, none⟩ = false ∧ w.frozen? ⟨pb, 1, none⟩ = false ∧ w.frozen? ⟨pb, 2, none⟩ = false := by
  have := h.box
  refine ⟨?_, ?_, ?_, ?_, ?_, ?_⟩ <;> simp [World.cell?, World.frozen?, this]
theorem PkS.tell {vt' : Value} {T' : List (List UInt8)} (h : PkS base pb vl P w vw vt vp B T ps) (hk : Kpt w w' (fun k => vt.ownBlock = some k)) (ho : w'.ownsRow base 9 1 vt' T'.length (T'.map S)) (ha : ∀ g, vl.ownBlock = some g → vt'.ownBlock ≠ some g) :
    PkS base pb vl P (w'.setCell ⟨pb, 1, none⟩ vt') vw vt' vp B T' ps ∧ Below base w (w'.setCell ⟨pb, 1, none⟩ vt') := by
  have hbx : w'.heap[pb]? = some (.cells #[vw, vt, vp] 104) := (hk.block pb h.lt (own_box h.told h.box (by decide))).trans h.box
  have w1 := own_kpt h.wire hk (fun g h1 h2 => own_ne (by decide) h.told h.wire g h2 h1)
  have w2 := own_kpt h.places hk (fun g h1 h2 => own_ne (by decide) h.told h.places g h2 h1)
  have w3 := own_kpt h.labels hk (fun g h1 h2 => h.apart g h1 h2)
  have ks : Kpt w' (w'.setCell ⟨pb, 1, none⟩ vt') (fun k => k = pb) := kpt_set _ _ _ _ rfl
  refine ⟨⟨h.low, (heap_setCell_same w' pb 1 _ _ vt' hbx), own_kpt w1 ks (fun g h1 e => own_box w1 hbx (by decide) (e ▸ h1)), own_kpt ho ks (fun g h1 e => own_box ho hbx (by decide) (e ▸ h1)), own_kpt w2 ks (fun g h1 e => own_box w2 hbx (by decide) (e ▸ h1)), own_kpt w3 ks (fun g h1 e => own_box w3 hbx (by decide) (e ▸ h1)), ha⟩, ?_⟩
  exact ((hk.mono (T := fun k => base ≤ k) (fun k _ e => (h.told.lt k e).1)).trans (ks.mono (fun k _ e => e ▸ h.low))).below h.base_le (fun k h1 h2 => by omega)
theorem PkS.place {vp' : Value} {ps' : List Nat} (h : PkS base pb vl P w vw vt vp B T ps) (hk : Kpt w w' (fun k => vp.ownBlock = some k)) (ho : w'.ownsRow base 3 1 vp' ps'.length (ps'.map I64)) :
    PkS base pb vl P (w'.setCell ⟨pb, 2, none⟩ vp') vw vt vp' B T ps' ∧ Below base w (w'.setCell ⟨pb, 2, none⟩ vp') := by
  have hbx : w'.heap[pb]? = some (.cells #[vw, vt, vp] 104) := (hk.block pb h.lt (own_box h.places h.box (by decide))).trans h.box
  have w1 := own_kpt h.wire hk (fun g h1 h2 => own_ne (by decide) h.places h.wire g h2 h1)
  have w2 := own_kpt h.told hk (fun g h1 h2 => own_ne (by decide) h.places h.told g h2 h1)
  have w3 := own_kpt h.labels hk (fun g h1 h2 => own_ne (by decide) h.places h.labels g h2 h1)
  have ks : Kpt w' (w'.setCell ⟨pb, 2, none⟩ vp') (fun k => k = pb) := kpt_set _ _ _ _ rfl
  refine ⟨⟨h.low, (heap_setCell_same w' pb 2 _ _ vp' hbx), own_kpt w1 ks (fun g h1 e => own_box w1 hbx (by decide) (e ▸ h1)), own_kpt w2 ks (fun g h1 e => own_box w2 hbx (by decide) (e ▸ h1)), own_kpt ho ks (fun g h1 e => own_box ho hbx (by decide) (e ▸ h1)), own_kpt w3 ks (fun g h1 e => own_box w3 hbx (by decide) (e ▸ h1)), h.apart⟩, ?_⟩
  exact ((hk.mono (T := fun k => base ≤ k) (fun k _ e => (h.places.lt k e).1)).trans (ks.mono (fun k _ e => e ▸ h.low))).below h.base_le (fun k h1 h2 => by omega)
theorem PkS.put {vw' : Value} {B' : List UInt8} (h : PkS base pb vl P w vw vt vp B T ps) (hk : Kpt w w' (fun k => vw.ownBlock = some k)) (ho : w'.ownsRow base 5 1 vw' B'.length (B'.map B8)) :
    PkS base pb vl P (w'.setCell ⟨pb, 0, none⟩ vw') vw' vt vp B' T ps ∧ Below base w (w'.setCell ⟨pb, 0, none⟩ vw') := by
  have hbx : w'.heap[pb]? = some (.cells #[vw, vt, vp] 104) := (hk.block pb h.lt (own_box h.wire h.box (by decide))).trans h.box
  have w1 := own_kpt h.told hk (fun g h1 h2 => own_ne (by decide) h.wire h.told g h2 h1)
  have w2 := own_kpt h.places hk (fun g h1 h2 => own_ne (by decide) h.wire h.places g h2 h1)
  have w3 := own_kpt h.labels hk (fun g h1 h2 => own_ne (by decide) h.wire h.labels g h2 h1)
  have ks : Kpt w' (w'.setCell ⟨pb, 0, none⟩ vw') (fun k => k = pb) := kpt_set _ _ _ _ rfl
  refine ⟨⟨h.low, (heap_setCell_same w' pb 0 _ _ vw' hbx), own_kpt ho ks (fun g h1 e => own_box ho hbx (by decide) (e ▸ h1)), own_kpt w1 ks (fun g h1 e => own_box w1 hbx (by decide) (e ▸ h1)), own_kpt w2 ks (fun g h1 e => own_box w2 hbx (by decide) (e ▸ h1)), own_kpt w3 ks (fun g h1 e => own_box w3 hbx (by decide) (e ▸ h1)), h.apart⟩, ?_⟩
  exact ((hk.mono (T := fun k => base ≤ k) (fun k _ e => (h.wire.lt k e).1)).trans (ks.mono (fun k _ e => e ▸ h.low))).below h.base_le (fun k h1 h2 => by omega)
theorem box3_cells {W : World} {b : Nat} {v0 v1 v2 : Value} {t : TypeId} (h : W.heap[b]? = some (.cells #[v0, v1, v2] t)) : W.cell? ⟨b, 0, none⟩ = some v0 ∧ W.cell? ⟨b, 1, none⟩ = some v1 ∧ W.cell? ⟨b, 2, none⟩ = some v2 ∧ W.frozen? ⟨b, 0, none⟩ = false ∧ W.frozen? ⟨b, 1, none⟩ = false ∧ W.frozen? ⟨b, 2, none⟩ = false := by
  refine ⟨?_, ?_, ?_, ?_, ?_, ?_⟩ <;> simp [World.cell?, World.frozen?, h]
theorem PkS.boxW (h : PkS base pb vl P w vw vt vp B T ps) (hk : Kpt w w' (fun k => vw.ownBlock = some k)) : w'.heap[pb]? = some (.cells #[vw, vt, vp] 104) := (hk.block pb h.lt (own_box h.wire h.box (by decide))).trans h.box
theorem PkS.boxT (h : PkS base pb vl P w vw vt vp B T ps) (hk : Kpt w w' (fun k => vt.ownBlock = some k)) : w'.heap[pb]? = some (.cells #[vw, vt, vp] 104) := (hk.block pb h.lt (own_box h.told h.box (by decide))).trans h.box
theorem PkS.boxP (h : PkS base pb vl P w vw vt vp B T ps) (hk : Kpt w w' (fun k => vp.ownBlock = some k)) : w'.heap[pb]? = some (.cells #[vw, vt, vp] 104) := (hk.block pb h.lt (own_box h.places h.box (by decide))).trans h.box
end

/-- How far the telling of a name is. -/
structure PkN (P T : List (List UInt8)) (ps : List Nat) (a k : Nat) (pre : List UInt8) (sP : List (List UInt8)) (pP : List Nat) : Prop where
  bytes : packL T ps P = pre ++ packL T ps (P.drop k)
  names : newS T P = sP ++ newS T (P.drop k)
  spots : newP T a P = pP ++ newP T (a + pre.length) (P.drop k)
  longer : ∀ y ∈ sP, (joinD (P.drop k)).length < y.length
  len : pre.length ≤ 21 * k
  lens : sP.length = k
  lenp : pP.length = k
theorem PkN.start (P T : List (List UInt8)) (ps : List Nat) (a : Nat) : PkN P T ps a 0 [] [] [] :=
  ⟨by rw [List.drop_zero]; rfl, by rw [List.drop_zero]; rfl, by rw [List.drop_zero]; rfl, fun y h => (by cases h), Nat.le_refl _, rfl, rfl⟩
theorem PkN.miss {P T : List (List UInt8)} {ps : List Nat} {a k : Nat} {pre : List UInt8} {sP : List (List UInt8)} {pP : List Nat} (h : PkN P T ps a k pre sP pP) (hk : k < P.length) (hi : idxI T (joinD (P.drop k)) < 0) (hx : P[k].length ≤ 20 ∧ 0 < P[k].length) :
    PkN P T ps a (k + 1) (pre ++ UInt8.ofNat P[k].length :: P[k]) (sP ++ [joinD (P.drop k)]) (pP ++ [a + pre.length]) := by
  have hm := new_miss (a := a + pre.length) hk hi
  have hs := joinD_shorter hk (List.length_pos_iff.1 hx.2)
  have hl := h.len
  refine ⟨packL_miss h.bytes hk hi, ?_, ?_, fun y hy => ?_, ?_, by simp [h.lens], by simp [h.lenp]⟩
  · rw [h.names, hm.1, List.append_assoc]; rfl
  · rw [h.spots, hm.2, List.append_assoc, List.length_append, List.length_cons]
    rw [show a + (pre.length + (P[k].length + 1)) = a + pre.length + 1 + P[k].length by omega]; rfl
  · rcases List.mem_append.1 hy with h1 | h1
    · exact Nat.lt_trans hs (h.longer y h1)
    · rw [List.mem_singleton] at h1; rw [h1]; exact hs
  · rw [List.length_append, List.length_cons]; omega
theorem PkN.hit {P T : List (List UInt8)} {ps : List Nat} {a k j : Nat} {pre : List UInt8} {sP : List (List UInt8)} {pP : List Nat} (h : PkN P T ps a k pre sP pP) (hk : k < P.length) (hi : idxI T (joinD (P.drop k)) = (j : Int)) (hj : j < ps.length) :
    packL T ps P = pre ++ ptr ps[j] ∧ newS T P = sP ∧ newP T a P = pP := by
  have hm := new_hit (a := a + pre.length) hk hi
  exact ⟨packL_hit h.bytes hk hi hj, by rw [h.names, hm.1, List.append_nil], by rw [h.spots, hm.2, List.append_nil]⟩
theorem PkN.fin {P T : List (List UInt8)} {ps : List Nat} {a k : Nat} {pre : List UInt8} {sP : List (List UInt8)} {pP : List Nat} (h : PkN P T ps a k pre sP pP) (hk : ¬ k < P.length) :
    packL T ps P = pre ++ [0] ∧ newS T P = sP ∧ newP T a P = pP := by
  have e : P.drop k = [] := List.drop_of_length_le (by omega)
  refine ⟨by rw [h.bytes, e]; rfl, ?_, ?_⟩
  · rw [h.names, e]; exact List.append_nil _
  · rw [h.spots, e]; exact List.append_nil _
theorem PkN.idx {P T : List (List UInt8)} {ps : List Nat} {a k : Nat} {pre : List UInt8} {sP : List (List UInt8)} {pP : List Nat} (h : PkN P T ps a k pre sP pP) : idxI (T ++ sP) (joinD (P.drop k)) = idxI T (joinD (P.drop k)) := idx_longer h.longer
/-- Names packed one behind the other, with what was told kept aside. -/
def trkR (B : List UInt8) (T : List (List UInt8)) (ps : List Nat) : List (List UInt8) → Option (List UInt8)
  | [] => some B
  | s :: r => if nameB s = true then trkR (B ++ packL T ps (labelsOf s)) (T ++ newS T (labelsOf s)) (ps ++ newP T B.length (labelsOf s)) r else none

theorem row_cells {w : World} {a : Option Addr} {n cap : Nat} {P : List (List UInt8)} (h : Row w (.slice a n cap) P) : n = P.length ∧ P.length ≤ cap ∧ cap ≤ 9223372036854775807 ∧ (0 < P.length → ∃ b o, a = some ⟨b, o, none⟩ ∧ b < w.heap.size ∧ ∀ j, (hj : j < P.length) → w.cell? ⟨b, o + j, none⟩ = some (S P[j])) := by
  obtain ⟨a', c', e, h1, h2, h3⟩ := h
  cases e
  unfold maxLen at h2
  refine ⟨rfl, h1, by omega, fun h0 => ?_⟩
  rcases h3 with h3 | h3
  · rw [h3] at h0; simp at h0
  · exact h3
end Go.Proofs.YtpghpeombednkaaGreatDoor
