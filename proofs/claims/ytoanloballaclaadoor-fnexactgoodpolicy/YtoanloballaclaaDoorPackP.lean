import Derived.Test.YtoanloballaclaaDoorPackN
namespace Go.Proofs.YtoanloballaclaaDoor
open Go.RowKit

section
variable {base pb : Nat} {vl : Value} {P : List (List UInt8)} {w w' : World} {vw vt vp : Value} {B : List UInt8} {T : List (List UInt8)} {ps : List Nat}
theorem box3_cells {W : World} {b : Nat} {v0 v1 v2 : Value} {t : TypeId} (h : W.heap[b]? = some (.cells #[v0, v1, v2] t)) : W.cell? ⟨b, 0, none⟩ = some v0 ∧ W.cell? ⟨b, 1, none⟩ = some v1 ∧ W.cell? ⟨b, 2, none⟩ = some v2 ∧ W.frozen? ⟨b, 0, none⟩ = false ∧ W.frozen? ⟨b, 1, none⟩ = false ∧ W.frozen? ⟨b, 2, none⟩ = false := by
  refine ⟨?_, ?_, ?_, ?_, ?_, ?_⟩ <;> simp [World.cell?, World.frozen?, h]
end

/-- How far the telling of a name is. -/
structure PkN (P T : List (List UInt8)) (ps : List Nat) (a k : Nat) (pre : List UInt8) (sP : List (List UInt8)) (pP : List Nat) : Prop where
  bytes : packL T ps P = pre ++ packL T ps (P.drop k)
  names : newS T P = sP ++ newS T (P.drop k)
  spots : newP T a P = pP ++ newP T (a + pre.length) (P.drop k)
  longer : ∀ y ∈ sP, (joinD (P.drop k)).length < y.length
  len : pre.length ≤ 21 * k
  lens : sP.length = k
  lenp : pP.length = k
theorem PkN.start (P T : List (List UInt8)) (ps : List Nat) (a : Nat) : PkN P T ps a 0 [] [] [] :=
  ⟨by rw [List.drop_zero]; rfl, by rw [List.drop_zero]; rfl, by rw [List.drop_zero]; rfl, fun y h => (by cases h), Nat.le_refl _, rfl, rfl⟩
theorem PkN.miss {P T : List (List UInt8)} {ps : List Nat} {a k : Nat} {pre : List UInt8} {sP : List (List UInt8)} {pP : List Nat} (h : PkN P T ps a k pre sP pP) (hk : k < P.length) (hi : idxI T (joinD (P.drop k)) < 0) (hx : P[k].length ≤ 20 ∧ 0 < P[k].length) :
    PkN P T ps a (k + 1) (pre ++ UInt8.ofNat P[k].length :: P[k]) (sP ++ [joinD (P.drop k)]) (pP ++ [a + pre.length]) := by
  have hm := new_miss (a := a + pre.length) hk hi
  have hs := joinD_shorter hk (List.length_pos_iff.1 hx.2)
  have hl := h.len
  refine ⟨packL_miss h.bytes hk hi, ?_, ?_, fun y hy => ?_, ?_, by simp [h.lens], by simp [h.lenp]⟩
  · rw [h.names, hm.1, List.append_assoc]; rfl
  · rw [h.spots, hm.2, List.append_assoc, List.length_append, List.length_cons]
    rw [show a + (pre.length + (P[k].length + 1)) = a + pre.length + 1 + P[k].length by omega]; rfl
  · rcases List.mem_append.1 hy with h1 | h1
    · exact Nat.lt_trans hs (h.longer y h1)
    · rw [List.mem_singleton] at h1; rw [h1]; exact hs
  · rw [List.length_append, List.length_cons]; omega
theorem PkN.hit {P T : List (List UInt8)} {ps : List Nat} {a k j : Nat} {pre : List UInt8} {sP : List (List UInt8)} {pP : List Nat} (h : PkN P T ps a k pre sP pP) (hk : k < P.length) (hi : idxI T (joinD (P.drop k)) = (j : Int)) (hj : j < ps.length) :
    packL T ps P = pre ++ ptr ps[j] ∧ newS T P = sP ∧ newP T a P = pP := by
  have hm := new_hit (a := a + pre.length) hk hi
  exact ⟨packL_hit h.bytes hk hi hj, by rw [h.names, hm.1, List.append_nil], by rw [h.spots, hm.2, List.append_nil]⟩
theorem PkN.fin {P T : List (List UInt8)} {ps : List Nat} {a k : Nat} {pre : List UInt8} {sP : List (List UInt8)} {pP : List Nat} (h : PkN P T ps a k pre sP pP) (hk : ¬ k < P.length) :
    packL T ps P = pre ++ [0] ∧ newS T P = sP ∧ newP T a P = pP := by
  have e : P.drop k = [] := List.drop_of_length_le (by omega)
  refine ⟨by rw [h.bytes, e]; rfl, ?_, ?_⟩
  · rw [h.names, e]; exact List.append_nil _
  · rw [h.spots, e]; exact List.append_nil _
theorem PkN.idx {P T : List (List UInt8)} {ps : List Nat} {a k : Nat} {pre : List UInt8} {sP : List (List UInt8)} {pP : List Nat} (h : PkN P T ps a k pre sP pP) : idxI (T ++ sP) (joinD (P.drop k)) = idxI T (joinD (P.drop k)) := idx_longer h.longer
/-- Names packed one behind the other, with what was told kept aside. -/
def trkR (B : List UInt8) (T : List (List UInt8)) (ps : List Nat) : List (List UInt8) → Option (List UInt8)
  | [] => some B
  | s :: r => if nameB s = true then trkR (B ++ packL T ps (labelsOf s)) (T ++ newS T (labelsOf s)) (ps ++ newP T B.length (labelsOf s)) r else none

theorem row_cells {w : World} {a : Option Addr} {n cap : Nat} {P : List (List UInt8)} (h : Row w (.slice a n cap) P) : n = P.length ∧ P.length ≤ cap ∧ cap ≤ 9223372036854775807 ∧ (0 < P.length → ∃ b o, a = some ⟨b, o, none⟩ ∧ b < w.heap.size ∧ ∀ j, (hj : j < P.length) → w.cell? ⟨b, o + j, none⟩ = some (S P[j])) := by
  obtain ⟨a', c', e, h1, h2, h3⟩ := h
  cases e
  unfold maxLen at h2
  refine ⟨rfl, h1, by omega, fun h0 => ?_⟩
  rcases h3 with h3 | h3
  · rw [h3] at h0; simp at h0
  · exact h3
end Go.Proofs.YtoanloballaclaaDoor
