import Derived.Test.YtoobaaklklommaaDoorZ10
import Derived.Test.YtoobaaklklommaaDoorZ05
import Derived.Handy
import Derived.Lib.Bytealg
import Derived.BigRegion
import Derived.Deep.QuietTactic
namespace Go.Proofs.YtoobaaklklommaaDoor
open Go.RowKit

theorem row_drop {w : World} {b o cap : Nat} {P : List (List UInt8)} {i : Nat} (hcap : P.length ≤ cap) (hmax : cap ≤ 9223372036854775807) (hbl : b < w.heap.size) (hc : ∀ j, (hj : j < P.length) → w.cell? ⟨b, o + j, none⟩ = some (S P[j])) :
    Row w (.slice (some ⟨b, o + i, none⟩) (P.length - i) (cap - i)) (P.drop i) := by
  refine ⟨_, cap - i, by rw [List.length_drop], by rw [List.length_drop]; omega, by unfold maxLen; omega, .inr ⟨b, o + i, rfl, hbl, fun j hj => ?_⟩⟩
  have h : j < P.length - i := by simpa using hj
  have := hc (i + j) (by omega)
  rw [List.getElem_drop, ← this, Nat.add_assoc]

/-- What is told of a name: labels, up to the longest suffix that was told. -/
def packL (T : List (List UInt8)) (ps : List Nat) : List (List UInt8) → List UInt8
  | [] => [0]
  | x :: r => if T.idxOf (joinD (x :: r)) < T.length then ptr (ps.getD (T.idxOf (joinD (x :: r))) 0) else UInt8.ofNat x.length :: (x ++ packL T ps r)

theorem packL_hit {T P : List (List UInt8)} {ps : List Nat} {k j : Nat} {pre : List UInt8} (h : packL T ps P = pre ++ packL T ps (P.drop k)) (hk : k < P.length) (hi : idxI T (joinD (P.drop k)) = (j : Int)) (hj : j < ps.length) : packL T ps P = pre ++ ptr ps[j] := by
  rw [h, List.drop_eq_getElem_cons hk, packL, ← List.drop_eq_getElem_cons hk]
  unfold idxI at hi
  split at hi
  · rename_i hlt
    have e : T.idxOf (joinD (P.drop k)) = j := by omega
    rw [if_pos hlt, e, List.getD_eq_getElem?_getD, List.getElem?_eq_getElem hj]; rfl
  · omega
theorem packL_miss {T P : List (List UInt8)} {ps : List Nat} {k : Nat} {pre : List UInt8} (h : packL T ps P = pre ++ packL T ps (P.drop k)) (hk : k < P.length) (hi : idxI T (joinD (P.drop k)) < 0) : packL T ps P = (pre ++ UInt8.ofNat P[k].length :: P[k]) ++ packL T ps (P.drop (k + 1)) := by
  rw [h, List.drop_eq_getElem_cons hk, packL, ← List.drop_eq_getElem_cons hk]
  unfold idxI at hi
  split at hi
  · omega
  · rename_i hlt
    rw [if_neg hlt]; simp
theorem idxI_lt {T : List (List UInt8)} {x : List UInt8} {j : Nat} (h : idxI T x = (j : Int)) : j < T.length := by
  unfold idxI at h; split at h <;> omega
theorem idxI_ge (T : List (List UInt8)) (x : List UInt8) : -1 ≤ idxI T x := by
  unfold idxI; split <;> omega

/-- The suffixes of a name that are told anew, and their places. -/
def newS (T : List (List UInt8)) : List (List UInt8) → List (List UInt8)
  | [] => []
  | x :: r => if T.idxOf (joinD (x :: r)) < T.length then [] else joinD (x :: r) :: newS T r
def newP (T : List (List UInt8)) : Nat → List (List UInt8) → List Nat
  | _, [] => []
  | a, x :: r => if T.idxOf (joinD (x :: r)) < T.length then [] else a :: newP T (a + 1 + x.length) r
theorem new_length (T : List (List UInt8)) : ∀ (P : List (List UInt8)) (a : Nat), (newP T a P).length = (newS T P).length
  | [], _ => rfl
  | x :: r, a => by
    unfold newP newS
    split
    · rfl
    · simp [new_length T r]
theorem newS_length (T : List (List UInt8)) : ∀ P : List (List UInt8), (newS T P).length ≤ P.length
  | [] => Nat.le_refl _
  | x :: r => by
    unfold newS
    split
    · simp
    · have := newS_length T r
      simp; omega
theorem idx_ff {T : List (List UInt8)} {x : List UInt8} {j : Nat} (hi : idxI T x = (j : Int)) : T.idxOf x < T.length := by
  unfold idxI at hi; split at hi
  · assumption
  · omega
theorem idx_no {T : List (List UInt8)} {x : List UInt8} (hi : idxI T x < 0) : ¬ T.idxOf x < T.length := by
  unfold idxI at hi; split at hi
  · omega
  · assumption
theorem new_hit {T P : List (List UInt8)} {a k j : Nat} (hk : k < P.length) (hi : idxI T (joinD (P.drop k)) = (j : Int)) : newS T (P.drop k) = [] ∧ newP T a (P.drop k) = [] := by
  have h := idx_ff hi
  rw [List.drop_eq_getElem_cons hk] at h ⊢
  unfold newS newP
  rw [if_pos h, if_pos h]; exact ⟨rfl, rfl⟩
theorem new_miss {T P : List (List UInt8)} {a k : Nat} (hk : k < P.length) (hi : idxI T (joinD (P.drop k)) < 0) :
    newS T (P.drop k) = joinD (P.drop k) :: newS T (P.drop (k + 1)) ∧ newP T a (P.drop k) = a :: newP T (a + 1 + P[k].length) (P.drop (k + 1)) := by
  have h := idx_no hi
  rw [List.drop_eq_getElem_cons hk] at h ⊢
  rw [newS, newP, if_neg h, if_neg h]
  exact ⟨rfl, rfl⟩
/-- Suffixes become shorter. -/
theorem joinD_shorter {P : List (List UInt8)} {k : Nat} (hk : k < P.length) (h0 : P[k] ≠ []) : (joinD (P.drop (k + 1))).length < (joinD (P.drop k)).length := by
  have h1 : 0 < P[k].length := List.length_pos_iff.2 h0
  rw [List.drop_eq_getElem_cons hk, joinD]
  split
  · rename_i h; rw [h]; simp [joinD]; exact h1
  · rw [List.length_append, List.length_cons]; omega
/-- What is longer is not found. -/
theorem idx_longer {T Q : List (List UInt8)} {x : List UInt8} (h : ∀ y ∈ Q, x.length < y.length) : idxI (T ++ Q) x = idxI T x := by
  have hn : x ∉ Q := fun hx => Nat.lt_irrefl _ (h x hx)
  unfold idxI
  rw [List.idxOf_append]
  by_cases hm : x ∈ T
  · rw [if_pos hm]
    have := List.idxOf_lt_length_iff.2 hm
    rw [if_pos (by rw [List.length_append]; omega), if_pos this]
  · rw [if_neg hm]
    have h1 : List.idxOf x Q = Q.length := List.idxOf_eq_length hn
    have h2 : List.idxOf x T = T.length := List.idxOf_eq_length hm
    rw [h1, h2, List.length_append, if_neg (by omega), if_neg (by omega)]
end Go.Proofs.YtoobaaklklommaaDoor

namespace Go.Proofs.YtoobaaklklommaaDoor
open Go.RowKit

section
variable {base pb : Nat} {vl : Value} {P : List (List UInt8)} {w w' : World} {vw vt vp : Value} {B : List UInt8} {T : List (List UInt8)} {ps : List Nat}
theorem box3_cells {W : World} {b : Nat} {v0 v1 v2 : Value} {t : TypeId} (h : W.heap[b]? = some (.cells #[v0, v1, v2] t)) : W.cell? ⟨b, 0, none⟩ = some v0 ∧ W.cell? ⟨b, 1, none⟩ = some v1 ∧ W.cell? ⟨b, 2, none⟩ = some v2 ∧ W.frozen? ⟨b, 0, none⟩ = false ∧ W.frozen? ⟨b, 1, none⟩ = false ∧ W.frozen? ⟨b, 2, none⟩ = false := by
  refine ⟨?_, ?_, ?_, ?_, ?_, ?_⟩ <;> simp [World.cell?, World.frozen?, h]
end

/-- How far the telling of a name is. -/
structure PkN (P T : List (List UInt8)) (ps : List Nat) (a k : Nat) (pre : List UInt8) (sP : List (List UInt8)) (pP : List Nat) : Prop where
  bytes : packL T ps P = pre ++ packL T ps (P.drop k)
  names : newS T P = sP ++ newS T (P.drop k)
  spots : newP T a P = pP ++ newP T (a + pre.length) (P.drop k)
  longer : ∀ y ∈ sP, (joinD (P.drop k)).length < y.length
  len : pre.length ≤ 21 * k
  lens : sP.length = k
  lenp : pP.length = k
theorem PkN.start (P T : List (List UInt8)) (ps : List Nat) (a : Nat) : PkN P T ps a 0 [] [] [] :=
  ⟨by rw [List.drop_zero]; rfl, by rw [List.drop_zero]; rfl, by rw [List.drop_zero]; rfl, fun y h => (by cases h), Nat.le_refl _, rfl, rfl⟩
theorem PkN.miss {P T : List (List UInt8)} {ps : List Nat} {a k : Nat} {pre : List UInt8} {sP : List (List UInt8)} {pP : List Nat} (h : PkN P T ps a k pre sP pP) (hk : k < P.length) (hi : idxI T (joinD (P.drop k)) < 0) (hx : P[k].length ≤ 20 ∧ 0 < P[k].length) :
    PkN P T ps a (k + 1) (pre ++ UInt8.ofNat P[k].length :: P[k]) (sP ++ [joinD (P.drop k)]) (pP ++ [a + pre.length]) := by
  have hm := new_miss (a := a + pre.length) hk hi
  have hs := joinD_shorter hk (List.length_pos_iff.1 hx.2)
  have hl := h.len
  refine ⟨packL_miss h.bytes hk hi, ?_, ?_, fun y hy => ?_, ?_, by simp [h.lens], by simp [h.lenp]⟩
  · rw [h.names, hm.1, List.append_assoc]; rfl
  · rw [h.spots, hm.2, List.append_assoc, List.length_append, List.length_cons]
    rw [show a + (pre.length + (P[k].length + 1)) = a + pre.length + 1 + P[k].length by omega]; rfl
  · rcases List.mem_append.1 hy with h1 | h1
    · exact Nat.lt_trans hs (h.longer y h1)
    · rw [List.mem_singleton] at h1; rw [h1]; exact hs
  · rw [List.length_append, List.length_cons]; omega
theorem PkN.hit {P T : List (List UInt8)} {ps : List Nat} {a k j : Nat} {pre : List UInt8} {sP : List (List UInt8)} {pP : List Nat} (h : PkN P T ps a k pre sP pP) (hk : k < P.length) (hi : idxI T (joinD (P.drop k)) = (j : Int)) (hj : j < ps.length) :
    packL T ps P = pre ++ ptr ps[j] ∧ newS T P = sP ∧ newP T a P = pP := by
  have hm := new_hit (a := a + pre.length) hk hi
  exact ⟨packL_hit h.bytes hk hi hj, by rw [h.names, hm.1, List.append_nil], by rw [h.spots, hm.2, List.append_nil]⟩
theorem PkN.fin {P T : List (List UInt8)} {ps : List Nat} {a k : Nat} {pre : List UInt8} {sP : List (List UInt8)} {pP : List Nat} (h : PkN P T ps a k pre sP pP) (hk : ¬ k < P.length) :
    packL T ps P = pre ++ [0] ∧ newS T P = sP ∧ newP T a P = pP := by
  have e : P.drop k = [] := List.drop_of_length_le (by omega)
  refine ⟨by rw [h.bytes, e]; rfl, ?_, ?_⟩
  · rw [h.names, e]; exact List.append_nil _
  · rw [h.spots, e]; exact List.append_nil _
theorem PkN.idx {P T : List (List UInt8)} {ps : List Nat} {a k : Nat} {pre : List UInt8} {sP : List (List UInt8)} {pP : List Nat} (h : PkN P T ps a k pre sP pP) : idxI (T ++ sP) (joinD (P.drop k)) = idxI T (joinD (P.drop k)) := idx_longer h.longer
/-- Names packed one behind the other, with what was told kept aside. -/
def trkR (B : List UInt8) (T : List (List UInt8)) (ps : List Nat) : List (List UInt8) → Option (List UInt8)
  | [] => some B
  | s :: r => if nameB s = true then trkR (B ++ packL T ps (labelsOf s)) (T ++ newS T (labelsOf s)) (ps ++ newP T B.length (labelsOf s)) r else none

theorem row_cells {w : World} {a : Option Addr} {n cap : Nat} {P : List (List UInt8)} (h : Row w (.slice a n cap) P) : n = P.length ∧ P.length ≤ cap ∧ cap ≤ 9223372036854775807 ∧ (0 < P.length → ∃ b o, a = some ⟨b, o, none⟩ ∧ b < w.heap.size ∧ ∀ j, (hj : j < P.length) → w.cell? ⟨b, o + j, none⟩ = some (S P[j])) := by
  obtain ⟨a', c', e, h1, h2, h3⟩ := h
  cases e
  unfold maxLen at h2
  refine ⟨rfl, h1, by omega, fun h0 => ?_⟩
  rcases h3 with h3 | h3
  · rw [h3] at h0; simp at h0
  · exact h3
end Go.Proofs.YtoobaaklklommaaDoor

namespace Go.Proofs.YtoobaaklklommaaDoor
open Go.RowKit

end Go.Proofs.YtoobaaklklommaaDoor

namespace Go.Proofs.YtoobaaklklommaaDoor
open Go.RowKit

theorem tot_joinD : ∀ P : List (List UInt8), tot P + P.length ≤ (joinD P).length + 1
  | [] => by simp [joinD, tot]
  | p :: r => by
    have ih := tot_joinD r
    have e : tot (p :: r) = p.length + tot r := by simp [tot]
    unfold joinD
    split
    · rename_i h; rw [e, h]; simp [tot]
    · rw [e]; simp; omega
theorem packL_len (T : List (List UInt8)) (ps : List Nat) : ∀ P : List (List UInt8), (packL T ps P).length ≤ tot P + P.length + 2
  | [] => by simp [packL]
  | x :: r => by
    have ih := packL_len T ps r
    have e : tot (x :: r) = x.length + tot r := by simp [tot]
    unfold packL
    split
    · rw [e]; simp [ptr]
    · rw [e]; simp; omega
theorem pk_ps {T : List (List UInt8)} : ∀ (P : List (List UInt8)) (a : Nat), ∀ p ∈ newP T a P, p ≤ a + (tot P + P.length)
  | [], a, p, hp => by simp [newP] at hp
  | x :: r, a, p, hp => by
    have e : tot (x :: r) = x.length + tot r := by simp [tot]
    unfold newP at hp
    split at hp
    · cases hp
    · rcases List.mem_cons.1 hp with h | h
      · omega
      · have h1 := pk_ps r (a + 1 + x.length) p h
        rw [e, List.length_cons]; omega
theorem packL_small (T : List (List UInt8)) (ps : List Nat) : ∀ P : List (List UInt8), (∀ p ∈ P, p.length ≤ 20) → (packL T ps P).length ≤ 21 * P.length + 2
  | [], _ => by simp [packL]
  | x :: r, h => by
    have h1 := h x (by simp)
    have ih := packL_small T ps r (fun q hq => h q (by simp [hq]))
    unfold packL
    split
    · simp [ptr]
    · simp; omega
theorem name_labels {l : List UInt8} (h : nameB l = true) : (∀ p ∈ labelsOf l, p.length ≤ 20 ∧ 0 < p.length) ∧ (labelsOf l).length ≤ 8 := by
  unfold nameB at h
  simp only [Bool.and_eq_true, List.all_eq_true, decide_eq_true_eq] at h
  refine ⟨fun p hp => ?_, h.2.2⟩
  exact ⟨label_le (h.1 p hp), List.length_pos_iff.2 (lab_ne (h.1 p hp))⟩
theorem trk_no {P : List (List UInt8)} {B : List UInt8} {T : List (List UInt8)} {ps : List Nat} {k : Nat} {R : Option (List UInt8)} (h : R = trkR B T ps (P.drop k)) (hk : k < P.length) (hn : nameB P[k] = false) : R = none := by
  rw [h, List.drop_eq_getElem_cons hk, trkR, hn]; rfl
theorem trk_yes {P : List (List UInt8)} {B : List UInt8} {T : List (List UInt8)} {ps : List Nat} {k : Nat} {R : Option (List UInt8)} (h : R = trkR B T ps (P.drop k)) (hk : k < P.length) (hn : nameB P[k] = true) : R = trkR (B ++ packL T ps (labelsOf P[k])) (T ++ newS T (labelsOf P[k])) (ps ++ newP T B.length (labelsOf P[k])) (P.drop (k + 1)) := by
  rw [h, List.drop_eq_getElem_cons hk, trkR, if_pos hn]
theorem trk_end {P : List (List UInt8)} {B : List UInt8} {T : List (List UInt8)} {ps : List Nat} {k : Nat} {R : Option (List UInt8)} (h : R = trkR B T ps (P.drop k)) (hk : ¬ k < P.length) : R = some B := by
  rw [h, List.drop_of_length_le (by omega), trkR]
/-- A text, or none, and whether. -/
def putVal (R : Option (List UInt8)) : Ending := .returned (.tuple #[.string ⟨(R.getD []).toArray⟩, .bool R.isSome])
theorem put_none {R : Option (List UInt8)} (h : R = none) : Ending.returned (.tuple #[.string ⟨#[]⟩, .bool false]) = putVal R := by rw [h]; rfl
theorem put_some {R : Option (List UInt8)} {x : ByteArray} {y : List UInt8} (h : R = some y) (hx : x.data.toList = y) : Ending.returned (.tuple #[.string x, .bool true]) = putVal R := by
  rw [h]; unfold putVal; rw [data_eq hx]; rfl

theorem blk_fresh (w : World) (o : Obj) : (w.alloc o).heap[w.heap.size]? = some o := by
  show (w.heap.push o)[w.heap.size]? = some o
  simp

end Go.Proofs.YtoobaaklklommaaDoor

namespace Go.Proofs.YtoobaaklklommaaDoor
open Go.RowKit

/-- Labels with their lengths, and a byte 0. -/
def wireL : List (List UInt8) → List UInt8
  | [] => [0]
  | x :: r => UInt8.ofNat x.length :: (x ++ wireL r)
theorem packL_plain : ∀ P : List (List UInt8), packL [] [] P = wireL P
  | [] => rfl
  | x :: r => by unfold packL wireL; rw [if_neg (by simp), packL_plain r]

/-- What NameBytes tells. -/
def wireT (l : List UInt8) : List UInt8 := if nameB l = true then wireL (labelsOf l) else []
/-- What stands ahead of the labels that are still to come. -/
def headL (P : List (List UInt8)) (k : Nat) : List UInt8 := ((P.take k).map (fun x => UInt8.ofNat x.length :: x)).flatten
theorem headL_zero (P : List (List UInt8)) : headL P 0 = [] := by simp [headL]
theorem headL_next (P : List (List UInt8)) (k : Nat) (h : k < P.length) : headL P (k + 1) = headL P k ++ (UInt8.ofNat P[k].length :: P[k]) := by
  unfold headL; rw [List.take_succ_eq_append_getElem h, List.map_append, List.flatten_append]; simp only [List.map_cons, List.map_nil, List.flatten_cons, List.flatten_nil, List.append_nil]
theorem headL_end (P : List (List UInt8)) (k : Nat) (h : ¬ k < P.length) : headL P k ++ [0] = wireL P := by
  unfold headL; rw [List.take_of_length_le (by omega)]
  clear h
  induction P with
  | nil => rfl
  | cons x r ih => rw [wireL, ← ih]; simp
theorem val_strN {x : ByteArray} {l : List UInt8} (h : x.data.toList = l) : Value.string x = .string ⟨l.toArray⟩ := by rw [data_eq h]

theorem bytes_new {w : World} {n : Int} {x : List UInt8} (hn : n = (x.length : Int)) (hx : x.length ≤ 255) :
    Sem.run Tryd.prog (convert 59 9 (.slice (some ⟨w.heap.size, 0, none⟩) 1 1)) (w.alloc (.cells #[.int .u8 n] 5)) = .ok (.string ⟨#[UInt8.ofNat x.length]⟩) (w.alloc (.cells #[.int .u8 n] 5)) := by
  refine run_convert_bytes_back _ 59 9 5 ⟨w.heap.size, 0, none⟩ 1 [UInt8.ofNat x.length] Tryd.underlying59 Tryd.underlying5 Tryd.underlying9 (fun j hj => ?_)
  match j, hj with
  | 0, _ =>
    have := b8_ofNat hx
    unfold B8 at this
    rw [cell_new_one w (.int .u8 n) 5 0 (.int .u8 n) rfl, hn]
    exact congrArg some this.symm



theorem trk_one (s : List UInt8) : trkR [] [] [] [s] = if nameB s = true then some (wireL (labelsOf s)) else none := by
  rw [trkR]
  split
  · rw [trkR, packL_plain]; rfl
  · rfl
theorem row_lit1 (w : World) (nm : ByteArray) : Row (w.alloc (.cells #[.string nm] 9)) (.slice (some ⟨w.heap.size, 0, none⟩) 1 1) [nm.data.toList] := by
  refine row_own (base := w.heap.size) ?_
  exact World.ownsRow_lit w #[.string nm] 1 (Nat.le_refl _) (by unfold maxLen; omega) rfl

end Go.Proofs.YtoobaaklklommaaDoor

namespace Go.Proofs.YtoobaaklklommaaDoor
open Go.RowKit

/-- A number in so many bytes, the highest first. -/
def beB (n : Int) : Nat → List UInt8
  | 0 => []
  | k + 1 => beB (n / 256) k ++ [UInt8.ofNat (n % 256).toNat]
theorem beB_length : ∀ (k : Nat) (n : Int), (beB n k).length = k
  | 0, _ => rfl
  | k + 1, n => by rw [beB, List.length_append, beB_length k]; rfl

theorem made_brow {w w1 : World} {N : Nat} (h : w1.ownsRow w.heap.size 5 1 (.slice (some ⟨w.heap.size, 0, none⟩) N N) N (madeCells #[.int .u8 0] N).toList) : BRow w1 w.heap.size (List.replicate N 0) := by
  refine ⟨(h.lt w.heap.size rfl).2, fun j hj => ⟨?_, h.frozenAt j⟩⟩
  have hj' : j < N := by simpa using hj
  rw [h.cellAt j (by omega)]
  have e : (madeCells #[.int .u8 0] N).toList = List.replicate N (.int .u8 0) := by
    apply List.ext_getElem
    · simp [madeCells]
    · intro i h1 h2; simp [madeCells, Nat.mod_one]
  rw [e]
  simp [hj']


/-- The labels that l1Labels tells, name or not. -/
def labsV (l : List UInt8) : List (List UInt8) := if l = [] then [] else if (cut 46 l).all labelB = true then cut 46 l else []
theorem labsV_name {l : List UInt8} (h : nameB l = true) : labsV l = labelsOf l := by
  unfold labsV labelsOf
  split
  · rfl
  · rename_i h0
    rw [if_pos]
    unfold nameB labelsOf at h
    rw [if_neg h0] at h
    simp only [Bool.and_eq_true] at h
    exact h.1

set_option maxRecDepth 20000 in
set_option maxHeartbeats 1000000 in
theorem l1Labels_full (s : ByteArray) (w : World) (hs : s.size ≤ 4294967280) :
    Calls Tryd.prog 27 #[.string s] w fun e w' => ∃ v, e = .returned (.tuple #[v, .bool (nameB s.data.toList)]) ∧
      w'.ownsRow w.heap.size 9 1 v (labsV s.data.toList).length ((labsV s.data.toList).map S) ∧ Below w.heap.size w w' := by
  by_cases h0 : s.data.toList = []
  · obtain rfl : s = ⟨#[]⟩ := data_eq h0
    go_enter Tryd.func27, Tryd.ntmps27
    go_wp2_with fail
    go_ret2
    exact ⟨_, rfl, World.ownsRow_nil _ _ _ _, Below.refl _ _⟩
  · have H0 : Hid (¬ s.data.toList = []) := h0
    have e0 : (s.toList == []) = false := by rw [ByteArray.toList_eq]; simpa using h0
    clear h0
    have hsz : s.data.toList.length = s.size := by simp
    have HSZ : Hid (s.data.toList.length = s.size) := hsz
    clear hsz
    go_enter Tryd.func27, Tryd.ntmps27
    go_wp2_with fail
    refine (l1Split_any s 46 _ w hs rfl).mono ?_
    rintro e w1 ⟨v, rfl, hown, hb⟩
    have hne : 0 < (cut 46 s.data.toList).length := List.length_pos_iff.2 (cut_ne _ _)
    obtain ⟨g, cap, hv, hg, hgl, hcap, hmax, hcell⟩ := own_shape hown hne
    obtain ⟨P, hP⟩ : ∃ P, P = cut 46 s.data.toList := ⟨_, rfl⟩
    rw [← hP] at hown hne hv hcap hcell
    have HP : Hid (P = cut 46 s.data.toList) := hP
    have HOWN : Hid (w1.ownsRow w.heap.size 9 1 v P.length (P.map S)) := hown
    have HCE : Hid (∀ j, j < P.length → w1.cell? ⟨g, j, none⟩ = (P.map S)[j]?) := hcell
    have HN : Hid ((cut 46 s.data.toList).all labelB = true → w1.ownsRow w.heap.size 9 1 v (labsV s.data.toList).length ((labsV s.data.toList).map S)) := fun ha => by
      unfold labsV; rw [if_neg H0.out, if_pos ha, ← hP]; exact hown
    rw [hv] at HN ⊢
    clear hP hown hcell HOWN hv
    unfold maxLen at hmax
    go_wp2_with fail
    go_loop [13] (fun i => ∃ k : Nat, k ≤ P.length ∧ i = .int .i64 k ∧ Hid ((P.take k).all labelB = true)) (fun i => P.length - (intOf i).toNat)
    case atStart => exact ⟨0, Nat.zero_le _, rfl, rfl⟩
    case round =>
      obtain ⟨k, hk, rfl, HA⟩ := hrel
      by_cases hlt : k < P.length
      · have hcx : w1.cell? ⟨g, k, none⟩ = some (.string ⟨(P[k]'hlt).toArray⟩) := by rw [HCE.out k hlt, List.getElem?_map, List.getElem?_eq_getElem hlt]; rfl
        have hpl : (⟨(P[k]'hlt).toArray⟩ : ByteArray).size ≤ maxLen := by
          have h1 := cut_piece_le 46 s.data.toList (P[k]'hlt) (by rw [← HP.out]; exact List.getElem_mem _)
          have h2 := HSZ.out
          show (P[k]'hlt).toArray.size ≤ maxLen
          unfold maxLen; simp only [List.size_toArray]; omega
        cases ho : labelB (P[k]'hlt) with
        | true =>
          have HO : Hid (labelB (P[k]'hlt) = true) := ho
          clear ho
          go_wp2_with fail
          refine (l1Label_any _ _ hpl).mono ?_
          rintro e w2 ⟨rfl, rfl⟩
          rw [show (⟨(P[k]'hlt).toArray⟩ : ByteArray).data.toList = P[k]'hlt from rfl, HO.out]
          go_wp2_with fail
          go_round
          case rel => exact ⟨k + 1, by omega, by go_num, pieces_step HA.out hlt HO.out⟩
          case measure => simp [intOf]; omega
        | false =>
          have HO : Hid (labelB (P[k]'hlt) = false) := ho
          clear ho
          go_wp2_with fail
          refine (l1Label_any _ _ hpl).mono ?_
          rintro e w2 ⟨rfl, rfl⟩
          rw [show (⟨(P[k]'hlt).toArray⟩ : ByteArray).data.toList = P[k]'hlt from rfl, HO.out]
          go_wp2_with fail
          go_ret2
          have hN := name_not H0.out (by rw [← HP.out]; exact pieces_not hlt HO.out)
          refine ⟨_, ret_two rfl (val_bool hN.symm), ?_, hb⟩
          have hna : ¬ (cut 46 s.data.toList).all labelB = true := by rw [← HP.out, pieces_not hlt HO.out]; simp
          unfold labsV; rw [if_neg H0.out, if_neg hna]; exact World.ownsRow_nil _ _ _ _
      · have HALL : Hid ((cut 46 s.data.toList).all labelB = true) := by rw [← HP.out]; exact pieces_full HA.out hlt
        have hN := name_is H0.out HALL.out
        rw [← HP.out, HSZ.out] at hN
        have HNN : Hid (nameB s.data.toList = (decide ((s.size : Int) ≤ 60) && decide ((P.length : Int) ≤ 8))) := hN
        clear hN
        by_cases h60 : (s.size : Int) ≤ 60
        · go_wp2_with fail
          go_ret2
          exact ⟨_, ret_two rfl (val_bool (by rw [HNN.out]; simp [h60])), HN.out HALL.out, hb⟩
        · have d60 : decide ((s.size : Int) ≤ 60) = false := by simp; omega
          go_wp2_with fail
          go_ret2
          exact ⟨_, ret_two rfl (val_bool (by rw [HNN.out, d60]; simp)), HN.out HALL.out, hb⟩

/-- A name that data may have. -/
def targB (l : List UInt8) : Bool := nameB l && ((labelsOf l).all (fun x => !(x == [42])) && !(l == []))

end Go.Proofs.YtoobaaklklommaaDoor

namespace Go.Proofs.YtoobaaklklommaaDoor
open Go.RowKit

/-- A number of so many at most. -/
def numIn (l : List UInt8) (hi : Int) : Bool := decide (0 ≤ intV l) && decide (intV l ≤ hi)
def txtB (c : UInt8) : Bool := decide (32 ≤ c.toNat) && decide (c.toNat ≤ 126)
/-- The bytes of data of a type, none where it is not as its type asks. -/
def dataA (l : List UInt8) : Option (List UInt8) := if (cut 46 l).all (fun x => numIn x 255) = true ∧ (cut 46 l).length = 4 then some ((cut 46 l).map (fun x => UInt8.ofNat (intV x).toNat)) else none
def dataN (l : List UInt8) : Option (List UInt8) := if targB l = true then some (wireL (labelsOf l)) else none
def dataS (l : List UInt8) : Option (List UInt8) := if numIn l 4294967295 = true then some (beB (intV l) 4) else none
def dataM (l : List UInt8) : Option (List UInt8) := match cut 32 l with
  | [a, b] => if numIn a 65535 = true ∧ targB b = true then some (beB (intV a) 2 ++ wireL (labelsOf b)) else none
  | _ => none
def dataT (l : List UInt8) : Option (List UInt8) := if l.all txtB = true ∧ l.length ≤ 30 then some (UInt8.ofNat l.length :: l) else none
def dataP (k : Int) (l : List UInt8) : Option (List UInt8) :=
  if k = 1 then dataA l else if k = 2 ∨ k = 5 then dataN l else if k = 6 then dataS l else if k = 15 then dataM l else if k = 16 then dataT l else none

/-- What l3Bytes tells. -/
def BytesRes (D : Option (List UInt8)) (e : Ending) : Prop := ∃ x : ByteArray, e = .returned (.tuple #[.string x, .bool D.isSome]) ∧ ∀ y, D = some y → x = ⟨y.toArray⟩
theorem br_none {D : Option (List UInt8)} {x : ByteArray} (h : D = none) : BytesRes D (.returned (.tuple #[.string x, .bool false])) := ⟨x, by rw [h]; rfl, fun y hy => by rw [h] at hy; cases hy⟩
theorem br_some {D : Option (List UInt8)} {x : ByteArray} {y : List UInt8} (h : D = some y) (hx : x.data.toList = y) : BytesRes D (.returned (.tuple #[.string x, .bool true])) := ⟨x, by rw [h]; rfl, fun z hz => by rw [h] at hz; cases hz; exact data_eq hx⟩

theorem intV_range (l : List UInt8) : -1 ≤ intV l ∧ intV l < 10000000000 := by
  unfold intV
  split
  · rename_i h
    have h1 := decV_lt l l.length (by rw [List.take_length]; exact h.2.2.2)
    rw [List.take_length] at h1
    have h2 := pow10 (k := l.length) h.2.1
    omega
  · omega

end Go.Proofs.YtoobaaklklommaaDoor

namespace Go.Proofs.YtoobaaklklommaaDoor
open Go.RowKit

theorem mem_cut {b c : UInt8} (h : c ≠ b) : ∀ l : List UInt8, c ∈ l ↔ ∃ p ∈ cut b l, c ∈ p
  | [] => by simp [cut]
  | d :: l => by
    have ih := mem_cut h l
    by_cases hd : d = b
    · subst hd
      simp only [cut, if_true, List.mem_cons]
      constructor
      · rintro (e | e)
        · exact absurd e h
        · obtain ⟨p, h1, h2⟩ := ih.1 e; exact ⟨p, .inr h1, h2⟩
      · rintro ⟨p, rfl | h1, h2⟩
        · cases h2
        · exact .inr (ih.2 ⟨p, h1, h2⟩)
    · cases e : cut b l with
      | nil => exact absurd e (cut_ne b l)
      | cons q r =>
        rw [e] at ih
        simp only [cut, hd, if_false, e, List.mem_cons]
        constructor
        · rintro (e1 | e1)
          · exact ⟨d :: q, .inl rfl, by rw [e1]; exact List.mem_cons_self⟩
          · obtain ⟨p, h1, h2⟩ := ih.1 e1
            rcases List.mem_cons.1 h1 with rfl | h1
            · exact ⟨d :: p, .inl rfl, List.mem_cons_of_mem _ h2⟩
            · exact ⟨p, .inr h1, h2⟩
        · rintro ⟨p, rfl | h1, h2⟩
          · rcases List.mem_cons.1 h2 with h2 | h2
            · exact .inl h2
            · exact .inr (ih.2 ⟨q, List.mem_cons_self, h2⟩)
          · exact .inr (ih.2 ⟨p, List.mem_cons_of_mem _ h1, h2⟩)
theorem index_mem (c : UInt8) : ∀ l : List UInt8, 0 ≤ Lib.indexByte l c ↔ c ∈ l
  | [] => by simp [Lib.indexByte]
  | b :: l => by
    have ih := index_mem c l
    have hg := Lib.indexByte_ge l c
    unfold Lib.indexByte
    by_cases h : b = c
    · subst h; simp
    · have hb : (b == c) = false := by simpa using h
      rw [hb]
      simp only [Bool.false_eq_true, if_false, List.mem_cons]
      by_cases hm : Lib.indexByte l c = -1
      · have hb2 : (Lib.indexByte l c == -1) = true := by rw [hm]; rfl
        rw [hb2, if_pos rfl]
        constructor
        · intro hh; omega
        · rintro (e | e)
          · exact absurd e.symm h
          · have := ih.2 e; omega
      · have hb2 : (Lib.indexByte l c == -1) = false := by simpa using hm
        rw [hb2]
        simp only [Bool.false_eq_true, if_false]
        constructor
        · intro hh; exact .inr (ih.1 (by omega))
        · rintro (e | e)
          · exact absurd e.symm h
          · have := ih.2 e; omega
theorem star_label {l : List UInt8} (hn : nameB l = true) (h0 : l ≠ []) : (labelsOf l).all (fun x => !(x == [42])) = !decide (0 ≤ Lib.indexByte l 42) := by
  have hl : labelsOf l = cut 46 l := by unfold labelsOf; rw [if_neg h0]
  unfold nameB at hn
  simp only [Bool.and_eq_true, List.all_eq_true] at hn
  rw [hl] at hn ⊢
  by_cases hm : (42 : UInt8) ∈ l
  · rw [decide_eq_true ((index_mem 42 l).2 hm)]
    obtain ⟨p, hp, h42⟩ := (mem_cut (b := 46) (c := 42) (by decide) l).1 hm
    rw [Bool.not_true, Bool.eq_false_iff]
    intro ha
    have h1 := List.all_eq_true.1 ha p hp
    have h2 := hn.1 p hp
    unfold labelB at h2
    rw [Bool.or_eq_true] at h2
    rcases h2 with h2 | h2
    · rw [h2] at h1; cases h1
    · simp only [Bool.and_eq_true, List.all_eq_true] at h2
      have := h2.2.2 42 h42
      revert this; decide
  · rw [decide_eq_false (fun h => hm ((index_mem 42 l).1 h)), Bool.not_false, List.all_eq_true]
    intro p hp
    cases hq : (p == [42]) with
    | false => rfl
    | true =>
      have : p = [42] := by simpa using hq
      subst this
      exact absurd ((mem_cut (b := 46) (c := 42) (by decide) l).2 ⟨[42], hp, by simp⟩) hm
theorem targ_host {l : List UInt8} : targB l = (!(l == []) && (nameB l && !decide (0 ≤ Lib.indexByte l 42))) := by
  unfold targB
  by_cases h0 : l = []
  · subst h0; simp
  · have e : (l == []) = false := by simpa using h0
    rw [e, Bool.not_false, Bool.and_true, Bool.true_and]
    cases hn : nameB l with
    | false => rfl
    | true => rw [star_label hn h0]
end Go.Proofs.YtoobaaklklommaaDoor

namespace Go.Proofs.YtoobaaklklommaaDoor
open Go.RowKit

theorem dataM_two {l a b : List UInt8} (h : cut 32 l = [a, b]) : dataM l = if numIn a 65535 = true ∧ targB b = true then some (beB (intV a) 2 ++ wireL (labelsOf b)) else none := by
  unfold dataM; rw [h]
theorem dataM_not {l : List UInt8} (h : ¬ (cut 32 l).length = 2) : dataM l = none := by
  unfold dataM
  split
  · rename_i a b e; rw [e] at h; exact absurd rfl h
  · rfl
theorem two_of {P : List (List UInt8)} (h : P.length = 2) : ∃ a b, P = [a, b] := by
  match P, h with
  | [a, b], _ => exact ⟨a, b, rfl⟩

end Go.Proofs.YtoobaaklklommaaDoor

namespace Go.Proofs.YtoobaaklklommaaDoor
open Go.RowKit

/-- A record's value. -/
def RecV (nm : ByteArray) (ty ttl : Int) (d : ByteArray) : Value := .agg #[.string nm, .int .i64 ty, .int .i64 ttl, .string d]
/-- A good record. -/
def recB (nm : List UInt8) (ty ttl : Int) (d : List UInt8) : Bool := (dataP ty d).isSome && (nameB nm && (decide (0 ≤ ttl) && decide (ttl ≤ 100000)))

theorem box4 {w W : World} {a b c d : Value} {t : TypeId} (hb : Below (w.alloc (.cells #[a, b, c, d] t)).heap.size (w.alloc (.cells #[a, b, c, d] t)) W) :
    W.cell? ⟨w.heap.size, 0, none⟩ = some a ∧ W.cell? ⟨w.heap.size, 1, none⟩ = some b ∧ W.cell? ⟨w.heap.size, 2, none⟩ = some c ∧ W.cell? ⟨w.heap.size, 3, none⟩ = some d ∧ Below w.heap.size w W := by
  have hz : w.heap.size < (w.alloc (.cells #[a, b, c, d] t)).heap.size := by simp
  refine ⟨?_, ?_, ?_, ?_, ((Below.refl w.heap.size w).alloc (Nat.le_refl _) _).trans (hb.mono (Nat.le_of_lt hz))⟩
  · rw [hb.cell (p := ⟨w.heap.size, 0, none⟩) hz]; simp
  · rw [hb.cell (p := ⟨w.heap.size, 1, none⟩) hz]; simp
  · rw [hb.cell (p := ⟨w.heap.size, 2, none⟩) hz]; simp
  · rw [hb.cell (p := ⟨w.heap.size, 3, none⟩) hz]; simp


/-- A record's text. -/
def recT (nm : List UInt8) (ty ttl : Nat) (d : List UInt8) : List UInt8 := (if nm = [] then [46] else nm) ++ (32 :: (numL ttl ++ (32 :: (numL ty ++ (32 :: d)))))
end Go.Proofs.YtoobaaklklommaaDoor

namespace Go.Proofs.YtoobaaklklommaaDoor
open Go.RowKit

theorem quiet_ok {P : Program} {o : Oper} {a : Act} {C : World → Prop} {w : World} {v : Value} (h : (execOp a.eval o).run P w = .ok (.value v) w) : o.quietAt P a C w v := by
  unfold Oper.quietAt; rw [h]; exact ⟨rfl, rfl⟩
theorem quiet_call {P : Program} {o : Oper} {a : Act} {C : World → Prop} {w : World} {v : Value} {f : FuncId} {args : Array Value} (h : (execOp a.eval o).run P w = .ok (.enter f args) w) (hc : Calls P f args w (fun e w'' => e = .returned v ∧ C w'')) : o.quietAt P a C w v := by
  unfold Oper.quietAt; rw [h]; exact ⟨rfl, hc⟩

end Go.Proofs.YtoobaaklklommaaDoor
