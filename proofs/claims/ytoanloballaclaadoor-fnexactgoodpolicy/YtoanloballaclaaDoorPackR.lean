import Derived.Test.YtoanloballaclaaDoorPackQ
namespace Go.Proofs.YtoanloballaclaaDoor
open Go.RowKit

theorem tot_joinD : ∀ P : List (List UInt8), tot P + P.length ≤ (joinD P).length + 1
  | [] => by simp [joinD, tot]
  | p :: r => by
    have ih := tot_joinD r
    have e : tot (p :: r) = p.length + tot r := by simp [tot]
    unfold joinD
    split
    · rename_i h; rw [e, h]; simp [tot]
    · rw [e]; simp; omega
theorem packL_len (T : List (List UInt8)) (ps : List Nat) : ∀ P : List (List UInt8), (packL T ps P).length ≤ tot P + P.length + 2
  | [] => by simp [packL]
  | x :: r => by
    have ih := packL_len T ps r
    have e : tot (x :: r) = x.length + tot r := by simp [tot]
    unfold packL
    split
    · rw [e]; simp [ptr]
    · rw [e]; simp; omega
theorem pk_ps {T : List (List UInt8)} : ∀ (P : List (List UInt8)) (a : Nat), ∀ p ∈ newP T a P, p ≤ a + (tot P + P.length)
  | [], a, p, hp => by simp [newP] at hp
  | x :: r, a, p, hp => by
    have e : tot (x :: r) = x.length + tot r := by simp [tot]
    unfold newP at hp
    split at hp
    · cases hp
    · rcases List.mem_cons.1 hp with h | h
      · omega
      · have h1 := pk_ps r (a + 1 + x.length) p h
        rw [e, List.length_cons]; omega
theorem packL_small (T : List (List UInt8)) (ps : List Nat) : ∀ P : List (List UInt8), (∀ p ∈ P, p.length ≤ 20) → (packL T ps P).length ≤ 21 * P.length + 2
  | [], _ => by simp [packL]
  | x :: r, h => by
    have h1 := h x (by simp)
    have ih := packL_small T ps r (fun q hq => h q (by simp [hq]))
    unfold packL
    split
    · simp [ptr]
    · simp; omega
theorem name_labels {l : List UInt8} (h : nameB l = true) : (∀ p ∈ labelsOf l, p.length ≤ 20 ∧ 0 < p.length) ∧ (labelsOf l).length ≤ 8 := by
  unfold nameB at h
  simp only [Bool.and_eq_true, List.all_eq_true, decide_eq_true_eq] at h
  refine ⟨fun p hp => ?_, h.2.2⟩
  exact ⟨label_le (h.1 p hp), List.length_pos_iff.2 (lab_ne (h.1 p hp))⟩
theorem trk_no {P : List (List UInt8)} {B : List UInt8} {T : List (List UInt8)} {ps : List Nat} {k : Nat} {R : Option (List UInt8)} (h : R = trkR B T ps (P.drop k)) (hk : k < P.length) (hn : nameB P[k] = false) : R = none := by
  rw [h, List.drop_eq_getElem_cons hk, trkR, hn]; rfl
theorem trk_yes {P : List (List UInt8)} {B : List UInt8} {T : List (List UInt8)} {ps : List Nat} {k : Nat} {R : Option (List UInt8)} (h : R = trkR B T ps (P.drop k)) (hk : k < P.length) (hn : nameB P[k] = true) : R = trkR (B ++ packL T ps (labelsOf P[k])) (T ++ newS T (labelsOf P[k])) (ps ++ newP T B.length (labelsOf P[k])) (P.drop (k + 1)) := by
  rw [h, List.drop_eq_getElem_cons hk, trkR, if_pos hn]
theorem trk_end {P : List (List UInt8)} {B : List UInt8} {T : List (List UInt8)} {ps : List Nat} {k : Nat} {R : Option (List UInt8)} (h : R = trkR B T ps (P.drop k)) (hk : ¬ k < P.length) : R = some B := by
  rw [h, List.drop_of_length_le (by omega), trkR]
/-- A text, or none, and whether. -/
def putVal (R : Option (List UInt8)) : Ending := .returned (.tuple #[.string ⟨(R.getD []).toArray⟩, .bool R.isSome])
theorem put_none {R : Option (List UInt8)} (h : R = none) : Ending.returned (.tuple #[.string ⟨#[]⟩, .bool false]) = putVal R := by rw [h]; rfl
theorem put_some {R : Option (List UInt8)} {x : ByteArray} {y : List UInt8} (h : R = some y) (hx : x.data.toList = y) : Ending.returned (.tuple #[.string x, .bool true]) = putVal R := by
  rw [h]; unfold putVal; rw [data_eq hx]; rfl

theorem blk_fresh (w : World) (o : Obj) : (w.alloc o).heap[w.heap.size]? = some o := by
  show (w.heap.push o)[w.heap.size]? = some o
  simp

end Go.Proofs.YtoanloballaclaaDoor
