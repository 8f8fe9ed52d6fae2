import Derived.Test.YtbgkocjpenkijaaGreatDoorPut
import Derived.Test.YtbgkocjpenkijaaGreatDoorParent
import Derived.BigRegion
namespace Go.Proofs.YtbgkocjpenkijaaGreatDoor
open Go.RowKit

theorem parent_joinD {Q : List (List UInt8)} (h0 : Q ≠ []) (h : Plain Q) : parentL (joinD Q) = joinD Q.tail := by
  rw [parent_join, cut_joinD Q h0 (fun p hp => (h p hp).2)]
theorem joinD_drop_le (P : List (List UInt8)) (k : Nat) : (joinD (P.drop k)).length ≤ (joinD P).length := by
  by_cases hA : P.take k = []
  · have : P.drop k = P := by
      have h := List.take_append_drop k P
      rw [hA, List.nil_append] at h; exact h
    rw [this]; exact Nat.le_refl _
  · by_cases hB : P.drop k = []
    · rw [hB]; simp [joinD]
    · have := joinD_append _ _ hA hB
      rw [List.take_append_drop] at this
      rw [this]; simp; omega
/-- What is behind some labels of a name is a name. -/
theorem name_drop {l : List UInt8} (h : nameB l = true) (k : Nat) : nameB (joinD ((labelsOf l).drop k)) = true ∧ labelsOf (joinD ((labelsOf l).drop k)) = (labelsOf l).drop k := by
  have hp := (name_plain h).drop k
  have hl : labelsOf (joinD ((labelsOf l).drop k)) = (labelsOf l).drop k := by
    unfold labelsOf
    by_cases h0 : (if l = [] then [] else cut 46 l).drop k = []
    · rw [h0]; simp [joinD]
    · have hp2 : Plain ((if l = [] then [] else cut 46 l).drop k) := hp
      rw [if_neg (plain_ne h0 hp2), cut_joinD _ h0 (fun p h => (hp2 p h).2)]
  refine ⟨?_, hl⟩
  have h2 := joinD_drop_le (labelsOf l) k
  rw [joinD_labels] at h2
  unfold nameB at h ⊢
  rw [hl]
  simp only [Bool.and_eq_true, List.all_eq_true, decide_eq_true_eq] at h ⊢
  refine ⟨fun p hp => h.1 p (List.mem_of_mem_drop hp), by omega, ?_⟩
  rw [List.length_drop]; omega
theorem joinD_drop_ne {l : List UInt8} (h : nameB l = true) {k : Nat} (hk : k < (labelsOf l).length) : joinD ((labelsOf l).drop k) ≠ [] := by
  refine plain_ne ?_ ((name_plain h).drop k)
  intro e
  have := congrArg List.length e
  rw [List.length_drop, List.length_nil] at this; omega

theorem put_hit {l : List UInt8} {ps : List Nat} {P : List (List UInt8)} {k j : Nat} {pre : List UInt8} (h : packL (putT l ps) ps P = pre ++ packL (putT l ps) ps (P.drop k)) (hk : k < P.length) (hj : j < ps.length)
    (hx : nmT (takeN l ps[j]) = joinD (P.drop k)) (hb : ∀ i, (hi : i < ps.length) → i < j → nmT (takeN l ps[i]) ≠ joinD (P.drop k)) : packL (putT l ps) ps P = pre ++ ptr ps[j] := by
  refine packL_hit h hk (idxI_hit (by rw [putT_length]; exact hj) (by rw [putT_get l ps j hj]; exact hx) (fun i hi => ?_)) hj
  rw [putT_get l ps i (by omega)]
  exact hb i (by omega) hi
theorem put_miss {l : List UInt8} {ps : List Nat} {P : List (List UInt8)} {k : Nat} {pre : List UInt8} (h : packL (putT l ps) ps P = pre ++ packL (putT l ps) ps (P.drop k)) (hk : k < P.length)
    (hb : ∀ i, (hi : i < ps.length) → nmT (takeN l ps[i]) ≠ joinD (P.drop k)) : packL (putT l ps) ps P = (pre ++ UInt8.ofNat P[k].length :: P[k]) ++ packL (putT l ps) ps (P.drop (k + 1)) := by
  refine packL_miss h hk ?_
  rw [idxI_miss]
  · omega
  · intro j hj
    rw [putT_length] at hj
    rw [putT_get l ps j hj]
    exact hb j hj

theorem bytes_two {w : World} {p : Nat} (hp : p ≤ 4000) :
    Sem.run Tryz.prog (convert 22 9 (.slice (some ⟨w.heap.size, 0, none⟩) 2 2)) (w.alloc (.cells #[.int .u8 (192 + (p : Int) / 256), .int .u8 ((p : Int) % 256)] 5)) = .ok (.string ⟨(ptr p).toArray⟩) (w.alloc (.cells #[.int .u8 (192 + (p : Int) / 256), .int .u8 ((p : Int) % 256)] 5)) := by
  refine run_convert_bytes_back _ 22 9 5 ⟨w.heap.size, 0, none⟩ 2 (ptr p) Tryz.underlying22 Tryz.underlying5 Tryz.underlying9 (fun j hj => ?_)
  have e1 := b8_ofNat (n := 192 + p / 256) (by omega)
  have e2 := b8_ofNat (n := p % 256) (by omega)
  unfold B8 at e1 e2
  match j, hj with
  | 0, _ =>
    rw [cell_new_two w _ _ 5 0 _ rfl]
    refine congrArg some (Eq.trans ?_ e1.symm)
    congr 1
  | 1, _ =>
    rw [cell_new_two w _ _ 5 1 _ rfl]
    refine congrArg some (Eq.trans ?_ e2.symm)
    congr 1
end Go.Proofs.YtbgkocjpenkijaaGreatDoor
