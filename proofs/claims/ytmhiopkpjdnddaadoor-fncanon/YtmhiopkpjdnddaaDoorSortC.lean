import Derived.Test.YtmhiopkpjdnddaaDoorSortL
import Derived.Lib.SlicesCompact
namespace Go.Proofs.YtmhiopkpjdnddaaDoor
open Go.RowKit

theorem get_list (zs : List (List UInt8)) (j : Nat) (h : j < zs.length) : zs.toArray[j]! = zs[j] := by simp [h]

theorem kept_first (zs : List (List UInt8)) : ∀ j, (h : j < zs.length) → ∃ i, i < zs.length ∧ Lib.keeps zs.toArray i = true ∧ zs.toArray[i]! = zs[j]
  | 0, h => ⟨0, h, Lib.keeps_lt_one _ 0 (by omega), get_list zs 0 h⟩
  | j + 1, h => by
    by_cases e : zs.toArray[j + 1]! = zs.toArray[j + 1 - 1]!
    · obtain ⟨i, hi, hk, he⟩ := kept_first zs j (by omega)
      refine ⟨i, hi, hk, ?_⟩
      rw [he, ← get_list zs (j + 1) h, e]
      exact (get_list zs j (by omega)).symm
    · exact ⟨j + 1, h, Lib.keeps_pos e, get_list zs (j + 1) h⟩

theorem compact_mem (zs : List (List UInt8)) (x : List UInt8) : x ∈ Lib.compact zs ↔ x ∈ zs := by
  unfold Lib.compact Lib.compactUpTo
  constructor
  · intro h
    obtain ⟨j, hj, rfl⟩ := List.mem_map.1 h
    have hj := List.mem_range.1 (List.mem_filter.1 hj).1
    rw [get_list zs j hj]; exact List.getElem_mem _
  · intro h
    obtain ⟨j, hj, rfl⟩ := List.getElem_of_mem h
    obtain ⟨i, hi, hk, he⟩ := kept_first zs j hj
    exact List.mem_map.2 ⟨i, List.mem_filter.2 ⟨List.mem_range.2 hi, hk⟩, he⟩

theorem compact_rising (zs : List (List UInt8)) (hs : ∀ i j, i < j → j < zs.length → ¬ ltN zs.toArray[j]! zs.toArray[i]!) : (Lib.compact zs).Pairwise ltN := by
  unfold Lib.compact Lib.compactUpTo
  rw [List.pairwise_map]
  refine List.Pairwise.imp_of_mem ?_ (List.Pairwise.filter _ List.pairwise_lt_range)
  intro i j _ hj hij
  have hjl := List.mem_range.1 (List.mem_filter.1 hj).1
  have hk := (List.mem_filter.1 hj).2
  have hne : zs.toArray[j]! ≠ zs.toArray[j - 1]! := by
    intro e
    rw [Lib.keeps_neg (by omega) e] at hk; cases hk
  by_cases e : zs.toArray[i]! = zs.toArray[j]!
  · exfalso
    by_cases e1 : i = j - 1
    · subst e1; exact hne e.symm
    · have h1 := hs i (j - 1) (by omega) (by omega)
      have h2 := hs (j - 1) j (by omega) hjl
      rcases ltN_total hne with h | h
      · exact h2 h
      · rw [← e] at h; exact h1 h
  · rcases ltN_total e with h | h
    · exact h
    · exact absurd h (hs i j hij hjl)

theorem compact_sorted {P Q : List (List UInt8)} (hp : Q.Perm P) (hs : ∀ i j, i < j → j < Q.length → ¬ ltN Q.toArray[j]! Q.toArray[i]!) : Lib.compact Q = sortN P :=
  rising_unique _ _ (compact_rising Q hs) (sortN_rising P) (fun x => by rw [compact_mem, sortN_mem, hp.mem_iff])
end Go.Proofs.YtmhiopkpjdnddaaDoor
