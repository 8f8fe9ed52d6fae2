import Derived.Test.YtoanloballaclaaDoorSRec
import Derived.Lib.Bytealg
namespace Go.Proofs.YtoanloballaclaaDoor
open Go.RowKit

theorem mem_cut {b c : UInt8} (h : c ≠ b) : ∀ l : List UInt8, c ∈ l ↔ ∃ p ∈ cut b l, c ∈ p
  | [] => by simp [cut]
  | d :: l => by
    have ih := mem_cut h l
    by_cases hd : d = b
    · subst hd
      simp only [cut, if_true, List.mem_cons]
      constructor
      · rintro (e | e)
        · exact absurd e h
        · obtain ⟨p, h1, h2⟩ := ih.1 e; exact ⟨p, .inr h1, h2⟩
      · rintro ⟨p, rfl | h1, h2⟩
        · cases h2
        · exact .inr (ih.2 ⟨p, h1, h2⟩)
    · cases e : cut b l with
      | nil => exact absurd e (cut_ne b l)
      | cons q r =>
        rw [e] at ih
        simp only [cut, hd, if_false, e, List.mem_cons]
        constructor
        · rintro (e1 | e1)
          · exact ⟨d :: q, .inl rfl, by rw [e1]; exact List.mem_cons_self⟩
          · obtain ⟨p, h1, h2⟩ := ih.1 e1
            rcases List.mem_cons.1 h1 with rfl | h1
            · exact ⟨d :: p, .inl rfl, List.mem_cons_of_mem _ h2⟩
            · exact ⟨p, .inr h1, h2⟩
        · rintro ⟨p, rfl | h1, h2⟩
          · rcases List.mem_cons.1 h2 with h2 | h2
            · exact .inl h2
            · exact .inr (ih.2 ⟨q, List.mem_cons_self, h2⟩)
          · exact .inr (ih.2 ⟨p, List.mem_cons_of_mem _ h1, h2⟩)
theorem index_mem (c : UInt8) : ∀ l : List UInt8, 0 ≤ Lib.indexByte l c ↔ c ∈ l
  | [] => by simp [Lib.indexByte]
  | b :: l => by
    have ih := index_mem c l
    have hg := Lib.indexByte_ge l c
    unfold Lib.indexByte
    by_cases h : b = c
    · subst h; simp
    · have hb : (b == c) = false := by simpa using h
      rw [hb]
      simp only [Bool.false_eq_true, if_false, List.mem_cons]
      by_cases hm : Lib.indexByte l c = -1
      · have hb2 : (Lib.indexByte l c == -1) = true := by rw [hm]; rfl
        rw [hb2, if_pos rfl]
        constructor
        · intro hh; omega
        · rintro (e | e)
          · exact absurd e.symm h
          · have := ih.2 e; omega
      · have hb2 : (Lib.indexByte l c == -1) = false := by simpa using hm
        rw [hb2]
        simp only [Bool.false_eq_true, if_false]
        constructor
        · intro hh; exact .inr (ih.1 (by omega))
        · rintro (e | e)
          · exact absurd e.symm h
          · have := ih.2 e; omega
theorem star_label {l : List UInt8} (hn : nameB l = true) (h0 : l ≠ []) : (labelsOf l).all (fun x => !(x == [42])) = !decide (0 ≤ Lib.indexByte l 42) := by
  have hl : labelsOf l = cut 46 l := by unfold labelsOf; rw [if_neg h0]
  unfold nameB at hn
  simp only [Bool.and_eq_true, List.all_eq_true] at hn
  rw [hl] at hn ⊢
  by_cases hm : (42 : UInt8) ∈ l
  · rw [decide_eq_true ((index_mem 42 l).2 hm)]
    obtain ⟨p, hp, h42⟩ := (mem_cut (b := 46) (c := 42) (by decide) l).1 hm
    rw [Bool.not_true, Bool.eq_false_iff]
    intro ha
    have h1 := List.all_eq_true.1 ha p hp
    have h2 := hn.1 p hp
    unfold labelB at h2
    rw [Bool.or_eq_true] at h2
    rcases h2 with h2 | h2
    · rw [h2] at h1; cases h1
    · simp only [Bool.and_eq_true, List.all_eq_true] at h2
      have := h2.2.2 42 h42
      revert this; decide
  · rw [decide_eq_false (fun h => hm ((index_mem 42 l).1 h)), Bool.not_false, List.all_eq_true]
    intro p hp
    cases hq : (p == [42]) with
    | false => rfl
    | true =>
      have : p = [42] := by simpa using hq
      subst this
      exact absurd ((mem_cut (b := 46) (c := 42) (by decide) l).2 ⟨[42], hp, by simp⟩) hm
theorem targ_host {l : List UInt8} : targB l = (!(l == []) && (nameB l && !decide (0 ≤ Lib.indexByte l 42))) := by
  unfold targB
  by_cases h0 : l = []
  · subst h0; simp
  · have e : (l == []) = false := by simpa using h0
    rw [e, Bool.not_false, Bool.and_true, Bool.true_and]
    cases hn : nameB l with
    | false => rfl
    | true => rw [star_label hn h0]
end Go.Proofs.YtoanloballaclaaDoor
