import Derived.Test.YtoanloballaclaaDoorJoin
namespace Go.Proofs.YtoanloballaclaaDoor
open Go.RowKit

/-- Bytes as they lie in a block of the call's own. -/
def BRow (w : World) (g : Nat) (l : List UInt8) : Prop := g < w.heap.size ∧ ∀ j, (hj : j < l.length) → w.cell? ⟨g, j, none⟩ = some (.int .u8 (l[j].toNat : Int)) ∧ w.frozen? ⟨g, j, none⟩ = false
theorem BRow.kept {w w' : World} {g : Nat} {l : List UInt8} (h : BRow w g l) (hb : Below w.heap.size w w') : BRow w' g l :=
  ⟨Nat.lt_of_lt_of_le h.1 hb.size, fun j hj => by rw [hb.cell (p := ⟨g, j, none⟩) h.1, hb.frozen (p := ⟨g, j, none⟩) h.1]; exact h.2 j hj⟩
theorem BRow.set {w : World} {g : Nat} {l : List UInt8} (h : BRow w g l) (k : Nat) (hk : k < l.length) (c : UInt8) : BRow (w.setCell ⟨g, k, none⟩ (.int .u8 (c.toNat : Int))) g (l.set k c) := by
  refine ⟨by simpa using h.1, fun j hj => ?_⟩
  have hj' : j < l.length := by simpa using hj
  refine ⟨?_, by simpa using (h.2 j hj').2⟩
  rw [List.getElem_set]
  split
  · rename_i e; subst e; exact World.cell?_setCell_same _ _ _ (h.2 k hk).1
  · rename_i e
    rw [World.cell?_setCell_other _ _ _ _ (show (⟨g, k, none⟩ : Addr) ≠ ⟨g, j, none⟩ by intro h; cases h; exact e rfl)]
    exact (h.2 j hj').1

theorem bytes_of (s : ByteArray) (w : World) (hs : s.size ≤ maxLen) :
    ∃ cap W0, Sem.run Tryd.prog (convert 9 50 (.string s)) w = .ok (.slice (some ⟨w.heap.size, 0, none⟩) s.size cap) W0 ∧ BRow W0 w.heap.size s.data.toList ∧ s.size ≤ cap ∧ cap ≤ maxLen ∧ Below w.heap.size w W0 := by
  refine ⟨_, _, run_bytes_of_string w 9 50 5 s Tryd.underlying9 Tryd.underlying50 Tryd.underlying5, ?_, grownCap_ge _ _ _ _, grownCap_le_maxLen _ _ _ _ hs, ?_⟩
  · have hz : s.data.toList.length = s.size := by simp
    have hn : ∀ (C : Array Value) (fr : Nat × Nat), (w.drew.alloc (.cells C 5 fr)).heap[w.heap.size]? = some (.cells C 5 fr) := fun C fr => by
      show (w.heap.push (.cells C 5 fr))[w.heap.size]? = _
      simp
    refine ⟨by simp, fun j hj => ⟨?_, ?_⟩⟩
    · have := World.cell?_alloc_mark w.drew (bytesRow s (grownCap w s.size 0 5)) 5 ((bytesRow s (grownCap w s.size 0 5)).size, (bytesRow s (grownCap w s.size 0 5)).size + 1) j
      rw [show w.drew.heap.size = w.heap.size from rfl] at this
      rw [this]
      unfold bytesRow
      rw [Array.getElem?_append_left (by simpa using hj)]
      simp at hj
      simp [hj]
    · simp only [World.frozen?]
      rw [hn]
      have hle : j < (bytesRow s (grownCap w s.size 0 5)).size := by
        unfold bytesRow
        rw [hz] at hj
        simp only [Array.size_append, Array.size_map]
        exact Nat.lt_of_lt_of_le hj (Nat.le_add_right _ _)
      simp; omega
  · exact ((Below.refl _ _).drew).alloc (Nat.le_refl _) _

theorem string_of {w : World} {g cap : Nat} {l : List UInt8} (h : BRow w g l) (n : Nat) (hn : n = l.length) : Sem.run Tryd.prog (convert 50 9 (.slice (some ⟨g, 0, none⟩) n cap)) w = .ok (.string ⟨l.toArray⟩) w := by
  subst hn
  refine run_convert_bytes_back w 50 9 5 ⟨g, 0, none⟩ cap l Tryd.underlying50 Tryd.underlying5 Tryd.underlying9 (fun j hj => ?_)
  rw [add_zero_off]; exact (h.2 j hj).1

/-- Great letters become small. -/
def foldC (c : UInt8) : UInt8 := if 65 ≤ c.toNat ∧ c.toNat ≤ 90 then c + 32 else c
theorem foldC_toNat {c : UInt8} (h1 : 65 ≤ c.toNat) (h2 : c.toNat ≤ 90) : (foldC c).toNat = c.toNat + 32 := by
  unfold foldC; rw [if_pos ⟨h1, h2⟩, UInt8.toNat_add]
  show (c.toNat + 32) % 256 = _
  omega
theorem foldC_same {c : UInt8} (h : ¬ (65 ≤ c.toNat ∧ c.toNat ≤ 90)) : foldC c = c := by unfold foldC; rw [if_neg h]
/-- Behind k rounds. -/
def mix (l : List UInt8) (k : Nat) : List UInt8 := (l.take k).map foldC ++ l.drop k
theorem mix_length (l : List UInt8) (k : Nat) : (mix l k).length = l.length := by simp [mix]; omega
theorem mix_zero (l : List UInt8) : mix l 0 = l := by simp [mix]
theorem mix_end (l : List UInt8) (k : Nat) (h : ¬ k < l.length) : mix l k = l.map foldC := by
  unfold mix; rw [List.take_of_length_le (by omega), List.drop_of_length_le (by omega), List.append_nil]
theorem mix_at (l : List UInt8) (k : Nat) (h : k < l.length) : (mix l k)[k]'(by rw [mix_length]; exact h) = l[k] := by
  unfold mix
  rw [List.getElem_append_right (by simp; omega)]
  simp only [List.length_map, List.length_take]
  simp only [List.getElem_drop]
  congr 1; omega
theorem mix_next (l : List UInt8) (k : Nat) (h : k < l.length) : mix l (k + 1) = (mix l k).set k (foldC l[k]) := by
  unfold mix
  have hm : ((l.take k).map foldC).length = k := by simp; omega
  rw [List.take_succ_eq_append_getElem h, List.set_append_right _ _ (by omega), hm, Nat.sub_self, List.drop_eq_getElem_cons h]
  simp only [List.map_append, List.map_cons, List.map_nil, List.set_cons_zero, List.append_assoc, List.singleton_append]
theorem mix_same (l : List UInt8) (k : Nat) (h : k < l.length) (hc : foldC l[k] = l[k]) : mix l (k + 1) = mix l k := by
  rw [mix_next l k h, hc]
  have := mix_at l k h
  apply List.ext_getElem
  · simp
  · intro i h1 h2
    rw [List.getElem_set]
    split
    · rename_i e; subst e; exact this.symm
    · rfl

/-- What FoldName tells. -/
def foldT (l : List UInt8) : List UInt8 := if l.length ≤ 60 ∧ nameB (l.map foldC) = true then l.map foldC else []
def foldB (l : List UInt8) : Bool := decide (l.length ≤ 60) && nameB (l.map foldC)



end Go.Proofs.YtoanloballaclaaDoor
