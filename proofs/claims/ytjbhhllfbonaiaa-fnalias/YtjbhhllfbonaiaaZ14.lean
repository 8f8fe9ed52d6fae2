import Derived.Test.YtjbhhllfbonaiaaZ10
import Derived.Test.YtjbhhllfbonaiaaZ13
namespace Go.Proofs.Ytjbhhllfbonaiaa
open Go.RowKit

/-- A row of bools in a block of the call's own. -/
def BSRow (w : World) (g : Nat) (L : List Bool) : Prop := g < w.heap.size ∧ ∀ j, (hj : j < L.length) → w.cell? ⟨g, j, none⟩ = some (.bool L[j]) ∧ w.frozen? ⟨g, j, none⟩ = false
theorem BSRow.kept {w w' : World} {g : Nat} {L : List Bool} (h : BSRow w g L) (hb : Below w.heap.size w w') : BSRow w' g L :=
  ⟨Nat.lt_of_lt_of_le h.1 hb.size, fun j hj => by rw [hb.cell (p := ⟨g, j, none⟩) h.1, hb.frozen (p := ⟨g, j, none⟩) h.1]; exact h.2 j hj⟩
theorem BSRow.apart {w w' : World} {g : Nat} {S : Nat → Prop} {L : List Bool} (h : BSRow w g L) (hk : Kpt w w' S) (hn : ¬ S g) : BSRow w' g L := by
  have hblk : w'.heap[g]? = w.heap[g]? := hk.block g h.1 hn
  refine ⟨Nat.lt_of_lt_of_le h.1 hk.size, fun j hj => ⟨hk.cell (h.2 j hj).1 hn, ?_⟩⟩
  have h2 := (h.2 j hj).2
  unfold World.frozen? at h2 ⊢
  rw [hblk]; exact h2
theorem BSRow.set {w : World} {g : Nat} {L : List Bool} (h : BSRow w g L) (k : Nat) (hk : k < L.length) (c : Bool) : BSRow (w.setCell ⟨g, k, none⟩ (.bool c)) g (L.set k c) := by
  refine ⟨by simpa using h.1, fun j hj => ?_⟩
  have hj' : j < L.length := by simpa using hj
  refine ⟨?_, by simpa using (h.2 j hj').2⟩
  rw [List.getElem_set]
  split
  · rename_i e; subst e; exact World.cell?_setCell_same _ _ _ (h.2 k hk).1
  · rename_i e
    rw [World.cell?_setCell_other _ _ _ _ (show (⟨g, k, none⟩ : Addr) ≠ ⟨g, j, none⟩ from fun h2 => e (by injection h2))]
    exact (h.2 j hj').1
theorem made_bs {w w1 : World} {n : Nat} (hg : w.heap.size < w1.heap.size) (h : w1.ownsRow w.heap.size 4 1 (.slice (some ⟨w.heap.size, 0, none⟩) n n) n (madeCells #[.bool false] n).toList) : BSRow w1 w.heap.size (List.replicate n false) := by
  refine ⟨hg, fun j hj => ⟨?_, h.frozenAt _⟩⟩
  have hj' : j < n := by simpa using hj
  rw [h.cellAt j (by omega), List.getElem_replicate]
  simp [madeCells, hj', Nat.mod_one]
theorem CoRow.apart {w w' : World} {g : Nat} {S : Nat → Prop} {L : List (Int × Int)} (h : CoRow w g L) (hk : Kpt w w' S) (hn : ¬ S g) : CoRow w' g L := by
  have hblk : w'.heap[g]? = w.heap[g]? := hk.block g h.1 hn
  refine ⟨Nat.lt_of_lt_of_le h.1 hk.size, fun j hj => ?_⟩
  have h0 := h.2 j hj
  unfold ColAt FzC at h0 ⊢
  rw [World.cell?_of_block (a := ⟨g, j * 2, none⟩) hblk, World.cell?_of_block (a := ⟨g, j * 2 + 1, none⟩) hblk, World.frozen?_of_block (a := ⟨g, j * 2, none⟩) hblk, World.frozen?_of_block (a := ⟨g, j * 2 + 1, none⟩) hblk]
  exact h0
theorem putC_kpt (w : World) (g o : Nat) (x : Int × Int) : Kpt w (putC w g o x) (fun j => j = g) := by
  unfold putC
  exact (kpt_set (S := fun j => j = g) _ _ _ _ rfl).trans (kpt_set (S := fun j => j = g) _ _ _ _ rfl)
theorem info_bool : (Try.prog.info? 4).map (fun i => (i.zero, i.size, i.bytes)) = some (some (.bool false), 1, 1) := by kernel_rfl
/-- What the specification keeps apart: what is left, what is done, what is told. -/
def leftL (R : List ColT) : List Int := R.map (fun x => x.1)
def doneL (R : List ColT) : List Bool := (List.range R.length).map (fun i => !isU R i)
def outL (T : Int) (R : List ColT) : List ColT := (List.range R.length).map (fun i => if isU R i = true then (T, (i : Int)) else R.getD i (0, 0))
theorem leftL_length (R : List ColT) : (leftL R).length = R.length := by simp [leftL]
theorem doneL_length (R : List ColT) : (doneL R).length = R.length := by simp [doneL]
theorem outL_length (T : Int) (R : List ColT) : (outL T R).length = R.length := by simp [outL]
theorem leftL_get {R : List ColT} {i : Nat} (h : i < R.length) : (leftL R)[i]'(by rw [leftL_length]; exact h) = (R.getD i (0, 0)).1 := by rw [cgetD h]; simp [leftL]
theorem doneL_get {R : List ColT} {i : Nat} (h : i < R.length) : (doneL R)[i]'(by rw [doneL_length]; exact h) = !isU R i := by simp [doneL]
theorem outL_get (T : Int) {R : List ColT} {i : Nat} (h : i < R.length) : (outL T R)[i]'(by rw [outL_length]; exact h) = if isU R i = true then (T, (i : Int)) else R.getD i (0, 0) := by simp [outL]
theorem left_fill {T : Int} {R : List ColT} {s g : Nat} (hs : s < R.length) (hg : g < R.length) : leftL (fillS T R s g) = (leftL R).set g ((R.getD g (0, 0)).1 - (T - (R.getD s (0, 0)).1)) := by
  apply List.ext_getElem
  · simp [leftL, fillS]
  · intro i h1 h2
    have hi : i < R.length := by rw [leftL_length, fill_length] at h1; exact h1
    rw [leftL_get (by rw [fill_length]; exact hi), fill_get hs hg i hi, List.getElem_set]
    by_cases e : i = g
    · rw [if_pos e, if_pos e.symm]
    · rw [if_neg e, if_neg (show ¬ g = i from fun h => e h.symm), leftL_get hi]
      by_cases e2 : i = s
      · rw [if_pos e2, e2]
      · rw [if_neg e2]
theorem done_fill {T : Int} {R : List ColT} {s g : Nat} (hs : s < R.length) (hg : g < R.length) (hne : s ≠ g) : doneL (fillS T R s g) = (doneL R).set s true := by
  apply List.ext_getElem
  · simp [doneL, fillS]
  · intro i h1 h2
    have hi : i < R.length := by rw [doneL_length, fill_length] at h1; exact h1
    rw [doneL_get (by rw [fill_length]; exact hi), fill_isU hs hg hne i hi, List.getElem_set]
    by_cases e : i = s
    · rw [if_pos e, if_pos e.symm]; rfl
    · rw [if_neg e, if_neg (show ¬ s = i from fun h => e h.symm), doneL_get hi]
theorem out_fill {T : Int} {R : List ColT} {s g : Nat} (hs : s < R.length) (hg : g < R.length) (hne : s ≠ g) (hug : isU R g = true) : outL T (fillS T R s g) = (outL T R).set s ((R.getD s (0, 0)).1, (g : Int)) := by
  apply List.ext_getElem
  · simp [outL, fillS]
  · intro i h1 h2
    have hi : i < R.length := by rw [outL_length, fill_length] at h1; exact h1
    rw [outL_get T (by rw [fill_length]; exact hi), fill_isU hs hg hne i hi, List.getElem_set]
    by_cases e : i = s
    · rw [if_pos e.symm]
      subst e
      rw [if_pos (rfl : i = i), fill_get hs hg i hi, if_neg hne, if_pos (rfl : i = i)]
      simp
    · rw [if_neg e, if_neg (show ¬ s = i from fun h => e h.symm), outL_get T hi]
      by_cases e2 : i = g
      · subst e2
        rw [hug]; simp
      · rw [fill_get hs hg i hi, if_neg e2, if_neg e]
theorem left_beg (A : List Int) : leftL (begR A) = A.map (fun a => a * (A.length : Int)) := by
  apply List.ext_getElem
  · simp [leftL, begR]
  · intro i h1 h2
    have hi : i < A.length := by rw [leftL_length, begR_length] at h1; exact h1
    rw [leftL_get (by rw [begR_length]; exact hi), begR_get hi, getD_get hi]; simp
theorem beg_isU {A : List Int} {i : Nat} (h : i < A.length) : isU (begR A) i = true := by unfold isU; rw [begR_get h]; simp
theorem done_beg (A : List Int) : doneL (begR A) = List.replicate A.length false := by
  apply List.ext_getElem
  · simp [doneL, begR]
  · intro i h1 h2
    have hi : i < A.length := by rw [doneL_length, begR_length] at h1; exact h1
    rw [doneL_get (by rw [begR_length]; exact hi), beg_isU hi, List.getElem_replicate]; rfl
def outB (T : Int) (n : Nat) : List ColT := (List.range n).map (fun (i : Nat) => ((T, (i : Int)) : ColT))
theorem outB_length (T : Int) (n : Nat) : (outB T n).length = n := by simp [outB]
theorem outB_get (T : Int) {n i : Nat} (h : i < n) : (outB T n)[i]'(by rw [outB_length]; exact h) = (T, (i : Int)) := by simp [outB]
theorem out_beg (A : List Int) : outL A.sum (begR A) = outB A.sum A.length := by
  apply List.ext_getElem
  · simp [outL, outB, begR]
  · intro i h1 h2
    have hi : i < A.length := by rw [outL_length, begR_length] at h1; exact h1
    rw [outL_get _ (by rw [begR_length]; exact hi), beg_isU hi, outB_get _ hi]; rfl
theorem out_end {T : Int} {R : List ColT} (h : InvR T R) (hs : firstN (smP T R) R.length = none) : outL T R = R := by
  apply List.ext_getElem
  · simp [outL]
  · intro i h1 h2
    have hi : i < R.length := by rw [outL_length] at h1; exact h1
    rw [outL_get T hi]
    split
    · rename_i hu
      have h3 := h.level hs i hi hu
      unfold isU at hu
      rw [cgetD hi] at h3 hu
      have h4 : R[i].2 = (i : Int) := by simpa using hu
      rw [← h3, ← h4]
    · rw [cgetD hi]
/-- As an int: -1 where there is none. -/
def optI : Option Nat → Int
  | none => -1
  | some j => (j : Int)
theorem optI_next (p : Nat → Bool) (k : Nat) : optI (firstN p (k + 1)) = if p k = true ∧ optI (firstN p k) < 0 then (k : Int) else optI (firstN p k) := by
  have e : firstN p (k + 1) = (match firstN p k with | some j => some j | none => if p k = true then some k else none) := rfl
  cases h : firstN p k with
  | some j =>
    have e2 : firstN p (k + 1) = some j := by rw [e, h]
    rw [e2, if_neg]
    rintro ⟨_, h2⟩
    exact absurd h2 (by show ¬ ((j : Int) < 0); omega)
  | none =>
    by_cases hp : p k = true
    · have e2 : firstN p (k + 1) = some k := by rw [e, h]; simp [hp]
      rw [e2, if_pos ⟨hp, by show (-1 : Int) < 0; omega⟩]; rfl
    · have e2 : firstN p (k + 1) = none := by rw [e, h]; simp [hp]
      rw [e2, if_neg (fun h2 => hp h2.1)]
theorem optI_neg {o : Option Nat} : optI o < 0 ↔ o = none := by
  cases o with
  | none => simp [optI]
  | some j => simp only [optI]; constructor
              · intro h; omega
              · intro h; cases h
theorem optI_bound (p : Nat → Bool) (k : Nat) : -1 ≤ optI (firstN p k) ∧ optI (firstN p k) < (k : Int) := by
  cases h : firstN p k with
  | none => simp only [optI]; omega
  | some j => have := (firstN_some h).1; simp only [optI]; omega
/-- Too much, among those that are not done. -/
def grU (T : Int) (R : List ColT) (i : Nat) : Bool := isU R i && grP T R i
theorem grU_gr {T : Int} {R : List ColT} (h : InvR T R) : firstN (grU T R) R.length = firstN (grP T R) R.length := firstN_congr (fun i hi => by
  unfold grU
  cases hu : isU R i with
  | true => rfl
  | false =>
    have := h.full i hi hu
    have h2 : grP T R i = false := by unfold grP; exact decide_eq_false (by omega)
    rw [h2]; rfl)
end Go.Proofs.Ytjbhhllfbonaiaa
