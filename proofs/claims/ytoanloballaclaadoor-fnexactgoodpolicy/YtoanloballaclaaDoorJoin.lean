import Derived.Test.YtoanloballaclaaDoorSplit
import Derived.Lib.AppendStr
import Derived.Laws.IdiomStrings
import Derived.Laws.BytesArg
namespace Go.Proofs.YtoanloballaclaaDoor
open Go.RowKit

/-- Labels with a dot between. -/
def joinD : List (List UInt8) → List UInt8
  | [] => []
  | p :: r => if r = [] then p else p ++ 46 :: joinD r

theorem joinD_append : ∀ (A B : List (List UInt8)), A ≠ [] → B ≠ [] → joinD (A ++ B) = joinD A ++ 46 :: joinD B
  | [], _, h, _ => absurd rfl h
  | [p], B, _, hB => by simp [joinD, hB]
  | p :: q :: r, B, _, hB => by
    have ih := joinD_append (q :: r) B (by simp) hB
    have e1 : joinD (p :: (q :: r ++ B)) = p ++ 46 :: joinD (q :: r ++ B) := by rw [joinD, if_neg (by simp)]
    have e2 : joinD (p :: q :: r) = p ++ 46 :: joinD (q :: r) := by rw [joinD, if_neg (by simp)]
    rw [List.cons_append, e1, ih, e2]
    simp
theorem joinD_take_le (P : List (List UInt8)) (k : Nat) : (joinD (P.take k)).length ≤ (joinD P).length := by
  by_cases hA : P.take k = []
  · rw [hA]; simp [joinD]
  · by_cases hB : P.drop k = []
    · rw [List.take_of_length_le (by simpa using hB)]; exact Nat.le_refl _
    · have := joinD_append _ _ hA hB
      rw [List.take_append_drop] at this
      rw [this]; simp
theorem joinD_one (P : List (List UInt8)) (h : 0 < P.length) : joinD (P.take 1) = P[0] := by
  match P, h with
  | p :: r, _ => simp [joinD]
theorem joinD_step (P : List (List UInt8)) (k : Nat) (h0 : 0 < k) (h : k < P.length) : joinD (P.take (k + 1)) = joinD (P.take k) ++ [46] ++ P[k] := by
  have hne : P.take k ≠ [] := by
    intro e
    have := congrArg List.length e
    rw [List.length_take, List.length_nil] at this; omega
  rw [List.take_succ_eq_append_getElem h, joinD_append _ _ hne (by simp)]
  simp [joinD]
theorem joinD_cut : ∀ l : List UInt8, joinD (cut 46 l) = l
  | [] => by simp [cut, joinD]
  | c :: l => by
    have ih := joinD_cut l
    unfold cut
    split
    · rename_i h; rw [joinD, if_neg (cut_ne 46 l), ih, h]; rfl
    · split
      · rename_i e; exact absurd e (cut_ne 46 l)
      · rename_i p r e
        rw [e] at ih
        unfold joinD at ih ⊢
        split
        · rename_i hr; rw [if_pos hr] at ih; rw [ih]
        · rename_i hr; rw [if_neg hr] at ih; rw [List.cons_append, ih]

def B8 (b : UInt8) : Value := .int .u8 b.toNat
theorem info_byte : (Tryd.prog.info? 5).map (fun i => (i.zero, i.size, i.bytes)) = some (some (.int .u8 0), 1, 1) := by kernel_rfl

theorem add_zero_off (g j : Nat) : (⟨g, 0, none⟩ : Addr).add j = ⟨g, j, none⟩ := by
  unfold Addr.add; split <;> simp_all

theorem own_string {w : World} {base : Nat} {v : Value} {l : List UInt8} (h : w.ownsRow base 5 1 v l.length (l.map B8)) : Sem.run Tryd.prog (convert 50 9 v) w = .ok (.string ⟨l.toArray⟩) w := by
  have h0 := h
  obtain ⟨hl, ⟨rfl, hn⟩ | ⟨g, cap, cur, rfl, hg, hh, hr⟩⟩ := h
  · obtain rfl : l = [] := List.length_eq_zero_iff.1 hn
    exact run_convert_bytes_nil w 50 5 Tryd.underlying50 Tryd.underlying5 0 0 9 Tryd.underlying9
  · refine run_convert_bytes_back w 50 9 5 ⟨g, 0, none⟩ cap l Tryd.underlying50 Tryd.underlying5 Tryd.underlying9 (fun j hj => ?_)
    have e := h0.cellAt j (by omega)
    rw [show (⟨g, 0, none⟩ : Addr).add j = ⟨g, j, none⟩ from add_zero_off g j]
    rw [e, List.getElem?_map, List.getElem?_eq_getElem hj]; rfl

theorem below_grown {w wr w1 : World} {e : TypeId} {v : Value} {n : Nat} {xs : List Value} (hb : Below w.heap.size w wr) (hown : wr.ownsRow w.heap.size e 1 v n xs) (hgrow : wr.grownBy w1 v.ownBlock) : Below w.heap.size w w1 :=
  hb.grown hgrow hb.size (fun k hk => (hown.lt k hk).1)
theorem below_grown1 {w wr w1 : World} {e : TypeId} {v : Value} {n : Nat} {xs : List Value} {o : Obj} (hb : Below w.heap.size w wr) (hown : wr.ownsRow w.heap.size e 1 v n xs) (hgrow : (wr.alloc o).grownBy w1 v.ownBlock) : Below w.heap.size w w1 :=
  (hb.alloc hb.size o).grown hgrow (by have := hb.size; simp; omega) (fun k hk => (hown.lt k hk).1)

theorem strCells_B8 (x : List UInt8) : Lib.strCells ⟨x.toArray⟩ = x.map B8 := by
  simp [Lib.strCells, B8]
theorem size_list (x : List UInt8) : (⟨x.toArray⟩ : ByteArray).size = x.length := by show x.toArray.size = _; simp

theorem one_byte46 : ∀ u ∈ [Value.int .u8 46], u.oneCell' = true := by
  intro u hu; simp at hu; subst hu; rfl

end Go.Proofs.YtoanloballaclaaDoor
