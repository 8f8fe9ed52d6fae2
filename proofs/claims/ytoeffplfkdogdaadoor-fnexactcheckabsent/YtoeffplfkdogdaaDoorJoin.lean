import Derived.Test.YtoeffplfkdogdaaDoorSplit
import Derived.Lib.AppendStr
import Derived.Laws.IdiomStrings
import Derived.Laws.BytesArg
namespace Go.Proofs.YtoeffplfkdogdaaDoor
open Go.RowKit

/-- Labels with a dot between. -/
def joinD : List (List UInt8) → List UInt8
  | [] => []
  | p :: r => if r = [] then p else p ++ 46 :: joinD r

theorem joinD_append : ∀ (A B : List (List UInt8)), A ≠ [] → B ≠ [] → joinD (A ++ B) = joinD A ++ 46 :: joinD B
  | [], _, h, _ => absurd rfl h
  | [p], B, _, hB => by simp [joinD, hB]
  | p :: q :: r, B, _, hB => by
    have ih := joinD_append (q :: r) B (by simp) hB
    have e1 : joinD (p :: (q :: r ++ B)) = p ++ 46 :: joinD (q :: r ++ B) := by rw [joinD, if_neg (by simp)]
    have e2 : joinD (p :: q :: r) = p ++ 46 :: joinD (q :: r) := by rw [joinD, if_neg (by simp)]
    rw [List.cons_append, e1, ih, e2]
    simp
theorem joinD_take_le (P : List (List UInt8)) (k : Nat) : (joinD (P.take k)).length ≤ (joinD P).length := by
  by_cases hA : P.take k = []
  · rw [hA]; simp [joinD]
  · by_cases hB : P.drop k = []
    · rw [List.take_of_length_le (by simpa using hB)]; exact Nat.le_refl _
    · have := joinD_append _ _ hA hB
      rw [List.take_append_drop] at this
      rw [this]; simp
theorem joinD_one (P : List (List UInt8)) (h : 0 < P.length) : joinD (P.take 1) = P[0] := by
  match P, h with
  | p :: r, _ => simp [joinD]
theorem joinD_step (P : List (List UInt8)) (k : Nat) (h0 : 0 < k) (h : k < P.length) : joinD (P.take (k + 1)) = joinD (P.take k) ++ [46] ++ P[k] := by
  have hne : P.take k ≠ [] := by
    intro e
    have := congrArg List.length e
    rw [List.length_take, List.length_nil] at this; omega
  rw [List.take_succ_eq_append_getElem h, joinD_append _ _ hne (by simp)]
  simp [joinD]
theorem joinD_cut : ∀ l : List UInt8, joinD (cut 46 l) = l
  | [] => by simp [cut, joinD]
  | c :: l => by
    have ih := joinD_cut l
    unfold cut
    split
    · rename_i h; rw [joinD, if_neg (cut_ne 46 l), ih, h]; rfl
    · split
      · rename_i e; exact absurd e (cut_ne 46 l)
      · rename_i p r e
        rw [e] at ih
        unfold joinD at ih ⊢
        split
        · rename_i hr; rw [if_pos hr] at ih; rw [ih]
        · rename_i hr; rw [if_neg hr] at ih; rw [List.cons_append, ih]

def B8 (b : UInt8) : Value := .int .u8 b.toNat
theorem info_byte : (Tryd.prog.info? 5).map (fun i => (i.zero, i.size, i.bytes)) = some (some (.int .u8 0), 1, 1) := by kernel_rfl

theorem add_zero_off (g j : Nat) : (⟨g, 0, none⟩ : Addr).add j = ⟨g, j, none⟩ := by
  unfold Addr.add; split <;> simp_all

theorem own_string {w : World} {base : Nat} {v : Value} {l : List UInt8} (h : w.ownsRow base 5 1 v l.length (l.map B8)) : Sem.run Tryd.prog (convert 69 9 v) w = .ok (.string ⟨l.toArray⟩) w := by
  have h0 := h
  obtain ⟨hl, ⟨rfl, hn⟩ | ⟨g, cap, cur, rfl, hg, hh, hr⟩⟩ := h
  · obtain rfl : l = [] := List.length_eq_zero_iff.1 hn
    exact run_convert_bytes_nil w 69 5 Tryd.underlying69 Tryd.underlying5 0 0 9 Tryd.underlying9
  · refine run_convert_bytes_back w 69 9 5 ⟨g, 0, none⟩ cap l Tryd.underlying69 Tryd.underlying5 Tryd.underlying9 (fun j hj => ?_)
    have e := h0.cellAt j (by omega)
    rw [show (⟨g, 0, none⟩ : Addr).add j = ⟨g, j, none⟩ from add_zero_off g j]
    rw [e, List.getElem?_map, List.getElem?_eq_getElem hj]; rfl

theorem below_grown {w wr w1 : World} {e : TypeId} {v : Value} {n : Nat} {xs : List Value} (hb : Below w.heap.size w wr) (hown : wr.ownsRow w.heap.size e 1 v n xs) (hgrow : wr.grownBy w1 v.ownBlock) : Below w.heap.size w w1 :=
  hb.grown hgrow hb.size (fun k hk => (hown.lt k hk).1)
theorem below_grown1 {w wr w1 : World} {e : TypeId} {v : Value} {n : Nat} {xs : List Value} {o : Obj} (hb : Below w.heap.size w wr) (hown : wr.ownsRow w.heap.size e 1 v n xs) (hgrow : (wr.alloc o).grownBy w1 v.ownBlock) : Below w.heap.size w w1 :=
  (hb.alloc hb.size o).grown hgrow (by have := hb.size; simp; omega) (fun k hk => (hown.lt k hk).1)

theorem strCells_B8 (x : List UInt8) : Lib.strCells ⟨x.toArray⟩ = x.map B8 := by
  simp [Lib.strCells, B8]
theorem size_list (x : List UInt8) : (⟨x.toArray⟩ : ByteArray).size = x.length := by show x.toArray.size = _; simp

theorem one_byte46 : ∀ u ∈ [Value.int .u8 46], u.oneCell' = true := by
  intro u hu; simp at hu; subst hu; rfl

set_option maxRecDepth 20000 in
set_option maxHeartbeats 1000000 in
theorem joinLabels_any (v : Value) (P : List (List UInt8)) (w : World) (hr : Row w v P) (hl : Hid ((joinD P).length ≤ 1048576)) :
    Calls Tryd.prog 74 #[v] w fun e w' => e = .returned (.string ⟨(joinD P).toArray⟩) ∧ Below w.heap.size w w' := by
  obtain ⟨i0, hi, hz0, hz1, hz2⟩ := info_parts info_byte
  obtain ⟨a, cap, rfl, hcap, hmax, hrow⟩ := hr
  unfold maxLen at hmax
  have HROW : Hid (P = [] ∨ ∃ b o, a = some ⟨b, o, none⟩ ∧ b < w.heap.size ∧ ∀ j, (hj : j < P.length) → w.cell? ⟨b, o + j, none⟩ = some (S P[j])) := hrow
  clear hrow
  go_enter Tryd.func74, Tryd.ntmps74
  go_wp2_with fail
  go_loopw [3, 8] (fun v i wr => ∃ k : Nat, k ≤ P.length ∧ i = .int .i64 k ∧ wr.ownsRow w.heap.size 5 1 v (joinD (P.take k)).length ((joinD (P.take k)).map B8) ∧ Below w.heap.size w wr) (fun _ i _ => P.length - (intOf i).toNat)
  case atStart => exact ⟨0, Nat.zero_le _, rfl, World.ownsRow_nil _ _ _ _, Below.refl _ _⟩
  case round =>
    obtain ⟨k, hk, rfl, hown, hb⟩ := hrel
    have hbz := hb.size
    have hjl : (joinD (P.take k)).length ≤ 1048576 := Nat.le_trans (joinD_take_le P k) hl.out
    by_cases hlt : k < P.length
    · rcases HROW.out with hr | ⟨b, o, ha, hbl, hc⟩
      · rw [hr] at hlt; simp at hlt
      · rw [ha]
        have hcx : wr.cell? ⟨b, o + k, none⟩ = some (.string ⟨(P[k]'hlt).toArray⟩) := by rw [hb.cell (p := ⟨b, o + k, none⟩) hbl]; exact hc k hlt
        clear hc
        obtain ⟨x, hx⟩ : ∃ x, x = P[k]'hlt := ⟨_, rfl⟩
        rw [← hx] at hcx
        have hxl := joinD_take_le P (k + 1)
        have hsz := size_list x
        have HSZ : Hid ((⟨x.toArray⟩ : ByteArray).size = x.length) := hsz
        clear hsz
        by_cases h0 : k = 0
        · subst h0
          rw [Nat.add_zero] at hcx
          have hJ := joinD_one P hlt
          rw [← hx] at hJ
          rw [show 0 + 1 = 1 from rfl, hJ] at hxl
          have HJ : Hid (joinD (P.take 1) = x) := hJ
          have hlo := hl.out
          clear hJ hx
          go_wp2_with (at_builtin; (refine Lib.wpList_append_own_string _ rfl (.tmp 18) (.tmp 19) 69 9 rfl w.heap.size 5 i0 Tryd.underlying69 Tryd.underlying9 hi hz0 hz1 hz2 _ _ _ rfl hown ⟨x.toArray⟩ rfl ?c1 ?c2 ?c3 ?_))
          case c1 => rw [HSZ.out]; unfold maxLen; omega
          case c2 => rw [HSZ.out]; omega
          case c3 => exact hbz
          intro v' w1 hown' hgrow _
          have hb1 := below_grown hb hown hgrow
          rw [strCells_B8] at hown'; try rw [HSZ.out] at hown'
          have HO : Hid (w1.ownsRow w.heap.size 5 1 v' (joinD (P.take 1)).length ((joinD (P.take 1)).map B8)) := by
            have h : w1.ownsRow w.heap.size 5 1 v' x.length (x.map B8) := by simpa [joinD] using hown'
            rw [HJ.out]; exact h
          clear hown' hgrow hown
          go_wp2_with fail
          go_roundw
          case rel => exact ⟨1, by omega, by go_num, HO.out, hb1⟩
          case measure => simp [intOf]; omega
        · have hJ := joinD_step P k (by omega) hlt
          rw [← hx] at hJ
          rw [hJ] at hxl
          have HJ : Hid (joinD (P.take (k + 1)) = joinD (P.take k) ++ [46] ++ x) := hJ
          have hlo := hl.out
          simp only [List.length_append, List.length_cons, List.length_nil] at hxl
          have hk0 : (0 : Int) < (k : Int) := by omega
          clear hJ hx
          have hown1 := hown.alloc (.cells #[.int .u8 46] 5)
          go_wp2_with (first | (at_builtin; refine wpList_append_own _ rfl (.tmp 15) (.tmp 16) 69 rfl w.heap.size 5 i0 (.int .u8 0) 1 1 Tryd.underlying69 hi hz0 hz1 hz2 rfl (by decide) _ _ _ rfl hown1 ⟨wr.heap.size, 0, none⟩ 1 1 [.int .u8 46] rfl rfl ?d1 ?d2 ?d3 ?d4 ?d5 ?_))
          case d1 => exact cell_new_one _ _ _
          case d2 => exact one_byte46
          case d3 => unfold maxLen; omega
          case d4 => omega
          case d5 => simp; omega
          intro v1 w1 hown' hgrow _
          have hb1 := below_grown1 hb hown hgrow
          have hb1z := hb1.size
          clear hgrow hown hown1 hcx
          go_wp2_with (first | (at_builtin; refine Lib.wpList_append_own_string _ rfl (.tmp 18) (.tmp 19) 69 9 rfl w.heap.size 5 i0 Tryd.underlying69 Tryd.underlying9 hi hz0 hz1 hz2 _ _ _ rfl hown' ⟨x.toArray⟩ rfl ?e1 ?e2 ?e3 ?_))
          case e1 => rw [HSZ.out]; unfold maxLen; omega
          case e2 => rw [HSZ.out]; omega
          case e3 => exact hb1z
          intro v2 w2 hown2 hgrow2 _
          have hb2 := below_grown hb1 hown' hgrow2
          rw [strCells_B8] at hown2; try rw [HSZ.out] at hown2
          have HO : Hid (w2.ownsRow w.heap.size 5 1 v2 (joinD (P.take (k + 1))).length ((joinD (P.take (k + 1))).map B8)) := by
            have h : w2.ownsRow w.heap.size 5 1 v2 (joinD (P.take k) ++ [46] ++ x).length ((joinD (P.take k) ++ [46] ++ x).map B8) := by simpa [B8, Nat.add_assoc, Nat.add_comm 1] using hown2
            rw [HJ.out]; exact h
          clear hown2 hgrow2 hown'
          go_wp2_with fail
          go_roundw
          case rel => exact ⟨k + 1, by omega, by go_num, HO.out, hb2⟩
          case measure => simp [intOf]; omega
    · have hfull : P.take k = P := List.take_of_length_le (by omega)
      rw [hfull] at hown
      have hconv := own_string hown
      clear hown hfull
      go_wp2_with fail
      go_ret
      exact ⟨rfl, hb⟩
end Go.Proofs.YtoeffplfkdogdaaDoor
