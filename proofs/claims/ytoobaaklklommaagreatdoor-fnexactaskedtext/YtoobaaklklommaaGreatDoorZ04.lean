import Derived.Test.YtoobaaklklommaaGreatDoorZ02
import Derived.Test.YtoobaaklklommaaGreatDoorZ03
import Derived.Lib.AppendStr
import Derived.Laws.IdiomStrings
import Derived.Laws.BytesArg
namespace Go.Proofs.YtoobaaklklommaaGreatDoor
open Go.RowKit

/-- A list of texts as it lies in memory. -/
def Row (w : World) (v : Value) (P : List (List UInt8)) : Prop :=
  ∃ a cap, v = .slice a P.length cap ∧ P.length ≤ cap ∧ cap ≤ maxLen ∧ (P = [] ∨ ∃ b o, a = some ⟨b, o, none⟩ ∧ b < w.heap.size ∧ ∀ j, (hj : j < P.length) → w.cell? ⟨b, o + j, none⟩ = some (S P[j]))

theorem Row.below {w w' : World} {v : Value} {P : List (List UInt8)} (h : Row w v P) {B : Nat} (hb : Below B w w') (hB : ∀ a n c, v = .slice (some a) n c → P ≠ [] → a.block < B) : Row w' v P := by
  obtain ⟨a, cap, rfl, h1, h2, h3⟩ := h
  refine ⟨a, cap, rfl, h1, h2, ?_⟩
  rcases h3 with h3 | ⟨b, o, rfl, hb1, hc⟩
  · exact .inl h3
  · by_cases hp : P = []
    · exact .inl hp
    · refine .inr ⟨b, o, rfl, Nat.lt_of_lt_of_le hb1 hb.size, fun j hj => ?_⟩
      rw [hb.cell (p := ⟨b, o + j, none⟩) (show b < B from hB ⟨b, o, none⟩ _ _ rfl hp)]; exact hc j hj
theorem Row.kept {w w' : World} {v : Value} {P : List (List UInt8)} (h : Row w v P) (hb : Below w.heap.size w w') : Row w' v P := by
  refine h.below hb ?_
  obtain ⟨a, cap, rfl, h1, h2, h3⟩ := h
  intro a' n c e hp
  rcases h3 with h3 | ⟨b, o, rfl, hb1, hc⟩
  · exact absurd h3 hp
  · cases e; exact hb1
theorem row_nil (w : World) : Row w (.slice none 0 0) [] := ⟨none, 0, rfl, Nat.le_refl _, by unfold maxLen; omega, .inl rfl⟩
theorem row_own {w : World} {base : Nat} {v : Value} {P : List (List UInt8)} (h : w.ownsRow base 9 1 v P.length (P.map S)) : Row w v P := by
  by_cases hp : P = []
  · subst hp
    obtain ⟨_, ⟨rfl, _⟩ | ⟨g, cap, cur, rfl, hg, hh, hc, hm, hs, hx⟩⟩ := h
    · exact row_nil w
    · exact ⟨_, cap, rfl, hc, hm, .inl rfl⟩
  · obtain ⟨g, cap, rfl, h1, h2, h3, h4, h5⟩ := own_shape h (List.length_pos_iff.2 hp)
    exact ⟨_, cap, rfl, h3, h4, .inr ⟨g, 0, rfl, h2, fun j hj => by rw [Nat.zero_add, h5 j hj, List.getElem?_map, List.getElem?_eq_getElem hj]; rfl⟩⟩

/-- What areLabels tells. -/
def areB (P : List (List UInt8)) : Bool := decide (P.length ≤ 8) && P.all labelB

theorem piece_max {x : List UInt8} (h : x.length ≤ maxLen) : (⟨x.toArray⟩ : ByteArray).size ≤ maxLen := by
  show x.toArray.size ≤ maxLen; simpa using h

set_option maxRecDepth 20000 in
set_option maxHeartbeats 1000000 in
theorem areLabels_any (v : Value) (P : List (List UInt8)) (w : World) (hT : TabIn w) (hr : Row w v P) (hl : Hid (∀ p ∈ P, p.length ≤ maxLen)) :
    Calls Tryz.prog 244 #[v] w fun e w' => e = .returned (.bool (areB P)) ∧ Below w.heap.size w w' := by
  obtain ⟨a, cap, rfl, hcap, hmax, hrow⟩ := hr
  unfold maxLen at hmax
  by_cases h8 : (8 : Int) < (P.length : Int)
  · clear hrow
    go_enter Tryz.func244, Tryz.ntmps244
    go_wp2_with fail
    go_ret
    exact ⟨ret_bool (by unfold areB; rw [decide_eq_false (by omega)]; rfl), Below.refl _ _⟩
  · have HROW : Hid (P = [] ∨ ∃ b o, a = some ⟨b, o, none⟩ ∧ b < w.heap.size ∧ ∀ j, (hj : j < P.length) → w.cell? ⟨b, o + j, none⟩ = some (S P[j])) := hrow
    clear hrow
    go_enter Tryz.func244, Tryz.ntmps244
    go_wp2_with fail
    go_loopw [10] (fun i wr => ∃ k : Nat, k ≤ P.length ∧ i = .int .i64 k ∧ Hid ((P.take k).all labelB = true) ∧ Below w.heap.size w wr) (fun i _ => P.length - (intOf i).toNat)
    case atStart => exact ⟨0, Nat.zero_le _, rfl, rfl, Below.refl _ _⟩
    case round =>
      obtain ⟨k, hk, rfl, HA, hb⟩ := hrel
      have hTr := hT.below hb
      by_cases hlt : k < P.length
      · rcases HROW.out with hr | ⟨b, o, ha, hbl, hc⟩
        · rw [hr] at hlt; simp at hlt
        · rw [ha]
          have hcx : wr.cell? ⟨b, o + k, none⟩ = some (.string ⟨(P[k]'hlt).toArray⟩) := by rw [hb.cell (p := ⟨b, o + k, none⟩) hbl]; exact hc k hlt
          clear hc
          have hpl := piece_max (hl.out (P[k]'hlt) (List.getElem_mem _))
          cases ho : labelB (P[k]'hlt) with
          | true =>
            have HO : Hid (labelB (P[k]'hlt) = true) := ho
            clear ho
            go_wp2_with fail
            refine (isLabel_any _ _ hpl hTr).mono ?_
            rintro e w2 ⟨rfl, hb2⟩
            rw [show (⟨(P[k]'hlt).toArray⟩ : ByteArray).data.toList = P[k]'hlt from rfl, HO.out]
            go_wp2_with fail
            go_roundw
            case rel => exact ⟨k + 1, by omega, by go_num, pieces_step HA.out hlt HO.out, hb.trans (hb2.mono hb.size)⟩
            case measure => simp [intOf]; omega
          | false =>
            have HO : Hid (labelB (P[k]'hlt) = false) := ho
            clear ho
            go_wp2_with fail
            refine (isLabel_any _ _ hpl hTr).mono ?_
            rintro e w2 ⟨rfl, hb2⟩
            rw [show (⟨(P[k]'hlt).toArray⟩ : ByteArray).data.toList = P[k]'hlt from rfl, HO.out]
            go_wp2_with fail
            go_ret
            exact ⟨ret_bool (by unfold areB; rw [pieces_not hlt HO.out, Bool.and_false]), hb.trans (hb2.mono hb.size)⟩
      · go_wp2_with fail
        go_ret
        exact ⟨ret_bool (by unfold areB; rw [pieces_full HA.out hlt, decide_eq_true (by omega)]; rfl), hb⟩

/-- What the walks ask of the world: the table, and a number of the library's own. -/
def Env (w : World) : Prop := TabIn w ∧ ∃ m, w.cell? ⟨4, 0, none⟩ = some (.int .i64 m)
theorem Env.below {w w' : World} (h : Env w) (hb : Below w.heap.size w w') : Env w' := by
  refine ⟨h.1.below hb, ?_⟩
  obtain ⟨m, hm⟩ := h.2
  exact ⟨m, by rw [hb.cell (p := ⟨4, 0, none⟩) (World.block_lt_of_cell? _ _ hm)]; exact hm⟩

theorem own_below {w w' : World} {base e size : Nat} {v : Value} {n : Nat} {xs : List Value} (h : w.ownsRow base e size v n xs) (hb : Below w.heap.size w w') : w'.ownsRow base e size v n xs := by
  have h0 := h
  obtain ⟨hl, hh | ⟨g, cap, cur, rfl, hg, hh, hr⟩⟩ := h
  · exact ⟨hl, .inl hh⟩
  · exact ⟨hl, .inr ⟨g, cap, cur, rfl, hg, by rw [hb.block g (h0.lt g rfl).2]; exact hh, hr⟩⟩

theorem split_pieces (s : ByteArray) : (Lib.splitB ⟨#[46]⟩ 0 (Lib.countB s ⟨#[46]⟩) s).map Value.string = (cut 46 s.data.toList).map S := by
  have h := Lib.splitB_data ⟨#[46]⟩ 0 (Lib.countB s ⟨#[46]⟩) s
  have h2 : Lib.splitK [46] 0 (Lib.countB s ⟨#[46]⟩) s.data.toList = cut 46 s.data.toList := split_one 46 s.data.toList
  rw [← h2, ← show _ = Lib.splitK [46] 0 (Lib.countB s ⟨#[46]⟩) s.data.toList from h, List.map_map]
  rfl
theorem split_count (s : ByteArray) : Lib.countB s ⟨#[46]⟩ + 1 = (cut 46 s.data.toList).length := by
  have h := congrArg List.length (split_pieces s)
  rw [List.length_map, List.length_map, Lib.splitB_all ⟨#[46]⟩ (by decide) 0 _ s rfl] at h
  exact h

theorem split_owns (s : ByteArray) (w : World) (hs : s.size ≤ 60) :
    (w.alloc (.cells ((Lib.splitB ⟨#[46]⟩ 0 (Lib.countB s ⟨#[46]⟩) s).map Value.string).toArray 9)).ownsRow w.heap.size 9 1 (.slice (some ⟨w.heap.size, 0, none⟩) (Lib.countB s ⟨#[46]⟩ + 1) (Lib.countB s ⟨#[46]⟩ + 1)) (cut 46 s.data.toList).length ((cut 46 s.data.toList).map S) := by
  have hle := cut_length_le 46 s.data.toList
  have hsz : s.data.toList.length = s.size := by simp
  rw [split_pieces, split_count]
  refine ⟨by simp, .inr ⟨_, _, _, rfl, Nat.le_refl _, heap_alloc_new _ _, Nat.le_refl _, by unfold maxLen; omega, by simp, ?_⟩⟩
  rw [List.take_of_length_le (by simp)]

theorem name_long {l : List UInt8} (h : 60 < l.length) : nameB l = false := by
  unfold nameB; rw [decide_eq_false (p := l.length ≤ 60) (by omega)]; simp
theorem name_are {l : List UInt8} (hl : ¬ l = []) (h : l.length ≤ 60) : nameB l = areB (cut 46 l) := by
  unfold nameB areB labelsOf; rw [if_neg hl, decide_eq_true h, Bool.true_and, Bool.and_comm]

set_option maxRecDepth 20000 in
set_option maxHeartbeats 1000000 in
theorem splitName_any (s : ByteArray) (w : World) (hE : Env w) :
    Calls Tryz.prog 217 #[.string s] w fun e w' => ∃ v, e = .returned (.tuple #[v, .bool (nameB s.data.toList)]) ∧
      (nameB s.data.toList = true → w'.ownsRow w.heap.size 9 1 v (labelsOf s.data.toList).length ((labelsOf s.data.toList).map S)) ∧ (nameB s.data.toList = false → v = .slice none 0 0) ∧ Below w.heap.size w w' := by
  have HSZ : Hid (s.data.toList.length = s.size) := (by simp : s.data.toList.length = s.size)
  by_cases h0 : s.data.toList = []
  · obtain rfl : s = ⟨#[]⟩ := data_eq h0
    go_enter Tryz.func217, Tryz.ntmps217
    go_wp2_with fail
    go_ret2
    exact ⟨_, rfl, fun _ => World.ownsRow_nil _ _ _ _, fun _ => rfl, Below.refl _ _⟩
  · have H0 : Hid (¬ s.data.toList = []) := h0
    have e0 : (s.toList == []) = false := by rw [ByteArray.toList_eq]; simpa using h0
    clear h0
    by_cases h60 : (60 : Int) < (s.size : Int)
    · go_enter Tryz.func217, Tryz.ntmps217
      go_wp2_with fail
      go_ret2
      have hN := name_long (l := s.data.toList) (by rw [HSZ.out]; omega)
      refine ⟨_, ret_two rfl (val_bool hN.symm), ?_, fun _ => rfl, Below.refl _ _⟩
      intro h; rw [hN] at h; cases h
    · have hN := name_are H0.out (by rw [HSZ.out]; omega)
      have HN : Hid (nameB s.data.toList = areB (cut 46 s.data.toList)) := hN
      clear hN
      obtain ⟨m, hm⟩ := hE.2
      have hT := hE.1
      have hown := split_owns s w (by omega)
      have HOWN : Hid ((w.alloc (.cells ((Lib.splitB ⟨#[46]⟩ 0 (Lib.countB s ⟨#[46]⟩) s).map Value.string).toArray 9)).ownsRow w.heap.size 9 1 (.slice (some ⟨w.heap.size, 0, none⟩) (Lib.countB s ⟨#[46]⟩ + 1) (Lib.countB s ⟨#[46]⟩ + 1)) (cut 46 s.data.toList).length ((cut 46 s.data.toList).map S)) := hown
      clear hown
      go_enter Tryz.func217, Tryz.ntmps217
      go_wp2_with fail
      refine (Tryz.strings_Split s ⟨#[46]⟩ m w (by omega) hm (by decide)).mono ?_
      rintro e w1 ⟨rfl, hw1⟩
      have hb1 : Below w.heap.size w w1 := by rw [hw1]; exact (Below.refl _ _).alloc (Nat.le_refl _) _
      rw [← hw1] at HOWN
      clear hw1 hm
      have hT1 := hT.below hb1
      have hrow := row_own HOWN.out
      have hlen : Hid (∀ p ∈ cut 46 s.data.toList, p.length ≤ maxLen) := fun p hp => by
        have h1 := cut_piece_le 46 _ p hp
        have h2 := HSZ.out
        unfold maxLen; omega
      go_wp2_with fail
      refine (areLabels_any _ _ _ hT1 hrow hlen).mono ?_
      rintro e w2 ⟨rfl, hb2⟩
      have hown2 := own_below HOWN.out hb2
      have hbb := hb1.trans (hb2.mono hb1.size)
      rw [← HN.out]
      have HL : Hid (labelsOf s.data.toList = cut 46 s.data.toList) := by unfold labelsOf; rw [if_neg H0.out]; exact rfl
      cases hN : nameB s.data.toList with
      | true =>
        have HNN : Hid (nameB s.data.toList = true) := hN
        have HO2 : Hid (w2.ownsRow w.heap.size 9 1 (.slice (some ⟨w.heap.size, 0, none⟩) (Lib.countB s ⟨#[46]⟩ + 1) (Lib.countB s ⟨#[46]⟩ + 1)) (cut 46 s.data.toList).length ((cut 46 s.data.toList).map S)) := hown2
        clear hN hown2 hrow
        go_wp2_with fail
        go_ret2
        refine ⟨_, ret_two rfl (val_bool HNN.out.symm), fun _ => ?_, ?_, hbb⟩
        · rw [HL.out]; exact HO2.out
        · intro h; rw [HNN.out] at h; cases h
      | false =>
        have HNN : Hid (nameB s.data.toList = false) := hN
        clear hN hown2 hrow
        go_wp2_with fail
        go_ret2
        refine ⟨_, ret_two rfl (val_bool HNN.out.symm), ?_, fun _ => rfl, hbb⟩
        intro h; rw [HNN.out] at h; cases h

set_option maxRecDepth 20000 in
set_option maxHeartbeats 400000 in
theorem iGoodName_any (s : ByteArray) (w : World) (hE : Env w) :
    Calls Tryz.prog 187 #[.string s] w fun e w' => e = .returned (.bool (nameB s.data.toList)) ∧ Below w.heap.size w w' := by
  go_enter Tryz.func187, Tryz.ntmps187
  go_wp2_with fail
  refine (splitName_any s w hE).mono ?_
  rintro e w1 ⟨v, rfl, _, _, hb⟩
  go_wp2_with fail
  go_ret
  exact ⟨rfl, hb⟩
end Go.Proofs.YtoobaaklklommaaGreatDoor

namespace Go.Proofs.YtoobaaklklommaaGreatDoor
open Go.RowKit

/-- Labels with a dot between. -/
def joinD : List (List UInt8) → List UInt8
  | [] => []
  | p :: r => if r = [] then p else p ++ 46 :: joinD r

theorem joinD_append : ∀ (A B : List (List UInt8)), A ≠ [] → B ≠ [] → joinD (A ++ B) = joinD A ++ 46 :: joinD B
  | [], _, h, _ => absurd rfl h
  | [p], B, _, hB => by simp [joinD, hB]
  | p :: q :: r, B, _, hB => by
    have ih := joinD_append (q :: r) B (by simp) hB
    have e1 : joinD (p :: (q :: r ++ B)) = p ++ 46 :: joinD (q :: r ++ B) := by rw [joinD, if_neg (by simp)]
    have e2 : joinD (p :: q :: r) = p ++ 46 :: joinD (q :: r) := by rw [joinD, if_neg (by simp)]
    rw [List.cons_append, e1, ih, e2]
    simp
theorem joinD_take_le (P : List (List UInt8)) (k : Nat) : (joinD (P.take k)).length ≤ (joinD P).length := by
  by_cases hA : P.take k = []
  · rw [hA]; simp [joinD]
  · by_cases hB : P.drop k = []
    · rw [List.take_of_length_le (by simpa using hB)]; exact Nat.le_refl _
    · have := joinD_append _ _ hA hB
      rw [List.take_append_drop] at this
      rw [this]; simp
theorem joinD_one (P : List (List UInt8)) (h : 0 < P.length) : joinD (P.take 1) = P[0] := by
  match P, h with
  | p :: r, _ => simp [joinD]
theorem joinD_step (P : List (List UInt8)) (k : Nat) (h0 : 0 < k) (h : k < P.length) : joinD (P.take (k + 1)) = joinD (P.take k) ++ [46] ++ P[k] := by
  have hne : P.take k ≠ [] := by
    intro e
    have := congrArg List.length e
    rw [List.length_take, List.length_nil] at this; omega
  rw [List.take_succ_eq_append_getElem h, joinD_append _ _ hne (by simp)]
  simp [joinD]
theorem joinD_cut : ∀ l : List UInt8, joinD (cut 46 l) = l
  | [] => by simp [cut, joinD]
  | c :: l => by
    have ih := joinD_cut l
    unfold cut
    split
    · rename_i h; rw [joinD, if_neg (cut_ne 46 l), ih, h]; rfl
    · split
      · rename_i e; exact absurd e (cut_ne 46 l)
      · rename_i p r e
        rw [e] at ih
        unfold joinD at ih ⊢
        split
        · rename_i hr; rw [if_pos hr] at ih; rw [ih]
        · rename_i hr; rw [if_neg hr] at ih; rw [List.cons_append, ih]

def B8 (b : UInt8) : Value := .int .u8 b.toNat
theorem info_byte : (Tryz.prog.info? 5).map (fun i => (i.zero, i.size, i.bytes)) = some (some (.int .u8 0), 1, 1) := by kernel_rfl

theorem add_zero_off (g j : Nat) : (⟨g, 0, none⟩ : Addr).add j = ⟨g, j, none⟩ := by
  unfold Addr.add; split <;> simp_all

theorem own_string {w : World} {base : Nat} {v : Value} {l : List UInt8} (h : w.ownsRow base 5 1 v l.length (l.map B8)) : Sem.run Tryz.prog (convert 165 9 v) w = .ok (.string ⟨l.toArray⟩) w := by
  have h0 := h
  obtain ⟨hl, ⟨rfl, hn⟩ | ⟨g, cap, cur, rfl, hg, hh, hr⟩⟩ := h
  · obtain rfl : l = [] := List.length_eq_zero_iff.1 hn
    exact run_convert_bytes_nil w 165 5 Tryz.underlying165 Tryz.underlying5 0 0 9 Tryz.underlying9
  · refine run_convert_bytes_back w 165 9 5 ⟨g, 0, none⟩ cap l Tryz.underlying165 Tryz.underlying5 Tryz.underlying9 (fun j hj => ?_)
    have e := h0.cellAt j (by omega)
    rw [show (⟨g, 0, none⟩ : Addr).add j = ⟨g, j, none⟩ from add_zero_off g j]
    rw [e, List.getElem?_map, List.getElem?_eq_getElem hj]; rfl

theorem below_grown {w wr w1 : World} {e : TypeId} {v : Value} {n : Nat} {xs : List Value} (hb : Below w.heap.size w wr) (hown : wr.ownsRow w.heap.size e 1 v n xs) (hgrow : wr.grownBy w1 v.ownBlock) : Below w.heap.size w w1 :=
  hb.grown hgrow hb.size (fun k hk => (hown.lt k hk).1)
theorem below_grown1 {w wr w1 : World} {e : TypeId} {v : Value} {n : Nat} {xs : List Value} {o : Obj} (hb : Below w.heap.size w wr) (hown : wr.ownsRow w.heap.size e 1 v n xs) (hgrow : (wr.alloc o).grownBy w1 v.ownBlock) : Below w.heap.size w w1 :=
  (hb.alloc hb.size o).grown hgrow (by have := hb.size; simp; omega) (fun k hk => (hown.lt k hk).1)

theorem strCells_B8 (x : List UInt8) : Lib.strCells ⟨x.toArray⟩ = x.map B8 := by
  simp [Lib.strCells, B8]
theorem size_list (x : List UInt8) : (⟨x.toArray⟩ : ByteArray).size = x.length := by show x.toArray.size = _; simp

theorem one_byte46 : ∀ u ∈ [Value.int .u8 46], u.oneCell' = true := by
  intro u hu; simp at hu; subst hu; rfl

set_option maxRecDepth 20000 in
set_option maxHeartbeats 1000000 in
theorem joinLabels_any (v : Value) (P : List (List UInt8)) (w : World) (hr : Row w v P) (hl : Hid ((joinD P).length ≤ 1048576)) :
    Calls Tryz.prog 305 #[v] w fun e w' => e = .returned (.string ⟨(joinD P).toArray⟩) ∧ Below w.heap.size w w' := by
  obtain ⟨i0, hi, hz0, hz1, hz2⟩ := info_parts info_byte
  obtain ⟨a, cap, rfl, hcap, hmax, hrow⟩ := hr
  unfold maxLen at hmax
  have HROW : Hid (P = [] ∨ ∃ b o, a = some ⟨b, o, none⟩ ∧ b < w.heap.size ∧ ∀ j, (hj : j < P.length) → w.cell? ⟨b, o + j, none⟩ = some (S P[j])) := hrow
  clear hrow
  go_enter Tryz.func305, Tryz.ntmps305
  go_wp2_with fail
  go_loopw [3, 8] (fun v i wr => ∃ k : Nat, k ≤ P.length ∧ i = .int .i64 k ∧ wr.ownsRow w.heap.size 5 1 v (joinD (P.take k)).length ((joinD (P.take k)).map B8) ∧ Below w.heap.size w wr) (fun _ i _ => P.length - (intOf i).toNat)
  case atStart => exact ⟨0, Nat.zero_le _, rfl, World.ownsRow_nil _ _ _ _, Below.refl _ _⟩
  case round =>
    obtain ⟨k, hk, rfl, hown, hb⟩ := hrel
    have hbz := hb.size
    have hjl : (joinD (P.take k)).length ≤ 1048576 := Nat.le_trans (joinD_take_le P k) hl.out
    by_cases hlt : k < P.length
    · rcases HROW.out with hr | ⟨b, o, ha, hbl, hc⟩
      · rw [hr] at hlt; simp at hlt
      · rw [ha]
        have hcx : wr.cell? ⟨b, o + k, none⟩ = some (.string ⟨(P[k]'hlt).toArray⟩) := by rw [hb.cell (p := ⟨b, o + k, none⟩) hbl]; exact hc k hlt
        clear hc
        obtain ⟨x, hx⟩ : ∃ x, x = P[k]'hlt := ⟨_, rfl⟩
        rw [← hx] at hcx
        have hxl := joinD_take_le P (k + 1)
        have hsz := size_list x
        have HSZ : Hid ((⟨x.toArray⟩ : ByteArray).size = x.length) := hsz
        clear hsz
        by_cases h0 : k = 0
        · subst h0
          rw [Nat.add_zero] at hcx
          have hJ := joinD_one P hlt
          rw [← hx] at hJ
          rw [show 0 + 1 = 1 from rfl, hJ] at hxl
          have HJ : Hid (joinD (P.take 1) = x) := hJ
          have hlo := hl.out
          clear hJ hx
          go_wp2_with (at_builtin; (refine Lib.wpList_append_own_string _ rfl (.tmp 18) (.tmp 19) 165 9 rfl w.heap.size 5 i0 Tryz.underlying165 Tryz.underlying9 hi hz0 hz1 hz2 _ _ _ rfl hown ⟨x.toArray⟩ rfl ?c1 ?c2 ?c3 ?_))
          case c1 => rw [HSZ.out]; unfold maxLen; omega
          case c2 => rw [HSZ.out]; omega
          case c3 => exact hbz
          intro v' w1 hown' hgrow _
          have hb1 := below_grown hb hown hgrow
          rw [strCells_B8] at hown'; try rw [HSZ.out] at hown'
          have HO : Hid (w1.ownsRow w.heap.size 5 1 v' (joinD (P.take 1)).length ((joinD (P.take 1)).map B8)) := by
            have h : w1.ownsRow w.heap.size 5 1 v' x.length (x.map B8) := by simpa [joinD] using hown'
            rw [HJ.out]; exact h
          clear hown' hgrow hown
          go_wp2_with fail
          go_roundw
          case rel => exact ⟨1, by omega, by go_num, HO.out, hb1⟩
          case measure => simp [intOf]; omega
        · have hJ := joinD_step P k (by omega) hlt
          rw [← hx] at hJ
          rw [hJ] at hxl
          have HJ : Hid (joinD (P.take (k + 1)) = joinD (P.take k) ++ [46] ++ x) := hJ
          have hlo := hl.out
          simp only [List.length_append, List.length_cons, List.length_nil] at hxl
          have hk0 : (0 : Int) < (k : Int) := by omega
          clear hJ hx
          have hown1 := hown.alloc (.cells #[.int .u8 46] 5)
          go_wp2_with (first | (at_builtin; refine wpList_append_own _ rfl (.tmp 15) (.tmp 16) 165 rfl w.heap.size 5 i0 (.int .u8 0) 1 1 Tryz.underlying165 hi hz0 hz1 hz2 rfl (by decide) _ _ _ rfl hown1 ⟨wr.heap.size, 0, none⟩ 1 1 [.int .u8 46] rfl rfl ?d1 ?d2 ?d3 ?d4 ?d5 ?_))
          case d1 => exact cell_new_one _ _ _
          case d2 => exact one_byte46
          case d3 => unfold maxLen; omega
          case d4 => omega
          case d5 => simp; omega
          intro v1 w1 hown' hgrow _
          have hb1 := below_grown1 hb hown hgrow
          have hb1z := hb1.size
          clear hgrow hown hown1 hcx
          go_wp2_with (first | (at_builtin; refine Lib.wpList_append_own_string _ rfl (.tmp 18) (.tmp 19) 165 9 rfl w.heap.size 5 i0 Tryz.underlying165 Tryz.underlying9 hi hz0 hz1 hz2 _ _ _ rfl hown' ⟨x.toArray⟩ rfl ?e1 ?e2 ?e3 ?_))
          case e1 => rw [HSZ.out]; unfold maxLen; omega
          case e2 => rw [HSZ.out]; omega
          case e3 => exact hb1z
          intro v2 w2 hown2 hgrow2 _
          have hb2 := below_grown hb1 hown' hgrow2
          rw [strCells_B8] at hown2; try rw [HSZ.out] at hown2
          have HO : Hid (w2.ownsRow w.heap.size 5 1 v2 (joinD (P.take (k + 1))).length ((joinD (P.take (k + 1))).map B8)) := by
            have h : w2.ownsRow w.heap.size 5 1 v2 (joinD (P.take k) ++ [46] ++ x).length ((joinD (P.take k) ++ [46] ++ x).map B8) := by simpa [B8, Nat.add_assoc, Nat.add_comm 1] using hown2
            rw [HJ.out]; exact h
          clear hown2 hgrow2 hown'
          go_wp2_with fail
          go_roundw
          case rel => exact ⟨k + 1, by omega, by go_num, HO.out, hb2⟩
          case measure => simp [intOf]; omega
    · have hfull : P.take k = P := List.take_of_length_le (by omega)
      rw [hfull] at hown
      have hconv := own_string hown
      clear hown hfull
      go_wp2_with fail
      go_ret
      exact ⟨rfl, hb⟩
end Go.Proofs.YtoobaaklklommaaGreatDoor

namespace Go.Proofs.YtoobaaklklommaaGreatDoor
open Go.RowKit

/-- The first place of a text in a list, -1 where there is none. -/
def idxI (T : List (List UInt8)) (x : List UInt8) : Int := if T.idxOf x < T.length then (T.idxOf x : Int) else -1
theorem idx_hit {T : List (List UInt8)} {x : List UInt8} {k : Nat} (hk : k < T.length) (h : T[k] = x) (hb : ∀ j, (hj : j < k) → T[j] ≠ x) : T.idxOf x = k := by
  unfold List.idxOf
  rw [List.findIdx_eq hk]
  refine ⟨by simpa using h, fun j hj => by simpa using hb j hj⟩
theorem idxI_hit {T : List (List UInt8)} {x : List UInt8} {k : Nat} (hk : k < T.length) (h : T[k] = x) (hb : ∀ j, (hj : j < k) → T[j] ≠ x) : idxI T x = k := by
  unfold idxI; rw [idx_hit hk h hb, if_pos hk]
theorem idxI_miss {T : List (List UInt8)} {x : List UInt8} (hb : ∀ j, (hj : j < T.length) → T[j] ≠ x) : idxI T x = -1 := by
  unfold idxI; rw [if_neg]
  intro h
  exact hb _ h (List.getElem_idxOf h)
theorem ret_intI {a b : Int} (h : a = b) : Ending.returned (.int .i64 a) = .returned (.int .i64 b) := by rw [h]

theorem row_valueI {w : World} {v : Value} {P : List (List UInt8)} (h : Row w v P) :
    ∃ a cap, v = .slice a P.length cap ∧ P.length ≤ cap ∧ cap ≤ 9223372036854775807 ∧ Hid (0 < P.length → ∃ b o, a = some ⟨b, o, none⟩ ∧ b < w.heap.size ∧ ∀ j, (hj : j < P.length) → w.cell? ⟨b, o + j, none⟩ = some (S P[j])) := by
  obtain ⟨a, cap, rfl, h1, h2, h3⟩ := h
  refine ⟨a, cap, rfl, h1, by unfold maxLen at h2; omega, fun hp => ?_⟩
  rcases h3 with h3 | h3
  · rw [h3] at hp; simp at hp
  · exact h3

set_option maxRecDepth 20000 in
set_option maxHeartbeats 1000000 in
theorem index_any (v : Value) (T : List (List UInt8)) (x : List UInt8) (w : World) (hr : Row w v T) :
    Calls Tryz.prog 306 #[v, .string ⟨x.toArray⟩] w fun e w' => e = .returned (.int .i64 (idxI T x)) ∧ w' = w := by
  obtain ⟨a, cap, rfl, hcap, hmax, HROW⟩ := row_valueI hr
  clear hr
  go_enter Tryz.func306, Tryz.ntmps306
  go_wp2_with fail
  go_loop [8] (fun i => ∃ k : Nat, k ≤ T.length ∧ i = .int .i64 k ∧ Hid (∀ j, (hj : j < T.length) → j < k → T[j] ≠ x)) (fun i => T.length - (intOf i).toNat)
  case atStart => exact ⟨0, Nat.zero_le _, rfl, fun j _ hj => absurd hj (Nat.not_lt_zero j)⟩
  case round =>
    obtain ⟨k, hk, rfl, HA⟩ := hrel
    by_cases hlt : k < T.length
    · obtain ⟨b, o, ha, hbl, hc⟩ := HROW.out (by omega)
      rw [ha]
      have hcx := hc k hlt
      clear hc
      obtain ⟨y, hy⟩ : ∃ y, y = T[k]'hlt := ⟨_, rfl⟩
      rw [← hy] at hcx
      unfold S at hcx
      by_cases hxy : y = x
      · have HR : Hid (idxI T x = k) := idxI_hit hlt (by rw [← hy]; exact hxy) (fun j hj => HA.out j (by omega) hj)
        subst hxy
        clear hy
        go_wp2_with fail
        go_ret
        exact ⟨ret_intI HR.out.symm, rfl⟩
      · have e1 : (x == y) = false := by simpa using fun h => hxy h.symm
        have HR : Hid (∀ j, (hj : j < T.length) → j < k + 1 → T[j] ≠ x) := fun j hj hjk => by
          by_cases e : j = k
          · subst e; rw [← hy]; exact hxy
          · exact HA.out j hj (by omega)
        clear hxy hy
        go_wp2_with fail
        go_round
        case rel => exact ⟨k + 1, by omega, by go_num, HR⟩
        case measure => simp [intOf]; omega
    · have HR : Hid (idxI T x = -1) := idxI_miss (fun j hj => HA.out j hj (by omega))
      go_wp2_with fail
      go_ret
      exact ⟨ret_intI HR.out.symm, rfl⟩
end Go.Proofs.YtoobaaklklommaaGreatDoor

namespace Go.Proofs.YtoobaaklklommaaGreatDoor
open Go.RowKit

/-- Bytes as they lie in a block of the call's own. -/
def BRow (w : World) (g : Nat) (l : List UInt8) : Prop := g < w.heap.size ∧ ∀ j, (hj : j < l.length) → w.cell? ⟨g, j, none⟩ = some (.int .u8 (l[j].toNat : Int)) ∧ w.frozen? ⟨g, j, none⟩ = false
theorem BRow.kept {w w' : World} {g : Nat} {l : List UInt8} (h : BRow w g l) (hb : Below w.heap.size w w') : BRow w' g l :=
  ⟨Nat.lt_of_lt_of_le h.1 hb.size, fun j hj => by rw [hb.cell (p := ⟨g, j, none⟩) h.1, hb.frozen (p := ⟨g, j, none⟩) h.1]; exact h.2 j hj⟩
theorem BRow.set {w : World} {g : Nat} {l : List UInt8} (h : BRow w g l) (k : Nat) (hk : k < l.length) (c : UInt8) : BRow (w.setCell ⟨g, k, none⟩ (.int .u8 (c.toNat : Int))) g (l.set k c) := by
  refine ⟨by simpa using h.1, fun j hj => ?_⟩
  have hj' : j < l.length := by simpa using hj
  refine ⟨?_, by simpa using (h.2 j hj').2⟩
  rw [List.getElem_set]
  split
  · rename_i e; subst e; exact World.cell?_setCell_same _ _ _ (h.2 k hk).1
  · rename_i e
    rw [World.cell?_setCell_other _ _ _ _ (show (⟨g, k, none⟩ : Addr) ≠ ⟨g, j, none⟩ by intro h; cases h; exact e rfl)]
    exact (h.2 j hj').1

theorem bytes_of (s : ByteArray) (w : World) (hs : s.size ≤ maxLen) :
    ∃ cap W0, Sem.run Tryz.prog (convert 9 165 (.string s)) w = .ok (.slice (some ⟨w.heap.size, 0, none⟩) s.size cap) W0 ∧ BRow W0 w.heap.size s.data.toList ∧ s.size ≤ cap ∧ cap ≤ maxLen ∧ Below w.heap.size w W0 := by
  refine ⟨_, _, run_bytes_of_string w 9 165 5 s Tryz.underlying9 Tryz.underlying165 Tryz.underlying5, ?_, grownCap_ge _ _ _ _, grownCap_le_maxLen _ _ _ _ hs, ?_⟩
  · have hz : s.data.toList.length = s.size := by simp
    have hn : ∀ (C : Array Value) (fr : Nat × Nat), (w.drew.alloc (.cells C 5 fr)).heap[w.heap.size]? = some (.cells C 5 fr) := fun C fr => by
      show (w.heap.push (.cells C 5 fr))[w.heap.size]? = _
      simp
    refine ⟨by simp, fun j hj => ⟨?_, ?_⟩⟩
    · have := World.cell?_alloc_mark w.drew (bytesRow s (grownCap w s.size 0 5)) 5 ((bytesRow s (grownCap w s.size 0 5)).size, (bytesRow s (grownCap w s.size 0 5)).size + 1) j
      rw [show w.drew.heap.size = w.heap.size from rfl] at this
      rw [this]
      unfold bytesRow
      rw [Array.getElem?_append_left (by simpa using hj)]
      simp at hj
      simp [hj]
    · simp only [World.frozen?]
      rw [hn]
      have hle : j < (bytesRow s (grownCap w s.size 0 5)).size := by
        unfold bytesRow
        rw [hz] at hj
        simp only [Array.size_append, Array.size_map]
        exact Nat.lt_of_lt_of_le hj (Nat.le_add_right _ _)
      simp; omega
  · exact ((Below.refl _ _).drew).alloc (Nat.le_refl _) _

theorem string_of {w : World} {g cap : Nat} {l : List UInt8} (h : BRow w g l) (n : Nat) (hn : n = l.length) : Sem.run Tryz.prog (convert 165 9 (.slice (some ⟨g, 0, none⟩) n cap)) w = .ok (.string ⟨l.toArray⟩) w := by
  subst hn
  refine run_convert_bytes_back w 165 9 5 ⟨g, 0, none⟩ cap l Tryz.underlying165 Tryz.underlying5 Tryz.underlying9 (fun j hj => ?_)
  rw [add_zero_off]; exact (h.2 j hj).1

/-- Great letters become small. -/
def foldC (c : UInt8) : UInt8 := if 65 ≤ c.toNat ∧ c.toNat ≤ 90 then c + 32 else c
theorem foldC_toNat {c : UInt8} (h1 : 65 ≤ c.toNat) (h2 : c.toNat ≤ 90) : (foldC c).toNat = c.toNat + 32 := by
  unfold foldC; rw [if_pos ⟨h1, h2⟩, UInt8.toNat_add]
  show (c.toNat + 32) % 256 = _
  omega
theorem foldC_same {c : UInt8} (h : ¬ (65 ≤ c.toNat ∧ c.toNat ≤ 90)) : foldC c = c := by unfold foldC; rw [if_neg h]
/-- Behind k rounds. -/
def mix (l : List UInt8) (k : Nat) : List UInt8 := (l.take k).map foldC ++ l.drop k
theorem mix_length (l : List UInt8) (k : Nat) : (mix l k).length = l.length := by simp [mix]; omega
theorem mix_zero (l : List UInt8) : mix l 0 = l := by simp [mix]
theorem mix_end (l : List UInt8) (k : Nat) (h : ¬ k < l.length) : mix l k = l.map foldC := by
  unfold mix; rw [List.take_of_length_le (by omega), List.drop_of_length_le (by omega), List.append_nil]
theorem mix_at (l : List UInt8) (k : Nat) (h : k < l.length) : (mix l k)[k]'(by rw [mix_length]; exact h) = l[k] := by
  unfold mix
  rw [List.getElem_append_right (by simp; omega)]
  simp only [List.length_map, List.length_take]
  simp only [List.getElem_drop]
  congr 1; omega
theorem mix_next (l : List UInt8) (k : Nat) (h : k < l.length) : mix l (k + 1) = (mix l k).set k (foldC l[k]) := by
  unfold mix
  have hm : ((l.take k).map foldC).length = k := by simp; omega
  rw [List.take_succ_eq_append_getElem h, List.set_append_right _ _ (by omega), hm, Nat.sub_self, List.drop_eq_getElem_cons h]
  simp only [List.map_append, List.map_cons, List.map_nil, List.set_cons_zero, List.append_assoc, List.singleton_append]
theorem mix_same (l : List UInt8) (k : Nat) (h : k < l.length) (hc : foldC l[k] = l[k]) : mix l (k + 1) = mix l k := by
  rw [mix_next l k h, hc]
  have := mix_at l k h
  apply List.ext_getElem
  · simp
  · intro i h1 h2
    rw [List.getElem_set]
    split
    · rename_i e; subst e; exact this.symm
    · rfl

/-- What FoldName tells. -/
def foldT (l : List UInt8) : List UInt8 := if l.length ≤ 60 ∧ nameB (l.map foldC) = true then l.map foldC else []
def foldB (l : List UInt8) : Bool := decide (l.length ≤ 60) && nameB (l.map foldC)



end Go.Proofs.YtoobaaklklommaaGreatDoor

namespace Go.Proofs.YtoobaaklklommaaGreatDoor
open Go.RowKit

def I64 (n : Nat) : Value := .int .i64 (n : Int)
theorem info_int : (Tryz.prog.info? 3).map (fun i => (i.zero, i.size, i.bytes)) = some (some (.int .i64 0), 1, 8) := by kernel_rfl
theorem one_int (n : Int) : ∀ u ∈ [Value.int .i64 n], u.oneCell' = true := by
  intro u hu; simp at hu; subst hu; rfl

/-- A list of places as it lies in memory. -/
def IRow (w : World) (v : Value) (ps : List Nat) : Prop :=
  ∃ a cap, v = .slice a ps.length cap ∧ ps.length ≤ cap ∧ cap ≤ maxLen ∧ (ps = [] ∨ ∃ b o, a = some ⟨b, o, none⟩ ∧ b < w.heap.size ∧ ∀ j, (hj : j < ps.length) → w.cell? ⟨b, o + j, none⟩ = some (.int .i64 ((ps[j] : Nat) : Int)))
theorem irow_nil (w : World) : IRow w (.slice none 0 0) [] := ⟨none, 0, rfl, Nat.le_refl _, by unfold maxLen; omega, .inl rfl⟩
theorem IRow.kept {w w' : World} {v : Value} {ps : List Nat} (h : IRow w v ps) (hb : Below w.heap.size w w') : IRow w' v ps := by
  obtain ⟨a, cap, rfl, h1, h2, h3⟩ := h
  refine ⟨a, cap, rfl, h1, h2, ?_⟩
  rcases h3 with h3 | ⟨b, o, rfl, hb1, hc⟩
  · exact .inl h3
  · exact .inr ⟨b, o, rfl, Nat.lt_of_lt_of_le hb1 hb.size, fun j hj => by rw [hb.cell (p := ⟨b, o + j, none⟩) hb1]; exact hc j hj⟩
theorem irow_value {w : World} {v : Value} {ps : List Nat} (h : IRow w v ps) :
    ∃ a cap, v = .slice a ps.length cap ∧ ps.length ≤ cap ∧ cap ≤ 9223372036854775807 ∧ Hid (0 < ps.length → ∃ b o, a = some ⟨b, o, none⟩ ∧ b < w.heap.size ∧ ∀ j, (hj : j < ps.length) → w.cell? ⟨b, o + j, none⟩ = some (.int .i64 ((ps[j] : Nat) : Int))) := by
  obtain ⟨a, cap, rfl, h1, h2, h3⟩ := h
  refine ⟨a, cap, rfl, h1, by unfold maxLen at h2; omega, fun hp => ?_⟩
  rcases h3 with h3 | h3
  · rw [h3] at hp; simp at hp
  · exact h3


theorem irow_own {w : World} {base : Nat} {v : Value} {ps : List Nat} (h : w.ownsRow base 3 1 v ps.length (ps.map I64)) : IRow w v ps := by
  have h0 := h
  obtain ⟨_, ⟨rfl, hn⟩ | ⟨g, cap, cur, rfl, hg, hh, hc, hm, hs, hx⟩⟩ := h
  · obtain rfl : ps = [] := List.length_eq_zero_iff.1 hn
    exact irow_nil w
  · exact ⟨_, cap, rfl, hc, hm, .inr ⟨g, 0, rfl, (h0.lt g rfl).2, fun j hj => by rw [Nat.zero_add, h0.cellAt j (by omega), List.getElem?_map, List.getElem?_eq_getElem hj]; rfl⟩⟩

/-- Places as they lie in a block of the call's own. -/
def ISRow (w : World) (g : Nat) (ps : List Nat) : Prop := g < w.heap.size ∧ ∀ j, (hj : j < ps.length) → w.cell? ⟨g, j, none⟩ = some (.int .i64 ((ps[j] : Nat) : Int)) ∧ w.frozen? ⟨g, j, none⟩ = false
theorem ISRow.kept {w w' : World} {g : Nat} {ps : List Nat} (h : ISRow w g ps) (hb : Below w.heap.size w w') : ISRow w' g ps :=
  ⟨Nat.lt_of_lt_of_le h.1 hb.size, fun j hj => by rw [hb.cell (p := ⟨g, j, none⟩) h.1, hb.frozen (p := ⟨g, j, none⟩) h.1]; exact h.2 j hj⟩
theorem ISRow.set {w : World} {g : Nat} {ps : List Nat} (h : ISRow w g ps) (k : Nat) (hk : k < ps.length) (c : Nat) : ISRow (w.setCell ⟨g, k, none⟩ (.int .i64 (c : Int))) g (ps.set k c) := by
  refine ⟨by simpa using h.1, fun j hj => ?_⟩
  have hj' : j < ps.length := by simpa using hj
  refine ⟨?_, by simpa using (h.2 j hj').2⟩
  rw [List.getElem_set]
  split
  · rename_i e; subst e; exact World.cell?_setCell_same _ _ _ (h.2 k hk).1
  · rename_i e
    rw [World.cell?_setCell_other _ _ _ _ (show (⟨g, k, none⟩ : Addr) ≠ ⟨g, j, none⟩ by intro h; cases h; exact e rfl)]
    exact (h.2 j hj').1
/-- A list of places that the call owns, or nil. -/
def OwnI (w : World) (base : Nat) (v : Value) (ps : List Nat) : Prop :=
  (v = .slice none 0 0 ∧ ps = []) ∨ ∃ g cap, v = .slice (some ⟨g, 0, none⟩) ps.length cap ∧ ps.length ≤ cap ∧ cap ≤ maxLen ∧ base ≤ g ∧ ISRow w g ps
theorem OwnI.row {w : World} {base : Nat} {v : Value} {ps : List Nat} (h : OwnI w base v ps) : IRow w v ps := by
  rcases h with ⟨rfl, rfl⟩ | ⟨g, cap, rfl, h1, h2, _, hs⟩
  · exact irow_nil w
  · exact ⟨_, cap, rfl, h1, h2, .inr ⟨g, 0, rfl, hs.1, fun j hj => by rw [Nat.zero_add]; exact (hs.2 j hj).1⟩⟩
theorem OwnI.kept {w w' : World} {base : Nat} {v : Value} {ps : List Nat} (h : OwnI w base v ps) (hb : Below w.heap.size w w') : OwnI w' base v ps := by
  rcases h with h | ⟨g, cap, rfl, h1, h2, h3, hs⟩
  · exact .inl h
  · exact .inr ⟨g, cap, rfl, h1, h2, h3, hs.kept hb⟩
theorem OwnI.block {w : World} {base : Nat} {v : Value} {ps : List Nat} (h : OwnI w base v ps) : ∀ k, v.ownBlock = some k → base ≤ k := by
  rcases h with ⟨rfl, _⟩ | ⟨g, cap, rfl, _, _, hb, _⟩
  · intro k hk; cases hk
  · intro k hk; cases hk; exact hb
theorem owni_own {w : World} {base : Nat} {v : Value} {ps : List Nat} (h : w.ownsRow base 3 1 v ps.length (ps.map I64)) : OwnI w base v ps := by
  have h0 := h
  obtain ⟨_, ⟨rfl, hn⟩ | ⟨g, cap, cur, rfl, hg, hh, hc, hm, hs, hx⟩⟩ := h
  · exact .inl ⟨rfl, List.length_eq_zero_iff.1 hn⟩
  · exact .inr ⟨g, cap, rfl, hc, hm, hg, (h0.lt g rfl).2, fun j hj => ⟨by rw [h0.cellAt j (by omega), List.getElem?_map, List.getElem?_eq_getElem hj]; rfl, h0.frozenAt j⟩⟩
end Go.Proofs.YtoobaaklklommaaGreatDoor

namespace Go.Proofs.YtoobaaklklommaaGreatDoor
open Go.RowKit

/-- Whether the one is the other, or ends with a dot and it, or the other is the root. -/
def belowB (a b : List UInt8) : Bool := b == [] || (a == b || Lib.hasSuffix a (46 :: b))

theorem suffix_iff {a b : List UInt8} (h : b.length < a.length) : Lib.hasSuffix a (46 :: b) = (a.drop (a.length - b.length) == b && a[a.length - b.length - 1]'(by omega) == 46) := by
  rw [← Lib.hasSuffix_of_drop, decide_eq_true (by simp; omega), Bool.true_and]
  have e : a.length - (46 :: b).length = a.length - b.length - 1 := by simp; omega
  rw [e, List.drop_eq_getElem_cons (by omega : a.length - b.length - 1 < a.length), show a.length - b.length - 1 + 1 = a.length - b.length by omega]
  rw [Bool.eq_iff_iff]
  simp only [beq_iff_eq, List.cons.injEq, Bool.and_eq_true]
  exact ⟨fun h => ⟨h.2, h.1⟩, fun h => ⟨h.2, h.1⟩⟩
theorem suffix_no {a b : List UInt8} (h : a.length ≤ b.length) : Lib.hasSuffix a (46 :: b) = false := by
  rw [← Lib.hasSuffix_of_drop, decide_eq_false (by simp; omega), Bool.false_and]

theorem byte_eq (c : UInt8) : ((c.toNat : Int) == 46) = (c == 46) := by
  rw [Bool.eq_iff_iff]; simp only [beq_iff_eq]
  exact ⟨fun h => UInt8.toNat_inj.1 (by show c.toNat = 46; omega), fun h => by rw [h]; rfl⟩
theorem toList_beq (a b : ByteArray) : (a.toList == b.toList) = (a.data.toList == b.data.toList) := by rw [ByteArray.toList_eq, ByteArray.toList_eq]

set_option maxRecDepth 20000 in
set_option maxHeartbeats 1000000 in
theorem l1Below_any (a b : ByteArray) (w : World) (ha : a.size ≤ 4294967280) (hb : b.size ≤ 4294967280) :
    Calls Tryz.prog 153 #[.string a, .string b] w fun e w' => e = .returned (.bool (belowB a.data.toList b.data.toList)) ∧ w' = w := by
  have la : a.data.toList.length = a.size := by simp
  have lb : b.data.toList.length = b.size := by simp
  by_cases h1 : b.data.toList = []
  · have HB : Hid (belowB a.data.toList b.data.toList = true) := by unfold belowB; rw [h1]; exact rfl
    have e1 : (b.toList == []) = true := by rw [ByteArray.toList_eq]; simpa using h1
    clear h1 la lb
    go_enter Tryz.func153, Tryz.ntmps153
    go_wp2_with fail
    go_ret
    exact ⟨ret_bool HB.out.symm, rfl⟩
  · have e1 : (b.toList == []) = false := by rw [ByteArray.toList_eq]; simpa using h1
    by_cases h2 : a.data.toList = b.data.toList
    · have HB : Hid (belowB a.data.toList b.data.toList = true) := by unfold belowB; rw [h2]; exact (show (b.data.toList == [] || (b.data.toList == b.data.toList || _)) = true by simp)
      have e2 : (a.toList == b.toList) = true := by rw [toList_beq]; simpa using h2
      clear h1 h2 la lb
      go_enter Tryz.func153, Tryz.ntmps153
      go_wp2_with fail
      go_ret
      exact ⟨ret_bool HB.out.symm, rfl⟩
    · have e2 : (a.toList == b.toList) = false := by rw [toList_beq]; simpa using h2
      have hbe : belowB a.data.toList b.data.toList = Lib.hasSuffix a.data.toList (46 :: b.data.toList) := by
        unfold belowB; rw [beq_eq_false_iff_ne.2 h1, beq_eq_false_iff_ne.2 h2]; rfl
      by_cases h3 : a.size ≤ b.size
      · have HB : Hid (belowB a.data.toList b.data.toList = false) := by rw [hbe, suffix_no (by omega)]; exact rfl
        have d3 : decide ((0 : Int) < (a.size : Int) - (b.size : Int)) = false := by simp; omega
        clear h1 h2 la lb hbe
        go_enter Tryz.func153, Tryz.ntmps153
        go_wp2_with fail
        go_ret
        exact ⟨ret_bool HB.out.symm, rfl⟩
      · have hs := suffix_iff (a := a.data.toList) (b := b.data.toList) (by omega)
        have hd : a.data.toList.length - b.data.toList.length = a.size - b.size := by omega
        have hlt : a.size - b.size - 1 < a.size := by omega
        have hgi : a.data.toList[a.data.toList.length - b.data.toList.length - 1]'(by omega) = a[a.size - b.size - 1] := by
          show _ = a.data.toList[a.size - b.size - 1]'(by simpa using hlt)
          congr 1
        rw [hgi, hd] at hs
        have he : (a.extract (a.size - b.size) a.size).data.toList = a.data.toList.drop (a.size - b.size) := by
          rw [Lib.extract_data, List.take_of_length_le (by simp)]
        have d3 : decide ((0 : Int) < (a.size : Int) - (b.size : Int)) = true := by simp; omega
        have x1 : ((a.extract (a.size - b.size) a.size).toList == b.toList) = (a.data.toList.drop (a.size - b.size) == b.data.toList) := by rw [toList_beq, he]
        have HB : Hid (belowB a.data.toList b.data.toList = (((a.extract (a.size - b.size) a.size).toList == b.toList) && a[a.size - b.size - 1] == 46)) := by rw [hbe, hs, x1]; exact rfl
        cases h4 : ((a.extract (a.size - b.size) a.size).toList == b.toList) with
        | true =>
          have HB2 : Hid (belowB a.data.toList b.data.toList = (a[a.size - b.size - 1] == 46)) := by rw [HB.out, h4, Bool.true_and]; exact rfl
          clear h1 h2 la lb hbe hs hd hgi he x1 HB
          go_enter Tryz.func153, Tryz.ntmps153
          go_wp2_with fail
          go_ret
          exact ⟨ret_bool (by rw [HB2.out]; exact byte_eq _), rfl⟩
        | false =>
          have HB2 : Hid (belowB a.data.toList b.data.toList = false) := by rw [HB.out, h4, Bool.false_and]; exact rfl
          clear h1 h2 la lb hbe hs hd hgi he x1 HB
          go_enter Tryz.func153, Tryz.ntmps153
          go_wp2_with fail
          go_ret
          exact ⟨ret_bool HB2.out.symm, rfl⟩

set_option maxRecDepth 20000 in
set_option maxHeartbeats 400000 in
theorem liesBelow_any (a b : ByteArray) (w : World) (ha : a.size ≤ 4294967280) (hb : b.size ≤ 4294967280) :
    Calls Tryz.prog 190 #[.string a, .string b] w fun e w' => e = .returned (.bool (belowB a.data.toList b.data.toList)) ∧ w' = w := by
  by_cases h4 : a.data.toList = b.data.toList
  · have HB : Hid (belowB a.data.toList b.data.toList = true) := by unfold belowB; rw [h4]; exact (show (b.data.toList == [] || (b.data.toList == b.data.toList || _)) = true by simp)
    have e2 : (a.toList == b.toList) = true := by rw [toList_beq]; simpa using h4
    clear h4
    go_enter Tryz.func190, Tryz.ntmps190
    go_wp2_with fail
    go_ret
    exact ⟨ret_bool HB.out.symm, rfl⟩
  · have e2 : (a.toList == b.toList) = false := by rw [toList_beq]; simpa using h4
    by_cases h5 : b.data.toList = []
    · have HB : Hid (belowB a.data.toList b.data.toList = true) := by unfold belowB; rw [h5]; exact rfl
      have e1 : (b.toList == []) = true := by rw [ByteArray.toList_eq]; simpa using h5
      clear h4 h5
      go_enter Tryz.func190, Tryz.ntmps190
      go_wp2_with fail
      go_ret
      exact ⟨ret_bool HB.out.symm, rfl⟩
    · have HB : Hid (belowB a.data.toList b.data.toList = Lib.hasSuffix a.data.toList (46 :: b.data.toList)) := by unfold belowB; rw [beq_eq_false_iff_ne.2 h5, beq_eq_false_iff_ne.2 h4]; exact rfl
      have e1 : (b.toList == []) = false := by rw [ByteArray.toList_eq]; simpa using h5
      clear h4 h5
      go_enter Tryz.func190, Tryz.ntmps190
      go_wp2_with fail
      refine (Tryz.strings_HasSuffix _ _ w (by omega)).mono ?_
      rintro e w3 ⟨rfl, rfl⟩
      go_wp2_with fail
      go_ret
      exact ⟨ret_bool HB.out.symm, rfl⟩

/-- What IsBelow tells. -/
def belowT (a b : List UInt8) : Bool := (nameB a && nameB b) && belowB a b
def bothB (a b : List UInt8) : Bool := nameB a && nameB b

end Go.Proofs.YtoobaaklklommaaGreatDoor

namespace Go.Proofs.YtoobaaklklommaaGreatDoor
open Go.RowKit

/-- Whether a number stands among others. -/
def hasB (ps : List Nat) (n : Int) : Bool := ps.any (fun p => decide ((p : Int) = n))
theorem hasB_at {ps : List Nat} {n : Int} (k : Nat) (hk : k < ps.length) (h : ((ps[k] : Nat) : Int) = n) : hasB ps n = true := by
  unfold hasB; rw [List.any_eq_true]; exact ⟨_, List.getElem_mem hk, by simpa using h⟩
theorem hasB_none {ps : List Nat} {n : Int} (h : ∀ j, (hj : j < ps.length) → ((ps[j] : Nat) : Int) ≠ n) : hasB ps n = false := by
  unfold hasB; rw [List.any_eq_false]; intro p hp
  obtain ⟨j, hj, rfl⟩ := List.getElem_of_mem hp
  simpa using h j hj


/-- Numbers that stand in a new block. -/
theorem irow_lit (w : World) (ps : List Nat) (t : TypeId) (h : ps.length ≤ maxLen) : IRow (w.alloc (.cells (ps.map (fun p : Nat => Value.int .i64 (p : Int))).toArray t)) (.slice (some ⟨w.heap.size, 0, none⟩) ps.length ps.length) ps :=
  ⟨_, _, rfl, Nat.le_refl _, h, .inr ⟨w.heap.size, 0, rfl, by simp, fun j hj => by
    rw [Nat.zero_add]
    simp [hj]⟩⟩
/-- The types that a record may have. -/
def typB (n : Int) : Bool := hasB [1, 2, 5, 6, 15, 16] n
/-- The codes that a message may have. -/
def codeB (n : Int) : Bool := hasB [0, 1, 3, 5] n

end Go.Proofs.YtoobaaklklommaaGreatDoor

namespace Go.Proofs.YtoobaaklklommaaGreatDoor
open Go.RowKit

set_option maxRecDepth 20000 in
set_option maxHeartbeats 400000 in
theorem cloneR_any (s : ByteArray) (w : World) (hs : s.size ≤ 281474976710656) :
    Calls Tryz.prog 170 #[.string s] w fun e w' => e = .returned (.string s) ∧ Below w.heap.size w w' := by
  go_enter Tryz.func170, Tryz.ntmps170
  go_wp2_with fail
  refine (Tryz.stringslite_Clone s w hs).mono ?_
  rintro e w1 ⟨rfl, hb⟩
  go_wp2_with fail
  go_ret
  exact ⟨rfl, hb⟩

end Go.Proofs.YtoobaaklklommaaGreatDoor
