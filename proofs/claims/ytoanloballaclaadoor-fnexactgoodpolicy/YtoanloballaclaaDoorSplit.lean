import Derived.Test.YtoanloballaclaaDoorSLabels
import Derived.Test.YtoanloballaclaaDoorShelf
namespace Go.Proofs.YtoanloballaclaaDoor
open Go.RowKit

/-- A list of texts as it lies in memory. -/
def Row (w : World) (v : Value) (P : List (List UInt8)) : Prop :=
  ∃ a cap, v = .slice a P.length cap ∧ P.length ≤ cap ∧ cap ≤ maxLen ∧ (P = [] ∨ ∃ b o, a = some ⟨b, o, none⟩ ∧ b < w.heap.size ∧ ∀ j, (hj : j < P.length) → w.cell? ⟨b, o + j, none⟩ = some (S P[j]))

theorem Row.below {w w' : World} {v : Value} {P : List (List UInt8)} (h : Row w v P) {B : Nat} (hb : Below B w w') (hB : ∀ a n c, v = .slice (some a) n c → P ≠ [] → a.block < B) : Row w' v P := by
  obtain ⟨a, cap, rfl, h1, h2, h3⟩ := h
  refine ⟨a, cap, rfl, h1, h2, ?_⟩
  rcases h3 with h3 | ⟨b, o, rfl, hb1, hc⟩
  · exact .inl h3
  · by_cases hp : P = []
    · exact .inl hp
    · refine .inr ⟨b, o, rfl, Nat.lt_of_lt_of_le hb1 hb.size, fun j hj => ?_⟩
      rw [hb.cell (p := ⟨b, o + j, none⟩) (show b < B from hB ⟨b, o, none⟩ _ _ rfl hp)]; exact hc j hj
theorem Row.kept {w w' : World} {v : Value} {P : List (List UInt8)} (h : Row w v P) (hb : Below w.heap.size w w') : Row w' v P := by
  refine h.below hb ?_
  obtain ⟨a, cap, rfl, h1, h2, h3⟩ := h
  intro a' n c e hp
  rcases h3 with h3 | ⟨b, o, rfl, hb1, hc⟩
  · exact absurd h3 hp
  · cases e; exact hb1
theorem row_nil (w : World) : Row w (.slice none 0 0) [] := ⟨none, 0, rfl, Nat.le_refl _, by unfold maxLen; omega, .inl rfl⟩
theorem row_own {w : World} {base : Nat} {v : Value} {P : List (List UInt8)} (h : w.ownsRow base 9 1 v P.length (P.map S)) : Row w v P := by
  by_cases hp : P = []
  · subst hp
    obtain ⟨_, ⟨rfl, _⟩ | ⟨g, cap, cur, rfl, hg, hh, hc, hm, hs, hx⟩⟩ := h
    · exact row_nil w
    · exact ⟨_, cap, rfl, hc, hm, .inl rfl⟩
  · obtain ⟨g, cap, rfl, h1, h2, h3, h4, h5⟩ := own_shape h (List.length_pos_iff.2 hp)
    exact ⟨_, cap, rfl, h3, h4, .inr ⟨g, 0, rfl, h2, fun j hj => by rw [Nat.zero_add, h5 j hj, List.getElem?_map, List.getElem?_eq_getElem hj]; rfl⟩⟩

/-- What areLabels tells. -/
def areB (P : List (List UInt8)) : Bool := decide (P.length ≤ 8) && P.all labelB

theorem piece_max {x : List UInt8} (h : x.length ≤ maxLen) : (⟨x.toArray⟩ : ByteArray).size ≤ maxLen := by
  show x.toArray.size ≤ maxLen; simpa using h

set_option maxRecDepth 20000 in
set_option maxHeartbeats 1000000 in
theorem areLabels_any (v : Value) (P : List (List UInt8)) (w : World) (hT : TabIn w) (hr : Row w v P) (hl : Hid (∀ p ∈ P, p.length ≤ maxLen)) :
    Calls Tryd.prog 31 #[v] w fun e w' => e = .returned (.bool (areB P)) ∧ Below w.heap.size w w' := by
  obtain ⟨a, cap, rfl, hcap, hmax, hrow⟩ := hr
  unfold maxLen at hmax
  by_cases h8 : (8 : Int) < (P.length : Int)
  · clear hrow
    go_enter Tryd.func31, Tryd.ntmps31
    go_wp2_with fail
    go_ret
    exact ⟨ret_bool (by unfold areB; rw [decide_eq_false (by omega)]; rfl), Below.refl _ _⟩
  · have HROW : Hid (P = [] ∨ ∃ b o, a = some ⟨b, o, none⟩ ∧ b < w.heap.size ∧ ∀ j, (hj : j < P.length) → w.cell? ⟨b, o + j, none⟩ = some (S P[j])) := hrow
    clear hrow
    go_enter Tryd.func31, Tryd.ntmps31
    go_wp2_with fail
    go_loopw [10] (fun i wr => ∃ k : Nat, k ≤ P.length ∧ i = .int .i64 k ∧ Hid ((P.take k).all labelB = true) ∧ Below w.heap.size w wr) (fun i _ => P.length - (intOf i).toNat)
    case atStart => exact ⟨0, Nat.zero_le _, rfl, rfl, Below.refl _ _⟩
    case round =>
      obtain ⟨k, hk, rfl, HA, hb⟩ := hrel
      have hTr := hT.below hb
      by_cases hlt : k < P.length
      · rcases HROW.out with hr | ⟨b, o, ha, hbl, hc⟩
        · rw [hr] at hlt; simp at hlt
        · rw [ha]
          have hcx : wr.cell? ⟨b, o + k, none⟩ = some (.string ⟨(P[k]'hlt).toArray⟩) := by rw [hb.cell (p := ⟨b, o + k, none⟩) hbl]; exact hc k hlt
          clear hc
          have hpl := piece_max (hl.out (P[k]'hlt) (List.getElem_mem _))
          cases ho : labelB (P[k]'hlt) with
          | true =>
            have HO : Hid (labelB (P[k]'hlt) = true) := ho
            clear ho
            go_wp2_with fail
            refine (isLabel_any _ _ hpl hTr).mono ?_
            rintro e w2 ⟨rfl, hb2⟩
            rw [show (⟨(P[k]'hlt).toArray⟩ : ByteArray).data.toList = P[k]'hlt from rfl, HO.out]
            go_wp2_with fail
            go_roundw
            case rel => exact ⟨k + 1, by omega, by go_num, pieces_step HA.out hlt HO.out, hb.trans (hb2.mono hb.size)⟩
            case measure => simp [intOf]; omega
          | false =>
            have HO : Hid (labelB (P[k]'hlt) = false) := ho
            clear ho
            go_wp2_with fail
            refine (isLabel_any _ _ hpl hTr).mono ?_
            rintro e w2 ⟨rfl, hb2⟩
            rw [show (⟨(P[k]'hlt).toArray⟩ : ByteArray).data.toList = P[k]'hlt from rfl, HO.out]
            go_wp2_with fail
            go_ret
            exact ⟨ret_bool (by unfold areB; rw [pieces_not hlt HO.out, Bool.and_false]), hb.trans (hb2.mono hb.size)⟩
      · go_wp2_with fail
        go_ret
        exact ⟨ret_bool (by unfold areB; rw [pieces_full HA.out hlt, decide_eq_true (by omega)]; rfl), hb⟩

/-- What the walks ask of the world: the table, and a number of the library's own. -/
def Env (w : World) : Prop := TabIn w ∧ ∃ m, w.cell? ⟨1, 0, none⟩ = some (.int .i64 m)
theorem Env.below {w w' : World} (h : Env w) (hb : Below w.heap.size w w') : Env w' := by
  refine ⟨h.1.below hb, ?_⟩
  obtain ⟨m, hm⟩ := h.2
  exact ⟨m, by rw [hb.cell (p := ⟨1, 0, none⟩) (World.block_lt_of_cell? _ _ hm)]; exact hm⟩

theorem own_below {w w' : World} {base e size : Nat} {v : Value} {n : Nat} {xs : List Value} (h : w.ownsRow base e size v n xs) (hb : Below w.heap.size w w') : w'.ownsRow base e size v n xs := by
  have h0 := h
  obtain ⟨hl, hh | ⟨g, cap, cur, rfl, hg, hh, hr⟩⟩ := h
  · exact ⟨hl, .inl hh⟩
  · exact ⟨hl, .inr ⟨g, cap, cur, rfl, hg, by rw [hb.block g (h0.lt g rfl).2]; exact hh, hr⟩⟩

theorem split_pieces (s : ByteArray) : (Lib.splitB ⟨#[46]⟩ 0 (Lib.countB s ⟨#[46]⟩) s).map Value.string = (cut 46 s.data.toList).map S := by
  have h := Lib.splitB_data ⟨#[46]⟩ 0 (Lib.countB s ⟨#[46]⟩) s
  have h2 : Lib.splitK [46] 0 (Lib.countB s ⟨#[46]⟩) s.data.toList = cut 46 s.data.toList := split_one 46 s.data.toList
  rw [← h2, ← show _ = Lib.splitK [46] 0 (Lib.countB s ⟨#[46]⟩) s.data.toList from h, List.map_map]
  rfl
theorem split_count (s : ByteArray) : Lib.countB s ⟨#[46]⟩ + 1 = (cut 46 s.data.toList).length := by
  have h := congrArg List.length (split_pieces s)
  rw [List.length_map, List.length_map, Lib.splitB_all ⟨#[46]⟩ (by decide) 0 _ s rfl] at h
  exact h

theorem split_owns (s : ByteArray) (w : World) (hs : s.size ≤ 60) :
    (w.alloc (.cells ((Lib.splitB ⟨#[46]⟩ 0 (Lib.countB s ⟨#[46]⟩) s).map Value.string).toArray 9)).ownsRow w.heap.size 9 1 (.slice (some ⟨w.heap.size, 0, none⟩) (Lib.countB s ⟨#[46]⟩ + 1) (Lib.countB s ⟨#[46]⟩ + 1)) (cut 46 s.data.toList).length ((cut 46 s.data.toList).map S) := by
  have hle := cut_length_le 46 s.data.toList
  have hsz : s.data.toList.length = s.size := by simp
  rw [split_pieces, split_count]
  refine ⟨by simp, .inr ⟨_, _, _, rfl, Nat.le_refl _, heap_alloc_new _ _, Nat.le_refl _, by unfold maxLen; omega, by simp, ?_⟩⟩
  rw [List.take_of_length_le (by simp)]

theorem name_long {l : List UInt8} (h : 60 < l.length) : nameB l = false := by
  unfold nameB; rw [decide_eq_false (p := l.length ≤ 60) (by omega)]; simp
theorem name_are {l : List UInt8} (hl : ¬ l = []) (h : l.length ≤ 60) : nameB l = areB (cut 46 l) := by
  unfold nameB areB labelsOf; rw [if_neg hl, decide_eq_true h, Bool.true_and, Bool.and_comm]

set_option maxRecDepth 20000 in
set_option maxHeartbeats 1000000 in
theorem splitName_any (s : ByteArray) (w : World) (hE : Env w) :
    Calls Tryd.prog 26 #[.string s] w fun e w' => ∃ v, e = .returned (.tuple #[v, .bool (nameB s.data.toList)]) ∧
      (nameB s.data.toList = true → w'.ownsRow w.heap.size 9 1 v (labelsOf s.data.toList).length ((labelsOf s.data.toList).map S)) ∧ (nameB s.data.toList = false → v = .slice none 0 0) ∧ Below w.heap.size w w' := by
  have HSZ : Hid (s.data.toList.length = s.size) := (by simp : s.data.toList.length = s.size)
  by_cases h0 : s.data.toList = []
  · obtain rfl : s = ⟨#[]⟩ := data_eq h0
    go_enter Tryd.func26, Tryd.ntmps26
    go_wp2_with fail
    go_ret2
    exact ⟨_, rfl, fun _ => World.ownsRow_nil _ _ _ _, fun _ => rfl, Below.refl _ _⟩
  · have H0 : Hid (¬ s.data.toList = []) := h0
    have e0 : (s.toList == []) = false := by rw [ByteArray.toList_eq]; simpa using h0
    clear h0
    by_cases h60 : (60 : Int) < (s.size : Int)
    · go_enter Tryd.func26, Tryd.ntmps26
      go_wp2_with fail
      go_ret2
      have hN := name_long (l := s.data.toList) (by rw [HSZ.out]; omega)
      refine ⟨_, ret_two rfl (val_bool hN.symm), ?_, fun _ => rfl, Below.refl _ _⟩
      intro h; rw [hN] at h; cases h
    · have hN := name_are H0.out (by rw [HSZ.out]; omega)
      have HN : Hid (nameB s.data.toList = areB (cut 46 s.data.toList)) := hN
      clear hN
      obtain ⟨m, hm⟩ := hE.2
      have hT := hE.1
      have hown := split_owns s w (by omega)
      have HOWN : Hid ((w.alloc (.cells ((Lib.splitB ⟨#[46]⟩ 0 (Lib.countB s ⟨#[46]⟩) s).map Value.string).toArray 9)).ownsRow w.heap.size 9 1 (.slice (some ⟨w.heap.size, 0, none⟩) (Lib.countB s ⟨#[46]⟩ + 1) (Lib.countB s ⟨#[46]⟩ + 1)) (cut 46 s.data.toList).length ((cut 46 s.data.toList).map S)) := hown
      clear hown
      go_enter Tryd.func26, Tryd.ntmps26
      go_wp2_with fail
      refine (Tryd.strings_Split s ⟨#[46]⟩ m w (by omega) hm (by decide)).mono ?_
      rintro e w1 ⟨rfl, hw1⟩
      have hb1 : Below w.heap.size w w1 := by rw [hw1]; exact (Below.refl _ _).alloc (Nat.le_refl _) _
      rw [← hw1] at HOWN
      clear hw1 hm
      have hT1 := hT.below hb1
      have hrow := row_own HOWN.out
      have hlen : Hid (∀ p ∈ cut 46 s.data.toList, p.length ≤ maxLen) := fun p hp => by
        have h1 := cut_piece_le 46 _ p hp
        have h2 := HSZ.out
        unfold maxLen; omega
      go_wp2_with fail
      refine (areLabels_any _ _ _ hT1 hrow hlen).mono ?_
      rintro e w2 ⟨rfl, hb2⟩
      have hown2 := own_below HOWN.out hb2
      have hbb := hb1.trans (hb2.mono hb1.size)
      rw [← HN.out]
      have HL : Hid (labelsOf s.data.toList = cut 46 s.data.toList) := by unfold labelsOf; rw [if_neg H0.out]; exact rfl
      cases hN : nameB s.data.toList with
      | true =>
        have HNN : Hid (nameB s.data.toList = true) := hN
        have HO2 : Hid (w2.ownsRow w.heap.size 9 1 (.slice (some ⟨w.heap.size, 0, none⟩) (Lib.countB s ⟨#[46]⟩ + 1) (Lib.countB s ⟨#[46]⟩ + 1)) (cut 46 s.data.toList).length ((cut 46 s.data.toList).map S)) := hown2
        clear hN hown2 hrow
        go_wp2_with fail
        go_ret2
        refine ⟨_, ret_two rfl (val_bool HNN.out.symm), fun _ => ?_, ?_, hbb⟩
        · rw [HL.out]; exact HO2.out
        · intro h; rw [HNN.out] at h; cases h
      | false =>
        have HNN : Hid (nameB s.data.toList = false) := hN
        clear hN hown2 hrow
        go_wp2_with fail
        go_ret2
        refine ⟨_, ret_two rfl (val_bool HNN.out.symm), ?_, fun _ => rfl, hbb⟩
        intro h; rw [HNN.out] at h; cases h

set_option maxRecDepth 20000 in
set_option maxHeartbeats 400000 in
theorem iGoodName_any (s : ByteArray) (w : World) (hE : Env w) :
    Calls Tryd.prog 14 #[.string s] w fun e w' => e = .returned (.bool (nameB s.data.toList)) ∧ Below w.heap.size w w' := by
  go_enter Tryd.func14, Tryd.ntmps14
  go_wp2_with fail
  refine (splitName_any s w hE).mono ?_
  rintro e w1 ⟨v, rfl, _, _, hb⟩
  go_wp2_with fail
  go_ret
  exact ⟨rfl, hb⟩
end Go.Proofs.YtoanloballaclaaDoor
