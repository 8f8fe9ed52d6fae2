import Derived.Test.YtoobaaklklommaaGreatDoorZ02
import Derived.Test.YtoobaaklklommaaGreatDoorZ01
namespace Go.Proofs.YtoobaaklklommaaGreatDoor
open Go.RowKit

/-- A name's labels; whether a text is a name. -/
def labelsOf (l : List UInt8) : List (List UInt8) := if l = [] then [] else cut 46 l
def nameB (l : List UInt8) : Bool := (labelsOf l).all labelB && (decide (l.length ≤ 60) && decide ((labelsOf l).length ≤ 8))

theorem ret_two {a b : Value} {c d : Value} (h : a = c) (k : b = d) : Ending.returned (.tuple #[a, b]) = .returned (.tuple #[c, d]) := by rw [h, k]
theorem val_bool {a b : Bool} (h : a = b) : Value.bool a = .bool b := by rw [h]

/-- The shape of a row that the call owns and that is not empty. -/
theorem own_shape {w : World} {base : Nat} {v : Value} {n : Nat} {xs : List Value} (h : w.ownsRow base 9 1 v n xs) (hn : 0 < n) :
    ∃ g cap, v = .slice (some ⟨g, 0, none⟩) n cap ∧ base ≤ g ∧ g < w.heap.size ∧ n ≤ cap ∧ cap ≤ maxLen ∧ ∀ j, j < n → w.cell? ⟨g, j, none⟩ = xs[j]? := by
  have h0 := h
  obtain ⟨hl, ⟨rfl, rfl⟩ | ⟨g, cap, cur, rfl, hg, hh, hc, hm, hs, hx⟩⟩ := h
  · omega
  · have := h0.lt g rfl
    exact ⟨g, cap, rfl, this.1, this.2, hc, hm, fun j hj => h0.cellAt j (by omega)⟩

theorem pieces_step {P : List (List UInt8)} {k : Nat} (h : (P.take k).all labelB = true) (hk : k < P.length) (ho : labelB P[k] = true) : (P.take (k + 1)).all labelB = true := by
  rw [List.take_succ_eq_append_getElem hk]; simp only [List.all_append, h, List.all_cons, ho, List.all_nil, Bool.and_true]
theorem pieces_full {P : List (List UInt8)} {k : Nat} (h : (P.take k).all labelB = true) (hk : ¬ k < P.length) : P.all labelB = true := by
  rwa [List.take_of_length_le (by omega)] at h
theorem pieces_not {P : List (List UInt8)} {k : Nat} (hk : k < P.length) (ho : labelB P[k] = false) : P.all labelB = false := by
  rw [Bool.eq_false_iff]; intro h
  have := List.all_eq_true.1 h P[k] (List.getElem_mem _)
  rw [ho] at this; cases this

theorem name_not {l : List UInt8} (hl : ¬ l = []) (h : (cut 46 l).all labelB = false) : nameB l = false := by
  unfold nameB labelsOf; rw [if_neg hl, h]; rfl
theorem name_is {l : List UInt8} (hl : ¬ l = []) (h : (cut 46 l).all labelB = true) : nameB l = (decide ((l.length : Int) ≤ 60) && decide (((cut 46 l).length : Int) ≤ 8)) := by
  unfold nameB labelsOf; rw [if_neg hl, h, Bool.true_and, Bool.eq_iff_iff]; simp; omega

set_option maxRecDepth 20000 in
set_option maxHeartbeats 1000000 in
theorem l1LabelsQ_any (s : ByteArray) (w : World) (hs : s.size ≤ 4294967280) :
    Calls Tryz.prog 151 #[.string s] w fun e w' => ∃ v, e = .returned (.tuple #[v, .bool (nameB s.data.toList)]) ∧
      (nameB s.data.toList = true → w'.ownsRow w.heap.size 9 1 v (labelsOf s.data.toList).length ((labelsOf s.data.toList).map S)) ∧ Below w.heap.size w w' ∧ ∃ Q : List (List UInt8), w'.ownsRow w.heap.size 9 1 v Q.length (Q.map S) := by
  by_cases h0 : s.data.toList = []
  · obtain rfl : s = ⟨#[]⟩ := data_eq h0
    go_enter Tryz.func151, Tryz.ntmps151
    go_wp2_with fail
    go_ret2
    exact ⟨_, rfl, fun _ => World.ownsRow_nil _ _ _ _, Below.refl _ _, [], World.ownsRow_nil _ _ _ _⟩
  · have H0 : Hid (¬ s.data.toList = []) := h0
    have e0 : (s.toList == []) = false := by rw [ByteArray.toList_eq]; simpa using h0
    clear h0
    have hsz : s.data.toList.length = s.size := by simp
    have HSZ : Hid (s.data.toList.length = s.size) := hsz
    clear hsz
    go_enter Tryz.func151, Tryz.ntmps151
    go_wp2_with fail
    refine (l1Split_any s 46 _ w hs rfl).mono ?_
    rintro e w1 ⟨v, rfl, hown, hb⟩
    have hne : 0 < (cut 46 s.data.toList).length := List.length_pos_iff.2 (cut_ne _ _)
    obtain ⟨g, cap, hv, hg, hgl, hcap, hmax, hcell⟩ := own_shape hown hne
    obtain ⟨P, hP⟩ : ∃ P, P = cut 46 s.data.toList := ⟨_, rfl⟩
    rw [← hP] at hown hne hv hcap hcell
    have HP : Hid (P = cut 46 s.data.toList) := hP
    have HOWN : Hid (w1.ownsRow w.heap.size 9 1 v P.length (P.map S)) := hown
    have HCE : Hid (∀ j, j < P.length → w1.cell? ⟨g, j, none⟩ = (P.map S)[j]?) := hcell
    have HN : Hid (nameB s.data.toList = true → w1.ownsRow w.heap.size 9 1 v (labelsOf s.data.toList).length ((labelsOf s.data.toList).map S)) := fun _ => by
      unfold labelsOf; rw [if_neg H0.out, ← hP]; exact hown
    rw [hv] at HN HOWN ⊢
    clear hP hown hcell hv
    unfold maxLen at hmax
    go_wp2_with fail
    go_loop [13] (fun i => ∃ k : Nat, k ≤ P.length ∧ i = .int .i64 k ∧ Hid ((P.take k).all labelB = true)) (fun i => P.length - (intOf i).toNat)
    case atStart => exact ⟨0, Nat.zero_le _, rfl, rfl⟩
    case round =>
      obtain ⟨k, hk, rfl, HA⟩ := hrel
      by_cases hlt : k < P.length
      · have hcx : w1.cell? ⟨g, k, none⟩ = some (.string ⟨(P[k]'hlt).toArray⟩) := by rw [HCE.out k hlt, List.getElem?_map, List.getElem?_eq_getElem hlt]; rfl
        have hpl : (⟨(P[k]'hlt).toArray⟩ : ByteArray).size ≤ maxLen := by
          have h1 := cut_piece_le 46 s.data.toList (P[k]'hlt) (by rw [← HP.out]; exact List.getElem_mem _)
          have h2 := HSZ.out
          show (P[k]'hlt).toArray.size ≤ maxLen
          unfold maxLen; simp only [List.size_toArray]; omega
        cases ho : labelB (P[k]'hlt) with
        | true =>
          have HO : Hid (labelB (P[k]'hlt) = true) := ho
          clear ho
          go_wp2_with fail
          refine (l1Label_any _ _ hpl).mono ?_
          rintro e w2 ⟨rfl, rfl⟩
          rw [show (⟨(P[k]'hlt).toArray⟩ : ByteArray).data.toList = P[k]'hlt from rfl, HO.out]
          go_wp2_with fail
          go_round
          case rel => exact ⟨k + 1, by omega, by go_num, pieces_step HA.out hlt HO.out⟩
          case measure => simp [intOf]; omega
        | false =>
          have HO : Hid (labelB (P[k]'hlt) = false) := ho
          clear ho
          go_wp2_with fail
          refine (l1Label_any _ _ hpl).mono ?_
          rintro e w2 ⟨rfl, rfl⟩
          rw [show (⟨(P[k]'hlt).toArray⟩ : ByteArray).data.toList = P[k]'hlt from rfl, HO.out]
          go_wp2_with fail
          go_ret2
          have hN := name_not H0.out (by rw [← HP.out]; exact pieces_not hlt HO.out)
          refine ⟨_, ret_two rfl (val_bool hN.symm), ?_, hb, [], World.ownsRow_nil _ _ _ _⟩
          intro h; rw [hN] at h; cases h
      · have hN := name_is H0.out (by rw [← HP.out]; exact pieces_full HA.out hlt)
        rw [← HP.out, HSZ.out] at hN
        have HNN : Hid (nameB s.data.toList = (decide ((s.size : Int) ≤ 60) && decide ((P.length : Int) ≤ 8))) := hN
        clear hN
        by_cases h60 : (s.size : Int) ≤ 60
        · go_wp2_with fail
          go_ret2
          exact ⟨_, ret_two rfl (val_bool (by rw [HNN.out]; simp [h60])), HN.out, hb, P, HOWN.out⟩
        · have d60 : decide ((s.size : Int) ≤ 60) = false := by simp; omega
          go_wp2_with fail
          go_ret2
          exact ⟨_, ret_two rfl (val_bool (by rw [HNN.out, d60]; simp)), HN.out, hb, P, HOWN.out⟩

theorem l1Labels_any (s : ByteArray) (w : World) (hs : s.size ≤ 4294967280) :
    Calls Tryz.prog 151 #[.string s] w fun e w' => ∃ v, e = .returned (.tuple #[v, .bool (nameB s.data.toList)]) ∧
      (nameB s.data.toList = true → w'.ownsRow w.heap.size 9 1 v (labelsOf s.data.toList).length ((labelsOf s.data.toList).map S)) ∧ Below w.heap.size w w' :=
  (l1LabelsQ_any s w hs).mono fun _ _ ⟨v, h1, h2, h3, _⟩ => ⟨v, h1, h2, h3⟩

set_option maxRecDepth 20000 in
set_option maxHeartbeats 400000 in
theorem sGoodName_any (s : ByteArray) (w : World) (hs : s.size ≤ 4294967280) :
    Calls Tryz.prog 142 #[.string s] w fun e w' => e = .returned (.bool (nameB s.data.toList)) ∧ Below w.heap.size w w' := by
  go_enter Tryz.func142, Tryz.ntmps142
  go_wp2_with fail
  refine (l1Labels_any s w hs).mono ?_
  rintro e w1 ⟨v, rfl, _, hb⟩
  go_wp2_with fail
  go_ret
  exact ⟨rfl, hb⟩
end Go.Proofs.YtoobaaklklommaaGreatDoor
