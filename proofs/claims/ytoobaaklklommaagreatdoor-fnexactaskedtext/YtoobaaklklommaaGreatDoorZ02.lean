import Derived.Test.YtoobaaklklommaaGreatDoorZ00
import Derived.Test.YtoobaaklklommaaGreatDoorZ01
namespace Go.Proofs.YtoobaaklklommaaGreatDoor
open Go.RowKit

/-- A list of bytes as Go's text. -/
def S (p : List UInt8) : Value := .string ⟨p.toArray⟩
theorem info_string : (Tryz.prog.info? 9).map (fun i => (i.zero, i.size, i.bytes)) = some (some (.string ByteArray.empty), 1, 16) := by kernel_rfl

theorem cell_new_one (w : World) (x : Value) (t : TypeId) : ∀ j u, [x][j]? = some u → (w.alloc (.cells #[x] t)).cell? ((⟨w.heap.size, 0, none⟩ : Addr).add j) = some u := by
  intro j u hj
  match j, hj with
  | 0, hj => simp at hj; subst hj; simp [Addr.add]
theorem one_string (x : ByteArray) : ∀ u ∈ [Value.string x], u.oneCell' = true := by
  intro u hu; simp at hu; subst hu; rfl

theorem extract_S (s : ByteArray) (a b : Nat) : Value.string (s.extract a b) = S ((s.data.toList.take b).drop a) := by
  unfold S
  have : (s.extract a b).data.toList = (s.data.toList.take b).drop a := by
    rw [Lib.extract_data, List.drop_take]
  rw [← this]

theorem below_append {w wr w1 : World} {v : Value} {n : Nat} {xs : List Value} {o : Obj} (hb : Below w.heap.size w wr) (hown : wr.ownsRow w.heap.size 9 1 v n xs) (hgrow : (wr.alloc o).grownBy w1 v.ownBlock) : Below w.heap.size w w1 :=
  (hb.alloc hb.size o).grown hgrow (by have := hb.size; simp; omega) (fun k hk => (hown.lt k hk).1)

theorem split_keep {w wr w1 : World} {s : ByteArray} {c : UInt8} {k fr : Nat} {out : List (List UInt8)} {v v' : Value} {t : TypeId} (h : Cutting c s.data.toList k fr out) (hk : k < s.data.toList.length) (hc : s.data.toList[k] = c)
    (hown : wr.ownsRow w.heap.size 9 1 v out.length (out.map S)) (hb : Below w.heap.size w wr)
    (hown' : w1.ownsRow w.heap.size 9 1 v' (out.length + 1) (out.map S ++ [.string (s.extract fr k)])) (hgrow : (wr.alloc (.cells #[.string (s.extract fr k)] t)).grownBy w1 v.ownBlock) :
    Cutting c s.data.toList (k + 1) (k + 1) (out ++ [(s.data.toList.take k).drop fr]) ∧ w1.ownsRow w.heap.size 9 1 v' (out ++ [(s.data.toList.take k).drop fr]).length ((out ++ [(s.data.toList.take k).drop fr]).map S) ∧ Below w.heap.size w w1 := by
  refine ⟨cutting_hit h hk hc, ?_, below_append hb hown hgrow⟩
  rw [extract_S] at hown'
  simpa using hown'

theorem split_last {w wr w1 : World} {s : ByteArray} {c : UInt8} {k fr : Nat} {out : List (List UInt8)} {v v' : Value} {t : TypeId} (h : Cutting c s.data.toList k fr out) (hk : ¬ k < s.data.toList.length)
    (hown : wr.ownsRow w.heap.size 9 1 v out.length (out.map S)) (hb : Below w.heap.size w wr)
    (hown' : w1.ownsRow w.heap.size 9 1 v' (out.length + 1) (out.map S ++ [.string (s.extract fr s.size)])) (hgrow : (wr.alloc (.cells #[.string (s.extract fr s.size)] t)).grownBy w1 v.ownBlock) :
    w1.ownsRow w.heap.size 9 1 v' (cut c s.data.toList).length ((cut c s.data.toList).map S) ∧ Below w.heap.size w w1 := by
  refine ⟨?_, below_append hb hown hgrow⟩
  rw [extract_S] at hown'
  rw [cutting_end h (by omega)]
  have e : s.data.toList.take s.size = s.data.toList := List.take_of_length_le (by simp)
  rw [e] at hown'
  simpa using hown'

set_option maxRecDepth 20000 in
set_option maxHeartbeats 1000000 in
theorem l1Split_any (s : ByteArray) (c : UInt8) (n : Int) (w : World) (hs : s.size ≤ 4294967280) (hn : Hid (n = (c.toNat : Int))) :
    Calls Tryz.prog 73 #[.string s, .int .u8 n] w fun e w' => ∃ v, e = .returned v ∧ w'.ownsRow w.heap.size 9 1 v (cut c s.data.toList).length ((cut c s.data.toList).map S) ∧ Below w.heap.size w w' := by
  obtain ⟨i0, hi, hz0, hz1, hz2⟩ := info_parts info_string
  go_enter Tryz.func73, Tryz.ntmps73
  go_wp2_with fail
  go_loopw [5, 6, 7] (fun v f i wr => ∃ (k fr : Nat) (out : List (List UInt8)), k ≤ s.size ∧ i = .int .i64 k ∧ f = .int .i64 fr ∧ fr ≤ k ∧ Hid (Cutting c s.data.toList k fr out) ∧ wr.ownsRow w.heap.size 9 1 v out.length (out.map S) ∧ Below w.heap.size w wr) (fun _ _ i _ => s.size - (intOf i).toNat)
  case atStart => exact ⟨0, 0, [], Nat.zero_le _, rfl, rfl, Nat.le_refl _, cutting_start _ _, World.ownsRow_nil _ _ _ _, Below.refl _ _⟩
  case round =>
    obtain ⟨k, fr, out, hk, rfl, rfl, hfr, HC, hown, hb⟩ := hrel
    have hbz := hb.size
    have hol : out.length ≤ k := cutting_length HC.out (by simpa using hk)
    by_cases hlt : k < s.size
    · by_cases hc : s[k] = c
      · have e1 : ((s[k].toNat : Int) == n) = true := by rw [hn.out, hc]; simp
        have HC2 : Hid (s[k] = c) := hc
        clear hc
        go_wp2_with (at_builtin; refine wpList_append_own _ rfl _ _ 104 rfl w.heap.size 9 i0 (.string ByteArray.empty) 1 16 Tryz.underlying104 hi hz0 hz1 hz2 rfl (by decide) _ _ _ rfl (hown.alloc _) ⟨wr.heap.size, 0, none⟩ 1 1 [.string (s.extract fr k)] rfl rfl ?c1 ?c2 ?c3 ?c4 ?c5 ?_)
        case c1 => exact cell_new_one _ _ _
        case c2 => exact one_string _
        case c3 => unfold maxLen; omega
        case c4 => omega
        case c5 => simp; omega
        intro v' w1 hown' hgrow _
        have R := split_keep HC.out (by simpa using hlt) HC2.out hown hb hown' hgrow
        clear hown' hgrow hown hb
        go_wp2_with fail
        go_roundw
        case rel => exact ⟨k + 1, k + 1, out ++ [(s.data.toList.take k).drop fr], by omega, by go_num, by go_num, Nat.le_refl _, R.1, R.2.1, R.2.2⟩
        case measure => simp [intOf]; omega
      · have e1 : ((s[k].toNat : Int) == n) = false := by
          rw [hn.out, beq_eq_false_iff_ne]; intro h; exact hc (UInt8.toNat_inj.1 (by omega))
        have R := cutting_miss HC.out (by simpa using hlt) hc
        have HR : Hid (Cutting c s.data.toList (k + 1) fr out) := R
        clear hc R
        go_wp2_with fail
        go_roundw
        case rel => exact ⟨k + 1, fr, out, by omega, by go_num, rfl, by omega, HR, hown, hb⟩
        case measure => simp [intOf]; omega
    · go_wp2_with (at_builtin; refine wpList_append_own _ rfl _ _ 104 rfl w.heap.size 9 i0 (.string ByteArray.empty) 1 16 Tryz.underlying104 hi hz0 hz1 hz2 rfl (by decide) _ _ _ rfl (hown.alloc _) ⟨wr.heap.size, 0, none⟩ 1 1 [.string (s.extract fr s.size)] rfl rfl ?d1 ?d2 ?d3 ?d4 ?d5 ?_)
      case d1 => exact cell_new_one _ _ _
      case d2 => exact one_string _
      case d3 => unfold maxLen; omega
      case d4 => omega
      case d5 => simp; omega
      intro v' w1 hown' hgrow _
      have R := split_last HC.out (by simpa using hlt) hown hb hown' hgrow
      clear hown' hgrow hown hb
      go_wp2_with fail
      go_ret
      exact ⟨_, rfl, R.1, R.2⟩
end Go.Proofs.YtoobaaklklommaaGreatDoor

namespace Go.Proofs.YtoobaaklklommaaGreatDoor
open Go.RowKit

/-- A name's labels; whether a text is a name. -/
def labelsOf (l : List UInt8) : List (List UInt8) := if l = [] then [] else cut 46 l
def nameB (l : List UInt8) : Bool := (labelsOf l).all labelB && (decide (l.length ≤ 60) && decide ((labelsOf l).length ≤ 8))

theorem ret_two {a b : Value} {c d : Value} (h : a = c) (k : b = d) : Ending.returned (.tuple #[a, b]) = .returned (.tuple #[c, d]) := by rw [h, k]
theorem val_bool {a b : Bool} (h : a = b) : Value.bool a = .bool b := by rw [h]

/-- The shape of a row that the call owns and that is not empty. -/
theorem own_shape {w : World} {base : Nat} {v : Value} {n : Nat} {xs : List Value} (h : w.ownsRow base 9 1 v n xs) (hn : 0 < n) :
    ∃ g cap, v = .slice (some ⟨g, 0, none⟩) n cap ∧ base ≤ g ∧ g < w.heap.size ∧ n ≤ cap ∧ cap ≤ maxLen ∧ ∀ j, j < n → w.cell? ⟨g, j, none⟩ = xs[j]? := by
  have h0 := h
  obtain ⟨hl, ⟨rfl, rfl⟩ | ⟨g, cap, cur, rfl, hg, hh, hc, hm, hs, hx⟩⟩ := h
  · omega
  · have := h0.lt g rfl
    exact ⟨g, cap, rfl, this.1, this.2, hc, hm, fun j hj => h0.cellAt j (by omega)⟩

theorem pieces_step {P : List (List UInt8)} {k : Nat} (h : (P.take k).all labelB = true) (hk : k < P.length) (ho : labelB P[k] = true) : (P.take (k + 1)).all labelB = true := by
  rw [List.take_succ_eq_append_getElem hk]; simp only [List.all_append, h, List.all_cons, ho, List.all_nil, Bool.and_true]
theorem pieces_full {P : List (List UInt8)} {k : Nat} (h : (P.take k).all labelB = true) (hk : ¬ k < P.length) : P.all labelB = true := by
  rwa [List.take_of_length_le (by omega)] at h
theorem pieces_not {P : List (List UInt8)} {k : Nat} (hk : k < P.length) (ho : labelB P[k] = false) : P.all labelB = false := by
  rw [Bool.eq_false_iff]; intro h
  have := List.all_eq_true.1 h P[k] (List.getElem_mem _)
  rw [ho] at this; cases this

theorem name_not {l : List UInt8} (hl : ¬ l = []) (h : (cut 46 l).all labelB = false) : nameB l = false := by
  unfold nameB labelsOf; rw [if_neg hl, h]; rfl
theorem name_is {l : List UInt8} (hl : ¬ l = []) (h : (cut 46 l).all labelB = true) : nameB l = (decide ((l.length : Int) ≤ 60) && decide (((cut 46 l).length : Int) ≤ 8)) := by
  unfold nameB labelsOf; rw [if_neg hl, h, Bool.true_and, Bool.eq_iff_iff]; simp; omega

set_option maxRecDepth 20000 in
set_option maxHeartbeats 1000000 in
theorem l1LabelsQ_any (s : ByteArray) (w : World) (hs : s.size ≤ 4294967280) :
    Calls Tryz.prog 151 #[.string s] w fun e w' => ∃ v, e = .returned (.tuple #[v, .bool (nameB s.data.toList)]) ∧
      (nameB s.data.toList = true → w'.ownsRow w.heap.size 9 1 v (labelsOf s.data.toList).length ((labelsOf s.data.toList).map S)) ∧ Below w.heap.size w w' ∧ ∃ Q : List (List UInt8), w'.ownsRow w.heap.size 9 1 v Q.length (Q.map S) := by
  by_cases h0 : s.data.toList = []
  · obtain rfl : s = ⟨#[]⟩ := data_eq h0
    go_enter Tryz.func151, Tryz.ntmps151
    go_wp2_with fail
    go_ret2
    exact ⟨_, rfl, fun _ => World.ownsRow_nil _ _ _ _, Below.refl _ _, [], World.ownsRow_nil _ _ _ _⟩
  · have H0 : Hid (¬ s.data.toList = []) := h0
    have e0 : (s.toList == []) = false := by rw [ByteArray.toList_eq]; simpa using h0
    clear h0
    have hsz : s.data.toList.length = s.size := by simp
    have HSZ : Hid (s.data.toList.length = s.size) := hsz
    clear hsz
    go_enter Tryz.func151, Tryz.ntmps151
    go_wp2_with fail
    refine (l1Split_any s 46 _ w hs rfl).mono ?_
    rintro e w1 ⟨v, rfl, hown, hb⟩
    have hne : 0 < (cut 46 s.data.toList).length := List.length_pos_iff.2 (cut_ne _ _)
    obtain ⟨g, cap, hv, hg, hgl, hcap, hmax, hcell⟩ := own_shape hown hne
    obtain ⟨P, hP⟩ : ∃ P, P = cut 46 s.data.toList := ⟨_, rfl⟩
    rw [← hP] at hown hne hv hcap hcell
    have HP : Hid (P = cut 46 s.data.toList) := hP
    have HOWN : Hid (w1.ownsRow w.heap.size 9 1 v P.length (P.map S)) := hown
    have HCE : Hid (∀ j, j < P.length → w1.cell? ⟨g, j, none⟩ = (P.map S)[j]?) := hcell
    have HN : Hid (nameB s.data.toList = true → w1.ownsRow w.heap.size 9 1 v (labelsOf s.data.toList).length ((labelsOf s.data.toList).map S)) := fun _ => by
      unfold labelsOf; rw [if_neg H0.out, ← hP]; exact hown
    rw [hv] at HN HOWN ⊢
    clear hP hown hcell hv
    unfold maxLen at hmax
    go_wp2_with fail
    go_loop [13] (fun i => ∃ k : Nat, k ≤ P.length ∧ i = .int .i64 k ∧ Hid ((P.take k).all labelB = true)) (fun i => P.length - (intOf i).toNat)
    case atStart => exact ⟨0, Nat.zero_le _, rfl, rfl⟩
    case round =>
      obtain ⟨k, hk, rfl, HA⟩ := hrel
      by_cases hlt : k < P.length
      · have hcx : w1.cell? ⟨g, k, none⟩ = some (.string ⟨(P[k]'hlt).toArray⟩) := by rw [HCE.out k hlt, List.getElem?_map, List.getElem?_eq_getElem hlt]; rfl
        have hpl : (⟨(P[k]'hlt).toArray⟩ : ByteArray).size ≤ maxLen := by
          have h1 := cut_piece_le 46 s.data.toList (P[k]'hlt) (by rw [← HP.out]; exact List.getElem_mem _)
          have h2 := HSZ.out
          show (P[k]'hlt).toArray.size ≤ maxLen
          unfold maxLen; simp only [List.size_toArray]; omega
        cases ho : labelB (P[k]'hlt) with
        | true =>
          have HO : Hid (labelB (P[k]'hlt) = true) := ho
          clear ho
          go_wp2_with fail
          refine (l1Label_any _ _ hpl).mono ?_
          rintro e w2 ⟨rfl, rfl⟩
          rw [show (⟨(P[k]'hlt).toArray⟩ : ByteArray).data.toList = P[k]'hlt from rfl, HO.out]
          go_wp2_with fail
          go_round
          case rel => exact ⟨k + 1, by omega, by go_num, pieces_step HA.out hlt HO.out⟩
          case measure => simp [intOf]; omega
        | false =>
          have HO : Hid (labelB (P[k]'hlt) = false) := ho
          clear ho
          go_wp2_with fail
          refine (l1Label_any _ _ hpl).mono ?_
          rintro e w2 ⟨rfl, rfl⟩
          rw [show (⟨(P[k]'hlt).toArray⟩ : ByteArray).data.toList = P[k]'hlt from rfl, HO.out]
          go_wp2_with fail
          go_ret2
          have hN := name_not H0.out (by rw [← HP.out]; exact pieces_not hlt HO.out)
          refine ⟨_, ret_two rfl (val_bool hN.symm), ?_, hb, [], World.ownsRow_nil _ _ _ _⟩
          intro h; rw [hN] at h; cases h
      · have hN := name_is H0.out (by rw [← HP.out]; exact pieces_full HA.out hlt)
        rw [← HP.out, HSZ.out] at hN
        have HNN : Hid (nameB s.data.toList = (decide ((s.size : Int) ≤ 60) && decide ((P.length : Int) ≤ 8))) := hN
        clear hN
        by_cases h60 : (s.size : Int) ≤ 60
        · go_wp2_with fail
          go_ret2
          exact ⟨_, ret_two rfl (val_bool (by rw [HNN.out]; simp [h60])), HN.out, hb, P, HOWN.out⟩
        · have d60 : decide ((s.size : Int) ≤ 60) = false := by simp; omega
          go_wp2_with fail
          go_ret2
          exact ⟨_, ret_two rfl (val_bool (by rw [HNN.out, d60]; simp)), HN.out, hb, P, HOWN.out⟩

theorem l1Labels_any (s : ByteArray) (w : World) (hs : s.size ≤ 4294967280) :
    Calls Tryz.prog 151 #[.string s] w fun e w' => ∃ v, e = .returned (.tuple #[v, .bool (nameB s.data.toList)]) ∧
      (nameB s.data.toList = true → w'.ownsRow w.heap.size 9 1 v (labelsOf s.data.toList).length ((labelsOf s.data.toList).map S)) ∧ Below w.heap.size w w' :=
  (l1LabelsQ_any s w hs).mono fun _ _ ⟨v, h1, h2, h3, _⟩ => ⟨v, h1, h2, h3⟩

set_option maxRecDepth 20000 in
set_option maxHeartbeats 400000 in
theorem sGoodName_any (s : ByteArray) (w : World) (hs : s.size ≤ 4294967280) :
    Calls Tryz.prog 142 #[.string s] w fun e w' => e = .returned (.bool (nameB s.data.toList)) ∧ Below w.heap.size w w' := by
  go_enter Tryz.func142, Tryz.ntmps142
  go_wp2_with fail
  refine (l1Labels_any s w hs).mono ?_
  rintro e w1 ⟨v, rfl, _, hb⟩
  go_wp2_with fail
  go_ret
  exact ⟨rfl, hb⟩
end Go.Proofs.YtoobaaklklommaaGreatDoor
