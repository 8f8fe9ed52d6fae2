import Derived.Test.YthibfbddjlacdaaGreatDoorZ50
import Derived.Test.YthibfbddjlacdaaGreatDoorZ22
import Derived.Test.YthibfbddjlacdaaGreatDoorZ08
import Derived.RangeFuncBox
namespace Go.Proofs.YthibfbddjlacdaaGreatDoor
open Go.RowKit

set_option maxRecDepth 20000 in
set_option maxHeartbeats 400000 in
theorem clone_any (s : ByteArray) (w : World) (hs : s.size ≤ 281474976710656) :
    Calls Tryz.prog 32 #[.string s] w fun e w' => e = .returned (.string s) ∧ Below w.heap.size w w' := by
  go_enter Tryz.func32, Tryz.ntmps32
  go_wp2_with fail
  refine (Tryz.stringslite_Clone s w hs).mono ?_
  rintro e w1 ⟨rfl, hb⟩
  go_wp2_with fail
  go_ret
  exact ⟨rfl, hb⟩

/-- What is sorted so far lies in a block of the call's own. -/
def Heap (w : World) (base : Nat) (u : Value) (L : List (List UInt8)) : Prop := ∃ g c, u = .slice (some ⟨g, 0, none⟩) L.length c ∧ w.ownsRow base 9 1 u L.length (L.map S)
theorem Heap.own {w : World} {base : Nat} {u : Value} {L : List (List UInt8)} (h : Heap w base u L) : w.ownsRow base 9 1 u L.length (L.map S) := by
  obtain ⟨_, _, _, h⟩ := h; exact h
theorem heap_next {w : World} {base k : Nat} {v : Value} {P : List (List UInt8)} (hk : k < P.length) {x : List UInt8} (hx : P[k] = x) (h : w.ownsRow base 9 1 v ((P.take k).length + 1) ((P.take k).map S ++ [.string ⟨x.toArray⟩])) : Heap w base v (P.take (k + 1)) := by
  have hl : (P.take (k + 1)).length = (P.take k).length + 1 := by simp; omega
  have he : (P.take (k + 1)).map S = (P.take k).map S ++ [.string ⟨x.toArray⟩] := by
    rw [List.take_succ_eq_append_getElem hk, hx]; simp [S]
  obtain ⟨g, c, hv⟩ := ownsRow_succ h
  exact ⟨g, c, by rw [hl]; exact hv, by rw [hl, he]; exact h⟩

set_option maxRecDepth 20000 in
set_option maxHeartbeats 1000000 in
theorem iSortNames_any (v : Value) (P : List (List UInt8)) (w : World) (hr : Row w v P) (hl : Hid (P.length + tot P ≤ 1048576)) (hE : Env w) :
    Calls Tryz.prog 18 #[v] w fun e w' => ∃ v', e = .returned (.tuple #[v', .bool (sortB P)]) ∧ OwnS w' w.heap.size v' (sortT P) ∧ Below w.heap.size w w' := by
  obtain ⟨i0, hi, hz0, hz1, hz2⟩ := info_parts info_string
  obtain ⟨a, cap, rfl, hcap, hmax, HROW⟩ := row_value hr
  have HE : Hid (Env w) := hE
  have HLT : Hid (∀ g, w.heap.size ≤ g → 1 ≠ g ∧ 2 ≠ g) := fun g hg => ⟨by have := hE.lt.1; omega, by have := hE.lt.2; omega⟩
  clear hr hE
  by_cases h60 : (60 : Int) < (P.length : Int)
  · have HB : Hid (sortB P = false) := by unfold sortB; rw [decide_eq_false (by omega), Bool.and_false]; exact rfl
    go_enter Tryz.func18, Tryz.ntmps18
    go_wp2_with fail
    go_ret2
    refine ⟨_, ret_two rfl (val_bool HB.out.symm), .inl ⟨rfl, ?_⟩, Below.refl _ _⟩
    unfold sortT; rw [HB.out]; exact rfl
  · have hp60 : P.length ≤ 60 := by omega
    go_enter Tryz.func18, Tryz.ntmps18
    go_wp2_with (at_make; refine wpList_make_own _ rfl _ _ 26 rfl w.heap.size 9 i0 (.string ByteArray.empty) 1 Tryz.underlying26 hi hz0 hz1 _ _ _ P.length rfl rfl rfl ?b2 ?b3 ?b4 ?_)
    case b2 => omega
    case b3 => unfold maxLen; omega
    intro w1 hown hgrow
    have hb1 : Below w.heap.size w w1 := (Below.refl _ _).grown hgrow (Nat.le_refl _) (fun k h => by cases h)
    have HO : Hid (Heap w1 w.heap.size (.slice (some ⟨w.heap.size, 0, none⟩) 0 P.length) (P.take 0)) := ⟨_, _, rfl, hown⟩
    clear hown hgrow
    go_wp2_with fail
    go_loopw [4, 15] (fun u i wr => ∃ k : Nat, k ≤ P.length ∧ i = .int .i64 k ∧ Hid ((P.take k).all nameB = true) ∧ Hid (Heap wr w.heap.size u (P.take k)) ∧ Below w.heap.size w wr) (fun _ i _ => P.length - (intOf i).toNat)
    case atStart => exact ⟨0, Nat.zero_le _, rfl, rfl, HO, hb1⟩
    case round =>
      obtain ⟨k, hk, rfl, HA, HU, hb⟩ := hrel
      clear HO hb1
      by_cases hlt : k < P.length
      · obtain ⟨b, o, ha, hbl, hc⟩ := HROW.out (by omega)
        rw [ha]
        have hcx := hc k hlt
        rw [← hb.cell (p := ⟨b, o + k, none⟩) hbl] at hcx
        have hxl : (P[k]'hlt).length ≤ 1048576 := by have := tot_one (List.getElem_mem hlt); have := hl.out; omega
        have HST : Hid (nameB (P[k]'hlt) = true → (P.take (k + 1)).all nameB = true) := fun h => all_names_step HA.out hlt h
        have HNO : Hid (nameB (P[k]'hlt) = false → P.all nameB = false) := fun h => all_names_not hlt h
        obtain ⟨x, hx⟩ : ∃ x, P[k]'hlt = x := ⟨_, rfl⟩
        have HX : Hid (P[k]'hlt = x) := hx
        rw [hx] at hcx hxl HST HNO
        unfold S at hcx
        clear hc hx
        have hxs : (⟨x.toArray⟩ : ByteArray).size ≤ 281474976710656 := by rw [size_list]; omega
        cases ho : nameB x with
        | false =>
          have HB : Hid (sortB P = false) := by unfold sortB; rw [HNO.out ho]; exact rfl
          have HON : Hid (nameB x = false) := ho
          clear ho
          go_wp2_with fail
          refine (iGoodName_any _ _ (HE.out.below hb)).mono ?_
          rintro e w2 ⟨rfl, hb2⟩
          rw [show (⟨x.toArray⟩ : ByteArray).data.toList = x from rfl, HON.out]
          go_wp2_with fail
          go_ret2
          refine ⟨_, ret_two rfl (val_bool HB.out.symm), .inl ⟨rfl, ?_⟩, hb.trans (hb2.mono hb.size)⟩
          unfold sortT; rw [HB.out]; exact rfl
        | true =>
          have HON : Hid (nameB x = true) := ho
          clear ho
          go_wp2_with fail
          refine (iGoodName_any _ _ (HE.out.below hb)).mono ?_
          rintro e w2 ⟨rfl, hb2⟩
          rw [show (⟨x.toArray⟩ : ByteArray).data.toList = x from rfl, HON.out]
          have hb02 := hb.trans (hb2.mono hb.size)
          go_wp2_with fail
          refine (clone_any _ _ hxs).mono ?_
          rintro e w3 ⟨rfl, hb3⟩
          have hb03 := hb02.trans (hb3.mono hb02.size)
          have hown := HU.out.own
          have hown3 := own_below (own_below hown hb2) hb3
          clear hb2 hb3 hb02 hown
          have hkl : (P.take k).length = k := by simp; omega
          rw [hkl] at hown3
          go_wp2_with (at_builtin; refine wpList_append_own _ rfl (.tmp 22) (.tmp 25) 26 rfl w.heap.size 9 i0 (.string ByteArray.empty) 1 16 Tryz.underlying26 hi hz0 hz1 hz2 rfl (by decide) _ _ _ rfl (hown3.alloc _) ⟨w3.heap.size, 0, none⟩ 1 1 [.string ⟨x.toArray⟩] rfl rfl ?c1 ?c2 ?c3 ?c4 ?c5 ?_)
          case c1 => exact cell_new_one _ _ _
          case c2 => exact one_string _
          case c3 => unfold maxLen; omega
          case c4 => omega
          case c5 => have := hb03.size; simp; omega
          intro v4 w4 hown4 hgrow4 _
          have hb04 : Below w.heap.size w w4 := below_grown1 hb03 hown3 hgrow4
          have HU4 : Hid (Heap w4 w.heap.size v4 (P.take (k + 1))) := heap_next hlt HX.out (by rw [hkl, List.map_take]; exact hown4)
          clear hown4 hgrow4 hown3 hb03 hkl
          go_wp2_with fail
          go_roundw
          case rel => exact ⟨k + 1, by omega, by go_num, HST.out HON.out, HU4, hb04⟩
          case measure => simp [intOf]; omega
      · obtain rfl : k = P.length := by omega
        have hfull : P.take P.length = P := List.take_length
        have hA := HA.out
        have hU := HU.out
        rw [hfull] at hA hU
        have HB : Hid (sortB P = true) := by unfold sortB; rw [hA, decide_eq_true (by omega)]; exact rfl
        have HN : Hid (∀ x ∈ P, nameB x = true) := List.all_eq_true.1 hA
        obtain ⟨g, c, rfl, hown⟩ := hU
        have hs : SRow wr g P := srow_own hown rfl
        have hcc := hown
        obtain ⟨_, ⟨hh, _⟩ | ⟨g', c', cur, hv, hg, _, hpc, hcm, _⟩⟩ := hcc
        · cases hh
        cases hv
        have HS : Hid (SRow wr g P) := hs
        have hgs := hs.1
        unfold maxLen at hcm
        clear hfull hA hown hs HA HU
        go_wp2_with fail
        refine (sortFunc_any g c P _ (HE.out.below hb) HS.out HN.out (HLT.out g hg).1 (HLT.out g hg).2 (by omega)).mono ?_
        rintro e w2 ⟨rfl, Q, hperm, hsorted, hsQ, hgr⟩
        have HQ : Hid (Lib.compact Q = sortN P) := compact_sorted hperm hsorted
        have hql := hperm.length_eq
        have hcmp := compact_any g c Q w2 hsQ (by omega) (by omega)
        rw [hql] at hcmp
        have hb2 : Below w.heap.size w w2 := hb.grown hgr hb.size (fun k h => by cases h; exact hg)
        clear hperm hsorted hsQ hgr
        go_wp2_with fail
        refine hcmp.mono ?_
        rintro e w3 ⟨rfl, hs3, hgr3⟩
        have hb3 : Below w.heap.size w w3 := hb2.grown hgr3 hb2.size (fun k h => by cases h; exact hg)
        rw [HQ.out] at hs3 ⊢
        have HS3 : Hid (SRow w3 g (sortN P)) := hs3
        clear hs3 hgr3 hcmp
        go_wp2_with fail
        go_ret2
        have hT : sortT P = sortN P := by unfold sortT; rw [HB.out]; exact rfl
        refine ⟨_, ret_two rfl (val_bool HB.out.symm), .inr ⟨g, c, by rw [hT]; exact rfl, ?_, by unfold maxLen; omega, hg, by rw [hT]; exact HS3.out⟩, hb3⟩
        rw [hT]; have := sortN_length P; omega
end Go.Proofs.YthibfbddjlacdaaGreatDoor
