import Derived.Test.YtmhiopkpjdnddaaDoorMarkS
namespace Go.Proofs.YtmhiopkpjdnddaaDoor
open Go.RowKit

theorem owns_S {w : World} {base : Nat} {v : Value} {P : List (List UInt8)} (h : w.ownsRow base 9 1 v P.length (P.map S)) : OwnS w base v P := by
  obtain ⟨g, cap, ⟨rfl, rfl⟩ | ⟨rfl, hg, hgl, hc, hm, _⟩⟩ := shape_of_own h
  · exact .inl ⟨rfl, rfl⟩
  · exact .inr ⟨g, cap, rfl, hc, hm, hg, srow_own h rfl⟩

/-- What LabelsOf tells. -/
def lst (l : List UInt8) : List (List UInt8) := if nameB l = true then labelsOf l else []
theorem lst_true {l : List UInt8} (h : nameB l = true) : lst l = labelsOf l := by unfold lst; rw [if_pos h]
theorem lst_false {l : List UInt8} (h : nameB l = false) : lst l = [] := by unfold lst; rw [if_neg (by rw [h]; simp)]
theorem lst_eight (l : List UInt8) : (lst l).length ≤ 8 := by
  cases h : nameB l with
  | true => rw [lst_true h]; exact name_eight h
  | false => rw [lst_false h]; simp

set_option maxRecDepth 20000 in
set_option maxHeartbeats 1000000 in
theorem sLabelsOf_any (s : ByteArray) (w : World) (hs : s.size ≤ 4294967280) :
    Calls Tryd.prog 9 #[.string s] w fun e w' => ∃ v, e = .returned (.tuple #[v, .bool (nameB s.data.toList)]) ∧ OwnS w' w.heap.size v (lst s.data.toList) ∧ Below w.heap.size w w' := by
  go_enter Tryd.func9, Tryd.ntmps9
  go_wp2_with fail
  refine (l1Labels_any s w hs).mono ?_
  rintro e w1 ⟨v, rfl, hown, hb⟩
  cases h : nameB s.data.toList with
  | false =>
    have HN : Hid (nameB s.data.toList = false) := h
    clear h hown
    go_wp2_with fail
    go_ret2
    exact ⟨_, ret_two rfl (val_bool HN.out.symm), .inl ⟨rfl, lst_false HN.out⟩, hb⟩
  | true =>
    have HN : Hid (nameB s.data.toList = true) := h
    have HO : Hid (OwnS w1 w.heap.size v (lst s.data.toList)) := by rw [lst_true h]; exact owns_S (hown h)
    clear h hown
    go_wp2_with fail
    go_ret2
    exact ⟨_, ret_two rfl (val_bool HN.out.symm), HO.out, hb⟩

set_option maxRecDepth 20000 in
set_option maxHeartbeats 400000 in
theorem clone_any (s : ByteArray) (w : World) (hs : s.size ≤ 281474976710656) :
    Calls Tryd.prog 35 #[.string s] w fun e w' => e = .returned (.string s) ∧ Below w.heap.size w w' := by
  go_enter Tryd.func35, Tryd.ntmps35
  go_wp2_with fail
  refine (Tryd.stringslite_Clone s w hs).mono ?_
  rintro e w1 ⟨rfl, hb⟩
  go_wp2_with fail
  go_ret
  exact ⟨rfl, hb⟩

theorem labels_short {l p : List UInt8} (h : nameB l = true) (hp : p ∈ labelsOf l) : p.length ≤ 60 := by
  have h60 : l.length ≤ 60 := by unfold nameB at h; simp only [Bool.and_eq_true, decide_eq_true_eq] at h; exact h.2.1
  unfold labelsOf at hp
  split at hp
  · simp at hp
  · exact Nat.le_trans (cut_piece_le 46 l p hp) h60

theorem set_same (L : List (List UInt8)) (k : Nat) (h : k < L.length) : L.set k L[k] = L := by
  apply List.ext_getElem
  · simp
  · intro i h1 h2
    rw [List.getElem_set]
    split
    · rename_i e; subst e; rfl
    · rfl

set_option maxRecDepth 20000 in
set_option maxHeartbeats 1000000 in
theorem iLabelsOf_any (s : ByteArray) (w : World) (hE : Env w) :
    Calls Tryd.prog 8 #[.string s] w fun e w' => ∃ v, e = .returned (.tuple #[v, .bool (nameB s.data.toList)]) ∧ OwnS w' w.heap.size v (lst s.data.toList) ∧ Below w.heap.size w w' := by
  go_enter Tryd.func8, Tryd.ntmps8
  go_wp2_with fail
  refine (splitName_any s w hE).mono ?_
  rintro e w1 ⟨v, rfl, hown, hnil, hb⟩
  cases h : nameB s.data.toList with
  | false =>
    have HN : Hid (nameB s.data.toList = false) := h
    rw [hnil h]
    clear h hown hnil
    go_wp2_with fail
    go_rounds 1
    go_ret2
    exact ⟨_, ret_two rfl (val_bool HN.out.symm), .inl ⟨rfl, lst_false HN.out⟩, hb⟩
  | true =>
    have HN : Hid (nameB s.data.toList = true) := h
    have hO : OwnS w1 w.heap.size v (labelsOf s.data.toList) := owns_S (hown h)
    have HSH : Hid (∀ p ∈ labelsOf s.data.toList, p.length ≤ 60) := fun p hp => labels_short h hp
    have HL8 : (labelsOf s.data.toList).length ≤ 8 := name_eight h
    have HLS : Hid (lst s.data.toList = labelsOf s.data.toList) := lst_true h
    obtain ⟨L, hL⟩ : ∃ L, L = labelsOf s.data.toList := ⟨_, rfl⟩
    rw [← hL] at hO HSH HL8 HLS
    clear h hown hnil hL
    rcases hO with ⟨rfl, rfl⟩ | ⟨g, cap, rfl, hcap, hmax, hbase, hs⟩
    · go_wp2_with fail
      go_rounds 1
      go_ret2
      exact ⟨_, ret_two rfl (val_bool HN.out.symm), .inl ⟨rfl, HLS.out⟩, hb⟩
    · have HS : Hid (SRow w1 g L) := hs
      unfold maxLen at hmax
      clear hs
      go_wp2_with fail
      go_loopw [15] (fun i wr => ∃ k : Nat, k ≤ L.length ∧ i = .int .i64 k ∧ Hid (SRow wr g L) ∧ Below w.heap.size w wr) (fun i _ => L.length - (intOf i).toNat)
      case atStart => exact ⟨0, Nat.zero_le _, rfl, HS, hb⟩
      case round =>
        obtain ⟨k, hk, rfl, HR, hbr⟩ := hrel
        clear hb
        by_cases hlt : k < L.length
        · have hcx := (HR.out.2 k hlt).1
          have hxl := HSH.out (L[k]'hlt) (List.getElem_mem _)
          have hset0 := fun W (hW : SRow W g L) => hW.set k hlt (L[k]'hlt)
          rw [set_same L k hlt] at hset0
          have HSET : Hid (∀ W, SRow W g L → SRow (W.setCell ⟨g, k, none⟩ (.string ⟨(L[k]'hlt).toArray⟩)) g L) := hset0
          have HCF : Hid (∀ W, SRow W g L → W.cell? ⟨g, k, none⟩ = some (.string ⟨(L[k]'hlt).toArray⟩) ∧ W.frozen? ⟨g, k, none⟩ = false) := fun W hW => hW.2 k hlt
          clear hset0
          obtain ⟨x, hx⟩ : ∃ x, x = L[k]'hlt := ⟨_, rfl⟩
          rw [← hx] at hcx hxl HSET HCF
          unfold S at hcx
          clear hx
          have hxs : (⟨x.toArray⟩ : ByteArray).size ≤ 281474976710656 := by rw [size_list]; omega
          go_wp2_with fail
          refine (clone_any _ _ hxs).mono ?_
          rintro e w2 ⟨rfl, hb2⟩
          have hs2 := HR.out.kept hb2
          have hc2 := (HCF.out w2 hs2).1
          have hf2 := (HCF.out w2 hs2).2
          have HS3 : Hid (SRow (w2.setCell ⟨g, k, none⟩ (.string ⟨x.toArray⟩)) g L) := HSET.out w2 hs2
          have hbw := hbr.trans (hb2.mono hbr.size)
          clear hs2 hb2 hcx
          go_wp2_with fail
          go_roundw
          case rel => exact ⟨k + 1, by omega, by go_num, HS3, hbw.setCell (p := ⟨g, k, none⟩) hbase _⟩
          case measure => simp [intOf]; omega
        · go_wp2_with fail
          go_ret2
          exact ⟨_, ret_two rfl (val_bool HN.out.symm), .inr ⟨g, cap, by rw [HLS.out]; rfl, by rw [HLS.out]; exact hcap, by unfold maxLen; omega, hbase, by rw [HLS.out]; exact HR.out⟩, hbr⟩
end Go.Proofs.YtmhiopkpjdnddaaDoor
