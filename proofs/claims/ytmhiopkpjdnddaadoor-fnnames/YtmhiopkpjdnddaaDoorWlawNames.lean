import Derived.Test.YtmhiopkpjdnddaaDoorNamP
import Derived.Test.YtmhiopkpjdnddaaDoorDrwB
import Derived.Test.YtmhiopkpjdnddaaDoorLabels
import Derived.Test.YtmhiopkpjdnddaaDoorNameOf
import Derived.Test.YtmhiopkpjdnddaaDoorJoinN
import Derived.Test.YtmhiopkpjdnddaaDoorWild
import Derived.Test.YtmhiopkpjdnddaaDoorSameT
namespace Go.Proofs.YtmhiopkpjdnddaaDoor.lawNames
open Go.RowKit

theorem of_list (l : List UInt8) : (⟨l.toArray⟩ : ByteArray).data.toList = l := by simp
theorem small_lst {l : List UInt8} (h : nameB l = true) : Hid ((labelsOf l).length + tot (labelsOf l) ≤ 1048576) := by
  have h1 := name_eight h
  have h2 := (show Small (labelsOf l) from ⟨by omega, fun p hp => labels_short h hp⟩).tot
  show _ ≤ _; omega
theorem parent_no {l : List UInt8} (h : nameB l = false ∨ l = []) : parentT l = [] ∧ parentB l = false := by
  unfold parentT parentB
  rcases h with h | h
  · rw [h]; exact ⟨if_neg (by simp), rfl⟩
  · rw [h]; exact ⟨if_neg (by simp), by simp⟩
theorem parent_yes {l : List UInt8} (h : nameB l = true) (h0 : l ≠ []) : parentT l = parentL l ∧ parentB l = true := by
  unfold parentT parentB
  rw [h]; exact ⟨if_pos ⟨rfl, h0⟩, by simpa using h0⟩
theorem own_some {w : World} {base : Nat} {v : Value} {L : List (List UInt8)} (h : OwnS w base v L) (h0 : 0 < L.length) : ∃ g cap, v = .slice (some ⟨g, 0, none⟩) L.length cap ∧ L.length ≤ cap ∧ cap ≤ 9223372036854775807 := by
  rcases h with ⟨_, h⟩ | ⟨g, cap, h1, h2, h3, _⟩
  · rw [h] at h0; simp at h0
  · exact ⟨g, cap, h1, h2, by unfold maxLen at h3; omega⟩
theorem tail_rows {w : World} {base g c : Nat} {L : List (List UInt8)} (h : OwnS w base (.slice (some ⟨g, 0, none⟩) L.length c) L) (h0 : 0 < L.length) :
    Hid ((c = 1 → Row w (.slice (some ⟨g, 0, none⟩) (L.length - 1) 0) (L.drop 1)) ∧ Row w (.slice (some ⟨g, 1, none⟩) (L.length - 1) (c - 1)) (L.drop 1)) := by
  rcases h with ⟨h, _⟩ | ⟨g', c', h1, h2, h3, _, hs⟩
  · cases h
  · cases h1
    refine ⟨fun hc => ?_, ?_⟩
    · have e : L.drop 1 = [] := List.drop_of_length_le (by omega)
      rw [e, show L.length - 1 = 0 by omega]
      exact ⟨_, 0, rfl, Nat.le_refl _, by unfold maxLen; omega, .inl rfl⟩
    · refine ⟨_, c - 1, by rw [List.length_drop], by rw [List.length_drop]; omega, by omega, .inr ⟨g, 1, rfl, hs.1, fun j hj => ?_⟩⟩
      rw [List.length_drop] at hj
      rw [(hs.2 (1 + j) (by omega)).1, List.getElem_drop]
theorem lst_nil : lst [] = [] := by unfold lst labelsOf; simp

set_option maxRecDepth 20000 in
set_option maxHeartbeats 8000000 in
theorem walk (v : Value) (P : List Int) (u : Value) (R : List Int) (w : World) (hr : ZRow .u8 w v P) (hb : Hid (∀ x ∈ P, 0 ≤ x ∧ x ≤ 255)) (hr2 : ZRow .u8 w u R) (hb2 : Hid (∀ x ∈ R, 0 ≤ x ∧ x ≤ 255)) (hE : Env w) :
    Calls Tryd.prog 3 #[v, u] w fun e w' => e = .returned (.bool true) ∧ Below w.heap.size w w' := by
  have HR : Hid (ZRow .u8 w v P) := hr
  have HM_0 : Hid (ZRow .u8 w u R) := hr2
  obtain ⟨a1, cap1, rfl, hcap1, hmax1, _⟩ := zrow_value hr
  obtain ⟨a2, cap2, rfl, hcap2, hmax2, _⟩ := zrow_value hr2
  clear hr hr2
  by_cases hbig : (1048576 : Int) < wrap64 ((P.length : Int) + (R.length : Int))
  · go_enter Tryd.func3, Tryd.ntmps3
    go_wp2_with fail
    go_ret
    exact ⟨rfl, Below.refl _ _⟩
  · have hle1 : P.length ≤ 9223372036854775807 := by omega
    have hle2 : R.length ≤ 9223372036854775807 := by omega
    go_enter Tryd.func3, Tryd.ntmps3
    go_wp2_with fail
    refine (drawLabelsOf_any _ P _ HR.out hb hle1).mono ?_
    rintro e w1 ⟨sa, ⟨rfl, hsa⟩, hbn⟩
    obtain ⟨l, rfl⟩ : ∃ l : List UInt8, sa = ⟨l.toArray⟩ := ⟨sa.data.toList, by simp⟩
    have hsl : l.length ≤ 30 := by rw [size_of] at hsa; exact hsa
    have hb01 : Below w.heap.size w w1 := hbn
    have hE1 : Env w1 := hE.below hbn
    have HM_1 : Hid (ZRow .u8 w1 (.slice a2 R.length cap2) R) := HM_0.out.kept hbn
    clear HR HM_0 hbn
    go_wp2_with fail
    cases hN : nameB l with
    | false =>
      have HN : Hid (nameB l = false) := hN
      have HL : Hid (lst l = []) := lst_false hN
      have HP : Hid (parentT l = [] ∧ parentB l = false) := parent_no (.inl hN)
      clear hN
      refine (iLabelsOf_any _ _ hE1).mono ?_
      rw [of_list, HL.out, HN.out]
      rintro e w2 ⟨v1, rfl, ho1, hbn⟩
      have hb02 : Below w.heap.size w w2 := hb01.trans (hbn.mono hb01.size)
      have hE2 : Env w2 := hE1.below hbn
      have HM_2 : Hid (ZRow .u8 w2 (.slice a2 R.length cap2) R) := (HM_1).out.kept hbn
      clear hbn hb01 hE1 HM_1
      have HA_2 : Hid (OwnS w2 w1.heap.size v1 []) := ho1
      clear ho1
      obtain ⟨av, cv, rfl, hc1, hm1, _⟩ := row_value HA_2.out.row
      go_wp2_with fail
      refine (sLabelsOf_any _ _ (by rw [size_of]; omega)).mono ?_
      rw [of_list, HL.out, HN.out]
      rintro e w3 ⟨v2, rfl, ho2, hbn⟩
      have hb03 : Below w.heap.size w w3 := hb02.trans (hbn.mono hb02.size)
      have hE3 : Env w3 := hE2.below hbn
      have HM_3 : Hid (ZRow .u8 w3 (.slice a2 R.length cap2) R) := (HM_2).out.kept hbn
      have HA_3 : Hid (OwnS w3 w1.heap.size (.slice av ([] : List (List UInt8)).length cv) []) := (HA_2).out.kept hbn
      clear hbn hb02 hE2 HM_2 HA_2
      have HB2_3 : Hid (OwnS w3 w2.heap.size v2 []) := ho2
      clear ho2
      obtain ⟨av2, cv2, rfl, hc2, hm2, _⟩ := row_value HB2_3.out.row
      go_wp2_with fail
      refine (iParentOf_any _ _ hE3).mono ?_
      rw [of_list, HP.out.1, HP.out.2]
      rintro e w4 ⟨rfl, hbn⟩
      have hb04 : Below w.heap.size w w4 := hb03.trans (hbn.mono hb03.size)
      have hE4 : Env w4 := hE3.below hbn
      have HM_4 : Hid (ZRow .u8 w4 (.slice a2 R.length cap2) R) := (HM_3).out.kept hbn
      have HA_4 : Hid (OwnS w4 w1.heap.size (.slice av ([] : List (List UInt8)).length cv) []) := (HA_3).out.kept hbn
      have HB2_4 : Hid (OwnS w4 w2.heap.size (.slice av2 ([] : List (List UInt8)).length cv2) []) := (HB2_3).out.kept hbn
      clear hbn hb03 hE3 HM_3 HA_3 HB2_3
      go_wp2_with fail
      refine (sParentOf_any _ _ (by rw [size_of]; omega)).mono ?_
      rw [of_list, HP.out.1, HP.out.2]
      rintro e w5 ⟨rfl, hbn⟩
      have hb05 : Below w.heap.size w w5 := hb04.trans (hbn.mono hb04.size)
      have hE5 : Env w5 := hE4.below hbn
      have HM_5 : Hid (ZRow .u8 w5 (.slice a2 R.length cap2) R) := (HM_4).out.kept hbn
      have HA_5 : Hid (OwnS w5 w1.heap.size (.slice av ([] : List (List UInt8)).length cv) []) := (HA_4).out.kept hbn
      have HB2_5 : Hid (OwnS w5 w2.heap.size (.slice av2 ([] : List (List UInt8)).length cv2) []) := (HB2_4).out.kept hbn
      clear hbn hb04 hE4 HM_4 HA_4 HB2_4
      go_wp2_with fail
      refine (sameTexts_any _ _ [] _ HA_5.out.row HB2_5.out.row).mono ?_
      rintro e w6 ⟨rfl, hbn⟩
      have hb06 : Below w.heap.size w w6 := hb05.trans (hbn.mono hb05.size)
      have hE6 : Env w6 := hE5.below hbn
      have HM_6 : Hid (ZRow .u8 w6 (.slice a2 R.length cap2) R) := (HM_5).out.kept hbn
      have HA_6 : Hid (OwnS w6 w1.heap.size (.slice av ([] : List (List UInt8)).length cv) []) := (HA_5).out.kept hbn
      have HB2_6 : Hid (OwnS w6 w2.heap.size (.slice av2 ([] : List (List UInt8)).length cv2) []) := (HB2_5).out.kept hbn
      clear hbn hb05 hE5 HM_5 HA_5 HB2_5
      go_wp2_with fail
      refine (iGoodName_any _ _ hE6).mono ?_
      rw [of_list, HN.out]
      rintro e w7 ⟨rfl, hbn⟩
      have hb07 : Below w.heap.size w w7 := hb06.trans (hbn.mono hb06.size)
      have hE7 : Env w7 := hE6.below hbn
      have HM_7 : Hid (ZRow .u8 w7 (.slice a2 R.length cap2) R) := (HM_6).out.kept hbn
      have HA_7 : Hid (OwnS w7 w1.heap.size (.slice av ([] : List (List UInt8)).length cv) []) := (HA_6).out.kept hbn
      clear hbn hb06 hE6 HM_6 HA_6
      go_wp2_with fail
      refine (drawNameOf_any _ R _ HM_7.out hb2 hle2).mono ?_
      rintro e w8 ⟨u3, L3, ⟨rfl, hrow3, hsm3⟩, hbn⟩
      have hb08 : Below w.heap.size w w8 := hb07.trans (hbn.mono hb07.size)
      have hE8 : Env w8 := hE7.below hbn
      have HM_8 : Hid (ZRow .u8 w8 (.slice a2 R.length cap2) R) := (HM_7).out.kept hbn
      have HA_8 : Hid (OwnS w8 w1.heap.size (.slice av ([] : List (List UInt8)).length cv) []) := (HA_7).out.kept hbn
      clear hbn hb07 hE7 HM_7 HA_7
      have HL3_8 : Hid (Row w8 u3 L3) := hrow3
      obtain ⟨a3, c3, rfl, hc3, hm3, _⟩ := row_value HL3_8.out
      have HT3 : Hid (L3.length + tot L3 ≤ 1048576) := by have h1 := hsm3.tot; have h2 := hsm3.1; show _ ≤ _; omega
      have HT3' : Hid (L3.length + tot L3 ≤ 68719476736) := by have h1 := HT3.out; show _ ≤ _; omega
      obtain ⟨n3, b3, hnv⟩ : ∃ n3 b3, n3 = nameOfT L3 ∧ b3 = nameOfB L3 := ⟨_, _, rfl, rfl⟩
      have HNV : Hid (nameOfT L3 = n3 ∧ nameOfB L3 = b3) := ⟨hnv.1.symm, hnv.2.symm⟩
      clear hsm3 hnv hrow3
      have x1 : (b3 != b3) = false := by simp
      have x2 : (n3 != n3) = false := by simp
      go_wp2_with fail
      refine (iNameOf_any _ L3 _ HL3_8.out HT3' hE8).mono ?_
      rw [HNV.out.1, HNV.out.2]
      rintro e w9 ⟨rfl, hbn⟩
      have hb09 : Below w.heap.size w w9 := hb08.trans (hbn.mono hb08.size)
      have hE9 : Env w9 := hE8.below hbn
      have HM_9 : Hid (ZRow .u8 w9 (.slice a2 R.length cap2) R) := (HM_8).out.kept hbn
      have HA_9 : Hid (OwnS w9 w1.heap.size (.slice av ([] : List (List UInt8)).length cv) []) := (HA_8).out.kept hbn
      have HL3_9 : Hid (Row w9 (.slice a3 L3.length c3) L3) := (HL3_8).out.kept hbn
      clear hbn hb08 hE8 HM_8 HA_8 HL3_8
      go_wp2_with fail
      refine (sNameOf_any _ L3 _ HL3_9.out HT3).mono ?_
      rw [HNV.out.1, HNV.out.2]
      rintro e w10 ⟨rfl, hbn⟩
      have hb010 : Below w.heap.size w w10 := hb09.trans (hbn.mono hb09.size)
      have hE10 : Env w10 := hE9.below hbn
      have HM_10 : Hid (ZRow .u8 w10 (.slice a2 R.length cap2) R) := (HM_9).out.kept hbn
      have HA_10 : Hid (OwnS w10 w1.heap.size (.slice av ([] : List (List UInt8)).length cv) []) := (HA_9).out.kept hbn
      have HL3_10 : Hid (Row w10 (.slice a3 L3.length c3) L3) := (HL3_9).out.kept hbn
      clear hbn hb09 hE9 HM_9 HA_9 HL3_9
      go_wp2_with fail
      refine (drawFoldName_any _ R _ HM_10.out hb2 hle2).mono ?_
      rintro e w11 ⟨sf, ⟨rfl, hsf⟩, hbn⟩
      have hb011 : Below w.heap.size w w11 := hb010.trans (hbn.mono hb010.size)
      have hE11 : Env w11 := hE10.below hbn
      have HM_11 : Hid (ZRow .u8 w11 (.slice a2 R.length cap2) R) := (HM_10).out.kept hbn
      have HA_11 : Hid (OwnS w11 w1.heap.size (.slice av ([] : List (List UInt8)).length cv) []) := (HA_10).out.kept hbn
      have HL3_11 : Hid (Row w11 (.slice a3 L3.length c3) L3) := (HL3_10).out.kept hbn
      obtain ⟨f, rfl⟩ : ∃ f : List UInt8, sf = ⟨f.toArray⟩ := ⟨sf.data.toList, by simp⟩
      have hfl : f.length ≤ 30 := by rw [size_of] at hsf; exact hsf
      clear hbn hb010 hE10 HM_10 HA_10 HL3_10
      obtain ⟨xf, hxf⟩ : ∃ xf, xf = foldT f := ⟨_, rfl⟩
      have x3 : (xf != xf) = false := by simp
      have HXF : Hid (foldT f = xf) := hxf.symm
      cases hfb : foldB f with
      | false =>
        have HFB : Hid (foldB f = false) := hfb
        clear hfb hxf
        go_wp2_with fail
        refine (iFoldName_any _ _ hE11).mono ?_
        rw [of_list, HXF.out, HFB.out]
        rintro e w12 ⟨rfl, hbn⟩
        have hb012 : Below w.heap.size w w12 := hb011.trans (hbn.mono hb011.size)
        have hE12 : Env w12 := hE11.below hbn
        have HM_12 : Hid (ZRow .u8 w12 (.slice a2 R.length cap2) R) := (HM_11).out.kept hbn
        have HA_12 : Hid (OwnS w12 w1.heap.size (.slice av ([] : List (List UInt8)).length cv) []) := (HA_11).out.kept hbn
        have HL3_12 : Hid (Row w12 (.slice a3 L3.length c3) L3) := (HL3_11).out.kept hbn
        clear hbn hb011 hE11 HM_11 HA_11 HL3_11
        go_wp2_with fail
        refine (sFoldName_any _ _ (by omega)).mono ?_
        rw [of_list, HXF.out, HFB.out]
        rintro e w13 ⟨rfl, hbn⟩
        have hb013 : Below w.heap.size w w13 := hb012.trans (hbn.mono hb012.size)
        have hE13 : Env w13 := hE12.below hbn
        have HM_13 : Hid (ZRow .u8 w13 (.slice a2 R.length cap2) R) := (HM_12).out.kept hbn
        have HA_13 : Hid (OwnS w13 w1.heap.size (.slice av ([] : List (List UInt8)).length cv) []) := (HA_12).out.kept hbn
        have HL3_13 : Hid (Row w13 (.slice a3 L3.length c3) L3) := (HL3_12).out.kept hbn
        clear hbn hb012 hE12 HM_12 HA_12 HL3_12
        go_wp2_with fail
        obtain ⟨y1, y2, hy⟩ : ∃ y1 y2, y1 = foldT xf ∧ y2 = foldB xf := ⟨_, _, rfl, rfl⟩
        have HY : Hid (foldT xf = y1 ∧ foldB xf = y2) := ⟨hy.1.symm, hy.2.symm⟩
        clear hy
        refine (iFoldName_any _ _ hE13).mono ?_
        rw [of_list, HY.out.1, HY.out.2]
        rintro e w14 ⟨rfl, hbn⟩
        have hb014 : Below w.heap.size w w14 := hb013.trans (hbn.mono hb013.size)
        have hE14 : Env w14 := hE13.below hbn
        have HM_14 : Hid (ZRow .u8 w14 (.slice a2 R.length cap2) R) := (HM_13).out.kept hbn
        have HA_14 : Hid (OwnS w14 w1.heap.size (.slice av ([] : List (List UInt8)).length cv) []) := (HA_13).out.kept hbn
        have HL3_14 : Hid (Row w14 (.slice a3 L3.length c3) L3) := (HL3_13).out.kept hbn
        clear hbn hb013 hE13 HM_13 HA_13 HL3_13
        go_wp2_with fail
        all_goals go_ret
        all_goals exact ⟨rfl, hb014⟩
      | true =>
        have HFB : Hid (foldB f = true) := hfb
        have HFT : Hid (foldT xf = xf ∧ foldB xf = true) := by have h := fold_twice hfb; rw [← hxf] at h; exact ⟨h.2, h.1⟩
        clear hfb hxf
        go_wp2_with fail
        refine (iFoldName_any _ _ hE11).mono ?_
        rw [of_list, HXF.out, HFB.out]
        rintro e w12 ⟨rfl, hbn⟩
        have hb012 : Below w.heap.size w w12 := hb011.trans (hbn.mono hb011.size)
        have hE12 : Env w12 := hE11.below hbn
        have HM_12 : Hid (ZRow .u8 w12 (.slice a2 R.length cap2) R) := (HM_11).out.kept hbn
        have HA_12 : Hid (OwnS w12 w1.heap.size (.slice av ([] : List (List UInt8)).length cv) []) := (HA_11).out.kept hbn
        have HL3_12 : Hid (Row w12 (.slice a3 L3.length c3) L3) := (HL3_11).out.kept hbn
        clear hbn hb011 hE11 HM_11 HA_11 HL3_11
        go_wp2_with fail
        refine (sFoldName_any _ _ (by omega)).mono ?_
        rw [of_list, HXF.out, HFB.out]
        rintro e w13 ⟨rfl, hbn⟩
        have hb013 : Below w.heap.size w w13 := hb012.trans (hbn.mono hb012.size)
        have hE13 : Env w13 := hE12.below hbn
        have HM_13 : Hid (ZRow .u8 w13 (.slice a2 R.length cap2) R) := (HM_12).out.kept hbn
        have HA_13 : Hid (OwnS w13 w1.heap.size (.slice av ([] : List (List UInt8)).length cv) []) := (HA_12).out.kept hbn
        have HL3_13 : Hid (Row w13 (.slice a3 L3.length c3) L3) := (HL3_12).out.kept hbn
        clear hbn hb012 hE12 HM_12 HA_12 HL3_12
        go_wp2_with fail
        refine (iFoldName_any _ _ hE13).mono ?_
        rw [of_list, HFT.out.1, HFT.out.2]
        rintro e w14 ⟨rfl, hbn⟩
        have hb014 : Below w.heap.size w w14 := hb013.trans (hbn.mono hb013.size)
        have hE14 : Env w14 := hE13.below hbn
        have HM_14 : Hid (ZRow .u8 w14 (.slice a2 R.length cap2) R) := (HM_13).out.kept hbn
        have HA_14 : Hid (OwnS w14 w1.heap.size (.slice av ([] : List (List UInt8)).length cv) []) := (HA_13).out.kept hbn
        have HL3_14 : Hid (Row w14 (.slice a3 L3.length c3) L3) := (HL3_13).out.kept hbn
        clear hbn hb013 hE13 HM_13 HA_13 HL3_13
        go_wp2_with fail
        all_goals go_ret
        all_goals exact ⟨rfl, hb014⟩
    | true =>
      by_cases h0 : l = []
      · subst h0
        have HN : Hid (nameB [] = true) := hN
        have HL : Hid (lst [] = []) := lst_nil
        have HP : Hid (parentT [] = [] ∧ parentB [] = false) := parent_no (.inr rfl)
        have HB : Hid (nameOfT [] = [] ∧ nameOfB [] = true) := by have h := names_back hN; exact ⟨h.2, h.1⟩
        clear hN
        refine (iLabelsOf_any _ _ hE1).mono ?_
        rw [of_list, HL.out, HN.out]
        rintro e w2 ⟨v1, rfl, ho1, hbn⟩
        have hb02 : Below w.heap.size w w2 := hb01.trans (hbn.mono hb01.size)
        have hE2 : Env w2 := hE1.below hbn
        have HM_2 : Hid (ZRow .u8 w2 (.slice a2 R.length cap2) R) := (HM_1).out.kept hbn
        clear hbn hb01 hE1 HM_1
        have HA_2 : Hid (OwnS w2 w1.heap.size v1 []) := ho1
        clear ho1
        obtain ⟨av, cv, rfl, hc1, hm1, _⟩ := row_value HA_2.out.row
        go_wp2_with fail
        refine (sLabelsOf_any _ _ (by rw [size_of]; simp)).mono ?_
        rw [of_list, HL.out, HN.out]
        rintro e w3 ⟨v2, rfl, ho2, hbn⟩
        have hb03 : Below w.heap.size w w3 := hb02.trans (hbn.mono hb02.size)
        have hE3 : Env w3 := hE2.below hbn
        have HM_3 : Hid (ZRow .u8 w3 (.slice a2 R.length cap2) R) := (HM_2).out.kept hbn
        have HA_3 : Hid (OwnS w3 w1.heap.size (.slice av ([] : List (List UInt8)).length cv) []) := (HA_2).out.kept hbn
        clear hbn hb02 hE2 HM_2 HA_2
        have HB2_3 : Hid (OwnS w3 w2.heap.size v2 []) := ho2
        clear ho2
        obtain ⟨av2, cv2, rfl, hc2, hm2, _⟩ := row_value HB2_3.out.row
        go_wp2_with fail
        refine (iParentOf_any _ _ hE3).mono ?_
        rw [of_list, HP.out.1, HP.out.2]
        rintro e w4 ⟨rfl, hbn⟩
        have hb04 : Below w.heap.size w w4 := hb03.trans (hbn.mono hb03.size)
        have hE4 : Env w4 := hE3.below hbn
        have HM_4 : Hid (ZRow .u8 w4 (.slice a2 R.length cap2) R) := (HM_3).out.kept hbn
        have HA_4 : Hid (OwnS w4 w1.heap.size (.slice av ([] : List (List UInt8)).length cv) []) := (HA_3).out.kept hbn
        have HB2_4 : Hid (OwnS w4 w2.heap.size (.slice av2 ([] : List (List UInt8)).length cv2) []) := (HB2_3).out.kept hbn
        clear hbn hb03 hE3 HM_3 HA_3 HB2_3
        go_wp2_with fail
        refine (sParentOf_any _ _ (by rw [size_of]; simp)).mono ?_
        rw [of_list, HP.out.1, HP.out.2]
        rintro e w5 ⟨rfl, hbn⟩
        have hb05 : Below w.heap.size w w5 := hb04.trans (hbn.mono hb04.size)
        have hE5 : Env w5 := hE4.below hbn
        have HM_5 : Hid (ZRow .u8 w5 (.slice a2 R.length cap2) R) := (HM_4).out.kept hbn
        have HA_5 : Hid (OwnS w5 w1.heap.size (.slice av ([] : List (List UInt8)).length cv) []) := (HA_4).out.kept hbn
        have HB2_5 : Hid (OwnS w5 w2.heap.size (.slice av2 ([] : List (List UInt8)).length cv2) []) := (HB2_4).out.kept hbn
        clear hbn hb04 hE4 HM_4 HA_4 HB2_4
        go_wp2_with fail
        refine (sameTexts_any _ _ [] _ HA_5.out.row HB2_5.out.row).mono ?_
        rintro e w6 ⟨rfl, hbn⟩
        have hb06 : Below w.heap.size w w6 := hb05.trans (hbn.mono hb05.size)
        have hE6 : Env w6 := hE5.below hbn
        have HM_6 : Hid (ZRow .u8 w6 (.slice a2 R.length cap2) R) := (HM_5).out.kept hbn
        have HA_6 : Hid (OwnS w6 w1.heap.size (.slice av ([] : List (List UInt8)).length cv) []) := (HA_5).out.kept hbn
        have HB2_6 : Hid (OwnS w6 w2.heap.size (.slice av2 ([] : List (List UInt8)).length cv2) []) := (HB2_5).out.kept hbn
        clear hbn hb05 hE5 HM_5 HA_5 HB2_5
        go_wp2_with fail
        refine (iGoodName_any _ _ hE6).mono ?_
        rw [of_list, HN.out]
        rintro e w7 ⟨rfl, hbn⟩
        have hb07 : Below w.heap.size w w7 := hb06.trans (hbn.mono hb06.size)
        have hE7 : Env w7 := hE6.below hbn
        have HM_7 : Hid (ZRow .u8 w7 (.slice a2 R.length cap2) R) := (HM_6).out.kept hbn
        have HA_7 : Hid (OwnS w7 w1.heap.size (.slice av ([] : List (List UInt8)).length cv) []) := (HA_6).out.kept hbn
        clear hbn hb06 hE6 HM_6 HA_6
        go_wp2_with fail
        refine (iNameOf_any _ [] _ HA_7.out.row (show Hid (([] : List (List UInt8)).length + tot [] ≤ 68719476736) from by show _ ≤ _; decide) hE7).mono ?_
        rw [HB.out.1, HB.out.2]
        rintro e w8 ⟨rfl, hbn⟩
        have hb08 : Below w.heap.size w w8 := hb07.trans (hbn.mono hb07.size)
        have hE8 : Env w8 := hE7.below hbn
        have HM_8 : Hid (ZRow .u8 w8 (.slice a2 R.length cap2) R) := (HM_7).out.kept hbn
        have HA_8 : Hid (OwnS w8 w1.heap.size (.slice av ([] : List (List UInt8)).length cv) []) := (HA_7).out.kept hbn
        clear hbn hb07 hE7 HM_7 HA_7
        go_wp2_with fail
        refine (drawNameOf_any _ R _ HM_8.out hb2 hle2).mono ?_
        rintro e w9 ⟨u3, L3, ⟨rfl, hrow3, hsm3⟩, hbn⟩
        have hb09 : Below w.heap.size w w9 := hb08.trans (hbn.mono hb08.size)
        have hE9 : Env w9 := hE8.below hbn
        have HM_9 : Hid (ZRow .u8 w9 (.slice a2 R.length cap2) R) := (HM_8).out.kept hbn
        have HA_9 : Hid (OwnS w9 w1.heap.size (.slice av ([] : List (List UInt8)).length cv) []) := (HA_8).out.kept hbn
        clear hbn hb08 hE8 HM_8 HA_8
        have HL3_9 : Hid (Row w9 u3 L3) := hrow3
        obtain ⟨a3, c3, rfl, hc3, hm3, _⟩ := row_value HL3_9.out
        have HT3 : Hid (L3.length + tot L3 ≤ 1048576) := by have h1 := hsm3.tot; have h2 := hsm3.1; show _ ≤ _; omega
        have HT3' : Hid (L3.length + tot L3 ≤ 68719476736) := by have h1 := HT3.out; show _ ≤ _; omega
        obtain ⟨n3, b3, hnv⟩ : ∃ n3 b3, n3 = nameOfT L3 ∧ b3 = nameOfB L3 := ⟨_, _, rfl, rfl⟩
        have HNV : Hid (nameOfT L3 = n3 ∧ nameOfB L3 = b3) := ⟨hnv.1.symm, hnv.2.symm⟩
        clear hsm3 hnv hrow3
        have x1 : (b3 != b3) = false := by simp
        have x2 : (n3 != n3) = false := by simp
        go_wp2_with fail
        refine (iNameOf_any _ L3 _ HL3_9.out HT3' hE9).mono ?_
        rw [HNV.out.1, HNV.out.2]
        rintro e w10 ⟨rfl, hbn⟩
        have hb010 : Below w.heap.size w w10 := hb09.trans (hbn.mono hb09.size)
        have hE10 : Env w10 := hE9.below hbn
        have HM_10 : Hid (ZRow .u8 w10 (.slice a2 R.length cap2) R) := (HM_9).out.kept hbn
        have HA_10 : Hid (OwnS w10 w1.heap.size (.slice av ([] : List (List UInt8)).length cv) []) := (HA_9).out.kept hbn
        have HL3_10 : Hid (Row w10 (.slice a3 L3.length c3) L3) := (HL3_9).out.kept hbn
        clear hbn hb09 hE9 HM_9 HA_9 HL3_9
        go_wp2_with fail
        refine (sNameOf_any _ L3 _ HL3_10.out HT3).mono ?_
        rw [HNV.out.1, HNV.out.2]
        rintro e w11 ⟨rfl, hbn⟩
        have hb011 : Below w.heap.size w w11 := hb010.trans (hbn.mono hb010.size)
        have hE11 : Env w11 := hE10.below hbn
        have HM_11 : Hid (ZRow .u8 w11 (.slice a2 R.length cap2) R) := (HM_10).out.kept hbn
        have HA_11 : Hid (OwnS w11 w1.heap.size (.slice av ([] : List (List UInt8)).length cv) []) := (HA_10).out.kept hbn
        have HL3_11 : Hid (Row w11 (.slice a3 L3.length c3) L3) := (HL3_10).out.kept hbn
        clear hbn hb010 hE10 HM_10 HA_10 HL3_10
        go_wp2_with fail
        refine (drawFoldName_any _ R _ HM_11.out hb2 hle2).mono ?_
        rintro e w12 ⟨sf, ⟨rfl, hsf⟩, hbn⟩
        have hb012 : Below w.heap.size w w12 := hb011.trans (hbn.mono hb011.size)
        have hE12 : Env w12 := hE11.below hbn
        have HM_12 : Hid (ZRow .u8 w12 (.slice a2 R.length cap2) R) := (HM_11).out.kept hbn
        have HA_12 : Hid (OwnS w12 w1.heap.size (.slice av ([] : List (List UInt8)).length cv) []) := (HA_11).out.kept hbn
        have HL3_12 : Hid (Row w12 (.slice a3 L3.length c3) L3) := (HL3_11).out.kept hbn
        obtain ⟨f, rfl⟩ : ∃ f : List UInt8, sf = ⟨f.toArray⟩ := ⟨sf.data.toList, by simp⟩
        have hfl : f.length ≤ 30 := by rw [size_of] at hsf; exact hsf
        clear hbn hb011 hE11 HM_11 HA_11 HL3_11
        obtain ⟨xf, hxf⟩ : ∃ xf, xf = foldT f := ⟨_, rfl⟩
        have x3 : (xf != xf) = false := by simp
        have HXF : Hid (foldT f = xf) := hxf.symm
        cases hfb : foldB f with
        | false =>
          have HFB : Hid (foldB f = false) := hfb
          clear hfb hxf
          go_wp2_with fail
          refine (iFoldName_any _ _ hE12).mono ?_
          rw [of_list, HXF.out, HFB.out]
          rintro e w13 ⟨rfl, hbn⟩
          have hb013 : Below w.heap.size w w13 := hb012.trans (hbn.mono hb012.size)
          have hE13 : Env w13 := hE12.below hbn
          have HM_13 : Hid (ZRow .u8 w13 (.slice a2 R.length cap2) R) := (HM_12).out.kept hbn
          have HA_13 : Hid (OwnS w13 w1.heap.size (.slice av ([] : List (List UInt8)).length cv) []) := (HA_12).out.kept hbn
          have HL3_13 : Hid (Row w13 (.slice a3 L3.length c3) L3) := (HL3_12).out.kept hbn
          clear hbn hb012 hE12 HM_12 HA_12 HL3_12
          go_wp2_with fail
          refine (sFoldName_any _ _ (by omega)).mono ?_
          rw [of_list, HXF.out, HFB.out]
          rintro e w14 ⟨rfl, hbn⟩
          have hb014 : Below w.heap.size w w14 := hb013.trans (hbn.mono hb013.size)
          have hE14 : Env w14 := hE13.below hbn
          have HM_14 : Hid (ZRow .u8 w14 (.slice a2 R.length cap2) R) := (HM_13).out.kept hbn
          have HA_14 : Hid (OwnS w14 w1.heap.size (.slice av ([] : List (List UInt8)).length cv) []) := (HA_13).out.kept hbn
          have HL3_14 : Hid (Row w14 (.slice a3 L3.length c3) L3) := (HL3_13).out.kept hbn
          clear hbn hb013 hE13 HM_13 HA_13 HL3_13
          go_wp2_with fail
          obtain ⟨y1, y2, hy⟩ : ∃ y1 y2, y1 = foldT xf ∧ y2 = foldB xf := ⟨_, _, rfl, rfl⟩
          have HY : Hid (foldT xf = y1 ∧ foldB xf = y2) := ⟨hy.1.symm, hy.2.symm⟩
          clear hy
          refine (iFoldName_any _ _ hE14).mono ?_
          rw [of_list, HY.out.1, HY.out.2]
          rintro e w15 ⟨rfl, hbn⟩
          have hb015 : Below w.heap.size w w15 := hb014.trans (hbn.mono hb014.size)
          have hE15 : Env w15 := hE14.below hbn
          have HM_15 : Hid (ZRow .u8 w15 (.slice a2 R.length cap2) R) := (HM_14).out.kept hbn
          have HA_15 : Hid (OwnS w15 w1.heap.size (.slice av ([] : List (List UInt8)).length cv) []) := (HA_14).out.kept hbn
          have HL3_15 : Hid (Row w15 (.slice a3 L3.length c3) L3) := (HL3_14).out.kept hbn
          clear hbn hb014 hE14 HM_14 HA_14 HL3_14
          go_wp2_with fail
          all_goals go_ret
          all_goals exact ⟨rfl, hb015⟩
        | true =>
          have HFB : Hid (foldB f = true) := hfb
          have HFT : Hid (foldT xf = xf ∧ foldB xf = true) := by have h := fold_twice hfb; rw [← hxf] at h; exact ⟨h.2, h.1⟩
          clear hfb hxf
          go_wp2_with fail
          refine (iFoldName_any _ _ hE12).mono ?_
          rw [of_list, HXF.out, HFB.out]
          rintro e w13 ⟨rfl, hbn⟩
          have hb013 : Below w.heap.size w w13 := hb012.trans (hbn.mono hb012.size)
          have hE13 : Env w13 := hE12.below hbn
          have HM_13 : Hid (ZRow .u8 w13 (.slice a2 R.length cap2) R) := (HM_12).out.kept hbn
          have HA_13 : Hid (OwnS w13 w1.heap.size (.slice av ([] : List (List UInt8)).length cv) []) := (HA_12).out.kept hbn
          have HL3_13 : Hid (Row w13 (.slice a3 L3.length c3) L3) := (HL3_12).out.kept hbn
          clear hbn hb012 hE12 HM_12 HA_12 HL3_12
          go_wp2_with fail
          refine (sFoldName_any _ _ (by omega)).mono ?_
          rw [of_list, HXF.out, HFB.out]
          rintro e w14 ⟨rfl, hbn⟩
          have hb014 : Below w.heap.size w w14 := hb013.trans (hbn.mono hb013.size)
          have hE14 : Env w14 := hE13.below hbn
          have HM_14 : Hid (ZRow .u8 w14 (.slice a2 R.length cap2) R) := (HM_13).out.kept hbn
          have HA_14 : Hid (OwnS w14 w1.heap.size (.slice av ([] : List (List UInt8)).length cv) []) := (HA_13).out.kept hbn
          have HL3_14 : Hid (Row w14 (.slice a3 L3.length c3) L3) := (HL3_13).out.kept hbn
          clear hbn hb013 hE13 HM_13 HA_13 HL3_13
          go_wp2_with fail
          refine (iFoldName_any _ _ hE14).mono ?_
          rw [of_list, HFT.out.1, HFT.out.2]
          rintro e w15 ⟨rfl, hbn⟩
          have hb015 : Below w.heap.size w w15 := hb014.trans (hbn.mono hb014.size)
          have hE15 : Env w15 := hE14.below hbn
          have HM_15 : Hid (ZRow .u8 w15 (.slice a2 R.length cap2) R) := (HM_14).out.kept hbn
          have HA_15 : Hid (OwnS w15 w1.heap.size (.slice av ([] : List (List UInt8)).length cv) []) := (HA_14).out.kept hbn
          have HL3_15 : Hid (Row w15 (.slice a3 L3.length c3) L3) := (HL3_14).out.kept hbn
          clear hbn hb014 hE14 HM_14 HA_14 HL3_14
          go_wp2_with fail
          all_goals go_ret
          all_goals exact ⟨rfl, hb015⟩
      · have HN : Hid (nameB l = true) := hN
        have HL : Hid (lst l = labelsOf l) := lst_true hN
        have HP : Hid (parentT l = parentL l ∧ parentB l = true) := parent_yes hN h0
        have HB : Hid (nameOfT (labelsOf l) = l ∧ nameOfB (labelsOf l) = true) := by have h := names_back hN; exact ⟨h.2, h.1⟩
        have HS : Hid ((labelsOf l).length + tot (labelsOf l) ≤ 1048576) := small_lst hN
        have HS' : Hid ((labelsOf l).length + tot (labelsOf l) ≤ 68719476736) := by have h1 := HS.out; show _ ≤ _; omega
        obtain ⟨hp1, hp2, hp3⟩ := parent_name hN h0
        have HP1 : Hid (nameB (parentL l) = true ∧ lst (parentL l) = (labelsOf l).drop 1) := ⟨hp1, by rw [lst_true hp1]; exact hp2⟩
        have HP2 : Hid (belowT l (parentL l) = true ∧ bothB l (parentL l) = true) := by unfold belowT bothB; rw [hN, hp1, hp3]; exact ⟨rfl, rfl⟩
        have hpl : (parentL l).length ≤ 30 := by have := parentL_le l; omega
        have hnz : 0 < (labelsOf l).length := List.length_pos_iff.2 (fun e => h0 (labels_nil.1 e))
        have hn8 : (labelsOf l).length ≤ 8 := name_eight hN
        clear hN hp1 hp2 hp3
        refine (iLabelsOf_any _ _ hE1).mono ?_
        rw [of_list, HL.out, HN.out]
        rintro e w2 ⟨v1, rfl, ho1, hbn⟩
        have hb02 : Below w.heap.size w w2 := hb01.trans (hbn.mono hb01.size)
        have hE2 : Env w2 := hE1.below hbn
        have HM_2 : Hid (ZRow .u8 w2 (.slice a2 R.length cap2) R) := (HM_1).out.kept hbn
        clear hbn hb01 hE1 HM_1
        have HA_2 : Hid (OwnS w2 w1.heap.size v1 (labelsOf l)) := ho1
        clear ho1
        obtain ⟨g1, c1, rfl, hc1, hm1⟩ := own_some HA_2.out hnz
        go_wp2_with fail
        refine (sLabelsOf_any _ _ (by rw [size_of]; omega)).mono ?_
        rw [of_list, HL.out, HN.out]
        rintro e w3 ⟨v2, rfl, ho2, hbn⟩
        have hb03 : Below w.heap.size w w3 := hb02.trans (hbn.mono hb02.size)
        have hE3 : Env w3 := hE2.below hbn
        have HM_3 : Hid (ZRow .u8 w3 (.slice a2 R.length cap2) R) := (HM_2).out.kept hbn
        have HA_3 : Hid (OwnS w3 w1.heap.size (.slice (some ⟨g1, 0, none⟩) (labelsOf l).length c1) (labelsOf l)) := (HA_2).out.kept hbn
        clear hbn hb02 hE2 HM_2 HA_2
        have HB2_3 : Hid (OwnS w3 w2.heap.size v2 (labelsOf l)) := ho2
        clear ho2
        obtain ⟨av2, cv2, rfl, hc2, hm2, _⟩ := row_value HB2_3.out.row
        go_wp2_with fail
        refine (iParentOf_any _ _ hE3).mono ?_
        rw [of_list, HP.out.1, HP.out.2]
        rintro e w4 ⟨rfl, hbn⟩
        have hb04 : Below w.heap.size w w4 := hb03.trans (hbn.mono hb03.size)
        have hE4 : Env w4 := hE3.below hbn
        have HM_4 : Hid (ZRow .u8 w4 (.slice a2 R.length cap2) R) := (HM_3).out.kept hbn
        have HA_4 : Hid (OwnS w4 w1.heap.size (.slice (some ⟨g1, 0, none⟩) (labelsOf l).length c1) (labelsOf l)) := (HA_3).out.kept hbn
        have HB2_4 : Hid (OwnS w4 w2.heap.size (.slice av2 ((labelsOf l) : List (List UInt8)).length cv2) (labelsOf l)) := (HB2_3).out.kept hbn
        clear hbn hb03 hE3 HM_3 HA_3 HB2_3
        go_wp2_with fail
        refine (sParentOf_any _ _ (by rw [size_of]; omega)).mono ?_
        rw [of_list, HP.out.1, HP.out.2]
        rintro e w5 ⟨rfl, hbn⟩
        have hb05 : Below w.heap.size w w5 := hb04.trans (hbn.mono hb04.size)
        have hE5 : Env w5 := hE4.below hbn
        have HM_5 : Hid (ZRow .u8 w5 (.slice a2 R.length cap2) R) := (HM_4).out.kept hbn
        have HA_5 : Hid (OwnS w5 w1.heap.size (.slice (some ⟨g1, 0, none⟩) (labelsOf l).length c1) (labelsOf l)) := (HA_4).out.kept hbn
        have HB2_5 : Hid (OwnS w5 w2.heap.size (.slice av2 ((labelsOf l) : List (List UInt8)).length cv2) (labelsOf l)) := (HB2_4).out.kept hbn
        clear hbn hb04 hE4 HM_4 HA_4 HB2_4
        go_wp2_with fail
        refine (sameTexts_any _ _ (labelsOf l) _ HA_5.out.row HB2_5.out.row).mono ?_
        rintro e w6 ⟨rfl, hbn⟩
        have hb06 : Below w.heap.size w w6 := hb05.trans (hbn.mono hb05.size)
        have hE6 : Env w6 := hE5.below hbn
        have HM_6 : Hid (ZRow .u8 w6 (.slice a2 R.length cap2) R) := (HM_5).out.kept hbn
        have HA_6 : Hid (OwnS w6 w1.heap.size (.slice (some ⟨g1, 0, none⟩) (labelsOf l).length c1) (labelsOf l)) := (HA_5).out.kept hbn
        have HB2_6 : Hid (OwnS w6 w2.heap.size (.slice av2 ((labelsOf l) : List (List UInt8)).length cv2) (labelsOf l)) := (HB2_5).out.kept hbn
        clear hbn hb05 hE5 HM_5 HA_5 HB2_5
        go_wp2_with fail
        refine (iGoodName_any _ _ hE6).mono ?_
        rw [of_list, HN.out]
        rintro e w7 ⟨rfl, hbn⟩
        have hb07 : Below w.heap.size w w7 := hb06.trans (hbn.mono hb06.size)
        have hE7 : Env w7 := hE6.below hbn
        have HM_7 : Hid (ZRow .u8 w7 (.slice a2 R.length cap2) R) := (HM_6).out.kept hbn
        have HA_7 : Hid (OwnS w7 w1.heap.size (.slice (some ⟨g1, 0, none⟩) (labelsOf l).length c1) (labelsOf l)) := (HA_6).out.kept hbn
        clear hbn hb06 hE6 HM_6 HA_6
        go_wp2_with fail
        refine (iNameOf_any _ (labelsOf l) _ HA_7.out.row HS' hE7).mono ?_
        rw [HB.out.1, HB.out.2]
        rintro e w8 ⟨rfl, hbn⟩
        have hb08 : Below w.heap.size w w8 := hb07.trans (hbn.mono hb07.size)
        have hE8 : Env w8 := hE7.below hbn
        have HM_8 : Hid (ZRow .u8 w8 (.slice a2 R.length cap2) R) := (HM_7).out.kept hbn
        have HA_8 : Hid (OwnS w8 w1.heap.size (.slice (some ⟨g1, 0, none⟩) (labelsOf l).length c1) (labelsOf l)) := (HA_7).out.kept hbn
        clear hbn hb07 hE7 HM_7 HA_7
        go_wp2_with fail
        refine (iLabelsOf_any _ _ hE8).mono ?_
        rw [of_list, HP1.out.1, HP1.out.2]
        rintro e w9 ⟨v4, rfl, ho4, hbn⟩
        have hb09 : Below w.heap.size w w9 := hb08.trans (hbn.mono hb08.size)
        have hE9 : Env w9 := hE8.below hbn
        have HM_9 : Hid (ZRow .u8 w9 (.slice a2 R.length cap2) R) := (HM_8).out.kept hbn
        have HA_9 : Hid (OwnS w9 w1.heap.size (.slice (some ⟨g1, 0, none⟩) (labelsOf l).length c1) (labelsOf l)) := (HA_8).out.kept hbn
        clear hbn hb08 hE8 HM_8 HA_8
        have HB4_9 : Hid (OwnS w9 w8.heap.size v4 ((labelsOf l).drop 1)) := ho4
        clear ho4
        obtain ⟨av4, cv4, rfl, hc4, hm4, _⟩ := row_value HB4_9.out.row
        go_wp2_with fail
        refine (iIsBelow_any _ _ _ (by rw [size_of]; omega) (by rw [size_of]; omega) hE9).mono ?_
        rw [of_list, of_list, HP2.out.1, HP2.out.2]
        rintro e w10 ⟨rfl, hbn⟩
        have hb010 : Below w.heap.size w w10 := hb09.trans (hbn.mono hb09.size)
        have hE10 : Env w10 := hE9.below hbn
        have HM_10 : Hid (ZRow .u8 w10 (.slice a2 R.length cap2) R) := (HM_9).out.kept hbn
        have HA_10 : Hid (OwnS w10 w1.heap.size (.slice (some ⟨g1, 0, none⟩) (labelsOf l).length c1) (labelsOf l)) := (HA_9).out.kept hbn
        have HB4_10 : Hid (OwnS w10 w8.heap.size (.slice av4 ((labelsOf l).drop 1).length cv4) ((labelsOf l).drop 1)) := (HB4_9).out.kept hbn
        clear hbn hb09 hE9 HM_9 HA_9 HB4_9
        go_wp2_with fail
        obtain ⟨wd, hwd⟩ : ∃ wd, wd = wildT l := ⟨_, rfl⟩
        have HW : Hid (wildT l = wd) := hwd.symm
        have x0 : (wd != wd) = false := by simp
        clear hwd
        refine (iWildOf_any _ _ hE10).mono ?_
        rw [of_list, HW.out, HP.out.2]
        rintro e w11 ⟨rfl, hbn⟩
        have hb011 : Below w.heap.size w w11 := hb010.trans (hbn.mono hb010.size)
        have hE11 : Env w11 := hE10.below hbn
        have HM_11 : Hid (ZRow .u8 w11 (.slice a2 R.length cap2) R) := (HM_10).out.kept hbn
        have HA_11 : Hid (OwnS w11 w1.heap.size (.slice (some ⟨g1, 0, none⟩) (labelsOf l).length c1) (labelsOf l)) := (HA_10).out.kept hbn
        have HB4_11 : Hid (OwnS w11 w8.heap.size (.slice av4 ((labelsOf l).drop 1).length cv4) ((labelsOf l).drop 1)) := (HB4_10).out.kept hbn
        clear hbn hb010 hE10 HM_10 HA_10 HB4_10
        go_wp2_with fail
        refine (sWildOf_any _ _ (by rw [size_of]; omega)).mono ?_
        rw [of_list, HW.out, HP.out.2]
        rintro e w12 ⟨rfl, hbn⟩
        have hb012 : Below w.heap.size w w12 := hb011.trans (hbn.mono hb011.size)
        have hE12 : Env w12 := hE11.below hbn
        have HM_12 : Hid (ZRow .u8 w12 (.slice a2 R.length cap2) R) := (HM_11).out.kept hbn
        have HA_12 : Hid (OwnS w12 w1.heap.size (.slice (some ⟨g1, 0, none⟩) (labelsOf l).length c1) (labelsOf l)) := (HA_11).out.kept hbn
        have HB4_12 : Hid (OwnS w12 w8.heap.size (.slice av4 ((labelsOf l).drop 1).length cv4) ((labelsOf l).drop 1)) := (HB4_11).out.kept hbn
        clear hbn hb011 hE11 HM_11 HA_11 HB4_11
        have HTR : Hid ((c1 = 1 → Row w12 (.slice (some ⟨g1, 0, none⟩) ((labelsOf l).length - 1) 0) ((labelsOf l).drop 1)) ∧ Row w12 (.slice (some ⟨g1, 1, none⟩) ((labelsOf l).length - 1) (c1 - 1)) ((labelsOf l).drop 1)) := tail_rows HA_12.out hnz
        have HB5 : Hid (Row w12 (.slice av4 ((labelsOf l).length - 1) cv4) ((labelsOf l).drop 1)) := by have h := HB4_12.out.row; rw [List.length_drop] at h; exact h
        clear HA_12 HB4_12
        by_cases hcc : c1 = 1
        · have HT := HTR.out.1 hcc
          have HT5 : Hid (Row w12 _ ((labelsOf l).drop 1)) := HT
          clear HT HTR
          go_wp2_with fail
          refine (sameTexts_any _ _ ((labelsOf l).drop 1) _ HB5.out HT5.out).mono ?_
          rintro e w13 ⟨rfl, hbn⟩
          have hb013 : Below w.heap.size w w13 := hb012.trans (hbn.mono hb012.size)
          have hE13 : Env w13 := hE12.below hbn
          have HM_13 : Hid (ZRow .u8 w13 (.slice a2 R.length cap2) R) := (HM_12).out.kept hbn
          clear hbn hb012 hE12 HM_12
          go_wp2_with fail
          refine (drawNameOf_any _ R _ HM_13.out hb2 hle2).mono ?_
          rintro e w14 ⟨u3, L3, ⟨rfl, hrow3, hsm3⟩, hbn⟩
          have hb014 : Below w.heap.size w w14 := hb013.trans (hbn.mono hb013.size)
          have hE14 : Env w14 := hE13.below hbn
          have HM_14 : Hid (ZRow .u8 w14 (.slice a2 R.length cap2) R) := (HM_13).out.kept hbn
          clear hbn hb013 hE13 HM_13
          have HL3_14 : Hid (Row w14 u3 L3) := hrow3
          obtain ⟨a3, c3, rfl, hc3, hm3, _⟩ := row_value HL3_14.out
          have HT3 : Hid (L3.length + tot L3 ≤ 1048576) := by have h1 := hsm3.tot; have h2 := hsm3.1; show _ ≤ _; omega
          have HT3' : Hid (L3.length + tot L3 ≤ 68719476736) := by have h1 := HT3.out; show _ ≤ _; omega
          obtain ⟨n3, b3, hnv⟩ : ∃ n3 b3, n3 = nameOfT L3 ∧ b3 = nameOfB L3 := ⟨_, _, rfl, rfl⟩
          have HNV : Hid (nameOfT L3 = n3 ∧ nameOfB L3 = b3) := ⟨hnv.1.symm, hnv.2.symm⟩
          clear hsm3 hnv hrow3
          have x1 : (b3 != b3) = false := by simp
          have x2 : (n3 != n3) = false := by simp
          go_wp2_with fail
          refine (iNameOf_any _ L3 _ HL3_14.out HT3' hE14).mono ?_
          rw [HNV.out.1, HNV.out.2]
          rintro e w15 ⟨rfl, hbn⟩
          have hb015 : Below w.heap.size w w15 := hb014.trans (hbn.mono hb014.size)
          have hE15 : Env w15 := hE14.below hbn
          have HM_15 : Hid (ZRow .u8 w15 (.slice a2 R.length cap2) R) := (HM_14).out.kept hbn
          have HL3_15 : Hid (Row w15 (.slice a3 L3.length c3) L3) := (HL3_14).out.kept hbn
          clear hbn hb014 hE14 HM_14 HL3_14
          go_wp2_with fail
          refine (sNameOf_any _ L3 _ HL3_15.out HT3).mono ?_
          rw [HNV.out.1, HNV.out.2]
          rintro e w16 ⟨rfl, hbn⟩
          have hb016 : Below w.heap.size w w16 := hb015.trans (hbn.mono hb015.size)
          have hE16 : Env w16 := hE15.below hbn
          have HM_16 : Hid (ZRow .u8 w16 (.slice a2 R.length cap2) R) := (HM_15).out.kept hbn
          have HL3_16 : Hid (Row w16 (.slice a3 L3.length c3) L3) := (HL3_15).out.kept hbn
          clear hbn hb015 hE15 HM_15 HL3_15
          go_wp2_with fail
          refine (drawFoldName_any _ R _ HM_16.out hb2 hle2).mono ?_
          rintro e w17 ⟨sf, ⟨rfl, hsf⟩, hbn⟩
          have hb017 : Below w.heap.size w w17 := hb016.trans (hbn.mono hb016.size)
          have hE17 : Env w17 := hE16.below hbn
          have HM_17 : Hid (ZRow .u8 w17 (.slice a2 R.length cap2) R) := (HM_16).out.kept hbn
          have HL3_17 : Hid (Row w17 (.slice a3 L3.length c3) L3) := (HL3_16).out.kept hbn
          obtain ⟨f, rfl⟩ : ∃ f : List UInt8, sf = ⟨f.toArray⟩ := ⟨sf.data.toList, by simp⟩
          have hfl : f.length ≤ 30 := by rw [size_of] at hsf; exact hsf
          clear hbn hb016 hE16 HM_16 HL3_16
          obtain ⟨xf, hxf⟩ : ∃ xf, xf = foldT f := ⟨_, rfl⟩
          have x3 : (xf != xf) = false := by simp
          have HXF : Hid (foldT f = xf) := hxf.symm
          cases hfb : foldB f with
          | false =>
            have HFB : Hid (foldB f = false) := hfb
            clear hfb hxf
            go_wp2_with fail
            refine (iFoldName_any _ _ hE17).mono ?_
            rw [of_list, HXF.out, HFB.out]
            rintro e w18 ⟨rfl, hbn⟩
            have hb018 : Below w.heap.size w w18 := hb017.trans (hbn.mono hb017.size)
            have hE18 : Env w18 := hE17.below hbn
            have HM_18 : Hid (ZRow .u8 w18 (.slice a2 R.length cap2) R) := (HM_17).out.kept hbn
            have HL3_18 : Hid (Row w18 (.slice a3 L3.length c3) L3) := (HL3_17).out.kept hbn
            clear hbn hb017 hE17 HM_17 HL3_17
            go_wp2_with fail
            refine (sFoldName_any _ _ (by omega)).mono ?_
            rw [of_list, HXF.out, HFB.out]
            rintro e w19 ⟨rfl, hbn⟩
            have hb019 : Below w.heap.size w w19 := hb018.trans (hbn.mono hb018.size)
            have hE19 : Env w19 := hE18.below hbn
            have HM_19 : Hid (ZRow .u8 w19 (.slice a2 R.length cap2) R) := (HM_18).out.kept hbn
            have HL3_19 : Hid (Row w19 (.slice a3 L3.length c3) L3) := (HL3_18).out.kept hbn
            clear hbn hb018 hE18 HM_18 HL3_18
            go_wp2_with fail
            obtain ⟨y1, y2, hy⟩ : ∃ y1 y2, y1 = foldT xf ∧ y2 = foldB xf := ⟨_, _, rfl, rfl⟩
            have HY : Hid (foldT xf = y1 ∧ foldB xf = y2) := ⟨hy.1.symm, hy.2.symm⟩
            clear hy
            refine (iFoldName_any _ _ hE19).mono ?_
            rw [of_list, HY.out.1, HY.out.2]
            rintro e w20 ⟨rfl, hbn⟩
            have hb020 : Below w.heap.size w w20 := hb019.trans (hbn.mono hb019.size)
            have hE20 : Env w20 := hE19.below hbn
            have HM_20 : Hid (ZRow .u8 w20 (.slice a2 R.length cap2) R) := (HM_19).out.kept hbn
            have HL3_20 : Hid (Row w20 (.slice a3 L3.length c3) L3) := (HL3_19).out.kept hbn
            clear hbn hb019 hE19 HM_19 HL3_19
            go_wp2_with fail
            all_goals go_ret
            all_goals exact ⟨rfl, hb020⟩
          | true =>
            have HFB : Hid (foldB f = true) := hfb
            have HFT : Hid (foldT xf = xf ∧ foldB xf = true) := by have h := fold_twice hfb; rw [← hxf] at h; exact ⟨h.2, h.1⟩
            clear hfb hxf
            go_wp2_with fail
            refine (iFoldName_any _ _ hE17).mono ?_
            rw [of_list, HXF.out, HFB.out]
            rintro e w18 ⟨rfl, hbn⟩
            have hb018 : Below w.heap.size w w18 := hb017.trans (hbn.mono hb017.size)
            have hE18 : Env w18 := hE17.below hbn
            have HM_18 : Hid (ZRow .u8 w18 (.slice a2 R.length cap2) R) := (HM_17).out.kept hbn
            have HL3_18 : Hid (Row w18 (.slice a3 L3.length c3) L3) := (HL3_17).out.kept hbn
            clear hbn hb017 hE17 HM_17 HL3_17
            go_wp2_with fail
            refine (sFoldName_any _ _ (by omega)).mono ?_
            rw [of_list, HXF.out, HFB.out]
            rintro e w19 ⟨rfl, hbn⟩
            have hb019 : Below w.heap.size w w19 := hb018.trans (hbn.mono hb018.size)
            have hE19 : Env w19 := hE18.below hbn
            have HM_19 : Hid (ZRow .u8 w19 (.slice a2 R.length cap2) R) := (HM_18).out.kept hbn
            have HL3_19 : Hid (Row w19 (.slice a3 L3.length c3) L3) := (HL3_18).out.kept hbn
            clear hbn hb018 hE18 HM_18 HL3_18
            go_wp2_with fail
            refine (iFoldName_any _ _ hE19).mono ?_
            rw [of_list, HFT.out.1, HFT.out.2]
            rintro e w20 ⟨rfl, hbn⟩
            have hb020 : Below w.heap.size w w20 := hb019.trans (hbn.mono hb019.size)
            have hE20 : Env w20 := hE19.below hbn
            have HM_20 : Hid (ZRow .u8 w20 (.slice a2 R.length cap2) R) := (HM_19).out.kept hbn
            have HL3_20 : Hid (Row w20 (.slice a3 L3.length c3) L3) := (HL3_19).out.kept hbn
            clear hbn hb019 hE19 HM_19 HL3_19
            go_wp2_with fail
            all_goals go_ret
            all_goals exact ⟨rfl, hb020⟩
        · have HT := HTR.out.2
          have HT5 : Hid (Row w12 _ ((labelsOf l).drop 1)) := HT
          clear HT HTR
          go_wp2_with fail
          refine (sameTexts_any _ _ ((labelsOf l).drop 1) _ HB5.out HT5.out).mono ?_
          rintro e w13 ⟨rfl, hbn⟩
          have hb013 : Below w.heap.size w w13 := hb012.trans (hbn.mono hb012.size)
          have hE13 : Env w13 := hE12.below hbn
          have HM_13 : Hid (ZRow .u8 w13 (.slice a2 R.length cap2) R) := (HM_12).out.kept hbn
          clear hbn hb012 hE12 HM_12
          go_wp2_with fail
          refine (drawNameOf_any _ R _ HM_13.out hb2 hle2).mono ?_
          rintro e w14 ⟨u3, L3, ⟨rfl, hrow3, hsm3⟩, hbn⟩
          have hb014 : Below w.heap.size w w14 := hb013.trans (hbn.mono hb013.size)
          have hE14 : Env w14 := hE13.below hbn
          have HM_14 : Hid (ZRow .u8 w14 (.slice a2 R.length cap2) R) := (HM_13).out.kept hbn
          clear hbn hb013 hE13 HM_13
          have HL3_14 : Hid (Row w14 u3 L3) := hrow3
          obtain ⟨a3, c3, rfl, hc3, hm3, _⟩ := row_value HL3_14.out
          have HT3 : Hid (L3.length + tot L3 ≤ 1048576) := by have h1 := hsm3.tot; have h2 := hsm3.1; show _ ≤ _; omega
          have HT3' : Hid (L3.length + tot L3 ≤ 68719476736) := by have h1 := HT3.out; show _ ≤ _; omega
          obtain ⟨n3, b3, hnv⟩ : ∃ n3 b3, n3 = nameOfT L3 ∧ b3 = nameOfB L3 := ⟨_, _, rfl, rfl⟩
          have HNV : Hid (nameOfT L3 = n3 ∧ nameOfB L3 = b3) := ⟨hnv.1.symm, hnv.2.symm⟩
          clear hsm3 hnv hrow3
          have x1 : (b3 != b3) = false := by simp
          have x2 : (n3 != n3) = false := by simp
          go_wp2_with fail
          refine (iNameOf_any _ L3 _ HL3_14.out HT3' hE14).mono ?_
          rw [HNV.out.1, HNV.out.2]
          rintro e w15 ⟨rfl, hbn⟩
          have hb015 : Below w.heap.size w w15 := hb014.trans (hbn.mono hb014.size)
          have hE15 : Env w15 := hE14.below hbn
          have HM_15 : Hid (ZRow .u8 w15 (.slice a2 R.length cap2) R) := (HM_14).out.kept hbn
          have HL3_15 : Hid (Row w15 (.slice a3 L3.length c3) L3) := (HL3_14).out.kept hbn
          clear hbn hb014 hE14 HM_14 HL3_14
          go_wp2_with fail
          refine (sNameOf_any _ L3 _ HL3_15.out HT3).mono ?_
          rw [HNV.out.1, HNV.out.2]
          rintro e w16 ⟨rfl, hbn⟩
          have hb016 : Below w.heap.size w w16 := hb015.trans (hbn.mono hb015.size)
          have hE16 : Env w16 := hE15.below hbn
          have HM_16 : Hid (ZRow .u8 w16 (.slice a2 R.length cap2) R) := (HM_15).out.kept hbn
          have HL3_16 : Hid (Row w16 (.slice a3 L3.length c3) L3) := (HL3_15).out.kept hbn
          clear hbn hb015 hE15 HM_15 HL3_15
          go_wp2_with fail
          refine (drawFoldName_any _ R _ HM_16.out hb2 hle2).mono ?_
          rintro e w17 ⟨sf, ⟨rfl, hsf⟩, hbn⟩
          have hb017 : Below w.heap.size w w17 := hb016.trans (hbn.mono hb016.size)
          have hE17 : Env w17 := hE16.below hbn
          have HM_17 : Hid (ZRow .u8 w17 (.slice a2 R.length cap2) R) := (HM_16).out.kept hbn
          have HL3_17 : Hid (Row w17 (.slice a3 L3.length c3) L3) := (HL3_16).out.kept hbn
          obtain ⟨f, rfl⟩ : ∃ f : List UInt8, sf = ⟨f.toArray⟩ := ⟨sf.data.toList, by simp⟩
          have hfl : f.length ≤ 30 := by rw [size_of] at hsf; exact hsf
          clear hbn hb016 hE16 HM_16 HL3_16
          obtain ⟨xf, hxf⟩ : ∃ xf, xf = foldT f := ⟨_, rfl⟩
          have x3 : (xf != xf) = false := by simp
          have HXF : Hid (foldT f = xf) := hxf.symm
          cases hfb : foldB f with
          | false =>
            have HFB : Hid (foldB f = false) := hfb
            clear hfb hxf
            go_wp2_with fail
            refine (iFoldName_any _ _ hE17).mono ?_
            rw [of_list, HXF.out, HFB.out]
            rintro e w18 ⟨rfl, hbn⟩
            have hb018 : Below w.heap.size w w18 := hb017.trans (hbn.mono hb017.size)
            have hE18 : Env w18 := hE17.below hbn
            have HM_18 : Hid (ZRow .u8 w18 (.slice a2 R.length cap2) R) := (HM_17).out.kept hbn
            have HL3_18 : Hid (Row w18 (.slice a3 L3.length c3) L3) := (HL3_17).out.kept hbn
            clear hbn hb017 hE17 HM_17 HL3_17
            go_wp2_with fail
            refine (sFoldName_any _ _ (by omega)).mono ?_
            rw [of_list, HXF.out, HFB.out]
            rintro e w19 ⟨rfl, hbn⟩
            have hb019 : Below w.heap.size w w19 := hb018.trans (hbn.mono hb018.size)
            have hE19 : Env w19 := hE18.below hbn
            have HM_19 : Hid (ZRow .u8 w19 (.slice a2 R.length cap2) R) := (HM_18).out.kept hbn
            have HL3_19 : Hid (Row w19 (.slice a3 L3.length c3) L3) := (HL3_18).out.kept hbn
            clear hbn hb018 hE18 HM_18 HL3_18
            go_wp2_with fail
            obtain ⟨y1, y2, hy⟩ : ∃ y1 y2, y1 = foldT xf ∧ y2 = foldB xf := ⟨_, _, rfl, rfl⟩
            have HY : Hid (foldT xf = y1 ∧ foldB xf = y2) := ⟨hy.1.symm, hy.2.symm⟩
            clear hy
            refine (iFoldName_any _ _ hE19).mono ?_
            rw [of_list, HY.out.1, HY.out.2]
            rintro e w20 ⟨rfl, hbn⟩
            have hb020 : Below w.heap.size w w20 := hb019.trans (hbn.mono hb019.size)
            have hE20 : Env w20 := hE19.below hbn
            have HM_20 : Hid (ZRow .u8 w20 (.slice a2 R.length cap2) R) := (HM_19).out.kept hbn
            have HL3_20 : Hid (Row w20 (.slice a3 L3.length c3) L3) := (HL3_19).out.kept hbn
            clear hbn hb019 hE19 HM_19 HL3_19
            go_wp2_with fail
            all_goals go_ret
            all_goals exact ⟨rfl, hb020⟩
          | true =>
            have HFB : Hid (foldB f = true) := hfb
            have HFT : Hid (foldT xf = xf ∧ foldB xf = true) := by have h := fold_twice hfb; rw [← hxf] at h; exact ⟨h.2, h.1⟩
            clear hfb hxf
            go_wp2_with fail
            refine (iFoldName_any _ _ hE17).mono ?_
            rw [of_list, HXF.out, HFB.out]
            rintro e w18 ⟨rfl, hbn⟩
            have hb018 : Below w.heap.size w w18 := hb017.trans (hbn.mono hb017.size)
            have hE18 : Env w18 := hE17.below hbn
            have HM_18 : Hid (ZRow .u8 w18 (.slice a2 R.length cap2) R) := (HM_17).out.kept hbn
            have HL3_18 : Hid (Row w18 (.slice a3 L3.length c3) L3) := (HL3_17).out.kept hbn
            clear hbn hb017 hE17 HM_17 HL3_17
            go_wp2_with fail
            refine (sFoldName_any _ _ (by omega)).mono ?_
            rw [of_list, HXF.out, HFB.out]
            rintro e w19 ⟨rfl, hbn⟩
            have hb019 : Below w.heap.size w w19 := hb018.trans (hbn.mono hb018.size)
            have hE19 : Env w19 := hE18.below hbn
            have HM_19 : Hid (ZRow .u8 w19 (.slice a2 R.length cap2) R) := (HM_18).out.kept hbn
            have HL3_19 : Hid (Row w19 (.slice a3 L3.length c3) L3) := (HL3_18).out.kept hbn
            clear hbn hb018 hE18 HM_18 HL3_18
            go_wp2_with fail
            refine (iFoldName_any _ _ hE19).mono ?_
            rw [of_list, HFT.out.1, HFT.out.2]
            rintro e w20 ⟨rfl, hbn⟩
            have hb020 : Below w.heap.size w w20 := hb019.trans (hbn.mono hb019.size)
            have hE20 : Env w20 := hE19.below hbn
            have HM_20 : Hid (ZRow .u8 w20 (.slice a2 R.length cap2) R) := (HM_19).out.kept hbn
            have HL3_20 : Hid (Row w20 (.slice a3 L3.length c3) L3) := (HL3_19).out.kept hbn
            clear hbn hb019 hE19 HM_19 HL3_19
            go_wp2_with fail
            all_goals go_ret
            all_goals exact ⟨rfl, hb020⟩
end Go.Proofs.YtmhiopkpjdnddaaDoor.lawNames
