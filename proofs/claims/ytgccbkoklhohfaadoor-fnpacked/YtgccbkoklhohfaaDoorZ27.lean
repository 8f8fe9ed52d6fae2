import Derived.Test.YtgccbkoklhohfaaDoorZ26
import Derived.Test.YtgccbkoklhohfaaDoorZ13
namespace Go.Proofs.YtgccbkoklhohfaaDoor.lawPacked
open Go.RowKit

theorem of_list (l : List UInt8) : (⟨l.toArray⟩ : ByteArray).data.toList = l := by simp
theorem own_cells {w : World} {base : Nat} {v : Value} {L : List (List UInt8)} (h : OwnS w base v L) (h0 : 0 < L.length) : ∃ g cap, v = .slice (some ⟨g, 0, none⟩) L.length cap ∧ L.length ≤ cap ∧ cap ≤ 9223372036854775807 := by
  rcases h with ⟨_, h⟩ | ⟨g, cap, h1, h2, h3, _⟩
  · rw [h] at h0; simp at h0
  · exact ⟨g, cap, h1, h2, by unfold maxLen at h3; omega⟩
theorem own_at {w : World} {base g c n : Nat} {L : List (List UInt8)} (h : OwnS w base (.slice (some ⟨g, 0, none⟩) n c) L) (k : Nat) (hk : k < L.length) : w.cell? ⟨g, k, none⟩ = some (.string ⟨(L[k]'hk).toArray⟩) := by
  rcases h with ⟨h, _⟩ | ⟨g', c', h1, _, _, _, hs⟩
  · cases h
  · cases h1; exact (hs.2 k hk).1
theorem put_no {L : List (List UInt8)} (h : packR L = none) : putVal (packR L) = .returned (.tuple #[.string ⟨([] : List UInt8).toArray⟩, .bool false]) := by rw [h]; rfl
theorem put_yes {L : List (List UInt8)} {z : List UInt8} (h : packR L = some z) : putVal (packR L) = .returned (.tuple #[.string ⟨z.toArray⟩, .bool true]) := by rw [h]; rfl
theorem size_yes {L : List (List UInt8)} {z : List UInt8} (h : packR L = some z) : sizeVal L = .tuple #[.int .i64 ((z.length : Nat) : Int), .int .i64 ((sumN L : Nat) : Int), .bool true] := by unfold sizeVal; rw [h]

set_option maxRecDepth 20000 in
set_option maxHeartbeats 8000000 in
theorem walk (v : Value) (P : List Int) (u : Value) (R : List Int) (w : World) (hr : ZRow .u8 w v P) (hb : Hid (∀ x ∈ P, 0 ≤ x ∧ x ≤ 255)) (hr2 : ZRow .u8 w u R) (hb2 : Hid (∀ x ∈ R, 0 ≤ x ∧ x ≤ 255)) (hE : Env w) :
    Calls Tryd.prog 6 #[v, u] w fun e w' => e = .returned (.bool true) ∧ Below w.heap.size w w' := by
  have HR : Hid (ZRow .u8 w v P) := hr
  have HM_0 : Hid (ZRow .u8 w u R) := hr2
  obtain ⟨a1, cap1, rfl, hcap1, hmax1, _⟩ := zrow_value hr
  obtain ⟨a2, cap2, rfl, hcap2, hmax2, _⟩ := zrow_value hr2
  clear hr hr2
  by_cases hbig : (1048576 : Int) < wrap64 ((P.length : Int) + (R.length : Int))
  · go_enter Tryd.func6, Tryd.ntmps6
    go_wp2_with fail
    go_ret
    exact ⟨rfl, Below.refl _ _⟩
  · have hle1 : P.length ≤ 9223372036854775807 := by omega
    have hle2 : R.length ≤ 9223372036854775807 := by omega
    go_enter Tryd.func6, Tryd.ntmps6
    go_wp2_with fail
    refine (drawPackNames_any _ P _ HR.out hb hle1).mono ?_
    rintro e w1 ⟨u1, L, ⟨rfl, hrow1, hsm1⟩, hbn⟩
    have hb01 : Below w.heap.size w w1 := hbn
    have hE1 : Env w1 := hE.below hbn
    have HM_1 : Hid (ZRow .u8 w1 (.slice a2 R.length cap2) R) := HM_0.out.kept hbn
    obtain ⟨aL, cL, rfl, hcL, hmL, _⟩ := row_value hrow1
    have HL_1 : Hid (Row w1 (.slice aL L.length cL) L) := hrow1
    have HT : Hid (L.length + tot L ≤ 1048576) := by have h1 := hsm1.tot; have h2 := hsm1.1; show _ ≤ _; omega
    have hL100 := hsm1.1
    clear HR HM_0 hbn hrow1 hsm1
    cases hpk : packR L with
    | none =>
      have HP : Hid (putVal (packR L) = .returned (.tuple #[.string ⟨([] : List UInt8).toArray⟩, .bool false])) := put_no hpk
      clear hpk
      go_wp2_with fail
      refine (iPackNames_any _ L _ HL_1.out HT hE1).mono ?_
      rw [HP.out]
      rintro e w2 ⟨rfl, hbn⟩
      have hb02 : Below w.heap.size w w2 := hb01.trans (hbn.mono hb01.size)
      have hE2 : Env w2 := hE1.below hbn
      have HM_2 : Hid (ZRow .u8 w2 (.slice a2 R.length cap2) R) := (HM_1).out.kept hbn
      have HL_2 : Hid (Row w2 (.slice aL L.length cL) L) := (HL_1).out.kept hbn
      clear hbn hb01 hE1 HM_1 HL_1
      go_wp2_with fail
      refine (sPackNames_any _ L _ HL_2.out HT).mono ?_
      rw [HP.out]
      rintro e w3 ⟨rfl, hbn⟩
      have hb03 : Below w.heap.size w w3 := hb02.trans (hbn.mono hb02.size)
      have hE3 : Env w3 := hE2.below hbn
      have HM_3 : Hid (ZRow .u8 w3 (.slice a2 R.length cap2) R) := (HM_2).out.kept hbn
      have HL_3 : Hid (Row w3 (.slice aL L.length cL) L) := (HL_2).out.kept hbn
      clear hbn hb02 hE2 HM_2 HL_2
      go_wp2_with fail
      refine (drawUnpackNames_any _ R _ HM_3.out hb2 hle2).mono ?_
      rintro e w4 ⟨tx, many, ⟨rfl, htx, hmany⟩, hbn⟩
      have hb04 : Below w.heap.size w w4 := hb03.trans (hbn.mono hb03.size)
      have hE4 : Env w4 := hE3.below hbn
      have HM_4 : Hid (ZRow .u8 w4 (.slice a2 R.length cap2) R) := (HM_3).out.kept hbn
      clear hbn hb03 hE3 HM_3
      obtain ⟨U, hU⟩ : ∃ U, U = unpI tx.data.toList many := ⟨_, rfl⟩
      have HU : Hid (unpI tx.data.toList many = U) := hU.symm
      have HUG : Hid (∀ X, U = some X → ∀ x ∈ X, nameB x = true) := fun X hX => unpI_good (by rw [← hU, hX])
      clear hU
      go_wp2_with fail
      refine (iUnpackNames_any _ _ _ (by omega) (by omega) hE4).mono ?_
      rw [HU.out]
      rintro e w5 ⟨v6, he6, ho6, hbn⟩
      have hb05 : Below w.heap.size w w5 := hb04.trans (hbn.mono hb04.size)
      have hE5 : Env w5 := hE4.below hbn
      clear hbn hb04 hE4 
      obtain ⟨X, o, hX⟩ : ∃ X o, unpVal v6 U = .returned (.tuple #[v6, .bool o]) ∧ U.getD [] = X ∧ ∀ x ∈ X, nameB x = true := by
        cases hu : U with
        | none => exact ⟨[], false, rfl, rfl, fun x hx => by cases hx⟩
        | some X => exact ⟨X, true, rfl, rfl, HUG.out X hu⟩
      have HXG : Hid (∀ x ∈ X, nameB x = true) := hX.2.2
      have HUV : Hid (∀ vv, unpVal vv U = .returned (.tuple #[vv, .bool o])) := fun vv => by
        have h := hX.1
        unfold unpVal at h ⊢
        simp only [Ending.returned.injEq, Value.tuple.injEq] at h ⊢
        simp at h; rw [h]
      have HGX : Hid (U.getD [] = X) := hX.2.1
      rw [HUV.out] at he6
      rw [HGX.out] at ho6
      subst he6
      have HA_5 : Hid (OwnS w5 w4.heap.size v6 X) := ho6
      obtain ⟨a6, c6, rfl, hc6, hm6, _⟩ := row_value HA_5.out.row
      have x7 : (o != o) = false := by simp
      clear hX ho6
      go_wp2_with fail
      refine (sUnpackNames_any _ _ _ (by omega) (by omega)).mono ?_
      rw [HU.out]
      rintro e w6 ⟨v7, he7, ho7, hbn⟩
      have hb06 : Below w.heap.size w w6 := hb05.trans (hbn.mono hb05.size)
      have hE6 : Env w6 := hE5.below hbn
      have HA_6 : Hid (OwnS w6 w4.heap.size (.slice a6 X.length c6) X) := (HA_5).out.kept hbn
      clear hbn hb05 hE5 HA_5
      rw [HUV.out] at he7
      rw [HGX.out] at ho7
      subst he7
      have HB_6 : Hid (OwnS w6 w5.heap.size v7 X) := ho7
      obtain ⟨a7, c7, rfl, hc7, hm7, _⟩ := row_value HB_6.out.row
      clear ho7
      go_wp2_with fail
      refine (sameTexts_any _ _ X _ HA_6.out.row HB_6.out.row).mono ?_
      rintro e w7 ⟨rfl, hbn⟩
      have hb07 : Below w.heap.size w w7 := hb06.trans (hbn.mono hb06.size)
      have hE7 : Env w7 := hE6.below hbn
      have HA_7 : Hid (OwnS w7 w4.heap.size (.slice a6 X.length c6) X) := (HA_6).out.kept hbn
      have HB_7 : Hid (OwnS w7 w5.heap.size (.slice a7 X.length c7) X) := (HB_6).out.kept hbn
      clear hbn hb06 hE6 HA_6 HB_6
      go_wp2_with fail
      go_loopw [114] (fun i wr => ∃ k : Nat, k ≤ X.length ∧ i = .int .i64 (k : Int) ∧ Hid (OwnS wr w4.heap.size (.slice a6 X.length c6) X) ∧ Below w.heap.size w wr ∧ Env wr) (fun i _ => X.length - (intOf i).toNat)
      case atStart => exact ⟨0, Nat.zero_le _, rfl, HA_7, hb07, hE7⟩
      case round =>
        obtain ⟨k, hk, rfl, HO, hbr, hEr⟩ := hrel
        clear HA_7
        by_cases hlt : k < X.length
        · obtain ⟨g6, c6', hv6, hcc, hcm⟩ := own_cells HO.out (by omega)
          cases hv6
          have hck := own_at HO.out k hlt
          have hnk := HXG.out _ (List.getElem_mem hlt)
          obtain ⟨y, hy⟩ : ∃ y, y = X[k]'hlt := ⟨_, rfl⟩
          rw [← hy] at hck hnk
          have HN : Hid (nameB y = true) := hnk
          clear hy hnk
          go_wp2_with fail
          refine (iGoodName_any _ _ hEr).mono ?_
          rw [of_list, HN.out]
          rintro e w9 ⟨rfl, hbn⟩
          have hb09 : Below w.heap.size w w9 := hbr.trans (hbn.mono hbr.size)
          have hE9 := hEr.below hbn
          have HO9 : Hid (OwnS w9 w4.heap.size (.slice (some ⟨g6, 0, none⟩) X.length c6) X) := HO.out.kept hbn
          clear hbn
          go_wp2_with fail
          go_roundw
          case rel => exact ⟨k + 1, by omega, by go_num, HO9, hb09, hE9⟩
          case measure => simp [intOf]; omega
        · go_wp2_with fail
          go_ret
          exact ⟨rfl, hbr⟩
    | some z =>
      obtain ⟨p1, p2, p3, p4⟩ := pack_back hpk
      have HP : Hid (putVal (packR L) = .returned (.tuple #[.string ⟨z.toArray⟩, .bool true])) := put_yes hpk
      have HSZ : Hid (sizeVal L = .tuple #[.int .i64 ((z.length : Nat) : Int), .int .i64 ((sumN L : Nat) : Int), .bool true]) := size_yes hpk
      have HUP : Hid (unpI z (L.length : Int) = some L) := p1
      obtain ⟨sm, hsm⟩ : ∃ sm : Nat, sm = sumN L := ⟨_, rfl⟩
      rw [← hsm] at HSZ p2
      have hzl : ((⟨z.toArray⟩ : ByteArray).size : Int) = (z.length : Int) := by rw [size_of]
      have hzn : (⟨z.toArray⟩ : ByteArray).size = z.length := size_of z
      clear hpk p1 hsm
      go_wp2_with fail
      refine (iPackNames_any _ L _ HL_1.out HT hE1).mono ?_
      rw [HP.out]
      rintro e w2 ⟨rfl, hbn⟩
      have hb02 : Below w.heap.size w w2 := hb01.trans (hbn.mono hb01.size)
      have hE2 : Env w2 := hE1.below hbn
      have HM_2 : Hid (ZRow .u8 w2 (.slice a2 R.length cap2) R) := (HM_1).out.kept hbn
      have HL_2 : Hid (Row w2 (.slice aL L.length cL) L) := (HL_1).out.kept hbn
      clear hbn hb01 hE1 HM_1 HL_1
      go_wp2_with fail
      refine (sPackNames_any _ L _ HL_2.out HT).mono ?_
      rw [HP.out]
      rintro e w3 ⟨rfl, hbn⟩
      have hb03 : Below w.heap.size w w3 := hb02.trans (hbn.mono hb02.size)
      have hE3 : Env w3 := hE2.below hbn
      have HM_3 : Hid (ZRow .u8 w3 (.slice a2 R.length cap2) R) := (HM_2).out.kept hbn
      have HL_3 : Hid (Row w3 (.slice aL L.length cL) L) := (HL_2).out.kept hbn
      clear hbn hb02 hE2 HM_2 HL_2
      go_wp2_with fail
      refine (iUnpackNames_any _ _ _ (by omega) (by omega) hE3).mono ?_
      rw [of_list, HUP.out]
      rintro e w4 ⟨v4, he4, ho4, hbn⟩
      have hb04 : Below w.heap.size w w4 := hb03.trans (hbn.mono hb03.size)
      have hE4 : Env w4 := hE3.below hbn
      have HM_4 : Hid (ZRow .u8 w4 (.slice a2 R.length cap2) R) := (HM_3).out.kept hbn
      have HL_4 : Hid (Row w4 (.slice aL L.length cL) L) := (HL_3).out.kept hbn
      clear hbn hb03 hE3 HM_3 HL_3
      have he4' : e = .returned (.tuple #[v4, .bool true]) := he4
      subst he4'
      have ho4' : OwnS w4 w3.heap.size v4 L := ho4
      have HB4_4 : Hid (OwnS w4 w3.heap.size v4 L) := ho4'
      obtain ⟨a4, c4, rfl, hc4, hm4, _⟩ := row_value HB4_4.out.row
      clear ho4 he4
      clear ho4'
      go_wp2_with fail
      refine (iPackedSize_any _ L _ HL_4.out HT hE4).mono ?_
      rw [HSZ.out]
      rintro e w5 ⟨rfl, hbn⟩
      have hb05 : Below w.heap.size w w5 := hb04.trans (hbn.mono hb04.size)
      have hE5 : Env w5 := hE4.below hbn
      have HM_5 : Hid (ZRow .u8 w5 (.slice a2 R.length cap2) R) := (HM_4).out.kept hbn
      have HL_5 : Hid (Row w5 (.slice aL L.length cL) L) := (HL_4).out.kept hbn
      have HB4_5 : Hid (OwnS w5 w3.heap.size (.slice a4 L.length c4) L) := (HB4_4).out.kept hbn
      clear hbn hb04 hE4 HM_4 HL_4 HB4_4
      go_wp2_with fail
      refine (sameTexts_any _ _ L _ HB4_5.out.row HL_5.out).mono ?_
      rintro e w6 ⟨rfl, hbn⟩
      have hb06 : Below w.heap.size w w6 := hb05.trans (hbn.mono hb05.size)
      have hE6 : Env w6 := hE5.below hbn
      have HM_6 : Hid (ZRow .u8 w6 (.slice a2 R.length cap2) R) := (HM_5).out.kept hbn
      have HL_6 : Hid (Row w6 (.slice aL L.length cL) L) := (HL_5).out.kept hbn
      have HB4_6 : Hid (OwnS w6 w3.heap.size (.slice a4 L.length c4) L) := (HB4_5).out.kept hbn
      clear hbn hb05 hE5 HM_5 HL_5 HB4_5
      go_wp2_with fail
      refine (drawUnpackNames_any _ R _ HM_6.out hb2 hle2).mono ?_
      rintro e w7 ⟨tx, many, ⟨rfl, htx, hmany⟩, hbn⟩
      have hb07 : Below w.heap.size w w7 := hb06.trans (hbn.mono hb06.size)
      have hE7 : Env w7 := hE6.below hbn
      have HM_7 : Hid (ZRow .u8 w7 (.slice a2 R.length cap2) R) := (HM_6).out.kept hbn
      clear hbn hb06 hE6 HM_6
      obtain ⟨U, hU⟩ : ∃ U, U = unpI tx.data.toList many := ⟨_, rfl⟩
      have HU : Hid (unpI tx.data.toList many = U) := hU.symm
      have HUG : Hid (∀ X, U = some X → ∀ x ∈ X, nameB x = true) := fun X hX => unpI_good (by rw [← hU, hX])
      clear hU
      go_wp2_with fail
      refine (iUnpackNames_any _ _ _ (by omega) (by omega) hE7).mono ?_
      rw [HU.out]
      rintro e w8 ⟨v6, he6, ho6, hbn⟩
      have hb08 : Below w.heap.size w w8 := hb07.trans (hbn.mono hb07.size)
      have hE8 : Env w8 := hE7.below hbn
      clear hbn hb07 hE7 
      obtain ⟨X, o, hX⟩ : ∃ X o, unpVal v6 U = .returned (.tuple #[v6, .bool o]) ∧ U.getD [] = X ∧ ∀ x ∈ X, nameB x = true := by
        cases hu : U with
        | none => exact ⟨[], false, rfl, rfl, fun x hx => by cases hx⟩
        | some X => exact ⟨X, true, rfl, rfl, HUG.out X hu⟩
      have HXG : Hid (∀ x ∈ X, nameB x = true) := hX.2.2
      have HUV : Hid (∀ vv, unpVal vv U = .returned (.tuple #[vv, .bool o])) := fun vv => by
        have h := hX.1
        unfold unpVal at h ⊢
        simp only [Ending.returned.injEq, Value.tuple.injEq] at h ⊢
        simp at h; rw [h]
      have HGX : Hid (U.getD [] = X) := hX.2.1
      rw [HUV.out] at he6
      rw [HGX.out] at ho6
      subst he6
      have HA_8 : Hid (OwnS w8 w7.heap.size v6 X) := ho6
      obtain ⟨a6, c6, rfl, hc6, hm6, _⟩ := row_value HA_8.out.row
      have x7 : (o != o) = false := by simp
      clear hX ho6
      go_wp2_with fail
      refine (sUnpackNames_any _ _ _ (by omega) (by omega)).mono ?_
      rw [HU.out]
      rintro e w9 ⟨v7, he7, ho7, hbn⟩
      have hb09 : Below w.heap.size w w9 := hb08.trans (hbn.mono hb08.size)
      have hE9 : Env w9 := hE8.below hbn
      have HA_9 : Hid (OwnS w9 w7.heap.size (.slice a6 X.length c6) X) := (HA_8).out.kept hbn
      clear hbn hb08 hE8 HA_8
      rw [HUV.out] at he7
      rw [HGX.out] at ho7
      subst he7
      have HB_9 : Hid (OwnS w9 w8.heap.size v7 X) := ho7
      obtain ⟨a7, c7, rfl, hc7, hm7, _⟩ := row_value HB_9.out.row
      clear ho7
      go_wp2_with fail
      refine (sameTexts_any _ _ X _ HA_9.out.row HB_9.out.row).mono ?_
      rintro e w10 ⟨rfl, hbn⟩
      have hb010 : Below w.heap.size w w10 := hb09.trans (hbn.mono hb09.size)
      have hE10 : Env w10 := hE9.below hbn
      have HA_10 : Hid (OwnS w10 w7.heap.size (.slice a6 X.length c6) X) := (HA_9).out.kept hbn
      have HB_10 : Hid (OwnS w10 w8.heap.size (.slice a7 X.length c7) X) := (HB_9).out.kept hbn
      clear hbn hb09 hE9 HA_9 HB_9
      go_wp2_with fail
      go_loopw [114] (fun i wr => ∃ k : Nat, k ≤ X.length ∧ i = .int .i64 (k : Int) ∧ Hid (OwnS wr w7.heap.size (.slice a6 X.length c6) X) ∧ Below w.heap.size w wr ∧ Env wr) (fun i _ => X.length - (intOf i).toNat)
      case atStart => exact ⟨0, Nat.zero_le _, rfl, HA_10, hb010, hE10⟩
      case round =>
        obtain ⟨k, hk, rfl, HO, hbr, hEr⟩ := hrel
        clear HA_10
        by_cases hlt : k < X.length
        · obtain ⟨g6, c6', hv6, hcc, hcm⟩ := own_cells HO.out (by omega)
          cases hv6
          have hck := own_at HO.out k hlt
          have hnk := HXG.out _ (List.getElem_mem hlt)
          obtain ⟨y, hy⟩ : ∃ y, y = X[k]'hlt := ⟨_, rfl⟩
          rw [← hy] at hck hnk
          have HN : Hid (nameB y = true) := hnk
          clear hy hnk
          go_wp2_with fail
          refine (iGoodName_any _ _ hEr).mono ?_
          rw [of_list, HN.out]
          rintro e w9 ⟨rfl, hbn⟩
          have hb09 : Below w.heap.size w w9 := hbr.trans (hbn.mono hbr.size)
          have hE9 := hEr.below hbn
          have HO9 : Hid (OwnS w9 w7.heap.size (.slice (some ⟨g6, 0, none⟩) X.length c6) X) := HO.out.kept hbn
          clear hbn
          go_wp2_with fail
          go_roundw
          case rel => exact ⟨k + 1, by omega, by go_num, HO9, hb09, hE9⟩
          case measure => simp [intOf]; omega
        · go_wp2_with fail
          go_ret
          exact ⟨rfl, hbr⟩
end Go.Proofs.YtgccbkoklhohfaaDoor.lawPacked
