import Derived.Test.YtmhiopkpjdnddaaDoorCanP
import Derived.Test.YtmhiopkpjdnddaaDoorDrwB
import Derived.Test.YtmhiopkpjdnddaaDoorCompareS
import Derived.Test.YtmhiopkpjdnddaaDoorSortI
import Derived.Test.YtmhiopkpjdnddaaDoorSameT
import Derived.Test.YtmhiopkpjdnddaaDoorQk
namespace Go.Proofs.YtmhiopkpjdnddaaDoor.lawCanon
open Go.RowKit

theorem of_list (l : List UInt8) : (⟨l.toArray⟩ : ByteArray).data.toList = l := by simp
theorem sort_good (L : List (List UInt8)) : (sortT L).Pairwise ltN ∧ ∀ x ∈ sortT L, nameB x = true := by
  unfold sortT
  split
  · rename_i h
    unfold sortB at h
    exact ⟨sortN_rising L, sort_names (Bool.and_eq_true_iff.1 h).1⟩
  · exact ⟨List.Pairwise.nil, fun x hx => by cases hx⟩
theorem i64_small (k : Nat) (h : k ≤ 9223372036854775807) : IntKind.i64.wrap (k : Int) = (k : Int) := by
  simp only [IntKind.wrap, IntKind.signed, IntKind.bits]; simp; omega
theorem own_cells {w : World} {base : Nat} {v : Value} {L : List (List UInt8)} (h : OwnS w base v L) (h0 : 0 < L.length) : ∃ g cap, v = .slice (some ⟨g, 0, none⟩) L.length cap ∧ L.length ≤ cap ∧ cap ≤ 9223372036854775807 := by
  rcases h with ⟨_, h⟩ | ⟨g, cap, h1, h2, h3, _⟩
  · rw [h] at h0; simp at h0
  · exact ⟨g, cap, h1, h2, by unfold maxLen at h3; omega⟩
theorem own_at {w : World} {base g c n : Nat} {L : List (List UInt8)} (h : OwnS w base (.slice (some ⟨g, 0, none⟩) n c) L) (k : Nat) (hk : k < L.length) : w.cell? ⟨g, k, none⟩ = some (.string ⟨(L[k]'hk).toArray⟩) := by
  rcases h with ⟨h, _⟩ | ⟨g', c', h1, _, _, _, hs⟩
  · cases h
  · cases h1; exact (hs.2 k hk).1

set_option maxRecDepth 20000 in
set_option maxHeartbeats 8000000 in
theorem walk (v : Value) (P : List Int) (u : Value) (R : List Int) (w : World) (hr : ZRow .u8 w v P) (hb : Hid (∀ x ∈ P, 0 ≤ x ∧ x ≤ 255)) (hr2 : ZRow .u8 w u R) (hb2 : Hid (∀ x ∈ R, 0 ≤ x ∧ x ≤ 255)) (hE : Env w) :
    Calls Tryd.prog 4 #[v, u] w fun e w' => e = .returned (.bool true) ∧ Below w.heap.size w w' := by
  have HR : Hid (ZRow .u8 w v P) := hr
  have HM_0 : Hid (ZRow .u8 w u R) := hr2
  obtain ⟨a1, cap1, rfl, hcap1, hmax1, _⟩ := zrow_value hr
  obtain ⟨a2, cap2, rfl, hcap2, hmax2, _⟩ := zrow_value hr2
  clear hr hr2
  by_cases hbig : (1048576 : Int) < wrap64 ((P.length : Int) + (R.length : Int))
  · go_enter Tryd.func4, Tryd.ntmps4
    go_wp2_with fail
    go_ret
    exact ⟨rfl, Below.refl _ _⟩
  · have hle1 : P.length ≤ 9223372036854775807 := by omega
    have hle2 : R.length ≤ 9223372036854775807 := by omega
    go_enter Tryd.func4, Tryd.ntmps4
    go_wp2_with fail
    refine (drawCompareNames_any _ P _ HR.out hb hle1).mono ?_
    rintro e w1 ⟨sa, sb, ⟨rfl, hsa, hsb⟩, hbn⟩
    obtain ⟨a, rfl⟩ : ∃ l : List UInt8, sa = ⟨l.toArray⟩ := ⟨sa.data.toList, by simp⟩
    obtain ⟨b, rfl⟩ : ∃ l : List UInt8, sb = ⟨l.toArray⟩ := ⟨sb.data.toList, by simp⟩
    have hb01 : Below w.heap.size w w1 := hbn
    have hE1 : Env w1 := hE.below hbn
    have HM_1 : Hid (ZRow .u8 w1 (.slice a2 R.length cap2) R) := HM_0.out.kept hbn
    clear HR HM_0 hbn
    go_wp2_with fail
    cases hok : cmpB a b with
    | false =>
      have HC : Hid (cmpT a b = 0 ∧ cmpB a b = false) := ⟨by unfold cmpB at hok; unfold cmpT; rw [hok]; rfl, hok⟩
      clear hok
      refine (iCompareNames_any _ _ _ hE1).mono ?_
      rw [of_list, of_list, HC.out.1, HC.out.2]
      rintro e w2 ⟨rfl, hbn⟩
      have hb02 : Below w.heap.size w w2 := hb01.trans (hbn.mono hb01.size)
      have hE2 : Env w2 := hE1.below hbn
      have HM_2 : Hid (ZRow .u8 w2 (.slice a2 R.length cap2) R) := (HM_1).out.kept hbn
      clear hbn hb01 hE1 HM_1
      go_wp2_with fail
      refine (sCompareNames_any _ _ _ (by omega) (by omega)).mono ?_
      rw [of_list, of_list, HC.out.1, HC.out.2]
      rintro e w3 ⟨rfl, hbn⟩
      have hb03 : Below w.heap.size w w3 := hb02.trans (hbn.mono hb02.size)
      have hE3 : Env w3 := hE2.below hbn
      have HM_3 : Hid (ZRow .u8 w3 (.slice a2 R.length cap2) R) := (HM_2).out.kept hbn
      clear hbn hb02 hE2 HM_2
      go_wp2_with fail
      refine (drawSortNames_any _ R _ HM_3.out hb2 hle2).mono ?_
      rintro e w4 ⟨u3, L3, ⟨rfl, hrow3, hsm3⟩, hbn⟩
      have hb04 : Below w.heap.size w w4 := hb03.trans (hbn.mono hb03.size)
      have hE4 : Env w4 := hE3.below hbn
      have HM_4 : Hid (ZRow .u8 w4 (.slice a2 R.length cap2) R) := (HM_3).out.kept hbn
      clear hbn hb03 hE3 HM_3
      have HL3_4 : Hid (Row w4 u3 L3) := hrow3
      obtain ⟨a3, c3, rfl, hc3, hm3, _⟩ := row_value HL3_4.out
      have HT3 : Hid (L3.length + tot L3 ≤ 1048576) := by have h1 := hsm3.tot; have h2 := hsm3.1; show _ ≤ _; omega
      obtain ⟨T, hT⟩ : ∃ T, T = sortT L3 := ⟨_, rfl⟩
      have HGOOD : Hid (T.Pairwise ltN ∧ ∀ x ∈ T, nameB x = true) := by rw [hT]; exact sort_good L3
      obtain ⟨b3, hb3⟩ : ∃ b3, b3 = sortB L3 := ⟨_, rfl⟩
      have HNV : Hid (sortT L3 = T ∧ sortB L3 = b3) := ⟨hT.symm, hb3.symm⟩
      clear hrow3 hsm3 hT hb3
      have x1 : (b3 != b3) = false := by simp
      go_wp2_with fail
      refine (iSortNames_any _ L3 _ HL3_4.out HT3 hE4).mono ?_
      rw [HNV.out.1, HNV.out.2]
      rintro e w5 ⟨v4, rfl, ho4, hbn⟩
      have hb05 : Below w.heap.size w w5 := hb04.trans (hbn.mono hb04.size)
      have hE5 : Env w5 := hE4.below hbn
      have HL3_5 : Hid (Row w5 (.slice a3 L3.length c3) L3) := (HL3_4).out.kept hbn
      clear hbn hb04 hE4 HL3_4
      have HA_5 : Hid (OwnS w5 w4.heap.size v4 T) := ho4
      clear ho4
      obtain ⟨a4, c4, rfl, hc4, hm4, _⟩ := row_value HA_5.out.row
      go_wp2_with fail
      refine (sSortNames_any _ L3 _ HL3_5.out HT3).mono ?_
      rw [HNV.out.1, HNV.out.2]
      rintro e w6 ⟨v5, rfl, ho5, hbn⟩
      have hb06 : Below w.heap.size w w6 := hb05.trans (hbn.mono hb05.size)
      have hE6 : Env w6 := hE5.below hbn
      have HL3_6 : Hid (Row w6 (.slice a3 L3.length c3) L3) := (HL3_5).out.kept hbn
      have HA_6 : Hid (OwnS w6 w4.heap.size (.slice a4 T.length c4) T) := (HA_5).out.kept hbn
      clear hbn hb05 hE5 HL3_5 HA_5
      have HB5_6 : Hid (Row w6 v5 T) := ho5
      clear ho5
      obtain ⟨a5, c5, rfl, hc5, hm5, _⟩ := row_value HB5_6.out
      go_wp2_with fail
      refine (sameTexts_any _ _ T _ HA_6.out.row HB5_6.out).mono ?_
      rintro e w7 ⟨rfl, hbn⟩
      have hb07 : Below w.heap.size w w7 := hb06.trans (hbn.mono hb06.size)
      have hE7 : Env w7 := hE6.below hbn
      have HA_7 : Hid (OwnS w7 w4.heap.size (.slice a4 T.length c4) T) := (HA_6).out.kept hbn
      have HB5_7 : Hid (Row w7 (.slice a5 T.length c5) T) := (HB5_6).out.kept hbn
      clear hbn hb06 hE6 HA_6 HB5_6
      go_wp2_with fail
      go_loopw [122] (fun i wr => ∃ k : Nat, k ≤ T.length ∧ i = .int .i64 (k : Int) ∧ Hid (OwnS wr w4.heap.size (.slice a4 T.length c4) T) ∧ Below w.heap.size w wr ∧ Env wr) (fun i _ => T.length - (intOf i).toNat)
      case atStart => exact ⟨0, Nat.zero_le _, rfl, HA_7, hb07, hE7⟩
      case round =>
        obtain ⟨k, hk, rfl, HO, hbr, hEr⟩ := hrel
        clear HA_7
        by_cases hlt : k < T.length
        · obtain ⟨g4, c4', hv4, hcc, hcm⟩ := own_cells HO.out (by omega)
          cases hv4
          have hnk := HGOOD.out.2 _ (List.getElem_mem hlt)
          have hlk : (T[k]'hlt).length ≤ 60 := name_sixty hnk
          have HBLK : Hid (∀ j, (hkj : k ≤ j) → (hj : j < T.length) → ∀ m, j < m → (hm : m < T.length) → belowT (T[m]'hm) (T[k]'hlt) = true → belowT (T[j]'hj) (T[k]'hlt) = true) := fun j hkj hj m hjm hm h => by
            have nj := HGOOD.out.2 _ (List.getElem_mem hj)
            have nm := HGOOD.out.2 _ (List.getElem_mem hm)
            unfold belowT at h ⊢
            rw [nm, hnk] at h
            rw [nj, hnk, block_of HGOOD.out.1 HGOOD.out.2 hkj hjm hm (by simpa using h)]; rfl
          have HBOTH : Hid (∀ j, (hj : j < T.length) → bothB (T[j]'hj) (T[k]'hlt) = true ∧ (T[j]'hj).length ≤ 60) := fun j hj => by
            have nj := HGOOD.out.2 _ (List.getElem_mem hj)
            exact ⟨by unfold bothB; rw [nj, hnk]; rfl, name_sixty nj⟩
          have hck := own_at HO.out k hlt
          have HPREV : Hid (∀ h0 : 0 < k, cmpT (T[k - 1]'(by omega)) (T[k]'hlt) = -1 ∧ cmpB (T[k - 1]'(by omega)) (T[k]'hlt) = true) := fun h0 => by
            have np := HGOOD.out.2 (T[k - 1]'(by omega)) (List.getElem_mem _)
            have h := cmp_T np hnk
            have hl : ltN (T[k - 1]'(by omega)) (T[k]'hlt) := List.pairwise_iff_getElem.1 HGOOD.out.1 (k - 1) k (by omega) hlt (by omega)
            exact ⟨h.1.trans hl, h.2⟩
          obtain ⟨y, hy⟩ : ∃ y, y = T[k]'hlt := ⟨_, rfl⟩
          rw [← hy] at hck hlk HBLK HBOTH HPREV
          have HYK : Hid (T[k]'hlt = y) := hy.symm
          clear hnk hy
          have hys : (⟨y.toArray⟩ : ByteArray).size ≤ 60 := by rw [size_of]; exact hlk
          by_cases hk0 : k = 0
          · subst hk0
            go_wp2_with fail
            have hlt0 := hlt
            go_loopw [23, 150] (fun e i w9 => ∃ (j : Nat) (ee : Bool), j ≤ T.length - 0 ∧ i = .int .i64 (j : Int) ∧ e = .bool ee ∧ Hid (ee = true → ∃ (m : Nat) (_ : m < j) (hm : 0 + m < T.length), belowT (T[0 + m]'hm) y = false) ∧ Hid (OwnS w9 w4.heap.size (.slice (some ⟨g4, 0, none⟩) T.length c4) T) ∧ Below w.heap.size w w9 ∧ Env w9) (fun _ i _ => T.length - 0 - (intOf i).toNat)
            case atStart => exact ⟨0, false, Nat.zero_le _, rfl, rfl, fun h => (by cases h), HO, hbr, hEr⟩
            case round =>
              obtain ⟨j, ee, hj, rfl, rfl, HEE, HO9, hb9, hE9⟩ := hrel
              by_cases hjl : j < T.length - 0
              · have hkj : 0 + j < T.length := by omega
                have hcj := own_at HO9.out (0 + j) hkj
                have hck9 := own_at HO9.out 0 hlt
                rw [HYK.out] at hck9
                have HBJ := HBOTH.out (0 + j) hkj
                have HCONV : Hid (belowT (T[0 + j]'hkj) y = true → ee = false) := fun h => by
                  cases he : ee with
                  | false => rfl
                  | true =>
                    obtain ⟨m, hmj, hm, hbm⟩ := HEE.out he
                    rw [HBLK.out (0 + m) (by omega) hm (0 + j) (by omega) hkj h] at hbm; cases hbm
                have HWIT : Hid (belowT (T[0 + j]'hkj) y = false → ∃ (m : Nat) (_ : m < j + 1) (hm : 0 + m < T.length), belowT (T[0 + m]'hm) y = false) := fun h => ⟨j, by omega, hkj, h⟩
                have HOLD : Hid (ee = true → ∃ (m : Nat) (_ : m < j + 1) (hm : 0 + m < T.length), belowT (T[0 + m]'hm) y = false) := fun h => by obtain ⟨m, h1, h2, h3⟩ := HEE.out h; exact ⟨m, by omega, h2, h3⟩
                obtain ⟨x, hx⟩ : ∃ x, x = T[0 + j]'hkj := ⟨_, rfl⟩
                rw [← hx] at hcj HBJ HCONV HWIT
                have hxs : (⟨x.toArray⟩ : ByteArray).size ≤ 60 := by rw [size_of]; exact HBJ.2
                have HBB : Hid (bothB x y = true) := HBJ.1
                clear hx HBJ HEE
                rw [Nat.zero_add] at hcj
                cases hbl : belowT x y with
                | true =>
                  obtain rfl := HCONV.out hbl
                  clear HCONV HWIT
                  go_wp2_with fail
                  refine (iIsBelow_any ⟨x.toArray⟩ ⟨y.toArray⟩ _ (by omega) (by omega) hE9).mono ?_
                  rw [of_list, of_list, hbl, HBB.out]
                  rintro e w10 ⟨rfl, hbn⟩
                  have hb10 : Below w.heap.size w w10 := hb9.trans (hbn.mono hb9.size)
                  have hE10 := hE9.below hbn
                  have HO10 : Hid (OwnS w10 w4.heap.size (.slice (some ⟨g4, 0, none⟩) T.length c4) T) := HO9.out.kept hbn
                  clear hbn
                  all_goals (go_wp2_with fail)
                  all_goals go_roundw
                  all_goals first
                    | (simp [intOf]; omega)
                    | exact ⟨j + 1, false, by omega, by go_num, rfl, fun h => (by cases h), HO10, hb10, hE10⟩
                | false =>
                  have HW := HWIT.out hbl
                  have HWH : Hid (∃ (m : Nat) (_ : m < j + 1) (hm : 0 + m < T.length), belowT (T[0 + m]'hm) y = false) := HW
                  clear HW
                  clear HCONV HWIT
                  go_wp2_with fail
                  refine (iIsBelow_any ⟨x.toArray⟩ ⟨y.toArray⟩ _ (by omega) (by omega) hE9).mono ?_
                  rw [of_list, of_list, hbl, HBB.out]
                  rintro e w10 ⟨rfl, hbn⟩
                  have hb10 : Below w.heap.size w w10 := hb9.trans (hbn.mono hb9.size)
                  have hE10 := hE9.below hbn
                  have HO10 : Hid (OwnS w10 w4.heap.size (.slice (some ⟨g4, 0, none⟩) T.length c4) T) := HO9.out.kept hbn
                  clear hbn
                  cases ee
                  all_goals (go_wp2_with fail)
                  all_goals go_roundw
                  all_goals first
                    | (simp [intOf]; omega)
                    | exact ⟨j + 1, true, by omega, by go_num, rfl, fun _ => HWH.out, HO10, hb10, hE10⟩
              · go_wp2_with fail
                go_roundw
                case rel => exact ⟨0 + 1, by omega, by go_num, HO9, hb9, hE9⟩
                case measure => simp [intOf]; omega
          · obtain ⟨kk, hkk1⟩ : ∃ kk, k = kk + 1 := ⟨k - 1, by omega⟩
            have hkk : kk < T.length := by omega
            have hp : cmpT (T[kk]'hkk) y = -1 ∧ cmpB (T[kk]'hkk) y = true := by have h := HPREV.out (by omega); subst hkk1; exact h
            have hlp := (HBOTH.out kk hkk).2
            have HS : Hid (∀ W, Below wr.heap.size wr W → Below wr.heap.size wr W ∧ W.cell? ⟨g4, kk, none⟩ = some (.string ⟨(T[kk]'hkk).toArray⟩) ∧ W.cell? ⟨g4, k, none⟩ = some (.string ⟨y.toArray⟩)) := fun W hW => ⟨hW, own_at (HO.out.kept hW) kk hkk, by have h := own_at (HO.out.kept hW) k hlt; rw [HYK.out] at h; exact h⟩
            obtain ⟨z, hz⟩ : ∃ z, z = T[kk]'hkk := ⟨_, rfl⟩
            rw [← hz] at hp HS hlp
            have HCMP : Hid (∀ W, Below wr.heap.size wr W → Calls Tryd.prog 24 #[.string ⟨z.toArray⟩, .string ⟨y.toArray⟩] W fun e w'' => e = .returned (.tuple #[.int .i64 (-1), .bool true]) ∧ Below wr.heap.size wr w'') := fun W hW => (iCompareNames_any ⟨z.toArray⟩ ⟨y.toArray⟩ W (hEr.below hW)).mono fun e w'' h => by
              rw [of_list, of_list, hp.1, hp.2] at h
              exact ⟨h.1, hW.trans (h.2.mono hW.size)⟩
            have hto : ((k : Int) - 1).toNat = kk := by omega
            have hi1 : 0 ≤ (k : Int) - 1 ∧ (k : Int) - 1 < (T.length : Int) := by omega
            have hi2 : 0 ≤ (k : Int) ∧ (k : Int) < (T.length : Int) := by omega
            have hi3 : (k : Int) < (T.length : Int) := by omega
            have hi4 : (k : Int) - 1 < (T.length : Int) := by omega
            have hi5 : 1 ≤ (k : Int) := by omega
            have hw1 : IntKind.i64.wrap ((k : Int) - 1) = (k : Int) - 1 := by rw [show (k : Int) - 1 = (kk : Int) by omega]; exact i64_small kk (by omega)
            have h0k : (0 : Int) ≤ (k : Int) := by omega
            have h0k1 : (0 : Int) ≤ (k : Int) - 1 := by omega
            have htk : ((k : Int)).toNat = k := by omega
            have hbz : Below wr.heap.size wr wr := Below.refl _ _
            have hbd : Below wr.heap.size wr wr.drew := (Below.refl _ _).drew
            have HOK : Hid (∀ W, Below wr.heap.size wr W → OwnS W w4.heap.size (.slice (some ⟨g4, 0, none⟩) T.length c4) T) := fun W hW => HO.out.kept hW
            have hk1 : 1 ≤ k := by omega
            clear hz hp hck hkk1 hk0
            go_wp2_with fail
            refine wp_region_quiet (C := fun W => Below wr.heap.size wr W) (by kernel_rfl) (by kernel_rfl) hbd ?_
            refine wpQuiet_step (fun K hK => ?_)
            rw [if_pos (by rfl)]
            refine ⟨.slice (some ⟨g4, 0, none⟩) T.length c4, fun W hW => quiet_ok ?_, hK _ ?_⟩
            · have f := HS.out W hW
              obtain ⟨_, c0, c1⟩ := f
              go_simp
              all_goals (try omega)
            clear hK K
            simp only [Act.put, List.setIfInBounds_toArray, List.set_cons_succ, List.set_cons_zero]
            refine wpQuiet_step (fun K hK => ?_)
            rw [if_pos (by rfl)]
            refine ⟨.int .i64 (k : Int), fun W hW => quiet_ok ?_, hK _ ?_⟩
            · have f := HS.out W hW
              obtain ⟨_, c0, c1⟩ := f
              go_simp
              all_goals (try omega)
            clear hK K
            simp only [Act.put, List.setIfInBounds_toArray, List.set_cons_succ, List.set_cons_zero]
            refine wpQuiet_step (fun K hK => ?_)
            rw [if_pos (by rfl)]
            refine ⟨.int .i64 ((k : Int) - 1), fun W hW => quiet_ok ?_, hK _ ?_⟩
            · have f := HS.out W hW
              obtain ⟨_, c0, c1⟩ := f
              go_simp
              all_goals (try omega)
            clear hK K
            simp only [Act.put, List.setIfInBounds_toArray, List.set_cons_succ, List.set_cons_zero]
            refine wpQuiet_step (fun K hK => ?_)
            rw [if_pos (by rfl)]
            refine ⟨.pointer (some ⟨g4, kk, none⟩), fun W hW => quiet_ok ?_, hK _ ?_⟩
            · have f := HS.out W hW
              obtain ⟨_, c0, c1⟩ := f
              go_simp
              all_goals (try omega)
            clear hK K
            simp only [Act.put, List.setIfInBounds_toArray, List.set_cons_succ, List.set_cons_zero]
            refine wpQuiet_step (fun K hK => ?_)
            rw [if_pos (by rfl)]
            refine ⟨.string ⟨z.toArray⟩, fun W hW => quiet_ok ?_, hK _ ?_⟩
            · have f := HS.out W hW
              obtain ⟨_, c0, c1⟩ := f
              go_simp
              all_goals (try omega)
            clear hK K
            simp only [Act.put, List.setIfInBounds_toArray, List.set_cons_succ, List.set_cons_zero]
            refine wpQuiet_step (fun K hK => ?_)
            rw [if_pos (by rfl)]
            refine ⟨.slice (some ⟨g4, 0, none⟩) T.length c4, fun W hW => quiet_ok ?_, hK _ ?_⟩
            · have f := HS.out W hW
              obtain ⟨_, c0, c1⟩ := f
              go_simp
              all_goals (try omega)
            clear hK K
            simp only [Act.put, List.setIfInBounds_toArray, List.set_cons_succ, List.set_cons_zero]
            refine wpQuiet_step (fun K hK => ?_)
            rw [if_pos (by rfl)]
            refine ⟨.int .i64 (k : Int), fun W hW => quiet_ok ?_, hK _ ?_⟩
            · have f := HS.out W hW
              obtain ⟨_, c0, c1⟩ := f
              go_simp
              all_goals (try omega)
            clear hK K
            simp only [Act.put, List.setIfInBounds_toArray, List.set_cons_succ, List.set_cons_zero]
            refine wpQuiet_step (fun K hK => ?_)
            rw [if_pos (by rfl)]
            refine ⟨.pointer (some ⟨g4, k, none⟩), fun W hW => quiet_ok ?_, hK _ ?_⟩
            · have f := HS.out W hW
              obtain ⟨_, c0, c1⟩ := f
              go_simp
              all_goals (try omega)
            clear hK K
            simp only [Act.put, List.setIfInBounds_toArray, List.set_cons_succ, List.set_cons_zero]
            refine wpQuiet_step (fun K hK => ?_)
            rw [if_pos (by rfl)]
            refine ⟨.string ⟨y.toArray⟩, fun W hW => quiet_ok ?_, hK _ ?_⟩
            · have f := HS.out W hW
              obtain ⟨_, c0, c1⟩ := f
              go_simp
              all_goals (try omega)
            clear hK K
            simp only [Act.put, List.setIfInBounds_toArray, List.set_cons_succ, List.set_cons_zero]
            refine wpQuiet_step (fun K hK => ?_)
            rw [if_pos (by rfl)]
            refine ⟨.tuple #[.int .i64 (-1), .bool true], fun W hW => quiet_call (f := 24) (args := #[.string ⟨z.toArray⟩, .string ⟨y.toArray⟩]) ?_ ?_, hK _ ?_⟩
            · go_simp
            · exact HCMP.out W hW
            clear hK K
            simp only [Act.put, List.setIfInBounds_toArray, List.set_cons_succ, List.set_cons_zero]
            refine wpQuiet_step (fun K hK => ?_)
            rw [if_pos (by rfl)]
            refine ⟨.tuple #[.int .i64 (-1), .bool true], fun W hW => quiet_ok ?_, hK _ ?_⟩
            · have f := HS.out W hW
              obtain ⟨_, c0, c1⟩ := f
              go_simp
              all_goals (try omega)
            clear hK K
            simp only [Act.put, List.setIfInBounds_toArray, List.set_cons_succ, List.set_cons_zero]
            refine wpQuiet_step (fun K hK => ?_)
            rw [if_pos (by rfl)]
            refine ⟨.int .i64 (-1), fun W hW => quiet_ok ?_, hK _ ?_⟩
            · have f := HS.out W hW
              obtain ⟨_, c0, c1⟩ := f
              go_simp
              all_goals (try omega)
            clear hK K
            simp only [Act.put, List.setIfInBounds_toArray, List.set_cons_succ, List.set_cons_zero]
            refine wpQuiet_step (fun K hK => ?_)
            rw [if_pos (by rfl)]
            refine ⟨.bool true, fun W hW => quiet_ok ?_, hK _ ?_⟩
            · have f := HS.out W hW
              obtain ⟨_, c0, c1⟩ := f
              go_simp
              all_goals (try omega)
            clear hK K
            simp only [Act.put, List.setIfInBounds_toArray, List.set_cons_succ, List.set_cons_zero]
            refine wpQuiet_step (fun K hK => ?_)
            rw [if_pos (by rfl)]
            refine ⟨.int .i64 (-1), fun W hW => quiet_ok ?_, hK _ ?_⟩
            · have f := HS.out W hW
              obtain ⟨_, c0, c1⟩ := f
              go_simp
              all_goals (try omega)
            clear hK K
            simp only [Act.put, List.setIfInBounds_toArray, List.set_cons_succ, List.set_cons_zero]
            refine wpQuiet_step (fun K hK => ?_)
            rw [if_pos (by rfl)]
            refine ⟨.bool true, fun W hW => quiet_ok ?_, hK _ ?_⟩
            · have f := HS.out W hW
              obtain ⟨_, c0, c1⟩ := f
              go_simp
              all_goals (try omega)
            clear hK K
            simp only [Act.put, List.setIfInBounds_toArray, List.set_cons_succ, List.set_cons_zero]
            refine wpQuiet_nil ?_
            intro w8 hb8
            have hb08 : Below w.heap.size w w8 := hbr.trans (hb8.mono hbr.size)
            have hE8 := hEr.below hb8
            have HO8 : Hid (OwnS w8 w4.heap.size (.slice (some ⟨g4, 0, none⟩) T.length c4) T) := HOK.out _ hb8
            clear hb8 hbd hbz HCMP HS HOK
            go_wp2_with fail
            go_loopw [23, 150] (fun e i w9 => ∃ (j : Nat) (ee : Bool), j ≤ T.length - k ∧ i = .int .i64 (j : Int) ∧ e = .bool ee ∧ Hid (ee = true → ∃ (m : Nat) (_ : m < j) (hm : k + m < T.length), belowT (T[k + m]'hm) y = false) ∧ Hid (OwnS w9 w4.heap.size (.slice (some ⟨g4, 0, none⟩) T.length c4) T) ∧ Below w.heap.size w w9 ∧ Env w9) (fun _ i _ => T.length - k - (intOf i).toNat)
            case atStart => exact ⟨0, false, Nat.zero_le _, rfl, rfl, fun h => (by cases h), HO8, hb08, hE8⟩
            case round =>
              obtain ⟨j, ee, hj, rfl, rfl, HEE, HO9, hb9, hE9⟩ := hrel
              by_cases hjl : j < T.length - k
              · have hkj : k + j < T.length := by omega
                have hcj := own_at HO9.out (k + j) hkj
                have hck9 := own_at HO9.out k hlt
                rw [HYK.out] at hck9
                have HBJ := HBOTH.out (k + j) hkj
                have HCONV : Hid (belowT (T[k + j]'hkj) y = true → ee = false) := fun h => by
                  cases he : ee with
                  | false => rfl
                  | true =>
                    obtain ⟨m, hmj, hm, hbm⟩ := HEE.out he
                    rw [HBLK.out (k + m) (by omega) hm (k + j) (by omega) hkj h] at hbm; cases hbm
                have HWIT : Hid (belowT (T[k + j]'hkj) y = false → ∃ (m : Nat) (_ : m < j + 1) (hm : k + m < T.length), belowT (T[k + m]'hm) y = false) := fun h => ⟨j, by omega, hkj, h⟩
                have HOLD : Hid (ee = true → ∃ (m : Nat) (_ : m < j + 1) (hm : k + m < T.length), belowT (T[k + m]'hm) y = false) := fun h => by obtain ⟨m, h1, h2, h3⟩ := HEE.out h; exact ⟨m, by omega, h2, h3⟩
                obtain ⟨x, hx⟩ : ∃ x, x = T[k + j]'hkj := ⟨_, rfl⟩
                rw [← hx] at hcj HBJ HCONV HWIT
                have hxs : (⟨x.toArray⟩ : ByteArray).size ≤ 60 := by rw [size_of]; exact HBJ.2
                have HBB : Hid (bothB x y = true) := HBJ.1
                clear hx HBJ HEE
                cases hbl : belowT x y with
                | true =>
                  obtain rfl := HCONV.out hbl
                  clear HCONV HWIT
                  go_wp2_with fail
                  refine (iIsBelow_any ⟨x.toArray⟩ ⟨y.toArray⟩ _ (by omega) (by omega) hE9).mono ?_
                  rw [of_list, of_list, hbl, HBB.out]
                  rintro e w10 ⟨rfl, hbn⟩
                  have hb10 : Below w.heap.size w w10 := hb9.trans (hbn.mono hb9.size)
                  have hE10 := hE9.below hbn
                  have HO10 : Hid (OwnS w10 w4.heap.size (.slice (some ⟨g4, 0, none⟩) T.length c4) T) := HO9.out.kept hbn
                  clear hbn
                  all_goals (go_wp2_with fail)
                  all_goals go_roundw
                  all_goals first
                    | (simp [intOf]; omega)
                    | exact ⟨j + 1, false, by omega, by go_num, rfl, fun h => (by cases h), HO10, hb10, hE10⟩
                | false =>
                  have HW := HWIT.out hbl
                  have HWH : Hid (∃ (m : Nat) (_ : m < j + 1) (hm : k + m < T.length), belowT (T[k + m]'hm) y = false) := HW
                  clear HW
                  clear HCONV HWIT
                  go_wp2_with fail
                  refine (iIsBelow_any ⟨x.toArray⟩ ⟨y.toArray⟩ _ (by omega) (by omega) hE9).mono ?_
                  rw [of_list, of_list, hbl, HBB.out]
                  rintro e w10 ⟨rfl, hbn⟩
                  have hb10 : Below w.heap.size w w10 := hb9.trans (hbn.mono hb9.size)
                  have hE10 := hE9.below hbn
                  have HO10 : Hid (OwnS w10 w4.heap.size (.slice (some ⟨g4, 0, none⟩) T.length c4) T) := HO9.out.kept hbn
                  clear hbn
                  cases ee
                  all_goals (go_wp2_with fail)
                  all_goals go_roundw
                  all_goals first
                    | (simp [intOf]; omega)
                    | exact ⟨j + 1, true, by omega, by go_num, rfl, fun _ => HWH.out, HO10, hb10, hE10⟩
              · go_wp2_with fail
                go_roundw
                case rel => exact ⟨k + 1, by omega, by go_num, HO9, hb9, hE9⟩
                case measure => simp [intOf]; omega
        · go_wp2_with fail
          go_ret
          exact ⟨rfl, hbr⟩
    | true =>
      have hnm : nameB a = true ∧ nameB b = true := by unfold cmpB at hok; simpa using hok
      have hcT := cmp_T hnm.1 hnm.2
      have hcT2 := cmp_T hnm.2 hnm.1
      have hsw := cmpN_swap a b
      have hif := cmp_iff a b
      have hbl := cmp_below hnm.1 hnm.2
      have HBT : Hid (belowT a b = belowB a b ∧ bothB a b = true) := by unfold belowT bothB; rw [hnm.1, hnm.2]; exact ⟨rfl, rfl⟩
      rcases (show cmpN a b = -1 ∨ cmpN a b = 0 ∨ cmpN a b = 1 from cmpR_vals _ _) with hv | hv | hv
      · have HC : Hid (cmpT a b = -1 ∧ cmpB a b = true) := ⟨hcT.1.trans hv, hcT.2⟩
        have HC2 : Hid (cmpT b a = 1 ∧ cmpB b a = true) := ⟨by rw [hcT2.1, hsw, hv] <;> rfl, hcT2.2⟩
        have x5 : (a == b) = false := by rw [← hif, hv]; rfl
        have HQ : Hid (belowT a b = false) := by rw [HBT.out.1]; show _ = false; rw [Bool.eq_false_iff]; exact fun h => hbl h hv
        clear hcT hcT2 hsw hif hbl hv hok
        refine (iCompareNames_any _ _ _ hE1).mono ?_
        rw [of_list, of_list, HC.out.1, HC.out.2]
        rintro e w2 ⟨rfl, hbn⟩
        have hb02 : Below w.heap.size w w2 := hb01.trans (hbn.mono hb01.size)
        have hE2 : Env w2 := hE1.below hbn
        have HM_2 : Hid (ZRow .u8 w2 (.slice a2 R.length cap2) R) := (HM_1).out.kept hbn
        clear hbn hb01 hE1 HM_1
        go_wp2_with fail
        refine (sCompareNames_any _ _ _ (by omega) (by omega)).mono ?_
        rw [of_list, of_list, HC.out.1, HC.out.2]
        rintro e w3 ⟨rfl, hbn⟩
        have hb03 : Below w.heap.size w w3 := hb02.trans (hbn.mono hb02.size)
        have hE3 : Env w3 := hE2.below hbn
        have HM_3 : Hid (ZRow .u8 w3 (.slice a2 R.length cap2) R) := (HM_2).out.kept hbn
        clear hbn hb02 hE2 HM_2
        go_wp2_with fail
        refine (iCompareNames_any _ _ _ hE3).mono ?_
        rw [of_list, of_list, HC2.out.1, HC2.out.2]
        rintro e w4 ⟨rfl, hbn⟩
        have hb04 : Below w.heap.size w w4 := hb03.trans (hbn.mono hb03.size)
        have hE4 : Env w4 := hE3.below hbn
        have HM_4 : Hid (ZRow .u8 w4 (.slice a2 R.length cap2) R) := (HM_3).out.kept hbn
        clear hbn hb03 hE3 HM_3
        go_wp2_with fail
        refine (iIsBelow_any _ _ _ (by omega) (by omega) hE4).mono ?_
        rw [of_list, of_list, HQ.out, HBT.out.2]
        rintro e w5 ⟨rfl, hbn⟩
        have hb05 : Below w.heap.size w w5 := hb04.trans (hbn.mono hb04.size)
        have hE5 : Env w5 := hE4.below hbn
        have HM_5 : Hid (ZRow .u8 w5 (.slice a2 R.length cap2) R) := (HM_4).out.kept hbn
        clear hbn hb04 hE4 HM_4
        go_wp2_with fail
        refine (drawSortNames_any _ R _ HM_5.out hb2 hle2).mono ?_
        rintro e w6 ⟨u3, L3, ⟨rfl, hrow3, hsm3⟩, hbn⟩
        have hb06 : Below w.heap.size w w6 := hb05.trans (hbn.mono hb05.size)
        have hE6 : Env w6 := hE5.below hbn
        have HM_6 : Hid (ZRow .u8 w6 (.slice a2 R.length cap2) R) := (HM_5).out.kept hbn
        clear hbn hb05 hE5 HM_5
        have HL3_6 : Hid (Row w6 u3 L3) := hrow3
        obtain ⟨a3, c3, rfl, hc3, hm3, _⟩ := row_value HL3_6.out
        have HT3 : Hid (L3.length + tot L3 ≤ 1048576) := by have h1 := hsm3.tot; have h2 := hsm3.1; show _ ≤ _; omega
        obtain ⟨T, hT⟩ : ∃ T, T = sortT L3 := ⟨_, rfl⟩
        have HGOOD : Hid (T.Pairwise ltN ∧ ∀ x ∈ T, nameB x = true) := by rw [hT]; exact sort_good L3
        obtain ⟨b3, hb3⟩ : ∃ b3, b3 = sortB L3 := ⟨_, rfl⟩
        have HNV : Hid (sortT L3 = T ∧ sortB L3 = b3) := ⟨hT.symm, hb3.symm⟩
        clear hrow3 hsm3 hT hb3
        have x1 : (b3 != b3) = false := by simp
        go_wp2_with fail
        refine (iSortNames_any _ L3 _ HL3_6.out HT3 hE6).mono ?_
        rw [HNV.out.1, HNV.out.2]
        rintro e w7 ⟨v4, rfl, ho4, hbn⟩
        have hb07 : Below w.heap.size w w7 := hb06.trans (hbn.mono hb06.size)
        have hE7 : Env w7 := hE6.below hbn
        have HL3_7 : Hid (Row w7 (.slice a3 L3.length c3) L3) := (HL3_6).out.kept hbn
        clear hbn hb06 hE6 HL3_6
        have HA_7 : Hid (OwnS w7 w6.heap.size v4 T) := ho4
        clear ho4
        obtain ⟨a4, c4, rfl, hc4, hm4, _⟩ := row_value HA_7.out.row
        go_wp2_with fail
        refine (sSortNames_any _ L3 _ HL3_7.out HT3).mono ?_
        rw [HNV.out.1, HNV.out.2]
        rintro e w8 ⟨v5, rfl, ho5, hbn⟩
        have hb08 : Below w.heap.size w w8 := hb07.trans (hbn.mono hb07.size)
        have hE8 : Env w8 := hE7.below hbn
        have HL3_8 : Hid (Row w8 (.slice a3 L3.length c3) L3) := (HL3_7).out.kept hbn
        have HA_8 : Hid (OwnS w8 w6.heap.size (.slice a4 T.length c4) T) := (HA_7).out.kept hbn
        clear hbn hb07 hE7 HL3_7 HA_7
        have HB5_8 : Hid (Row w8 v5 T) := ho5
        clear ho5
        obtain ⟨a5, c5, rfl, hc5, hm5, _⟩ := row_value HB5_8.out
        go_wp2_with fail
        refine (sameTexts_any _ _ T _ HA_8.out.row HB5_8.out).mono ?_
        rintro e w9 ⟨rfl, hbn⟩
        have hb09 : Below w.heap.size w w9 := hb08.trans (hbn.mono hb08.size)
        have hE9 : Env w9 := hE8.below hbn
        have HA_9 : Hid (OwnS w9 w6.heap.size (.slice a4 T.length c4) T) := (HA_8).out.kept hbn
        have HB5_9 : Hid (Row w9 (.slice a5 T.length c5) T) := (HB5_8).out.kept hbn
        clear hbn hb08 hE8 HA_8 HB5_8
        go_wp2_with fail
        go_loopw [122] (fun i wr => ∃ k : Nat, k ≤ T.length ∧ i = .int .i64 (k : Int) ∧ Hid (OwnS wr w6.heap.size (.slice a4 T.length c4) T) ∧ Below w.heap.size w wr ∧ Env wr) (fun i _ => T.length - (intOf i).toNat)
        case atStart => exact ⟨0, Nat.zero_le _, rfl, HA_9, hb09, hE9⟩
        case round =>
          obtain ⟨k, hk, rfl, HO, hbr, hEr⟩ := hrel
          clear HA_9
          by_cases hlt : k < T.length
          · obtain ⟨g4, c4', hv4, hcc, hcm⟩ := own_cells HO.out (by omega)
            cases hv4
            have hnk := HGOOD.out.2 _ (List.getElem_mem hlt)
            have hlk : (T[k]'hlt).length ≤ 60 := name_sixty hnk
            have HBLK : Hid (∀ j, (hkj : k ≤ j) → (hj : j < T.length) → ∀ m, j < m → (hm : m < T.length) → belowT (T[m]'hm) (T[k]'hlt) = true → belowT (T[j]'hj) (T[k]'hlt) = true) := fun j hkj hj m hjm hm h => by
              have nj := HGOOD.out.2 _ (List.getElem_mem hj)
              have nm := HGOOD.out.2 _ (List.getElem_mem hm)
              unfold belowT at h ⊢
              rw [nm, hnk] at h
              rw [nj, hnk, block_of HGOOD.out.1 HGOOD.out.2 hkj hjm hm (by simpa using h)]; rfl
            have HBOTH : Hid (∀ j, (hj : j < T.length) → bothB (T[j]'hj) (T[k]'hlt) = true ∧ (T[j]'hj).length ≤ 60) := fun j hj => by
              have nj := HGOOD.out.2 _ (List.getElem_mem hj)
              exact ⟨by unfold bothB; rw [nj, hnk]; rfl, name_sixty nj⟩
            have hck := own_at HO.out k hlt
            have HPREV : Hid (∀ h0 : 0 < k, cmpT (T[k - 1]'(by omega)) (T[k]'hlt) = -1 ∧ cmpB (T[k - 1]'(by omega)) (T[k]'hlt) = true) := fun h0 => by
              have np := HGOOD.out.2 (T[k - 1]'(by omega)) (List.getElem_mem _)
              have h := cmp_T np hnk
              have hl : ltN (T[k - 1]'(by omega)) (T[k]'hlt) := List.pairwise_iff_getElem.1 HGOOD.out.1 (k - 1) k (by omega) hlt (by omega)
              exact ⟨h.1.trans hl, h.2⟩
            obtain ⟨y, hy⟩ : ∃ y, y = T[k]'hlt := ⟨_, rfl⟩
            rw [← hy] at hck hlk HBLK HBOTH HPREV
            have HYK : Hid (T[k]'hlt = y) := hy.symm
            clear hnk hy
            have hys : (⟨y.toArray⟩ : ByteArray).size ≤ 60 := by rw [size_of]; exact hlk
            by_cases hk0 : k = 0
            · subst hk0
              go_wp2_with fail
              have hlt0 := hlt
              go_loopw [23, 150] (fun e i w9 => ∃ (j : Nat) (ee : Bool), j ≤ T.length - 0 ∧ i = .int .i64 (j : Int) ∧ e = .bool ee ∧ Hid (ee = true → ∃ (m : Nat) (_ : m < j) (hm : 0 + m < T.length), belowT (T[0 + m]'hm) y = false) ∧ Hid (OwnS w9 w6.heap.size (.slice (some ⟨g4, 0, none⟩) T.length c4) T) ∧ Below w.heap.size w w9 ∧ Env w9) (fun _ i _ => T.length - 0 - (intOf i).toNat)
              case atStart => exact ⟨0, false, Nat.zero_le _, rfl, rfl, fun h => (by cases h), HO, hbr, hEr⟩
              case round =>
                obtain ⟨j, ee, hj, rfl, rfl, HEE, HO9, hb9, hE9⟩ := hrel
                by_cases hjl : j < T.length - 0
                · have hkj : 0 + j < T.length := by omega
                  have hcj := own_at HO9.out (0 + j) hkj
                  have hck9 := own_at HO9.out 0 hlt
                  rw [HYK.out] at hck9
                  have HBJ := HBOTH.out (0 + j) hkj
                  have HCONV : Hid (belowT (T[0 + j]'hkj) y = true → ee = false) := fun h => by
                    cases he : ee with
                    | false => rfl
                    | true =>
                      obtain ⟨m, hmj, hm, hbm⟩ := HEE.out he
                      rw [HBLK.out (0 + m) (by omega) hm (0 + j) (by omega) hkj h] at hbm; cases hbm
                  have HWIT : Hid (belowT (T[0 + j]'hkj) y = false → ∃ (m : Nat) (_ : m < j + 1) (hm : 0 + m < T.length), belowT (T[0 + m]'hm) y = false) := fun h => ⟨j, by omega, hkj, h⟩
                  have HOLD : Hid (ee = true → ∃ (m : Nat) (_ : m < j + 1) (hm : 0 + m < T.length), belowT (T[0 + m]'hm) y = false) := fun h => by obtain ⟨m, h1, h2, h3⟩ := HEE.out h; exact ⟨m, by omega, h2, h3⟩
                  obtain ⟨x, hx⟩ : ∃ x, x = T[0 + j]'hkj := ⟨_, rfl⟩
                  rw [← hx] at hcj HBJ HCONV HWIT
                  have hxs : (⟨x.toArray⟩ : ByteArray).size ≤ 60 := by rw [size_of]; exact HBJ.2
                  have HBB : Hid (bothB x y = true) := HBJ.1
                  clear hx HBJ HEE
                  rw [Nat.zero_add] at hcj
                  cases hbl : belowT x y with
                  | true =>
                    obtain rfl := HCONV.out hbl
                    clear HCONV HWIT
                    go_wp2_with fail
                    refine (iIsBelow_any ⟨x.toArray⟩ ⟨y.toArray⟩ _ (by omega) (by omega) hE9).mono ?_
                    rw [of_list, of_list, hbl, HBB.out]
                    rintro e w10 ⟨rfl, hbn⟩
                    have hb10 : Below w.heap.size w w10 := hb9.trans (hbn.mono hb9.size)
                    have hE10 := hE9.below hbn
                    have HO10 : Hid (OwnS w10 w6.heap.size (.slice (some ⟨g4, 0, none⟩) T.length c4) T) := HO9.out.kept hbn
                    clear hbn
                    all_goals (go_wp2_with fail)
                    all_goals go_roundw
                    all_goals first
                      | (simp [intOf]; omega)
                      | exact ⟨j + 1, false, by omega, by go_num, rfl, fun h => (by cases h), HO10, hb10, hE10⟩
                  | false =>
                    have HW := HWIT.out hbl
                    have HWH : Hid (∃ (m : Nat) (_ : m < j + 1) (hm : 0 + m < T.length), belowT (T[0 + m]'hm) y = false) := HW
                    clear HW
                    clear HCONV HWIT
                    go_wp2_with fail
                    refine (iIsBelow_any ⟨x.toArray⟩ ⟨y.toArray⟩ _ (by omega) (by omega) hE9).mono ?_
                    rw [of_list, of_list, hbl, HBB.out]
                    rintro e w10 ⟨rfl, hbn⟩
                    have hb10 : Below w.heap.size w w10 := hb9.trans (hbn.mono hb9.size)
                    have hE10 := hE9.below hbn
                    have HO10 : Hid (OwnS w10 w6.heap.size (.slice (some ⟨g4, 0, none⟩) T.length c4) T) := HO9.out.kept hbn
                    clear hbn
                    cases ee
                    all_goals (go_wp2_with fail)
                    all_goals go_roundw
                    all_goals first
                      | (simp [intOf]; omega)
                      | exact ⟨j + 1, true, by omega, by go_num, rfl, fun _ => HWH.out, HO10, hb10, hE10⟩
                · go_wp2_with fail
                  go_roundw
                  case rel => exact ⟨0 + 1, by omega, by go_num, HO9, hb9, hE9⟩
                  case measure => simp [intOf]; omega
            · obtain ⟨kk, hkk1⟩ : ∃ kk, k = kk + 1 := ⟨k - 1, by omega⟩
              have hkk : kk < T.length := by omega
              have hp : cmpT (T[kk]'hkk) y = -1 ∧ cmpB (T[kk]'hkk) y = true := by have h := HPREV.out (by omega); subst hkk1; exact h
              have hlp := (HBOTH.out kk hkk).2
              have HS : Hid (∀ W, Below wr.heap.size wr W → Below wr.heap.size wr W ∧ W.cell? ⟨g4, kk, none⟩ = some (.string ⟨(T[kk]'hkk).toArray⟩) ∧ W.cell? ⟨g4, k, none⟩ = some (.string ⟨y.toArray⟩)) := fun W hW => ⟨hW, own_at (HO.out.kept hW) kk hkk, by have h := own_at (HO.out.kept hW) k hlt; rw [HYK.out] at h; exact h⟩
              obtain ⟨z, hz⟩ : ∃ z, z = T[kk]'hkk := ⟨_, rfl⟩
              rw [← hz] at hp HS hlp
              have HCMP : Hid (∀ W, Below wr.heap.size wr W → Calls Tryd.prog 24 #[.string ⟨z.toArray⟩, .string ⟨y.toArray⟩] W fun e w'' => e = .returned (.tuple #[.int .i64 (-1), .bool true]) ∧ Below wr.heap.size wr w'') := fun W hW => (iCompareNames_any ⟨z.toArray⟩ ⟨y.toArray⟩ W (hEr.below hW)).mono fun e w'' h => by
                rw [of_list, of_list, hp.1, hp.2] at h
                exact ⟨h.1, hW.trans (h.2.mono hW.size)⟩
              have hto : ((k : Int) - 1).toNat = kk := by omega
              have hi1 : 0 ≤ (k : Int) - 1 ∧ (k : Int) - 1 < (T.length : Int) := by omega
              have hi2 : 0 ≤ (k : Int) ∧ (k : Int) < (T.length : Int) := by omega
              have hi3 : (k : Int) < (T.length : Int) := by omega
              have hi4 : (k : Int) - 1 < (T.length : Int) := by omega
              have hi5 : 1 ≤ (k : Int) := by omega
              have hw1 : IntKind.i64.wrap ((k : Int) - 1) = (k : Int) - 1 := by rw [show (k : Int) - 1 = (kk : Int) by omega]; exact i64_small kk (by omega)
              have h0k : (0 : Int) ≤ (k : Int) := by omega
              have h0k1 : (0 : Int) ≤ (k : Int) - 1 := by omega
              have htk : ((k : Int)).toNat = k := by omega
              have hbz : Below wr.heap.size wr wr := Below.refl _ _
              have hbd : Below wr.heap.size wr wr.drew := (Below.refl _ _).drew
              have HOK : Hid (∀ W, Below wr.heap.size wr W → OwnS W w6.heap.size (.slice (some ⟨g4, 0, none⟩) T.length c4) T) := fun W hW => HO.out.kept hW
              have hk1 : 1 ≤ k := by omega
              clear hz hp hck hkk1 hk0
              go_wp2_with fail
              refine wp_region_quiet (C := fun W => Below wr.heap.size wr W) (by kernel_rfl) (by kernel_rfl) hbd ?_
              refine wpQuiet_step (fun K hK => ?_)
              rw [if_pos (by rfl)]
              refine ⟨.slice (some ⟨g4, 0, none⟩) T.length c4, fun W hW => quiet_ok ?_, hK _ ?_⟩
              · have f := HS.out W hW
                obtain ⟨_, c0, c1⟩ := f
                go_simp
                all_goals (try omega)
              clear hK K
              simp only [Act.put, List.setIfInBounds_toArray, List.set_cons_succ, List.set_cons_zero]
              refine wpQuiet_step (fun K hK => ?_)
              rw [if_pos (by rfl)]
              refine ⟨.int .i64 (k : Int), fun W hW => quiet_ok ?_, hK _ ?_⟩
              · have f := HS.out W hW
                obtain ⟨_, c0, c1⟩ := f
                go_simp
                all_goals (try omega)
              clear hK K
              simp only [Act.put, List.setIfInBounds_toArray, List.set_cons_succ, List.set_cons_zero]
              refine wpQuiet_step (fun K hK => ?_)
              rw [if_pos (by rfl)]
              refine ⟨.int .i64 ((k : Int) - 1), fun W hW => quiet_ok ?_, hK _ ?_⟩
              · have f := HS.out W hW
                obtain ⟨_, c0, c1⟩ := f
                go_simp
                all_goals (try omega)
              clear hK K
              simp only [Act.put, List.setIfInBounds_toArray, List.set_cons_succ, List.set_cons_zero]
              refine wpQuiet_step (fun K hK => ?_)
              rw [if_pos (by rfl)]
              refine ⟨.pointer (some ⟨g4, kk, none⟩), fun W hW => quiet_ok ?_, hK _ ?_⟩
              · have f := HS.out W hW
                obtain ⟨_, c0, c1⟩ := f
                go_simp
                all_goals (try omega)
              clear hK K
              simp only [Act.put, List.setIfInBounds_toArray, List.set_cons_succ, List.set_cons_zero]
              refine wpQuiet_step (fun K hK => ?_)
              rw [if_pos (by rfl)]
              refine ⟨.string ⟨z.toArray⟩, fun W hW => quiet_ok ?_, hK _ ?_⟩
              · have f := HS.out W hW
                obtain ⟨_, c0, c1⟩ := f
                go_simp
                all_goals (try omega)
              clear hK K
              simp only [Act.put, List.setIfInBounds_toArray, List.set_cons_succ, List.set_cons_zero]
              refine wpQuiet_step (fun K hK => ?_)
              rw [if_pos (by rfl)]
              refine ⟨.slice (some ⟨g4, 0, none⟩) T.length c4, fun W hW => quiet_ok ?_, hK _ ?_⟩
              · have f := HS.out W hW
                obtain ⟨_, c0, c1⟩ := f
                go_simp
                all_goals (try omega)
              clear hK K
              simp only [Act.put, List.setIfInBounds_toArray, List.set_cons_succ, List.set_cons_zero]
              refine wpQuiet_step (fun K hK => ?_)
              rw [if_pos (by rfl)]
              refine ⟨.int .i64 (k : Int), fun W hW => quiet_ok ?_, hK _ ?_⟩
              · have f := HS.out W hW
                obtain ⟨_, c0, c1⟩ := f
                go_simp
                all_goals (try omega)
              clear hK K
              simp only [Act.put, List.setIfInBounds_toArray, List.set_cons_succ, List.set_cons_zero]
              refine wpQuiet_step (fun K hK => ?_)
              rw [if_pos (by rfl)]
              refine ⟨.pointer (some ⟨g4, k, none⟩), fun W hW => quiet_ok ?_, hK _ ?_⟩
              · have f := HS.out W hW
                obtain ⟨_, c0, c1⟩ := f
                go_simp
                all_goals (try omega)
              clear hK K
              simp only [Act.put, List.setIfInBounds_toArray, List.set_cons_succ, List.set_cons_zero]
              refine wpQuiet_step (fun K hK => ?_)
              rw [if_pos (by rfl)]
              refine ⟨.string ⟨y.toArray⟩, fun W hW => quiet_ok ?_, hK _ ?_⟩
              · have f := HS.out W hW
                obtain ⟨_, c0, c1⟩ := f
                go_simp
                all_goals (try omega)
              clear hK K
              simp only [Act.put, List.setIfInBounds_toArray, List.set_cons_succ, List.set_cons_zero]
              refine wpQuiet_step (fun K hK => ?_)
              rw [if_pos (by rfl)]
              refine ⟨.tuple #[.int .i64 (-1), .bool true], fun W hW => quiet_call (f := 24) (args := #[.string ⟨z.toArray⟩, .string ⟨y.toArray⟩]) ?_ ?_, hK _ ?_⟩
              · go_simp
              · exact HCMP.out W hW
              clear hK K
              simp only [Act.put, List.setIfInBounds_toArray, List.set_cons_succ, List.set_cons_zero]
              refine wpQuiet_step (fun K hK => ?_)
              rw [if_pos (by rfl)]
              refine ⟨.tuple #[.int .i64 (-1), .bool true], fun W hW => quiet_ok ?_, hK _ ?_⟩
              · have f := HS.out W hW
                obtain ⟨_, c0, c1⟩ := f
                go_simp
                all_goals (try omega)
              clear hK K
              simp only [Act.put, List.setIfInBounds_toArray, List.set_cons_succ, List.set_cons_zero]
              refine wpQuiet_step (fun K hK => ?_)
              rw [if_pos (by rfl)]
              refine ⟨.int .i64 (-1), fun W hW => quiet_ok ?_, hK _ ?_⟩
              · have f := HS.out W hW
                obtain ⟨_, c0, c1⟩ := f
                go_simp
                all_goals (try omega)
              clear hK K
              simp only [Act.put, List.setIfInBounds_toArray, List.set_cons_succ, List.set_cons_zero]
              refine wpQuiet_step (fun K hK => ?_)
              rw [if_pos (by rfl)]
              refine ⟨.bool true, fun W hW => quiet_ok ?_, hK _ ?_⟩
              · have f := HS.out W hW
                obtain ⟨_, c0, c1⟩ := f
                go_simp
                all_goals (try omega)
              clear hK K
              simp only [Act.put, List.setIfInBounds_toArray, List.set_cons_succ, List.set_cons_zero]
              refine wpQuiet_step (fun K hK => ?_)
              rw [if_pos (by rfl)]
              refine ⟨.int .i64 (-1), fun W hW => quiet_ok ?_, hK _ ?_⟩
              · have f := HS.out W hW
                obtain ⟨_, c0, c1⟩ := f
                go_simp
                all_goals (try omega)
              clear hK K
              simp only [Act.put, List.setIfInBounds_toArray, List.set_cons_succ, List.set_cons_zero]
              refine wpQuiet_step (fun K hK => ?_)
              rw [if_pos (by rfl)]
              refine ⟨.bool true, fun W hW => quiet_ok ?_, hK _ ?_⟩
              · have f := HS.out W hW
                obtain ⟨_, c0, c1⟩ := f
                go_simp
                all_goals (try omega)
              clear hK K
              simp only [Act.put, List.setIfInBounds_toArray, List.set_cons_succ, List.set_cons_zero]
              refine wpQuiet_nil ?_
              intro w8 hb8
              have hb08 : Below w.heap.size w w8 := hbr.trans (hb8.mono hbr.size)
              have hE8 := hEr.below hb8
              have HO8 : Hid (OwnS w8 w6.heap.size (.slice (some ⟨g4, 0, none⟩) T.length c4) T) := HOK.out _ hb8
              clear hb8 hbd hbz HCMP HS HOK
              go_wp2_with fail
              go_loopw [23, 150] (fun e i w9 => ∃ (j : Nat) (ee : Bool), j ≤ T.length - k ∧ i = .int .i64 (j : Int) ∧ e = .bool ee ∧ Hid (ee = true → ∃ (m : Nat) (_ : m < j) (hm : k + m < T.length), belowT (T[k + m]'hm) y = false) ∧ Hid (OwnS w9 w6.heap.size (.slice (some ⟨g4, 0, none⟩) T.length c4) T) ∧ Below w.heap.size w w9 ∧ Env w9) (fun _ i _ => T.length - k - (intOf i).toNat)
              case atStart => exact ⟨0, false, Nat.zero_le _, rfl, rfl, fun h => (by cases h), HO8, hb08, hE8⟩
              case round =>
                obtain ⟨j, ee, hj, rfl, rfl, HEE, HO9, hb9, hE9⟩ := hrel
                by_cases hjl : j < T.length - k
                · have hkj : k + j < T.length := by omega
                  have hcj := own_at HO9.out (k + j) hkj
                  have hck9 := own_at HO9.out k hlt
                  rw [HYK.out] at hck9
                  have HBJ := HBOTH.out (k + j) hkj
                  have HCONV : Hid (belowT (T[k + j]'hkj) y = true → ee = false) := fun h => by
                    cases he : ee with
                    | false => rfl
                    | true =>
                      obtain ⟨m, hmj, hm, hbm⟩ := HEE.out he
                      rw [HBLK.out (k + m) (by omega) hm (k + j) (by omega) hkj h] at hbm; cases hbm
                  have HWIT : Hid (belowT (T[k + j]'hkj) y = false → ∃ (m : Nat) (_ : m < j + 1) (hm : k + m < T.length), belowT (T[k + m]'hm) y = false) := fun h => ⟨j, by omega, hkj, h⟩
                  have HOLD : Hid (ee = true → ∃ (m : Nat) (_ : m < j + 1) (hm : k + m < T.length), belowT (T[k + m]'hm) y = false) := fun h => by obtain ⟨m, h1, h2, h3⟩ := HEE.out h; exact ⟨m, by omega, h2, h3⟩
                  obtain ⟨x, hx⟩ : ∃ x, x = T[k + j]'hkj := ⟨_, rfl⟩
                  rw [← hx] at hcj HBJ HCONV HWIT
                  have hxs : (⟨x.toArray⟩ : ByteArray).size ≤ 60 := by rw [size_of]; exact HBJ.2
                  have HBB : Hid (bothB x y = true) := HBJ.1
                  clear hx HBJ HEE
                  cases hbl : belowT x y with
                  | true =>
                    obtain rfl := HCONV.out hbl
                    clear HCONV HWIT
                    go_wp2_with fail
                    refine (iIsBelow_any ⟨x.toArray⟩ ⟨y.toArray⟩ _ (by omega) (by omega) hE9).mono ?_
                    rw [of_list, of_list, hbl, HBB.out]
                    rintro e w10 ⟨rfl, hbn⟩
                    have hb10 : Below w.heap.size w w10 := hb9.trans (hbn.mono hb9.size)
                    have hE10 := hE9.below hbn
                    have HO10 : Hid (OwnS w10 w6.heap.size (.slice (some ⟨g4, 0, none⟩) T.length c4) T) := HO9.out.kept hbn
                    clear hbn
                    all_goals (go_wp2_with fail)
                    all_goals go_roundw
                    all_goals first
                      | (simp [intOf]; omega)
                      | exact ⟨j + 1, false, by omega, by go_num, rfl, fun h => (by cases h), HO10, hb10, hE10⟩
                  | false =>
                    have HW := HWIT.out hbl
                    have HWH : Hid (∃ (m : Nat) (_ : m < j + 1) (hm : k + m < T.length), belowT (T[k + m]'hm) y = false) := HW
                    clear HW
                    clear HCONV HWIT
                    go_wp2_with fail
                    refine (iIsBelow_any ⟨x.toArray⟩ ⟨y.toArray⟩ _ (by omega) (by omega) hE9).mono ?_
                    rw [of_list, of_list, hbl, HBB.out]
                    rintro e w10 ⟨rfl, hbn⟩
                    have hb10 : Below w.heap.size w w10 := hb9.trans (hbn.mono hb9.size)
                    have hE10 := hE9.below hbn
                    have HO10 : Hid (OwnS w10 w6.heap.size (.slice (some ⟨g4, 0, none⟩) T.length c4) T) := HO9.out.kept hbn
                    clear hbn
                    cases ee
                    all_goals (go_wp2_with fail)
                    all_goals go_roundw
                    all_goals first
                      | (simp [intOf]; omega)
                      | exact ⟨j + 1, true, by omega, by go_num, rfl, fun _ => HWH.out, HO10, hb10, hE10⟩
                · go_wp2_with fail
                  go_roundw
                  case rel => exact ⟨k + 1, by omega, by go_num, HO9, hb9, hE9⟩
                  case measure => simp [intOf]; omega
          · go_wp2_with fail
            go_ret
            exact ⟨rfl, hbr⟩
      · have HC : Hid (cmpT a b = 0 ∧ cmpB a b = true) := ⟨hcT.1.trans hv, hcT.2⟩
        have HC2 : Hid (cmpT b a = 0 ∧ cmpB b a = true) := ⟨by rw [hcT2.1, hsw, hv] <;> rfl, hcT2.2⟩
        have x5 : (a == b) = true := by rw [← hif, hv]; rfl
        clear hcT hcT2 hsw hif hbl hv hok
        refine (iCompareNames_any _ _ _ hE1).mono ?_
        rw [of_list, of_list, HC.out.1, HC.out.2]
        rintro e w2 ⟨rfl, hbn⟩
        have hb02 : Below w.heap.size w w2 := hb01.trans (hbn.mono hb01.size)
        have hE2 : Env w2 := hE1.below hbn
        have HM_2 : Hid (ZRow .u8 w2 (.slice a2 R.length cap2) R) := (HM_1).out.kept hbn
        clear hbn hb01 hE1 HM_1
        go_wp2_with fail
        refine (sCompareNames_any _ _ _ (by omega) (by omega)).mono ?_
        rw [of_list, of_list, HC.out.1, HC.out.2]
        rintro e w3 ⟨rfl, hbn⟩
        have hb03 : Below w.heap.size w w3 := hb02.trans (hbn.mono hb02.size)
        have hE3 : Env w3 := hE2.below hbn
        have HM_3 : Hid (ZRow .u8 w3 (.slice a2 R.length cap2) R) := (HM_2).out.kept hbn
        clear hbn hb02 hE2 HM_2
        go_wp2_with fail
        refine (iCompareNames_any _ _ _ hE3).mono ?_
        rw [of_list, of_list, HC2.out.1, HC2.out.2]
        rintro e w4 ⟨rfl, hbn⟩
        have hb04 : Below w.heap.size w w4 := hb03.trans (hbn.mono hb03.size)
        have hE4 : Env w4 := hE3.below hbn
        have HM_4 : Hid (ZRow .u8 w4 (.slice a2 R.length cap2) R) := (HM_3).out.kept hbn
        clear hbn hb03 hE3 HM_3
        go_wp2_with fail
        refine (iIsBelow_any _ _ _ (by omega) (by omega) hE4).mono ?_
        rw [of_list, of_list, HBT.out.1, HBT.out.2]
        rintro e w5 ⟨rfl, hbn⟩
        have hb05 : Below w.heap.size w w5 := hb04.trans (hbn.mono hb04.size)
        have hE5 : Env w5 := hE4.below hbn
        have HM_5 : Hid (ZRow .u8 w5 (.slice a2 R.length cap2) R) := (HM_4).out.kept hbn
        clear hbn hb04 hE4 HM_4
        cases hq : belowB a b with
        | false =>
          clear hq
          go_wp2_with fail
          refine (drawSortNames_any _ R _ HM_5.out hb2 hle2).mono ?_
          rintro e w6 ⟨u3, L3, ⟨rfl, hrow3, hsm3⟩, hbn⟩
          have hb06 : Below w.heap.size w w6 := hb05.trans (hbn.mono hb05.size)
          have hE6 : Env w6 := hE5.below hbn
          have HM_6 : Hid (ZRow .u8 w6 (.slice a2 R.length cap2) R) := (HM_5).out.kept hbn
          clear hbn hb05 hE5 HM_5
          have HL3_6 : Hid (Row w6 u3 L3) := hrow3
          obtain ⟨a3, c3, rfl, hc3, hm3, _⟩ := row_value HL3_6.out
          have HT3 : Hid (L3.length + tot L3 ≤ 1048576) := by have h1 := hsm3.tot; have h2 := hsm3.1; show _ ≤ _; omega
          obtain ⟨T, hT⟩ : ∃ T, T = sortT L3 := ⟨_, rfl⟩
          have HGOOD : Hid (T.Pairwise ltN ∧ ∀ x ∈ T, nameB x = true) := by rw [hT]; exact sort_good L3
          obtain ⟨b3, hb3⟩ : ∃ b3, b3 = sortB L3 := ⟨_, rfl⟩
          have HNV : Hid (sortT L3 = T ∧ sortB L3 = b3) := ⟨hT.symm, hb3.symm⟩
          clear hrow3 hsm3 hT hb3
          have x1 : (b3 != b3) = false := by simp
          go_wp2_with fail
          refine (iSortNames_any _ L3 _ HL3_6.out HT3 hE6).mono ?_
          rw [HNV.out.1, HNV.out.2]
          rintro e w7 ⟨v4, rfl, ho4, hbn⟩
          have hb07 : Below w.heap.size w w7 := hb06.trans (hbn.mono hb06.size)
          have hE7 : Env w7 := hE6.below hbn
          have HL3_7 : Hid (Row w7 (.slice a3 L3.length c3) L3) := (HL3_6).out.kept hbn
          clear hbn hb06 hE6 HL3_6
          have HA_7 : Hid (OwnS w7 w6.heap.size v4 T) := ho4
          clear ho4
          obtain ⟨a4, c4, rfl, hc4, hm4, _⟩ := row_value HA_7.out.row
          go_wp2_with fail
          refine (sSortNames_any _ L3 _ HL3_7.out HT3).mono ?_
          rw [HNV.out.1, HNV.out.2]
          rintro e w8 ⟨v5, rfl, ho5, hbn⟩
          have hb08 : Below w.heap.size w w8 := hb07.trans (hbn.mono hb07.size)
          have hE8 : Env w8 := hE7.below hbn
          have HL3_8 : Hid (Row w8 (.slice a3 L3.length c3) L3) := (HL3_7).out.kept hbn
          have HA_8 : Hid (OwnS w8 w6.heap.size (.slice a4 T.length c4) T) := (HA_7).out.kept hbn
          clear hbn hb07 hE7 HL3_7 HA_7
          have HB5_8 : Hid (Row w8 v5 T) := ho5
          clear ho5
          obtain ⟨a5, c5, rfl, hc5, hm5, _⟩ := row_value HB5_8.out
          go_wp2_with fail
          refine (sameTexts_any _ _ T _ HA_8.out.row HB5_8.out).mono ?_
          rintro e w9 ⟨rfl, hbn⟩
          have hb09 : Below w.heap.size w w9 := hb08.trans (hbn.mono hb08.size)
          have hE9 : Env w9 := hE8.below hbn
          have HA_9 : Hid (OwnS w9 w6.heap.size (.slice a4 T.length c4) T) := (HA_8).out.kept hbn
          have HB5_9 : Hid (Row w9 (.slice a5 T.length c5) T) := (HB5_8).out.kept hbn
          clear hbn hb08 hE8 HA_8 HB5_8
          go_wp2_with fail
          go_loopw [122] (fun i wr => ∃ k : Nat, k ≤ T.length ∧ i = .int .i64 (k : Int) ∧ Hid (OwnS wr w6.heap.size (.slice a4 T.length c4) T) ∧ Below w.heap.size w wr ∧ Env wr) (fun i _ => T.length - (intOf i).toNat)
          case atStart => exact ⟨0, Nat.zero_le _, rfl, HA_9, hb09, hE9⟩
          case round =>
            obtain ⟨k, hk, rfl, HO, hbr, hEr⟩ := hrel
            clear HA_9
            by_cases hlt : k < T.length
            · obtain ⟨g4, c4', hv4, hcc, hcm⟩ := own_cells HO.out (by omega)
              cases hv4
              have hnk := HGOOD.out.2 _ (List.getElem_mem hlt)
              have hlk : (T[k]'hlt).length ≤ 60 := name_sixty hnk
              have HBLK : Hid (∀ j, (hkj : k ≤ j) → (hj : j < T.length) → ∀ m, j < m → (hm : m < T.length) → belowT (T[m]'hm) (T[k]'hlt) = true → belowT (T[j]'hj) (T[k]'hlt) = true) := fun j hkj hj m hjm hm h => by
                have nj := HGOOD.out.2 _ (List.getElem_mem hj)
                have nm := HGOOD.out.2 _ (List.getElem_mem hm)
                unfold belowT at h ⊢
                rw [nm, hnk] at h
                rw [nj, hnk, block_of HGOOD.out.1 HGOOD.out.2 hkj hjm hm (by simpa using h)]; rfl
              have HBOTH : Hid (∀ j, (hj : j < T.length) → bothB (T[j]'hj) (T[k]'hlt) = true ∧ (T[j]'hj).length ≤ 60) := fun j hj => by
                have nj := HGOOD.out.2 _ (List.getElem_mem hj)
                exact ⟨by unfold bothB; rw [nj, hnk]; rfl, name_sixty nj⟩
              have hck := own_at HO.out k hlt
              have HPREV : Hid (∀ h0 : 0 < k, cmpT (T[k - 1]'(by omega)) (T[k]'hlt) = -1 ∧ cmpB (T[k - 1]'(by omega)) (T[k]'hlt) = true) := fun h0 => by
                have np := HGOOD.out.2 (T[k - 1]'(by omega)) (List.getElem_mem _)
                have h := cmp_T np hnk
                have hl : ltN (T[k - 1]'(by omega)) (T[k]'hlt) := List.pairwise_iff_getElem.1 HGOOD.out.1 (k - 1) k (by omega) hlt (by omega)
                exact ⟨h.1.trans hl, h.2⟩
              obtain ⟨y, hy⟩ : ∃ y, y = T[k]'hlt := ⟨_, rfl⟩
              rw [← hy] at hck hlk HBLK HBOTH HPREV
              have HYK : Hid (T[k]'hlt = y) := hy.symm
              clear hnk hy
              have hys : (⟨y.toArray⟩ : ByteArray).size ≤ 60 := by rw [size_of]; exact hlk
              by_cases hk0 : k = 0
              · subst hk0
                go_wp2_with fail
                have hlt0 := hlt
                go_loopw [23, 150] (fun e i w9 => ∃ (j : Nat) (ee : Bool), j ≤ T.length - 0 ∧ i = .int .i64 (j : Int) ∧ e = .bool ee ∧ Hid (ee = true → ∃ (m : Nat) (_ : m < j) (hm : 0 + m < T.length), belowT (T[0 + m]'hm) y = false) ∧ Hid (OwnS w9 w6.heap.size (.slice (some ⟨g4, 0, none⟩) T.length c4) T) ∧ Below w.heap.size w w9 ∧ Env w9) (fun _ i _ => T.length - 0 - (intOf i).toNat)
                case atStart => exact ⟨0, false, Nat.zero_le _, rfl, rfl, fun h => (by cases h), HO, hbr, hEr⟩
                case round =>
                  obtain ⟨j, ee, hj, rfl, rfl, HEE, HO9, hb9, hE9⟩ := hrel
                  by_cases hjl : j < T.length - 0
                  · have hkj : 0 + j < T.length := by omega
                    have hcj := own_at HO9.out (0 + j) hkj
                    have hck9 := own_at HO9.out 0 hlt
                    rw [HYK.out] at hck9
                    have HBJ := HBOTH.out (0 + j) hkj
                    have HCONV : Hid (belowT (T[0 + j]'hkj) y = true → ee = false) := fun h => by
                      cases he : ee with
                      | false => rfl
                      | true =>
                        obtain ⟨m, hmj, hm, hbm⟩ := HEE.out he
                        rw [HBLK.out (0 + m) (by omega) hm (0 + j) (by omega) hkj h] at hbm; cases hbm
                    have HWIT : Hid (belowT (T[0 + j]'hkj) y = false → ∃ (m : Nat) (_ : m < j + 1) (hm : 0 + m < T.length), belowT (T[0 + m]'hm) y = false) := fun h => ⟨j, by omega, hkj, h⟩
                    have HOLD : Hid (ee = true → ∃ (m : Nat) (_ : m < j + 1) (hm : 0 + m < T.length), belowT (T[0 + m]'hm) y = false) := fun h => by obtain ⟨m, h1, h2, h3⟩ := HEE.out h; exact ⟨m, by omega, h2, h3⟩
                    obtain ⟨x, hx⟩ : ∃ x, x = T[0 + j]'hkj := ⟨_, rfl⟩
                    rw [← hx] at hcj HBJ HCONV HWIT
                    have hxs : (⟨x.toArray⟩ : ByteArray).size ≤ 60 := by rw [size_of]; exact HBJ.2
                    have HBB : Hid (bothB x y = true) := HBJ.1
                    clear hx HBJ HEE
                    rw [Nat.zero_add] at hcj
                    cases hbl : belowT x y with
                    | true =>
                      obtain rfl := HCONV.out hbl
                      clear HCONV HWIT
                      go_wp2_with fail
                      refine (iIsBelow_any ⟨x.toArray⟩ ⟨y.toArray⟩ _ (by omega) (by omega) hE9).mono ?_
                      rw [of_list, of_list, hbl, HBB.out]
                      rintro e w10 ⟨rfl, hbn⟩
                      have hb10 : Below w.heap.size w w10 := hb9.trans (hbn.mono hb9.size)
                      have hE10 := hE9.below hbn
                      have HO10 : Hid (OwnS w10 w6.heap.size (.slice (some ⟨g4, 0, none⟩) T.length c4) T) := HO9.out.kept hbn
                      clear hbn
                      all_goals (go_wp2_with fail)
                      all_goals go_roundw
                      all_goals first
                        | (simp [intOf]; omega)
                        | exact ⟨j + 1, false, by omega, by go_num, rfl, fun h => (by cases h), HO10, hb10, hE10⟩
                    | false =>
                      have HW := HWIT.out hbl
                      have HWH : Hid (∃ (m : Nat) (_ : m < j + 1) (hm : 0 + m < T.length), belowT (T[0 + m]'hm) y = false) := HW
                      clear HW
                      clear HCONV HWIT
                      go_wp2_with fail
                      refine (iIsBelow_any ⟨x.toArray⟩ ⟨y.toArray⟩ _ (by omega) (by omega) hE9).mono ?_
                      rw [of_list, of_list, hbl, HBB.out]
                      rintro e w10 ⟨rfl, hbn⟩
                      have hb10 : Below w.heap.size w w10 := hb9.trans (hbn.mono hb9.size)
                      have hE10 := hE9.below hbn
                      have HO10 : Hid (OwnS w10 w6.heap.size (.slice (some ⟨g4, 0, none⟩) T.length c4) T) := HO9.out.kept hbn
                      clear hbn
                      cases ee
                      all_goals (go_wp2_with fail)
                      all_goals go_roundw
                      all_goals first
                        | (simp [intOf]; omega)
                        | exact ⟨j + 1, true, by omega, by go_num, rfl, fun _ => HWH.out, HO10, hb10, hE10⟩
                  · go_wp2_with fail
                    go_roundw
                    case rel => exact ⟨0 + 1, by omega, by go_num, HO9, hb9, hE9⟩
                    case measure => simp [intOf]; omega
              · obtain ⟨kk, hkk1⟩ : ∃ kk, k = kk + 1 := ⟨k - 1, by omega⟩
                have hkk : kk < T.length := by omega
                have hp : cmpT (T[kk]'hkk) y = -1 ∧ cmpB (T[kk]'hkk) y = true := by have h := HPREV.out (by omega); subst hkk1; exact h
                have hlp := (HBOTH.out kk hkk).2
                have HS : Hid (∀ W, Below wr.heap.size wr W → Below wr.heap.size wr W ∧ W.cell? ⟨g4, kk, none⟩ = some (.string ⟨(T[kk]'hkk).toArray⟩) ∧ W.cell? ⟨g4, k, none⟩ = some (.string ⟨y.toArray⟩)) := fun W hW => ⟨hW, own_at (HO.out.kept hW) kk hkk, by have h := own_at (HO.out.kept hW) k hlt; rw [HYK.out] at h; exact h⟩
                obtain ⟨z, hz⟩ : ∃ z, z = T[kk]'hkk := ⟨_, rfl⟩
                rw [← hz] at hp HS hlp
                have HCMP : Hid (∀ W, Below wr.heap.size wr W → Calls Tryd.prog 24 #[.string ⟨z.toArray⟩, .string ⟨y.toArray⟩] W fun e w'' => e = .returned (.tuple #[.int .i64 (-1), .bool true]) ∧ Below wr.heap.size wr w'') := fun W hW => (iCompareNames_any ⟨z.toArray⟩ ⟨y.toArray⟩ W (hEr.below hW)).mono fun e w'' h => by
                  rw [of_list, of_list, hp.1, hp.2] at h
                  exact ⟨h.1, hW.trans (h.2.mono hW.size)⟩
                have hto : ((k : Int) - 1).toNat = kk := by omega
                have hi1 : 0 ≤ (k : Int) - 1 ∧ (k : Int) - 1 < (T.length : Int) := by omega
                have hi2 : 0 ≤ (k : Int) ∧ (k : Int) < (T.length : Int) := by omega
                have hi3 : (k : Int) < (T.length : Int) := by omega
                have hi4 : (k : Int) - 1 < (T.length : Int) := by omega
                have hi5 : 1 ≤ (k : Int) := by omega
                have hw1 : IntKind.i64.wrap ((k : Int) - 1) = (k : Int) - 1 := by rw [show (k : Int) - 1 = (kk : Int) by omega]; exact i64_small kk (by omega)
                have h0k : (0 : Int) ≤ (k : Int) := by omega
                have h0k1 : (0 : Int) ≤ (k : Int) - 1 := by omega
                have htk : ((k : Int)).toNat = k := by omega
                have hbz : Below wr.heap.size wr wr := Below.refl _ _
                have hbd : Below wr.heap.size wr wr.drew := (Below.refl _ _).drew
                have HOK : Hid (∀ W, Below wr.heap.size wr W → OwnS W w6.heap.size (.slice (some ⟨g4, 0, none⟩) T.length c4) T) := fun W hW => HO.out.kept hW
                have hk1 : 1 ≤ k := by omega
                clear hz hp hck hkk1 hk0
                go_wp2_with fail
                refine wp_region_quiet (C := fun W => Below wr.heap.size wr W) (by kernel_rfl) (by kernel_rfl) hbd ?_
                refine wpQuiet_step (fun K hK => ?_)
                rw [if_pos (by rfl)]
                refine ⟨.slice (some ⟨g4, 0, none⟩) T.length c4, fun W hW => quiet_ok ?_, hK _ ?_⟩
                · have f := HS.out W hW
                  obtain ⟨_, c0, c1⟩ := f
                  go_simp
                  all_goals (try omega)
                clear hK K
                simp only [Act.put, List.setIfInBounds_toArray, List.set_cons_succ, List.set_cons_zero]
                refine wpQuiet_step (fun K hK => ?_)
                rw [if_pos (by rfl)]
                refine ⟨.int .i64 (k : Int), fun W hW => quiet_ok ?_, hK _ ?_⟩
                · have f := HS.out W hW
                  obtain ⟨_, c0, c1⟩ := f
                  go_simp
                  all_goals (try omega)
                clear hK K
                simp only [Act.put, List.setIfInBounds_toArray, List.set_cons_succ, List.set_cons_zero]
                refine wpQuiet_step (fun K hK => ?_)
                rw [if_pos (by rfl)]
                refine ⟨.int .i64 ((k : Int) - 1), fun W hW => quiet_ok ?_, hK _ ?_⟩
                · have f := HS.out W hW
                  obtain ⟨_, c0, c1⟩ := f
                  go_simp
                  all_goals (try omega)
                clear hK K
                simp only [Act.put, List.setIfInBounds_toArray, List.set_cons_succ, List.set_cons_zero]
                refine wpQuiet_step (fun K hK => ?_)
                rw [if_pos (by rfl)]
                refine ⟨.pointer (some ⟨g4, kk, none⟩), fun W hW => quiet_ok ?_, hK _ ?_⟩
                · have f := HS.out W hW
                  obtain ⟨_, c0, c1⟩ := f
                  go_simp
                  all_goals (try omega)
                clear hK K
                simp only [Act.put, List.setIfInBounds_toArray, List.set_cons_succ, List.set_cons_zero]
                refine wpQuiet_step (fun K hK => ?_)
                rw [if_pos (by rfl)]
                refine ⟨.string ⟨z.toArray⟩, fun W hW => quiet_ok ?_, hK _ ?_⟩
                · have f := HS.out W hW
                  obtain ⟨_, c0, c1⟩ := f
                  go_simp
                  all_goals (try omega)
                clear hK K
                simp only [Act.put, List.setIfInBounds_toArray, List.set_cons_succ, List.set_cons_zero]
                refine wpQuiet_step (fun K hK => ?_)
                rw [if_pos (by rfl)]
                refine ⟨.slice (some ⟨g4, 0, none⟩) T.length c4, fun W hW => quiet_ok ?_, hK _ ?_⟩
                · have f := HS.out W hW
                  obtain ⟨_, c0, c1⟩ := f
                  go_simp
                  all_goals (try omega)
                clear hK K
                simp only [Act.put, List.setIfInBounds_toArray, List.set_cons_succ, List.set_cons_zero]
                refine wpQuiet_step (fun K hK => ?_)
                rw [if_pos (by rfl)]
                refine ⟨.int .i64 (k : Int), fun W hW => quiet_ok ?_, hK _ ?_⟩
                · have f := HS.out W hW
                  obtain ⟨_, c0, c1⟩ := f
                  go_simp
                  all_goals (try omega)
                clear hK K
                simp only [Act.put, List.setIfInBounds_toArray, List.set_cons_succ, List.set_cons_zero]
                refine wpQuiet_step (fun K hK => ?_)
                rw [if_pos (by rfl)]
                refine ⟨.pointer (some ⟨g4, k, none⟩), fun W hW => quiet_ok ?_, hK _ ?_⟩
                · have f := HS.out W hW
                  obtain ⟨_, c0, c1⟩ := f
                  go_simp
                  all_goals (try omega)
                clear hK K
                simp only [Act.put, List.setIfInBounds_toArray, List.set_cons_succ, List.set_cons_zero]
                refine wpQuiet_step (fun K hK => ?_)
                rw [if_pos (by rfl)]
                refine ⟨.string ⟨y.toArray⟩, fun W hW => quiet_ok ?_, hK _ ?_⟩
                · have f := HS.out W hW
                  obtain ⟨_, c0, c1⟩ := f
                  go_simp
                  all_goals (try omega)
                clear hK K
                simp only [Act.put, List.setIfInBounds_toArray, List.set_cons_succ, List.set_cons_zero]
                refine wpQuiet_step (fun K hK => ?_)
                rw [if_pos (by rfl)]
                refine ⟨.tuple #[.int .i64 (-1), .bool true], fun W hW => quiet_call (f := 24) (args := #[.string ⟨z.toArray⟩, .string ⟨y.toArray⟩]) ?_ ?_, hK _ ?_⟩
                · go_simp
                · exact HCMP.out W hW
                clear hK K
                simp only [Act.put, List.setIfInBounds_toArray, List.set_cons_succ, List.set_cons_zero]
                refine wpQuiet_step (fun K hK => ?_)
                rw [if_pos (by rfl)]
                refine ⟨.tuple #[.int .i64 (-1), .bool true], fun W hW => quiet_ok ?_, hK _ ?_⟩
                · have f := HS.out W hW
                  obtain ⟨_, c0, c1⟩ := f
                  go_simp
                  all_goals (try omega)
                clear hK K
                simp only [Act.put, List.setIfInBounds_toArray, List.set_cons_succ, List.set_cons_zero]
                refine wpQuiet_step (fun K hK => ?_)
                rw [if_pos (by rfl)]
                refine ⟨.int .i64 (-1), fun W hW => quiet_ok ?_, hK _ ?_⟩
                · have f := HS.out W hW
                  obtain ⟨_, c0, c1⟩ := f
                  go_simp
                  all_goals (try omega)
                clear hK K
                simp only [Act.put, List.setIfInBounds_toArray, List.set_cons_succ, List.set_cons_zero]
                refine wpQuiet_step (fun K hK => ?_)
                rw [if_pos (by rfl)]
                refine ⟨.bool true, fun W hW => quiet_ok ?_, hK _ ?_⟩
                · have f := HS.out W hW
                  obtain ⟨_, c0, c1⟩ := f
                  go_simp
                  all_goals (try omega)
                clear hK K
                simp only [Act.put, List.setIfInBounds_toArray, List.set_cons_succ, List.set_cons_zero]
                refine wpQuiet_step (fun K hK => ?_)
                rw [if_pos (by rfl)]
                refine ⟨.int .i64 (-1), fun W hW => quiet_ok ?_, hK _ ?_⟩
                · have f := HS.out W hW
                  obtain ⟨_, c0, c1⟩ := f
                  go_simp
                  all_goals (try omega)
                clear hK K
                simp only [Act.put, List.setIfInBounds_toArray, List.set_cons_succ, List.set_cons_zero]
                refine wpQuiet_step (fun K hK => ?_)
                rw [if_pos (by rfl)]
                refine ⟨.bool true, fun W hW => quiet_ok ?_, hK _ ?_⟩
                · have f := HS.out W hW
                  obtain ⟨_, c0, c1⟩ := f
                  go_simp
                  all_goals (try omega)
                clear hK K
                simp only [Act.put, List.setIfInBounds_toArray, List.set_cons_succ, List.set_cons_zero]
                refine wpQuiet_nil ?_
                intro w8 hb8
                have hb08 : Below w.heap.size w w8 := hbr.trans (hb8.mono hbr.size)
                have hE8 := hEr.below hb8
                have HO8 : Hid (OwnS w8 w6.heap.size (.slice (some ⟨g4, 0, none⟩) T.length c4) T) := HOK.out _ hb8
                clear hb8 hbd hbz HCMP HS HOK
                go_wp2_with fail
                go_loopw [23, 150] (fun e i w9 => ∃ (j : Nat) (ee : Bool), j ≤ T.length - k ∧ i = .int .i64 (j : Int) ∧ e = .bool ee ∧ Hid (ee = true → ∃ (m : Nat) (_ : m < j) (hm : k + m < T.length), belowT (T[k + m]'hm) y = false) ∧ Hid (OwnS w9 w6.heap.size (.slice (some ⟨g4, 0, none⟩) T.length c4) T) ∧ Below w.heap.size w w9 ∧ Env w9) (fun _ i _ => T.length - k - (intOf i).toNat)
                case atStart => exact ⟨0, false, Nat.zero_le _, rfl, rfl, fun h => (by cases h), HO8, hb08, hE8⟩
                case round =>
                  obtain ⟨j, ee, hj, rfl, rfl, HEE, HO9, hb9, hE9⟩ := hrel
                  by_cases hjl : j < T.length - k
                  · have hkj : k + j < T.length := by omega
                    have hcj := own_at HO9.out (k + j) hkj
                    have hck9 := own_at HO9.out k hlt
                    rw [HYK.out] at hck9
                    have HBJ := HBOTH.out (k + j) hkj
                    have HCONV : Hid (belowT (T[k + j]'hkj) y = true → ee = false) := fun h => by
                      cases he : ee with
                      | false => rfl
                      | true =>
                        obtain ⟨m, hmj, hm, hbm⟩ := HEE.out he
                        rw [HBLK.out (k + m) (by omega) hm (k + j) (by omega) hkj h] at hbm; cases hbm
                    have HWIT : Hid (belowT (T[k + j]'hkj) y = false → ∃ (m : Nat) (_ : m < j + 1) (hm : k + m < T.length), belowT (T[k + m]'hm) y = false) := fun h => ⟨j, by omega, hkj, h⟩
                    have HOLD : Hid (ee = true → ∃ (m : Nat) (_ : m < j + 1) (hm : k + m < T.length), belowT (T[k + m]'hm) y = false) := fun h => by obtain ⟨m, h1, h2, h3⟩ := HEE.out h; exact ⟨m, by omega, h2, h3⟩
                    obtain ⟨x, hx⟩ : ∃ x, x = T[k + j]'hkj := ⟨_, rfl⟩
                    rw [← hx] at hcj HBJ HCONV HWIT
                    have hxs : (⟨x.toArray⟩ : ByteArray).size ≤ 60 := by rw [size_of]; exact HBJ.2
                    have HBB : Hid (bothB x y = true) := HBJ.1
                    clear hx HBJ HEE
                    cases hbl : belowT x y with
                    | true =>
                      obtain rfl := HCONV.out hbl
                      clear HCONV HWIT
                      go_wp2_with fail
                      refine (iIsBelow_any ⟨x.toArray⟩ ⟨y.toArray⟩ _ (by omega) (by omega) hE9).mono ?_
                      rw [of_list, of_list, hbl, HBB.out]
                      rintro e w10 ⟨rfl, hbn⟩
                      have hb10 : Below w.heap.size w w10 := hb9.trans (hbn.mono hb9.size)
                      have hE10 := hE9.below hbn
                      have HO10 : Hid (OwnS w10 w6.heap.size (.slice (some ⟨g4, 0, none⟩) T.length c4) T) := HO9.out.kept hbn
                      clear hbn
                      all_goals (go_wp2_with fail)
                      all_goals go_roundw
                      all_goals first
                        | (simp [intOf]; omega)
                        | exact ⟨j + 1, false, by omega, by go_num, rfl, fun h => (by cases h), HO10, hb10, hE10⟩
                    | false =>
                      have HW := HWIT.out hbl
                      have HWH : Hid (∃ (m : Nat) (_ : m < j + 1) (hm : k + m < T.length), belowT (T[k + m]'hm) y = false) := HW
                      clear HW
                      clear HCONV HWIT
                      go_wp2_with fail
                      refine (iIsBelow_any ⟨x.toArray⟩ ⟨y.toArray⟩ _ (by omega) (by omega) hE9).mono ?_
                      rw [of_list, of_list, hbl, HBB.out]
                      rintro e w10 ⟨rfl, hbn⟩
                      have hb10 : Below w.heap.size w w10 := hb9.trans (hbn.mono hb9.size)
                      have hE10 := hE9.below hbn
                      have HO10 : Hid (OwnS w10 w6.heap.size (.slice (some ⟨g4, 0, none⟩) T.length c4) T) := HO9.out.kept hbn
                      clear hbn
                      cases ee
                      all_goals (go_wp2_with fail)
                      all_goals go_roundw
                      all_goals first
                        | (simp [intOf]; omega)
                        | exact ⟨j + 1, true, by omega, by go_num, rfl, fun _ => HWH.out, HO10, hb10, hE10⟩
                  · go_wp2_with fail
                    go_roundw
                    case rel => exact ⟨k + 1, by omega, by go_num, HO9, hb9, hE9⟩
                    case measure => simp [intOf]; omega
            · go_wp2_with fail
              go_ret
              exact ⟨rfl, hbr⟩
        | true =>
          clear hq
          go_wp2_with fail
          refine (drawSortNames_any _ R _ HM_5.out hb2 hle2).mono ?_
          rintro e w6 ⟨u3, L3, ⟨rfl, hrow3, hsm3⟩, hbn⟩
          have hb06 : Below w.heap.size w w6 := hb05.trans (hbn.mono hb05.size)
          have hE6 : Env w6 := hE5.below hbn
          have HM_6 : Hid (ZRow .u8 w6 (.slice a2 R.length cap2) R) := (HM_5).out.kept hbn
          clear hbn hb05 hE5 HM_5
          have HL3_6 : Hid (Row w6 u3 L3) := hrow3
          obtain ⟨a3, c3, rfl, hc3, hm3, _⟩ := row_value HL3_6.out
          have HT3 : Hid (L3.length + tot L3 ≤ 1048576) := by have h1 := hsm3.tot; have h2 := hsm3.1; show _ ≤ _; omega
          obtain ⟨T, hT⟩ : ∃ T, T = sortT L3 := ⟨_, rfl⟩
          have HGOOD : Hid (T.Pairwise ltN ∧ ∀ x ∈ T, nameB x = true) := by rw [hT]; exact sort_good L3
          obtain ⟨b3, hb3⟩ : ∃ b3, b3 = sortB L3 := ⟨_, rfl⟩
          have HNV : Hid (sortT L3 = T ∧ sortB L3 = b3) := ⟨hT.symm, hb3.symm⟩
          clear hrow3 hsm3 hT hb3
          have x1 : (b3 != b3) = false := by simp
          go_wp2_with fail
          refine (iSortNames_any _ L3 _ HL3_6.out HT3 hE6).mono ?_
          rw [HNV.out.1, HNV.out.2]
          rintro e w7 ⟨v4, rfl, ho4, hbn⟩
          have hb07 : Below w.heap.size w w7 := hb06.trans (hbn.mono hb06.size)
          have hE7 : Env w7 := hE6.below hbn
          have HL3_7 : Hid (Row w7 (.slice a3 L3.length c3) L3) := (HL3_6).out.kept hbn
          clear hbn hb06 hE6 HL3_6
          have HA_7 : Hid (OwnS w7 w6.heap.size v4 T) := ho4
          clear ho4
          obtain ⟨a4, c4, rfl, hc4, hm4, _⟩ := row_value HA_7.out.row
          go_wp2_with fail
          refine (sSortNames_any _ L3 _ HL3_7.out HT3).mono ?_
          rw [HNV.out.1, HNV.out.2]
          rintro e w8 ⟨v5, rfl, ho5, hbn⟩
          have hb08 : Below w.heap.size w w8 := hb07.trans (hbn.mono hb07.size)
          have hE8 : Env w8 := hE7.below hbn
          have HL3_8 : Hid (Row w8 (.slice a3 L3.length c3) L3) := (HL3_7).out.kept hbn
          have HA_8 : Hid (OwnS w8 w6.heap.size (.slice a4 T.length c4) T) := (HA_7).out.kept hbn
          clear hbn hb07 hE7 HL3_7 HA_7
          have HB5_8 : Hid (Row w8 v5 T) := ho5
          clear ho5
          obtain ⟨a5, c5, rfl, hc5, hm5, _⟩ := row_value HB5_8.out
          go_wp2_with fail
          refine (sameTexts_any _ _ T _ HA_8.out.row HB5_8.out).mono ?_
          rintro e w9 ⟨rfl, hbn⟩
          have hb09 : Below w.heap.size w w9 := hb08.trans (hbn.mono hb08.size)
          have hE9 : Env w9 := hE8.below hbn
          have HA_9 : Hid (OwnS w9 w6.heap.size (.slice a4 T.length c4) T) := (HA_8).out.kept hbn
          have HB5_9 : Hid (Row w9 (.slice a5 T.length c5) T) := (HB5_8).out.kept hbn
          clear hbn hb08 hE8 HA_8 HB5_8
          go_wp2_with fail
          go_loopw [122] (fun i wr => ∃ k : Nat, k ≤ T.length ∧ i = .int .i64 (k : Int) ∧ Hid (OwnS wr w6.heap.size (.slice a4 T.length c4) T) ∧ Below w.heap.size w wr ∧ Env wr) (fun i _ => T.length - (intOf i).toNat)
          case atStart => exact ⟨0, Nat.zero_le _, rfl, HA_9, hb09, hE9⟩
          case round =>
            obtain ⟨k, hk, rfl, HO, hbr, hEr⟩ := hrel
            clear HA_9
            by_cases hlt : k < T.length
            · obtain ⟨g4, c4', hv4, hcc, hcm⟩ := own_cells HO.out (by omega)
              cases hv4
              have hnk := HGOOD.out.2 _ (List.getElem_mem hlt)
              have hlk : (T[k]'hlt).length ≤ 60 := name_sixty hnk
              have HBLK : Hid (∀ j, (hkj : k ≤ j) → (hj : j < T.length) → ∀ m, j < m → (hm : m < T.length) → belowT (T[m]'hm) (T[k]'hlt) = true → belowT (T[j]'hj) (T[k]'hlt) = true) := fun j hkj hj m hjm hm h => by
                have nj := HGOOD.out.2 _ (List.getElem_mem hj)
                have nm := HGOOD.out.2 _ (List.getElem_mem hm)
                unfold belowT at h ⊢
                rw [nm, hnk] at h
                rw [nj, hnk, block_of HGOOD.out.1 HGOOD.out.2 hkj hjm hm (by simpa using h)]; rfl
              have HBOTH : Hid (∀ j, (hj : j < T.length) → bothB (T[j]'hj) (T[k]'hlt) = true ∧ (T[j]'hj).length ≤ 60) := fun j hj => by
                have nj := HGOOD.out.2 _ (List.getElem_mem hj)
                exact ⟨by unfold bothB; rw [nj, hnk]; rfl, name_sixty nj⟩
              have hck := own_at HO.out k hlt
              have HPREV : Hid (∀ h0 : 0 < k, cmpT (T[k - 1]'(by omega)) (T[k]'hlt) = -1 ∧ cmpB (T[k - 1]'(by omega)) (T[k]'hlt) = true) := fun h0 => by
                have np := HGOOD.out.2 (T[k - 1]'(by omega)) (List.getElem_mem _)
                have h := cmp_T np hnk
                have hl : ltN (T[k - 1]'(by omega)) (T[k]'hlt) := List.pairwise_iff_getElem.1 HGOOD.out.1 (k - 1) k (by omega) hlt (by omega)
                exact ⟨h.1.trans hl, h.2⟩
              obtain ⟨y, hy⟩ : ∃ y, y = T[k]'hlt := ⟨_, rfl⟩
              rw [← hy] at hck hlk HBLK HBOTH HPREV
              have HYK : Hid (T[k]'hlt = y) := hy.symm
              clear hnk hy
              have hys : (⟨y.toArray⟩ : ByteArray).size ≤ 60 := by rw [size_of]; exact hlk
              by_cases hk0 : k = 0
              · subst hk0
                go_wp2_with fail
                have hlt0 := hlt
                go_loopw [23, 150] (fun e i w9 => ∃ (j : Nat) (ee : Bool), j ≤ T.length - 0 ∧ i = .int .i64 (j : Int) ∧ e = .bool ee ∧ Hid (ee = true → ∃ (m : Nat) (_ : m < j) (hm : 0 + m < T.length), belowT (T[0 + m]'hm) y = false) ∧ Hid (OwnS w9 w6.heap.size (.slice (some ⟨g4, 0, none⟩) T.length c4) T) ∧ Below w.heap.size w w9 ∧ Env w9) (fun _ i _ => T.length - 0 - (intOf i).toNat)
                case atStart => exact ⟨0, false, Nat.zero_le _, rfl, rfl, fun h => (by cases h), HO, hbr, hEr⟩
                case round =>
                  obtain ⟨j, ee, hj, rfl, rfl, HEE, HO9, hb9, hE9⟩ := hrel
                  by_cases hjl : j < T.length - 0
                  · have hkj : 0 + j < T.length := by omega
                    have hcj := own_at HO9.out (0 + j) hkj
                    have hck9 := own_at HO9.out 0 hlt
                    rw [HYK.out] at hck9
                    have HBJ := HBOTH.out (0 + j) hkj
                    have HCONV : Hid (belowT (T[0 + j]'hkj) y = true → ee = false) := fun h => by
                      cases he : ee with
                      | false => rfl
                      | true =>
                        obtain ⟨m, hmj, hm, hbm⟩ := HEE.out he
                        rw [HBLK.out (0 + m) (by omega) hm (0 + j) (by omega) hkj h] at hbm; cases hbm
                    have HWIT : Hid (belowT (T[0 + j]'hkj) y = false → ∃ (m : Nat) (_ : m < j + 1) (hm : 0 + m < T.length), belowT (T[0 + m]'hm) y = false) := fun h => ⟨j, by omega, hkj, h⟩
                    have HOLD : Hid (ee = true → ∃ (m : Nat) (_ : m < j + 1) (hm : 0 + m < T.length), belowT (T[0 + m]'hm) y = false) := fun h => by obtain ⟨m, h1, h2, h3⟩ := HEE.out h; exact ⟨m, by omega, h2, h3⟩
                    obtain ⟨x, hx⟩ : ∃ x, x = T[0 + j]'hkj := ⟨_, rfl⟩
                    rw [← hx] at hcj HBJ HCONV HWIT
                    have hxs : (⟨x.toArray⟩ : ByteArray).size ≤ 60 := by rw [size_of]; exact HBJ.2
                    have HBB : Hid (bothB x y = true) := HBJ.1
                    clear hx HBJ HEE
                    rw [Nat.zero_add] at hcj
                    cases hbl : belowT x y with
                    | true =>
                      obtain rfl := HCONV.out hbl
                      clear HCONV HWIT
                      go_wp2_with fail
                      refine (iIsBelow_any ⟨x.toArray⟩ ⟨y.toArray⟩ _ (by omega) (by omega) hE9).mono ?_
                      rw [of_list, of_list, hbl, HBB.out]
                      rintro e w10 ⟨rfl, hbn⟩
                      have hb10 : Below w.heap.size w w10 := hb9.trans (hbn.mono hb9.size)
                      have hE10 := hE9.below hbn
                      have HO10 : Hid (OwnS w10 w6.heap.size (.slice (some ⟨g4, 0, none⟩) T.length c4) T) := HO9.out.kept hbn
                      clear hbn
                      all_goals (go_wp2_with fail)
                      all_goals go_roundw
                      all_goals first
                        | (simp [intOf]; omega)
                        | exact ⟨j + 1, false, by omega, by go_num, rfl, fun h => (by cases h), HO10, hb10, hE10⟩
                    | false =>
                      have HW := HWIT.out hbl
                      have HWH : Hid (∃ (m : Nat) (_ : m < j + 1) (hm : 0 + m < T.length), belowT (T[0 + m]'hm) y = false) := HW
                      clear HW
                      clear HCONV HWIT
                      go_wp2_with fail
                      refine (iIsBelow_any ⟨x.toArray⟩ ⟨y.toArray⟩ _ (by omega) (by omega) hE9).mono ?_
                      rw [of_list, of_list, hbl, HBB.out]
                      rintro e w10 ⟨rfl, hbn⟩
                      have hb10 : Below w.heap.size w w10 := hb9.trans (hbn.mono hb9.size)
                      have hE10 := hE9.below hbn
                      have HO10 : Hid (OwnS w10 w6.heap.size (.slice (some ⟨g4, 0, none⟩) T.length c4) T) := HO9.out.kept hbn
                      clear hbn
                      cases ee
                      all_goals (go_wp2_with fail)
                      all_goals go_roundw
                      all_goals first
                        | (simp [intOf]; omega)
                        | exact ⟨j + 1, true, by omega, by go_num, rfl, fun _ => HWH.out, HO10, hb10, hE10⟩
                  · go_wp2_with fail
                    go_roundw
                    case rel => exact ⟨0 + 1, by omega, by go_num, HO9, hb9, hE9⟩
                    case measure => simp [intOf]; omega
              · obtain ⟨kk, hkk1⟩ : ∃ kk, k = kk + 1 := ⟨k - 1, by omega⟩
                have hkk : kk < T.length := by omega
                have hp : cmpT (T[kk]'hkk) y = -1 ∧ cmpB (T[kk]'hkk) y = true := by have h := HPREV.out (by omega); subst hkk1; exact h
                have hlp := (HBOTH.out kk hkk).2
                have HS : Hid (∀ W, Below wr.heap.size wr W → Below wr.heap.size wr W ∧ W.cell? ⟨g4, kk, none⟩ = some (.string ⟨(T[kk]'hkk).toArray⟩) ∧ W.cell? ⟨g4, k, none⟩ = some (.string ⟨y.toArray⟩)) := fun W hW => ⟨hW, own_at (HO.out.kept hW) kk hkk, by have h := own_at (HO.out.kept hW) k hlt; rw [HYK.out] at h; exact h⟩
                obtain ⟨z, hz⟩ : ∃ z, z = T[kk]'hkk := ⟨_, rfl⟩
                rw [← hz] at hp HS hlp
                have HCMP : Hid (∀ W, Below wr.heap.size wr W → Calls Tryd.prog 24 #[.string ⟨z.toArray⟩, .string ⟨y.toArray⟩] W fun e w'' => e = .returned (.tuple #[.int .i64 (-1), .bool true]) ∧ Below wr.heap.size wr w'') := fun W hW => (iCompareNames_any ⟨z.toArray⟩ ⟨y.toArray⟩ W (hEr.below hW)).mono fun e w'' h => by
                  rw [of_list, of_list, hp.1, hp.2] at h
                  exact ⟨h.1, hW.trans (h.2.mono hW.size)⟩
                have hto : ((k : Int) - 1).toNat = kk := by omega
                have hi1 : 0 ≤ (k : Int) - 1 ∧ (k : Int) - 1 < (T.length : Int) := by omega
                have hi2 : 0 ≤ (k : Int) ∧ (k : Int) < (T.length : Int) := by omega
                have hi3 : (k : Int) < (T.length : Int) := by omega
                have hi4 : (k : Int) - 1 < (T.length : Int) := by omega
                have hi5 : 1 ≤ (k : Int) := by omega
                have hw1 : IntKind.i64.wrap ((k : Int) - 1) = (k : Int) - 1 := by rw [show (k : Int) - 1 = (kk : Int) by omega]; exact i64_small kk (by omega)
                have h0k : (0 : Int) ≤ (k : Int) := by omega
                have h0k1 : (0 : Int) ≤ (k : Int) - 1 := by omega
                have htk : ((k : Int)).toNat = k := by omega
                have hbz : Below wr.heap.size wr wr := Below.refl _ _
                have hbd : Below wr.heap.size wr wr.drew := (Below.refl _ _).drew
                have HOK : Hid (∀ W, Below wr.heap.size wr W → OwnS W w6.heap.size (.slice (some ⟨g4, 0, none⟩) T.length c4) T) := fun W hW => HO.out.kept hW
                have hk1 : 1 ≤ k := by omega
                clear hz hp hck hkk1 hk0
                go_wp2_with fail
                refine wp_region_quiet (C := fun W => Below wr.heap.size wr W) (by kernel_rfl) (by kernel_rfl) hbd ?_
                refine wpQuiet_step (fun K hK => ?_)
                rw [if_pos (by rfl)]
                refine ⟨.slice (some ⟨g4, 0, none⟩) T.length c4, fun W hW => quiet_ok ?_, hK _ ?_⟩
                · have f := HS.out W hW
                  obtain ⟨_, c0, c1⟩ := f
                  go_simp
                  all_goals (try omega)
                clear hK K
                simp only [Act.put, List.setIfInBounds_toArray, List.set_cons_succ, List.set_cons_zero]
                refine wpQuiet_step (fun K hK => ?_)
                rw [if_pos (by rfl)]
                refine ⟨.int .i64 (k : Int), fun W hW => quiet_ok ?_, hK _ ?_⟩
                · have f := HS.out W hW
                  obtain ⟨_, c0, c1⟩ := f
                  go_simp
                  all_goals (try omega)
                clear hK K
                simp only [Act.put, List.setIfInBounds_toArray, List.set_cons_succ, List.set_cons_zero]
                refine wpQuiet_step (fun K hK => ?_)
                rw [if_pos (by rfl)]
                refine ⟨.int .i64 ((k : Int) - 1), fun W hW => quiet_ok ?_, hK _ ?_⟩
                · have f := HS.out W hW
                  obtain ⟨_, c0, c1⟩ := f
                  go_simp
                  all_goals (try omega)
                clear hK K
                simp only [Act.put, List.setIfInBounds_toArray, List.set_cons_succ, List.set_cons_zero]
                refine wpQuiet_step (fun K hK => ?_)
                rw [if_pos (by rfl)]
                refine ⟨.pointer (some ⟨g4, kk, none⟩), fun W hW => quiet_ok ?_, hK _ ?_⟩
                · have f := HS.out W hW
                  obtain ⟨_, c0, c1⟩ := f
                  go_simp
                  all_goals (try omega)
                clear hK K
                simp only [Act.put, List.setIfInBounds_toArray, List.set_cons_succ, List.set_cons_zero]
                refine wpQuiet_step (fun K hK => ?_)
                rw [if_pos (by rfl)]
                refine ⟨.string ⟨z.toArray⟩, fun W hW => quiet_ok ?_, hK _ ?_⟩
                · have f := HS.out W hW
                  obtain ⟨_, c0, c1⟩ := f
                  go_simp
                  all_goals (try omega)
                clear hK K
                simp only [Act.put, List.setIfInBounds_toArray, List.set_cons_succ, List.set_cons_zero]
                refine wpQuiet_step (fun K hK => ?_)
                rw [if_pos (by rfl)]
                refine ⟨.slice (some ⟨g4, 0, none⟩) T.length c4, fun W hW => quiet_ok ?_, hK _ ?_⟩
                · have f := HS.out W hW
                  obtain ⟨_, c0, c1⟩ := f
                  go_simp
                  all_goals (try omega)
                clear hK K
                simp only [Act.put, List.setIfInBounds_toArray, List.set_cons_succ, List.set_cons_zero]
                refine wpQuiet_step (fun K hK => ?_)
                rw [if_pos (by rfl)]
                refine ⟨.int .i64 (k : Int), fun W hW => quiet_ok ?_, hK _ ?_⟩
                · have f := HS.out W hW
                  obtain ⟨_, c0, c1⟩ := f
                  go_simp
                  all_goals (try omega)
                clear hK K
                simp only [Act.put, List.setIfInBounds_toArray, List.set_cons_succ, List.set_cons_zero]
                refine wpQuiet_step (fun K hK => ?_)
                rw [if_pos (by rfl)]
                refine ⟨.pointer (some ⟨g4, k, none⟩), fun W hW => quiet_ok ?_, hK _ ?_⟩
                · have f := HS.out W hW
                  obtain ⟨_, c0, c1⟩ := f
                  go_simp
                  all_goals (try omega)
                clear hK K
                simp only [Act.put, List.setIfInBounds_toArray, List.set_cons_succ, List.set_cons_zero]
                refine wpQuiet_step (fun K hK => ?_)
                rw [if_pos (by rfl)]
                refine ⟨.string ⟨y.toArray⟩, fun W hW => quiet_ok ?_, hK _ ?_⟩
                · have f := HS.out W hW
                  obtain ⟨_, c0, c1⟩ := f
                  go_simp
                  all_goals (try omega)
                clear hK K
                simp only [Act.put, List.setIfInBounds_toArray, List.set_cons_succ, List.set_cons_zero]
                refine wpQuiet_step (fun K hK => ?_)
                rw [if_pos (by rfl)]
                refine ⟨.tuple #[.int .i64 (-1), .bool true], fun W hW => quiet_call (f := 24) (args := #[.string ⟨z.toArray⟩, .string ⟨y.toArray⟩]) ?_ ?_, hK _ ?_⟩
                · go_simp
                · exact HCMP.out W hW
                clear hK K
                simp only [Act.put, List.setIfInBounds_toArray, List.set_cons_succ, List.set_cons_zero]
                refine wpQuiet_step (fun K hK => ?_)
                rw [if_pos (by rfl)]
                refine ⟨.tuple #[.int .i64 (-1), .bool true], fun W hW => quiet_ok ?_, hK _ ?_⟩
                · have f := HS.out W hW
                  obtain ⟨_, c0, c1⟩ := f
                  go_simp
                  all_goals (try omega)
                clear hK K
                simp only [Act.put, List.setIfInBounds_toArray, List.set_cons_succ, List.set_cons_zero]
                refine wpQuiet_step (fun K hK => ?_)
                rw [if_pos (by rfl)]
                refine ⟨.int .i64 (-1), fun W hW => quiet_ok ?_, hK _ ?_⟩
                · have f := HS.out W hW
                  obtain ⟨_, c0, c1⟩ := f
                  go_simp
                  all_goals (try omega)
                clear hK K
                simp only [Act.put, List.setIfInBounds_toArray, List.set_cons_succ, List.set_cons_zero]
                refine wpQuiet_step (fun K hK => ?_)
                rw [if_pos (by rfl)]
                refine ⟨.bool true, fun W hW => quiet_ok ?_, hK _ ?_⟩
                · have f := HS.out W hW
                  obtain ⟨_, c0, c1⟩ := f
                  go_simp
                  all_goals (try omega)
                clear hK K
                simp only [Act.put, List.setIfInBounds_toArray, List.set_cons_succ, List.set_cons_zero]
                refine wpQuiet_step (fun K hK => ?_)
                rw [if_pos (by rfl)]
                refine ⟨.int .i64 (-1), fun W hW => quiet_ok ?_, hK _ ?_⟩
                · have f := HS.out W hW
                  obtain ⟨_, c0, c1⟩ := f
                  go_simp
                  all_goals (try omega)
                clear hK K
                simp only [Act.put, List.setIfInBounds_toArray, List.set_cons_succ, List.set_cons_zero]
                refine wpQuiet_step (fun K hK => ?_)
                rw [if_pos (by rfl)]
                refine ⟨.bool true, fun W hW => quiet_ok ?_, hK _ ?_⟩
                · have f := HS.out W hW
                  obtain ⟨_, c0, c1⟩ := f
                  go_simp
                  all_goals (try omega)
                clear hK K
                simp only [Act.put, List.setIfInBounds_toArray, List.set_cons_succ, List.set_cons_zero]
                refine wpQuiet_nil ?_
                intro w8 hb8
                have hb08 : Below w.heap.size w w8 := hbr.trans (hb8.mono hbr.size)
                have hE8 := hEr.below hb8
                have HO8 : Hid (OwnS w8 w6.heap.size (.slice (some ⟨g4, 0, none⟩) T.length c4) T) := HOK.out _ hb8
                clear hb8 hbd hbz HCMP HS HOK
                go_wp2_with fail
                go_loopw [23, 150] (fun e i w9 => ∃ (j : Nat) (ee : Bool), j ≤ T.length - k ∧ i = .int .i64 (j : Int) ∧ e = .bool ee ∧ Hid (ee = true → ∃ (m : Nat) (_ : m < j) (hm : k + m < T.length), belowT (T[k + m]'hm) y = false) ∧ Hid (OwnS w9 w6.heap.size (.slice (some ⟨g4, 0, none⟩) T.length c4) T) ∧ Below w.heap.size w w9 ∧ Env w9) (fun _ i _ => T.length - k - (intOf i).toNat)
                case atStart => exact ⟨0, false, Nat.zero_le _, rfl, rfl, fun h => (by cases h), HO8, hb08, hE8⟩
                case round =>
                  obtain ⟨j, ee, hj, rfl, rfl, HEE, HO9, hb9, hE9⟩ := hrel
                  by_cases hjl : j < T.length - k
                  · have hkj : k + j < T.length := by omega
                    have hcj := own_at HO9.out (k + j) hkj
                    have hck9 := own_at HO9.out k hlt
                    rw [HYK.out] at hck9
                    have HBJ := HBOTH.out (k + j) hkj
                    have HCONV : Hid (belowT (T[k + j]'hkj) y = true → ee = false) := fun h => by
                      cases he : ee with
                      | false => rfl
                      | true =>
                        obtain ⟨m, hmj, hm, hbm⟩ := HEE.out he
                        rw [HBLK.out (k + m) (by omega) hm (k + j) (by omega) hkj h] at hbm; cases hbm
                    have HWIT : Hid (belowT (T[k + j]'hkj) y = false → ∃ (m : Nat) (_ : m < j + 1) (hm : k + m < T.length), belowT (T[k + m]'hm) y = false) := fun h => ⟨j, by omega, hkj, h⟩
                    have HOLD : Hid (ee = true → ∃ (m : Nat) (_ : m < j + 1) (hm : k + m < T.length), belowT (T[k + m]'hm) y = false) := fun h => by obtain ⟨m, h1, h2, h3⟩ := HEE.out h; exact ⟨m, by omega, h2, h3⟩
                    obtain ⟨x, hx⟩ : ∃ x, x = T[k + j]'hkj := ⟨_, rfl⟩
                    rw [← hx] at hcj HBJ HCONV HWIT
                    have hxs : (⟨x.toArray⟩ : ByteArray).size ≤ 60 := by rw [size_of]; exact HBJ.2
                    have HBB : Hid (bothB x y = true) := HBJ.1
                    clear hx HBJ HEE
                    cases hbl : belowT x y with
                    | true =>
                      obtain rfl := HCONV.out hbl
                      clear HCONV HWIT
                      go_wp2_with fail
                      refine (iIsBelow_any ⟨x.toArray⟩ ⟨y.toArray⟩ _ (by omega) (by omega) hE9).mono ?_
                      rw [of_list, of_list, hbl, HBB.out]
                      rintro e w10 ⟨rfl, hbn⟩
                      have hb10 : Below w.heap.size w w10 := hb9.trans (hbn.mono hb9.size)
                      have hE10 := hE9.below hbn
                      have HO10 : Hid (OwnS w10 w6.heap.size (.slice (some ⟨g4, 0, none⟩) T.length c4) T) := HO9.out.kept hbn
                      clear hbn
                      all_goals (go_wp2_with fail)
                      all_goals go_roundw
                      all_goals first
                        | (simp [intOf]; omega)
                        | exact ⟨j + 1, false, by omega, by go_num, rfl, fun h => (by cases h), HO10, hb10, hE10⟩
                    | false =>
                      have HW := HWIT.out hbl
                      have HWH : Hid (∃ (m : Nat) (_ : m < j + 1) (hm : k + m < T.length), belowT (T[k + m]'hm) y = false) := HW
                      clear HW
                      clear HCONV HWIT
                      go_wp2_with fail
                      refine (iIsBelow_any ⟨x.toArray⟩ ⟨y.toArray⟩ _ (by omega) (by omega) hE9).mono ?_
                      rw [of_list, of_list, hbl, HBB.out]
                      rintro e w10 ⟨rfl, hbn⟩
                      have hb10 : Below w.heap.size w w10 := hb9.trans (hbn.mono hb9.size)
                      have hE10 := hE9.below hbn
                      have HO10 : Hid (OwnS w10 w6.heap.size (.slice (some ⟨g4, 0, none⟩) T.length c4) T) := HO9.out.kept hbn
                      clear hbn
                      cases ee
                      all_goals (go_wp2_with fail)
                      all_goals go_roundw
                      all_goals first
                        | (simp [intOf]; omega)
                        | exact ⟨j + 1, true, by omega, by go_num, rfl, fun _ => HWH.out, HO10, hb10, hE10⟩
                  · go_wp2_with fail
                    go_roundw
                    case rel => exact ⟨k + 1, by omega, by go_num, HO9, hb9, hE9⟩
                    case measure => simp [intOf]; omega
            · go_wp2_with fail
              go_ret
              exact ⟨rfl, hbr⟩
      · have HC : Hid (cmpT a b = 1 ∧ cmpB a b = true) := ⟨hcT.1.trans hv, hcT.2⟩
        have HC2 : Hid (cmpT b a = -1 ∧ cmpB b a = true) := ⟨by rw [hcT2.1, hsw, hv] <;> rfl, hcT2.2⟩
        have x5 : (a == b) = false := by rw [← hif, hv]; rfl
        clear hcT hcT2 hsw hif hbl hv hok
        refine (iCompareNames_any _ _ _ hE1).mono ?_
        rw [of_list, of_list, HC.out.1, HC.out.2]
        rintro e w2 ⟨rfl, hbn⟩
        have hb02 : Below w.heap.size w w2 := hb01.trans (hbn.mono hb01.size)
        have hE2 : Env w2 := hE1.below hbn
        have HM_2 : Hid (ZRow .u8 w2 (.slice a2 R.length cap2) R) := (HM_1).out.kept hbn
        clear hbn hb01 hE1 HM_1
        go_wp2_with fail
        refine (sCompareNames_any _ _ _ (by omega) (by omega)).mono ?_
        rw [of_list, of_list, HC.out.1, HC.out.2]
        rintro e w3 ⟨rfl, hbn⟩
        have hb03 : Below w.heap.size w w3 := hb02.trans (hbn.mono hb02.size)
        have hE3 : Env w3 := hE2.below hbn
        have HM_3 : Hid (ZRow .u8 w3 (.slice a2 R.length cap2) R) := (HM_2).out.kept hbn
        clear hbn hb02 hE2 HM_2
        go_wp2_with fail
        refine (iCompareNames_any _ _ _ hE3).mono ?_
        rw [of_list, of_list, HC2.out.1, HC2.out.2]
        rintro e w4 ⟨rfl, hbn⟩
        have hb04 : Below w.heap.size w w4 := hb03.trans (hbn.mono hb03.size)
        have hE4 : Env w4 := hE3.below hbn
        have HM_4 : Hid (ZRow .u8 w4 (.slice a2 R.length cap2) R) := (HM_3).out.kept hbn
        clear hbn hb03 hE3 HM_3
        go_wp2_with fail
        refine (iIsBelow_any _ _ _ (by omega) (by omega) hE4).mono ?_
        rw [of_list, of_list, HBT.out.1, HBT.out.2]
        rintro e w5 ⟨rfl, hbn⟩
        have hb05 : Below w.heap.size w w5 := hb04.trans (hbn.mono hb04.size)
        have hE5 : Env w5 := hE4.below hbn
        have HM_5 : Hid (ZRow .u8 w5 (.slice a2 R.length cap2) R) := (HM_4).out.kept hbn
        clear hbn hb04 hE4 HM_4
        cases hq : belowB a b with
        | false =>
          clear hq
          go_wp2_with fail
          refine (drawSortNames_any _ R _ HM_5.out hb2 hle2).mono ?_
          rintro e w6 ⟨u3, L3, ⟨rfl, hrow3, hsm3⟩, hbn⟩
          have hb06 : Below w.heap.size w w6 := hb05.trans (hbn.mono hb05.size)
          have hE6 : Env w6 := hE5.below hbn
          have HM_6 : Hid (ZRow .u8 w6 (.slice a2 R.length cap2) R) := (HM_5).out.kept hbn
          clear hbn hb05 hE5 HM_5
          have HL3_6 : Hid (Row w6 u3 L3) := hrow3
          obtain ⟨a3, c3, rfl, hc3, hm3, _⟩ := row_value HL3_6.out
          have HT3 : Hid (L3.length + tot L3 ≤ 1048576) := by have h1 := hsm3.tot; have h2 := hsm3.1; show _ ≤ _; omega
          obtain ⟨T, hT⟩ : ∃ T, T = sortT L3 := ⟨_, rfl⟩
          have HGOOD : Hid (T.Pairwise ltN ∧ ∀ x ∈ T, nameB x = true) := by rw [hT]; exact sort_good L3
          obtain ⟨b3, hb3⟩ : ∃ b3, b3 = sortB L3 := ⟨_, rfl⟩
          have HNV : Hid (sortT L3 = T ∧ sortB L3 = b3) := ⟨hT.symm, hb3.symm⟩
          clear hrow3 hsm3 hT hb3
          have x1 : (b3 != b3) = false := by simp
          go_wp2_with fail
          refine (iSortNames_any _ L3 _ HL3_6.out HT3 hE6).mono ?_
          rw [HNV.out.1, HNV.out.2]
          rintro e w7 ⟨v4, rfl, ho4, hbn⟩
          have hb07 : Below w.heap.size w w7 := hb06.trans (hbn.mono hb06.size)
          have hE7 : Env w7 := hE6.below hbn
          have HL3_7 : Hid (Row w7 (.slice a3 L3.length c3) L3) := (HL3_6).out.kept hbn
          clear hbn hb06 hE6 HL3_6
          have HA_7 : Hid (OwnS w7 w6.heap.size v4 T) := ho4
          clear ho4
          obtain ⟨a4, c4, rfl, hc4, hm4, _⟩ := row_value HA_7.out.row
          go_wp2_with fail
          refine (sSortNames_any _ L3 _ HL3_7.out HT3).mono ?_
          rw [HNV.out.1, HNV.out.2]
          rintro e w8 ⟨v5, rfl, ho5, hbn⟩
          have hb08 : Below w.heap.size w w8 := hb07.trans (hbn.mono hb07.size)
          have hE8 : Env w8 := hE7.below hbn
          have HL3_8 : Hid (Row w8 (.slice a3 L3.length c3) L3) := (HL3_7).out.kept hbn
          have HA_8 : Hid (OwnS w8 w6.heap.size (.slice a4 T.length c4) T) := (HA_7).out.kept hbn
          clear hbn hb07 hE7 HL3_7 HA_7
          have HB5_8 : Hid (Row w8 v5 T) := ho5
          clear ho5
          obtain ⟨a5, c5, rfl, hc5, hm5, _⟩ := row_value HB5_8.out
          go_wp2_with fail
          refine (sameTexts_any _ _ T _ HA_8.out.row HB5_8.out).mono ?_
          rintro e w9 ⟨rfl, hbn⟩
          have hb09 : Below w.heap.size w w9 := hb08.trans (hbn.mono hb08.size)
          have hE9 : Env w9 := hE8.below hbn
          have HA_9 : Hid (OwnS w9 w6.heap.size (.slice a4 T.length c4) T) := (HA_8).out.kept hbn
          have HB5_9 : Hid (Row w9 (.slice a5 T.length c5) T) := (HB5_8).out.kept hbn
          clear hbn hb08 hE8 HA_8 HB5_8
          go_wp2_with fail
          go_loopw [122] (fun i wr => ∃ k : Nat, k ≤ T.length ∧ i = .int .i64 (k : Int) ∧ Hid (OwnS wr w6.heap.size (.slice a4 T.length c4) T) ∧ Below w.heap.size w wr ∧ Env wr) (fun i _ => T.length - (intOf i).toNat)
          case atStart => exact ⟨0, Nat.zero_le _, rfl, HA_9, hb09, hE9⟩
          case round =>
            obtain ⟨k, hk, rfl, HO, hbr, hEr⟩ := hrel
            clear HA_9
            by_cases hlt : k < T.length
            · obtain ⟨g4, c4', hv4, hcc, hcm⟩ := own_cells HO.out (by omega)
              cases hv4
              have hnk := HGOOD.out.2 _ (List.getElem_mem hlt)
              have hlk : (T[k]'hlt).length ≤ 60 := name_sixty hnk
              have HBLK : Hid (∀ j, (hkj : k ≤ j) → (hj : j < T.length) → ∀ m, j < m → (hm : m < T.length) → belowT (T[m]'hm) (T[k]'hlt) = true → belowT (T[j]'hj) (T[k]'hlt) = true) := fun j hkj hj m hjm hm h => by
                have nj := HGOOD.out.2 _ (List.getElem_mem hj)
                have nm := HGOOD.out.2 _ (List.getElem_mem hm)
                unfold belowT at h ⊢
                rw [nm, hnk] at h
                rw [nj, hnk, block_of HGOOD.out.1 HGOOD.out.2 hkj hjm hm (by simpa using h)]; rfl
              have HBOTH : Hid (∀ j, (hj : j < T.length) → bothB (T[j]'hj) (T[k]'hlt) = true ∧ (T[j]'hj).length ≤ 60) := fun j hj => by
                have nj := HGOOD.out.2 _ (List.getElem_mem hj)
                exact ⟨by unfold bothB; rw [nj, hnk]; rfl, name_sixty nj⟩
              have hck := own_at HO.out k hlt
              have HPREV : Hid (∀ h0 : 0 < k, cmpT (T[k - 1]'(by omega)) (T[k]'hlt) = -1 ∧ cmpB (T[k - 1]'(by omega)) (T[k]'hlt) = true) := fun h0 => by
                have np := HGOOD.out.2 (T[k - 1]'(by omega)) (List.getElem_mem _)
                have h := cmp_T np hnk
                have hl : ltN (T[k - 1]'(by omega)) (T[k]'hlt) := List.pairwise_iff_getElem.1 HGOOD.out.1 (k - 1) k (by omega) hlt (by omega)
                exact ⟨h.1.trans hl, h.2⟩
              obtain ⟨y, hy⟩ : ∃ y, y = T[k]'hlt := ⟨_, rfl⟩
              rw [← hy] at hck hlk HBLK HBOTH HPREV
              have HYK : Hid (T[k]'hlt = y) := hy.symm
              clear hnk hy
              have hys : (⟨y.toArray⟩ : ByteArray).size ≤ 60 := by rw [size_of]; exact hlk
              by_cases hk0 : k = 0
              · subst hk0
                go_wp2_with fail
                have hlt0 := hlt
                go_loopw [23, 150] (fun e i w9 => ∃ (j : Nat) (ee : Bool), j ≤ T.length - 0 ∧ i = .int .i64 (j : Int) ∧ e = .bool ee ∧ Hid (ee = true → ∃ (m : Nat) (_ : m < j) (hm : 0 + m < T.length), belowT (T[0 + m]'hm) y = false) ∧ Hid (OwnS w9 w6.heap.size (.slice (some ⟨g4, 0, none⟩) T.length c4) T) ∧ Below w.heap.size w w9 ∧ Env w9) (fun _ i _ => T.length - 0 - (intOf i).toNat)
                case atStart => exact ⟨0, false, Nat.zero_le _, rfl, rfl, fun h => (by cases h), HO, hbr, hEr⟩
                case round =>
                  obtain ⟨j, ee, hj, rfl, rfl, HEE, HO9, hb9, hE9⟩ := hrel
                  by_cases hjl : j < T.length - 0
                  · have hkj : 0 + j < T.length := by omega
                    have hcj := own_at HO9.out (0 + j) hkj
                    have hck9 := own_at HO9.out 0 hlt
                    rw [HYK.out] at hck9
                    have HBJ := HBOTH.out (0 + j) hkj
                    have HCONV : Hid (belowT (T[0 + j]'hkj) y = true → ee = false) := fun h => by
                      cases he : ee with
                      | false => rfl
                      | true =>
                        obtain ⟨m, hmj, hm, hbm⟩ := HEE.out he
                        rw [HBLK.out (0 + m) (by omega) hm (0 + j) (by omega) hkj h] at hbm; cases hbm
                    have HWIT : Hid (belowT (T[0 + j]'hkj) y = false → ∃ (m : Nat) (_ : m < j + 1) (hm : 0 + m < T.length), belowT (T[0 + m]'hm) y = false) := fun h => ⟨j, by omega, hkj, h⟩
                    have HOLD : Hid (ee = true → ∃ (m : Nat) (_ : m < j + 1) (hm : 0 + m < T.length), belowT (T[0 + m]'hm) y = false) := fun h => by obtain ⟨m, h1, h2, h3⟩ := HEE.out h; exact ⟨m, by omega, h2, h3⟩
                    obtain ⟨x, hx⟩ : ∃ x, x = T[0 + j]'hkj := ⟨_, rfl⟩
                    rw [← hx] at hcj HBJ HCONV HWIT
                    have hxs : (⟨x.toArray⟩ : ByteArray).size ≤ 60 := by rw [size_of]; exact HBJ.2
                    have HBB : Hid (bothB x y = true) := HBJ.1
                    clear hx HBJ HEE
                    rw [Nat.zero_add] at hcj
                    cases hbl : belowT x y with
                    | true =>
                      obtain rfl := HCONV.out hbl
                      clear HCONV HWIT
                      go_wp2_with fail
                      refine (iIsBelow_any ⟨x.toArray⟩ ⟨y.toArray⟩ _ (by omega) (by omega) hE9).mono ?_
                      rw [of_list, of_list, hbl, HBB.out]
                      rintro e w10 ⟨rfl, hbn⟩
                      have hb10 : Below w.heap.size w w10 := hb9.trans (hbn.mono hb9.size)
                      have hE10 := hE9.below hbn
                      have HO10 : Hid (OwnS w10 w6.heap.size (.slice (some ⟨g4, 0, none⟩) T.length c4) T) := HO9.out.kept hbn
                      clear hbn
                      all_goals (go_wp2_with fail)
                      all_goals go_roundw
                      all_goals first
                        | (simp [intOf]; omega)
                        | exact ⟨j + 1, false, by omega, by go_num, rfl, fun h => (by cases h), HO10, hb10, hE10⟩
                    | false =>
                      have HW := HWIT.out hbl
                      have HWH : Hid (∃ (m : Nat) (_ : m < j + 1) (hm : 0 + m < T.length), belowT (T[0 + m]'hm) y = false) := HW
                      clear HW
                      clear HCONV HWIT
                      go_wp2_with fail
                      refine (iIsBelow_any ⟨x.toArray⟩ ⟨y.toArray⟩ _ (by omega) (by omega) hE9).mono ?_
                      rw [of_list, of_list, hbl, HBB.out]
                      rintro e w10 ⟨rfl, hbn⟩
                      have hb10 : Below w.heap.size w w10 := hb9.trans (hbn.mono hb9.size)
                      have hE10 := hE9.below hbn
                      have HO10 : Hid (OwnS w10 w6.heap.size (.slice (some ⟨g4, 0, none⟩) T.length c4) T) := HO9.out.kept hbn
                      clear hbn
                      cases ee
                      all_goals (go_wp2_with fail)
                      all_goals go_roundw
                      all_goals first
                        | (simp [intOf]; omega)
                        | exact ⟨j + 1, true, by omega, by go_num, rfl, fun _ => HWH.out, HO10, hb10, hE10⟩
                  · go_wp2_with fail
                    go_roundw
                    case rel => exact ⟨0 + 1, by omega, by go_num, HO9, hb9, hE9⟩
                    case measure => simp [intOf]; omega
              · obtain ⟨kk, hkk1⟩ : ∃ kk, k = kk + 1 := ⟨k - 1, by omega⟩
                have hkk : kk < T.length := by omega
                have hp : cmpT (T[kk]'hkk) y = -1 ∧ cmpB (T[kk]'hkk) y = true := by have h := HPREV.out (by omega); subst hkk1; exact h
                have hlp := (HBOTH.out kk hkk).2
                have HS : Hid (∀ W, Below wr.heap.size wr W → Below wr.heap.size wr W ∧ W.cell? ⟨g4, kk, none⟩ = some (.string ⟨(T[kk]'hkk).toArray⟩) ∧ W.cell? ⟨g4, k, none⟩ = some (.string ⟨y.toArray⟩)) := fun W hW => ⟨hW, own_at (HO.out.kept hW) kk hkk, by have h := own_at (HO.out.kept hW) k hlt; rw [HYK.out] at h; exact h⟩
                obtain ⟨z, hz⟩ : ∃ z, z = T[kk]'hkk := ⟨_, rfl⟩
                rw [← hz] at hp HS hlp
                have HCMP : Hid (∀ W, Below wr.heap.size wr W → Calls Tryd.prog 24 #[.string ⟨z.toArray⟩, .string ⟨y.toArray⟩] W fun e w'' => e = .returned (.tuple #[.int .i64 (-1), .bool true]) ∧ Below wr.heap.size wr w'') := fun W hW => (iCompareNames_any ⟨z.toArray⟩ ⟨y.toArray⟩ W (hEr.below hW)).mono fun e w'' h => by
                  rw [of_list, of_list, hp.1, hp.2] at h
                  exact ⟨h.1, hW.trans (h.2.mono hW.size)⟩
                have hto : ((k : Int) - 1).toNat = kk := by omega
                have hi1 : 0 ≤ (k : Int) - 1 ∧ (k : Int) - 1 < (T.length : Int) := by omega
                have hi2 : 0 ≤ (k : Int) ∧ (k : Int) < (T.length : Int) := by omega
                have hi3 : (k : Int) < (T.length : Int) := by omega
                have hi4 : (k : Int) - 1 < (T.length : Int) := by omega
                have hi5 : 1 ≤ (k : Int) := by omega
                have hw1 : IntKind.i64.wrap ((k : Int) - 1) = (k : Int) - 1 := by rw [show (k : Int) - 1 = (kk : Int) by omega]; exact i64_small kk (by omega)
                have h0k : (0 : Int) ≤ (k : Int) := by omega
                have h0k1 : (0 : Int) ≤ (k : Int) - 1 := by omega
                have htk : ((k : Int)).toNat = k := by omega
                have hbz : Below wr.heap.size wr wr := Below.refl _ _
                have hbd : Below wr.heap.size wr wr.drew := (Below.refl _ _).drew
                have HOK : Hid (∀ W, Below wr.heap.size wr W → OwnS W w6.heap.size (.slice (some ⟨g4, 0, none⟩) T.length c4) T) := fun W hW => HO.out.kept hW
                have hk1 : 1 ≤ k := by omega
                clear hz hp hck hkk1 hk0
                go_wp2_with fail
                refine wp_region_quiet (C := fun W => Below wr.heap.size wr W) (by kernel_rfl) (by kernel_rfl) hbd ?_
                refine wpQuiet_step (fun K hK => ?_)
                rw [if_pos (by rfl)]
                refine ⟨.slice (some ⟨g4, 0, none⟩) T.length c4, fun W hW => quiet_ok ?_, hK _ ?_⟩
                · have f := HS.out W hW
                  obtain ⟨_, c0, c1⟩ := f
                  go_simp
                  all_goals (try omega)
                clear hK K
                simp only [Act.put, List.setIfInBounds_toArray, List.set_cons_succ, List.set_cons_zero]
                refine wpQuiet_step (fun K hK => ?_)
                rw [if_pos (by rfl)]
                refine ⟨.int .i64 (k : Int), fun W hW => quiet_ok ?_, hK _ ?_⟩
                · have f := HS.out W hW
                  obtain ⟨_, c0, c1⟩ := f
                  go_simp
                  all_goals (try omega)
                clear hK K
                simp only [Act.put, List.setIfInBounds_toArray, List.set_cons_succ, List.set_cons_zero]
                refine wpQuiet_step (fun K hK => ?_)
                rw [if_pos (by rfl)]
                refine ⟨.int .i64 ((k : Int) - 1), fun W hW => quiet_ok ?_, hK _ ?_⟩
                · have f := HS.out W hW
                  obtain ⟨_, c0, c1⟩ := f
                  go_simp
                  all_goals (try omega)
                clear hK K
                simp only [Act.put, List.setIfInBounds_toArray, List.set_cons_succ, List.set_cons_zero]
                refine wpQuiet_step (fun K hK => ?_)
                rw [if_pos (by rfl)]
                refine ⟨.pointer (some ⟨g4, kk, none⟩), fun W hW => quiet_ok ?_, hK _ ?_⟩
                · have f := HS.out W hW
                  obtain ⟨_, c0, c1⟩ := f
                  go_simp
                  all_goals (try omega)
                clear hK K
                simp only [Act.put, List.setIfInBounds_toArray, List.set_cons_succ, List.set_cons_zero]
                refine wpQuiet_step (fun K hK => ?_)
                rw [if_pos (by rfl)]
                refine ⟨.string ⟨z.toArray⟩, fun W hW => quiet_ok ?_, hK _ ?_⟩
                · have f := HS.out W hW
                  obtain ⟨_, c0, c1⟩ := f
                  go_simp
                  all_goals (try omega)
                clear hK K
                simp only [Act.put, List.setIfInBounds_toArray, List.set_cons_succ, List.set_cons_zero]
                refine wpQuiet_step (fun K hK => ?_)
                rw [if_pos (by rfl)]
                refine ⟨.slice (some ⟨g4, 0, none⟩) T.length c4, fun W hW => quiet_ok ?_, hK _ ?_⟩
                · have f := HS.out W hW
                  obtain ⟨_, c0, c1⟩ := f
                  go_simp
                  all_goals (try omega)
                clear hK K
                simp only [Act.put, List.setIfInBounds_toArray, List.set_cons_succ, List.set_cons_zero]
                refine wpQuiet_step (fun K hK => ?_)
                rw [if_pos (by rfl)]
                refine ⟨.int .i64 (k : Int), fun W hW => quiet_ok ?_, hK _ ?_⟩
                · have f := HS.out W hW
                  obtain ⟨_, c0, c1⟩ := f
                  go_simp
                  all_goals (try omega)
                clear hK K
                simp only [Act.put, List.setIfInBounds_toArray, List.set_cons_succ, List.set_cons_zero]
                refine wpQuiet_step (fun K hK => ?_)
                rw [if_pos (by rfl)]
                refine ⟨.pointer (some ⟨g4, k, none⟩), fun W hW => quiet_ok ?_, hK _ ?_⟩
                · have f := HS.out W hW
                  obtain ⟨_, c0, c1⟩ := f
                  go_simp
                  all_goals (try omega)
                clear hK K
                simp only [Act.put, List.setIfInBounds_toArray, List.set_cons_succ, List.set_cons_zero]
                refine wpQuiet_step (fun K hK => ?_)
                rw [if_pos (by rfl)]
                refine ⟨.string ⟨y.toArray⟩, fun W hW => quiet_ok ?_, hK _ ?_⟩
                · have f := HS.out W hW
                  obtain ⟨_, c0, c1⟩ := f
                  go_simp
                  all_goals (try omega)
                clear hK K
                simp only [Act.put, List.setIfInBounds_toArray, List.set_cons_succ, List.set_cons_zero]
                refine wpQuiet_step (fun K hK => ?_)
                rw [if_pos (by rfl)]
                refine ⟨.tuple #[.int .i64 (-1), .bool true], fun W hW => quiet_call (f := 24) (args := #[.string ⟨z.toArray⟩, .string ⟨y.toArray⟩]) ?_ ?_, hK _ ?_⟩
                · go_simp
                · exact HCMP.out W hW
                clear hK K
                simp only [Act.put, List.setIfInBounds_toArray, List.set_cons_succ, List.set_cons_zero]
                refine wpQuiet_step (fun K hK => ?_)
                rw [if_pos (by rfl)]
                refine ⟨.tuple #[.int .i64 (-1), .bool true], fun W hW => quiet_ok ?_, hK _ ?_⟩
                · have f := HS.out W hW
                  obtain ⟨_, c0, c1⟩ := f
                  go_simp
                  all_goals (try omega)
                clear hK K
                simp only [Act.put, List.setIfInBounds_toArray, List.set_cons_succ, List.set_cons_zero]
                refine wpQuiet_step (fun K hK => ?_)
                rw [if_pos (by rfl)]
                refine ⟨.int .i64 (-1), fun W hW => quiet_ok ?_, hK _ ?_⟩
                · have f := HS.out W hW
                  obtain ⟨_, c0, c1⟩ := f
                  go_simp
                  all_goals (try omega)
                clear hK K
                simp only [Act.put, List.setIfInBounds_toArray, List.set_cons_succ, List.set_cons_zero]
                refine wpQuiet_step (fun K hK => ?_)
                rw [if_pos (by rfl)]
                refine ⟨.bool true, fun W hW => quiet_ok ?_, hK _ ?_⟩
                · have f := HS.out W hW
                  obtain ⟨_, c0, c1⟩ := f
                  go_simp
                  all_goals (try omega)
                clear hK K
                simp only [Act.put, List.setIfInBounds_toArray, List.set_cons_succ, List.set_cons_zero]
                refine wpQuiet_step (fun K hK => ?_)
                rw [if_pos (by rfl)]
                refine ⟨.int .i64 (-1), fun W hW => quiet_ok ?_, hK _ ?_⟩
                · have f := HS.out W hW
                  obtain ⟨_, c0, c1⟩ := f
                  go_simp
                  all_goals (try omega)
                clear hK K
                simp only [Act.put, List.setIfInBounds_toArray, List.set_cons_succ, List.set_cons_zero]
                refine wpQuiet_step (fun K hK => ?_)
                rw [if_pos (by rfl)]
                refine ⟨.bool true, fun W hW => quiet_ok ?_, hK _ ?_⟩
                · have f := HS.out W hW
                  obtain ⟨_, c0, c1⟩ := f
                  go_simp
                  all_goals (try omega)
                clear hK K
                simp only [Act.put, List.setIfInBounds_toArray, List.set_cons_succ, List.set_cons_zero]
                refine wpQuiet_nil ?_
                intro w8 hb8
                have hb08 : Below w.heap.size w w8 := hbr.trans (hb8.mono hbr.size)
                have hE8 := hEr.below hb8
                have HO8 : Hid (OwnS w8 w6.heap.size (.slice (some ⟨g4, 0, none⟩) T.length c4) T) := HOK.out _ hb8
                clear hb8 hbd hbz HCMP HS HOK
                go_wp2_with fail
                go_loopw [23, 150] (fun e i w9 => ∃ (j : Nat) (ee : Bool), j ≤ T.length - k ∧ i = .int .i64 (j : Int) ∧ e = .bool ee ∧ Hid (ee = true → ∃ (m : Nat) (_ : m < j) (hm : k + m < T.length), belowT (T[k + m]'hm) y = false) ∧ Hid (OwnS w9 w6.heap.size (.slice (some ⟨g4, 0, none⟩) T.length c4) T) ∧ Below w.heap.size w w9 ∧ Env w9) (fun _ i _ => T.length - k - (intOf i).toNat)
                case atStart => exact ⟨0, false, Nat.zero_le _, rfl, rfl, fun h => (by cases h), HO8, hb08, hE8⟩
                case round =>
                  obtain ⟨j, ee, hj, rfl, rfl, HEE, HO9, hb9, hE9⟩ := hrel
                  by_cases hjl : j < T.length - k
                  · have hkj : k + j < T.length := by omega
                    have hcj := own_at HO9.out (k + j) hkj
                    have hck9 := own_at HO9.out k hlt
                    rw [HYK.out] at hck9
                    have HBJ := HBOTH.out (k + j) hkj
                    have HCONV : Hid (belowT (T[k + j]'hkj) y = true → ee = false) := fun h => by
                      cases he : ee with
                      | false => rfl
                      | true =>
                        obtain ⟨m, hmj, hm, hbm⟩ := HEE.out he
                        rw [HBLK.out (k + m) (by omega) hm (k + j) (by omega) hkj h] at hbm; cases hbm
                    have HWIT : Hid (belowT (T[k + j]'hkj) y = false → ∃ (m : Nat) (_ : m < j + 1) (hm : k + m < T.length), belowT (T[k + m]'hm) y = false) := fun h => ⟨j, by omega, hkj, h⟩
                    have HOLD : Hid (ee = true → ∃ (m : Nat) (_ : m < j + 1) (hm : k + m < T.length), belowT (T[k + m]'hm) y = false) := fun h => by obtain ⟨m, h1, h2, h3⟩ := HEE.out h; exact ⟨m, by omega, h2, h3⟩
                    obtain ⟨x, hx⟩ : ∃ x, x = T[k + j]'hkj := ⟨_, rfl⟩
                    rw [← hx] at hcj HBJ HCONV HWIT
                    have hxs : (⟨x.toArray⟩ : ByteArray).size ≤ 60 := by rw [size_of]; exact HBJ.2
                    have HBB : Hid (bothB x y = true) := HBJ.1
                    clear hx HBJ HEE
                    cases hbl : belowT x y with
                    | true =>
                      obtain rfl := HCONV.out hbl
                      clear HCONV HWIT
                      go_wp2_with fail
                      refine (iIsBelow_any ⟨x.toArray⟩ ⟨y.toArray⟩ _ (by omega) (by omega) hE9).mono ?_
                      rw [of_list, of_list, hbl, HBB.out]
                      rintro e w10 ⟨rfl, hbn⟩
                      have hb10 : Below w.heap.size w w10 := hb9.trans (hbn.mono hb9.size)
                      have hE10 := hE9.below hbn
                      have HO10 : Hid (OwnS w10 w6.heap.size (.slice (some ⟨g4, 0, none⟩) T.length c4) T) := HO9.out.kept hbn
                      clear hbn
                      all_goals (go_wp2_with fail)
                      all_goals go_roundw
                      all_goals first
                        | (simp [intOf]; omega)
                        | exact ⟨j + 1, false, by omega, by go_num, rfl, fun h => (by cases h), HO10, hb10, hE10⟩
                    | false =>
                      have HW := HWIT.out hbl
                      have HWH : Hid (∃ (m : Nat) (_ : m < j + 1) (hm : k + m < T.length), belowT (T[k + m]'hm) y = false) := HW
                      clear HW
                      clear HCONV HWIT
                      go_wp2_with fail
                      refine (iIsBelow_any ⟨x.toArray⟩ ⟨y.toArray⟩ _ (by omega) (by omega) hE9).mono ?_
                      rw [of_list, of_list, hbl, HBB.out]
                      rintro e w10 ⟨rfl, hbn⟩
                      have hb10 : Below w.heap.size w w10 := hb9.trans (hbn.mono hb9.size)
                      have hE10 := hE9.below hbn
                      have HO10 : Hid (OwnS w10 w6.heap.size (.slice (some ⟨g4, 0, none⟩) T.length c4) T) := HO9.out.kept hbn
                      clear hbn
                      cases ee
                      all_goals (go_wp2_with fail)
                      all_goals go_roundw
                      all_goals first
                        | (simp [intOf]; omega)
                        | exact ⟨j + 1, true, by omega, by go_num, rfl, fun _ => HWH.out, HO10, hb10, hE10⟩
                  · go_wp2_with fail
                    go_roundw
                    case rel => exact ⟨k + 1, by omega, by go_num, HO9, hb9, hE9⟩
                    case measure => simp [intOf]; omega
            · go_wp2_with fail
              go_ret
              exact ⟨rfl, hbr⟩
        | true =>
          clear hq
          go_wp2_with fail
          refine (drawSortNames_any _ R _ HM_5.out hb2 hle2).mono ?_
          rintro e w6 ⟨u3, L3, ⟨rfl, hrow3, hsm3⟩, hbn⟩
          have hb06 : Below w.heap.size w w6 := hb05.trans (hbn.mono hb05.size)
          have hE6 : Env w6 := hE5.below hbn
          have HM_6 : Hid (ZRow .u8 w6 (.slice a2 R.length cap2) R) := (HM_5).out.kept hbn
          clear hbn hb05 hE5 HM_5
          have HL3_6 : Hid (Row w6 u3 L3) := hrow3
          obtain ⟨a3, c3, rfl, hc3, hm3, _⟩ := row_value HL3_6.out
          have HT3 : Hid (L3.length + tot L3 ≤ 1048576) := by have h1 := hsm3.tot; have h2 := hsm3.1; show _ ≤ _; omega
          obtain ⟨T, hT⟩ : ∃ T, T = sortT L3 := ⟨_, rfl⟩
          have HGOOD : Hid (T.Pairwise ltN ∧ ∀ x ∈ T, nameB x = true) := by rw [hT]; exact sort_good L3
          obtain ⟨b3, hb3⟩ : ∃ b3, b3 = sortB L3 := ⟨_, rfl⟩
          have HNV : Hid (sortT L3 = T ∧ sortB L3 = b3) := ⟨hT.symm, hb3.symm⟩
          clear hrow3 hsm3 hT hb3
          have x1 : (b3 != b3) = false := by simp
          go_wp2_with fail
          refine (iSortNames_any _ L3 _ HL3_6.out HT3 hE6).mono ?_
          rw [HNV.out.1, HNV.out.2]
          rintro e w7 ⟨v4, rfl, ho4, hbn⟩
          have hb07 : Below w.heap.size w w7 := hb06.trans (hbn.mono hb06.size)
          have hE7 : Env w7 := hE6.below hbn
          have HL3_7 : Hid (Row w7 (.slice a3 L3.length c3) L3) := (HL3_6).out.kept hbn
          clear hbn hb06 hE6 HL3_6
          have HA_7 : Hid (OwnS w7 w6.heap.size v4 T) := ho4
          clear ho4
          obtain ⟨a4, c4, rfl, hc4, hm4, _⟩ := row_value HA_7.out.row
          go_wp2_with fail
          refine (sSortNames_any _ L3 _ HL3_7.out HT3).mono ?_
          rw [HNV.out.1, HNV.out.2]
          rintro e w8 ⟨v5, rfl, ho5, hbn⟩
          have hb08 : Below w.heap.size w w8 := hb07.trans (hbn.mono hb07.size)
          have hE8 : Env w8 := hE7.below hbn
          have HL3_8 : Hid (Row w8 (.slice a3 L3.length c3) L3) := (HL3_7).out.kept hbn
          have HA_8 : Hid (OwnS w8 w6.heap.size (.slice a4 T.length c4) T) := (HA_7).out.kept hbn
          clear hbn hb07 hE7 HL3_7 HA_7
          have HB5_8 : Hid (Row w8 v5 T) := ho5
          clear ho5
          obtain ⟨a5, c5, rfl, hc5, hm5, _⟩ := row_value HB5_8.out
          go_wp2_with fail
          refine (sameTexts_any _ _ T _ HA_8.out.row HB5_8.out).mono ?_
          rintro e w9 ⟨rfl, hbn⟩
          have hb09 : Below w.heap.size w w9 := hb08.trans (hbn.mono hb08.size)
          have hE9 : Env w9 := hE8.below hbn
          have HA_9 : Hid (OwnS w9 w6.heap.size (.slice a4 T.length c4) T) := (HA_8).out.kept hbn
          have HB5_9 : Hid (Row w9 (.slice a5 T.length c5) T) := (HB5_8).out.kept hbn
          clear hbn hb08 hE8 HA_8 HB5_8
          go_wp2_with fail
          go_loopw [122] (fun i wr => ∃ k : Nat, k ≤ T.length ∧ i = .int .i64 (k : Int) ∧ Hid (OwnS wr w6.heap.size (.slice a4 T.length c4) T) ∧ Below w.heap.size w wr ∧ Env wr) (fun i _ => T.length - (intOf i).toNat)
          case atStart => exact ⟨0, Nat.zero_le _, rfl, HA_9, hb09, hE9⟩
          case round =>
            obtain ⟨k, hk, rfl, HO, hbr, hEr⟩ := hrel
            clear HA_9
            by_cases hlt : k < T.length
            · obtain ⟨g4, c4', hv4, hcc, hcm⟩ := own_cells HO.out (by omega)
              cases hv4
              have hnk := HGOOD.out.2 _ (List.getElem_mem hlt)
              have hlk : (T[k]'hlt).length ≤ 60 := name_sixty hnk
              have HBLK : Hid (∀ j, (hkj : k ≤ j) → (hj : j < T.length) → ∀ m, j < m → (hm : m < T.length) → belowT (T[m]'hm) (T[k]'hlt) = true → belowT (T[j]'hj) (T[k]'hlt) = true) := fun j hkj hj m hjm hm h => by
                have nj := HGOOD.out.2 _ (List.getElem_mem hj)
                have nm := HGOOD.out.2 _ (List.getElem_mem hm)
                unfold belowT at h ⊢
                rw [nm, hnk] at h
                rw [nj, hnk, block_of HGOOD.out.1 HGOOD.out.2 hkj hjm hm (by simpa using h)]; rfl
              have HBOTH : Hid (∀ j, (hj : j < T.length) → bothB (T[j]'hj) (T[k]'hlt) = true ∧ (T[j]'hj).length ≤ 60) := fun j hj => by
                have nj := HGOOD.out.2 _ (List.getElem_mem hj)
                exact ⟨by unfold bothB; rw [nj, hnk]; rfl, name_sixty nj⟩
              have hck := own_at HO.out k hlt
              have HPREV : Hid (∀ h0 : 0 < k, cmpT (T[k - 1]'(by omega)) (T[k]'hlt) = -1 ∧ cmpB (T[k - 1]'(by omega)) (T[k]'hlt) = true) := fun h0 => by
                have np := HGOOD.out.2 (T[k - 1]'(by omega)) (List.getElem_mem _)
                have h := cmp_T np hnk
                have hl : ltN (T[k - 1]'(by omega)) (T[k]'hlt) := List.pairwise_iff_getElem.1 HGOOD.out.1 (k - 1) k (by omega) hlt (by omega)
                exact ⟨h.1.trans hl, h.2⟩
              obtain ⟨y, hy⟩ : ∃ y, y = T[k]'hlt := ⟨_, rfl⟩
              rw [← hy] at hck hlk HBLK HBOTH HPREV
              have HYK : Hid (T[k]'hlt = y) := hy.symm
              clear hnk hy
              have hys : (⟨y.toArray⟩ : ByteArray).size ≤ 60 := by rw [size_of]; exact hlk
              by_cases hk0 : k = 0
              · subst hk0
                go_wp2_with fail
                have hlt0 := hlt
                go_loopw [23, 150] (fun e i w9 => ∃ (j : Nat) (ee : Bool), j ≤ T.length - 0 ∧ i = .int .i64 (j : Int) ∧ e = .bool ee ∧ Hid (ee = true → ∃ (m : Nat) (_ : m < j) (hm : 0 + m < T.length), belowT (T[0 + m]'hm) y = false) ∧ Hid (OwnS w9 w6.heap.size (.slice (some ⟨g4, 0, none⟩) T.length c4) T) ∧ Below w.heap.size w w9 ∧ Env w9) (fun _ i _ => T.length - 0 - (intOf i).toNat)
                case atStart => exact ⟨0, false, Nat.zero_le _, rfl, rfl, fun h => (by cases h), HO, hbr, hEr⟩
                case round =>
                  obtain ⟨j, ee, hj, rfl, rfl, HEE, HO9, hb9, hE9⟩ := hrel
                  by_cases hjl : j < T.length - 0
                  · have hkj : 0 + j < T.length := by omega
                    have hcj := own_at HO9.out (0 + j) hkj
                    have hck9 := own_at HO9.out 0 hlt
                    rw [HYK.out] at hck9
                    have HBJ := HBOTH.out (0 + j) hkj
                    have HCONV : Hid (belowT (T[0 + j]'hkj) y = true → ee = false) := fun h => by
                      cases he : ee with
                      | false => rfl
                      | true =>
                        obtain ⟨m, hmj, hm, hbm⟩ := HEE.out he
                        rw [HBLK.out (0 + m) (by omega) hm (0 + j) (by omega) hkj h] at hbm; cases hbm
                    have HWIT : Hid (belowT (T[0 + j]'hkj) y = false → ∃ (m : Nat) (_ : m < j + 1) (hm : 0 + m < T.length), belowT (T[0 + m]'hm) y = false) := fun h => ⟨j, by omega, hkj, h⟩
                    have HOLD : Hid (ee = true → ∃ (m : Nat) (_ : m < j + 1) (hm : 0 + m < T.length), belowT (T[0 + m]'hm) y = false) := fun h => by obtain ⟨m, h1, h2, h3⟩ := HEE.out h; exact ⟨m, by omega, h2, h3⟩
                    obtain ⟨x, hx⟩ : ∃ x, x = T[0 + j]'hkj := ⟨_, rfl⟩
                    rw [← hx] at hcj HBJ HCONV HWIT
                    have hxs : (⟨x.toArray⟩ : ByteArray).size ≤ 60 := by rw [size_of]; exact HBJ.2
                    have HBB : Hid (bothB x y = true) := HBJ.1
                    clear hx HBJ HEE
                    rw [Nat.zero_add] at hcj
                    cases hbl : belowT x y with
                    | true =>
                      obtain rfl := HCONV.out hbl
                      clear HCONV HWIT
                      go_wp2_with fail
                      refine (iIsBelow_any ⟨x.toArray⟩ ⟨y.toArray⟩ _ (by omega) (by omega) hE9).mono ?_
                      rw [of_list, of_list, hbl, HBB.out]
                      rintro e w10 ⟨rfl, hbn⟩
                      have hb10 : Below w.heap.size w w10 := hb9.trans (hbn.mono hb9.size)
                      have hE10 := hE9.below hbn
                      have HO10 : Hid (OwnS w10 w6.heap.size (.slice (some ⟨g4, 0, none⟩) T.length c4) T) := HO9.out.kept hbn
                      clear hbn
                      all_goals (go_wp2_with fail)
                      all_goals go_roundw
                      all_goals first
                        | (simp [intOf]; omega)
                        | exact ⟨j + 1, false, by omega, by go_num, rfl, fun h => (by cases h), HO10, hb10, hE10⟩
                    | false =>
                      have HW := HWIT.out hbl
                      have HWH : Hid (∃ (m : Nat) (_ : m < j + 1) (hm : 0 + m < T.length), belowT (T[0 + m]'hm) y = false) := HW
                      clear HW
                      clear HCONV HWIT
                      go_wp2_with fail
                      refine (iIsBelow_any ⟨x.toArray⟩ ⟨y.toArray⟩ _ (by omega) (by omega) hE9).mono ?_
                      rw [of_list, of_list, hbl, HBB.out]
                      rintro e w10 ⟨rfl, hbn⟩
                      have hb10 : Below w.heap.size w w10 := hb9.trans (hbn.mono hb9.size)
                      have hE10 := hE9.below hbn
                      have HO10 : Hid (OwnS w10 w6.heap.size (.slice (some ⟨g4, 0, none⟩) T.length c4) T) := HO9.out.kept hbn
                      clear hbn
                      cases ee
                      all_goals (go_wp2_with fail)
                      all_goals go_roundw
                      all_goals first
                        | (simp [intOf]; omega)
                        | exact ⟨j + 1, true, by omega, by go_num, rfl, fun _ => HWH.out, HO10, hb10, hE10⟩
                  · go_wp2_with fail
                    go_roundw
                    case rel => exact ⟨0 + 1, by omega, by go_num, HO9, hb9, hE9⟩
                    case measure => simp [intOf]; omega
              · obtain ⟨kk, hkk1⟩ : ∃ kk, k = kk + 1 := ⟨k - 1, by omega⟩
                have hkk : kk < T.length := by omega
                have hp : cmpT (T[kk]'hkk) y = -1 ∧ cmpB (T[kk]'hkk) y = true := by have h := HPREV.out (by omega); subst hkk1; exact h
                have hlp := (HBOTH.out kk hkk).2
                have HS : Hid (∀ W, Below wr.heap.size wr W → Below wr.heap.size wr W ∧ W.cell? ⟨g4, kk, none⟩ = some (.string ⟨(T[kk]'hkk).toArray⟩) ∧ W.cell? ⟨g4, k, none⟩ = some (.string ⟨y.toArray⟩)) := fun W hW => ⟨hW, own_at (HO.out.kept hW) kk hkk, by have h := own_at (HO.out.kept hW) k hlt; rw [HYK.out] at h; exact h⟩
                obtain ⟨z, hz⟩ : ∃ z, z = T[kk]'hkk := ⟨_, rfl⟩
                rw [← hz] at hp HS hlp
                have HCMP : Hid (∀ W, Below wr.heap.size wr W → Calls Tryd.prog 24 #[.string ⟨z.toArray⟩, .string ⟨y.toArray⟩] W fun e w'' => e = .returned (.tuple #[.int .i64 (-1), .bool true]) ∧ Below wr.heap.size wr w'') := fun W hW => (iCompareNames_any ⟨z.toArray⟩ ⟨y.toArray⟩ W (hEr.below hW)).mono fun e w'' h => by
                  rw [of_list, of_list, hp.1, hp.2] at h
                  exact ⟨h.1, hW.trans (h.2.mono hW.size)⟩
                have hto : ((k : Int) - 1).toNat = kk := by omega
                have hi1 : 0 ≤ (k : Int) - 1 ∧ (k : Int) - 1 < (T.length : Int) := by omega
                have hi2 : 0 ≤ (k : Int) ∧ (k : Int) < (T.length : Int) := by omega
                have hi3 : (k : Int) < (T.length : Int) := by omega
                have hi4 : (k : Int) - 1 < (T.length : Int) := by omega
                have hi5 : 1 ≤ (k : Int) := by omega
                have hw1 : IntKind.i64.wrap ((k : Int) - 1) = (k : Int) - 1 := by rw [show (k : Int) - 1 = (kk : Int) by omega]; exact i64_small kk (by omega)
                have h0k : (0 : Int) ≤ (k : Int) := by omega
                have h0k1 : (0 : Int) ≤ (k : Int) - 1 := by omega
                have htk : ((k : Int)).toNat = k := by omega
                have hbz : Below wr.heap.size wr wr := Below.refl _ _
                have hbd : Below wr.heap.size wr wr.drew := (Below.refl _ _).drew
                have HOK : Hid (∀ W, Below wr.heap.size wr W → OwnS W w6.heap.size (.slice (some ⟨g4, 0, none⟩) T.length c4) T) := fun W hW => HO.out.kept hW
                have hk1 : 1 ≤ k := by omega
                clear hz hp hck hkk1 hk0
                go_wp2_with fail
                refine wp_region_quiet (C := fun W => Below wr.heap.size wr W) (by kernel_rfl) (by kernel_rfl) hbd ?_
                refine wpQuiet_step (fun K hK => ?_)
                rw [if_pos (by rfl)]
                refine ⟨.slice (some ⟨g4, 0, none⟩) T.length c4, fun W hW => quiet_ok ?_, hK _ ?_⟩
                · have f := HS.out W hW
                  obtain ⟨_, c0, c1⟩ := f
                  go_simp
                  all_goals (try omega)
                clear hK K
                simp only [Act.put, List.setIfInBounds_toArray, List.set_cons_succ, List.set_cons_zero]
                refine wpQuiet_step (fun K hK => ?_)
                rw [if_pos (by rfl)]
                refine ⟨.int .i64 (k : Int), fun W hW => quiet_ok ?_, hK _ ?_⟩
                · have f := HS.out W hW
                  obtain ⟨_, c0, c1⟩ := f
                  go_simp
                  all_goals (try omega)
                clear hK K
                simp only [Act.put, List.setIfInBounds_toArray, List.set_cons_succ, List.set_cons_zero]
                refine wpQuiet_step (fun K hK => ?_)
                rw [if_pos (by rfl)]
                refine ⟨.int .i64 ((k : Int) - 1), fun W hW => quiet_ok ?_, hK _ ?_⟩
                · have f := HS.out W hW
                  obtain ⟨_, c0, c1⟩ := f
                  go_simp
                  all_goals (try omega)
                clear hK K
                simp only [Act.put, List.setIfInBounds_toArray, List.set_cons_succ, List.set_cons_zero]
                refine wpQuiet_step (fun K hK => ?_)
                rw [if_pos (by rfl)]
                refine ⟨.pointer (some ⟨g4, kk, none⟩), fun W hW => quiet_ok ?_, hK _ ?_⟩
                · have f := HS.out W hW
                  obtain ⟨_, c0, c1⟩ := f
                  go_simp
                  all_goals (try omega)
                clear hK K
                simp only [Act.put, List.setIfInBounds_toArray, List.set_cons_succ, List.set_cons_zero]
                refine wpQuiet_step (fun K hK => ?_)
                rw [if_pos (by rfl)]
                refine ⟨.string ⟨z.toArray⟩, fun W hW => quiet_ok ?_, hK _ ?_⟩
                · have f := HS.out W hW
                  obtain ⟨_, c0, c1⟩ := f
                  go_simp
                  all_goals (try omega)
                clear hK K
                simp only [Act.put, List.setIfInBounds_toArray, List.set_cons_succ, List.set_cons_zero]
                refine wpQuiet_step (fun K hK => ?_)
                rw [if_pos (by rfl)]
                refine ⟨.slice (some ⟨g4, 0, none⟩) T.length c4, fun W hW => quiet_ok ?_, hK _ ?_⟩
                · have f := HS.out W hW
                  obtain ⟨_, c0, c1⟩ := f
                  go_simp
                  all_goals (try omega)
                clear hK K
                simp only [Act.put, List.setIfInBounds_toArray, List.set_cons_succ, List.set_cons_zero]
                refine wpQuiet_step (fun K hK => ?_)
                rw [if_pos (by rfl)]
                refine ⟨.int .i64 (k : Int), fun W hW => quiet_ok ?_, hK _ ?_⟩
                · have f := HS.out W hW
                  obtain ⟨_, c0, c1⟩ := f
                  go_simp
                  all_goals (try omega)
                clear hK K
                simp only [Act.put, List.setIfInBounds_toArray, List.set_cons_succ, List.set_cons_zero]
                refine wpQuiet_step (fun K hK => ?_)
                rw [if_pos (by rfl)]
                refine ⟨.pointer (some ⟨g4, k, none⟩), fun W hW => quiet_ok ?_, hK _ ?_⟩
                · have f := HS.out W hW
                  obtain ⟨_, c0, c1⟩ := f
                  go_simp
                  all_goals (try omega)
                clear hK K
                simp only [Act.put, List.setIfInBounds_toArray, List.set_cons_succ, List.set_cons_zero]
                refine wpQuiet_step (fun K hK => ?_)
                rw [if_pos (by rfl)]
                refine ⟨.string ⟨y.toArray⟩, fun W hW => quiet_ok ?_, hK _ ?_⟩
                · have f := HS.out W hW
                  obtain ⟨_, c0, c1⟩ := f
                  go_simp
                  all_goals (try omega)
                clear hK K
                simp only [Act.put, List.setIfInBounds_toArray, List.set_cons_succ, List.set_cons_zero]
                refine wpQuiet_step (fun K hK => ?_)
                rw [if_pos (by rfl)]
                refine ⟨.tuple #[.int .i64 (-1), .bool true], fun W hW => quiet_call (f := 24) (args := #[.string ⟨z.toArray⟩, .string ⟨y.toArray⟩]) ?_ ?_, hK _ ?_⟩
                · go_simp
                · exact HCMP.out W hW
                clear hK K
                simp only [Act.put, List.setIfInBounds_toArray, List.set_cons_succ, List.set_cons_zero]
                refine wpQuiet_step (fun K hK => ?_)
                rw [if_pos (by rfl)]
                refine ⟨.tuple #[.int .i64 (-1), .bool true], fun W hW => quiet_ok ?_, hK _ ?_⟩
                · have f := HS.out W hW
                  obtain ⟨_, c0, c1⟩ := f
                  go_simp
                  all_goals (try omega)
                clear hK K
                simp only [Act.put, List.setIfInBounds_toArray, List.set_cons_succ, List.set_cons_zero]
                refine wpQuiet_step (fun K hK => ?_)
                rw [if_pos (by rfl)]
                refine ⟨.int .i64 (-1), fun W hW => quiet_ok ?_, hK _ ?_⟩
                · have f := HS.out W hW
                  obtain ⟨_, c0, c1⟩ := f
                  go_simp
                  all_goals (try omega)
                clear hK K
                simp only [Act.put, List.setIfInBounds_toArray, List.set_cons_succ, List.set_cons_zero]
                refine wpQuiet_step (fun K hK => ?_)
                rw [if_pos (by rfl)]
                refine ⟨.bool true, fun W hW => quiet_ok ?_, hK _ ?_⟩
                · have f := HS.out W hW
                  obtain ⟨_, c0, c1⟩ := f
                  go_simp
                  all_goals (try omega)
                clear hK K
                simp only [Act.put, List.setIfInBounds_toArray, List.set_cons_succ, List.set_cons_zero]
                refine wpQuiet_step (fun K hK => ?_)
                rw [if_pos (by rfl)]
                refine ⟨.int .i64 (-1), fun W hW => quiet_ok ?_, hK _ ?_⟩
                · have f := HS.out W hW
                  obtain ⟨_, c0, c1⟩ := f
                  go_simp
                  all_goals (try omega)
                clear hK K
                simp only [Act.put, List.setIfInBounds_toArray, List.set_cons_succ, List.set_cons_zero]
                refine wpQuiet_step (fun K hK => ?_)
                rw [if_pos (by rfl)]
                refine ⟨.bool true, fun W hW => quiet_ok ?_, hK _ ?_⟩
                · have f := HS.out W hW
                  obtain ⟨_, c0, c1⟩ := f
                  go_simp
                  all_goals (try omega)
                clear hK K
                simp only [Act.put, List.setIfInBounds_toArray, List.set_cons_succ, List.set_cons_zero]
                refine wpQuiet_nil ?_
                intro w8 hb8
                have hb08 : Below w.heap.size w w8 := hbr.trans (hb8.mono hbr.size)
                have hE8 := hEr.below hb8
                have HO8 : Hid (OwnS w8 w6.heap.size (.slice (some ⟨g4, 0, none⟩) T.length c4) T) := HOK.out _ hb8
                clear hb8 hbd hbz HCMP HS HOK
                go_wp2_with fail
                go_loopw [23, 150] (fun e i w9 => ∃ (j : Nat) (ee : Bool), j ≤ T.length - k ∧ i = .int .i64 (j : Int) ∧ e = .bool ee ∧ Hid (ee = true → ∃ (m : Nat) (_ : m < j) (hm : k + m < T.length), belowT (T[k + m]'hm) y = false) ∧ Hid (OwnS w9 w6.heap.size (.slice (some ⟨g4, 0, none⟩) T.length c4) T) ∧ Below w.heap.size w w9 ∧ Env w9) (fun _ i _ => T.length - k - (intOf i).toNat)
                case atStart => exact ⟨0, false, Nat.zero_le _, rfl, rfl, fun h => (by cases h), HO8, hb08, hE8⟩
                case round =>
                  obtain ⟨j, ee, hj, rfl, rfl, HEE, HO9, hb9, hE9⟩ := hrel
                  by_cases hjl : j < T.length - k
                  · have hkj : k + j < T.length := by omega
                    have hcj := own_at HO9.out (k + j) hkj
                    have hck9 := own_at HO9.out k hlt
                    rw [HYK.out] at hck9
                    have HBJ := HBOTH.out (k + j) hkj
                    have HCONV : Hid (belowT (T[k + j]'hkj) y = true → ee = false) := fun h => by
                      cases he : ee with
                      | false => rfl
                      | true =>
                        obtain ⟨m, hmj, hm, hbm⟩ := HEE.out he
                        rw [HBLK.out (k + m) (by omega) hm (k + j) (by omega) hkj h] at hbm; cases hbm
                    have HWIT : Hid (belowT (T[k + j]'hkj) y = false → ∃ (m : Nat) (_ : m < j + 1) (hm : k + m < T.length), belowT (T[k + m]'hm) y = false) := fun h => ⟨j, by omega, hkj, h⟩
                    have HOLD : Hid (ee = true → ∃ (m : Nat) (_ : m < j + 1) (hm : k + m < T.length), belowT (T[k + m]'hm) y = false) := fun h => by obtain ⟨m, h1, h2, h3⟩ := HEE.out h; exact ⟨m, by omega, h2, h3⟩
                    obtain ⟨x, hx⟩ : ∃ x, x = T[k + j]'hkj := ⟨_, rfl⟩
                    rw [← hx] at hcj HBJ HCONV HWIT
                    have hxs : (⟨x.toArray⟩ : ByteArray).size ≤ 60 := by rw [size_of]; exact HBJ.2
                    have HBB : Hid (bothB x y = true) := HBJ.1
                    clear hx HBJ HEE
                    cases hbl : belowT x y with
                    | true =>
                      obtain rfl := HCONV.out hbl
                      clear HCONV HWIT
                      go_wp2_with fail
                      refine (iIsBelow_any ⟨x.toArray⟩ ⟨y.toArray⟩ _ (by omega) (by omega) hE9).mono ?_
                      rw [of_list, of_list, hbl, HBB.out]
                      rintro e w10 ⟨rfl, hbn⟩
                      have hb10 : Below w.heap.size w w10 := hb9.trans (hbn.mono hb9.size)
                      have hE10 := hE9.below hbn
                      have HO10 : Hid (OwnS w10 w6.heap.size (.slice (some ⟨g4, 0, none⟩) T.length c4) T) := HO9.out.kept hbn
                      clear hbn
                      all_goals (go_wp2_with fail)
                      all_goals go_roundw
                      all_goals first
                        | (simp [intOf]; omega)
                        | exact ⟨j + 1, false, by omega, by go_num, rfl, fun h => (by cases h), HO10, hb10, hE10⟩
                    | false =>
                      have HW := HWIT.out hbl
                      have HWH : Hid (∃ (m : Nat) (_ : m < j + 1) (hm : k + m < T.length), belowT (T[k + m]'hm) y = false) := HW
                      clear HW
                      clear HCONV HWIT
                      go_wp2_with fail
                      refine (iIsBelow_any ⟨x.toArray⟩ ⟨y.toArray⟩ _ (by omega) (by omega) hE9).mono ?_
                      rw [of_list, of_list, hbl, HBB.out]
                      rintro e w10 ⟨rfl, hbn⟩
                      have hb10 : Below w.heap.size w w10 := hb9.trans (hbn.mono hb9.size)
                      have hE10 := hE9.below hbn
                      have HO10 : Hid (OwnS w10 w6.heap.size (.slice (some ⟨g4, 0, none⟩) T.length c4) T) := HO9.out.kept hbn
                      clear hbn
                      cases ee
                      all_goals (go_wp2_with fail)
                      all_goals go_roundw
                      all_goals first
                        | (simp [intOf]; omega)
                        | exact ⟨j + 1, true, by omega, by go_num, rfl, fun _ => HWH.out, HO10, hb10, hE10⟩
                  · go_wp2_with fail
                    go_roundw
                    case rel => exact ⟨k + 1, by omega, by go_num, HO9, hb9, hE9⟩
                    case measure => simp [intOf]; omega
            · go_wp2_with fail
              go_ret
              exact ⟨rfl, hbr⟩
end Go.Proofs.YtmhiopkpjdnddaaDoor.lawCanon
