import Derived.Test.YtbgkocjpenkijaaGreatDoorSTake
namespace Go.Proofs.YtbgkocjpenkijaaGreatDoor
open Go.RowKit

theorem lab_extract (s : ByteArray) (a : Nat) (c : Nat) : s.extract (a + 1) (a + 1 + c) = ⟨(labAt s.data.toList a c).toArray⟩ := by
  apply data_eq
  unfold labAt; rw [Lib.extract_data, List.drop_take]

theorem joinD_nine {P : List (List UInt8)} (h : ∀ p ∈ P, p.length ≤ 20) (h9 : P.length ≤ 9) : (joinD P).length ≤ 1048576 := by
  have h1 := joinD_tot P
  have h2 : ∀ Q : List (List UInt8), (∀ p ∈ Q, p.length ≤ 20) → tot Q ≤ 20 * Q.length := by
    intro Q
    induction Q with
    | nil => intro _; simp [tot]
    | cons q r ih =>
      intro hq
      have a1 := hq q (by simp)
      have a2 := ih (fun p hp => hq p (by simp [hp]))
      have a3 : tot (q :: r) = q.length + tot r := by simp [tot]
      rw [a3]; simp; omega
  have := h2 P h
  omega
theorem dot_mem {x : ByteArray} {l : List UInt8} {k : Nat} (hx : x = ⟨l.toArray⟩) (hk : k < x.size) (hd : x[k] = 46) : 46 ∈ l := by
  subst hx
  rw [← hd]
  exact List.getElem_mem (l := l) (by simpa [size_list] using hk)
theorem no_dot {x : ByteArray} {l : List UInt8} (hx : x = ⟨l.toArray⟩) (h : ∀ j, (hj : j < x.size) → x[j] ≠ 46) : 46 ∉ l := by
  subst hx
  intro hm
  obtain ⟨j, hj, e⟩ := List.mem_iff_getElem.1 hm
  exact h j (by simpa [size_list] using hj) e

theorem index_next (s : ByteArray) (a : Nat) (w : World) (h : a + 1 < s.size) : Sem.run Tryz.prog (Instr.index 9 (.string s) (.int .i64 ((a : Int) + 1))) w = .ok (.int .u8 (s[a + 1].toNat : Int)) w := by
  rw [run_index_string _ _ _ _ _ Tryz.underlying9, dif_pos ⟨by omega, by omega⟩]
  have e : ((a : Int) + 1).toNat = a + 1 := by omega
  simp only [e]

set_option maxRecDepth 100000 in
set_option maxHeartbeats 4000000 in
theorem l2Take_in (s : ByteArray) (a : Nat) (w : World) (hs : s.size ≤ 4000) (ha : a < s.size) :
    Calls Tryz.prog 60 #[.string s, .int .i64 (a : Int)] w fun e w' => TkSpec w (takeN s.data.toList a) e w' := by
  have HI0 : Hid (InvS w s.data.toList (takeN s.data.toList a) w (.slice none 0 0) (.slice none 0 0) a a none [] []) := invs_start w s a hs ha
  obtain ⟨i0, hi, hz0, hz1, hz2⟩ := info_parts info_string
  obtain ⟨i1, hi1, hy0, hy1, hy2⟩ := info_parts info_int
  go_enter Tryz.func60, Tryz.ntmps60
  go_wp2_with fail
  go_loopw [1, 8, 9, 10, 11] (fun va vlb vpl vlo ve wr => ∃ (here low : Nat) (pt : Option Nat) (raw : List (List UInt8)) (pl : List Nat), va = .int .i64 (here : Int) ∧ vlo = .int .i64 (low : Int) ∧ ve = .int .i64 (endI pt) ∧ Hid (InvS w s.data.toList (takeN s.data.toList a) wr vpl vlb here low pt raw pl)) (fun va _ _ vlo _ _ => ms s.data.toList (intOf va).toNat (intOf vlo).toNat)
  case atStart => exact ⟨a, a, none, [], [], rfl, rfl, rfl, HI0⟩
  case round =>
    obtain ⟨here, low, pt, raw, pl, rfl, rfl, rfl, HI⟩ := hrel
    have hhere := HI.out.hhere
    have hlow := HI.out.hlow
    have hnine := HI.out.nine
    have hfew := HI.out.few
    have hb := HI.out.below
    have hbz := hb.size
    have hen := HI.out.bhle
    obtain ⟨al, cl, hvl, hcl, hml⟩ := own_slice HI.out.labels
    subst hvl
    by_cases h8 : raw.length ≤ 8
    · by_cases hlt : here < s.size
      · have h255 : s[here].toNat < 256 := s[here].toNat_lt
        have hsa : (s[here].toNat : Int) ≤ 255 := by omega
        by_cases h192 : 192 ≤ s[here].toNat
        · have g192 : (192 : Int) ≤ (s[here].toNat : Int) := by omega
          by_cases hlt1 : here + 1 < s.size
          · have h255' : s[here + 1].toNat < 256 := s[here + 1].toNat_lt
            obtain ⟨q, hq⟩ : ∃ q, q = (s[here].toNat - 192) * 256 + s[here + 1].toNat := ⟨_, rfl⟩
            have hqi : ((s[here].toNat : Int) - 192) * 256 + (s[here + 1].toNat : Int) = (q : Int) := by omega
            have hsb : (s[here + 1].toNat : Int) ≤ 255 := by omega
            by_cases hql : q < low
            · have HNX : Hid (InvS w s.data.toList (takeN s.data.toList a) wr _ (.slice al raw.length cl) q q (some (pt.getD (here + 2))) raw pl ∧ ms s.data.toList q q < ms s.data.toList here low) := invs_ptr hs HI.out hlt1 h192 hq hql
              have gq : ((s[here].toNat : Int) - 192) * 256 + (s[here + 1].toNat : Int) < (low : Int) := by omega
              have HQ : Hid (((s[here].toNat : Int) - 192) * 256 + (s[here + 1].toNat : Int) = (q : Int)) := hqi
              have hix : Sem.run Tryz.prog (Instr.index 9 (.string s) (.int .i64 ((here : Int) + 1))) wr = .ok (.int .u8 (s[here + 1].toNat : Int)) wr := index_next s here wr hlt1
              clear hq h192 hqi
              cases pt with
              | none =>
                have he : decide (endI none < 0) = true := by decide
                go_wp2_with fail
                go_roundw
                case rel => exact ⟨q, q, some (here + 2), raw, pl, congrArg (Value.int .i64) HQ.out, congrArg (Value.int .i64) HQ.out, by unfold endI; go_num, HNX.out.1⟩
                case measure => rw [HQ.out]; simpa [intOf] using HNX.out.2
              | some e0 =>
                have he : decide (endI (some e0) < 0) = false := by unfold endI; simp
                go_wp2_with fail
                go_roundw
                case rel => exact ⟨q, q, some e0, raw, pl, congrArg (Value.int .i64) HQ.out, congrArg (Value.int .i64) HQ.out, rfl, HNX.out.1⟩
                case measure => rw [HQ.out]; simpa [intOf] using HNX.out.2
            · have HR : Hid (takeN s.data.toList a = none) := invs_ptr_no HI.out hlt1 h192 hq hql
              have gq : (low : Int) ≤ ((s[here].toNat : Int) - 192) * 256 + (s[here + 1].toNat : Int) := by omega
              have hix : Sem.run Tryz.prog (Instr.index 9 (.string s) (.int .i64 ((here : Int) + 1))) wr = .ok (.int .u8 (s[here + 1].toNat : Int)) wr := index_next s here wr hlt1
              clear hq h192 hqi
              cases pt with
              | none =>
                have he : decide (endI none < 0) = true := by decide
                go_wp2_with fail
                (try simp only [Exit.inBlock, Exit.then]); refine bodyPost_ret (results_tmp4 rfl _ _ _) rfl ?_
                exact tks_none HR.out rfl HI.out.below
              | some e0 =>
                have he : decide (endI (some e0) < 0) = false := by unfold endI; simp
                go_wp2_with fail
                (try simp only [Exit.inBlock, Exit.then]); refine bodyPost_ret (results_tmp4 rfl _ _ _) rfl ?_
                exact tks_none HR.out rfl HI.out.below
          · have HR : Hid (takeN s.data.toList a = none) := invs_ptr_out HI.out hlt h192 hlt1
            have g1 : (s.size : Int) ≤ (here : Int) + 1 := by omega
            clear h192
            go_wp2_with fail
            (try simp only [Exit.inBlock, Exit.then]); refine bodyPost_ret (results_tmp4 rfl _ _ _) rfl ?_
            exact tks_none HR.out rfl HI.out.below
        · have g192 : (s[here].toNat : Int) < 192 := by omega
          by_cases h0 : s[here].toNat = 0
          · have e0 : ((s[here].toNat : Int) == 0) = true := by rw [h0]; rfl
            have HEND0 : Hid (takeN s.data.toList a = nmR (some (raw, pt.getD (here + 1), pl))) := invs_end HI.out hlt h0
            have HROW : Hid (Row wr (.slice al raw.length cl) raw) := row_own HI.out.labels
            have HJL : Hid ((joinD raw).length ≤ 1048576) := joinD_nine HI.out.small hnine
            have hjs : (⟨(joinD raw).toArray⟩ : ByteArray).size ≤ 4294967280 := by rw [size_list]; have := HJL.out; omega
            have HF : Hid (foldT (joinD raw) = (if nameOfB (raw.map foldL) = true then joinD (raw.map foldL) else []) ∧ foldB (joinD raw) = nameOfB (raw.map foldL)) := ⟨fold_text HI.out.plain, fold_name HI.out.plain⟩
            clear h0 h192
            cases pt with
            | none =>
              have HEND : Hid (takeN s.data.toList a = nmR (some (raw, here + 1, pl))) := HEND0
              have he : decide (endI none < 0) = true := by decide
              go_wp2_with fail
              refine (l1Join_any _ raw _ HROW.out HJL).mono ?_
              rintro e w1 ⟨rfl, rfl⟩
              go_wp2_with fail
              refine (sFoldName_any _ _ hjs).mono ?_
              rintro e w2 ⟨rfl, hb2⟩
              rw [show (⟨(joinD raw).toArray⟩ : ByteArray).data.toList = joinD raw from rfl, HF.out.1, HF.out.2]
              cases hN : nameOfB (raw.map foldL) with
              | false =>
                have HR : Hid (takeN s.data.toList a = none) := HEND.out.trans (if_neg (by rw [hN]; simp))
                clear hN
                go_wp2_with fail
                (try simp only [Exit.inBlock, Exit.then]); refine bodyPost_ret (results_tmp4 rfl _ _ _) rfl ?_
                exact tks_none HR.out rfl (HI.out.below.trans (hb2.mono HI.out.below.size))
              | true =>
                have HR : Hid (takeN s.data.toList a = some (joinD (raw.map foldL), here + 1, pl)) := HEND.out.trans (if_pos hN)
                clear hN
                rw [if_pos rfl]
                go_wp2_with fail
                (try simp only [Exit.inBlock, Exit.then]); refine bodyPost_ret (results_tmp4 rfl _ _ _) rfl ?_
                exact tks_some HR.out (ret_four rfl (by show Value.int .i64 _ = .int .i64 ((here + 1 : Nat) : Int); go_num) rfl rfl) (own_below HI.out.places hb2) (HI.out.below.trans (hb2.mono HI.out.below.size))
            | some e0' =>
              have HEND : Hid (takeN s.data.toList a = nmR (some (raw, e0', pl))) := HEND0
              have he : decide (endI (some e0') < 0) = false := by unfold endI; simp
              go_wp2_with fail
              refine (l1Join_any _ raw _ HROW.out HJL).mono ?_
              rintro e w1 ⟨rfl, rfl⟩
              go_wp2_with fail
              refine (sFoldName_any _ _ hjs).mono ?_
              rintro e w2 ⟨rfl, hb2⟩
              rw [show (⟨(joinD raw).toArray⟩ : ByteArray).data.toList = joinD raw from rfl, HF.out.1, HF.out.2]
              cases hN : nameOfB (raw.map foldL) with
              | false =>
                have HR : Hid (takeN s.data.toList a = none) := HEND.out.trans (if_neg (by rw [hN]; simp))
                clear hN
                go_wp2_with fail
                (try simp only [Exit.inBlock, Exit.then]); refine bodyPost_ret (results_tmp4 rfl _ _ _) rfl ?_
                exact tks_none HR.out rfl (HI.out.below.trans (hb2.mono HI.out.below.size))
              | true =>
                have HR : Hid (takeN s.data.toList a = some (joinD (raw.map foldL), e0', pl)) := HEND.out.trans (if_pos hN)
                clear hN
                rw [if_pos rfl]
                go_wp2_with fail
                (try simp only [Exit.inBlock, Exit.then]); refine bodyPost_ret (results_tmp4 rfl _ _ _) rfl ?_
                exact tks_some HR.out (ret_four rfl rfl rfl rfl) (own_below HI.out.places hb2) (HI.out.below.trans (hb2.mono HI.out.below.size))
          · have e0 : ((s[here].toNat : Int) == 0) = false := by rw [beq_eq_false_iff_ne]; omega
            by_cases h20 : s[here].toNat ≤ 20
            · have g20 : (s[here].toNat : Int) ≤ 20 := by omega
              by_cases hin : here + s[here].toNat < s.size
              · have gin : (here : Int) + 1 + (s[here].toNat : Int) ≤ (s.size : Int) := by omega
                have H0 : Hid (¬ s[here].toNat = 0) := h0
                clear h0 h192
                cases pt with
                | none =>
                  have he : decide (endI none < 0) = true := by decide
                  have hpl := HI.out.places
                  have hown1 := hpl.alloc (.cells #[.int .i64 (here : Int)] 3)
                  go_wp2_with (first | (at_builtin; refine wpList_append_own _ rfl (.tmp 82) (.tmp 84) 61 rfl w.heap.size 3 i1 (.int .i64 0) 1 8 Tryz.underlying61 hi1 hy0 hy1 hy2 rfl (by decide) _ _ _ rfl hown1 ⟨wr.heap.size, 0, none⟩ 1 1 [.int .i64 (here : Int)] rfl rfl ?d1 ?d2 ?d3 ?d4 ?d5 ?_))
                  case d1 => exact cell_new_one _ _ _
                  case d2 => exact one_int _
                  case d3 => unfold maxLen; omega
                  case d4 => omega
                  case d5 => simp; omega
                  intro v1 w1 hown' hgrow _
                  have hb1 := below_grown1 hb hpl hgrow
                  have hb1z := hb1.size
                  have hlab1 := own_other (by decide) hown1 (HI.out.labels.alloc _) hgrow
                  have hpl1 : w1.ownsRow w.heap.size 3 1 v1 (pl ++ [here]).length ((pl ++ [here]).map I64) := by
                    rw [List.map_append, List.length_append]; exact hown'
                  have HPL : Hid (w1.ownsRow w.heap.size 3 1 v1 (pl ++ [here]).length ((pl ++ [here]).map I64)) := hpl1
                  have HLAB : Hid (w1.ownsRow w.heap.size 9 1 (.slice al raw.length cl) raw.length (raw.map S)) := hlab1
                  clear hown' hgrow hown1 hpl hpl1 hlab1
                  go_wp2_with fail
                  rw [lab_extract]
                  obtain ⟨x, hx⟩ : ∃ x : ByteArray, x = ⟨(labAt s.data.toList here s[here].toNat).toArray⟩ := ⟨_, rfl⟩
                  rw [← hx]
                  have hxz : x.size = s[here].toNat := by rw [hx, size_list, labAt_length (by rw [data_len]; exact hin)]
                  have HX : Hid (x = ⟨(labAt s.data.toList here s[here].toNat).toArray⟩) := hx
                  clear hx
                  go_loop [16] (fun i => ∃ k : Nat, k ≤ s[here].toNat ∧ i = .int .i64 k ∧ Hid (∀ j, (hj : j < x.size) → j < k → x[j] ≠ 46)) (fun i => s[here].toNat - (intOf i).toNat)
                  case atStart => exact ⟨0, Nat.zero_le _, rfl, fun j _ hj => absurd hj (Nat.not_lt_zero j)⟩
                  case round =>
                    obtain ⟨k, hk, rfl, HA⟩ := hrel
                    by_cases hkc : k < s[here].toNat
                    · have hkx : k < x.size := by omega
                      by_cases hd : x[k] = 46
                      · have e1 : ((x[k].toNat : Int) == 46) = true := by rw [hd]; rfl
                        have HR : Hid (takeN s.data.toList a = none) := invs_dot HI.out hlt H0.out h20 hin (dot_mem HX.out hkx hd)
                        clear hd
                        go_wp2_with fail
                        (try simp only [Exit.inBlock, Exit.then]); refine bodyPost_ret (results_tmp4 rfl _ _ _) rfl ?_
                        exact tks_none HR.out rfl hb1
                      · have e1 : ((x[k].toNat : Int) == 46) = false := by
                          rw [beq_eq_false_iff_ne]; intro h; exact hd (UInt8.toNat_inj.1 (by show x[k].toNat = 46; omega))
                        have HR : Hid (∀ j, (hj : j < x.size) → j < k + 1 → x[j] ≠ 46) := fun j hj hjk => by
                          by_cases e : j = k
                          · subst e; exact hd
                          · exact HA.out j hj (by omega)
                        clear hd
                        go_wp2_with fail
                        go_round
                        case rel => exact ⟨k + 1, by omega, by go_num, HR⟩
                        case measure => simp [intOf]; omega
                    · have HD : Hid (46 ∉ labAt s.data.toList here s[here].toNat) := no_dot HX.out (fun j hj => HA.out j hj (by omega))
                      have HXS : Hid (Value.string x = S (labAt s.data.toList here s[here].toNat)) := by rw [HX.out]; exact rfl
                      have hown2 := HLAB.out.alloc (.cells #[.string x] 9)
                      go_wp2_with (first | (at_builtin; refine wpList_append_own _ rfl (.tmp 103) (.tmp 105) 72 rfl w.heap.size 9 i0 (.string ByteArray.empty) 1 16 Tryz.underlying72 hi hz0 hz1 hz2 rfl (by decide) _ _ _ rfl hown2 ⟨w1.heap.size, 0, none⟩ 1 1 [.string x] rfl rfl ?k1 ?k2 ?k3 ?k4 ?k5 ?_))
                      (try case k1 => exact cell_new_one _ _ _)
                      case k2 => first | exact one_string _ | rfl
                      case k3 => unfold maxLen; omega
                      case k4 => omega
                      case k5 => first | (simp; omega) | omega
                      intro v3 w3 hown3 hgrow3 _
                      have hb3 := below_grown1 hb1 HLAB.out hgrow3
                      have hpl3 := own_other (by decide) hown2 (HPL.out.alloc _) hgrow3
                      rw [HXS.out] at hown3
                      have HNX := invs_lab hs HI.out h8 hlt H0.out h20 hin HD.out hown3 hpl3 hb3
                      have HNH : Hid (InvS w s.data.toList (takeN s.data.toList a) w3 _ v3 (here + 1 + s[here].toNat) low none (raw ++ [labAt s.data.toList here s[here].toNat]) (pl ++ [here]) ∧ ms s.data.toList (here + 1 + s[here].toNat) low < ms s.data.toList here low) := HNX
                      clear hown3 hgrow3 hown2 hpl3 HNX
                      go_wp2_with fail
                      go_roundw
                      case rel => exact ⟨here + 1 + s[here].toNat, low, none, _, _, by go_num, rfl, rfl, HNH.out.1⟩
                      case measure => exact Nat.lt_of_le_of_lt (Nat.le_of_eq (by congr 1; simp [intOf]; omega)) HNH.out.2
                | some e0' =>
                  have he : decide (endI (some e0') < 0) = false := by unfold endI; simp
                  have HPL : Hid (wr.ownsRow w.heap.size 3 1 _ pl.length (pl.map I64)) := HI.out.places
                  have HLAB : Hid (wr.ownsRow w.heap.size 9 1 (.slice al raw.length cl) raw.length (raw.map S)) := HI.out.labels
                  go_wp2_with fail
                  rw [lab_extract]
                  obtain ⟨x, hx⟩ : ∃ x : ByteArray, x = ⟨(labAt s.data.toList here s[here].toNat).toArray⟩ := ⟨_, rfl⟩
                  rw [← hx]
                  have hxz : x.size = s[here].toNat := by rw [hx, size_list, labAt_length (by rw [data_len]; exact hin)]
                  have HX : Hid (x = ⟨(labAt s.data.toList here s[here].toNat).toArray⟩) := hx
                  clear hx
                  go_loop [16] (fun i => ∃ k : Nat, k ≤ s[here].toNat ∧ i = .int .i64 k ∧ Hid (∀ j, (hj : j < x.size) → j < k → x[j] ≠ 46)) (fun i => s[here].toNat - (intOf i).toNat)
                  case atStart => exact ⟨0, Nat.zero_le _, rfl, fun j _ hj => absurd hj (Nat.not_lt_zero j)⟩
                  case round =>
                    obtain ⟨k, hk, rfl, HA⟩ := hrel
                    by_cases hkc : k < s[here].toNat
                    · have hkx : k < x.size := by omega
                      by_cases hd : x[k] = 46
                      · have e1 : ((x[k].toNat : Int) == 46) = true := by rw [hd]; rfl
                        have HR : Hid (takeN s.data.toList a = none) := invs_dot HI.out hlt H0.out h20 hin (dot_mem HX.out hkx hd)
                        clear hd
                        go_wp2_with fail
                        (try simp only [Exit.inBlock, Exit.then]); refine bodyPost_ret (results_tmp4 rfl _ _ _) rfl ?_
                        exact tks_none HR.out rfl hb
                      · have e1 : ((x[k].toNat : Int) == 46) = false := by
                          rw [beq_eq_false_iff_ne]; intro h; exact hd (UInt8.toNat_inj.1 (by show x[k].toNat = 46; omega))
                        have HR : Hid (∀ j, (hj : j < x.size) → j < k + 1 → x[j] ≠ 46) := fun j hj hjk => by
                          by_cases e : j = k
                          · subst e; exact hd
                          · exact HA.out j hj (by omega)
                        clear hd
                        go_wp2_with fail
                        go_round
                        case rel => exact ⟨k + 1, by omega, by go_num, HR⟩
                        case measure => simp [intOf]; omega
                    · have HD : Hid (46 ∉ labAt s.data.toList here s[here].toNat) := no_dot HX.out (fun j hj => HA.out j hj (by omega))
                      have HXS : Hid (Value.string x = S (labAt s.data.toList here s[here].toNat)) := by rw [HX.out]; exact rfl
                      have hown2 := HLAB.out.alloc (.cells #[.string x] 9)
                      go_wp2_with (first | (at_builtin; refine wpList_append_own _ rfl (.tmp 103) (.tmp 105) 72 rfl w.heap.size 9 i0 (.string ByteArray.empty) 1 16 Tryz.underlying72 hi hz0 hz1 hz2 rfl (by decide) _ _ _ rfl hown2 ⟨wr.heap.size, 0, none⟩ 1 1 [.string x] rfl rfl ?m1 ?m2 ?m3 ?m4 ?m5 ?_))
                      (try case m1 => exact cell_new_one _ _ _)
                      case m2 => first | exact one_string _ | rfl
                      case m3 => unfold maxLen; omega
                      case m4 => omega
                      case m5 => first | (simp; omega) | omega
                      intro v3 w3 hown3 hgrow3 _
                      have hb3 := below_grown1 hb HLAB.out hgrow3
                      have hpl3 := own_other (by decide) hown2 (HPL.out.alloc _) hgrow3
                      rw [HXS.out] at hown3
                      have HNX := invs_lab hs HI.out h8 hlt H0.out h20 hin HD.out hown3 hpl3 hb3
                      have HNH : Hid (InvS w s.data.toList (takeN s.data.toList a) w3 _ v3 (here + 1 + s[here].toNat) low (some e0') (raw ++ [labAt s.data.toList here s[here].toNat]) pl ∧ ms s.data.toList (here + 1 + s[here].toNat) low < ms s.data.toList here low) := HNX
                      clear hown3 hgrow3 hown2 hpl3 HNX
                      go_wp2_with fail
                      go_roundw
                      case rel => exact ⟨here + 1 + s[here].toNat, low, (some e0'), _, _, by go_num, rfl, rfl, HNH.out.1⟩
                      case measure => exact Nat.lt_of_le_of_lt (Nat.le_of_eq (by congr 1; simp [intOf]; omega)) HNH.out.2
              · have gin : decide ((s.size : Int) < (here : Int) + 1 + (s[here].toNat : Int)) = true := by simp; omega
                have HR : Hid (takeN s.data.toList a = none) := invs_lab_out HI.out hlt h0 h20 hin
                clear h0 h192
                go_wp2_with fail
                (try simp only [Exit.inBlock, Exit.then]); refine bodyPost_ret (results_tmp4 rfl _ _ _) rfl ?_
                exact tks_none HR.out rfl HI.out.below
            · have g20 : (20 : Int) < (s[here].toNat : Int) := by omega
              have HR : Hid (takeN s.data.toList a = none) := invs_mid HI.out hlt h20 h192
              clear h0 h192
              go_wp2_with fail
              (try simp only [Exit.inBlock, Exit.then]); refine bodyPost_ret (results_tmp4 rfl _ _ _) rfl ?_
              exact tks_none HR.out rfl HI.out.below
      · have HR : Hid (takeN s.data.toList a = none) := invs_out HI.out hlt
        go_wp2_with fail
        (try simp only [Exit.inBlock, Exit.then]); refine bodyPost_ret (results_tmp4 rfl _ _ _) rfl ?_
        exact tks_none HR.out rfl HI.out.below
    · have HR : Hid (takeN s.data.toList a = none) := going_long HI.out.going (by omega)
      go_wp2_with fail
      (try simp only [Exit.inBlock, Exit.then]); refine bodyPost_ret (results_tmp4 rfl _ _ _) rfl ?_
      exact tks_none HR.out rfl HI.out.below
end Go.Proofs.YtbgkocjpenkijaaGreatDoor
