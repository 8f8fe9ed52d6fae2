import Derived.Test.YtpghpeombednkaaGreatDoorPackP
import Derived.Handy
namespace Go.Proofs.YtpghpeombednkaaGreatDoor
open Go.RowKit

set_option maxRecDepth 20000 in
set_option maxHeartbeats 4000000 in
theorem put_any (base pb : Nat) (vl vw0 vt0 vp0 : Value) (P : List (List UInt8)) (B : List UInt8) (T : List (List UInt8)) (ps : List Nat) (w : World) (h : Hid (PkS base pb vl P w vw0 vt0 vp0 B T ps)) (hlen : Hid (T.length = ps.length)) (h8 : P.length ≤ 8) (hx : Hid (∀ p ∈ P, p.length ≤ 20 ∧ 0 < p.length)) (hps : Hid (∀ p ∈ ps, p ≤ 4000)) (hT : T.length ≤ 10000) (hB : B.length ≤ 100000) :
    Calls Tryz.prog 79 #[.pointer (some ⟨pb, 0, none⟩), vl] w fun e w' => e = .returned (.tuple #[]) ∧ ∃ vw' vt' vp', PkS base pb vl P w' vw' vt' vp' (B ++ packL T ps P) (T ++ newS T P) (ps ++ newP T B.length P) ∧ Below base w w' := by
  obtain ⟨i0, hi, hz0, hz1, hz2⟩ := info_parts info_byte
  obtain ⟨i9, hi9, hs0, hs1, hs2⟩ := info_parts info_string
  obtain ⟨i3, hi3, hn0, hn1, hn2⟩ := info_parts info_int
  obtain ⟨al, capl, hvl, hcap, hmax⟩ := own_slice h.out.labels
  subst hvl
  go_enter Tryz.func79, Tryz.ntmps79
  go_wp2_with fail
  go_loopw [10] (fun i wr => ∃ (k : Nat) (pre : List UInt8) (sP : List (List UInt8)) (pP : List Nat) (vw vt vp : Value) (Bk : List UInt8) (Tk : List (List UInt8)) (pk : List Nat), k ≤ P.length ∧ i = .int .i64 (k : Int) ∧ Hid (PkN P T ps B.length k pre sP pP) ∧ Hid (Bk = B ++ pre ∧ Tk = T ++ sP ∧ pk = ps ++ pP) ∧ Hid (PkS base pb (.slice al P.length capl) P wr vw vt vp Bk Tk pk) ∧ Hid (Below base w wr)) (fun i _ => P.length - (intOf i).toNat)
  case atStart => exact ⟨0, [], [], [], vw0, vt0, vp0, B, T, ps, Nat.zero_le _, rfl, PkN.start _ _ _ _, (by simp : B = B ++ [] ∧ T = T ++ [] ∧ ps = ps ++ []), h, Below.refl _ _⟩
  case round =>
    obtain ⟨k, pre, sP, pP, vw, vt, vp, Bk, Tk, pk, hk, rfl, HN, HEQ, HS, HB⟩ := hrel
    obtain ⟨aw, cw, hvw, hcw, hmw⟩ := own_slice HS.out.wire
    subst hvw
    obtain ⟨c0, c1, c2, f0, f1, f2⟩ := HS.out.cells
    have hbk : Bk.length ≤ 101000 := by
      have h1 := HN.out.len
      rw [HEQ.out.1, List.length_append]; omega
    have htk : Tk.length ≤ 10010 := by
      have h1 := HN.out.lens
      rw [HEQ.out.2.1, List.length_append]; omega
    have hpk : pk.length ≤ 10010 := by
      have h1 := HN.out.lenp
      have h2 := hlen.out
      rw [HEQ.out.2.2, List.length_append]; omega
    by_cases hlt : k < P.length
    · obtain ⟨_, _, _, hrow⟩ := row_cells (row_own HS.out.labels)
      obtain ⟨b, o, ha, hbl, hc⟩ := hrow (by omega)
      rw [ha]
      have hcx : wr.cell? ⟨b, o + k, none⟩ = some (.string ⟨(P[k]'hlt).toArray⟩) := hc k hlt
      have HROW2 : Hid (Row wr (.slice (some ⟨b, o + k, none⟩) (P.length - k) (capl - k)) (P.drop k)) := row_drop (i := k) hcap hmax hbl hc
      have HJL : Hid ((joinD (P.drop k)).length ≤ 1048576) := by
        have h1 := joinD_small (P.drop k) (fun p h => (hx.out p (List.mem_of_mem_drop h)).1)
        rw [List.length_drop] at h1
        exact (show (joinD (P.drop k)).length ≤ 1048576 by omega)
      have hxl := (hx.out _ (List.getElem_mem hlt)).1
      have HMISS : Hid (idxI T (joinD (P.drop k)) < 0 → PkN P T ps B.length (k + 1) (pre ++ UInt8.ofNat (P[k]'hlt).length :: P[k]'hlt) (sP ++ [joinD (P.drop k)]) (pP ++ [Bk.length])) := fun h => by
        rw [HEQ.out.1, List.length_append]; exact HN.out.miss hlt h (hx.out _ (List.getElem_mem hlt))
      have HHIT : Hid (∀ j, (hj : j < ps.length) → idxI T (joinD (P.drop k)) = (j : Int) → packL T ps P = pre ++ ptr ps[j] ∧ newS T P = sP ∧ newP T B.length P = pP) := fun j hj h => HN.out.hit hlt h hj
      have HIDX : Hid (idxI Tk (joinD (P.drop k)) = idxI T (joinD (P.drop k))) := by rw [HEQ.out.2.1]; exact HN.out.idx
      obtain ⟨x, hxe⟩ : ∃ x, x = P[k]'hlt := ⟨_, rfl⟩
      rw [← hxe] at hcx hxl HMISS
      clear hxe hc hrow
      go_wp2_with fail
      refine (joinLabels_any _ (P.drop k) _ HROW2.out HJL).mono ?_
      rintro e w2 ⟨rfl, hb2⟩
      have HS2 : Hid (PkS base pb (.slice al P.length capl) P w2 (.slice aw Bk.length cw) vt vp Bk Tk pk) := HS.out.below hb2
      have HB2 : Hid (Below base w w2) := HB.out.trans (hb2.mono HS.out.base_le)
      clear c0 c1 c2 f0 f1 f2 hcx hb2
      obtain ⟨c0, c1, c2, f0, f1, f2⟩ := HS2.out.cells
      go_wp2_with fail
      refine (index_any _ Tk _ _ (row_own HS2.out.told)).mono ?_
      rintro e w3 ⟨rfl, rfl⟩
      rw [HIDX.out]
      have hge := idxI_ge T (joinD (P.drop k))
      have HLT : Hid (∀ j : Nat, idxI T (joinD (P.drop k)) = (j : Int) → j < T.length) := fun j h => idxI_lt h
      obtain ⟨q, hq⟩ : ∃ q, q = idxI T (joinD (P.drop k)) := ⟨_, rfl⟩
      rw [← hq] at hge HLT HMISS HHIT ⊢
      clear hq
      by_cases hneg : q < 0
      · have HM : Hid (PkN P T ps B.length (k + 1) (pre ++ UInt8.ofNat x.length :: x) (sP ++ [joinD (P.drop k)]) (pP ++ [Bk.length])) := HMISS.out hneg
        obtain ⟨sx, hsx⟩ : ∃ sx, sx = joinD (P.drop k) := ⟨_, rfl⟩
        rw [← hsx] at HM ⊢
        clear hsx
        go_wp2_with (first | (at_builtin; refine wpList_append_own_at _ rfl (.tmp 46) (.tmp 48) 70 rfl base 9 i9 (.string ByteArray.empty) 1 16 Tryz.underlying70 hi9 hs0 hs1 hs2 rfl (by decide) _ _ _ rfl (HS2.out.told.alloc _) ⟨w3.heap.size, 0, none⟩ 1 1 [.string ⟨sx.toArray⟩] rfl rfl ?d1 ?d2 ?d3 ?d4 ?d5 ?_))
        case d1 => exact cell_new_one _ _ _
        case d2 => exact one_string _
        case d3 => unfold maxLen; omega
        case d4 => omega
        case d5 => simp; exact Nat.le_succ_of_le HS2.out.base_le
        intro vt1 w4 hown4 hgrow4 _ hat4
        have HK4 : Hid (Kpt w3 w4 (fun k => vt.ownBlock = some k)) := (kpt_alloc _ _ _).trans (grown_kpt hgrow4)
        have HAP : Hid (∀ g, (Value.slice al P.length capl).ownBlock = some g → vt1.ownBlock ≠ some g) := fun g hg h1 => by
          rcases hat4 with e | e
          · exact HS2.out.apart g hg (e ▸ h1)
          · rw [e] at h1
            have e2 := Option.some.inj h1
            have e3 := (HS2.out.labels.lt g hg).2
            (try simp at e2); omega
        obtain ⟨T4, hT4⟩ : ∃ T4, T4 = Tk ++ [sx] := ⟨_, rfl⟩
        have HO4 : Hid (w4.ownsRow base 9 1 vt1 T4.length (T4.map S)) := by
          have e : (Tk ++ [sx]).map S = Tk.map S ++ [S sx] := List.map_append
          have e2 : (Tk ++ [sx]).length = Tk.length + 1 := List.length_append
          rw [hT4, e, e2]; exact hown4
        have HT4 : Hid (T4 = Tk ++ [sx]) := hT4
        clear hT4
        obtain ⟨at1, ct1, hvt1, _, _⟩ := own_slice HO4.out
        subst hvt1
        have hbx4 := HS2.out.boxT HK4.out
        have HST := HS2.out.tell HK4.out HO4.out HAP.out
        obtain ⟨w5, hw5⟩ : ∃ w5, w5 = w4.setCell ⟨pb, 1, none⟩ (.slice at1 T4.length ct1) := ⟨_, rfl⟩
        rw [← hw5] at HST
        have HS5 : Hid (PkS base pb (.slice al P.length capl) P w5 (.slice aw Bk.length cw) (.slice at1 T4.length ct1) vp Bk T4 pk) := HST.1
        have HB5 : Hid (Below base w w5) := HB2.out.trans HST.2
        have HW5 : Hid (w4.setCell ⟨pb, 1, none⟩ (.slice at1 T4.length ct1) = w5) := hw5.symm
        clear c0 c1 c2 f0 f1 f2 hown4 hgrow4 hat4 HS2 HST hw5
        obtain ⟨c0, c1, c2, f0, f1, f2⟩ := box3_cells hbx4
        clear hbx4
        go_wp2_with fail
        rw [HW5.out]
        clear c0 c1 c2 f0 f1 f2 HW5 HO4 HAP HK4
        obtain ⟨c0, c1, c2, f0, f1, f2⟩ := HS5.out.cells
        have hbz5 := HS5.out.base_le
        have HP5 : Hid ((w5.drew.alloc (.cells #[.int .i64 (Bk.length : Int)] 3)).ownsRow base 3 1 vp pk.length (pk.map I64)) := own_below HS5.out.places (((Below.refl w5.heap.size w5).drew).alloc (Nat.le_refl _) _)
        have HSA : Hid ((w5.alloc (.cells #[.int .i64 (Bk.length : Int)] 3)).drew.cell? ⟨pb, 0, none⟩ = some (.slice aw Bk.length cw) ∧ (w5.alloc (.cells #[.int .i64 (Bk.length : Int)] 3)).drew.cell? ⟨pb, 2, none⟩ = some vp) := by
          have e := (((Below.refl w5.heap.size w5).drew).alloc (Nat.le_refl _) (.cells #[.int .i64 (Bk.length : Int)] 3)).block pb HS5.out.lt
          have e2 := box3_cells (e.trans HS5.out.box)
          exact ⟨e2.1, e2.2.2.1⟩
        have HBX : Hid (∀ w6, ((w5.drew).alloc (.cells #[.int .i64 (Bk.length : Int)] 3)).grownBy w6 vp.ownBlock → Kpt w5 w6 (fun k => vp.ownBlock = some k) ∧ w6.heap[pb]? = some (.cells #[.slice aw Bk.length cw, .slice at1 T4.length ct1, vp] 104)) := fun w6 hg => by
          have hk : Kpt w5 w6 (fun k => vp.ownBlock = some k) := (below_kpt0 (((Below.refl w5.heap.size w5).drew).alloc (Nat.le_refl _) _) _).trans (grown_kpt hg)
          exact ⟨hk, HS5.out.boxP hk⟩
        have HKP : Hid (∀ (w6 : World) (v2 v : Value), w6.heap[pb]? = some (.cells #[.slice aw Bk.length cw, .slice at1 T4.length ct1, v2] 104) → (w6.setCell ⟨pb, 2, none⟩ v).cell? ⟨pb, 0, none⟩ = some (.slice aw Bk.length cw)) := fun w6 v2 v hb => (box3_cells (heap_setCell_same w6 pb 2 _ _ v hb)).1
        have HSH : Hid (∀ (v : Value) (w6 : World), w6.ownsRow base 3 1 v (pk.length + 1) (pk.map I64 ++ [.int .i64 (Bk.length : Int)]) → ∃ a c, v = .slice a (pk.length + 1) c) := fun v w6 h => by
          obtain ⟨a, c, e, _⟩ := own_slice h
          exact ⟨a, c, e⟩
        refine wp_region_noPanic ?_
        refine wp_region_held_drew (S := fun W => W.cell? ⟨pb, 0, none⟩ = some (.slice aw Bk.length cw)) (by kernel_rfl) (by simpa using c0) (fun hS0 => ?_)
        refine wpAnyH_take (i := 0) (v := .pointer (some ⟨pb, 0, none⟩)) rfl (by kernel_rfl) (by kernel_rfl) (by kernel_rfl) (fun _ _ _ h => h) (Or.inl ⟨by rfl, ?_⟩) (by assumption) ?_
        · intro W hSW
          go_simp
          all_goals (try omega)
        simp only [Act.put]
        refine wpAnyH_take (i := 1) (v := .pointer (some ⟨pb, 0, none⟩)) rfl (by kernel_rfl) (by kernel_rfl) (by kernel_rfl) (fun _ _ _ h => h) (Or.inl ⟨by rfl, ?_⟩) (by assumption) ?_
        · intro W hSW
          go_simp
          all_goals (try omega)
        simp only [Act.put]
        refine wpAnyH_take (i := 2) (v := .pointer (some ⟨pb, 0, none⟩)) rfl (by kernel_rfl) (by kernel_rfl) (by kernel_rfl) (fun _ _ _ h => h) (Or.inl ⟨by rfl, ?_⟩) (by assumption) ?_
        · intro W hSW
          go_simp
          all_goals (try omega)
        simp only [Act.put]
        refine wpAnyH_take (i := 3) (v := .pointer (some ⟨pb, 2, none⟩)) rfl (by kernel_rfl) (by kernel_rfl) (by kernel_rfl) (fun _ _ _ h => h) (Or.inl ⟨by rfl, ?_⟩) (by assumption) ?_
        · intro W hSW
          go_simp
          all_goals (try omega)
        simp only [Act.put]
        refine wpAnyH_take (i := 5) (v := .pointer (some ⟨pb, 0, none⟩)) rfl (by kernel_rfl) (by kernel_rfl) (by kernel_rfl) (fun _ _ _ h => h) (Or.inl ⟨by rfl, ?_⟩) (by assumption) ?_
        · intro W hSW
          go_simp
          all_goals (try omega)
        simp only [Act.put]
        refine wpAnyH_take (i := 6) (v := .pointer (some ⟨pb, 0, none⟩)) rfl (by kernel_rfl) (by kernel_rfl) (by kernel_rfl) (fun _ _ _ h => h) (Or.inl ⟨by rfl, ?_⟩) (by assumption) ?_
        · intro W hSW
          go_simp
          all_goals (try omega)
        simp only [Act.put]
        refine wpAnyH_take (i := 7) (v := .pointer (some ⟨pb, 0, none⟩)) rfl (by kernel_rfl) (by kernel_rfl) (by kernel_rfl) (fun _ _ _ h => h) (Or.inl ⟨by rfl, ?_⟩) (by assumption) ?_
        · intro W hSW
          go_simp
          all_goals (try omega)
        simp only [Act.put]
        refine wpAnyH_take (i := 8) (v := .slice aw Bk.length cw) rfl (by kernel_rfl) (by kernel_rfl) (by kernel_rfl) (fun _ _ _ h => h) (Or.inl ⟨by rfl, ?_⟩) (by assumption) ?_
        · intro W hSW
          go_simp
          all_goals (try omega)
        simp only [Act.put]
        refine wpAnyH_take (i := 9) (v := .int .i64 (Bk.length : Int)) rfl (by kernel_rfl) (by kernel_rfl) (by kernel_rfl) (fun _ _ _ h => h) (Or.inl ⟨by rfl, ?_⟩) (by assumption) ?_
        · intro W hSW
          go_simp
          all_goals (try omega)
        simp only [Act.put]
        refine wpAnyH_ready (rs := [4, 10]) (by kernel_rfl) (by simp) ?_
        refine AllReadyH.cons rfl (fun K hK => ?_) (AllReadyH.cons rfl (fun K hK => ?_) AllReadyH.nil)
        · rw [if_pos (by rfl)]
          go_simp
          refine hK.out _ _ hS0 (fun _ => ?_)
          clear hK K
          refine wpAnyH_ready (rs := [10]) (by kernel_rfl) (by simp) ?_
          refine AllReadyH.cons rfl (fun K hK => ?_) AllReadyH.nil
          rw [if_pos (by rfl)]
          go_simp
          refine hK.out _ _ (HSA.out.1) (fun _ => ?_)
          clear hK K
          refine wpAnyH_ready (rs := [11]) (by kernel_rfl) (by simp) ?_
          refine AllReadyH.cons rfl (fun K hK => ?_) AllReadyH.nil
          refine step_append_at rfl (.tmp 56) (.tmp 62) 58 rfl base 3 i3 (.int .i64 0) 1 8 Tryz.underlying58 hi3 hn0 hn1 hn2 rfl (by decide) _ _ _ rfl HP5.out ⟨w5.heap.size, 0, none⟩ 1 1 [.int .i64 (Bk.length : Int)] rfl rfl (cell_new_one _ _ _) (one_int _) (by unfold maxLen; omega) (by omega) (by simp; omega) ?_
          intro vp6 w6 hown6 hgrow6 _
          obtain ⟨hk6, hbx6⟩ := HBX.out w6 hgrow6
          obtain ⟨ap6, cp6, hvp6⟩ := HSH.out _ _ hown6
          subst hvp6
          refine hK.out _ _ (box3_cells hbx6).1 (fun hS6 => ?_)
          clear hK K c0 c1 c2 f0 f1 f2
          obtain ⟨c0, c1, c2, f0, f1, f2⟩ := box3_cells hbx6
          simp only [Act.put]
          refine wpAnyH_take (i := 12) (v := .pointer (some ⟨pb, 0, none⟩)) rfl (by kernel_rfl) (by kernel_rfl) (by kernel_rfl) (fun _ _ _ h => h) (Or.inl ⟨by rfl, ?_⟩) (by assumption) ?_
          · intro W hSW
            go_simp
            all_goals (try omega)
          simp only [Act.put]
          refine wpAnyH_take (i := 13) (v := .pointer (some ⟨pb, 2, none⟩)) rfl (by kernel_rfl) (by kernel_rfl) (by kernel_rfl) (fun _ _ _ h => h) (Or.inl ⟨by rfl, ?_⟩) (by assumption) ?_
          · intro W hSW
            go_simp
            all_goals (try omega)
          simp only [Act.put]
          refine wpAnyH_ready (rs := [14]) (by kernel_rfl) (by simp) ?_
          refine AllReadyH.cons rfl (fun K hK => ?_) AllReadyH.nil
          rw [if_pos (by rfl)]
          go_simp
          refine hK.out _ _ (HKP.out _ _ _ hbx6) (fun _ => ?_)
          clear hK K
          refine wpAnyH_done (by kernel_rfl) ?_ _
          refine NoPanic.normal ?_
          have hown7 : w6.ownsRow base 3 1 (.slice ap6 (pk.length + 1) cp6) (pk ++ [Bk.length]).length ((pk ++ [Bk.length]).map I64) := by
            have e : (pk ++ [Bk.length]).map I64 = pk.map I64 ++ [I64 Bk.length] := List.map_append
            have e2 : (pk ++ [Bk.length]).length = pk.length + 1 := List.length_append
            rw [e, e2]; exact hown6
          have HSP := HS5.out.place hk6 hown7
          clear hown6 hown7 hgrow6 hk6 hbx6 hS6 c0 c1 c2 f0 f1 f2
          obtain ⟨w7, hw7⟩ : ∃ w7, w7 = w6.setCell ⟨pb, 2, none⟩ (.slice ap6 (pk.length + 1) cp6) := ⟨_, rfl⟩
          rw [← hw7] at HSP ⊢
          clear hw7
          obtain ⟨p7, hp7⟩ : ∃ p7, p7 = pk ++ [Bk.length] := ⟨_, rfl⟩
          rw [← hp7] at HSP
          have HP7 : Hid (p7 = pk ++ [Bk.length]) := hp7
          have HS7 : Hid (PkS base pb (.slice al P.length capl) P w7 (.slice aw Bk.length cw) (.slice at1 T4.length ct1) (.slice ap6 (pk.length + 1) cp6) Bk T4 p7) := HSP.1
          have HB7 : Hid (Below base w w7) := HB5.out.trans HSP.2
          clear HSP hp7
          obtain ⟨c0, c1, c2, f0, f1, f2⟩ := HS7.out.cells
          go_wp2_with fail
          refine (appendLabel_any base _ Bk x _ HS7.out.wire HS7.out.base_le (by omega) (by omega)).mono ?_
          rintro e w8 ⟨v8, rfl, hown8, hk8⟩
          obtain ⟨B8', hB8⟩ : ∃ B8', B8' = Bk ++ UInt8.ofNat x.length :: x := ⟨_, rfl⟩
          rw [← hB8] at hown8
          obtain ⟨a8, cc8, hv8, _, _⟩ := own_slice hown8
          subst hv8
          have HSQ := HS7.out.put hk8 hown8
          have hbx8 := HS7.out.boxW hk8
          have HSQ1 : Hid (PkS base pb (.slice al P.length capl) P (w8.setCell ⟨pb, 0, none⟩ (.slice a8 B8'.length cc8)) (.slice a8 B8'.length cc8) (.slice at1 T4.length ct1) (.slice ap6 (pk.length + 1) cp6) B8' T4 p7) := HSQ.1
          have HB8 : Hid (Below base w (w8.setCell ⟨pb, 0, none⟩ (.slice a8 B8'.length cc8))) := HB7.out.trans HSQ.2
          have HB8' : Hid (B8' = Bk ++ UInt8.ofNat x.length :: x) := hB8
          clear c0 c1 c2 f0 f1 f2 HSQ hown8 hk8 hB8
          obtain ⟨c0, c1, c2, f0, f1, f2⟩ := box3_cells hbx8
          clear hbx8
          go_wp2_with fail
          go_roundw
          case rel =>
            refine ⟨k + 1, _, _, _, .slice a8 B8'.length cc8, .slice at1 T4.length ct1, .slice ap6 (pk.length + 1) cp6, B8', T4, p7, by omega, by go_num, HM, ⟨?_, ?_, ?_⟩, (by rw [← ha]; exact HSQ1), HB8⟩
            · rw [HB8'.out, HEQ.out.1, List.append_assoc]
            · rw [HT4.out, HEQ.out.2.1, List.append_assoc]
            · rw [HP7.out, HEQ.out.2.2, List.append_assoc]
          case measure => simp [intOf]; omega
        · rw [if_pos (by rfl)]
          go_simp
          refine hK.out _ _ (HSA.out.1) (fun _ => ?_)
          clear hK K
          refine wpAnyH_ready (rs := [4]) (by kernel_rfl) (by simp) ?_
          refine AllReadyH.cons rfl (fun K hK => ?_) AllReadyH.nil
          rw [if_pos (by rfl)]
          have hc2 := HSA.out.2
          go_simp
          refine hK.out _ _ (HSA.out.1) (fun _ => ?_)
          clear hK K hc2
          refine wpAnyH_ready (rs := [11]) (by kernel_rfl) (by simp) ?_
          refine AllReadyH.cons rfl (fun K hK => ?_) AllReadyH.nil
          refine step_append_at rfl (.tmp 56) (.tmp 62) 58 rfl base 3 i3 (.int .i64 0) 1 8 Tryz.underlying58 hi3 hn0 hn1 hn2 rfl (by decide) _ _ _ rfl HP5.out ⟨w5.heap.size, 0, none⟩ 1 1 [.int .i64 (Bk.length : Int)] rfl rfl (cell_new_one _ _ _) (one_int _) (by unfold maxLen; omega) (by omega) (by simp; omega) ?_
          intro vp6 w6 hown6 hgrow6 _
          obtain ⟨hk6, hbx6⟩ := HBX.out w6 hgrow6
          obtain ⟨ap6, cp6, hvp6⟩ := HSH.out _ _ hown6
          subst hvp6
          refine hK.out _ _ (box3_cells hbx6).1 (fun hS6 => ?_)
          clear hK K c0 c1 c2 f0 f1 f2
          obtain ⟨c0, c1, c2, f0, f1, f2⟩ := box3_cells hbx6
          simp only [Act.put]
          refine wpAnyH_take (i := 12) (v := .pointer (some ⟨pb, 0, none⟩)) rfl (by kernel_rfl) (by kernel_rfl) (by kernel_rfl) (fun _ _ _ h => h) (Or.inl ⟨by rfl, ?_⟩) (by assumption) ?_
          · intro W hSW
            go_simp
            all_goals (try omega)
          simp only [Act.put]
          refine wpAnyH_take (i := 13) (v := .pointer (some ⟨pb, 2, none⟩)) rfl (by kernel_rfl) (by kernel_rfl) (by kernel_rfl) (fun _ _ _ h => h) (Or.inl ⟨by rfl, ?_⟩) (by assumption) ?_
          · intro W hSW
            go_simp
            all_goals (try omega)
          simp only [Act.put]
          refine wpAnyH_ready (rs := [14]) (by kernel_rfl) (by simp) ?_
          refine AllReadyH.cons rfl (fun K hK => ?_) AllReadyH.nil
          rw [if_pos (by rfl)]
          go_simp
          refine hK.out _ _ (HKP.out _ _ _ hbx6) (fun _ => ?_)
          clear hK K
          refine wpAnyH_done (by kernel_rfl) ?_ _
          refine NoPanic.normal ?_
          have hown7 : w6.ownsRow base 3 1 (.slice ap6 (pk.length + 1) cp6) (pk ++ [Bk.length]).length ((pk ++ [Bk.length]).map I64) := by
            have e : (pk ++ [Bk.length]).map I64 = pk.map I64 ++ [I64 Bk.length] := List.map_append
            have e2 : (pk ++ [Bk.length]).length = pk.length + 1 := List.length_append
            rw [e, e2]; exact hown6
          have HSP := HS5.out.place hk6 hown7
          clear hown6 hown7 hgrow6 hk6 hbx6 hS6 c0 c1 c2 f0 f1 f2
          obtain ⟨w7, hw7⟩ : ∃ w7, w7 = w6.setCell ⟨pb, 2, none⟩ (.slice ap6 (pk.length + 1) cp6) := ⟨_, rfl⟩
          rw [← hw7] at HSP ⊢
          clear hw7
          obtain ⟨p7, hp7⟩ : ∃ p7, p7 = pk ++ [Bk.length] := ⟨_, rfl⟩
          rw [← hp7] at HSP
          have HP7 : Hid (p7 = pk ++ [Bk.length]) := hp7
          have HS7 : Hid (PkS base pb (.slice al P.length capl) P w7 (.slice aw Bk.length cw) (.slice at1 T4.length ct1) (.slice ap6 (pk.length + 1) cp6) Bk T4 p7) := HSP.1
          have HB7 : Hid (Below base w w7) := HB5.out.trans HSP.2
          clear HSP hp7
          obtain ⟨c0, c1, c2, f0, f1, f2⟩ := HS7.out.cells
          go_wp2_with fail
          refine (appendLabel_any base _ Bk x _ HS7.out.wire HS7.out.base_le (by omega) (by omega)).mono ?_
          rintro e w8 ⟨v8, rfl, hown8, hk8⟩
          obtain ⟨B8', hB8⟩ : ∃ B8', B8' = Bk ++ UInt8.ofNat x.length :: x := ⟨_, rfl⟩
          rw [← hB8] at hown8
          obtain ⟨a8, cc8, hv8, _, _⟩ := own_slice hown8
          subst hv8
          have HSQ := HS7.out.put hk8 hown8
          have hbx8 := HS7.out.boxW hk8
          have HSQ1 : Hid (PkS base pb (.slice al P.length capl) P (w8.setCell ⟨pb, 0, none⟩ (.slice a8 B8'.length cc8)) (.slice a8 B8'.length cc8) (.slice at1 T4.length ct1) (.slice ap6 (pk.length + 1) cp6) B8' T4 p7) := HSQ.1
          have HB8 : Hid (Below base w (w8.setCell ⟨pb, 0, none⟩ (.slice a8 B8'.length cc8))) := HB7.out.trans HSQ.2
          have HB8' : Hid (B8' = Bk ++ UInt8.ofNat x.length :: x) := hB8
          clear c0 c1 c2 f0 f1 f2 HSQ hown8 hk8 hB8
          obtain ⟨c0, c1, c2, f0, f1, f2⟩ := box3_cells hbx8
          clear hbx8
          go_wp2_with fail
          go_roundw
          case rel =>
            refine ⟨k + 1, _, _, _, .slice a8 B8'.length cc8, .slice at1 T4.length ct1, .slice ap6 (pk.length + 1) cp6, B8', T4, p7, by omega, by go_num, HM, ⟨?_, ?_, ?_⟩, (by rw [← ha]; exact HSQ1), HB8⟩
            · rw [HB8'.out, HEQ.out.1, List.append_assoc]
            · rw [HT4.out, HEQ.out.2.1, List.append_assoc]
            · rw [HP7.out, HEQ.out.2.2, List.append_assoc]
          case measure => simp [intOf]; omega
      · obtain ⟨j, rfl⟩ : ∃ j : Nat, q = (j : Int) := ⟨q.toNat, by omega⟩
        have hjT := HLT.out j rfl
        have hj : j < ps.length := by rw [← hlen.out]; exact hjT
        obtain ⟨HH, HH2, HH3⟩ := HHIT.out j hj rfl
        have HHH : Hid (packL T ps P = pre ++ ptr (ps[j]'hj) ∧ newS T P = sP ∧ newP T B.length P = pP) := ⟨HH, HH2, HH3⟩
        clear HH HH2 HH3
        have hpj := hps.out _ (List.getElem_mem hj)
        obtain ⟨ap, cp, hvp, hcp, hmp, HPR⟩ := irow_value (irow_own HS2.out.places)
        have hjk : j < pk.length := by rw [HEQ.out.2.2, List.length_append]; omega
        obtain ⟨bp, op, hap, hbp, hcpx⟩ := HPR.out (by omega)
        have hcj := hcpx j hjk
        have hpe : pk[j]'hjk = ps[j]'hj := by
          have h1 : pk[j]? = some (ps[j]'hj) := by rw [HEQ.out.2.2, List.getElem?_append_left hj, List.getElem?_eq_getElem hj]
          rw [List.getElem?_eq_getElem hjk] at h1
          exact Option.some.inj h1
        rw [hpe] at hcj
        subst hvp
        subst hap
        obtain ⟨pj, hpje⟩ : ∃ pj, pj = ps[j]'hj := ⟨_, rfl⟩
        rw [← hpje] at hcj hpj HHH
        clear hcpx hpje HPR hpe
        go_wp2_with fail
        have HS3 : Hid (PkS base pb (.slice al P.length capl) P w3.drew (.slice aw Bk.length cw) vt (.slice (some ⟨bp, op, none⟩) pk.length cp) Bk Tk pk) := HS2.out.below (Below.refl _ _).drew
        have HSX : Hid (∀ w4, Kpt w3.drew w4 (fun k => (Value.slice aw Bk.length cw).ownBlock = some k) → w4.cell? ⟨pb, 2, none⟩ = some (.slice (some ⟨bp, op, none⟩) pk.length cp) ∧ w4.cell? ⟨bp, op + j, none⟩ = some (.int .i64 (pj : Int))) := fun w4 hk => by
          refine ⟨(box3_cells (HS3.out.boxW hk)).2.2.1, hk.cell (p := ⟨bp, op + j, none⟩) (by simpa using hcj) (fun e => own_ne (by decide) HS3.out.wire HS3.out.places bp e rfl)⟩
        have hpb : bp ≠ pb := fun e => own_box HS2.out.places HS2.out.box (by decide) (by rw [← e]; rfl)
        refine wp_region_noPanic ?_
        refine wp_region_held_drew (S := fun W => W.cell? ⟨pb, 2, none⟩ = some (.slice (some ⟨bp, op, none⟩) pk.length cp) ∧ W.cell? ⟨bp, op + j, none⟩ = some (.int .i64 (pj : Int))) (by kernel_rfl) (HSX.out _ (Kpt.refl _ _)) (fun hS0 => ?_)
        refine wpAnyH_take (i := 0) (v := .pointer (some ⟨pb, 0, none⟩)) rfl (by kernel_rfl) (by kernel_rfl) (by kernel_rfl) (fun _ _ _ h => h) (Or.inl ⟨by rfl, ?_⟩) (by assumption) ?_
        · intro W hSW
          go_simp
          all_goals (try omega)
        simp only [Act.put]
        refine wpAnyH_take (i := 1) (v := .pointer (some ⟨pb, 0, none⟩)) rfl (by kernel_rfl) (by kernel_rfl) (by kernel_rfl) (fun _ _ _ h => h) (Or.inl ⟨by rfl, ?_⟩) (by assumption) ?_
        · intro W hSW
          go_simp
          all_goals (try omega)
        simp only [Act.put]
        refine wpAnyH_take (i := 2) (v := .pointer (some ⟨pb, 0, none⟩)) rfl (by kernel_rfl) (by kernel_rfl) (by kernel_rfl) (fun _ _ _ h => h) (Or.inl ⟨by rfl, ?_⟩) (by assumption) ?_
        · intro W hSW
          go_simp
          all_goals (try omega)
        simp only [Act.put]
        refine wpAnyH_take (i := 3) (v := .pointer (some ⟨pb, 0, none⟩)) rfl (by kernel_rfl) (by kernel_rfl) (by kernel_rfl) (fun _ _ _ h => h) (Or.inl ⟨by rfl, ?_⟩) (by assumption) ?_
        · intro W hSW
          go_simp
          all_goals (try omega)
        simp only [Act.put]
        refine wpAnyH_take (i := 5) (v := .pointer (some ⟨pb, 0, none⟩)) rfl (by kernel_rfl) (by kernel_rfl) (by kernel_rfl) (fun _ _ _ h => h) (Or.inl ⟨by rfl, ?_⟩) (by assumption) ?_
        · intro W hSW
          go_simp
          all_goals (try omega)
        simp only [Act.put]
        refine wpAnyH_take (i := 6) (v := .pointer (some ⟨pb, 0, none⟩)) rfl (by kernel_rfl) (by kernel_rfl) (by kernel_rfl) (fun _ _ _ h => h) (Or.inl ⟨by rfl, ?_⟩) (by assumption) ?_
        · intro W hSW
          go_simp
          all_goals (try omega)
        simp only [Act.put]
        refine wpAnyH_take (i := 7) (v := .pointer (some ⟨pb, 2, none⟩)) rfl (by kernel_rfl) (by kernel_rfl) (by kernel_rfl) (fun _ _ _ h => h) (Or.inl ⟨by rfl, ?_⟩) (by assumption) ?_
        · intro W hSW
          go_simp
          all_goals (try omega)
        simp only [Act.put]
        refine wpAnyH_take (i := 8) (v := .slice (some ⟨bp, op, none⟩) pk.length cp) rfl (by kernel_rfl) (by kernel_rfl) (by kernel_rfl) (fun _ _ _ h => h) (Or.inl ⟨by rfl, ?_⟩) (by assumption) ?_
        · intro W hSW
          obtain ⟨hs2, hs3⟩ := hSW
          go_simp
          all_goals (try omega)
        simp only [Act.put]
        refine wpAnyH_take (i := 9) (v := .int .i64 (j : Int)) rfl (by kernel_rfl) (by kernel_rfl) (by kernel_rfl) (fun _ _ _ h => h) (Or.inl ⟨by rfl, ?_⟩) (by assumption) ?_
        · intro W hSW
          go_simp
          all_goals (try omega)
        simp only [Act.put]
        refine wpAnyH_take (i := 10) (v := .pointer (some ⟨bp, op + j, none⟩)) rfl (by kernel_rfl) (by kernel_rfl) (by kernel_rfl) (fun _ _ _ h => h) (Or.inl ⟨by rfl, ?_⟩) (by assumption) ?_
        · intro W hSW
          obtain ⟨hs2, hs3⟩ := hSW
          go_simp
          all_goals (try omega)
        simp only [Act.put]
        refine wpAnyH_take (i := 11) (v := .int .i64 (pj : Int)) rfl (by kernel_rfl) (by kernel_rfl) (by kernel_rfl) (fun _ _ _ h => h) (Or.inl ⟨by rfl, ?_⟩) (by assumption) ?_
        · intro W hSW
          obtain ⟨hs2, hs3⟩ := hSW
          go_simp
          all_goals (try omega)
        simp only [Act.put]
        refine wpAnyH_ready (rs := [4]) (by kernel_rfl) (by simp) ?_
        refine AllReadyH.cons rfl (fun K hK => ?_) AllReadyH.nil
        rw [if_pos (by rfl)]
        go_simp
        refine hK.out _ _ hS0 (fun _ => ?_)
        clear hK K
        refine wpAnyH_ready (rs := [12]) (by kernel_rfl) (by simp) ?_
        refine AllReadyH.cons rfl (fun K hK => ?_) AllReadyH.nil
        rw [if_pos (by rfl)]
        go_simp
        refine (appendPointer_any base _ Bk pj _ HS3.out.wire HS3.out.base_le (by omega) hpj).mono ?_
        rintro e w4 ⟨v4, rfl, hown4, hk4⟩
        go_simp
        obtain ⟨B4, hB4⟩ : ∃ B4, B4 = Bk ++ ptr pj := ⟨_, rfl⟩
        rw [← hB4] at hown4
        have HB4 : Hid (B4 = Bk ++ ptr pj) := hB4
        clear hB4
        obtain ⟨a4, cc4, hv4, _, _⟩ := own_slice hown4
        subst hv4
        have HSQ := HS3.out.put hk4 hown4
        have hbx4 := HS3.out.boxW hk4
        refine hK.out _ _ (HSX.out w4 hk4) (fun hS4 => ?_)
        clear hK K c0 c1 c2 f0 f1 f2
        obtain ⟨c0, c1, c2, f0, f1, f2⟩ := box3_cells hbx4
        refine wpAnyH_take (i := 13) (v := .pointer (some ⟨pb, 0, none⟩)) rfl (by kernel_rfl) (by kernel_rfl) (by kernel_rfl) (fun _ _ _ h => h) (Or.inl ⟨by rfl, ?_⟩) (by assumption) ?_
        · intro W hSW
          go_simp
          all_goals (try omega)
        simp only [Act.put]
        refine wpAnyH_take (i := 14) (v := .pointer (some ⟨pb, 0, none⟩)) rfl (by kernel_rfl) (by kernel_rfl) (by kernel_rfl) (fun _ _ _ h => h) (Or.inl ⟨by rfl, ?_⟩) (by assumption) ?_
        · intro W hSW
          go_simp
          all_goals (try omega)
        simp only [Act.put]
        refine wpAnyH_ready (rs := [15]) (by kernel_rfl) (by simp) ?_
        refine AllReadyH.cons rfl (fun K hK => ?_) AllReadyH.nil
        rw [if_pos (by rfl)]
        go_simp
        refine hK.out _ _ ⟨(box3_cells HSQ.1.box).2.2.1, ?_⟩ (fun _ => ?_)
        · rw [World.cell?_setCell_far _ _ _ _ (show pb ≠ bp from fun e => hpb e.symm)]; exact hS4.2
        clear hK K
        refine wpAnyH_done (by kernel_rfl) ?_ _
        refine NoPanic.normal ?_
        have HF : Hid (∃ vw' vt' vp', PkS base pb (.slice al P.length capl) P (w4.setCell ⟨pb, 0, none⟩ (.slice a4 B4.length cc4)) vw' vt' vp' (B ++ packL T ps P) (T ++ newS T P) (ps ++ newP T B.length P) ∧ Below base w (w4.setCell ⟨pb, 0, none⟩ (.slice a4 B4.length cc4))) := by
          refine ⟨.slice a4 B4.length cc4, vt, .slice (some ⟨bp, op, none⟩) pk.length cp, ?_, HB2.out.trans ((below_kpt (B := base) ((Below.refl base w3).drew)).below HS2.out.base_le (fun k h1 h2 => by omega) |>.trans HSQ.2)⟩
          rw [HHH.out.1, HHH.out.2.1, HHH.out.2.2, ← List.append_assoc, ← HEQ.out.1, ← HEQ.out.2.1, ← HEQ.out.2.2, ← HB4.out]
          exact HSQ.1
        go_wp2_with fail
        (try simp only [Exit.inBlock, Exit.then]); refine bodyPost_ret (results_none rfl _ _ _) rfl ?_
        exact ⟨rfl, HF.out⟩
    · obtain ⟨HE1, HE2, HE3⟩ := HN.out.fin hlt
      have HHH : Hid (packL T ps P = pre ++ [0] ∧ newS T P = sP ∧ newP T B.length P = pP) := ⟨HE1, HE2, HE3⟩
      clear HE1 HE2 HE3
      go_wp2_with (first | (at_builtin; refine wpList_append_own _ rfl (.tmp 80) (.tmp 81) 22 rfl base 5 i0 (.int .u8 0) 1 1 Tryz.underlying22 hi hz0 hz1 hz2 rfl (by decide) _ _ _ rfl (HS.out.wire.alloc _) ⟨wr.heap.size, 0, none⟩ 1 1 [.int .u8 0] rfl rfl ?d1 ?d2 ?d3 ?d4 ?d5 ?_))
      case d1 => exact cell_new_one _ _ _
      case d2 => exact one_byte _
      case d3 => unfold maxLen; omega
      case d4 => omega
      case d5 => simp; exact Nat.le_succ_of_le HS.out.base_le
      intro v1 w1 hown1 hgrow1 _
      have hk1 : Kpt wr w1 (fun k => (Value.slice aw Bk.length cw).ownBlock = some k) := (kpt_alloc _ _ _).trans (grown_kpt hgrow1)
      obtain ⟨B4, hB4⟩ : ∃ B4, B4 = Bk ++ [0] := ⟨_, rfl⟩
      have hown4 : w1.ownsRow base 5 1 v1 B4.length (B4.map B8) := by
        have e : (Bk ++ [(0 : UInt8)]).map B8 = Bk.map B8 ++ [.int .u8 0] := List.map_append
        have e2 : (Bk ++ [(0 : UInt8)]).length = Bk.length + 1 := List.length_append
        rw [hB4, e, e2]; exact hown1
      have HB4 : Hid (B4 = Bk ++ [0]) := hB4
      clear hB4
      obtain ⟨a4, cc4, hv4, _, _⟩ := own_slice hown4
      subst hv4
      have HSQ := HS.out.put hk1 hown4
      have hbx4 := HS.out.boxW hk1
      have HF : Hid (∃ vw' vt' vp', PkS base pb (.slice al P.length capl) P (w1.setCell ⟨pb, 0, none⟩ (.slice a4 B4.length cc4)) vw' vt' vp' (B ++ packL T ps P) (T ++ newS T P) (ps ++ newP T B.length P) ∧ Below base w (w1.setCell ⟨pb, 0, none⟩ (.slice a4 B4.length cc4))) := by
        refine ⟨.slice a4 B4.length cc4, vt, vp, ?_, HB.out.trans HSQ.2⟩
        rw [HHH.out.1, HHH.out.2.1, HHH.out.2.2, ← List.append_assoc, ← HEQ.out.1, ← HEQ.out.2.1, ← HEQ.out.2.2, ← HB4.out]
        exact HSQ.1
      clear c0 c1 c2 f0 f1 f2 hown1 hown4 hgrow1 hk1 HSQ
      obtain ⟨c0, c1, c2, f0, f1, f2⟩ := box3_cells hbx4
      clear hbx4
      go_wp2_with fail
      (try simp only [Exit.inBlock, Exit.then]); refine bodyPost_end (results_none rfl _ _ _) rfl ?_
      exact ⟨rfl, HF.out⟩
end Go.Proofs.YtpghpeombednkaaGreatDoor
