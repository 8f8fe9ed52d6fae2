import Derived.Test.YtjbhhllfbonaiaaZ18
import Derived.Test.YtjbhhllfbonaiaaZ19
import Derived.Test.YtjbhhllfbonaiaaZ17
import Derived.Test.YtjbhhllfbonaiaaZ13
import Derived.Test.YtjbhhllfbonaiaaZ06
namespace Go.Proofs.Ytjbhhllfbonaiaa.lawAlias
open Go.RowKit

theorem take_sum {L : List Int} {k : Nat} (h : k < L.length) : (L.take (k + 1)).sum = (L.take k).sum + L[k] := by
  rw [List.take_succ_eq_append_getElem h, List.sum_append]; simp
theorem ownc_row {w : World} {base : Nat} {v : Value} {O : List ColT} (h : OwnC w base v O) : ColRow w v O := by
  rcases h with ⟨rfl, rfl⟩ | ⟨g, cap, rfl, h1, h2, _, h3⟩
  · exact ⟨none, 0, rfl, Nat.le_refl _, by unfold maxLen; omega, .inl rfl⟩
  · exact h3.row h1 h2

theorem pkn_in {L : List ColT} {T : Nat} (hf : fitA (T : Int) L = true) (hT : 0 < T) {d : Nat} (hd : d < L.length * T) : ∃ k : Nat, k < L.length ∧ pkN L (T : Int) (d : Int) = (k : Int) := by
  have hc : d / T < L.length := Nat.div_lt_of_lt_mul (by rw [Nat.mul_comm]; exact hd)
  have e : d / T * T + d % T = d := Nat.div_add_mod' d T
  have h := pkm_at (L := L) hT hc (Nat.mod_lt d hT)
  rw [e] at h
  have hb := fit_col hf hc
  have he : L.getD (d / T) (0, 0) = L[d / T] := by simp [hc]
  rw [he] at h
  rw [h]
  split
  · exact ⟨d / T, hc, rfl⟩
  · exact ⟨(L[d / T]).2.toNat, by omega, by omega⟩
theorem cnt_betw (L : List ColT) (t : Int) : ∀ d : Nat, betw (d : Int) (cntD L t d)
  | 0 => fun x hx => by rw [(List.mem_replicate.1 hx).2]; exact ⟨Int.le_refl _, Int.le_refl _⟩
  | d + 1 => by
    have h := bump_betw (m := 1) (i := (pkN L t (d : Int)).toNat) (x := 1) (cnt_betw L t d) (by omega) ⟨by omega, by omega⟩
    exact h
theorem cnt_end {C : List ColT} {T n N : Nat} (hf : fitA (T : Int) C = true) (hT : 0 < T) (hl : C.length = n) (hN : N = n * T) : cntD C (T : Int) N = oftK C (T : Int) n := by
  have h2 := cnt_all hf hT
  unfold oftL at h2
  rw [if_pos hf] at h2
  subst hl
  subst hN
  exact h2
theorem cnt_next {C : List ColT} {t : Int} {d k0 : Nat} (hkl : k0 < (cntD C t d).length) (hp : pkN C t (d : Int) = (k0 : Int)) : (cntD C t d).set k0 ((cntD C t d)[k0]'hkl + 1) = cntD C t (d + 1) := by
  rw [cntD, hp, show ((k0 : Int)).toNat = k0 by omega, bump_at hkl]
theorem meas1 {N d : Nat} {z : Int} (h : d < N) (hz : z = (d : Int) + 1) : N - (intOf (Value.int .i64 z)).toNat < N - (intOf (Value.int .i64 (d : Int))).toNat := by
  subst hz; simp [intOf]; omega
theorem fit_good {L : List ColT} {t : Int} (h : fitA t L = true) : goodA L = true := by
  unfold fitA at h
  simp only [Bool.and_eq_true] at h
  exact h.1.2

set_option maxRecDepth 20000 in
set_option maxHeartbeats 16000000 in
theorem walk (v : Value) (P : List Int) (u : Value) (R : List Int) (w : World) (hr : ZRow .u8 w v P) (hb : Hid (∀ x ∈ P, 0 ≤ x ∧ x ≤ 255)) (hr2 : ZRow .u8 w u R) (hb2 : Hid (∀ x ∈ R, 0 ≤ x ∧ x ≤ 255)) :
    Calls Try.prog 3 #[v, u] w fun e w' => e = .returned (.bool true) ∧ Below w.heap.size w w' := by
  have HR : Hid (ZRow .u8 w v P) := hr
  have HR2 : Hid (ZRow .u8 w u R) := hr2
  obtain ⟨a1, cap1, rfl, hcap1, hmax1, _⟩ := zrow_value hr
  obtain ⟨a2, cap2, rfl, hcap2, hmax2, _⟩ := zrow_value hr2
  clear hr hr2
  have HDT : Hid (∀ W, Below w.heap.size w W → Calls Try.prog 4 #[.slice a1 P.length cap1] W fun e w' => (∃ u L, e = .returned u ∧ (1 ≤ L.length ∧ L.length ≤ 13) ∧ DrW w' W.heap.size u L) ∧ Below W.heap.size W w') := fun W hW => drawAliasOf_any _ P W (HR.out.kept hW) hb (by omega)
  have HDP : Hid (∀ W, Below w.heap.size w W → Calls Try.prog 12 #[.slice a2 R.length cap2] W fun e w' => (∃ u L t d, e = .returned (.tuple #[u, .int .i64 t, .int .i64 d]) ∧ (1 ≤ L.length ∧ L.length ≤ 13) ∧ DrCo w' W.heap.size u L) ∧ Below W.heap.size W w') := fun W hW => drawPickBy_any _ R W (HR2.out.kept hW) hb2 (by omega)
  by_cases hlen : (1048576 : Int) < wrap64 ((P.length : Int) + (R.length : Int))
  · go_enter Try.func3, Try.ntmps3
    go_wp2_with fail
    go_ret
    exact ⟨rfl, Below.refl _ _⟩
  · go_enter Try.func3, Try.ntmps3
    go_wp2_with fail
    refine (HDT.out _ (Below.refl _ _)).mono ?_
    rintro e w1 ⟨⟨x, L, rfl, hL, t0, c0, rfl, hc0, hc1, hbt, hz⟩, hb1⟩
    have HIA : Hid (∀ W, ZSRow W t0 L → Calls Try.prog 5 #[.slice (some ⟨t0, 0, none⟩) L.length c0] W fun e w' => AlA w' W.heap.size (goodW L) (aliL L) e ∧ Below W.heap.size W w') := fun W h => iAliasOf_any _ L W (h.rowc hc0 hc1) (by omega)
    have HSA : Hid (∀ W, ZSRow W t0 L → Calls Try.prog 6 #[.slice (some ⟨t0, 0, none⟩) L.length c0] W fun e w' => AlA w' W.heap.size (goodW L) (aliL L) e ∧ Below W.heap.size W w') := fun W h => sAliasOf_any _ L W (h.rowc hc0 hc1) (by omega)
    have HGI : Hid (∀ W, ZSRow W t0 L → Calls Try.prog 7 #[.slice (some ⟨t0, 0, none⟩) L.length c0] W fun e w' => e = .returned (.bool (goodW L)) ∧ w' = W) := fun W h => iGoodWeights_any _ L W (h.rowc hc0 hc1)
    have HZ1 : Hid (ZSRow w1 t0 L) := hz
    obtain ⟨n, hn⟩ : ∃ n, n = L.length := ⟨_, rfl⟩
    have HNL : Hid (L.length = n) := hn.symm
    obtain ⟨ok, hok⟩ : ∃ ok, ok = goodW L := ⟨_, rfl⟩
    have HOK : Hid (ok = goodW L) := hok
    rw [← hok, HNL.out] at HIA HSA HGI
    rw [HNL.out] at hL hc0 ⊢
    have e1 : (ok != ok) = false := by simp
    obtain ⟨C, hC⟩ : ∃ C, C = (if ok = true then aliL L else []) := ⟨_, rfl⟩
    have HCE : Hid (C = (if ok = true then aliL L else [])) := hC
    unfold AlA at HIA HSA
    rw [← hC] at HIA HSA
    clear hok hC hn hz hlen
    go_wp2_with fail
    refine (HIA.out _ HZ1.out).mono ?_
    rintro e w2 ⟨⟨p, rfl, hp⟩, hd2⟩
    have HZ2 : Hid (ZSRow w2 t0 L) := HZ1.out.kept hd2
    have hbw2 := hb1.trans (hd2.mono hb1.size)
    obtain ⟨pa, pc, rfl, hpc, hpm, HPR⟩ := col_value (ownc_row hp)
    have HPC : Hid (∀ W, Below w2.heap.size w2 W → ColRow W (.slice pa C.length pc) C) := fun W hW => (ownc_row hp).kept hW
    clear HZ1 hp hd2 hb1
    go_wp2_with fail
    refine (HSA.out _ HZ2.out).mono ?_
    rintro e w3 ⟨⟨q, rfl, hq⟩, hd3⟩
    have HZ3 : Hid (ZSRow w3 t0 L) := HZ2.out.kept hd3
    have hbw3 := hbw2.trans (hd3.mono hbw2.size)
    obtain ⟨qa, qc, rfl, hqc, hqm, HQR⟩ := col_value (ownc_row hq)
    have HB23 : Hid (Below w2.heap.size w2 w3) := hd3
    clear HZ2 hq hd3 hbw2
    have e2 : ((C.length : Int) != (C.length : Int)) = false := by simp
    go_wp2_with fail
    refine (HGI.out _ HZ3.out).mono ?_
    rintro e w4 ⟨rfl, rfl⟩
    have HC12 : Hid (C.length ≤ 12) := by
      show _ ≤ _
      rw [HCE.out]
      cases hk : ok with
      | false => simp
      | true =>
        have h1 := ali_factsA (A := L) (by rw [← HOK.out, hk])
        rw [if_pos rfl, ali_lengthA]; omega
    have hbb4 := hbw3
    go_wp2_with fail
    go_loopw [65] (fun iv wr => ∃ i : Nat, i ≤ C.length ∧ iv = .int .i64 (i : Int) ∧ Below w4.heap.size w4 wr) (fun iv _ => C.length - (intOf iv).toNat)
    case atStart => exact ⟨0, Nat.zero_le _, rfl, Below.refl _ _⟩
    case round =>
      obtain ⟨i, hi2, rfl, hbr⟩ := hrel
      have hc12 := HC12.out
      by_cases hlt : i < C.length
      · obtain ⟨pb, po, hpa, hpbl, hpcel⟩ := HPR.out (by omega)
        obtain ⟨qb, qo, hqa, hqbl, hqcel⟩ := HQR.out (by omega)
        obtain ⟨cx, hcx⟩ : ∃ cx, cx = C[i]'hlt := ⟨_, rfl⟩
        have hp0 := hpcel i hlt
        have hq0 := hqcel i hlt
        rw [← hcx] at hp0 hq0
        obtain ⟨ca, cb⟩ := cx
        have HPX : Hid (∀ W, Below wr.heap.size wr W → (W.cell? ⟨pb, po + i * 2, none⟩ = some (.int .i64 ca) ∧ W.cell? ⟨pb, po + i * 2 + 1, none⟩ = some (.int .i64 cb)) ∧ W.cell? ⟨qb, qo + i * 2, none⟩ = some (.int .i64 ca) ∧ W.cell? ⟨qb, qo + i * 2 + 1, none⟩ = some (.int .i64 cb)) := fun W hW => by
          have h2 := hbr.trans (hW.mono hbr.size)
          have h1 := HB23.out.trans (h2.mono HB23.out.size)
          exact ⟨hp0.kept h1, hq0.kept h2⟩
        have hSX : Below wr.heap.size wr wr.drew := (Below.refl _ _).drew
        rw [hpa, hqa]
        clear hpcel hqcel hp0 hq0 hcx hpa hqa
        go_wp2_with fail
        refine wp_region_held_drew (S := fun W : World => Below wr.heap.size wr W) (by kernel_rfl) hSX (fun hHeld => ?_)
        refine wpAnyH_take (i := 0) (v := .slice (some ⟨pb, po, none⟩) C.length pc) rfl (by kernel_rfl) (by kernel_rfl) (by kernel_rfl) (fun _ _ _ h => h) (Or.inl ⟨by rfl, ?_⟩) (by assumption) ?_
        · intro W hSW
          go_simp
        simp only [Act.put, List.getElem_toArray, List.getElem_cons_zero, List.setIfInBounds_toArray, List.set_cons_succ, List.set_cons_zero]
        refine wpAnyH_take (i := 1) (v := .int .i64 (i : Int)) rfl (by kernel_rfl) (by kernel_rfl) (by kernel_rfl) (fun _ _ _ h => h) (Or.inl ⟨by rfl, ?_⟩) (by assumption) ?_
        · intro W hSW
          go_simp
        simp only [Act.put, List.getElem_toArray, List.getElem_cons_succ, List.getElem_cons_zero, List.setIfInBounds_toArray, List.set_cons_succ, List.set_cons_zero]
        refine wpAnyH_take (i := 2) (v := .pointer (some ⟨pb, po + i * 2, none⟩)) rfl (by kernel_rfl) (by kernel_rfl) (by kernel_rfl) (fun _ _ _ h => h) (Or.inl ⟨by rfl, ?_⟩) (by assumption) ?_
        · intro W hSW
          go_simp
        simp only [Act.put, List.getElem_toArray, List.getElem_cons_succ, List.getElem_cons_zero, List.setIfInBounds_toArray, List.set_cons_succ, List.set_cons_zero]
        refine wpAnyH_take (i := 3) (v := .agg #[.int .i64 ca, .int .i64 cb]) rfl (by kernel_rfl) (by kernel_rfl) (by kernel_rfl) (fun _ _ _ h => h) (Or.inl ⟨by rfl, ?_⟩) (by assumption) ?_
        · intro W hSW
          obtain ⟨⟨p0, p1⟩, q0, q1⟩ := HPX.out W hSW
          go_simp
        simp only [Act.put, List.getElem_toArray, List.getElem_cons_succ, List.getElem_cons_zero, List.setIfInBounds_toArray, List.set_cons_succ, List.set_cons_zero]
        refine wpAnyH_take (i := 4) (v := .slice (some ⟨qb, qo, none⟩) C.length qc) rfl (by kernel_rfl) (by kernel_rfl) (by kernel_rfl) (fun _ _ _ h => h) (Or.inl ⟨by rfl, ?_⟩) (by assumption) ?_
        · intro W hSW
          go_simp
        simp only [Act.put, List.getElem_toArray, List.getElem_cons_succ, List.getElem_cons_zero, List.setIfInBounds_toArray, List.set_cons_succ, List.set_cons_zero]
        refine wpAnyH_take (i := 5) (v := .int .i64 (i : Int)) rfl (by kernel_rfl) (by kernel_rfl) (by kernel_rfl) (fun _ _ _ h => h) (Or.inl ⟨by rfl, ?_⟩) (by assumption) ?_
        · intro W hSW
          go_simp
        simp only [Act.put, List.getElem_toArray, List.getElem_cons_succ, List.getElem_cons_zero, List.setIfInBounds_toArray, List.set_cons_succ, List.set_cons_zero]
        refine wpAnyH_take (i := 6) (v := .pointer (some ⟨qb, qo + i * 2, none⟩)) rfl (by kernel_rfl) (by kernel_rfl) (by kernel_rfl) (fun _ _ _ h => h) (Or.inl ⟨by rfl, ?_⟩) (by assumption) ?_
        · intro W hSW
          go_simp
        simp only [Act.put, List.getElem_toArray, List.getElem_cons_succ, List.getElem_cons_zero, List.setIfInBounds_toArray, List.set_cons_succ, List.set_cons_zero]
        refine wpAnyH_take (i := 7) (v := .agg #[.int .i64 ca, .int .i64 cb]) rfl (by kernel_rfl) (by kernel_rfl) (by kernel_rfl) (fun _ _ _ h => h) (Or.inl ⟨by rfl, ?_⟩) (by assumption) ?_
        · intro W hSW
          obtain ⟨⟨p0, p1⟩, q0, q1⟩ := HPX.out W hSW
          go_simp
        simp only [Act.put, List.getElem_toArray, List.getElem_cons_succ, List.getElem_cons_zero, List.setIfInBounds_toArray, List.set_cons_succ, List.set_cons_zero]
        refine wpAnyH_take (i := 8) (v := .bool false) rfl (by kernel_rfl) (by kernel_rfl) (by kernel_rfl) (fun _ _ _ h => h) (Or.inl ⟨by rfl, ?_⟩) (by assumption) ?_
        · intro W hSW
          go_simp
        simp only [Act.put, List.getElem_toArray, List.getElem_cons_succ, List.getElem_cons_zero, List.setIfInBounds_toArray, List.set_cons_succ, List.set_cons_zero]
        refine wpAnyH_done (by kernel_rfl) ?_ _
        have hbd := hbr.trans (hSX.mono hbr.size)
        clear hSX HPX
        generalize wr.drew = wz at *
        go_wp2_with fail
        go_roundw
        case rel => exact ⟨i + 1, by omega, by go_num, hbd⟩
        case measure => simp [intOf]; omega
      · have HW : Hid (Below w.heap.size w wr) := hbb4.trans (hbr.mono hbb4.size)
        cases ok with
        | false =>
          have HBR : Hid (Below w.heap.size w wr) := HW.out
          go_wp2_with fail
          refine (HDP.out _ HBR.out).mono ?_
          rintro e y1 ⟨⟨x, M, t, d, rfl, hM, gm, cm, rfl, hm1, hm2, hm3, hco⟩, hd1⟩
          have hcr := hco.row hm1 (by unfold maxLen; omega)
          have HDR : Hid (∀ Y, Below y1.heap.size y1 Y → ColRow Y (.slice (some ⟨gm, 0, none⟩) M.length cm) M) := fun Y hY => hcr.kept hY
          have hby := HBR.out.trans (hd1.mono HBR.out.size)
          obtain ⟨kk, hkk⟩ : ∃ kk : Int, kk = (if pkB M t d then pkN M t d else 0) := ⟨_, rfl⟩
          obtain ⟨bb, hbb⟩ : ∃ bb, bb = pkB M t d := ⟨_, rfl⟩
          have HPI : Hid (∀ Y, Below y1.heap.size y1 Y → Calls Try.prog 10 #[.slice (some ⟨gm, 0, none⟩) M.length cm, .int .i64 t, .int .i64 d] Y fun e w' => e = .returned (.tuple #[.int .i64 kk, .bool bb]) ∧ Below Y.heap.size Y w') := fun Y hY => by
            rw [hkk, hbb]; exact iPickBy_any _ t d M Y (HDR.out Y hY)
          have HPS : Hid (∀ Y, Below y1.heap.size y1 Y → Calls Try.prog 13 #[.slice (some ⟨gm, 0, none⟩) M.length cm, .int .i64 t, .int .i64 d] Y fun e w' => e = .returned (.tuple #[.int .i64 kk, .bool bb]) ∧ Below Y.heap.size Y w') := fun Y hY => by
            rw [hkk, hbb]; exact sPickBy_any _ t d M Y (HDR.out Y hY)
          clear hkk hbb hco hcr hd1 HDR
          go_wp2_with fail
          refine (HPI.out _ (Below.refl _ _)).mono ?_
          rintro e y2 ⟨rfl, hd2⟩
          have hby2 := hby.trans (hd2.mono hby.size)
          have HD2 : Hid (Below y1.heap.size y1 y2) := hd2
          clear hd2
          go_wp2_with fail
          refine (HPS.out _ HD2.out).mono ?_
          rintro e y3 ⟨rfl, hd3⟩
          have HBZ : Hid (Below w.heap.size w y3) := hby2.trans (hd3.mono hby2.size)
          have e8 : (bb == bb) = true := by simp
          have e9 : (kk == kk) = true := by simp
          clear hby hby2 hd3
          cases bb with
          | true =>
            go_wp2_with fail
            go_ret
            exact ⟨rfl, HBZ.out⟩
          | false =>
            go_wp2_with fail
            go_ret
            exact ⟨rfl, HBZ.out⟩
        | true =>
          have hg : goodW L = true := HOK.out.symm
          have hCA : C = aliL L := by have h := HCE.out; rwa [if_pos rfl] at h
          obtain ⟨hT1, hT2, hn1, hn2⟩ := ali_factsA hg
          have hwt := (goodW_parts hg).2.1
          have HTK : Hid (∀ k, k ≤ n → 0 ≤ (L.take k).sum ∧ (L.take k).sum ≤ 600) := fun k hk => by
            have h2 : (L.take k).all wtB = true := List.all_eq_true.2 fun x hx => List.all_eq_true.1 hwt x (List.mem_of_mem_take hx)
            have h3 := wt_sum (L.take k) h2
            rw [List.length_take] at h3; omega
          have HWT : Hid (∀ k, (hk : k < L.length) → 0 ≤ L[k] ∧ L[k] ≤ 50) := fun k hk => by
            have := wt_in (List.all_eq_true.1 hwt _ (List.getElem_mem hk)); omega
          have hLC : C.length = n := by rw [hCA, ali_lengthA]; exact HNL.out
          obtain ⟨T, hT⟩ : ∃ T : Nat, L.sum = (T : Int) := ⟨L.sum.toNat, by omega⟩
          have hTp : 0 < T ∧ T ≤ 600 := by omega
          have HF : Hid (fitA (T : Int) C = true) := by show _ = _; rw [hCA, ← hT]; exact ali_fitA hg
          have HOL : Hid (oftK C (T : Int) n = L.map (fun a => a * (n : Int))) := by
            have h := oft_aliA hg
            rw [HNL.out, hT, ← hCA] at h
            unfold oftL at h
            rw [HF.out, hLC] at h
            exact h
          have HT : Hid (L.sum = (T : Int)) := hT
          have HLC : Hid (C.length = n) := hLC
          have HPZ : Hid (∀ W, Below w4.heap.size w4 W → ColRow W (.slice pa C.length pc) C) := fun W hW => HPC.out W (HB23.out.trans (hW.mono HB23.out.size))
          have HZR : Hid (∀ W, Below w4.heap.size w4 W → ZSRow W t0 L) := fun W hW => HZ3.out.kept hW
          rw [hLC] at HPZ hlt hi2 ⊢
          have hin : ¬ ((i : Int) < (n : Int)) := by omega
          have HOI : Hid (∀ W, Below w4.heap.size w4 W → Calls Try.prog 8 #[.slice pa n pc, .int .i64 (T : Int)] W fun e w' => OfO w' W.heap.size C (T : Int) e ∧ Below W.heap.size W w') := fun W hW => iOftenIn_any _ (T : Int) C W (HPZ.out W hW)
          have HGA : Hid (∀ W, Below w4.heap.size w4 W → Calls Try.prog 9 #[.slice pa n pc] W fun e w' => e = .returned (.bool true) ∧ Below W.heap.size W w') := fun W hW => by
            have h := iGoodAlias_any _ C W (HPZ.out W hW)
            rw [fit_good HF.out] at h; exact h
          have HPB : Hid (∀ (d : Nat) W, Below w4.heap.size w4 W → Calls Try.prog 10 #[.slice pa n pc, .int .i64 (T : Int), .int .i64 (d : Int)] W fun e w' => e = .returned (pkV C (T : Int) (d : Int)) ∧ Below W.heap.size W w') := fun d W hW => iPickBy_any _ (T : Int) (d : Int) C W (HPZ.out W hW)
          have HRZ : Hid (∀ W, Below w4.heap.size w4 W → ZRow .i64 W (.slice (some ⟨t0, 0, none⟩) n c0) L) := fun W hW => by
            have h := (HZR.out W hW).rowc (cap := c0) (by rw [HNL.out]; exact hc0) hc1
            rw [HNL.out] at h; exact h
          have hZr := HZR.out wr hbr
          have HZW : Hid (ZSRow wr t0 L) := hZr
          have HBR : Hid (Below w4.heap.size w4 wr) := hbr
          rw [HNL.out] at hn1 hn2
          clear hCA hwt hg hZr hT1 hT2 hLC HPR HQR HIA HSA HGI hT HPC
          clear hbr
          go_wp2_with fail
          clear hlt hi2 hin
          go_loop [11, 81] (fun tv iv => ∃ k : Nat, k ≤ n ∧ iv = .int .i64 (k : Int) ∧ tv = .int .i64 (L.take k).sum) (fun _ iv => n - (intOf iv).toNat)
          case atStart => exact ⟨0, Nat.zero_le _, rfl, by simp⟩
          case round =>
            obtain ⟨k, hk, rfl, rfl⟩ := hrel
            by_cases hlt : k < n
            · have hkL : k < L.length := by rw [HNL.out]; exact hlt
              obtain ⟨r0, r1⟩ := HZW.out.2 k hkL
              have hn1 := HTK.out k hk
              have hn2 := HTK.out (k + 1) hlt
              have hts := take_sum hkL
              obtain ⟨y, hy⟩ : ∃ y, y = L[k]'hkL := ⟨_, rfl⟩
              obtain ⟨s, hs⟩ : ∃ s, s = (L.take k).sum := ⟨_, rfl⟩
              rw [← hy] at r0 hts
              rw [← hs] at hn1 hts ⊢
              rw [hts] at hn2
              have HTS : Hid ((L.take (k + 1)).sum = s + y) := hts
              have hki : (k : Int) < (n : Int) := by omega
              have hwrp : IntKind.i64.wrap (s + y) = s + y := i64_wrap (by omega) (by omega)
              clear hkL hts hy hs
              go_wp2_with fail
              go_round
              case rel => exact ⟨k + 1, by omega, by go_num, congrArg (Value.int .i64) (by rw [HTS.out])⟩
              case measure => simp [intOf]; omega
            · have hkn : k = n := by omega
              subst hkn
              have hT0 : (L.take k).sum = (T : Int) := by rw [← HNL.out, List.take_length, HT.out]
              rw [hT0]
              clear hT0 hlt hk HTK
              go_wp2_with fail
              refine (HOI.out _ HBR.out).mono ?_
              rintro e w5 ⟨ho, hd5⟩
              rcases ho with ⟨h0, _⟩ | ⟨_, go, hgo, rfl, hzo⟩
              · rw [HF.out] at h0; cases h0
              rw [HLC.out] at hzo ⊢
              have HO5 : Hid (ZSRow w5 go (oftK C (T : Int) k)) := hzo
              have HB5 : Hid (Below w4.heap.size w4 w5) := HBR.out.trans (hd5.mono HBR.out.size)
              have hgo4 : w4.heap.size ≤ go := Nat.le_trans HBR.out.size hgo
              clear hzo hd5 HOI HZW HBR hgo
              go_wp2_with fail
              refine (HGA.out _ HB5.out).mono ?_
              rintro e w6 ⟨rfl, hd6⟩
              have HO6 : Hid (ZSRow w6 go (oftK C (T : Int) k)) := HO5.out.kept hd6
              have HB6 : Hid (Below w4.heap.size w4 w6) := HB5.out.trans (hd6.mono HB5.out.size)
              have hkk2 : ((k : Int) != (k : Int)) = false := by simp
              have HLK : Hid ((oftK C (T : Int) k).length = k) := by show _ = _; rw [oftK_length, HLC.out]
              clear HO5 HB5 hd6 HGA
              go_wp2_with fail
              go_loop [111] (fun iv => ∃ i : Nat, i ≤ k ∧ iv = .int .i64 (i : Int)) (fun iv => k - (intOf iv).toNat)
              case atStart => exact ⟨0, Nat.zero_le _, rfl⟩
              case round =>
                obtain ⟨i, hi3, rfl⟩ := hrel
                by_cases hlt : i < k
                · have hiL : i < L.length := by rw [HNL.out]; exact hlt
                  obtain ⟨r0, r1⟩ := (HZR.out w6 HB6.out).2 i hiL
                  obtain ⟨o0, o1⟩ := HO6.out.2 i (by rw [HLK.out]; exact hlt)
                  have hoi : (oftK C (T : Int) k)[i]'(by rw [HLK.out]; exact hlt) = L[i]'hiL * (k : Int) := by
                    simp only [HOL.out, List.getElem_map]
                  rw [hoi] at o0
                  have hy1 := HWT.out i hiL
                  obtain ⟨y, hy⟩ : ∃ y, y = L[i]'hiL := ⟨_, rfl⟩
                  rw [← hy] at r0 o0 hy1
                  have hm1 : 0 ≤ y * (k : Int) := Int.mul_nonneg hy1.1 (by omega)
                  have hm2 : y * (k : Int) ≤ 50 * 12 := Int.mul_le_mul hy1.2 (by omega) (by omega) (by omega)
                  obtain ⟨z, hz⟩ : ∃ z, z = y * (k : Int) := ⟨_, rfl⟩
                  rw [← hz] at o0 hm1 hm2
                  have hzz : (z != z) = false := by simp
                  have hki : (i : Int) < (k : Int) := by omega
                  have hw64 : wrap64 (y * (k : Int)) = z := by rw [← hz]; unfold wrap64; omega
                  have hne : (z != wrap64 (y * (k : Int))) = false := by rw [hw64]; exact hzz
                  clear hoi hy hiL hm1 hm2 hz
                  go_wp2_with fail
                  go_round
                  case rel => exact ⟨i + 1, by omega, by go_num⟩
                  case measure => simp [intOf]; omega
                · have hik : ¬ ((i : Int) < (k : Int)) := by omega
                  have HW6 : Hid (Below w.heap.size w w6) := hbb4.trans (HB6.out.mono hbb4.size)
                  clear hlt hi3
                  by_cases hT40 : (T : Int) ≤ 40
                  · obtain ⟨i0, hi, hz0, hz1, hz2⟩ := info_parts info_intY
                    obtain ⟨N, hN⟩ : ∃ N, N = k * T := ⟨_, rfl⟩
                    have hN2 : N ≤ 12 * 40 := by rw [hN]; exact Nat.mul_le_mul (by omega) (by omega)
                    have hNZ : (k : Int) * (T : Int) = (N : Int) := by rw [hN]; push_cast; rfl
                    have hw64 : wrap64 ((k : Int) * (T : Int)) = (N : Int) := by rw [hNZ]; unfold wrap64; omega
                    have HNK : Hid (N = k * T) := hN
                    have HNZ : Hid ((k : Int) * (T : Int) = (N : Int)) := hNZ
                    clear hN hNZ
                    go_wp2_with (at_make; refine wpList_make_full _ rfl _ _ 23 rfl w6.heap.size 3 i0 (.int .i64 0) 1 Try.underlying23 hi hz0 hz1 _ _ _ _ k rfl rfl rfl rfl ?b2 ?b3 ?b4 ?_)
                    case b2 => (try rw [hz2]); omega
                    case b3 => unfold maxLen; omega
                    intro w7 hown7 hgrow7
                    have hb7 : Below w6.heap.size w6 w7 := (Below.refl _ _).grown hgrow7 (Nat.le_refl _) (fun k h => by cases h)
                    have HC7 : Hid (ZSRow w7 w6.heap.size (cntD C (T : Int) 0)) := by
                      show ZSRow w7 w6.heap.size (List.replicate C.length 0)
                      rw [HLC.out]; exact made_zeros (w := w6) hown7
                    have HB7 : Hid (Below w6.heap.size w6 w7) := hb7
                    obtain ⟨gc, hgc⟩ : ∃ g, g = w6.heap.size := ⟨_, rfl⟩
                    have HGC : Hid (w6.heap.size = gc) := hgc.symm
                    rw [← hgc] at HC7
                    have hgcle : w6.heap.size ≤ gc := by omega
                    clear hown7 hgrow7 hb7 hgc
                    go_wp2_with fail
                    (try rw [HGC.out])
                    go_loopw [19] (fun iv wr => ∃ d : Nat, d ≤ N ∧ iv = .int .i64 (d : Int) ∧ Hid (ZSRow wr gc (cntD C (T : Int) d)) ∧ Hid (Below w6.heap.size w6 wr)) (fun iv _ => N - (intOf iv).toNat)
                    case atStart => exact ⟨0, Nat.zero_le _, rfl, HC7, HB7⟩
                    case round =>
                      obtain ⟨d, hd, rfl, HC, HBD⟩ := hrel
                      clear HC7 HB7
                      by_cases hlt : d < N
                      · obtain ⟨k0, hk0, hpk⟩ := pkn_in HF.out hTp.1 (d := d) (by rw [HLC.out, ← HNK.out]; exact hlt)
                        have hpb : pkB C (T : Int) (d : Int) = true := by
                          unfold pkB
                          rw [HF.out, HLC.out, HNZ.out]
                          simp only [inB, Bool.true_and, Bool.and_eq_true, decide_eq_true_eq]; exact ⟨Int.natCast_nonneg d, by clear hw64; omega⟩
                        have hV : pkV C (T : Int) (d : Int) = .tuple #[.int .i64 (k0 : Int), .bool true] := by unfold pkV; rw [hpb, hpk]; simp
                        have HPX : Hid (Calls Try.prog 10 #[.slice pa k pc, .int .i64 (T : Int), .int .i64 (d : Int)] wr fun e w' => e = .returned (.tuple #[.int .i64 (k0 : Int), .bool true]) ∧ Below wr.heap.size wr w') := by
                          have h := HPB.out d wr (HB6.out.trans (HBD.out.mono HB6.out.size))
                          rw [hV] at h; exact h
                        have HPK : Hid (pkN C (T : Int) (d : Int) = (k0 : Int)) := hpk
                        have hdi : (d : Int) < (N : Int) := Int.ofNat_lt.2 hlt
                        rw [HLC.out] at hk0
                        clear hpb hV hpk
                        go_wp2_with fail
                        refine HPX.out.mono ?_
                        rintro e w8 ⟨rfl, hd8⟩
                        have hc8 := HC.out.kept hd8
                        have hkl : k0 < (cntD C (T : Int) d).length := by rw [cntD_length, HLC.out]; exact hk0
                        obtain ⟨y0, y1⟩ := hc8.2 k0 hkl
                        have hst := hc8.set k0 hkl ((cntD C (T : Int) d)[k0]'hkl + 1)
                        have hyb := betw_get (cnt_betw C (T : Int) d) hkl
                        have hnx := cnt_next hkl HPK.out
                        rw [hnx] at hst
                        obtain ⟨y, hy⟩ : ∃ y, y = (cntD C (T : Int) d)[k0]'hkl := ⟨_, rfl⟩
                        rw [← hy] at y0 hst hyb
                        have HC9 : Hid (ZSRow (w8.setCell ⟨gc, k0, none⟩ (.int .i64 (y + 1))) gc (cntD C (T : Int) (d + 1))) := hst
                        have HB9 : Hid (Below w6.heap.size w6 (w8.setCell ⟨gc, k0, none⟩ (.int .i64 (y + 1)))) := (HBD.out.trans (hd8.mono HBD.out.size)).setCell (p := ⟨gc, k0, none⟩) hgcle _
                        have hki : (k0 : Int) < (k : Int) := Int.ofNat_lt.2 hk0
                        have hwy : wrap64 (y + 1) = y + 1 := by clear hw64; unfold wrap64; omega
                        have hwd : wrap64 ((d : Int) + 1) = (d : Int) + 1 := by clear hw64; unfold wrap64; omega
                        clear hc8 hst hnx hy hd8 HPX HC HBD hkl
                        go_wp2_with fail
                        go_roundw
                        case rel => exact ⟨d + 1, hlt, by first | (rw [hwd]; rfl) | rfl | (push_cast; rfl), HC9, HB9⟩
                        case measure => first | exact meas1 hlt hwd | exact meas1 hlt rfl
                      · have hdN : d = N := Nat.le_antisymm hd (Nat.not_lt.1 hlt)
                        subst hdN
                        have HCK : Hid (ZSRow wr gc (oftK C (T : Int) k)) := by
                          rw [← cnt_end HF.out hTp.1 HLC.out HNK.out]; exact HC.out
                        have HOW : Hid (ZSRow wr go (oftK C (T : Int) k)) := HO6.out.kept HBD.out
                        have HR1 : Hid (ZRow .i64 wr (.slice (some ⟨gc, 0, none⟩) k k) (oftK C (T : Int) k)) := by
                          have h := HCK.out.rowc (cap := k) (by rw [HLK.out]; exact Nat.le_refl _) (by omega)
                          rw [HLK.out] at h; exact h
                        have HR2' : Hid (ZRow .i64 wr (.slice (some ⟨go, 0, none⟩) k k) (oftK C (T : Int) k)) := by
                          have h := HOW.out.rowc (cap := k) (by rw [HLK.out]; exact Nat.le_refl _) (by omega)
                          rw [HLK.out] at h; exact h
                        have HWR : Hid (Below w.heap.size w wr) := HW6.out.trans (HBD.out.mono HW6.out.size)
                        clear HC HBD HCK HOW
                        go_wp2_with fail
                        refine (sameInts_same _ _ _ wr HR1.out HR2'.out).mono ?_
                        rintro e w9 ⟨rfl, hd9⟩
                        have HW9 : Hid (Below w.heap.size w w9) := HWR.out.trans (hd9.mono HWR.out.size)
                        clear hd9 HR1 HR2'
                        have HBR : Hid (Below w.heap.size w w9) := HW9.out
                        go_wp2_with fail
                        refine (HDP.out _ HBR.out).mono ?_
                        rintro e y1 ⟨⟨x, M, t, d, rfl, hM, gm, cm, rfl, hm1, hm2, hm3, hco⟩, hd1⟩
                        have hcr := hco.row hm1 (by unfold maxLen; omega)
                        have HDR : Hid (∀ Y, Below y1.heap.size y1 Y → ColRow Y (.slice (some ⟨gm, 0, none⟩) M.length cm) M) := fun Y hY => hcr.kept hY
                        have hby := HBR.out.trans (hd1.mono HBR.out.size)
                        obtain ⟨kk, hkk⟩ : ∃ kk : Int, kk = (if pkB M t d then pkN M t d else 0) := ⟨_, rfl⟩
                        obtain ⟨bb, hbb⟩ : ∃ bb, bb = pkB M t d := ⟨_, rfl⟩
                        have HPI : Hid (∀ Y, Below y1.heap.size y1 Y → Calls Try.prog 10 #[.slice (some ⟨gm, 0, none⟩) M.length cm, .int .i64 t, .int .i64 d] Y fun e w' => e = .returned (.tuple #[.int .i64 kk, .bool bb]) ∧ Below Y.heap.size Y w') := fun Y hY => by
                          rw [hkk, hbb]; exact iPickBy_any _ t d M Y (HDR.out Y hY)
                        have HPS : Hid (∀ Y, Below y1.heap.size y1 Y → Calls Try.prog 13 #[.slice (some ⟨gm, 0, none⟩) M.length cm, .int .i64 t, .int .i64 d] Y fun e w' => e = .returned (.tuple #[.int .i64 kk, .bool bb]) ∧ Below Y.heap.size Y w') := fun Y hY => by
                          rw [hkk, hbb]; exact sPickBy_any _ t d M Y (HDR.out Y hY)
                        clear hkk hbb hco hcr hd1 HDR
                        go_wp2_with fail
                        refine (HPI.out _ (Below.refl _ _)).mono ?_
                        rintro e y2 ⟨rfl, hd2⟩
                        have hby2 := hby.trans (hd2.mono hby.size)
                        have HD2 : Hid (Below y1.heap.size y1 y2) := hd2
                        clear hd2
                        go_wp2_with fail
                        refine (HPS.out _ HD2.out).mono ?_
                        rintro e y3 ⟨rfl, hd3⟩
                        have HBZ : Hid (Below w.heap.size w y3) := hby2.trans (hd3.mono hby2.size)
                        have e8 : (bb == bb) = true := by simp
                        have e9 : (kk == kk) = true := by simp
                        clear hby hby2 hd3
                        cases bb with
                        | true =>
                          go_wp2_with fail
                          go_ret
                          exact ⟨rfl, HBZ.out⟩
                        | false =>
                          go_wp2_with fail
                          go_ret
                          exact ⟨rfl, HBZ.out⟩
                  · clear HO6 HOL
                    have HBR : Hid (Below w.heap.size w w6) := HW6.out
                    go_wp2_with fail
                    refine (HDP.out _ HBR.out).mono ?_
                    rintro e y1 ⟨⟨x, M, t, d, rfl, hM, gm, cm, rfl, hm1, hm2, hm3, hco⟩, hd1⟩
                    have hcr := hco.row hm1 (by unfold maxLen; omega)
                    have HDR : Hid (∀ Y, Below y1.heap.size y1 Y → ColRow Y (.slice (some ⟨gm, 0, none⟩) M.length cm) M) := fun Y hY => hcr.kept hY
                    have hby := HBR.out.trans (hd1.mono HBR.out.size)
                    obtain ⟨kk, hkk⟩ : ∃ kk : Int, kk = (if pkB M t d then pkN M t d else 0) := ⟨_, rfl⟩
                    obtain ⟨bb, hbb⟩ : ∃ bb, bb = pkB M t d := ⟨_, rfl⟩
                    have HPI : Hid (∀ Y, Below y1.heap.size y1 Y → Calls Try.prog 10 #[.slice (some ⟨gm, 0, none⟩) M.length cm, .int .i64 t, .int .i64 d] Y fun e w' => e = .returned (.tuple #[.int .i64 kk, .bool bb]) ∧ Below Y.heap.size Y w') := fun Y hY => by
                      rw [hkk, hbb]; exact iPickBy_any _ t d M Y (HDR.out Y hY)
                    have HPS : Hid (∀ Y, Below y1.heap.size y1 Y → Calls Try.prog 13 #[.slice (some ⟨gm, 0, none⟩) M.length cm, .int .i64 t, .int .i64 d] Y fun e w' => e = .returned (.tuple #[.int .i64 kk, .bool bb]) ∧ Below Y.heap.size Y w') := fun Y hY => by
                      rw [hkk, hbb]; exact sPickBy_any _ t d M Y (HDR.out Y hY)
                    clear hkk hbb hco hcr hd1 HDR
                    go_wp2_with fail
                    refine (HPI.out _ (Below.refl _ _)).mono ?_
                    rintro e y2 ⟨rfl, hd2⟩
                    have hby2 := hby.trans (hd2.mono hby.size)
                    have HD2 : Hid (Below y1.heap.size y1 y2) := hd2
                    clear hd2
                    go_wp2_with fail
                    refine (HPS.out _ HD2.out).mono ?_
                    rintro e y3 ⟨rfl, hd3⟩
                    have HBZ : Hid (Below w.heap.size w y3) := hby2.trans (hd3.mono hby2.size)
                    have e8 : (bb == bb) = true := by simp
                    have e9 : (kk == kk) = true := by simp
                    clear hby hby2 hd3
                    cases bb with
                    | true =>
                      go_wp2_with fail
                      go_ret
                      exact ⟨rfl, HBZ.out⟩
                    | false =>
                      go_wp2_with fail
                      go_ret
                      exact ⟨rfl, HBZ.out⟩
end Go.Proofs.Ytjbhhllfbonaiaa.lawAlias
