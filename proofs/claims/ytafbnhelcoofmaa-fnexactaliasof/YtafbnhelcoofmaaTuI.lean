import Derived.Test.YtafbnhelcoofmaaTuS
namespace Go.Proofs.Ytafbnhelcoofmaa
open Go.RowKit

/-- What TurnsOf of the program tells. -/
def TuI (w' : World) (base : Nat) (ok : Bool) (O : List Int) (e : Ending) : Prop := ∃ v, e = .returned (.tuple #[v, .bool ok]) ∧ OwnZ w' base v O
theorem tui_off (w' : World) (base : Nat) : TuI w' base false [] (.returned (.tuple #[.slice none 0 0, .bool false])) := ⟨_, rfl, .inl ⟨rfl, rfl⟩⟩

set_option maxRecDepth 20000 in
set_option maxHeartbeats 8000000 in
theorem iTurnsOf_any (v : Value) (P : List Int) (m : Int) (w : World) (hr : ZRow .i64 w v P) (hl : P.length ≤ 1048576) :
    Calls Try.prog 25 #[v, .int .i64 m] w fun e w' => TuI w' w.heap.size (tuB P m) (tuL P m) e ∧ Below w.heap.size w w' := by
  have HNT : Hid (Calls Try.prog 16 #[v] w fun e w' => NTAns w' w.heap.size P e ∧ Below w.heap.size w w') := iNewTurn_any v P w hr hl
  have HIN : Hid (∀ W, Calls Try.prog 43 #[.int .i64 m, .int .i64 0, .int .i64 600] W fun e w' => e = .returned (.bool (inB m 0 600)) ∧ w' = W) := fun W => iWithin_any m 0 600 W
  have HOFF : Hid (tuB P m = false → tuL P m = []) := fun h => by unfold tuL; rw [h]; rfl
  clear hr
  cases hg : goodW P with
  | false =>
    have HB : Hid (tuB P m = false) := by show _ = _; unfold tuB; rw [hg]; rfl
    rw [HOFF.out HB.out, HB.out]
    go_enter Try.func25, Try.ntmps25
    go_wp2_with fail
    refine HNT.out.mono ?_
    rintro e w1 ⟨h | h, hb1⟩
    · obtain ⟨_, rfl⟩ := h
      unfold TrnV
      have hb2 : Below w.heap.size w (w1.alloc (.cells #[.slice none 0 0, .slice none 0 0] 33)) := hb1.alloc hb1.size _
      clear hg
      go_wp2_with fail
      go_ret2
      exact ⟨tui_off _ _, hb2⟩
    · rw [hg] at h; exact absurd h.1 (by simp)
  | true =>
    have HPP : Hid (0 < P.length) := good_pos hg
    cases hin : inB m 0 600 with
    | false =>
      have HB : Hid (tuB P m = false) := by show _ = _; unfold tuB; rw [hin]; simp
      rw [HOFF.out HB.out, HB.out]
      rw [hin] at HIN
      go_enter Try.func25, Try.ntmps25
      go_wp2_with fail
      refine HNT.out.mono ?_
      rintro e w1 ⟨h | h, hb1⟩
      · rw [hg] at h; exact absurd h.1 (by simp)
      · obtain ⟨_, t1, c1, t2, rfl, _, _, _, _, _, _, _⟩ := h
        unfold TrnV
        have hb2 : Below w.heap.size w (w1.alloc (.cells #[.slice (some ⟨t1, 0, none⟩) P.length c1, .slice (some ⟨t2, 0, none⟩) P.length P.length] 33)) := hb1.alloc hb1.size _
        clear hg hin
        go_wp2_with fail
        refine (HIN.out _).mono ?_
        rintro e w2 ⟨rfl, rfl⟩
        go_wp2_with fail
        go_ret2
        exact ⟨tui_off _ _, hb2⟩
    | true =>
      obtain ⟨M, rfl, hM⟩ : ∃ M : Nat, m = (M : Int) ∧ M ≤ 600 := by
        simp only [inB, Bool.and_eq_true, decide_eq_true_eq] at hin
        exact ⟨m.toNat, by omega, by omega⟩
      have HB : Hid (tuB P (M : Int) = true ∧ tuL P (M : Int) = trnP P M) := by
        have h : tuB P (M : Int) = true := by unfold tuB; rw [hg, hin]; rfl
        refine ⟨h, ?_⟩
        unfold tuL; rw [h]; simp
      rw [HB.out.1, HB.out.2]
      rw [hin] at HIN
      have HNX : Hid (∀ k v1 v2 W, ZRow .i64 W v1 P → ZRow .i64 W v2 (trnU P k) → Calls Try.prog 23 #[TrnV v1 v2] W fun e w' => NTA w' W.heap.size true (nxtK P (trnU P k)) P (trnU P (k + 1)) e ∧ Below W.heap.size W w') := fun k v1 v2 W h1 h2 => by
        have h := iNextTurn_any v1 v2 P (trnU P k) W h1 h2 hl
        rw [trnU_ok hg k] at h
        exact h
      have HUL : Hid (∀ k, (trnU P k).length = P.length) := fun k => (trnU_inv hg k).1
      have HTN : Hid (∀ k, (trnP P k).map (Value.int .i64) ++ [Value.int .i64 (nxtK P (trnU P k) : Int)] = (trnP P (k + 1)).map (Value.int .i64)) := fun k => by rw [trnP_next, List.map_append]; rfl
      have HKB : Hid (∀ k, nxtK P (trnU P k) ≤ 12) := fun k => by
        have h1 := bestN_le (addZ (trnU P k) P) (trnU P k).length
        have h2 := (trnU_inv hg k).1
        have h3 := (goodW_parts hg).1
        unfold nxtK; omega
      obtain ⟨i0, hi, hz0, hz1, hz2⟩ := info_parts info_int
      clear hin HOFF
      go_enter Try.func25, Try.ntmps25
      go_wp2_with fail
      refine HNT.out.mono ?_
      rintro e w1 ⟨h | h, hb1⟩
      · rw [hg] at h; exact absurd h.1 (by simp)
      · obtain ⟨_, t1, c1, t2, rfl, hc1, hm1, hl1, hl2, hne, hq1, hq2⟩ := h
        unfold TrnV
        obtain ⟨n, hn⟩ : ∃ n, n = P.length := ⟨_, rfl⟩
        have HNP : Hid (P.length = n) := hn.symm
        rw [← hn] at hc1 ⊢
        obtain ⟨W2, hW2⟩ : ∃ W2, W2 = w1.alloc (.cells #[.slice (some ⟨t1, 0, none⟩) n c1, .slice (some ⟨t2, 0, none⟩) n n] 33) := ⟨_, rfl⟩
        obtain ⟨g6, hg6⟩ : ∃ g, g = w1.heap.size := ⟨_, rfl⟩
        have hb12 : Below w1.heap.size w1 W2 := by rw [hW2]; exact (Below.refl _ _).alloc (Nat.le_refl _) _
        have HX2 : Hid (W2.heap[g6]? = some (.cells #[.slice (some ⟨t1, 0, none⟩) n c1, .slice (some ⟨t2, 0, none⟩) n n] 33)) := by rw [hW2, hg6]; exact trn_new _ _
        have HQ2 : Hid (ZSRow W2 t1 P ∧ ZSRow W2 t2 (trnU P 0)) := ⟨hq1.kept hb12, hq2.kept hb12⟩
        have hbw2 := hb1.trans (hb12.mono hb1.size)
        have hnl : n ≤ 1048576 := by omega
        have HC2 : Hid (n ≤ c1 ∧ c1 ≤ 9223372036854775807 ∧ n ≤ n ∧ n ≤ 9223372036854775807) := ⟨hc1, hm1, Nat.le_refl _, by omega⟩
        have hw6 : w.heap.size ≤ g6 := by rw [hg6]; exact hb1.size
        have HW2 : Hid (w1.alloc (.cells #[.slice (some ⟨t1, 0, none⟩) n c1, .slice (some ⟨t2, 0, none⟩) n n] 33) = W2) := hW2.symm
        have HG6 : Hid (w1.heap.size = g6) := hg6.symm
        clear hq1 hq2 hW2 hb12 hb1 hg hn hg6 hl1 hl2 hc1 hm1 hne
        go_wp2_with (rw [HW2.out])
        refine (HIN.out _).mono ?_
        rintro e w2' ⟨rfl, hw2'⟩
        rw [hw2']
        clear hw2' w2'
        go_wp2_with (at_make; refine wpList_make_full _ rfl _ _ 22 rfl W2.heap.size 3 i0 (.int .i64 0) 1 Try.underlying22 hi hz0 hz1 _ _ _ _ M rfl rfl rfl rfl ?b2 ?b3 ?b4 ?_)
        case b2 => rw [hz2]; omega
        case b3 => unfold maxLen; omega
        case b4 => exact Nat.le_refl _
        intro w3 hown3 hgrow3
        have hb23 : Below W2.heap.size W2 w3 := (Below.refl _ _).grown hgrow3 (Nat.le_refl _) (fun k h => by cases h)
        have hlp : (trnP P M).length = M := trnP_length P M
        have hz3 : ZSRow w3 W2.heap.size (partZ (trnP P M) 0) := made_zs (w := W2) (P := trnP P M) (by rw [hlp]; simpa [show (Value.int .i64 0).cells = #[Value.int .i64 0] from rfl] using hown3)
        have h62 : g6 < W2.heap.size := (Array.getElem?_eq_some_iff.1 HX2.out).1
        have h12 : t1 < W2.heap.size := HQ2.out.1.1
        have h22 : t2 < W2.heap.size := HQ2.out.2.1
        have HX3 : Hid (w3.heap[g6]? = some (.cells #[.slice (some ⟨t1, 0, none⟩) n c1, .slice (some ⟨t2, 0, none⟩) n n] 33)) := (hb23.block _ h62).trans HX2.out
        have HQ3 : Hid (ZSRow w3 t1 P ∧ ZSRow w3 t2 (trnU P 0)) := ⟨HQ2.out.1.kept hb23, HQ2.out.2.kept hb23⟩
        have HZ3 : Hid (ZSRow w3 W2.heap.size (partZ (trnP P M) 0)) := hz3
        have hbw3 := hbw2.trans (hb23.mono hbw2.size)
        have HLP : Hid ((trnP P M).length = M) := hlp
        have hwW2 : w.heap.size ≤ W2.heap.size := hbw2.size
        clear hown3 hgrow3 hb23 hz3 HX2 HQ2 hbw2 hlp
        go_wp2_with fail
        (try rw [HG6.out])
        obtain ⟨gp, hgp⟩ : ∃ gp, gp = W2.heap.size := ⟨_, rfl⟩
        rw [← hgp] at HZ3 h62 h12 h22 hwW2 ⊢
        clear HW2 HG6 HIN hgp
        have HNE0 : Hid (t1 ≠ gp ∧ t2 ≠ gp) := ⟨by omega, by omega⟩
        go_loopw [26] (fun iv wr => ∃ (k : Nat) (s1 d1 s2 d2 : Nat), k ≤ M ∧ iv = .int .i64 (k : Int) ∧ Hid (wr.heap[g6]? = some (.cells #[.slice (some ⟨s1, 0, none⟩) n d1, .slice (some ⟨s2, 0, none⟩) n d2] 33)) ∧ Hid (ZSRow wr s1 P ∧ ZSRow wr s2 (trnU P k)) ∧ Hid (n ≤ d1 ∧ d1 ≤ 9223372036854775807 ∧ n ≤ d2 ∧ d2 ≤ 9223372036854775807) ∧ Hid (ZSRow wr gp (partZ (trnP P M) k)) ∧ Hid (s1 ≠ gp ∧ s2 ≠ gp) ∧ Below w.heap.size w wr) (fun iv _ => M - (intOf iv).toNat)
        case atStart => exact ⟨0, t1, c1, t2, n, Nat.zero_le _, rfl, HX3, HQ3, HC2, HZ3, HNE0, hbw3⟩
        case round =>
          obtain ⟨k, s1, d1, s2, d2, hk, rfl, HX, HQ, HC, HZ, HNE, hb⟩ := hrel
          clear HX3 HQ3 HC2 HZ3 HNE0 hbw3
          have hXl : g6 < wr.heap.size := (Array.getElem?_eq_some_iff.1 HX.out).1
          have hPl : gp < wr.heap.size := HZ.out.1
          by_cases hlt : k < M
          · have HR : Hid (ZRow .i64 wr (.slice (some ⟨s1, 0, none⟩) n d1) P ∧ ZRow .i64 wr (.slice (some ⟨s2, 0, none⟩) n d2) (trnU P k)) := by
              have h1 := HQ.out.1.rowc (cap := d1) (by rw [HNP.out]; exact HC.out.1) HC.out.2.1
              have h2 := HQ.out.2.rowc (cap := d2) (by rw [HUL.out, HNP.out]; exact HC.out.2.2.1) HC.out.2.2.2
              rw [HNP.out] at h1
              rw [HUL.out, HNP.out] at h2
              exact ⟨h1, h2⟩
            have HCA : Hid (Calls Try.prog 23 #[.agg #[.slice (some ⟨s1, 0, none⟩) n d1, .slice (some ⟨s2, 0, none⟩) n d2]] wr fun e w' => NTA w' wr.heap.size true (nxtK P (trnU P k)) P (trnU P (k + 1)) e ∧ Below wr.heap.size wr w') := HNX.out k _ _ wr HR.out.1 HR.out.2
            have HPN : Hid (0 < n) := by rw [← HNP.out]; exact HPP.out
            have hlk : k < (trnP P M).length := by rw [HLP.out]; exact hlt
            have hpk : k < (partZ (trnP P M) k).length := by rw [partZ_length _ _ (by omega)]; exact hlk
            have HSET : Hid (∀ W, ZSRow W gp (partZ (trnP P M) k) → (∃ y : Int, W.cell? ⟨gp, k, none⟩ = some (.int .i64 y)) ∧ W.frozen? ⟨gp, k, none⟩ = false ∧ ZSRow (W.setCell ⟨gp, k, none⟩ (.int .i64 (nxtK P (trnU P k) : Int))) gp (partZ (trnP P M) (k + 1))) := fun W h => by
              have h1 := h.2 k hpk
              have h2 := zs_setT h k hpk (nxtK P (trnU P k) : Int)
              rw [partZ_next _ _ hlk, trnP_get P M k hlt]
              exact ⟨⟨_, h1.1⟩, h1.2, h2⟩
            have hki : (k : Int) < (M : Int) := by omega
            obtain ⟨⟨p0, p1⟩, _⟩ := trn_cells HX.out
            clear HR HNX hlk hpk
            go_wp2_with fail
            refine HCA.out.mono ?_
            rintro e w5 ⟨⟨v1, v2, rfl, ho⟩, hb5⟩
            rcases ho with ⟨_, _, hnil, _⟩ | ⟨g1, e1, g2, e2, rfl, rfl, he1, hf1, he2, hf2, hl1, hl2, hne, hq1, hq2⟩
            · exact absurd (congrArg List.length hnil) (by simp only [if_true]; rw [HNP.out]; have := HPN.out; simp; omega)
            simp only [if_true] at he1 he2 hq1 hq2 ⊢
            unfold TrnV
            rw [HUL.out, HNP.out] at he2
            rw [HNP.out] at he1
            rw [HUL.out, HNP.out]
            have hgl1 : g1 < w5.heap.size := hq1.1
            have hgl2 : g2 < w5.heap.size := hq2.1
            have hs5 := hb5.size
            have hx5 : w5.heap[g6]? = some (.cells #[.slice (some ⟨s1, 0, none⟩) n d1, .slice (some ⟨s2, 0, none⟩) n d2] 33) := (hb5.block _ hXl).trans HX.out
            have hz5 := HZ.out.kept hb5
            have hbw5 := hb.trans (hb5.mono hb.size)
            have hkb := HKB.out k
            obtain ⟨kk, hkk⟩ : ∃ kk, kk = nxtK P (trnU P k) := ⟨_, rfl⟩
            rw [← hkk] at hkb HSET ⊢
            obtain ⟨W7, hW7⟩ : ∃ W7, W7 = put2v w5 g6 (.slice (some ⟨g1, 0, none⟩) n e1) (.slice (some ⟨g2, 0, none⟩) n e2) := ⟨_, rfl⟩
            have hk67 : Kpt w5 W7 (fun j => j = g6) := by rw [hW7]; unfold put2v; exact (kpt_set (S := fun j => j = g6) _ _ _ _ rfl).trans (kpt_set (S := fun j => j = g6) _ _ _ _ rfl)
            have hx7 : W7.heap[g6]? = some (.cells #[.slice (some ⟨g1, 0, none⟩) n e1, .slice (some ⟨g2, 0, none⟩) n e2] 33) := by rw [hW7]; exact put2v_heap hx5
            have hz7 := hz5.apart hk67 (by omega)
            have hq17 := hq1.apart hk67 (by omega)
            have hq27 := hq2.apart hk67 (by omega)
            have hbw7 : Below w.heap.size w W7 := hbw5.trans (hk67.below hbw5.size (fun j hj h => by omega))
            have hs7 := hk67.size
            obtain ⟨⟨y, hcy⟩, hfy, hz8⟩ := HSET.out W7 hz7
            have hk78 := kpt_set W7 gp k (.int .i64 (kk : Int)) (S := fun j => j = gp) rfl
            have HX8 : Hid ((W7.setCell ⟨gp, k, none⟩ (.int .i64 (kk : Int))).heap[g6]? = some (.cells #[.slice (some ⟨g1, 0, none⟩) n e1, .slice (some ⟨g2, 0, none⟩) n e2] 33)) := (hk78.block _ (by omega) (by omega)).trans hx7
            have HQ8 : Hid (ZSRow (W7.setCell ⟨gp, k, none⟩ (.int .i64 (kk : Int))) g1 P ∧ ZSRow (W7.setCell ⟨gp, k, none⟩ (.int .i64 (kk : Int))) g2 (trnU P (k + 1))) := ⟨hq17.apart hk78 (by omega), hq27.apart hk78 (by omega)⟩
            have HZ8 : Hid (ZSRow (W7.setCell ⟨gp, k, none⟩ (.int .i64 (kk : Int))) gp (partZ (trnP P M) (k + 1))) := hz8
            have HN8 : Hid (g1 ≠ gp ∧ g2 ≠ gp) := ⟨by omega, by omega⟩
            have hb8 : Below w.heap.size w (W7.setCell ⟨gp, k, none⟩ (.int .i64 (kk : Int))) := hbw7.trans (hk78.below hbw7.size (fun j hj h => by omega))
            have HCN : Hid (n ≤ e1 ∧ e1 ≤ 9223372036854775807 ∧ n ≤ e2 ∧ e2 ≤ 9223372036854775807) := ⟨he1, hf1, he2, hf2⟩
            have HW7 : Hid ((w5.setCell ⟨g6, 0, none⟩ (.slice (some ⟨g1, 0, none⟩) n e1)).setCell ⟨g6, 1, none⟩ (.slice (some ⟨g2, 0, none⟩) n e2) = W7) := by rw [hW7]; rfl
            obtain ⟨⟨q0, q1⟩, ⟨z0, z1⟩⟩ := trn_cells hx5
            clear p0 p1 hb5 hx5 hz5 hbw5 hkk hW7 hk67 hx7 hz7 hq17 hq27 hq1 hq2 hs7 he1 he2 hf1 hf2 HX HQ HZ HCA hz8 hk78 hbw7 HSET
            go_wp2_with (rw [HW7.out])
            go_roundw
            case rel => exact ⟨k + 1, g1, e1, g2, e2, by omega, by go_num, HX8, HQ8, HCN, HZ8, HN8, hb8⟩
            case measure => simp [intOf]; omega
          · have hkM : k = M := by omega
            have HO2 : Hid (ZSRow wr gp (trnP P M)) := by
              have h := HZ.out
              have e : k = (trnP P M).length := by rw [HLP.out]; exact hkM
              rw [e, partZ_end] at h
              exact h
            clear hkM HX HQ HZ HC HNX
            go_wp2_with fail
            go_ret2
            exact ⟨⟨.slice (some ⟨gp, 0, none⟩) M M, rfl, .inr ⟨gp, hwW2, by rw [trnP_length], HO2.out⟩⟩, hb⟩
end Go.Proofs.Ytafbnhelcoofmaa
