import Derived.Test.YtafbnhelcoofmaaTuP
namespace Go.Proofs.Ytafbnhelcoofmaa
open Go.RowKit

section
variable {w : World} {ops : Array Oper} {rest : List Oper} {o : Oper} {a : Act} {Q : Exit → Act → World → Prop}
/-- An append to a row of the call's own, and where what it tells lies. -/
theorem wpList_append_atT (hgd : o.guard = none) (s x : Operand) (t : TypeId)
    (ho : o.op = .call { callee := .builtin .append, args := #[s, x], argTypes := #[t, t] })
    (base : Nat) (e : TypeId) (i : TypeInfo) (z : Value) (size bytes : Nat) (ht : Try.prog.underlying t = some (.slice e)) (hi : Try.prog.info? e = some i) (hz : i.zero = some z)
    (hsize : i.size = size) (hby : i.bytes = bytes) (hzs : z.cells.size = size) (hsz : 0 < size)
    (v : Value) (n : Nat) (xs : List Value) (hs : a.eval s = v) (hown : w.ownsRow base e size v n xs)
    (ad : Addr) (m c : Nat) (news : List Value) (hx : a.eval x = .slice (some ad) m c) (hl : news.length = m * size) (hnews : ∀ j u, news[j]? = some u → w.cell? (ad.add j) = some u) (h1 : ∀ u ∈ news, u.oneCell' = true)
    (h63 : n + m ≤ maxLen) (hbytes : (n + m) * bytes ≤ 140737488355328) (hbase : base ≤ w.heap.size)
    (h : ∀ v' w', w'.ownsRow base e size v' (n + m) (xs ++ news) → w.grownBy w' v.ownBlock → (v'.ownBlock = v.ownBlock ∨ v'.ownBlock = some w.heap.size) → wpList Try.prog ops Q rest (a.put o.dst v') w') :
    wpList Try.prog ops Q (o :: rest) a w := by
  refine wpList_plain hgd fun K' hK' => ?_
  obtain ⟨v', w', hrun, h2, h3, _, h5⟩ := run_append_own_at (P := Try.prog) w base t o.type e i z size bytes ht hi hz hsize hby hzs hsz v n xs hown ad m c news hl hnews h1 h63 hbytes hbase
  unfold Oper.wp
  simp [execOp, ho, resolve, invoke, builtin, hs, hx, hrun, Result.andThen]
  exact hK' _ _ (h v' w' h2 h3 h5)
end
theorem own_baseT {w : World} {b b' : Nat} {v : Value} {n : Nat} {xs : List Value} (h : w.ownsRow b 3 1 v n xs) (hb : b' ≤ b) : w.ownsRow b' 3 1 v n xs := by
  refine ⟨h.1, ?_⟩
  rcases h.2 with h2 | ⟨g, cap, cur, hv, hg, h3⟩
  · exact .inl h2
  · exact .inr ⟨g, cap, cur, hv, Nat.le_trans hb hg, h3⟩
/-- What TurnsOf of the specification tells. -/
def TuA (w' : World) (base : Nat) (ok : Bool) (O : List Int) (e : Ending) : Prop := ∃ v, e = .returned (.tuple #[v, .bool ok]) ∧ w'.ownsRow base 3 1 v O.length (O.map (Value.int .i64))
theorem tua_off (w' : World) (base : Nat) : TuA w' base false [] (.returned (.tuple #[.slice none 0 0, .bool false])) := ⟨_, rfl, World.ownsRow_nil w' base 3 1⟩

set_option maxRecDepth 20000 in
set_option maxHeartbeats 8000000 in
theorem sTurnsOf_any (v : Value) (P : List Int) (m : Int) (w : World) (hr : ZRow .i64 w v P) (hl : P.length ≤ 1048576) :
    Calls Try.prog 24 #[v, .int .i64 m] w fun e w' => TuA w' w.heap.size (tuB P m) (tuL P m) e ∧ Below w.heap.size w w' := by
  have HNT : Hid (Calls Try.prog 15 #[v] w fun e w' => NTAns w' w.heap.size P e ∧ Below w.heap.size w w') := sNewTurn_any v P w hr hl
  have HIN : Hid (∀ W, Calls Try.prog 42 #[.int .i64 m, .int .i64 0, .int .i64 600] W fun e w' => e = .returned (.bool (inB m 0 600)) ∧ w' = W) := fun W => l1In_any m 0 600 W
  have HOFF : Hid (tuB P m = false → tuL P m = []) := fun h => by unfold tuL; rw [h]; rfl
  clear hr
  cases hg : goodW P with
  | false =>
    have HB : Hid (tuB P m = false) := by show _ = _; unfold tuB; rw [hg]; rfl
    rw [HOFF.out HB.out, HB.out]
    go_enter Try.func24, Try.ntmps24
    go_wp2_with fail
    refine HNT.out.mono ?_
    rintro e w1 ⟨h | h, hb1⟩
    · obtain ⟨_, rfl⟩ := h
      unfold TrnV
      have hb2 : Below w.heap.size w (w1.alloc (.cells #[.slice none 0 0, .slice none 0 0] 33)) := hb1.alloc hb1.size _
      clear hg
      go_wp2_with fail
      go_ret2
      exact ⟨tua_off _ _, hb2⟩
    · rw [hg] at h; exact absurd h.1 (by simp)
  | true =>
    have hgd := goodW_parts hg
    cases hin : inB m 0 600 with
    | false =>
      have HB : Hid (tuB P m = false) := by show _ = _; unfold tuB; rw [hin]; simp
      rw [HOFF.out HB.out, HB.out]
      rw [hin] at HIN
      go_enter Try.func24, Try.ntmps24
      go_wp2_with fail
      refine HNT.out.mono ?_
      rintro e w1 ⟨h | h, hb1⟩
      · rw [hg] at h; exact absurd h.1 (by simp)
      · obtain ⟨_, t1, c1, t2, rfl, _, _, _, _, _, _, _⟩ := h
        unfold TrnV
        have hb2 : Below w.heap.size w (w1.alloc (.cells #[.slice (some ⟨t1, 0, none⟩) P.length c1, .slice (some ⟨t2, 0, none⟩) P.length P.length] 33)) := hb1.alloc hb1.size _
        clear hg hin
        go_wp2_with fail
        refine (HIN.out _).mono ?_
        rintro e w2 ⟨rfl, rfl⟩
        go_wp2_with fail
        go_ret2
        exact ⟨tua_off _ _, hb2⟩
    | true =>
      obtain ⟨M, rfl, hM⟩ : ∃ M : Nat, m = (M : Int) ∧ M ≤ 600 := by
        simp only [inB, Bool.and_eq_true, decide_eq_true_eq] at hin
        exact ⟨m.toNat, by omega, by omega⟩
      have HB : Hid (tuB P (M : Int) = true ∧ tuL P (M : Int) = trnP P M) := by
        have h : tuB P (M : Int) = true := by unfold tuB; rw [hg, hin]; rfl
        refine ⟨h, ?_⟩
        unfold tuL; rw [h]; simp
      rw [HB.out.1, HB.out.2]
      rw [hin] at HIN
      have HNX : Hid (∀ k v1 v2 W, ZRow .i64 W v1 P → ZRow .i64 W v2 (trnU P k) → Calls Try.prog 38 #[TrnV v1 v2] W fun e w' => NxA w' W.heap.size P (trnU P k) e ∧ Below W.heap.size W w') := fun k v1 v2 W h1 h2 => l12Next_any v1 v2 P (trnU P k) W h1 h2 (trnU_good hg k)
      have HUL : Hid (∀ k, (trnU P k).length = P.length) := fun k => (trnU_inv hg k).1
      have HTN : Hid (∀ k, (trnP P k).map (Value.int .i64) ++ [Value.int .i64 (nxtK P (trnU P k) : Int)] = (trnP P (k + 1)).map (Value.int .i64)) := fun k => by rw [trnP_next, List.map_append]; rfl
      have HKB : Hid (∀ k, nxtK P (trnU P k) ≤ 12) := fun k => by
        have h1 := bestN_le (addZ (trnU P k) P) (trnU P k).length
        have h2 := (trnU_inv hg k).1
        unfold nxtK; omega
      obtain ⟨i0, hi, hz0, hz1, hz2⟩ := info_parts info_int
      clear hgd hin HOFF
      go_enter Try.func24, Try.ntmps24
      go_wp2_with fail
      refine HNT.out.mono ?_
      rintro e w1 ⟨h | h, hb1⟩
      · rw [hg] at h; exact absurd h.1 (by simp)
      · obtain ⟨_, t1, c1, t2, rfl, hc1, hm1, hl1, hl2, hne, hq1, hq2⟩ := h
        unfold TrnV
        obtain ⟨n, hn⟩ : ∃ n, n = P.length := ⟨_, rfl⟩
        have HNP : Hid (P.length = n) := hn.symm
        rw [← hn] at hc1 ⊢
        obtain ⟨W2, hW2⟩ : ∃ W2, W2 = w1.alloc (.cells #[.slice (some ⟨t1, 0, none⟩) n c1, .slice (some ⟨t2, 0, none⟩) n n] 33) := ⟨_, rfl⟩
        obtain ⟨g6, hg6⟩ : ∃ g, g = w1.heap.size := ⟨_, rfl⟩
        have hb12 : Below w1.heap.size w1 W2 := by rw [hW2]; exact (Below.refl _ _).alloc (Nat.le_refl _) _
        have HX2 : Hid (W2.heap[g6]? = some (.cells #[.slice (some ⟨t1, 0, none⟩) n c1, .slice (some ⟨t2, 0, none⟩) n n] 33)) := by rw [hW2, hg6]; exact trn_new _ _
        have HQ2 : Hid (ZSRow W2 t1 P ∧ ZSRow W2 t2 (trnU P 0)) := ⟨hq1.kept hb12, hq2.kept hb12⟩
        have hbw2 := hb1.trans (hb12.mono hb1.size)
        have hnl : n ≤ 1048576 := by omega
        have HC2 : Hid (n ≤ c1 ∧ c1 ≤ 9223372036854775807 ∧ n ≤ n ∧ n ≤ 9223372036854775807) := ⟨hc1, hm1, Nat.le_refl _, by omega⟩
        have hw6 : w.heap.size ≤ g6 := by rw [hg6]; exact hb1.size
        have HOW2 : Hid (W2.ownsRow (g6 + 1) 3 1 (.slice none 0 0) 0 ((trnP P 0).map (Value.int .i64))) := World.ownsRow_nil W2 (g6 + 1) 3 1
        have HW2 : Hid (w1.alloc (.cells #[.slice (some ⟨t1, 0, none⟩) n c1, .slice (some ⟨t2, 0, none⟩) n n] 33) = W2) := hW2.symm
        have HG6 : Hid (w1.heap.size = g6) := hg6.symm
        clear hq1 hq2 hW2 hb12 hb1 hg hn hg6 hl1 hl2 hc1 hm1 hne
        go_wp2_with (rw [HW2.out])
        refine (HIN.out _).mono ?_
        rintro e w2' ⟨rfl, hw2'⟩
        rw [hw2']
        clear hw2' w2'
        go_wp2_with fail
        (try rw [HG6.out])
        clear HW2 HG6 HIN
        go_loopw [1, 8] (fun mv ov wr => ∃ (k : Nat) (u : Value) (s1 d1 s2 d2 : Nat), k ≤ M ∧ mv = .int .i64 ((M : Int) - (k : Int)) ∧ ov = u ∧ Hid (wr.heap[g6]? = some (.cells #[.slice (some ⟨s1, 0, none⟩) n d1, .slice (some ⟨s2, 0, none⟩) n d2] 33)) ∧ Hid (ZSRow wr s1 P ∧ ZSRow wr s2 (trnU P k)) ∧ Hid (n ≤ d1 ∧ d1 ≤ 9223372036854775807 ∧ n ≤ d2 ∧ d2 ≤ 9223372036854775807) ∧ Hid (wr.ownsRow (g6 + 1) 3 1 u k ((trnP P k).map (Value.int .i64))) ∧ Hid (∀ g, u.ownBlock = some g → g ≠ s1 ∧ g ≠ s2) ∧ Below w.heap.size w wr) (fun mv _ _ => (intOf mv).toNat)
        case atStart => exact ⟨0, _, t1, c1, t2, n, Nat.zero_le _, by simp, rfl, HX2, HQ2, HC2, HOW2, (fun g hg => (by cases hg)), hbw2⟩
        case round =>
          obtain ⟨k, u, s1, d1, s2, d2, hk, rfl, rfl, HX, HQ, HC, HO, HD, hb⟩ := hrel
          clear HX2 HQ2 HC2 HOW2 hbw2
          obtain ⟨xu, cu, hu⟩ := own_sliceT HO.out
          subst hu
          have hXl : g6 < wr.heap.size := (Array.getElem?_eq_some_iff.1 HX.out).1
          by_cases hlt : k < M
          · have HR : Hid (ZRow .i64 wr (.slice (some ⟨s1, 0, none⟩) n d1) P ∧ ZRow .i64 wr (.slice (some ⟨s2, 0, none⟩) n d2) (trnU P k)) := by
              have h1 := HQ.out.1.rowc (cap := d1) (by rw [HNP.out]; exact HC.out.1) HC.out.2.1
              have h2 := HQ.out.2.rowc (cap := d2) (by rw [HUL.out, HNP.out]; exact HC.out.2.2.1) HC.out.2.2.2
              rw [HNP.out] at h1
              rw [HUL.out, HNP.out] at h2
              exact ⟨h1, h2⟩
            have HCA : Hid (Calls Try.prog 38 #[.agg #[.slice (some ⟨s1, 0, none⟩) n d1, .slice (some ⟨s2, 0, none⟩) n d2]] wr fun e w' => NxA w' wr.heap.size P (trnU P k) e ∧ Below wr.heap.size wr w') := HNX.out k _ _ wr HR.out.1 HR.out.2
            have hgt : ¬ ((M : Int) - (k : Int) ≤ 0) := by omega
            have hgt2 : 0 < (M : Int) - (k : Int) := by omega
            have HLT : Hid (∀ g, (Value.slice xu k cu).ownBlock = some g → g6 + 1 ≤ g ∧ g < wr.heap.size) := fun g hg => HO.out.lt g hg
            obtain ⟨⟨p0, p1⟩, _⟩ := trn_cells HX.out
            clear HR HNX
            go_wp2_with fail
            refine HCA.out.mono ?_
            rintro e w5 ⟨⟨g1, e1, g2, e2, rfl, he1, hf1, he2, hf2, hl1, hl2, hne, hq1, hq2⟩, hb5⟩
            unfold TrnV
            have hgl1 : g1 < w5.heap.size := hq1.1
            have hgl2 : g2 < w5.heap.size := hq2.1
            have hs5 := hb5.size
            have hx5 : w5.heap[g6]? = some (.cells #[.slice (some ⟨s1, 0, none⟩) n d1, .slice (some ⟨s2, 0, none⟩) n d2] 33) := (hb5.block _ hXl).trans HX.out
            have ho5 := own_belT HO.out hb5
            have hbw5 := hb.trans (hb5.mono hb.size)
            have hkb := HKB.out k
            obtain ⟨kk, hkk⟩ : ∃ kk, kk = nxtK P (trnU P k) := ⟨_, rfl⟩
            have HTK : Hid ((trnP P k).map (Value.int .i64) ++ [Value.int .i64 (kk : Int)] = (trnP P (k + 1)).map (Value.int .i64)) := by rw [hkk]; exact HTN.out k
            rw [← hkk] at hkb ⊢
            rw [HNP.out] at he1 he2 ⊢
            obtain ⟨W6, hW6⟩ : ∃ W6, W6 = w5.alloc (.cells #[.slice (some ⟨g1, 0, none⟩) n e1, .slice (some ⟨g2, 0, none⟩) n e2] 33) := ⟨_, rfl⟩
            have hb56 : Below w5.heap.size w5 W6 := by rw [hW6]; exact (Below.refl _ _).alloc (Nat.le_refl _) _
            have hn6 : W6.heap[w5.heap.size]? = some (.cells #[.slice (some ⟨g1, 0, none⟩) n e1, .slice (some ⟨g2, 0, none⟩) n e2] 33) := by rw [hW6]; exact trn_new _ _
            have hx6 : W6.heap[g6]? = some (.cells #[.slice (some ⟨s1, 0, none⟩) n d1, .slice (some ⟨s2, 0, none⟩) n d2] 33) := (hb56.block _ (by omega)).trans hx5
            have ho6 := own_belT ho5 hb56
            have hq16 := hq1.kept hb56
            have hq26 := hq2.kept hb56
            have hbw6 := hbw5.trans (hb56.mono hbw5.size)
            have hs6 := hb56.size
            obtain ⟨W7, hW7⟩ : ∃ W7, W7 = put2v W6 g6 (.slice (some ⟨g1, 0, none⟩) n e1) (.slice (some ⟨g2, 0, none⟩) n e2) := ⟨_, rfl⟩
            have hk67 : Kpt W6 W7 (fun j => j = g6) := by rw [hW7]; unfold put2v; exact (kpt_set (S := fun j => j = g6) _ _ _ _ rfl).trans (kpt_set (S := fun j => j = g6) _ _ _ _ rfl)
            have hx7 : W7.heap[g6]? = some (.cells #[.slice (some ⟨g1, 0, none⟩) n e1, .slice (some ⟨g2, 0, none⟩) n e2] 33) := by rw [hW7]; exact put2v_heap hx6
            have ho7 := own_keptT ho6 hk67 (fun g hg => by have := (HLT.out g hg).1; omega)
            have hq17 := hq16.apart hk67 (by omega)
            have hq27 := hq26.apart hk67 (by omega)
            have hbw7 : Below w.heap.size w W7 := hbw6.trans (hk67.below hbw6.size (fun j hj h => by omega))
            have hs7 := hk67.size
            have hb78 : Below W7.heap.size W7 (W7.alloc (.cells #[.int .i64 (kk : Int)] 3)) := (Below.refl _ _).alloc (Nat.le_refl _) _
            have hnews := cell_new_oneT W7 (.int .i64 (kk : Int)) 3
            have ho8 := own_belT ho7 hb78
            have HX7 : Hid (W7.heap[g6]? = some (.cells #[.slice (some ⟨g1, 0, none⟩) n e1, .slice (some ⟨g2, 0, none⟩) n e2] 33)) := hx7
            have HQ7 : Hid (ZSRow W7 g1 P ∧ ZSRow W7 g2 (trnU P (k + 1))) := ⟨hq17, hq27⟩
            have HCN : Hid (n ≤ e1 ∧ e1 ≤ 9223372036854775807 ∧ n ≤ e2 ∧ e2 ≤ 9223372036854775807) := ⟨he1, hf1, he2, hf2⟩
            have HW6 : Hid (w5.alloc (.cells #[.slice (some ⟨g1, 0, none⟩) n e1, .slice (some ⟨g2, 0, none⟩) n e2] 33) = W6) := hW6.symm
            have HW7 : Hid ((W6.setCell ⟨g6, 0, none⟩ (.slice (some ⟨g1, 0, none⟩) n e1)).setCell ⟨g6, 1, none⟩ (.slice (some ⟨g2, 0, none⟩) n e2) = W7) := by rw [hW7]; rfl
            have h7l : g1 < W7.heap.size ∧ g2 < W7.heap.size ∧ wr.heap.size ≤ W7.heap.size := by omega
            obtain ⟨⟨q0, q1⟩, ⟨z0, z1⟩⟩ := trn_cells hx6
            obtain ⟨⟨n0, n1⟩, _⟩ := trn_cells hn6
            clear p0 p1 hb5 hx5 ho5 hbw5 hkk hW6 hb56 hn6 hx6 ho6 hq16 hq26 hbw6 hW7 hk67 hx7 ho7 hq17 hq27 hq1 hq2 hs6 hs7 he1 he2 hf1 hf2 HX HQ HO HCA
            go_wp2_with (first | rw [HW6.out] | rw [HW7.out] | (at_builtin; refine wpList_append_atT rfl (.tmp 33) (.tmp 35) 22 rfl (g6 + 1) 3 i0 (.int .i64 0) 1 8 Try.underlying22 hi hz0 hz1 hz2 rfl (by decide) _ _ _ rfl ho8 ⟨W7.heap.size, 0, none⟩ 1 1 [.int .i64 (kk : Int)] rfl rfl hnews (one_intT _) ?d3 ?d4 ?d5 ?_))
            case d3 => unfold maxLen; omega
            case d4 => omega
            case d5 => simp; omega
            intro v9 w9 hown9 hgrow9 hat9
            rw [HTK.out] at hown9
            have hk9 := grown_kpt hgrow9
            have hX9 : w9.heap[g6]? = some (.cells #[.slice (some ⟨g1, 0, none⟩) n e1, .slice (some ⟨g2, 0, none⟩) n e2] 33) := (hk9.block _ (by simp; omega) (fun h => by have := (HLT.out _ h).1; omega)).trans ((hb78.block _ (by omega)).trans HX7.out)
            have hQ9 : ZSRow w9 g1 P ∧ ZSRow w9 g2 (trnU P (k + 1)) := ⟨(HQ7.out.1.kept hb78).apart hk9 (fun h => by have := (HLT.out _ h).2; omega), (HQ7.out.2.kept hb78).apart hk9 (fun h => by have := (HLT.out _ h).2; omega)⟩
            have hb9 : Below w.heap.size w w9 := (hbw7.trans (hb78.mono hbw7.size)).trans (hk9.below (Nat.le_trans hbw7.size hb78.size) (fun j hj h => by have := (HLT.out _ h).1; omega))
            have hD9 : ∀ g, v9.ownBlock = some g → g ≠ g1 ∧ g ≠ g2 := fun g hg => by
              rcases hat9 with h | h
              · rw [hg] at h
                have := (HLT.out g h.symm).2
                omega
              · rw [hg] at h
                have e : g = W7.heap.size + 1 := Option.some.inj h
                omega
            have HX9 : Hid (w9.heap[g6]? = some (.cells #[.slice (some ⟨g1, 0, none⟩) n e1, .slice (some ⟨g2, 0, none⟩) n e2] 33)) := hX9
            have HQ9 : Hid (ZSRow w9 g1 P ∧ ZSRow w9 g2 (trnU P (k + 1))) := hQ9
            have HO9 : Hid (w9.ownsRow (g6 + 1) 3 1 v9 (k + 1) ((trnP P (k + 1)).map (Value.int .i64))) := hown9
            have HD9 : Hid (∀ g, v9.ownBlock = some g → g ≠ g1 ∧ g ≠ g2) := hD9
            clear hown9 hgrow9 hat9 hk9 hX9 hQ9 hD9 hb78 hnews ho8 hbw7 HX7 HQ7
            go_wp2_with fail
            go_roundw
            case rel => exact ⟨k + 1, v9, g1, e1, g2, e2, by omega, by go_num, rfl, HX9, HQ9, HCN, HO9, HD9, hb9⟩
            case measure => simp [intOf]; omega
          · have hkM : k = M := by omega
            have HO2 : Hid (wr.ownsRow (g6 + 1) 3 1 (.slice xu k cu) k ((trnP P k).map (Value.int .i64))) := HO
            have HKM : Hid (k = M) := hkM
            have hle : ¬ (0 < (M : Int) - (k : Int)) := by omega
            clear hkM HX HQ HO HD HC HNX
            go_wp2_with fail
            go_ret2
            refine ⟨⟨_, rfl, ?_⟩, hb⟩
            rw [trnP_length]
            have h := own_baseT HO2.out (show w.heap.size ≤ g6 + 1 by omega)
            rw [HKM.out] at h
            first | exact h | (rw [HKM.out]; exact h)
end Go.Proofs.Ytafbnhelcoofmaa
