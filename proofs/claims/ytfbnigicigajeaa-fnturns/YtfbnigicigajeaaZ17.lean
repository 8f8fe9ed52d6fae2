import Derived.Test.YtfbnigicigajeaaZ11
import Derived.Test.YtfbnigicigajeaaZ16
import Derived.Laws.Rows
namespace Go.Proofs.Ytfbnigicigajeaa
open Go.RowKit

theorem trnU0_good {A : List Int} (hg : goodW A = true) : goodT A (zrs A.length) = true := by
  unfold goodT
  have h0 : (zrs A.length).sum = 0 := by
    have h2 : ∀ n : Nat, (List.replicate n (0 : Int)).sum = 0 := fun n => by
      induction n with
      | zero => rfl
      | succ n ih => rw [List.replicate_succ, List.sum_cons, ih]; rfl
    exact h2 _
  have h1 : (zrs A.length).all smB = true := List.all_eq_true.2 fun x hx => by rw [(List.mem_replicate.1 hx).2]; rfl
  rw [hg, h0, h1]
  simp [zrs]
set_option maxRecDepth 20000 in
set_option maxHeartbeats 8000000 in
theorem turn_any (g : Nat) (v : Value) (P : List Int) (B : Nat) (w : World) (hc : CurB w g v P B) (hB : B ≤ 900000000) (hl : P.length ≤ 9223372036854775807) (HCL : Hid (0 < P.length → ∀ k, v.ownBlock = some k → k < w.heap.size)) :
    Calls Try.prog 32 #[.pointer (some ⟨g, 0, none⟩)] w fun e w' => (∃ va vu A U, e = .returned (TrnV va vu) ∧ (1 ≤ A.length ∧ A.length ≤ 13) ∧ U.length = A.length ∧ OwnT w' w.heap.size va vu A U) ∧ CurB w' g v P (B + 80) ∧ Kpt w w' (· = g) := by
  have hgw := hc.lt
  have HKE : Hid (∀ W, Kpt w W (fun k => k = g ∨ w.heap.size ≤ k) → Kpt w W (· = g)) := fun W h => h.mono (fun k hk hs => by omega)
  have HGK : Hid (∀ W W', Kpt w W (fun k => k = g ∨ w.heap.size ≤ k) → Kpt W W' (· = g) → Kpt w W' (fun k => k = g ∨ w.heap.size ≤ k)) := fun W W' h k => h.trans (k.mono (fun _ _ e => Or.inl e))
  have HGO : Hid (∀ W W', Kpt w W (fun k => k = g ∨ w.heap.size ≤ k) → ∀ T : Nat → Prop, (∀ k, T k → w.heap.size ≤ k) → Kpt W W' T → Kpt w W' (fun k => k = g ∨ w.heap.size ≤ k)) := fun W W' h T hT k => h.trans (k.mono (fun _ _ e => Or.inr (hT _ e)))
  have HGB : Hid (∀ W W', Kpt w W (fun k => k = g ∨ w.heap.size ≤ k) → Below W.heap.size W W' → Kpt w W' (fun k => k = g ∨ w.heap.size ≤ k)) := fun W W' h k => h.trans (below_kpt0 k _)
  have HCK : Hid (∀ W W' (T : Nat → Prop) n, CurB W g v P n → (∀ k, T k → w.heap.size ≤ k) → Kpt W W' T → CurB W' g v P n) := fun W W' T n h hT k => h.kpt k (fun e => by have := hT _ e; omega) (fun h0 j hj e => by have := HCL.out h0 j hj; have := hT _ e; omega)
  have HCB : Hid (∀ W W' n, CurB W g v P n → Below W.heap.size W W' → CurB W' g v P n) := fun W W' n h k => h.kpt (below_kpt0 k (fun _ => False)) id (fun _ _ _ => id)
  obtain ⟨W0, hW0⟩ : ∃ W0, W0 = w.alloc (.cells #[.slice none 0 0, .slice none 0 0] 30) := ⟨_, rfl⟩
  have hs0 : W0.heap.size = w.heap.size + 1 := by rw [hW0]; simp
  have HC0 : Hid (CurB W0 g v P B) := by rw [hW0]; exact alloc_cur hc _
  have HK0 : Hid (Kpt w W0 (fun k => k = g ∨ w.heap.size ≤ k)) := by rw [hW0]; exact kpt_alloc w _ _
  have HX0 : Hid (W0.heap[w.heap.size]? = some (.cells #[.slice none 0 0, .slice none 0 0] 30)) := by rw [hW0]; exact trn_new _ _
  have HCL0 : Hid (0 < P.length → ∀ k, v.ownBlock = some k → k < W0.heap.size) := fun h0 k hk => by have := HCL.out h0 k hk; omega
  have HW0 : Hid (w.alloc (.cells #[.slice none 0 0, .slice none 0 0] 30) = W0) := hW0.symm
  have HS0 : Hid (W0.heap.size = w.heap.size + 1) := hs0
  clear hW0 hc HCL hs0
  go_enter Try.func32, Try.ntmps32
  go_wp2_with (rw [HW0.out])
  (try rw [HW0.out])
  refine (weights_any g v P B W0 HC0.out hB hl HCL0).mono ?_
  rintro e w1 ⟨u, L, rfl, hL, hd, hc1, hk1⟩
  have HC1 : Hid (CurB w1 g v P (B + 40)) := hc1
  have HK1 : Hid (Kpt w w1 (fun k => k = g ∨ w.heap.size ≤ k)) := HGK.out _ _ HK0.out hk1
  have HX1 : Hid (w1.heap[w.heap.size]? = some (.cells #[.slice none 0 0, .slice none 0 0] 30)) := (hk1.block _ (by have := HS0.out; omega) (by omega)).trans HX0.out
  have hs1 : w.heap.size + 1 ≤ w1.heap.size := by have := hk1.size; have := HS0.out; omega
  have HNT : Hid (Calls Try.prog 15 #[u] w1 fun e w' => NTAns w' w1.heap.size L e ∧ Below w1.heap.size w1 w') := sNewTurn_any u L w1 hd.row (by omega)
  clear hd hc1 hk1 HC0 HK0 HX0 HCL0 HW0 HS0
  go_wp2_with fail
  refine HNT.out.mono ?_
  rintro e w2 ⟨h | h, hb2⟩
  · obtain ⟨_, rfl⟩ := h
    unfold TrnV
    obtain ⟨W3, hW3⟩ : ∃ W, W = w2.alloc (.cells #[.slice none 0 0, .slice none 0 0] 30) := ⟨_, rfl⟩
    have hb23 : Below w2.heap.size w2 W3 := by rw [hW3]; exact (Below.refl _ _).alloc (Nat.le_refl _) _
    have hx3 : W3.heap[w2.heap.size]? = some (.cells #[.slice none 0 0, .slice none 0 0] 30) := by rw [hW3]; exact trn_new _ _
    have hs2 := hb2.size
    have hs3 : W3.heap.size = w2.heap.size + 1 := by rw [hW3]; simp
    have hB3 : W3.heap[w.heap.size]? = some (.cells #[.slice none 0 0, .slice none 0 0] 30) := (hb23.block _ (by omega)).trans ((hb2.block _ (by omega)).trans HX1.out)
    have hc3 := HCB.out _ _ _ (HCB.out _ _ _ HC1.out hb2) hb23
    have hk3 := HGB.out _ _ (HGB.out _ _ HK1.out hb2) hb23
    have hb34 : Below W3.heap.size W3 (W3.alloc (.cells #[.int .i64 2, .int .i64 1] 3)) := (Below.refl _ _).alloc (Nat.le_refl _) _
    have HN2 : Hid (Calls Try.prog 15 #[.slice (some ⟨w2.heap.size + 1, 0, none⟩) 2 2] (W3.alloc (.cells #[.int .i64 2, .int .i64 1] 3)) fun e w' => NTAns w' (W3.alloc (.cells #[.int .i64 2, .int .i64 1] 3)).heap.size [2, 1] e ∧ Below (W3.alloc (.cells #[.int .i64 2, .int .i64 1] 3)).heap.size (W3.alloc (.cells #[.int .i64 2, .int .i64 1] 3)) w') := by rw [← hs3]; exact sNewTurn_any _ [2, 1] _ ((two_zs W3 2 1).rowc (cap := 2) (by decide) (by omega)) (by decide)
    have HX3 : Hid (W3.heap[w2.heap.size]? = some (.cells #[.slice none 0 0, .slice none 0 0] 30)) := hx3
    have HB3 : Hid (W3.heap[w.heap.size]? = some (.cells #[.slice none 0 0, .slice none 0 0] 30)) := hB3
    have HC4 : Hid (CurB (W3.alloc (.cells #[.int .i64 2, .int .i64 1] 3)) g v P (B + 40)) := HCB.out _ _ _ hc3 hb34
    have HK4 : Hid (Kpt w (W3.alloc (.cells #[.int .i64 2, .int .i64 1] 3)) (fun k => k = g ∨ w.heap.size ≤ k)) := HGB.out _ _ hk3 hb34
    have HB34 : Hid (Below W3.heap.size W3 (W3.alloc (.cells #[.int .i64 2, .int .i64 1] 3))) := hb34
    have HW3 : Hid (w2.alloc (.cells #[.slice none 0 0, .slice none 0 0] 30) = W3) := hW3.symm
    have HS4 : Hid ((W3.alloc (.cells #[.int .i64 2, .int .i64 1] 3)).heap.size = W3.heap.size + 1) := by show _ = _; simp
    clear hW3 hb23 hx3 hB3 hc3 hk3 hb34 HC1 HK1 HX1 hb2 HNT
    go_wp2_with fail
    (try rw [HW3.out])
    refine HN2.out.mono ?_
    rintro e w5 ⟨h | h, hb5⟩
    · exact absurd h.1 (by decide)
    · obtain ⟨hgw2, s1, d1, s2, rfl, hd1, hd2, hl1, hl2, hne, hq1, hq2⟩ := h
      unfold TrnV
      obtain ⟨A, hA⟩ : ∃ A : List Int, A = [2, 1] := ⟨_, rfl⟩
      rw [← hA] at hgw2 hd1 hq1 hq2 ⊢
      obtain ⟨n, hn⟩ : ∃ n, n = A.length := ⟨_, rfl⟩
      have hnn2 : n = 2 := by rw [hn, hA]; rfl
      have HNA : Hid (A.length = n) := hn.symm
      rw [← hn] at hd1 hq2 ⊢
      have h5s := hb5.size
      have h4s := HS4.out
      have hx5 := (hb5.block w2.heap.size (by omega)).trans ((HB34.out.block _ (by omega)).trans HX3.out)
      have hB5 := (hb5.block w.heap.size (by omega)).trans ((HB34.out.block _ (by omega)).trans HB3.out)
      obtain ⟨b3, hb3⟩ : ∃ b, b = w2.heap.size := ⟨_, rfl⟩
      rw [← hb3] at hx5 hs3 ⊢
      obtain ⟨W6, hW6⟩ : ∃ W, W = put2v w5 b3 (.slice (some ⟨s1, 0, none⟩) n d1) (.slice (some ⟨s2, 0, none⟩) n n) := ⟨_, rfl⟩
      have hk56 : Kpt w5 W6 (fun j => j = b3) := by rw [hW6]; unfold put2v; exact (kpt_set (S := fun j => j = b3) _ _ _ _ rfl).trans (kpt_set (S := fun j => j = b3) _ _ _ _ rfl)
      have HXA : Hid (W6.heap[b3]? = some (.cells #[.slice (some ⟨s1, 0, none⟩) n d1, .slice (some ⟨s2, 0, none⟩) n n] 30)) := by rw [hW6]; exact put2v_heap hx5
      have HQA : Hid (ZSRow W6 s1 A ∧ ZSRow W6 s2 (zrs n)) := ⟨hq1.apart hk56 (by omega), hq2.apart hk56 (by omega)⟩
      have HBD : Hid (n ≤ d1 ∧ d1 ≤ 9223372036854775807 ∧ n ≤ n ∧ n ≤ 9223372036854775807) := ⟨hd1, hd2, Nat.le_refl _, by omega⟩
      have HNE : Hid (w.heap.size < s1 ∧ w.heap.size < s2 ∧ s1 ≠ b3 ∧ s2 ≠ b3 ∧ s1 ≠ s2 ∧ w.heap.size < b3) := ⟨by omega, by omega, by omega, by omega, hne, by omega⟩
      have HXB : Hid (W6.heap[w.heap.size]? = some (.cells #[.slice none 0 0, .slice none 0 0] 30)) := (hk56.block _ (by omega) (by omega)).trans hB5
      have HCA : Hid (CurB W6 g v P (B + 40)) := HCK.out _ _ _ _ (HCB.out _ _ _ HC4.out hb5) (fun j hj => by omega) hk56
      have HKA : Hid (Kpt w W6 (fun k => k = g ∨ w.heap.size ≤ k)) := HGO.out _ _ (HGB.out _ _ HK4.out hb5) _ (fun j hj => by omega) hk56
      have HGZ : Hid (goodT A (zrs n) = true) := by rw [hn]; exact trnU0_good hgw2
      have HW6 : Hid ((w5.setCell ⟨b3, 0, none⟩ (.slice (some ⟨s1, 0, none⟩) n d1)).setCell ⟨b3, 1, none⟩ (.slice (some ⟨s2, 0, none⟩) n n) = W6) := by rw [hW6]; rfl
      have hn1 : 1 ≤ n ∧ n ≤ 13 := by omega
      obtain ⟨⟨x0, x1⟩, ⟨y0, y1⟩⟩ := trn_cells hx5
      clear hA hgw2 hd1 hd2 hl1 hl2 hne hq1 hq2 hn hnn2 h5s h4s hx5 hB5 hb3 hW6 hk56 hb5 HN2 HX3 HB3 HC4 HK4 HB34 HW3 HS4 hs2 hs3
      go_wp2_with (rw [HW6.out])
      (try rw [HW6.out])
      refine (pick_any 9 g v P (B + 40) _ HCA.out (by omega) hl (by omega)).mono ?_
      rintro e w7 ⟨m, rfl, hm, hc7, hk7⟩
      have hlb : b3 < W6.heap.size := (Array.getElem?_eq_some_iff.1 HXA.out).1
      have hlw : w.heap.size < W6.heap.size := (Array.getElem?_eq_some_iff.1 HXB.out).1
      have HX7 : Hid (w7.heap[b3]? = some (.cells #[.slice (some ⟨s1, 0, none⟩) n d1, .slice (some ⟨s2, 0, none⟩) n n] 30)) := (hk7.block _ hlb (by have := HNE.out; omega)).trans HXA.out
      have HB7 : Hid (w7.heap[w.heap.size]? = some (.cells #[.slice none 0 0, .slice none 0 0] 30)) := (hk7.block _ hlw (by omega)).trans HXB.out
      have HQ7 : Hid (ZSRow w7 s1 A ∧ ZSRow w7 s2 (zrs n)) := ⟨HQA.out.1.apart hk7 (by have := HNE.out; omega), HQA.out.2.apart hk7 (by have := HNE.out; omega)⟩
      have HC7 : Hid (CurB w7 g v P (B + 42)) := hc7
      have HK7 : Hid (Kpt w w7 (fun k => k = g ∨ w.heap.size ≤ k)) := HGK.out _ _ HKA.out hk7
      obtain ⟨M, rfl⟩ : ∃ M : Nat, m = (M : Int) := ⟨m.toNat, by omega⟩
      clear hc7 hk7 HXA HQA HXB HCA HKA hlb hlw
      go_wp2_with fail
      go_loopw [5] (fun nv wr => ∃ (k : Nat) (U : List Int) (q1 e1 q2 e2 : Nat), k ≤ M ∧ nv = .int .i64 (k : Int) ∧ Hid (wr.heap[b3]? = some (.cells #[.slice (some ⟨q1, 0, none⟩) n e1, .slice (some ⟨q2, 0, none⟩) n e2] 30)) ∧ Hid (ZSRow wr q1 A ∧ ZSRow wr q2 U) ∧ Hid (goodT A U = true) ∧ Hid (n ≤ e1 ∧ e1 ≤ 9223372036854775807 ∧ n ≤ e2 ∧ e2 ≤ 9223372036854775807) ∧ Hid (w.heap.size < q1 ∧ w.heap.size < q2 ∧ q1 ≠ b3 ∧ q2 ≠ b3 ∧ q1 ≠ q2 ∧ w.heap.size < b3) ∧ Hid (wr.heap[w.heap.size]? = some (.cells #[.slice none 0 0, .slice none 0 0] 30)) ∧ Hid (CurB wr g v P (B + 42)) ∧ Hid (Kpt w wr (fun k => k = g ∨ w.heap.size ≤ k))) (fun nv _ => (intOf nv).toNat)
      case atStart => exact ⟨M, zrs n, s1, d1, s2, n, Nat.le_refl _, rfl, HX7, HQ7, HGZ, HBD, HNE, HB7, HC7, HK7⟩
      case round =>
        obtain ⟨k, U, q1, e1, q2, e2, hkM, rfl, HX, HQ, HG, HD, HN, HB, HC, HK⟩ := hrel
        clear HX7 HQ7 HGZ HBD HNE HB7 HC7 HK7
        have HUL : Hid (U.length = n) := by have h := (goodT_parts HG.out).2.1; show _ = _; rw [h, HNA.out]
        by_cases hlt : 0 < k
        · have hgt : (0 : Int) < (k : Int) := by omega
          have HR : Hid (ZRow .i64 wr (.slice (some ⟨q1, 0, none⟩) n e1) A ∧ ZRow .i64 wr (.slice (some ⟨q2, 0, none⟩) n e2) U) := by
            have h1 := HQ.out.1.rowc (cap := e1) (by rw [HNA.out]; exact HD.out.1) HD.out.2.1
            have h2 := HQ.out.2.rowc (cap := e2) (by rw [HUL.out]; exact HD.out.2.2.1) HD.out.2.2.2
            rw [HNA.out] at h1
            rw [HUL.out] at h2
            exact ⟨h1, h2⟩
          have HCA : Hid (Calls Try.prog 10 #[.agg #[.slice (some ⟨q1, 0, none⟩) n e1, .slice (some ⟨q2, 0, none⟩) n e2]] wr fun e w' => NTA w' wr.heap.size (nxtB A U) (nxtK A U) A (nxtL A U) e ∧ Below wr.heap.size wr w') := sNextTurn_any _ _ A U wr HR.out.1 HR.out.2 (by rw [HNA.out]; omega)
          obtain ⟨⟨p0, p1⟩, _⟩ := trn_cells HX.out
          have hlb : b3 < wr.heap.size := (Array.getElem?_eq_some_iff.1 HX.out).1
          have hlw : w.heap.size < wr.heap.size := (Array.getElem?_eq_some_iff.1 HB.out).1
          clear HR
          cases hnb : nxtB A U with
          | true =>
            rw [hnb] at HCA
            have HG2 : Hid (goodT A (nxtL A U) = true) := by unfold nxtB at hnb; rw [Bool.and_eq_true] at hnb; exact hnb.2
            have HUL2 : Hid ((nxtL A U).length = n) := by have h := (goodT_parts HG2.out).2.1; show _ = _; rw [h, HNA.out]
            clear hnb
            go_wp2_with fail
            refine HCA.out.mono ?_
            rintro e w5 ⟨⟨va, vu, rfl, ho⟩, hb5⟩
            rcases ho with ⟨_, _, hA, _⟩ | ⟨g1, f1, g2, f2, rfl, rfl, h1, h2, h3, h4, h5, h6, h7, z1, z2⟩
            · have hA2 : A = [] := hA
              have hA3 := HNA.out
              rw [hA2] at hA3
              simp at hA3; omega
            · have z1 : ZSRow w5 g1 A := z1
              have z2 : ZSRow w5 g2 (nxtL A U) := z2
              have h1 : A.length ≤ f1 := h1
              have h3 : (nxtL A U).length ≤ f2 := h3
              rw [HNA.out] at h1
              rw [HUL2.out] at h3
              have hv1 : Value.slice (some ⟨g1, 0, none⟩) (if true = true then A else []).length f1 = Value.slice (some ⟨g1, 0, none⟩) n f1 := by show Value.slice _ A.length _ = _; rw [HNA.out]
              have hv2 : Value.slice (some ⟨g2, 0, none⟩) (if true = true then nxtL A U else []).length f2 = Value.slice (some ⟨g2, 0, none⟩) n f2 := by show Value.slice _ (nxtL A U).length _ = _; rw [HUL2.out]
              rw [hv1, hv2]
              unfold TrnV
              clear hv1 hv2
              obtain ⟨W6, hW6⟩ : ∃ W6, W6 = w5.alloc (.cells #[.slice (some ⟨g1, 0, none⟩) n f1, .slice (some ⟨g2, 0, none⟩) n f2] 30) := ⟨_, rfl⟩
              have hb56 : Below w5.heap.size w5 W6 := by rw [hW6]; exact (Below.refl _ _).alloc (Nat.le_refl _) _
              have hn6 : W6.heap[w5.heap.size]? = some (.cells #[.slice (some ⟨g1, 0, none⟩) n f1, .slice (some ⟨g2, 0, none⟩) n f2] 30) := by rw [hW6]; exact trn_new _ _
              have hs5 := hb5.size
              have hx6 : W6.heap[b3]? = some (.cells #[.slice (some ⟨q1, 0, none⟩) n e1, .slice (some ⟨q2, 0, none⟩) n e2] 30) := (hb56.block _ (by omega)).trans ((hb5.block _ hlb).trans HX.out)
              have hB6 : W6.heap[w.heap.size]? = some (.cells #[.slice none 0 0, .slice none 0 0] 30) := (hb56.block _ (by omega)).trans ((hb5.block _ hlw).trans HB.out)
              have hc6 := HCB.out _ _ _ (HCB.out _ _ _ HC.out hb5) hb56
              have hk6 := HGB.out _ _ (HGB.out _ _ HK.out hb5) hb56
              have hnn := HN.out
              obtain ⟨W7, hW7⟩ : ∃ W7, W7 = put2v W6 b3 (.slice (some ⟨g1, 0, none⟩) n f1) (.slice (some ⟨g2, 0, none⟩) n f2) := ⟨_, rfl⟩
              have hk67 : Kpt W6 W7 (fun j => j = b3) := by rw [hW7]; unfold put2v; exact (kpt_set (S := fun j => j = b3) _ _ _ _ rfl).trans (kpt_set (S := fun j => j = b3) _ _ _ _ rfl)
              have HX7 : Hid (W7.heap[b3]? = some (.cells #[.slice (some ⟨g1, 0, none⟩) n f1, .slice (some ⟨g2, 0, none⟩) n f2] 30)) := by rw [hW7]; exact put2v_heap hx6
              have HQ7 : Hid (ZSRow W7 g1 A ∧ ZSRow W7 g2 (nxtL A U)) := ⟨(z1.kept hb56).apart hk67 (by omega), (z2.kept hb56).apart hk67 (by omega)⟩
              have HD7 : Hid (n ≤ f1 ∧ f1 ≤ 9223372036854775807 ∧ n ≤ f2 ∧ f2 ≤ 9223372036854775807) := ⟨h1, h2, h3, h4⟩
              have HN7 : Hid (w.heap.size < g1 ∧ w.heap.size < g2 ∧ g1 ≠ b3 ∧ g2 ≠ b3 ∧ g1 ≠ g2 ∧ w.heap.size < b3) := ⟨by omega, by omega, by omega, by omega, h7, by omega⟩
              have HB7 : Hid (W7.heap[w.heap.size]? = some (.cells #[.slice none 0 0, .slice none 0 0] 30)) := (hk67.block _ (by have := hb56.size; omega) (by omega)).trans hB6
              have HC7 : Hid (CurB W7 g v P (B + 42)) := HCK.out _ _ _ _ hc6 (fun j hj => by omega) hk67
              have HK7 : Hid (Kpt w W7 (fun k => k = g ∨ w.heap.size ≤ k)) := HGO.out _ _ hk6 _ (fun j hj => by omega) hk67
              have HW6 : Hid (w5.alloc (.cells #[.slice (some ⟨g1, 0, none⟩) n f1, .slice (some ⟨g2, 0, none⟩) n f2] 30) = W6) := hW6.symm
              have HW7 : Hid ((W6.setCell ⟨b3, 0, none⟩ (.slice (some ⟨g1, 0, none⟩) n f1)).setCell ⟨b3, 1, none⟩ (.slice (some ⟨g2, 0, none⟩) n f2) = W7) := by rw [hW7]; rfl
              obtain ⟨⟨x0, x1⟩, ⟨y0, y1⟩⟩ := trn_cells hx6
              obtain ⟨⟨n0, n1⟩, _⟩ := trn_cells hn6
              clear p0 p1 hb5 hs5 hW6 hb56 hn6 hx6 hB6 hc6 hk6 hnn hW7 hk67 z1 z2 h1 h2 h3 h4 h5 h6 h7 HX HQ HG HD HN HB HC HK HCA
              go_wp2_with (first | rw [HW6.out] | rw [HW7.out])
              (try rw [HW7.out])
              go_roundw
              case rel => exact ⟨k - 1, _, g1, f1, g2, f2, by omega, congrArg (Value.int .i64) (by omega), HX7, HQ7, HG2, HD7, HN7, HB7, HC7, HK7⟩
              case measure => simp [intOf]; omega
          | false =>
            rw [hnb] at HCA
            clear hnb
            go_wp2_with fail
            refine HCA.out.mono ?_
            rintro e w5 ⟨⟨va, vu, rfl, ho⟩, hb5⟩
            obtain ⟨a1, f1, a2, f2, hv1, hv2⟩ := ho.shape
            rw [hv1, hv2]
            unfold TrnV
            clear hv1 hv2 ho
            generalize (if false = true then A else []).length = k1
            generalize (if false = true then nxtL A U else []).length = k2
            have hs5 := hb5.size
            have hb56 := hb5.alloc hb5.size (.cells #[.slice a1 k1 f1, .slice a2 k2 f2] 30)
            have HX7 : Hid ((w5.alloc (.cells #[.slice a1 k1 f1, .slice a2 k2 f2] 30)).heap[b3]? = some (.cells #[.slice (some ⟨q1, 0, none⟩) n e1, .slice (some ⟨q2, 0, none⟩) n e2] 30)) := (hb56.block _ hlb).trans HX.out
            have HQ7 : Hid (ZSRow (w5.alloc (.cells #[.slice a1 k1 f1, .slice a2 k2 f2] 30)) q1 A ∧ ZSRow (w5.alloc (.cells #[.slice a1 k1 f1, .slice a2 k2 f2] 30)) q2 U) := ⟨HQ.out.1.kept hb56, HQ.out.2.kept hb56⟩
            have HB7 : Hid ((w5.alloc (.cells #[.slice a1 k1 f1, .slice a2 k2 f2] 30)).heap[w.heap.size]? = some (.cells #[.slice none 0 0, .slice none 0 0] 30)) := (hb56.block _ hlw).trans HB.out
            have HC7 : Hid (CurB (w5.alloc (.cells #[.slice a1 k1 f1, .slice a2 k2 f2] 30)) g v P (B + 42)) := HCB.out _ _ _ HC.out hb56
            have HK7 : Hid (Kpt w (w5.alloc (.cells #[.slice a1 k1 f1, .slice a2 k2 f2] 30)) (fun k => k = g ∨ w.heap.size ≤ k)) := HGB.out _ _ HK.out hb56
            clear p0 p1 hb5 hb56 hs5 HX HQ HB HC HK HCA
            go_wp2_with fail
            go_roundw
            case rel => exact ⟨k - 1, U, q1, e1, q2, e2, by omega, congrArg (Value.int .i64) (by omega), HX7, HQ7, HG, HD, HN, HB7, HC7, HK7⟩
            case measure => simp [intOf]; omega
        · have hk0 : k = 0 := by omega
          subst hk0
          clear hlt
          go_wp2_with fail
          refine (one_any 20 g v P (B + 42) _ HC.out (by omega) hl (by omega)).mono ?_
          rintro e w8 ⟨bb, rfl, hc8, hk8⟩
          have hlb : b3 < wr.heap.size := (Array.getElem?_eq_some_iff.1 HX.out).1
          have hlw : w.heap.size < wr.heap.size := (Array.getElem?_eq_some_iff.1 HB.out).1
          have hnn := HN.out
          have hx8 : w8.heap[b3]? = some (.cells #[.slice (some ⟨q1, 0, none⟩) n e1, .slice (some ⟨q2, 0, none⟩) n e2] 30) := (hk8.block _ hlb (by omega)).trans HX.out
          have hB8 : w8.heap[w.heap.size]? = some (.cells #[.slice none 0 0, .slice none 0 0] 30) := (hk8.block _ hlw (by omega)).trans HB.out
          have hz81 := HQ.out.1.apart hk8 (by omega)
          have hz82 := HQ.out.2.apart hk8 (by omega)
          have hK8 := HGK.out _ _ HK.out hk8
          have hl8 := hk8.size
          cases bb with
          | true =>
            have hsm := sm_in (List.all_eq_true.1 (goodT_parts HG.out).2.2.1 _ (List.getElem_mem (show 0 < U.length by rw [HUL.out]; omega)))
            obtain ⟨r0, r1⟩ := hz82.2 0 (by rw [HUL.out]; omega)
            have hst := hz82.set 0 (by rw [HUL.out]; omega) (U[0]'(by rw [HUL.out]; omega) + 1)
            obtain ⟨y, hy⟩ : ∃ y, y = U[0]'(by rw [HUL.out]; omega) := ⟨_, rfl⟩
            rw [← hy] at hsm r0 hst
            have hks := kpt_set w8 q2 0 (.int .i64 (y + 1)) (S := fun j => j = q2) rfl
            obtain ⟨W9, hW9⟩ : ∃ W, W = w8.setCell ⟨q2, 0, none⟩ (.int .i64 (y + 1)) := ⟨_, rfl⟩
            rw [← hW9] at hks hst
            have hx9 : W9.heap[b3]? = some (.cells #[.slice (some ⟨q1, 0, none⟩) n e1, .slice (some ⟨q2, 0, none⟩) n e2] 30) := (hks.block _ (by omega) (by omega)).trans hx8
            have hB9 : W9.heap[w.heap.size]? = some (.cells #[.slice none 0 0, .slice none 0 0] 30) := (hks.block _ (by omega) (by omega)).trans hB8
            have hz91 := hz81.apart hks (by omega)
            have hs9 := hks.size
            have hc9 := HCK.out _ _ _ _ hc8 (fun j hj => by omega) hks
            have hK9 := HGO.out _ _ hK8 _ (fun j hj => by omega) hks
            have hke : Kpt W9 (put2v W9 w.heap.size (.slice (some ⟨q1, 0, none⟩) n e1) (.slice (some ⟨q2, 0, none⟩) n e2)) (fun j => j = w.heap.size) := by unfold put2v; exact (kpt_set (S := fun j => j = w.heap.size) _ _ _ _ rfl).trans (kpt_set (S := fun j => j = w.heap.size) _ _ _ _ rfl)
            have HO : Hid (OwnT (put2v W9 w.heap.size (.slice (some ⟨q1, 0, none⟩) n e1) (.slice (some ⟨q2, 0, none⟩) n e2)) w.heap.size (.slice (some ⟨q1, 0, none⟩) n e1) (.slice (some ⟨q2, 0, none⟩) n e2) A (U.set 0 (y + 1))) := .inr ⟨q1, e1, q2, e2, by rw [HNA.out], by rw [List.length_set, HUL.out], by rw [HNA.out]; exact HD.out.1, HD.out.2.1, by rw [List.length_set, HUL.out]; exact HD.out.2.2.1, HD.out.2.2.2, by omega, by omega, hnn.2.2.2.2.1, hz91.apart hke (by omega), hst.apart hke (by omega)⟩
            have HCE : Hid (CurB (put2v W9 w.heap.size (.slice (some ⟨q1, 0, none⟩) n e1) (.slice (some ⟨q2, 0, none⟩) n e2)) g v P (B + 80)) := (HCK.out _ _ _ _ hc9 (fun j hj => by omega) hke).mono (by omega)
            have HKF : Hid (Kpt w (put2v W9 w.heap.size (.slice (some ⟨q1, 0, none⟩) n e1) (.slice (some ⟨q2, 0, none⟩) n e2)) (· = g)) := HKE.out _ (HGO.out _ _ hK9 _ (fun j hj => by omega) hke)
            have HUS : Hid ((U.set 0 (y + 1)).length = A.length) := by show _ = _; rw [List.length_set, HUL.out, HNA.out]
            have HBE : Hid (W9.heap[w.heap.size]? = some (.cells #[.slice none 0 0, .slice none 0 0] 30)) := hB9
            have HW9 : Hid (w8.setCell ⟨q2, 0, none⟩ (.int .i64 (y + 1)) = W9) := hW9.symm
            have hni : (0 : Int) < (n : Int) := by omega
            obtain ⟨⟨x0, x1⟩, _⟩ := trn_cells hx8
            obtain ⟨⟨m0, m1⟩, _⟩ := trn_cells hx9
            obtain ⟨⟨b0, b1⟩, ⟨c0, c1⟩⟩ := trn_cells hB9
            clear hy hst hks hW9 hx8 hx9 hB8 hB9 hz81 hz82 hz91 hc8 hk8 hK8 hc9 hK9 hke HX HQ HG HD HN HB HC HK hs9 hl8 hlb hlw
            go_wp2_with (rw [HW9.out])
            (try simp only [Exit.inBlock, Exit.then])
            exact bodyPost_ret (results_cell_row rfl _ _ w.heap.size 30 #[.slice (some ⟨q1, 0, none⟩) n e1, .slice (some ⟨q2, 0, none⟩) n e2] (0, 0) _ rfl (put2v_heap HBE.out) Try.underlying30 rfl (by kernel_rfl)) rfl ⟨⟨_, _, A, U.set 0 (y + 1), rfl, by rw [HNA.out]; omega, HUS.out, HO.out⟩, HCE.out, HKF.out⟩
          | false =>
            have hke : Kpt w8 (put2v w8 w.heap.size (.slice (some ⟨q1, 0, none⟩) n e1) (.slice (some ⟨q2, 0, none⟩) n e2)) (fun j => j = w.heap.size) := by unfold put2v; exact (kpt_set (S := fun j => j = w.heap.size) _ _ _ _ rfl).trans (kpt_set (S := fun j => j = w.heap.size) _ _ _ _ rfl)
            have HO : Hid (OwnT (put2v w8 w.heap.size (.slice (some ⟨q1, 0, none⟩) n e1) (.slice (some ⟨q2, 0, none⟩) n e2)) w.heap.size (.slice (some ⟨q1, 0, none⟩) n e1) (.slice (some ⟨q2, 0, none⟩) n e2) A U) := .inr ⟨q1, e1, q2, e2, by rw [HNA.out], by rw [HUL.out], by rw [HNA.out]; exact HD.out.1, HD.out.2.1, by rw [HUL.out]; exact HD.out.2.2.1, HD.out.2.2.2, by omega, by omega, hnn.2.2.2.2.1, hz81.apart hke (by omega), hz82.apart hke (by omega)⟩
            have HCE : Hid (CurB (put2v w8 w.heap.size (.slice (some ⟨q1, 0, none⟩) n e1) (.slice (some ⟨q2, 0, none⟩) n e2)) g v P (B + 80)) := (HCK.out _ _ _ _ hc8 (fun j hj => by omega) hke).mono (by omega)
            have HKF : Hid (Kpt w (put2v w8 w.heap.size (.slice (some ⟨q1, 0, none⟩) n e1) (.slice (some ⟨q2, 0, none⟩) n e2)) (· = g)) := HKE.out _ (HGO.out _ _ hK8 _ (fun j hj => by omega) hke)
            have HUS : Hid (U.length = A.length) := by show _ = _; rw [HUL.out, HNA.out]
            have HBE : Hid (w8.heap[w.heap.size]? = some (.cells #[.slice none 0 0, .slice none 0 0] 30)) := hB8
            obtain ⟨⟨x0, x1⟩, _⟩ := trn_cells hx8
            obtain ⟨⟨b0, b1⟩, ⟨c0, c1⟩⟩ := trn_cells hB8
            clear hx8 hB8 hz81 hz82 hc8 hk8 hK8 hke HX HQ HG HD HN HB HC HK hl8 hlb hlw
            go_wp2_with fail
            (try simp only [Exit.inBlock, Exit.then])
            exact bodyPost_ret (results_cell_row rfl _ _ w.heap.size 30 #[.slice (some ⟨q1, 0, none⟩) n e1, .slice (some ⟨q2, 0, none⟩) n e2] (0, 0) _ rfl (put2v_heap HBE.out) Try.underlying30 rfl (by kernel_rfl)) rfl ⟨⟨_, _, A, U, rfl, by rw [HNA.out]; omega, HUS.out, HO.out⟩, HCE.out, HKF.out⟩
  · obtain ⟨hgw2, s1, d1, s2, rfl, hd1, hd2, hl1, hl2, hne, hq1, hq2⟩ := h
    unfold TrnV
    obtain ⟨A, hA⟩ : ∃ A : List Int, A = L := ⟨_, rfl⟩
    rw [← hA] at hgw2 hd1 hq1 hq2 hL ⊢
    obtain ⟨n, hn⟩ : ∃ n, n = A.length := ⟨_, rfl⟩
    have HNA : Hid (A.length = n) := hn.symm
    rw [← hn] at hd1 hq2 hL ⊢
    obtain ⟨W3, hW3⟩ : ∃ W, W = w2.alloc (.cells #[.slice (some ⟨s1, 0, none⟩) n d1, .slice (some ⟨s2, 0, none⟩) n n] 30) := ⟨_, rfl⟩
    have hb23 : Below w2.heap.size w2 W3 := by rw [hW3]; exact (Below.refl _ _).alloc (Nat.le_refl _) _
    have hx3 : W3.heap[w2.heap.size]? = some (.cells #[.slice (some ⟨s1, 0, none⟩) n d1, .slice (some ⟨s2, 0, none⟩) n n] 30) := by rw [hW3]; exact trn_new _ _
    have hs2 := hb2.size
    have hqa := hq1.1
    have hqb := hq2.1
    have HXB : Hid (W3.heap[w.heap.size]? = some (.cells #[.slice none 0 0, .slice none 0 0] 30)) := (hb23.block _ (by omega)).trans ((hb2.block _ (by omega)).trans HX1.out)
    have HCA : Hid (CurB W3 g v P (B + 40)) := HCB.out _ _ _ (HCB.out _ _ _ HC1.out hb2) hb23
    have HKA : Hid (Kpt w W3 (fun k => k = g ∨ w.heap.size ≤ k)) := HGB.out _ _ (HGB.out _ _ HK1.out hb2) hb23
    have HQA : Hid (ZSRow W3 s1 A ∧ ZSRow W3 s2 (zrs n)) := ⟨hq1.kept hb23, hq2.kept hb23⟩
    have HBD : Hid (n ≤ d1 ∧ d1 ≤ 9223372036854775807 ∧ n ≤ n ∧ n ≤ 9223372036854775807) := ⟨hd1, hd2, Nat.le_refl _, by omega⟩
    obtain ⟨b3, hb3⟩ : ∃ b, b = w2.heap.size := ⟨_, rfl⟩
    have HNE : Hid (w.heap.size < s1 ∧ w.heap.size < s2 ∧ s1 ≠ b3 ∧ s2 ≠ b3 ∧ s1 ≠ s2 ∧ w.heap.size < b3) := ⟨by omega, by omega, by omega, by omega, hne, by omega⟩
    have HXA : Hid (W3.heap[b3]? = some (.cells #[.slice (some ⟨s1, 0, none⟩) n d1, .slice (some ⟨s2, 0, none⟩) n n] 30)) := by rw [hb3]; exact hx3
    have HGZ : Hid (goodT A (zrs n) = true) := by rw [hn]; exact trnU0_good hgw2
    have HW3 : Hid (w2.alloc (.cells #[.slice (some ⟨s1, 0, none⟩) n d1, .slice (some ⟨s2, 0, none⟩) n n] 30) = W3) := hW3.symm
    have HB3 : Hid (w2.heap.size = b3) := hb3.symm
    have hn1 : 1 ≤ n ∧ n ≤ 13 := hL
    clear hA hgw2 hd1 hd2 hl1 hl2 hne hq1 hq2 hn hW3 hb23 hx3 hs2 hqa hqb hb3 hb2 HNT HC1 HK1 HX1
    go_wp2_with (rw [HW3.out])
    (try rw [HW3.out])
    (try rw [HB3.out])
    clear HB3 HW3
    refine (pick_any 9 g v P (B + 40) _ HCA.out (by omega) hl (by omega)).mono ?_
    rintro e w7 ⟨m, rfl, hm, hc7, hk7⟩
    have hlb : b3 < W3.heap.size := (Array.getElem?_eq_some_iff.1 HXA.out).1
    have hlw : w.heap.size < W3.heap.size := (Array.getElem?_eq_some_iff.1 HXB.out).1
    have HX7 : Hid (w7.heap[b3]? = some (.cells #[.slice (some ⟨s1, 0, none⟩) n d1, .slice (some ⟨s2, 0, none⟩) n n] 30)) := (hk7.block _ hlb (by have := HNE.out; omega)).trans HXA.out
    have HB7 : Hid (w7.heap[w.heap.size]? = some (.cells #[.slice none 0 0, .slice none 0 0] 30)) := (hk7.block _ hlw (by omega)).trans HXB.out
    have HQ7 : Hid (ZSRow w7 s1 A ∧ ZSRow w7 s2 (zrs n)) := ⟨HQA.out.1.apart hk7 (by have := HNE.out; omega), HQA.out.2.apart hk7 (by have := HNE.out; omega)⟩
    have HC7 : Hid (CurB w7 g v P (B + 42)) := hc7
    have HK7 : Hid (Kpt w w7 (fun k => k = g ∨ w.heap.size ≤ k)) := HGK.out _ _ HKA.out hk7
    obtain ⟨M, rfl⟩ : ∃ M : Nat, m = (M : Int) := ⟨m.toNat, by omega⟩
    clear hc7 hk7 HXA HQA HXB HCA HKA hlb hlw
    go_wp2_with fail
    go_loopw [5] (fun nv wr => ∃ (k : Nat) (U : List Int) (q1 e1 q2 e2 : Nat), k ≤ M ∧ nv = .int .i64 (k : Int) ∧ Hid (wr.heap[b3]? = some (.cells #[.slice (some ⟨q1, 0, none⟩) n e1, .slice (some ⟨q2, 0, none⟩) n e2] 30)) ∧ Hid (ZSRow wr q1 A ∧ ZSRow wr q2 U) ∧ Hid (goodT A U = true) ∧ Hid (n ≤ e1 ∧ e1 ≤ 9223372036854775807 ∧ n ≤ e2 ∧ e2 ≤ 9223372036854775807) ∧ Hid (w.heap.size < q1 ∧ w.heap.size < q2 ∧ q1 ≠ b3 ∧ q2 ≠ b3 ∧ q1 ≠ q2 ∧ w.heap.size < b3) ∧ Hid (wr.heap[w.heap.size]? = some (.cells #[.slice none 0 0, .slice none 0 0] 30)) ∧ Hid (CurB wr g v P (B + 42)) ∧ Hid (Kpt w wr (fun k => k = g ∨ w.heap.size ≤ k))) (fun nv _ => (intOf nv).toNat)
    case atStart => exact ⟨M, zrs n, s1, d1, s2, n, Nat.le_refl _, rfl, HX7, HQ7, HGZ, HBD, HNE, HB7, HC7, HK7⟩
    case round =>
      obtain ⟨k, U, q1, e1, q2, e2, hkM, rfl, HX, HQ, HG, HD, HN, HB, HC, HK⟩ := hrel
      clear HX7 HQ7 HGZ HBD HNE HB7 HC7 HK7
      have HUL : Hid (U.length = n) := by have h := (goodT_parts HG.out).2.1; show _ = _; rw [h, HNA.out]
      by_cases hlt : 0 < k
      · have hgt : (0 : Int) < (k : Int) := by omega
        have HR : Hid (ZRow .i64 wr (.slice (some ⟨q1, 0, none⟩) n e1) A ∧ ZRow .i64 wr (.slice (some ⟨q2, 0, none⟩) n e2) U) := by
          have h1 := HQ.out.1.rowc (cap := e1) (by rw [HNA.out]; exact HD.out.1) HD.out.2.1
          have h2 := HQ.out.2.rowc (cap := e2) (by rw [HUL.out]; exact HD.out.2.2.1) HD.out.2.2.2
          rw [HNA.out] at h1
          rw [HUL.out] at h2
          exact ⟨h1, h2⟩
        have HCA : Hid (Calls Try.prog 10 #[.agg #[.slice (some ⟨q1, 0, none⟩) n e1, .slice (some ⟨q2, 0, none⟩) n e2]] wr fun e w' => NTA w' wr.heap.size (nxtB A U) (nxtK A U) A (nxtL A U) e ∧ Below wr.heap.size wr w') := sNextTurn_any _ _ A U wr HR.out.1 HR.out.2 (by rw [HNA.out]; omega)
        obtain ⟨⟨p0, p1⟩, _⟩ := trn_cells HX.out
        have hlb : b3 < wr.heap.size := (Array.getElem?_eq_some_iff.1 HX.out).1
        have hlw : w.heap.size < wr.heap.size := (Array.getElem?_eq_some_iff.1 HB.out).1
        clear HR
        cases hnb : nxtB A U with
        | true =>
          rw [hnb] at HCA
          have HG2 : Hid (goodT A (nxtL A U) = true) := by unfold nxtB at hnb; rw [Bool.and_eq_true] at hnb; exact hnb.2
          have HUL2 : Hid ((nxtL A U).length = n) := by have h := (goodT_parts HG2.out).2.1; show _ = _; rw [h, HNA.out]
          clear hnb
          go_wp2_with fail
          refine HCA.out.mono ?_
          rintro e w5 ⟨⟨va, vu, rfl, ho⟩, hb5⟩
          rcases ho with ⟨_, _, hA, _⟩ | ⟨g1, f1, g2, f2, rfl, rfl, h1, h2, h3, h4, h5, h6, h7, z1, z2⟩
          · have hA2 : A = [] := hA
            have hA3 := HNA.out
            rw [hA2] at hA3
            simp at hA3; omega
          · have z1 : ZSRow w5 g1 A := z1
            have z2 : ZSRow w5 g2 (nxtL A U) := z2
            have h1 : A.length ≤ f1 := h1
            have h3 : (nxtL A U).length ≤ f2 := h3
            rw [HNA.out] at h1
            rw [HUL2.out] at h3
            have hv1 : Value.slice (some ⟨g1, 0, none⟩) (if true = true then A else []).length f1 = Value.slice (some ⟨g1, 0, none⟩) n f1 := by show Value.slice _ A.length _ = _; rw [HNA.out]
            have hv2 : Value.slice (some ⟨g2, 0, none⟩) (if true = true then nxtL A U else []).length f2 = Value.slice (some ⟨g2, 0, none⟩) n f2 := by show Value.slice _ (nxtL A U).length _ = _; rw [HUL2.out]
            rw [hv1, hv2]
            unfold TrnV
            clear hv1 hv2
            obtain ⟨W6, hW6⟩ : ∃ W6, W6 = w5.alloc (.cells #[.slice (some ⟨g1, 0, none⟩) n f1, .slice (some ⟨g2, 0, none⟩) n f2] 30) := ⟨_, rfl⟩
            have hb56 : Below w5.heap.size w5 W6 := by rw [hW6]; exact (Below.refl _ _).alloc (Nat.le_refl _) _
            have hn6 : W6.heap[w5.heap.size]? = some (.cells #[.slice (some ⟨g1, 0, none⟩) n f1, .slice (some ⟨g2, 0, none⟩) n f2] 30) := by rw [hW6]; exact trn_new _ _
            have hs5 := hb5.size
            have hx6 : W6.heap[b3]? = some (.cells #[.slice (some ⟨q1, 0, none⟩) n e1, .slice (some ⟨q2, 0, none⟩) n e2] 30) := (hb56.block _ (by omega)).trans ((hb5.block _ hlb).trans HX.out)
            have hB6 : W6.heap[w.heap.size]? = some (.cells #[.slice none 0 0, .slice none 0 0] 30) := (hb56.block _ (by omega)).trans ((hb5.block _ hlw).trans HB.out)
            have hc6 := HCB.out _ _ _ (HCB.out _ _ _ HC.out hb5) hb56
            have hk6 := HGB.out _ _ (HGB.out _ _ HK.out hb5) hb56
            have hnn := HN.out
            obtain ⟨W7, hW7⟩ : ∃ W7, W7 = put2v W6 b3 (.slice (some ⟨g1, 0, none⟩) n f1) (.slice (some ⟨g2, 0, none⟩) n f2) := ⟨_, rfl⟩
            have hk67 : Kpt W6 W7 (fun j => j = b3) := by rw [hW7]; unfold put2v; exact (kpt_set (S := fun j => j = b3) _ _ _ _ rfl).trans (kpt_set (S := fun j => j = b3) _ _ _ _ rfl)
            have HX7 : Hid (W7.heap[b3]? = some (.cells #[.slice (some ⟨g1, 0, none⟩) n f1, .slice (some ⟨g2, 0, none⟩) n f2] 30)) := by rw [hW7]; exact put2v_heap hx6
            have HQ7 : Hid (ZSRow W7 g1 A ∧ ZSRow W7 g2 (nxtL A U)) := ⟨(z1.kept hb56).apart hk67 (by omega), (z2.kept hb56).apart hk67 (by omega)⟩
            have HD7 : Hid (n ≤ f1 ∧ f1 ≤ 9223372036854775807 ∧ n ≤ f2 ∧ f2 ≤ 9223372036854775807) := ⟨h1, h2, h3, h4⟩
            have HN7 : Hid (w.heap.size < g1 ∧ w.heap.size < g2 ∧ g1 ≠ b3 ∧ g2 ≠ b3 ∧ g1 ≠ g2 ∧ w.heap.size < b3) := ⟨by omega, by omega, by omega, by omega, h7, by omega⟩
            have HB7 : Hid (W7.heap[w.heap.size]? = some (.cells #[.slice none 0 0, .slice none 0 0] 30)) := (hk67.block _ (by have := hb56.size; omega) (by omega)).trans hB6
            have HC7 : Hid (CurB W7 g v P (B + 42)) := HCK.out _ _ _ _ hc6 (fun j hj => by omega) hk67
            have HK7 : Hid (Kpt w W7 (fun k => k = g ∨ w.heap.size ≤ k)) := HGO.out _ _ hk6 _ (fun j hj => by omega) hk67
            have HW6 : Hid (w5.alloc (.cells #[.slice (some ⟨g1, 0, none⟩) n f1, .slice (some ⟨g2, 0, none⟩) n f2] 30) = W6) := hW6.symm
            have HW7 : Hid ((W6.setCell ⟨b3, 0, none⟩ (.slice (some ⟨g1, 0, none⟩) n f1)).setCell ⟨b3, 1, none⟩ (.slice (some ⟨g2, 0, none⟩) n f2) = W7) := by rw [hW7]; rfl
            obtain ⟨⟨x0, x1⟩, ⟨y0, y1⟩⟩ := trn_cells hx6
            obtain ⟨⟨n0, n1⟩, _⟩ := trn_cells hn6
            clear p0 p1 hb5 hs5 hW6 hb56 hn6 hx6 hB6 hc6 hk6 hnn hW7 hk67 z1 z2 h1 h2 h3 h4 h5 h6 h7 HX HQ HG HD HN HB HC HK HCA
            go_wp2_with (first | rw [HW6.out] | rw [HW7.out])
            (try rw [HW7.out])
            go_roundw
            case rel => exact ⟨k - 1, _, g1, f1, g2, f2, by omega, congrArg (Value.int .i64) (by omega), HX7, HQ7, HG2, HD7, HN7, HB7, HC7, HK7⟩
            case measure => simp [intOf]; omega
        | false =>
          rw [hnb] at HCA
          clear hnb
          go_wp2_with fail
          refine HCA.out.mono ?_
          rintro e w5 ⟨⟨va, vu, rfl, ho⟩, hb5⟩
          obtain ⟨a1, f1, a2, f2, hv1, hv2⟩ := ho.shape
          rw [hv1, hv2]
          unfold TrnV
          clear hv1 hv2 ho
          generalize (if false = true then A else []).length = k1
          generalize (if false = true then nxtL A U else []).length = k2
          have hs5 := hb5.size
          have hb56 := hb5.alloc hb5.size (.cells #[.slice a1 k1 f1, .slice a2 k2 f2] 30)
          have HX7 : Hid ((w5.alloc (.cells #[.slice a1 k1 f1, .slice a2 k2 f2] 30)).heap[b3]? = some (.cells #[.slice (some ⟨q1, 0, none⟩) n e1, .slice (some ⟨q2, 0, none⟩) n e2] 30)) := (hb56.block _ hlb).trans HX.out
          have HQ7 : Hid (ZSRow (w5.alloc (.cells #[.slice a1 k1 f1, .slice a2 k2 f2] 30)) q1 A ∧ ZSRow (w5.alloc (.cells #[.slice a1 k1 f1, .slice a2 k2 f2] 30)) q2 U) := ⟨HQ.out.1.kept hb56, HQ.out.2.kept hb56⟩
          have HB7 : Hid ((w5.alloc (.cells #[.slice a1 k1 f1, .slice a2 k2 f2] 30)).heap[w.heap.size]? = some (.cells #[.slice none 0 0, .slice none 0 0] 30)) := (hb56.block _ hlw).trans HB.out
          have HC7 : Hid (CurB (w5.alloc (.cells #[.slice a1 k1 f1, .slice a2 k2 f2] 30)) g v P (B + 42)) := HCB.out _ _ _ HC.out hb56
          have HK7 : Hid (Kpt w (w5.alloc (.cells #[.slice a1 k1 f1, .slice a2 k2 f2] 30)) (fun k => k = g ∨ w.heap.size ≤ k)) := HGB.out _ _ HK.out hb56
          clear p0 p1 hb5 hb56 hs5 HX HQ HB HC HK HCA
          go_wp2_with fail
          go_roundw
          case rel => exact ⟨k - 1, U, q1, e1, q2, e2, by omega, congrArg (Value.int .i64) (by omega), HX7, HQ7, HG, HD, HN, HB7, HC7, HK7⟩
          case measure => simp [intOf]; omega
      · have hk0 : k = 0 := by omega
        subst hk0
        clear hlt
        go_wp2_with fail
        refine (one_any 20 g v P (B + 42) _ HC.out (by omega) hl (by omega)).mono ?_
        rintro e w8 ⟨bb, rfl, hc8, hk8⟩
        have hlb : b3 < wr.heap.size := (Array.getElem?_eq_some_iff.1 HX.out).1
        have hlw : w.heap.size < wr.heap.size := (Array.getElem?_eq_some_iff.1 HB.out).1
        have hnn := HN.out
        have hx8 : w8.heap[b3]? = some (.cells #[.slice (some ⟨q1, 0, none⟩) n e1, .slice (some ⟨q2, 0, none⟩) n e2] 30) := (hk8.block _ hlb (by omega)).trans HX.out
        have hB8 : w8.heap[w.heap.size]? = some (.cells #[.slice none 0 0, .slice none 0 0] 30) := (hk8.block _ hlw (by omega)).trans HB.out
        have hz81 := HQ.out.1.apart hk8 (by omega)
        have hz82 := HQ.out.2.apart hk8 (by omega)
        have hK8 := HGK.out _ _ HK.out hk8
        have hl8 := hk8.size
        cases bb with
        | true =>
          have hsm := sm_in (List.all_eq_true.1 (goodT_parts HG.out).2.2.1 _ (List.getElem_mem (show 0 < U.length by rw [HUL.out]; omega)))
          obtain ⟨r0, r1⟩ := hz82.2 0 (by rw [HUL.out]; omega)
          have hst := hz82.set 0 (by rw [HUL.out]; omega) (U[0]'(by rw [HUL.out]; omega) + 1)
          obtain ⟨y, hy⟩ : ∃ y, y = U[0]'(by rw [HUL.out]; omega) := ⟨_, rfl⟩
          rw [← hy] at hsm r0 hst
          have hks := kpt_set w8 q2 0 (.int .i64 (y + 1)) (S := fun j => j = q2) rfl
          obtain ⟨W9, hW9⟩ : ∃ W, W = w8.setCell ⟨q2, 0, none⟩ (.int .i64 (y + 1)) := ⟨_, rfl⟩
          rw [← hW9] at hks hst
          have hx9 : W9.heap[b3]? = some (.cells #[.slice (some ⟨q1, 0, none⟩) n e1, .slice (some ⟨q2, 0, none⟩) n e2] 30) := (hks.block _ (by omega) (by omega)).trans hx8
          have hB9 : W9.heap[w.heap.size]? = some (.cells #[.slice none 0 0, .slice none 0 0] 30) := (hks.block _ (by omega) (by omega)).trans hB8
          have hz91 := hz81.apart hks (by omega)
          have hs9 := hks.size
          have hc9 := HCK.out _ _ _ _ hc8 (fun j hj => by omega) hks
          have hK9 := HGO.out _ _ hK8 _ (fun j hj => by omega) hks
          have hke : Kpt W9 (put2v W9 w.heap.size (.slice (some ⟨q1, 0, none⟩) n e1) (.slice (some ⟨q2, 0, none⟩) n e2)) (fun j => j = w.heap.size) := by unfold put2v; exact (kpt_set (S := fun j => j = w.heap.size) _ _ _ _ rfl).trans (kpt_set (S := fun j => j = w.heap.size) _ _ _ _ rfl)
          have HO : Hid (OwnT (put2v W9 w.heap.size (.slice (some ⟨q1, 0, none⟩) n e1) (.slice (some ⟨q2, 0, none⟩) n e2)) w.heap.size (.slice (some ⟨q1, 0, none⟩) n e1) (.slice (some ⟨q2, 0, none⟩) n e2) A (U.set 0 (y + 1))) := .inr ⟨q1, e1, q2, e2, by rw [HNA.out], by rw [List.length_set, HUL.out], by rw [HNA.out]; exact HD.out.1, HD.out.2.1, by rw [List.length_set, HUL.out]; exact HD.out.2.2.1, HD.out.2.2.2, by omega, by omega, hnn.2.2.2.2.1, hz91.apart hke (by omega), hst.apart hke (by omega)⟩
          have HCE : Hid (CurB (put2v W9 w.heap.size (.slice (some ⟨q1, 0, none⟩) n e1) (.slice (some ⟨q2, 0, none⟩) n e2)) g v P (B + 80)) := (HCK.out _ _ _ _ hc9 (fun j hj => by omega) hke).mono (by omega)
          have HKF : Hid (Kpt w (put2v W9 w.heap.size (.slice (some ⟨q1, 0, none⟩) n e1) (.slice (some ⟨q2, 0, none⟩) n e2)) (· = g)) := HKE.out _ (HGO.out _ _ hK9 _ (fun j hj => by omega) hke)
          have HUS : Hid ((U.set 0 (y + 1)).length = A.length) := by show _ = _; rw [List.length_set, HUL.out, HNA.out]
          have HBE : Hid (W9.heap[w.heap.size]? = some (.cells #[.slice none 0 0, .slice none 0 0] 30)) := hB9
          have HW9 : Hid (w8.setCell ⟨q2, 0, none⟩ (.int .i64 (y + 1)) = W9) := hW9.symm
          have hni : (0 : Int) < (n : Int) := by omega
          obtain ⟨⟨x0, x1⟩, _⟩ := trn_cells hx8
          obtain ⟨⟨m0, m1⟩, _⟩ := trn_cells hx9
          obtain ⟨⟨b0, b1⟩, ⟨c0, c1⟩⟩ := trn_cells hB9
          clear hy hst hks hW9 hx8 hx9 hB8 hB9 hz81 hz82 hz91 hc8 hk8 hK8 hc9 hK9 hke HX HQ HG HD HN HB HC HK hs9 hl8 hlb hlw
          go_wp2_with (rw [HW9.out])
          (try simp only [Exit.inBlock, Exit.then])
          exact bodyPost_ret (results_cell_row rfl _ _ w.heap.size 30 #[.slice (some ⟨q1, 0, none⟩) n e1, .slice (some ⟨q2, 0, none⟩) n e2] (0, 0) _ rfl (put2v_heap HBE.out) Try.underlying30 rfl (by kernel_rfl)) rfl ⟨⟨_, _, A, U.set 0 (y + 1), rfl, by rw [HNA.out]; omega, HUS.out, HO.out⟩, HCE.out, HKF.out⟩
        | false =>
          have hke : Kpt w8 (put2v w8 w.heap.size (.slice (some ⟨q1, 0, none⟩) n e1) (.slice (some ⟨q2, 0, none⟩) n e2)) (fun j => j = w.heap.size) := by unfold put2v; exact (kpt_set (S := fun j => j = w.heap.size) _ _ _ _ rfl).trans (kpt_set (S := fun j => j = w.heap.size) _ _ _ _ rfl)
          have HO : Hid (OwnT (put2v w8 w.heap.size (.slice (some ⟨q1, 0, none⟩) n e1) (.slice (some ⟨q2, 0, none⟩) n e2)) w.heap.size (.slice (some ⟨q1, 0, none⟩) n e1) (.slice (some ⟨q2, 0, none⟩) n e2) A U) := .inr ⟨q1, e1, q2, e2, by rw [HNA.out], by rw [HUL.out], by rw [HNA.out]; exact HD.out.1, HD.out.2.1, by rw [HUL.out]; exact HD.out.2.2.1, HD.out.2.2.2, by omega, by omega, hnn.2.2.2.2.1, hz81.apart hke (by omega), hz82.apart hke (by omega)⟩
          have HCE : Hid (CurB (put2v w8 w.heap.size (.slice (some ⟨q1, 0, none⟩) n e1) (.slice (some ⟨q2, 0, none⟩) n e2)) g v P (B + 80)) := (HCK.out _ _ _ _ hc8 (fun j hj => by omega) hke).mono (by omega)
          have HKF : Hid (Kpt w (put2v w8 w.heap.size (.slice (some ⟨q1, 0, none⟩) n e1) (.slice (some ⟨q2, 0, none⟩) n e2)) (· = g)) := HKE.out _ (HGO.out _ _ hK8 _ (fun j hj => by omega) hke)
          have HUS : Hid (U.length = A.length) := by show _ = _; rw [HUL.out, HNA.out]
          have HBE : Hid (w8.heap[w.heap.size]? = some (.cells #[.slice none 0 0, .slice none 0 0] 30)) := hB8
          obtain ⟨⟨x0, x1⟩, _⟩ := trn_cells hx8
          obtain ⟨⟨b0, b1⟩, ⟨c0, c1⟩⟩ := trn_cells hB8
          clear hx8 hB8 hz81 hz82 hc8 hk8 hK8 hke HX HQ HG HD HN HB HC HK hl8 hlb hlw
          go_wp2_with fail
          (try simp only [Exit.inBlock, Exit.then])
          exact bodyPost_ret (results_cell_row rfl _ _ w.heap.size 30 #[.slice (some ⟨q1, 0, none⟩) n e1, .slice (some ⟨q2, 0, none⟩) n e2] (0, 0) _ rfl (put2v_heap HBE.out) Try.underlying30 rfl (by kernel_rfl)) rfl ⟨⟨_, _, A, U, rfl, by rw [HNA.out]; omega, HUS.out, HO.out⟩, HCE.out, HKF.out⟩
end Go.Proofs.Ytfbnigicigajeaa

namespace Go.Proofs.Ytfbnigicigajeaa
open Go.RowKit


set_option maxRecDepth 20000 in
set_option maxHeartbeats 2000000 in
theorem drawGoodTurn_any (v : Value) (P : List Int) (w : World) (hr : ZRow .u8 w v P) (hb : Hid (∀ x ∈ P, 0 ≤ x ∧ x ≤ 255)) (hl : P.length ≤ 9223372036854775807) :
    Calls Try.prog 21 #[v] w fun e w' => (∃ va vu A U, e = .returned (TrnV va vu) ∧ (1 ≤ A.length ∧ A.length ≤ 13) ∧ U.length = A.length ∧ OwnT w' w.heap.size va vu A U) ∧ Below w.heap.size w w' := by
  have hr0 : ZRow .u8 (w.alloc (.cells #[.slice none 0 0, .slice none 0 0] 30)) v P := hr.kept ((Below.refl _ _).alloc (Nat.le_refl _) _)
  have hx0 := trn_new w (.cells #[.slice none 0 0, .slice none 0 0] 30)
  have hs0 : (w.alloc (.cells #[.slice none 0 0, .slice none 0 0] 30)).heap.size = w.heap.size + 1 := by simp
  obtain ⟨W1, hW1⟩ : ∃ W, W = ((w.alloc (.cells #[.slice none 0 0, .slice none 0 0] 30)).alloc (.cells #[v, .int .i64 0, .int .u64 0] 42)) := ⟨_, rfl⟩
  have HC0 : Hid (CurB W1 (w.heap.size + 1) v P 0) := by rw [hW1, ← hs0]; exact new_cur hr0 hb.out
  have HX1 : Hid (W1.heap[w.heap.size]? = some (.cells #[.slice none 0 0, .slice none 0 0] 30)) := by rw [hW1]; exact (((Below.refl _ _).alloc (Nat.le_refl _) _).block _ (by rw [hs0]; omega)).trans hx0
  have HS1 : Hid (W1.heap.size = w.heap.size + 1 + 1) := by rw [hW1]; show _ = _; simp
  have HB1 : Hid (Below w.heap.size w W1) := by rw [hW1]; exact ((Below.refl _ _).alloc (Nat.le_refl _) _).alloc (by simp) _
  have HCL : Hid (0 < P.length → ∀ k, v.ownBlock = some k → k < W1.heap.size) := fun h0 k hk => by have := zrow_lt hr h0 k hk; have := HS1.out; omega
  have HW1 : Hid (((w.alloc (.cells #[.slice none 0 0, .slice none 0 0] 30)).alloc (.cells #[v, .int .i64 0, .int .u64 0] 42)) = W1) := hW1.symm
  obtain ⟨a, cap, rfl, hcap, hmax, _⟩ := zrow_value hr
  clear hr hr0 hx0 hs0 hW1
  go_enter Try.func21, Try.ntmps21
  go_wp2_with (rw [HW1.out])
  (try rw [HW1.out])
  refine (turn_any (w.heap.size + 1) _ P 0 W1 HC0.out (by omega) hl HCL).mono ?_
  rintro e w2 ⟨⟨va, vu, A, U, rfl, hA, hU, ho⟩, _, hk⟩
  have hsz := HS1.out
  have hx2 : w2.heap[w.heap.size]? = some (.cells #[.slice none 0 0, .slice none 0 0] 30) := (hk.block _ (by omega) (by omega)).trans HX1.out
  rcases ho with ⟨_, _, hA0, _⟩ | ⟨g1, c1, g2, c2, rfl, rfl, h3, h4, h5, h6, h7, h8, h9, z1, z2⟩
  · rw [hA0] at hA; exact absurd hA.1 (by decide)
  · have hke : Kpt w2 (put2v w2 w.heap.size (.slice (some ⟨g1, 0, none⟩) A.length c1) (.slice (some ⟨g2, 0, none⟩) U.length c2)) (fun j => j = w.heap.size) := by unfold put2v; exact (kpt_set (S := fun j => j = w.heap.size) _ _ _ _ rfl).trans (kpt_set (S := fun j => j = w.heap.size) _ _ _ _ rfl)
    have HO : Hid (OwnT (put2v w2 w.heap.size (.slice (some ⟨g1, 0, none⟩) A.length c1) (.slice (some ⟨g2, 0, none⟩) U.length c2)) w.heap.size (.slice (some ⟨g1, 0, none⟩) A.length c1) (.slice (some ⟨g2, 0, none⟩) U.length c2) A U) := .inr ⟨g1, c1, g2, c2, rfl, rfl, h3, h4, h5, h6, by omega, by omega, h9, z1.apart hke (by omega), z2.apart hke (by omega)⟩
    have HBE : Hid (Below w.heap.size w (put2v w2 w.heap.size (.slice (some ⟨g1, 0, none⟩) A.length c1) (.slice (some ⟨g2, 0, none⟩) U.length c2))) := (HB1.out.trans (hk.below (by omega) (fun j hj e => by omega))).trans (hke.below (by have := hk.size; omega) (fun j hj e => by omega))
    have HX2 : Hid (w2.heap[w.heap.size]? = some (.cells #[.slice none 0 0, .slice none 0 0] 30)) := hx2
    have HU : Hid (U.length = A.length) := hU
    obtain ⟨⟨b0, b1⟩, ⟨f0, f1⟩⟩ := trn_cells hx2
    unfold TrnV
    clear hx2 hke h3 h4 h5 h6 h7 h8 h9 z1 z2 hU hk HB1 HS1 HX1 hsz HC0 HCL
    go_wp2_with fail
    (try simp only [Exit.inBlock, Exit.then])
    exact bodyPost_ret (results_cell_row rfl _ _ w.heap.size 30 #[.slice (some ⟨g1, 0, none⟩) A.length c1, .slice (some ⟨g2, 0, none⟩) U.length c2] (0, 0) _ rfl (put2v_heap HX2.out) Try.underlying30 rfl (by kernel_rfl)) rfl ⟨⟨_, _, A, U, rfl, hA, HU.out, HO.out⟩, HBE.out⟩

set_option maxRecDepth 20000 in
set_option maxHeartbeats 2000000 in
theorem drawNextTurn_any (v : Value) (P : List Int) (w : World) (hr : ZRow .u8 w v P) (hb : Hid (∀ x ∈ P, 0 ≤ x ∧ x ≤ 255)) (hl : P.length ≤ 9223372036854775807) :
    Calls Try.prog 8 #[v] w fun e w' => (∃ va vu A U, e = .returned (TrnV va vu) ∧ (1 ≤ A.length ∧ A.length ≤ 13) ∧ U.length = A.length ∧ OwnT w' w.heap.size va vu A U) ∧ Below w.heap.size w w' := by
  have hr0 : ZRow .u8 (w.alloc (.cells #[.slice none 0 0, .slice none 0 0] 30)) v P := hr.kept ((Below.refl _ _).alloc (Nat.le_refl _) _)
  have hx0 := trn_new w (.cells #[.slice none 0 0, .slice none 0 0] 30)
  have hs0 : (w.alloc (.cells #[.slice none 0 0, .slice none 0 0] 30)).heap.size = w.heap.size + 1 := by simp
  obtain ⟨W1, hW1⟩ : ∃ W, W = w.alloc (.cells #[.slice none 0 0, .slice none 0 0] 30) := ⟨_, rfl⟩
  have HX1 : Hid (W1.heap[w.heap.size]? = some (.cells #[.slice none 0 0, .slice none 0 0] 30)) := by rw [hW1]; exact hx0
  have HS1 : Hid (W1.heap.size = w.heap.size + 1) := by rw [hW1]; exact hs0
  have HB1 : Hid (Below w.heap.size w W1) := by rw [hW1]; exact (Below.refl _ _).alloc (Nat.le_refl _) _
  have hr1 : ZRow .u8 W1 v P := by rw [hW1]; exact hr0
  have HDD : Hid (Calls Try.prog 21 #[v] W1 fun e w' => (∃ va vu A U, e = .returned (TrnV va vu) ∧ (1 ≤ A.length ∧ A.length ≤ 13) ∧ U.length = A.length ∧ OwnT w' W1.heap.size va vu A U) ∧ Below W1.heap.size W1 w') := drawGoodTurn_any v P W1 hr1 hb hl
  clear hr1
  have HW1 : Hid ((w.alloc (.cells #[.slice none 0 0, .slice none 0 0] 30)) = W1) := hW1.symm
  obtain ⟨a, cap, rfl, hcap, hmax, _⟩ := zrow_value hr
  clear hr hr0 hx0 hs0 hW1
  go_enter Try.func8, Try.ntmps8
  go_wp2_with (rw [HW1.out])
  (try rw [HW1.out])
  refine (HDD.out).mono ?_
  rintro e w2 ⟨⟨va, vu, A, U, rfl, hA, hU, ho⟩, hbx⟩
  have hk := below_kpt hbx
  clear hbx
  have hsz := HS1.out
  have hx2 : w2.heap[w.heap.size]? = some (.cells #[.slice none 0 0, .slice none 0 0] 30) := (hk.block _ (by omega) (by omega)).trans HX1.out
  rcases ho with ⟨_, _, hA0, _⟩ | ⟨g1, c1, g2, c2, rfl, rfl, h3, h4, h5, h6, h7, h8, h9, z1, z2⟩
  · rw [hA0] at hA; exact absurd hA.1 (by decide)
  · have hke : Kpt w2 (put2v w2 w.heap.size (.slice (some ⟨g1, 0, none⟩) A.length c1) (.slice (some ⟨g2, 0, none⟩) U.length c2)) (fun j => j = w.heap.size) := by unfold put2v; exact (kpt_set (S := fun j => j = w.heap.size) _ _ _ _ rfl).trans (kpt_set (S := fun j => j = w.heap.size) _ _ _ _ rfl)
    have HO : Hid (OwnT (put2v w2 w.heap.size (.slice (some ⟨g1, 0, none⟩) A.length c1) (.slice (some ⟨g2, 0, none⟩) U.length c2)) w.heap.size (.slice (some ⟨g1, 0, none⟩) A.length c1) (.slice (some ⟨g2, 0, none⟩) U.length c2) A U) := .inr ⟨g1, c1, g2, c2, rfl, rfl, h3, h4, h5, h6, by omega, by omega, h9, z1.apart hke (by omega), z2.apart hke (by omega)⟩
    have HBE : Hid (Below w.heap.size w (put2v w2 w.heap.size (.slice (some ⟨g1, 0, none⟩) A.length c1) (.slice (some ⟨g2, 0, none⟩) U.length c2))) := (HB1.out.trans (hk.below (by omega) (fun j hj e => by omega))).trans (hke.below (by have := hk.size; omega) (fun j hj e => by omega))
    have HX2 : Hid (w2.heap[w.heap.size]? = some (.cells #[.slice none 0 0, .slice none 0 0] 30)) := hx2
    have HU : Hid (U.length = A.length) := hU
    obtain ⟨⟨b0, b1⟩, ⟨f0, f1⟩⟩ := trn_cells hx2
    unfold TrnV
    clear hx2 hke h3 h4 h5 h6 h7 h8 h9 z1 z2 hU hk HB1 HS1 HX1 hsz HDD
    go_wp2_with fail
    (try simp only [Exit.inBlock, Exit.then])
    exact bodyPost_ret (results_cell_row rfl _ _ w.heap.size 30 #[.slice (some ⟨g1, 0, none⟩) A.length c1, .slice (some ⟨g2, 0, none⟩) U.length c2] (0, 0) _ rfl (put2v_heap HX2.out) Try.underlying30 rfl (by kernel_rfl)) rfl ⟨⟨_, _, A, U, rfl, hA, HU.out, HO.out⟩, HBE.out⟩
end Go.Proofs.Ytfbnigicigajeaa
