import Derived.Test.YtphhgjdpfcmpgaaGreatDoorZ28
import Derived.Test.YtphhgjdpfcmpgaaGreatDoorZ17
namespace Go.Proofs.YtphhgjdpfcmpgaaGreatDoor
open Go.RowKit

theorem wireL_len : ∀ P : List (List UInt8), (wireL P).length = tot P + P.length + 1
  | [] => rfl
  | x :: r => by
    have ih := wireL_len r
    have e : tot (x :: r) = x.length + tot r := by simp [tot]
    rw [wireL, e, List.length_cons, List.length_cons, List.length_append, ih]; omega
theorem wire_62 {nm : List UInt8} (hn : nameB nm = true) : (wireL (labelsOf nm)).length ≤ 62 := by
  have h1 := tot_joinD (labelsOf nm)
  have h2 := wireL_len (labelsOf nm)
  rw [joinD_labels] at h1
  have h3 : nm.length ≤ 60 := by
    unfold nameB at hn
    simp only [Bool.and_eq_true, decide_eq_true_eq] at hn
    omega
  omega
theorem data_small {k : Int} {z b : List UInt8} (h : dataP k z = some b) : b.length ≤ 64 := by
  unfold dataP at h
  by_cases h1 : k = 1
  · rw [if_pos h1] at h
    have := (rt_A h).1; omega
  · rw [if_neg h1] at h
    by_cases h2 : k = 2 ∨ k = 5
    · rw [if_pos h2] at h
      obtain ⟨e1, e2⟩ := rt_N h
      have hw := wire_62 e1
      rw [e2]; omega
    · rw [if_neg h2] at h
      by_cases h6 : k = 6
      · rw [if_pos h6] at h
        have := (rt_S h).1; omega
      · rw [if_neg h6] at h
        by_cases h15 : k = 15
        · rw [if_pos h15] at h
          obtain ⟨p, nm, e1, e2, e3, e4⟩ := rt_M h
          have hw := wire_62 e1
          rw [e3, List.length_append]; omega
        · rw [if_neg h15] at h
          by_cases h16 : k = 16
          · rw [if_pos h16] at h
            have := (rt_T h).1; omega
          · rw [if_neg h16] at h; cases h

/-- Names that stand one behind the other from a place on, up to the end. -/
def Chain (l : List UInt8) : Nat → List (List UInt8) → Prop
  | a, [] => a = l.length
  | a, s :: r => ∃ e q, takeN l a = some (s, e, q) ∧ Chain l e r
theorem chain_more {l x s : List UInt8} {q : List Nat} (hx : takeN (l ++ x) l.length = some (s, (l ++ x).length, q)) : ∀ (N : List (List UInt8)) (a : Nat), Chain l a N → Chain (l ++ x) a (N ++ [s])
  | [], a, h => by
    have h' : a = l.length := h
    subst h'; exact ⟨_, q, hx, rfl⟩
  | n :: r, a, h => by
    obtain ⟨e, q', ht, hr⟩ := h
    exact ⟨e, q', takeN_more x ht, chain_more hx r e hr⟩
theorem chain_all : ∀ (P : List (List UInt8)) (B : List UInt8) (T : List (List UInt8)) (ps : List Nat) (N : List (List UInt8)), (∀ p ∈ P, nameB p = true) → Trk B T ps → Chain B 0 N → B.length + 63 * P.length ≤ 4000 → Chain (packAll B P) 0 (N ++ P)
  | [], B, T, ps, N, _, _, hc, _ => by rw [packAll, List.append_nil]; exact hc
  | s :: r, B, T, ps, N, hg, h, hc, hB => by
    have hs := hg s (by simp)
    have hl := packed_len B hs
    have hp := h.packed s
    obtain ⟨h1, h2, h3⟩ := name_low hs
    rw [List.length_cons] at hB
    have ht := take_pack h.told (by omega) h1 h2 (h3 0) (List.prefix_refl B)
    rw [joinD_labels] at ht
    have hc2 := chain_more ht N 0 hc
    have := chain_all r (B ++ packL T ps (labelsOf s)) _ _ (N ++ [s]) (fun p hp => hg p (by simp [hp])) (h.step (by omega) hs) hc2 (by rw [List.length_append, ← hp]; omega)
    rw [packAll, hp]
    rw [List.append_assoc] at this
    exact this
theorem chain_pack {P : List (List UInt8)} (hg : ∀ p ∈ P, nameB p = true) (h : P.length ≤ 60) : Chain (packAll [] P) 0 P := by
  have := chain_all P [] [] [] [] hg Trk.start rfl (by rw [List.length_nil]; omega)
  exact this

theorem beB_bt {n : Int} (h0 : 0 ≤ n) (h1 : n ≤ 255) (l : List UInt8) : ((bt (beB n 1 ++ l) 0 : Nat) : Int) = n := by
  rw [beB_one h0 h1]
  unfold bt
  simp only [List.cons_append, List.nil_append, List.getD_cons_zero]
  rw [UInt8.toNat_ofNat']; omega
theorem bt_at {p l : List UInt8} {i : Nat} (h : p.length = i) : bt (p ++ l) i = bt l 0 := by
  unfold bt
  rw [List.getD_eq_getElem?_getD, List.getD_eq_getElem?_getD, List.getElem?_append_right (by omega), h, Nat.sub_self]
theorem rdN_be {n : Int} {k : Nat} (h0 : 0 ≤ n) (h1 : n.toNat < 256 ^ k) : ((rdN (beB n k) : Nat) : Int) = n := by
  obtain ⟨m, rfl⟩ : ∃ m : Nat, n = (m : Int) := ⟨n.toNat, by omega⟩
  rw [Int.toNat_natCast] at h1
  rw [rdN_beB k m h1]
theorem p256_3 : (256 : Nat) ^ 3 = 16777216 := rfl
theorem p256_2 : (256 : Nat) ^ 2 = 65536 := rfl
/-- Records come back from their bytes, where their names stand in a row. -/
theorem recs_back (pk : List UInt8) : ∀ (L : List (List UInt8 × Int × Int × List UInt8)) (a : Nat), (∀ x ∈ L, GoodR x) → Chain pk a (L.map Prod.fst) → recsM pk L.length a (recsW L) = some L
  | [], _, _, _ => rfl
  | x :: r, a, hg, hc => by
    obtain ⟨e, q, ht, hr⟩ := hc
    have hx := hg x (by simp)
    have hs := data_small hx.data
    have ih := recs_back pk r e (fun y hy => hg y (by simp [hy])) hr
    obtain ⟨xn, xt, xl, xd⟩ := x
    have g1 : 1 ≤ xt := hx.ty0
    have g2 : xt ≤ 16 := hx.ty1
    have g3 : 0 ≤ xl := hx.ttl0
    have g4 : xl ≤ 100000 := hx.ttl1
    obtain ⟨dd, hdd⟩ : ∃ dd, dd = datW (xn, xt, xl, xd) := ⟨_, rfl⟩
    rw [← hdd] at hs
    have hdat : dataP xt xd = some dd := by rw [hdd]; exact hx.data
    have hW : recW (xn, xt, xl, xd) = beB xt 1 ++ beB xl 3 ++ beB (dd.length : Int) 1 ++ dd := by unfold recW; rw [← hdd]
    have hT : recsW ((xn, xt, xl, xd) :: r) = beB xt 1 ++ (beB xl 3 ++ (beB (dd.length : Int) 1 ++ (dd ++ recsW r))) := by
      rw [recsW, hW]; simp only [List.append_assoc]
    obtain ⟨tl, htl⟩ : ∃ tl, tl = recsW ((xn, xt, xl, xd) :: r) := ⟨_, rfl⟩
    have hlen : tl.length = 5 + dd.length + (recsW r).length := by
      rw [htl, hT]; simp only [List.length_append, beB_length]; omega
    have b0 : ((bt tl 0 : Nat) : Int) = xt := by rw [htl, hT]; exact beB_bt (by omega) (by omega) _
    have b4 : ((bt tl 4 : Nat) : Int) = (dd.length : Int) := by
      rw [htl, hT, ← List.append_assoc, bt_at (by simp only [List.length_append, beB_length])]
      exact beB_bt (by omega) (by omega) _
    have hb4 : bt tl 4 = dd.length := by exact_mod_cast b4
    have hl3 : ((rdN ((tl.drop 1).take 3) : Nat) : Int) = xl := by
      rw [htl, hT, List.drop_left' (beB_length _ _), List.take_left' (beB_length _ _)]
      exact rdN_be g3 (by rw [p256_3]; omega)
    have hd5 : tl.drop 5 = dd ++ recsW r := by
      rw [htl, hT, ← List.append_assoc, ← List.append_assoc, List.drop_left' (by simp only [List.length_append, beB_length])]
    have hdd2 : (tl.drop 5).take (bt tl 4) = dd := by rw [hd5, hb4, List.take_left' rfl]
    have hrest : tl.drop (5 + bt tl 4) = recsW r := by rw [← List.drop_drop, hd5, hb4, List.drop_left' rfl]
    rw [← htl, List.length_cons, recsM_step]
    have ht' : takeN pk a = some (xn, e, q) := ht
    rw [ht']
    simp only
    rw [if_neg (by omega), b0, hdd2, readI_yes hdat]
    simp only
    rw [hrest, ih, hl3]; rfl

theorem recs_len : ∀ (L : List (List UInt8 × Int × Int × List UInt8)), (∀ x ∈ L, GoodR x) → (recsW L).length ≤ 69 * L.length
  | [], _ => by simp [recsW]
  | x :: r, hg => by
    have ih := recs_len r (fun y hy => hg y (by simp [hy]))
    have h1 := data_small (hg x (by simp)).data
    have h2 : (recW x).length = 5 + (datW x).length := by
      unfold recW
      simp only [List.length_append, beB_length]
    rw [recsW, List.length_append, List.length_cons]; omega
theorem flag_bits (reply cutm : Bool) (n : Nat) (h : (n : Int) = flagI reply cutm) : decide (128 ≤ n) = reply ∧ decide (n % 2 = 1) = cutm := by
  unfold flagI at h
  cases reply <;> cases cutm <;> simp at h ⊢ <;> omega
theorem pack_more : ∀ (P : List (List UInt8)) (b : List UInt8), b.length ≤ (packAll b P).length
  | [], b => by simp [packAll]
  | s :: r, b => by
    have h2 := pack_more r (b ++ packed b s)
    rw [packAll]
    simp only [List.length_append] at h2
    omega
theorem pack_pos (s : List UInt8) (r : List (List UInt8)) : 0 < (packAll [] (s :: r)).length := by
  have h1 := pack_more r ([] ++ packed [] s)
  have h2 : 0 < (packed [] s).length := packL_pos _ _ _
  rw [packAll]
  simp only [List.length_append, List.length_nil] at h1
  omega
section
variable {mi : Int} {reply cutm : Bool} {code : Int} {nm : List UInt8} {ty : Int} {A U : List (List UInt8 × Int × Int × List UInt8)}
/-- The parts of a message's bytes. -/
theorem msg_parts (g : GoodM mi reply cutm code nm ty A U) {b : List UInt8} (hb : b = msgW mi reply cutm code nm ty A U) :
    ((rdN (b.take 2) : Nat) : Int) = mi ∧ rpM b = reply ∧ ctM b = cutm ∧ ((bt b 3 : Nat) : Int) = code ∧ bt b 4 = A.length ∧ bt b 5 = U.length ∧ rdN ((b.drop 6).take 2) = (namW nm (A ++ U)).length ∧ pkM b = namW nm (A ++ U) ∧ tlM b = recsW (A ++ U) ∧ ((tyM b : Nat) : Int) = ty ∧
    10 ≤ b.length ∧ b.length ≤ 4000 ∧ 9 + (namW nm (A ++ U)).length ≤ b.length := by
  have hnl : ∀ p ∈ nm :: (A ++ U).map Prod.fst, nameB p = true := fun p hp => by
    rcases List.mem_cons.1 hp with rfl | hp
    · exact g.name
    · obtain ⟨x, hx, rfl⟩ := List.mem_map.1 hp
      exact (g.all x hx).name
  have hpl : (namW nm (A ++ U)).length ≤ 1575 := by
    have h := packAll_len (nm :: (A ++ U).map Prod.fst) [] hnl
    have h1 := g.few
    have h2 := g.fewU
    rw [List.length_cons, List.length_map, List.length_append] at h
    unfold namW
    simp only [List.length_nil] at h
    omega
  have hpo : 0 < (namW nm (A ++ U)).length := pack_pos _ _
  have hrl := recs_len (A ++ U) g.all
  have h1 := g.few
  have h2 := g.fewU
  have hf : 0 ≤ flagI reply cutm ∧ flagI reply cutm ≤ 255 := by cases reply <;> cases cutm <;> decide
  obtain ⟨pk, hpk⟩ : ∃ pk, pk = namW nm (A ++ U) := ⟨_, rfl⟩
  obtain ⟨rs, hrs⟩ : ∃ rs, rs = recsW (A ++ U) := ⟨_, rfl⟩
  rw [List.length_append] at hrl
  rw [← hpk] at hpl hpo ⊢
  rw [← hrs] at hrl ⊢
  have hbe : b = beB mi 2 ++ (beB (flagI reply cutm) 1 ++ (beB code 1 ++ (beB (A.length : Int) 1 ++ (beB (U.length : Int) 1 ++ (beB (pk.length : Int) 2 ++ (pk ++ (beB ty 1 ++ rs))))))) := by
    rw [hb]; unfold msgW; rw [← hpk, ← hrs]; simp only [List.append_assoc]
  have e6 : (b.drop 6).take 2 = beB (pk.length : Int) 2 := by
    rw [hbe, ← List.append_assoc, ← List.append_assoc, ← List.append_assoc, ← List.append_assoc, List.drop_left' (by simp only [List.length_append, beB_length]), List.take_left' (beB_length _ _)]
  have hn : rdN ((b.drop 6).take 2) = pk.length := by
    have h := rdN_be (n := (pk.length : Int)) (k := 2) (by omega) (by rw [p256_2]; omega)
    rw [e6]; exact_mod_cast h
  have hlen : b.length = 9 + pk.length + rs.length := by
    rw [hbe]; simp only [List.length_append, beB_length]; omega
  have d8 : b.drop 8 = pk ++ (beB ty 1 ++ rs) := by
    rw [hbe, ← List.append_assoc, ← List.append_assoc, ← List.append_assoc, ← List.append_assoc, ← List.append_assoc, List.drop_left' (by simp only [List.length_append, beB_length])]
  have f2 : ((bt b 2 : Nat) : Int) = flagI reply cutm := by
    rw [hbe, bt_at (beB_length _ _)]; exact beB_bt hf.1 hf.2 _
  have f4 : ((bt b 4 : Nat) : Int) = (A.length : Int) := by
    rw [hbe, ← List.append_assoc, ← List.append_assoc, bt_at (by simp only [List.length_append, beB_length])]; exact beB_bt (by omega) (by omega) _
  have f5 : ((bt b 5 : Nat) : Int) = (U.length : Int) := by
    rw [hbe, ← List.append_assoc, ← List.append_assoc, ← List.append_assoc, bt_at (by simp only [List.length_append, beB_length])]; exact beB_bt (by omega) (by omega) _
  have hfl := flag_bits reply cutm _ f2
  refine ⟨?_, hfl.1, hfl.2, ?_, by exact_mod_cast f4, by exact_mod_cast f5, hn, ?_, ?_, ?_, by omega, by omega, by omega⟩
  · rw [hbe, List.take_left' (beB_length _ _)]
    exact rdN_be g.id0 (by rw [p256_2]; have h := g.id1; have h' := g.id0; omega)
  · rw [hbe, ← List.append_assoc, bt_at (by simp only [List.length_append, beB_length])]; exact beB_bt g.code0 (by have h := g.code1; omega) _
  · unfold pkM; rw [hn, d8, List.take_left' rfl]
  · unfold tlM; rw [hn, show 9 + pk.length = 8 + (pk.length + 1) by omega, ← List.drop_drop, d8, ← List.append_assoc, List.drop_left' (by simp only [List.length_append, beB_length])]
  · unfold tyM; rw [hn]
    have hh : b = (b.take 8 ++ pk) ++ (beB ty 1 ++ rs) := by rw [List.append_assoc, ← d8, List.take_append_drop]
    rw [hh, bt_at (by rw [List.length_append, List.length_take]; omega)]
    exact beB_bt (by have h := g.ty0; omega) (by have h := g.ty1; omega) _
theorem cand_back (g : GoodM mi reply cutm code nm ty A U) : candM (namW nm (A ++ U)) (recsW (A ++ U)) (A.length + U.length) = some (nm, A ++ U) := by
  have hnl : ∀ p ∈ nm :: (A ++ U).map Prod.fst, nameB p = true := fun p hp => by
    rcases List.mem_cons.1 hp with rfl | hp
    · exact g.name
    · obtain ⟨x, hx, rfl⟩ := List.mem_map.1 hp
      exact (g.all x hx).name
  have h1 := g.few
  have h2 := g.fewU
  have hc : Chain (namW nm (A ++ U)) 0 (nm :: (A ++ U).map Prod.fst) := chain_pack hnl (by rw [List.length_cons, List.length_map, List.length_append]; omega)
  obtain ⟨e, q, ht, hr⟩ := hc
  unfold candM
  rw [ht]
  simp only
  rw [← List.length_append, recs_back _ (A ++ U) e g.all hr]; rfl
/-- A good message is read from its bytes. -/
theorem readM_back (h : msgB mi reply cutm code nm ty A U = true) {b : List UInt8} (hb : b = msgW mi reply cutm code nm ty A U) : readM b = some (nm, A ++ U) := by
  have g := goodM h
  obtain ⟨p1, p2, p3, p4, p5, p6, p7, p8, p9, p10, p11, p12, p13⟩ := msg_parts g hb
  have h1 := g.few
  have h2 := g.fewU
  have hh : headB b = true := by
    unfold headB
    rw [p5, p6, p7]
    simp only [Bool.and_eq_true, decide_eq_true_eq]
    omega
  unfold readM
  rw [if_pos hh, p8, p9, p5, p6, cand_back g]
  simp only
  rw [p1, p2, p3, p4, p10, List.take_left' rfl, List.drop_left' rfl, if_pos ⟨h, hb.symm⟩]
end
end Go.Proofs.YtphhgjdpfcmpgaaGreatDoor
