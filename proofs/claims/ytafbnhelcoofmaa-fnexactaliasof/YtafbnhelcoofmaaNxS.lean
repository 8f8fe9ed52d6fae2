import Derived.Test.YtafbnhelcoofmaaNxP
import Derived.Test.YtafbnhelcoofmaaNtR
import Derived.Test.YtafbnhelcoofmaaQk
namespace Go.Proofs.Ytafbnhelcoofmaa
open Go.RowKit

theorem cell_new_oneT (w : World) (x : Value) (t : TypeId) : ∀ j u, [x][j]? = some u → (w.alloc (.cells #[x] t)).cell? ((⟨w.heap.size, 0, none⟩ : Addr).add j) = some u := by
  intro j u hj
  match j, hj with
  | 0, hj => simp at hj; subst hj; simp [Addr.add]
theorem one_intT (n : Int) : ∀ u ∈ [Value.int .i64 n], u.oneCell' = true := by
  intro u hu; simp at hu; subst hu; rfl
theorem own_sliceT {w : World} {base : Nat} {v : Value} {n : Nat} {xs : List Value} (h : w.ownsRow base 3 1 v n xs) : ∃ x c, v = .slice x n c := by
  rcases h.2 with ⟨rfl, hn⟩ | ⟨g, cap, cur, rfl, _⟩
  · exact ⟨none, 0, by rw [hn]⟩
  · exact ⟨_, cap, rfl⟩
/-- One more number. -/
theorem take_ints (S : List Int) (k : Nat) (hk : k < S.length) : (S.take k).map (Value.int .i64) ++ [Value.int .i64 S[k]] = (S.take (k + 1)).map (Value.int .i64) := by
  rw [List.take_succ_eq_append_getElem hk, List.map_append]; rfl
theorem own_keptT {a b : World} {S : Nat → Prop} {base : Nat} {v : Value} {n : Nat} {xs : List Value} (h : a.ownsRow base 3 1 v n xs) (hk : Kpt a b S) (hn : ∀ g, v.ownBlock = some g → ¬ S g) : b.ownsRow base 3 1 v n xs := own_kpt h hk hn
theorem own_belT {a b : World} {base : Nat} {v : Value} {n : Nat} {xs : List Value} (h : a.ownsRow base 3 1 v n xs) (hb : Below a.heap.size a b) : b.ownsRow base 3 1 v n xs := own_kpt h (below_kpt0 hb (fun _ => False)) (fun _ _ h => h)
theorem bestN_next (S : List Int) (k : Nat) : bestN S (k + 1) = if S.getD k 0 > S.getD (bestN S k) 0 then k else bestN S k := rfl
theorem take_get {S : List Int} {m k : Nat} (h : k < (S.take m).length) : (S.take m)[k] = S.getD k 0 := by
  rw [List.getElem_take, getD_get]
theorem zs_setT {w : World} {g : Nat} {L : List Int} (h : ZSRow w g L) (k : Nat) (hk : k < L.length) (c : Int) : ZSRow (w.setCell ⟨g, k, none⟩ (.int .i64 c)) g (L.set k c) := h.set k hk c
/-- What the next turn tells. -/
def NxA (w' : World) (base : Nat) (A U : List Int) (e : Ending) : Prop := ∃ g1 c1 g2 c2, e = .returned (.tuple #[TrnV (.slice (some ⟨g1, 0, none⟩) A.length c1) (.slice (some ⟨g2, 0, none⟩) A.length c2), .int .i64 (nxtK A U : Int)]) ∧ A.length ≤ c1 ∧ c1 ≤ 9223372036854775807 ∧ A.length ≤ c2 ∧ c2 ≤ 9223372036854775807 ∧ base ≤ g1 ∧ base ≤ g2 ∧ g1 ≠ g2 ∧ ZSRow w' g1 A ∧ ZSRow w' g2 (nxtL A U)

set_option maxRecDepth 20000 in
set_option maxHeartbeats 8000000 in
theorem l12Next_any (va vu : Value) (A U : List Int) (w : World) (ha : ZRow .i64 w va A) (hu : ZRow .i64 w vu U) (hg : goodT A U = true) :
    Calls Try.prog 38 #[TrnV va vu] w fun e w' => NxA w' w.heap.size A U e ∧ Below w.heap.size w w' := by
  obtain ⟨hgw, hlen, hsmU, _⟩ := goodT_parts hg
  obtain ⟨⟨hp1, hp12⟩, hwt, _⟩ := goodW_parts hgw
  have hsb := sum_bound hg
  have HAB : Hid (∀ k, k < U.length → -10000 ≤ (addZ U A).getD k 0 ∧ (addZ U A).getD k 0 ≤ 10050) := fun k hk => add_bound hg hk
  have HTT : Hid (∀ W, Below w.heap.size w W → Calls Try.prog 28 #[va] W fun e w' => e = .returned (.int .i64 A.sum) ∧ w' = W) := fun W hW => l12Total_any _ A W (ha.kept hW) (by omega) (all_sm hwt)
  obtain ⟨xa, ca, rfl, hca, hcam, HRA⟩ := zrow_value ha
  obtain ⟨xu, cu, rfl, hcu, hcum, HRU⟩ := zrow_value hu
  obtain ⟨ba, oa, hxa, hba, hcelA⟩ := HRA.out (by omega)
  obtain ⟨bu, ou, hxu, hbu, hcelU⟩ := HRU.out (by omega)
  subst hxa hxu
  have HCA : Hid (∀ W, Below w.heap.size w W → ∀ k, (hk : k < A.length) → W.cell? ⟨ba, oa + k, none⟩ = some (.int .i64 (A[k]))) := fun W hW k hk => by rw [hW.cell (p := ⟨ba, oa + k, none⟩) hba]; exact hcelA k hk
  have HCU : Hid (∀ W, Below w.heap.size w W → ∀ k, (hk : k < U.length) → W.cell? ⟨bu, ou + k, none⟩ = some (.int .i64 (U[k]))) := fun W hW k hk => by rw [hW.cell (p := ⟨bu, ou + k, none⟩) hbu]; exact hcelU k hk
  have HEL : Hid (U.length = A.length) := hlen
  have HSL : Hid ((addZ U A).length = A.length) := by show _ = _; rw [addZ_length hlen, hlen]
  have HSG : Hid (∀ k, (hk : k < U.length) → (hka : k < A.length) → (addZ U A).getD k 0 = U[k] + A[k]) := fun k hk hka => by rw [getD_get (by rw [addZ_length hlen]; exact hk), addZ_get hlen hk]
  have HUB : Hid (∀ k, (hk : k < U.length) → -10000 ≤ U[k] ∧ U[k] ≤ 10000) := fun k hk => sm_in (List.all_eq_true.1 hsmU _ (List.getElem_mem hk))
  have HWB : Hid (∀ k, (hk : k < A.length) → 0 ≤ A[k] ∧ A[k] ≤ 50) := fun k hk => wt_in (List.all_eq_true.1 hwt _ (List.getElem_mem hk))
  have HNK : Hid (nxtK A U = bestN (addZ U A) A.length) := by show _ = _; unfold nxtK; rw [hlen]
  have HNL : Hid (nxtL A U = (addZ U A).set (bestN (addZ U A) A.length) ((addZ U A).getD (bestN (addZ U A) A.length) 0 - A.sum)) := by show _ = _; unfold nxtL nxtK; rw [hlen]
  obtain ⟨S, hSdef⟩ : ∃ S, S = addZ U A := ⟨_, rfl⟩
  rw [← hSdef] at HAB HSL HSG HNK HNL
  obtain ⟨n, hn⟩ : ∃ n, n = A.length := ⟨_, rfl⟩
  have HNA : Hid (A.length = n) := hn.symm
  have HNU : Hid (U.length = n) := by show _ = _; omega
  have HSN : Hid (S.length = n) := by show _ = _; rw [HSL.out, hn]
  obtain ⟨i0, hi, hz0, hz1, hz2⟩ := info_parts info_int
  unfold NxA TrnV
  rw [← hn] at HTT
  rw [HNU.out, HNA.out]
  have hcan : n ≤ ca := by omega
  have HPN : Hid (0 < n ∧ n ≤ 12) := ⟨by omega, by omega⟩

  clear hg hgw hsmU hwt HRA HRU hcelA hcelU ha hu hSdef hlen hn hca hcu hp1 hp12
  have hpn : 0 < n ∧ n ≤ 12 := HPN.out
  obtain ⟨W0, hW0⟩ : ∃ W0, W0 = (w.alloc (.cells #[.slice (some ⟨ba, oa, none⟩) n ca, .slice (some ⟨bu, ou, none⟩) n cu] 33)).alloc (.cells #[.slice none 0 0, .slice none 0 0] 33) := ⟨_, rfl⟩
  have hbox1 : W0.heap[w.heap.size]? = some (.cells #[.slice (some ⟨ba, oa, none⟩) n ca, .slice (some ⟨bu, ou, none⟩) n cu] 33) := by rw [hW0]; exact (trn_below2 (Below.refl _ _)).1
  have hbox2 : W0.heap[w.heap.size + 1]? = some (.cells #[.slice none 0 0, .slice none 0 0] 33) := by rw [hW0]; exact (trn_below2 (Below.refl _ _)).2.1
  have hbW0 : Below w.heap.size w W0 := by rw [hW0]; exact (trn_below2 (Below.refl _ _)).2.2
  have hsW0 : w.heap.size + 1 < W0.heap.size := by rw [hW0]; simp
  have HB1 : Hid (W0.heap[w.heap.size]? = some (.cells #[.slice (some ⟨ba, oa, none⟩) n ca, .slice (some ⟨bu, ou, none⟩) n cu] 33)) := hbox1
  have HB2 : Hid (W0.heap[w.heap.size + 1]? = some (.cells #[.slice none 0 0, .slice none 0 0] 33)) := hbox2
  have HW0 : Hid ((w.alloc (.cells #[.slice (some ⟨ba, oa, none⟩) n ca, .slice (some ⟨bu, ou, none⟩) n cu] 33)).alloc (.cells #[.slice none 0 0, .slice none 0 0] 33) = W0) := hW0.symm
  have hbE : Below W0.heap.size W0 (W0.alloc (.cells #[] 3)) := (Below.refl _ _).alloc (Nat.le_refl _) _
  obtain ⟨⟨p0, p1⟩, _⟩ := trn_cells ((hbE.block _ (by omega)).trans hbox1)
  have hnews := src_intsT (W := W0.alloc (.cells #[] 3)) (b := ba) (o := oa) (P := A) (HCA.out _ (hbW0.trans (hbE.mono hbW0.size)))
  have hownE := own_emptyT W0 3 1
  clear hW0 hbox1 hbox2
  go_enter Try.func38, Try.ntmps38
  go_wp2_with (first | rw [HW0.out] | (at_builtin; refine wpList_append_own _ rfl (.tmp 8) (.tmp 10) 22 rfl W0.heap.size 3 i0 (.int .i64 0) 1 8 Try.underlying22 hi hz0 hz1 hz2 rfl (by decide) _ _ _ rfl hownE ⟨ba, oa, none⟩ n ca (A.map (Value.int .i64)) rfl (by rw [List.length_map, HNA.out]; omega) hnews (ints_oneZT A) ?d3 ?d4 ?d5 ?_))
  case d3 => unfold maxLen; omega
  case d4 => omega
  case d5 => simp
  intro v2 w2 hown2 hgrow2 _
  obtain ⟨t, cp, hv2, hcp1, hcp2, htb, hqt⟩ := zs_of_ownT (P := A) (v := v2) (base := W0.heap.size) (w := w2) (by rw [HNA.out]; omega) (by rw [HNA.out]; simpa using hown2)
  rw [HNA.out] at hv2 hcp1
  subst hv2
  have hb2 : Below W0.heap.size W0 w2 := hbE.grown hgrow2 hbE.size (fun k e => by cases e; exact Nat.le_refl _)
  have hbw2 := hbW0.trans (hb2.mono hbW0.size)
  obtain ⟨g4, hg4⟩ : ∃ g, g = w2.heap.size := ⟨_, rfl⟩
  obtain ⟨W4, hW4⟩ : ∃ W4, W4 = w2.alloc (.cells #[.slice (some ⟨t, 0, none⟩) n cp, .slice none 0 0] 33) := ⟨_, rfl⟩
  have hb24 : Below w2.heap.size w2 W4 := by rw [hW4]; exact (Below.refl _ _).alloc (Nat.le_refl _) _
  have HX4 : Hid (W4.heap[g4]? = some (.cells #[.slice (some ⟨t, 0, none⟩) n cp, .slice none 0 0] 33)) := by rw [hW4, hg4]; exact trn_new _ _
  have HB14 : Hid (W4.heap[w.heap.size]? = some (.cells #[.slice (some ⟨ba, oa, none⟩) n ca, .slice (some ⟨bu, ou, none⟩) n cu] 33)) := (hb24.block _ (by have := hb2.size; omega)).trans ((hb2.block _ (by omega)).trans HB1.out)
  have HB24 : Hid (W4.heap[w.heap.size + 1]? = some (.cells #[.slice none 0 0, .slice none 0 0] 33)) := (hb24.block _ (by have := hb2.size; omega)).trans ((hb2.block _ (by omega)).trans HB2.out)
  have HT4 : Hid (ZSRow W4 t A) := hqt.kept hb24
  have hbw4 := hbw2.trans (hb24.mono hbw2.size)
  have HOW4 : Hid (W4.ownsRow (g4 + 1) 3 1 (.slice none 0 0) 0 ((S.take 0).map (Value.int .i64))) := by
    rw [List.take_zero, List.map_nil]; exact World.ownsRow_nil W4 (g4 + 1) 3 1
  have htg : t < g4 := by rw [hg4]; exact hqt.1
  have hgw : w.heap.size + 1 < t := by omega
  have hs24 : g4 < W4.heap.size := by rw [hW4, hg4]; simp
  have HW4 : Hid (w2.alloc (.cells #[.slice (some ⟨t, 0, none⟩) n cp, .slice none 0 0] 33) = W4) := hW4.symm
  have HG4 : Hid (w2.heap.size = g4) := hg4.symm
  have HCP : Hid (n ≤ cp ∧ cp ≤ 9223372036854775807) := ⟨hcp1, hcp2⟩
  clear hown2 hgrow2 hqt hb24 hW4 hg4 hbw2 hb2 hnews hownE hbE HB1 HB2 HW0 hcp1 hcp2
  have q0 := (trn_cells HB14.out).1.2
  go_wp2_with (rw [HW4.out])
  (try rw [HW4.out])
  (try rw [HG4.out])
  clear q0 HW4 HG4 p0 p1
  go_loopw [5, 16] (fun bv i wr => ∃ (k : Nat) (v : Value), k ≤ n ∧ i = .int .i64 (k : Int) ∧ bv = .int .i64 (bestN S k : Int) ∧ Hid (wr.heap[w.heap.size]? = some (.cells #[.slice (some ⟨ba, oa, none⟩) n ca, .slice (some ⟨bu, ou, none⟩) n cu] 33)) ∧ Hid (wr.heap[w.heap.size + 1]? = some (.cells #[.slice none 0 0, .slice none 0 0] 33)) ∧ Hid (wr.heap[g4]? = some (.cells #[.slice (some ⟨t, 0, none⟩) n cp, v] 33)) ∧ Hid (wr.ownsRow (g4 + 1) 3 1 v k ((S.take k).map (Value.int .i64))) ∧ Hid (ZSRow wr t A) ∧ Below w.heap.size w wr) (fun _ i _ => n - (intOf i).toNat)
  case atStart => exact ⟨0, .slice none 0 0, Nat.zero_le _, rfl, rfl, HB14, HB24, HX4, HOW4, HT4, hbw4⟩
  case round =>
    obtain ⟨k, v, hk, rfl, rfl, HB1, HB2, HX, HO, HT, hb⟩ := hrel
    clear HB14 HB24 HX4 HOW4 HT4 hbw4 hs24
    obtain ⟨xv, cv, hv⟩ := own_sliceT HO.out
    subst hv
    have hgr : g4 < wr.heap.size := (Array.getElem?_eq_some_iff.1 HX.out).1
    by_cases hlt : k < n
    · have hkA : k < A.length := by rw [HNA.out]; exact hlt
      have hkU : k < U.length := by rw [HNU.out]; exact hlt
      have u0 := HCU.out wr hb k hkU
      have HCA2 : Hid (∀ W, Below w.heap.size w W → W.cell? ⟨ba, oa + k, none⟩ = some (.int .i64 (A[k]'hkA))) := fun W hW => HCA.out W hW k hkA
      have hub := HUB.out k hkU
      have hwb := HWB.out k hkA
      have HSK := HSG.out k hkU hkA
      have HTK := take_ints S k (by rw [HSN.out]; exact hlt)
      rw [← getD_get (by rw [HSN.out]; exact hlt), HSK] at HTK
      have HSK2 : Hid (S.getD k 0 = U[k]'hkU + A[k]'hkA) := HSK
      have HTK2 : Hid ((S.take k).map (Value.int .i64) ++ [Value.int .i64 (U[k]'hkU + A[k]'hkA)] = (S.take (k + 1)).map (Value.int .i64)) := HTK
      obtain ⟨uk, huk⟩ : ∃ uk, uk = U[k]'hkU := ⟨_, rfl⟩
      obtain ⟨ak, hak⟩ : ∃ ak, ak = A[k]'hkA := ⟨_, rfl⟩
      rw [← huk] at u0 hub HSK2 HTK2
      rw [← hak] at HCA2 hwb HSK2 HTK2
      have hki : (k : Int) < (n : Int) := by omega
      have hwrp : IntKind.i64.wrap (uk + ak) = uk + ak := i64_wrap (by omega) (by omega)
      have HLT : Hid (∀ g, (Value.slice xv k cv).ownBlock = some g → g4 + 1 ≤ g ∧ g < wr.heap.size) := fun g hg => HO.out.lt g hg
      clear HSK HTK huk hak hkA hkU
      have q0 := (trn_cells HB1.out).1.2
      go_wp2_with fail
      clear q0 u0
      refine wp_region_noPanic ?_
      have hSX : Below w.heap.size w wr.drew ∧ wr.drew.heap[w.heap.size]? = some (.cells #[.slice (some ⟨ba, oa, none⟩) n ca, .slice (some ⟨bu, ou, none⟩) n cu] 33) := ⟨hb.drew, HB1.out⟩
      refine wp_region_held_drew (S := fun W : World => Below w.heap.size w W ∧ W.heap[w.heap.size]? = some (.cells #[.slice (some ⟨ba, oa, none⟩) n ca, .slice (some ⟨bu, ou, none⟩) n cu] 33)) (by kernel_rfl) hSX (fun hHeld => ?_)
      have hXX : wr.drew.heap[g4]? = some (.cells #[.slice (some ⟨t, 0, none⟩) n cp, .slice xv k cv] 33) := HX.out
      have hOX : wr.drew.ownsRow (g4 + 1) 3 1 (.slice xv k cv) k ((S.take k).map (Value.int .i64)) := HO.out
      have hTX : ZSRow wr.drew t A := HT.out
      have h2X : wr.drew.heap[w.heap.size + 1]? = some (.cells #[.slice none 0 0, .slice none 0 0] 33) := HB2.out
      have hLX : ∀ g, (Value.slice xv k cv).ownBlock = some g → g4 + 1 ≤ g ∧ g < wr.drew.heap.size := HLT.out
      have hgX : g4 < wr.drew.heap.size := hgr
      generalize wr.drew = wX at *
      have hSwX := hSX
      have hXwX := hXX
      have hOwX := hOX
      have hTwX := hTX
      have h2wX := h2X
      have hLwX := hLX
      have hgwX := hgX
      clear hSX hXX hOX hTX h2X hLX hgX
      refine wpAnyH_take (i := 0) (v := .pointer (some ⟨g4, 1, none⟩)) rfl (by kernel_rfl) (by kernel_rfl) (by kernel_rfl) (fun _ _ _ h => h) (Or.inl ⟨by rfl, ?_⟩) (by assumption) ?_
      · intro W hSW
        go_simp
      simp only [Act.put, List.getElem_toArray, List.getElem_cons_zero, List.setIfInBounds_toArray, List.set_cons_succ, List.set_cons_zero]
      refine wpAnyH_take (i := 2) (v := .int .i64 uk) rfl (by kernel_rfl) (by kernel_rfl) (by kernel_rfl) (fun _ _ _ h => h) (Or.inl ⟨by rfl, ?_⟩) (by assumption) ?_
      · intro W hSW
        go_simp
      simp only [Act.put, List.getElem_toArray, List.getElem_cons_succ, List.getElem_cons_zero, List.setIfInBounds_toArray, List.set_cons_succ, List.set_cons_zero]
      refine wpAnyH_take (i := 3) (v := .pointer (some ⟨w.heap.size, 0, none⟩)) rfl (by kernel_rfl) (by kernel_rfl) (by kernel_rfl) (fun _ _ _ h => h) (Or.inl ⟨by rfl, ?_⟩) (by assumption) ?_
      · intro W hSW
        go_simp
      simp only [Act.put, List.getElem_toArray, List.getElem_cons_succ, List.getElem_cons_zero, List.setIfInBounds_toArray, List.set_cons_succ, List.set_cons_zero]
      refine wpAnyH_take (i := 4) (v := .slice (some ⟨ba, oa, none⟩) n ca) rfl (by kernel_rfl) (by kernel_rfl) (by kernel_rfl) (fun _ _ _ h => h) (Or.inl ⟨by rfl, ?_⟩) (by assumption) ?_
      · intro W hSW
        obtain ⟨⟨s0, s1⟩, _⟩ := trn_cells hSW.2
        go_simp
      simp only [Act.put, List.getElem_toArray, List.getElem_cons_succ, List.getElem_cons_zero, List.setIfInBounds_toArray, List.set_cons_succ, List.set_cons_zero]
      refine wpAnyH_take (i := 5) (v := .int .i64 (k : Int)) rfl (by kernel_rfl) (by kernel_rfl) (by kernel_rfl) (fun _ _ _ h => h) (Or.inl ⟨by rfl, ?_⟩) (by assumption) ?_
      · intro W hSW
        go_simp
      simp only [Act.put, List.getElem_toArray, List.getElem_cons_succ, List.getElem_cons_zero, List.setIfInBounds_toArray, List.set_cons_succ, List.set_cons_zero]
      refine wpAnyH_take (i := 6) (v := .pointer (some ⟨ba, oa + k, none⟩)) rfl (by kernel_rfl) (by kernel_rfl) (by kernel_rfl) (fun _ _ _ h => h) (Or.inl ⟨by rfl, ?_⟩) (by assumption) ?_
      · intro W hSW
        go_simp
      simp only [Act.put, List.getElem_toArray, List.getElem_cons_succ, List.getElem_cons_zero, List.setIfInBounds_toArray, List.set_cons_succ, List.set_cons_zero]
      refine wpAnyH_take (i := 7) (v := .int .i64 ak) rfl (by kernel_rfl) (by kernel_rfl) (by kernel_rfl) (fun _ _ _ h => h) (Or.inl ⟨by rfl, ?_⟩) (by assumption) ?_
      · intro W hSW
        have s2 := HCA2.out W hSW.1
        go_simp
      simp only [Act.put, List.getElem_toArray, List.getElem_cons_succ, List.getElem_cons_zero, List.setIfInBounds_toArray, List.set_cons_succ, List.set_cons_zero]
      refine wpAnyH_take (i := 8) (v := .int .i64 (uk + ak)) rfl (by kernel_rfl) (by kernel_rfl) (by kernel_rfl) (fun _ _ _ h => h) (Or.inl ⟨by rfl, ?_⟩) (by assumption) ?_
      · intro W hSW
        go_simp
      simp only [Act.put, List.getElem_toArray, List.getElem_cons_succ, List.getElem_cons_zero, List.setIfInBounds_toArray, List.set_cons_succ, List.set_cons_zero]
      refine wpAnyH_ready (rs := [1, 9]) (by kernel_rfl) (by simp) ?_
      refine AllReadyH.cons rfl (fun K hK => ?_) (AllReadyH.cons rfl (fun K hK => ?_) AllReadyH.nil)
      · skip
        rw [if_pos (by rfl)]
        obtain ⟨⟨s0, s1⟩, _⟩ := trn_cells hXwX
        go_simp
        refine hK.out _ _ hSwX (fun _ => ?_)
        clear hK K s0 s1
        refine wpAnyH_ready (rs := [9]) (by kernel_rfl) (by simp) ?_
        refine AllReadyH.cons rfl (fun K hK => ?_) AllReadyH.nil
        rw [if_pos (by rfl)]
        go_simp
        have hbwY : Below wX.heap.size wX (wX.alloc (.cells #[.int .i64 (uk + ak)] 3)) := (Below.refl _ _).alloc (Nat.le_refl _) _
        have hEwY := cell_new_oneT wX (.int .i64 (uk + ak)) 3
        have hlwY : w.heap.size < wX.heap.size := (Array.getElem?_eq_some_iff.1 hSwX.2).1
        have hSwY : Below w.heap.size w (wX.alloc (.cells #[.int .i64 (uk + ak)] 3)) ∧ (wX.alloc (.cells #[.int .i64 (uk + ak)] 3)).heap[w.heap.size]? = some (.cells #[.slice (some ⟨ba, oa, none⟩) n ca, .slice (some ⟨bu, ou, none⟩) n cu] 33) := ⟨hSwX.1.trans (hbwY.mono hSwX.1.size), (hbwY.block _ hlwY).trans hSwX.2⟩
        have hXwY := (hbwY.block _ hgwX).trans hXwX
        have hOwY : (wX.alloc (.cells #[.int .i64 (uk + ak)] 3)).ownsRow (g4 + 1) 3 1 (.slice xv k cv) k ((S.take k).map (Value.int .i64)) := own_belT hOwX hbwY
        have hTwY := hTwX.kept hbwY
        have h2wY := (hbwY.block _ (by omega)).trans h2wX
        have hgwY : g4 < (wX.alloc (.cells #[.int .i64 (uk + ak)] 3)).heap.size := Nat.lt_of_lt_of_le hgwX hbwY.size
        have hYwY : (wX.alloc (.cells #[.int .i64 (uk + ak)] 3)).heap.size = wX.heap.size + 1 := by simp
        have hLwY : ∀ g, (Value.slice xv k cv).ownBlock = some g → g4 + 1 ≤ g ∧ g < wX.heap.size := hLwX
        refine hK.out _ _ hSwY (fun _ => ?_)
        clear hK K
        generalize wX.alloc (.cells #[.int .i64 (uk + ak)] 3) = wY at *
        refine wpAnyH_ready (rs := [10]) (by kernel_rfl) (by simp) ?_
        refine AllReadyH.cons rfl (fun K hK => ?_) AllReadyH.nil
        refine step_append_atT rfl (.tmp 22) (.tmp 30) 22 rfl (g4 + 1) 3 i0 (.int .i64 0) 1 8 Try.underlying22 hi hz0 hz1 hz2 rfl (by decide) _ _ _ rfl hOwY ⟨wX.heap.size, 0, none⟩ 1 1 [.int .i64 (uk + ak)] rfl rfl hEwY (one_intT _) (by unfold maxLen; omega) (by omega) (by omega) ?_
        intro v8 w8 hown8 hgrow8 hat8
        rw [HTK2.out] at hown8
        have hk8 := grown_kpt hgrow8
        have hne8 : ∀ g, g ≤ g4 → ¬ ((Value.slice xv k cv).ownBlock = some g) := fun g hg h => by have := (hLwY g h).1; omega
        have hS8 : Below w.heap.size w w8 ∧ w8.heap[w.heap.size]? = some (.cells #[.slice (some ⟨ba, oa, none⟩) n ca, .slice (some ⟨bu, ou, none⟩) n cu] 33) := ⟨hSwY.1.trans (hk8.below (by have := hSwY.1.size; omega) (fun k0 hk0 h => hne8 _ (by omega) h)), (hk8.block _ (by omega) (hne8 _ (by omega))).trans hSwY.2⟩
        have hX8 : w8.heap[g4]? = some (.cells #[.slice (some ⟨t, 0, none⟩) n cp, .slice xv k cv] 33) := (hk8.block _ hgwY (hne8 _ (Nat.le_refl _))).trans hXwY
        have h28 : w8.heap[w.heap.size + 1]? = some (.cells #[.slice none 0 0, .slice none 0 0] 33) := (hk8.block _ (by omega) (hne8 _ (by omega))).trans h2wY
        have hT8 : ZSRow w8 t A := hTwY.apart hk8 (hne8 _ (by omega))
        have hg8 : g4 < w8.heap.size := Nat.lt_of_lt_of_le hgwY hk8.size
        obtain ⟨tn, cn, hv8, hcn1, hcn2, htn, hqn⟩ := zs_of_ownT (P := S.take (k + 1)) (base := g4 + 1) (v := v8) (by rw [List.length_take, HSN.out]; omega) (by rw [List.length_take, HSN.out, show min (k + 1) n = k + 1 by omega]; exact hown8)
        have hln : (S.take (k + 1)).length = k + 1 := by rw [List.length_take, HSN.out]; omega
        rw [hln] at hv8 hcn1
        subst hv8
        refine hK.out _ _ hS8 (fun _ => ?_)
        clear hK K
        simp only [Act.put]
        refine wpAnyH_take (i := 11) (v := .pointer (some ⟨g4, 1, none⟩)) rfl (by kernel_rfl) (by kernel_rfl) (by kernel_rfl) (fun _ _ _ h => h) (Or.inl ⟨by rfl, ?_⟩) (by assumption) ?_
        · intro W hSW
          go_simp
        simp only [Act.put, List.getElem_toArray, List.getElem_cons_succ, List.getElem_cons_zero, List.setIfInBounds_toArray, List.set_cons_succ, List.set_cons_zero]
        refine wpAnyH_ready (rs := [12]) (by kernel_rfl) (by simp) ?_
        refine AllReadyH.cons rfl (fun K hK => ?_) AllReadyH.nil
        rw [if_pos (by rfl)]
        obtain ⟨⟨s0, s1⟩, ⟨f0, f1⟩⟩ := trn_cells hX8
        have hk9 : Kpt w8 (w8.setCell ⟨g4, 1, none⟩ (.slice (some ⟨tn, 0, none⟩) (k + 1) cn)) (fun j => j = g4) := kpt_set w8 _ 1 _ rfl
        have hX9 : (w8.setCell ⟨g4, 1, none⟩ (.slice (some ⟨tn, 0, none⟩) (k + 1) cn)).heap[g4]? = some (.cells #[.slice (some ⟨t, 0, none⟩) n cp, .slice (some ⟨tn, 0, none⟩) (k + 1) cn] 33) := by have h := heap_setCell_same _ _ 1 _ _ (.slice (some ⟨tn, 0, none⟩) (k + 1) cn) hX8; simpa using h
        have hS9 : Below w.heap.size w (w8.setCell ⟨g4, 1, none⟩ (.slice (some ⟨tn, 0, none⟩) (k + 1) cn)) ∧ (w8.setCell ⟨g4, 1, none⟩ (.slice (some ⟨tn, 0, none⟩) (k + 1) cn)).heap[w.heap.size]? = some (.cells #[.slice (some ⟨ba, oa, none⟩) n ca, .slice (some ⟨bu, ou, none⟩) n cu] 33) := ⟨hS8.1.trans (hk9.below hS8.1.size (fun k0 hk0 h => by omega)), (hk9.block _ (by omega) (by omega)).trans hS8.2⟩
        have h29 := (hk9.block (w.heap.size + 1) (by omega) (by omega)).trans h28
        have hT9 := hT8.apart hk9 (by omega)
        have hO9 := own_keptT hown8 hk9 (fun g hg => by have e : tn = g := Option.some.inj hg; omega)
        have hQ9 := hqn.apart hk9 (by omega)
        go_simp
        refine hK.out _ _ hS9 (fun _ => ?_)
        clear hK K s0 s1 f0 f1
        refine wpAnyH_done (by kernel_rfl) ?_ _
        refine NoPanic.normal ?_
        obtain ⟨w9, hw9⟩ : ∃ W, W = w8.setCell ⟨g4, 1, none⟩ (.slice (some ⟨tn, 0, none⟩) (k + 1) cn) := ⟨_, rfl⟩
        rw [← hw9] at hS9 hX9 h29 hT9 hO9 hQ9
        rw [← hw9]
        have HB9 : Hid (w9.heap[w.heap.size]? = some (.cells #[.slice (some ⟨ba, oa, none⟩) n ca, .slice (some ⟨bu, ou, none⟩) n cu] 33)) := hS9.2
        have HX9 : Hid (w9.heap[g4]? = some (.cells #[.slice (some ⟨t, 0, none⟩) n cp, .slice (some ⟨tn, 0, none⟩) (k + 1) cn] 33)) := hX9
        have H29 : Hid (w9.heap[w.heap.size + 1]? = some (.cells #[.slice none 0 0, .slice none 0 0] 33)) := h29
        have HT9 : Hid (ZSRow w9 t A) := hT9
        have HO9 : Hid (w9.ownsRow (g4 + 1) 3 1 (.slice (some ⟨tn, 0, none⟩) (k + 1) cn) (k + 1) ((S.take (k + 1)).map (Value.int .i64))) := hO9
        have hb9 : Below w.heap.size w w9 := hS9.1
        have hbl := bestN_le S k
        have HCC : Hid (∀ W, Below w9.heap.size w9 W → W.cell? ⟨g4, 1, none⟩ = some (.slice (some ⟨tn, 0, none⟩) (k + 1) cn) ∧ W.cell? ⟨tn, k, none⟩ = some (.int .i64 (S.getD k 0)) ∧ W.cell? ⟨tn, bestN S k, none⟩ = some (.int .i64 (S.getD (bestN S k) 0))) := fun W hW => by
          have h1 := (trn_cells ((hW.block _ (by rw [hw9]; simpa using hg8)).trans hX9)).1.2
          have h2 := hQ9.kept hW
          have h3 := (h2.2 k (by rw [hln]; omega)).1
          have h4 := (h2.2 (bestN S k) (by rw [hln]; omega)).1
          rw [take_get] at h3 h4
          exact ⟨h1, h3, h4⟩
        have hbk : bestN S k < k + 1 := by omega
        have HBN : Hid (bestN S (k + 1) = if S.getD k 0 > S.getD (bestN S k) 0 then k else bestN S k) := bestN_next S k
        obtain ⟨x, hx⟩ : ∃ x, x = S.getD k 0 := ⟨_, rfl⟩
        obtain ⟨bk, hbke⟩ : ∃ bk, bk = bestN S k := ⟨_, rfl⟩
        rw [← hbke] at HCC HBN hbk hbl ⊢
        obtain ⟨y, hy⟩ : ∃ y, y = S.getD bk 0 := ⟨_, rfl⟩
        rw [← hx, ← hy] at HCC HBN
        have hbd : Below w9.heap.size w9 w9.drew := (Below.refl _ _).drew
        have hbki : (bk : Int) < ((k + 1 : Nat) : Int) := by omega
        have hkki : (k : Int) < ((k + 1 : Nat) : Int) := by omega
        clear hX9 h29 hT9 hO9 hQ9 hS9 hw9 hk9 hk8 hown8 hgrow8 hat8 hne8 hS8 hX8 h28 hT8 hg8 hqn hx hbke hy HB1 HB2 HX HO HT HSK2 HTK2 HCA2 HLT hHeld
        go_wp2_with fail
        by_cases hg : y < x
        · skip
          have HNX : Hid (bestN S (k + 1) = k) := by show _ = _; rw [HBN.out]; rw [if_pos hg]
          clear HBN
          refine wp_region_quiet (C := fun W => Below w9.heap.size w9 W) (by kernel_rfl) (by kernel_rfl) hbd ?_
          refine wpQuiet_step (fun K hK => ?_)
          rw [if_pos (by rfl)]
          refine ⟨.pointer (some ⟨g4, 1, none⟩), fun W hW => quiet_ok ?_, hK _ ?_⟩
          · obtain ⟨c0, c1, c2⟩ := HCC.out W hW
            go_simp
            all_goals (try omega)
          clear hK K
          simp only [Act.put, List.setIfInBounds_toArray, List.set_cons_succ, List.set_cons_zero]
          refine wpQuiet_step (fun K hK => ?_)
          rw [if_pos (by rfl)]
          refine ⟨.slice (some ⟨tn, 0, none⟩) (k + 1) cn, fun W hW => quiet_ok ?_, hK _ ?_⟩
          · obtain ⟨c0, c1, c2⟩ := HCC.out W hW
            go_simp
            all_goals (try omega)
          clear hK K
          simp only [Act.put, List.setIfInBounds_toArray, List.set_cons_succ, List.set_cons_zero]
          refine wpQuiet_step (fun K hK => ?_)
          rw [if_pos (by rfl)]
          refine ⟨.int .i64 (k : Int), fun W hW => quiet_ok ?_, hK _ ?_⟩
          · obtain ⟨c0, c1, c2⟩ := HCC.out W hW
            go_simp
            all_goals (try omega)
          clear hK K
          simp only [Act.put, List.setIfInBounds_toArray, List.set_cons_succ, List.set_cons_zero]
          refine wpQuiet_step (fun K hK => ?_)
          rw [if_pos (by rfl)]
          refine ⟨.pointer (some ⟨tn, k, none⟩), fun W hW => quiet_ok ?_, hK _ ?_⟩
          · obtain ⟨c0, c1, c2⟩ := HCC.out W hW
            go_simp
            all_goals (try omega)
          clear hK K
          simp only [Act.put, List.setIfInBounds_toArray, List.set_cons_succ, List.set_cons_zero]
          refine wpQuiet_step (fun K hK => ?_)
          rw [if_pos (by rfl)]
          refine ⟨.int .i64 x, fun W hW => quiet_ok ?_, hK _ ?_⟩
          · obtain ⟨c0, c1, c2⟩ := HCC.out W hW
            go_simp
            all_goals (try omega)
          clear hK K
          simp only [Act.put, List.setIfInBounds_toArray, List.set_cons_succ, List.set_cons_zero]
          refine wpQuiet_step (fun K hK => ?_)
          rw [if_pos (by rfl)]
          refine ⟨.pointer (some ⟨g4, 1, none⟩), fun W hW => quiet_ok ?_, hK _ ?_⟩
          · obtain ⟨c0, c1, c2⟩ := HCC.out W hW
            go_simp
            all_goals (try omega)
          clear hK K
          simp only [Act.put, List.setIfInBounds_toArray, List.set_cons_succ, List.set_cons_zero]
          refine wpQuiet_step (fun K hK => ?_)
          rw [if_pos (by rfl)]
          refine ⟨.slice (some ⟨tn, 0, none⟩) (k + 1) cn, fun W hW => quiet_ok ?_, hK _ ?_⟩
          · obtain ⟨c0, c1, c2⟩ := HCC.out W hW
            go_simp
            all_goals (try omega)
          clear hK K
          simp only [Act.put, List.setIfInBounds_toArray, List.set_cons_succ, List.set_cons_zero]
          refine wpQuiet_step (fun K hK => ?_)
          rw [if_pos (by rfl)]
          refine ⟨.int .i64 (bk : Int), fun W hW => quiet_ok ?_, hK _ ?_⟩
          · obtain ⟨c0, c1, c2⟩ := HCC.out W hW
            go_simp
            all_goals (try omega)
          clear hK K
          simp only [Act.put, List.setIfInBounds_toArray, List.set_cons_succ, List.set_cons_zero]
          refine wpQuiet_step (fun K hK => ?_)
          rw [if_pos (by rfl)]
          refine ⟨.pointer (some ⟨tn, bk, none⟩), fun W hW => quiet_ok ?_, hK _ ?_⟩
          · obtain ⟨c0, c1, c2⟩ := HCC.out W hW
            go_simp
            all_goals (try omega)
          clear hK K
          simp only [Act.put, List.setIfInBounds_toArray, List.set_cons_succ, List.set_cons_zero]
          refine wpQuiet_step (fun K hK => ?_)
          rw [if_pos (by rfl)]
          refine ⟨.int .i64 y, fun W hW => quiet_ok ?_, hK _ ?_⟩
          · obtain ⟨c0, c1, c2⟩ := HCC.out W hW
            go_simp
            all_goals (try omega)
          clear hK K
          simp only [Act.put, List.setIfInBounds_toArray, List.set_cons_succ, List.set_cons_zero]
          refine wpQuiet_step (fun K hK => ?_)
          rw [if_pos (by rfl)]
          refine ⟨.bool true, fun W hW => quiet_ok ?_, hK _ ?_⟩
          · obtain ⟨c0, c1, c2⟩ := HCC.out W hW
            go_simp
            all_goals (try omega)
          clear hK K
          simp only [Act.put, List.setIfInBounds_toArray, List.set_cons_succ, List.set_cons_zero]
          refine wpQuiet_nil ?_
          intro W hW
          have HBf : Hid (W.heap[w.heap.size]? = some (.cells #[.slice (some ⟨ba, oa, none⟩) n ca, .slice (some ⟨bu, ou, none⟩) n cu] 33)) := (hW.block _ (Array.getElem?_eq_some_iff.1 HB9.out).1).trans HB9.out
          have H2f : Hid (W.heap[w.heap.size + 1]? = some (.cells #[.slice none 0 0, .slice none 0 0] 33)) := (hW.block _ (Array.getElem?_eq_some_iff.1 H29.out).1).trans H29.out
          have HXf : Hid (W.heap[g4]? = some (.cells #[.slice (some ⟨t, 0, none⟩) n cp, .slice (some ⟨tn, 0, none⟩) (k + 1) cn] 33)) := (hW.block _ (Array.getElem?_eq_some_iff.1 HX9.out).1).trans HX9.out
          have HTf : Hid (ZSRow W t A) := HT9.out.kept hW
          have HOf : Hid (W.ownsRow (g4 + 1) 3 1 (.slice (some ⟨tn, 0, none⟩) (k + 1) cn) (k + 1) ((S.take (k + 1)).map (Value.int .i64))) := own_belT HO9.out hW
          have hbf : Below w.heap.size w W := hb9.trans (hW.mono hb9.size)
          clear HCC HB9 H29 HX9 HT9 HO9 hb9
          go_wp2_with fail
          go_roundw
          case rel => exact ⟨k + 1, _, by omega, by go_num, by rw [HNX.out], HBf, H2f, HXf, HOf, HTf, hbf⟩
          case measure => simp [intOf]; omega
        · skip
          have HNX : Hid (bestN S (k + 1) = bk) := by show _ = _; rw [HBN.out]; rw [if_neg hg]
          clear HBN
          refine wp_region_quiet (C := fun W => Below w9.heap.size w9 W) (by kernel_rfl) (by kernel_rfl) hbd ?_
          refine wpQuiet_step (fun K hK => ?_)
          rw [if_pos (by rfl)]
          refine ⟨.pointer (some ⟨g4, 1, none⟩), fun W hW => quiet_ok ?_, hK _ ?_⟩
          · obtain ⟨c0, c1, c2⟩ := HCC.out W hW
            go_simp
            all_goals (try omega)
          clear hK K
          simp only [Act.put, List.setIfInBounds_toArray, List.set_cons_succ, List.set_cons_zero]
          refine wpQuiet_step (fun K hK => ?_)
          rw [if_pos (by rfl)]
          refine ⟨.slice (some ⟨tn, 0, none⟩) (k + 1) cn, fun W hW => quiet_ok ?_, hK _ ?_⟩
          · obtain ⟨c0, c1, c2⟩ := HCC.out W hW
            go_simp
            all_goals (try omega)
          clear hK K
          simp only [Act.put, List.setIfInBounds_toArray, List.set_cons_succ, List.set_cons_zero]
          refine wpQuiet_step (fun K hK => ?_)
          rw [if_pos (by rfl)]
          refine ⟨.int .i64 (k : Int), fun W hW => quiet_ok ?_, hK _ ?_⟩
          · obtain ⟨c0, c1, c2⟩ := HCC.out W hW
            go_simp
            all_goals (try omega)
          clear hK K
          simp only [Act.put, List.setIfInBounds_toArray, List.set_cons_succ, List.set_cons_zero]
          refine wpQuiet_step (fun K hK => ?_)
          rw [if_pos (by rfl)]
          refine ⟨.pointer (some ⟨tn, k, none⟩), fun W hW => quiet_ok ?_, hK _ ?_⟩
          · obtain ⟨c0, c1, c2⟩ := HCC.out W hW
            go_simp
            all_goals (try omega)
          clear hK K
          simp only [Act.put, List.setIfInBounds_toArray, List.set_cons_succ, List.set_cons_zero]
          refine wpQuiet_step (fun K hK => ?_)
          rw [if_pos (by rfl)]
          refine ⟨.int .i64 x, fun W hW => quiet_ok ?_, hK _ ?_⟩
          · obtain ⟨c0, c1, c2⟩ := HCC.out W hW
            go_simp
            all_goals (try omega)
          clear hK K
          simp only [Act.put, List.setIfInBounds_toArray, List.set_cons_succ, List.set_cons_zero]
          refine wpQuiet_step (fun K hK => ?_)
          rw [if_pos (by rfl)]
          refine ⟨.pointer (some ⟨g4, 1, none⟩), fun W hW => quiet_ok ?_, hK _ ?_⟩
          · obtain ⟨c0, c1, c2⟩ := HCC.out W hW
            go_simp
            all_goals (try omega)
          clear hK K
          simp only [Act.put, List.setIfInBounds_toArray, List.set_cons_succ, List.set_cons_zero]
          refine wpQuiet_step (fun K hK => ?_)
          rw [if_pos (by rfl)]
          refine ⟨.slice (some ⟨tn, 0, none⟩) (k + 1) cn, fun W hW => quiet_ok ?_, hK _ ?_⟩
          · obtain ⟨c0, c1, c2⟩ := HCC.out W hW
            go_simp
            all_goals (try omega)
          clear hK K
          simp only [Act.put, List.setIfInBounds_toArray, List.set_cons_succ, List.set_cons_zero]
          refine wpQuiet_step (fun K hK => ?_)
          rw [if_pos (by rfl)]
          refine ⟨.int .i64 (bk : Int), fun W hW => quiet_ok ?_, hK _ ?_⟩
          · obtain ⟨c0, c1, c2⟩ := HCC.out W hW
            go_simp
            all_goals (try omega)
          clear hK K
          simp only [Act.put, List.setIfInBounds_toArray, List.set_cons_succ, List.set_cons_zero]
          refine wpQuiet_step (fun K hK => ?_)
          rw [if_pos (by rfl)]
          refine ⟨.pointer (some ⟨tn, bk, none⟩), fun W hW => quiet_ok ?_, hK _ ?_⟩
          · obtain ⟨c0, c1, c2⟩ := HCC.out W hW
            go_simp
            all_goals (try omega)
          clear hK K
          simp only [Act.put, List.setIfInBounds_toArray, List.set_cons_succ, List.set_cons_zero]
          refine wpQuiet_step (fun K hK => ?_)
          rw [if_pos (by rfl)]
          refine ⟨.int .i64 y, fun W hW => quiet_ok ?_, hK _ ?_⟩
          · obtain ⟨c0, c1, c2⟩ := HCC.out W hW
            go_simp
            all_goals (try omega)
          clear hK K
          simp only [Act.put, List.setIfInBounds_toArray, List.set_cons_succ, List.set_cons_zero]
          refine wpQuiet_step (fun K hK => ?_)
          rw [if_pos (by rfl)]
          refine ⟨.bool false, fun W hW => quiet_ok ?_, hK _ ?_⟩
          · obtain ⟨c0, c1, c2⟩ := HCC.out W hW
            go_simp
            all_goals (try omega)
          clear hK K
          simp only [Act.put, List.setIfInBounds_toArray, List.set_cons_succ, List.set_cons_zero]
          refine wpQuiet_nil ?_
          intro W hW
          have HBf : Hid (W.heap[w.heap.size]? = some (.cells #[.slice (some ⟨ba, oa, none⟩) n ca, .slice (some ⟨bu, ou, none⟩) n cu] 33)) := (hW.block _ (Array.getElem?_eq_some_iff.1 HB9.out).1).trans HB9.out
          have H2f : Hid (W.heap[w.heap.size + 1]? = some (.cells #[.slice none 0 0, .slice none 0 0] 33)) := (hW.block _ (Array.getElem?_eq_some_iff.1 H29.out).1).trans H29.out
          have HXf : Hid (W.heap[g4]? = some (.cells #[.slice (some ⟨t, 0, none⟩) n cp, .slice (some ⟨tn, 0, none⟩) (k + 1) cn] 33)) := (hW.block _ (Array.getElem?_eq_some_iff.1 HX9.out).1).trans HX9.out
          have HTf : Hid (ZSRow W t A) := HT9.out.kept hW
          have HOf : Hid (W.ownsRow (g4 + 1) 3 1 (.slice (some ⟨tn, 0, none⟩) (k + 1) cn) (k + 1) ((S.take (k + 1)).map (Value.int .i64))) := own_belT HO9.out hW
          have hbf : Below w.heap.size w W := hb9.trans (hW.mono hb9.size)
          clear HCC HB9 H29 HX9 HT9 HO9 hb9
          go_wp2_with fail
          go_roundw
          case rel => exact ⟨k + 1, _, by omega, by go_num, by rw [HNX.out], HBf, H2f, HXf, HOf, HTf, hbf⟩
          case measure => simp [intOf]; omega
      · skip
        rw [if_pos (by rfl)]
        go_simp
        have hbwY : Below wX.heap.size wX (wX.alloc (.cells #[.int .i64 (uk + ak)] 3)) := (Below.refl _ _).alloc (Nat.le_refl _) _
        have hEwY := cell_new_oneT wX (.int .i64 (uk + ak)) 3
        have hlwY : w.heap.size < wX.heap.size := (Array.getElem?_eq_some_iff.1 hSwX.2).1
        have hSwY : Below w.heap.size w (wX.alloc (.cells #[.int .i64 (uk + ak)] 3)) ∧ (wX.alloc (.cells #[.int .i64 (uk + ak)] 3)).heap[w.heap.size]? = some (.cells #[.slice (some ⟨ba, oa, none⟩) n ca, .slice (some ⟨bu, ou, none⟩) n cu] 33) := ⟨hSwX.1.trans (hbwY.mono hSwX.1.size), (hbwY.block _ hlwY).trans hSwX.2⟩
        have hXwY := (hbwY.block _ hgwX).trans hXwX
        have hOwY : (wX.alloc (.cells #[.int .i64 (uk + ak)] 3)).ownsRow (g4 + 1) 3 1 (.slice xv k cv) k ((S.take k).map (Value.int .i64)) := own_belT hOwX hbwY
        have hTwY := hTwX.kept hbwY
        have h2wY := (hbwY.block _ (by omega)).trans h2wX
        have hgwY : g4 < (wX.alloc (.cells #[.int .i64 (uk + ak)] 3)).heap.size := Nat.lt_of_lt_of_le hgwX hbwY.size
        have hYwY : (wX.alloc (.cells #[.int .i64 (uk + ak)] 3)).heap.size = wX.heap.size + 1 := by simp
        have hLwY : ∀ g, (Value.slice xv k cv).ownBlock = some g → g4 + 1 ≤ g ∧ g < wX.heap.size := hLwX
        refine hK.out _ _ hSwY (fun _ => ?_)
        clear hK K
        generalize wX.alloc (.cells #[.int .i64 (uk + ak)] 3) = wY at *
        refine wpAnyH_ready (rs := [1]) (by kernel_rfl) (by simp) ?_
        refine AllReadyH.cons rfl (fun K hK => ?_) AllReadyH.nil
        rw [if_pos (by rfl)]
        obtain ⟨⟨s0, s1⟩, _⟩ := trn_cells hXwY
        go_simp
        refine hK.out _ _ hSwY (fun _ => ?_)
        clear hK K s0 s1
        refine wpAnyH_ready (rs := [10]) (by kernel_rfl) (by simp) ?_
        refine AllReadyH.cons rfl (fun K hK => ?_) AllReadyH.nil
        refine step_append_atT rfl (.tmp 22) (.tmp 30) 22 rfl (g4 + 1) 3 i0 (.int .i64 0) 1 8 Try.underlying22 hi hz0 hz1 hz2 rfl (by decide) _ _ _ rfl hOwY ⟨wX.heap.size, 0, none⟩ 1 1 [.int .i64 (uk + ak)] rfl rfl hEwY (one_intT _) (by unfold maxLen; omega) (by omega) (by omega) ?_
        intro v8 w8 hown8 hgrow8 hat8
        rw [HTK2.out] at hown8
        have hk8 := grown_kpt hgrow8
        have hne8 : ∀ g, g ≤ g4 → ¬ ((Value.slice xv k cv).ownBlock = some g) := fun g hg h => by have := (hLwY g h).1; omega
        have hS8 : Below w.heap.size w w8 ∧ w8.heap[w.heap.size]? = some (.cells #[.slice (some ⟨ba, oa, none⟩) n ca, .slice (some ⟨bu, ou, none⟩) n cu] 33) := ⟨hSwY.1.trans (hk8.below (by have := hSwY.1.size; omega) (fun k0 hk0 h => hne8 _ (by omega) h)), (hk8.block _ (by omega) (hne8 _ (by omega))).trans hSwY.2⟩
        have hX8 : w8.heap[g4]? = some (.cells #[.slice (some ⟨t, 0, none⟩) n cp, .slice xv k cv] 33) := (hk8.block _ hgwY (hne8 _ (Nat.le_refl _))).trans hXwY
        have h28 : w8.heap[w.heap.size + 1]? = some (.cells #[.slice none 0 0, .slice none 0 0] 33) := (hk8.block _ (by omega) (hne8 _ (by omega))).trans h2wY
        have hT8 : ZSRow w8 t A := hTwY.apart hk8 (hne8 _ (by omega))
        have hg8 : g4 < w8.heap.size := Nat.lt_of_lt_of_le hgwY hk8.size
        obtain ⟨tn, cn, hv8, hcn1, hcn2, htn, hqn⟩ := zs_of_ownT (P := S.take (k + 1)) (base := g4 + 1) (v := v8) (by rw [List.length_take, HSN.out]; omega) (by rw [List.length_take, HSN.out, show min (k + 1) n = k + 1 by omega]; exact hown8)
        have hln : (S.take (k + 1)).length = k + 1 := by rw [List.length_take, HSN.out]; omega
        rw [hln] at hv8 hcn1
        subst hv8
        refine hK.out _ _ hS8 (fun _ => ?_)
        clear hK K
        simp only [Act.put]
        refine wpAnyH_take (i := 11) (v := .pointer (some ⟨g4, 1, none⟩)) rfl (by kernel_rfl) (by kernel_rfl) (by kernel_rfl) (fun _ _ _ h => h) (Or.inl ⟨by rfl, ?_⟩) (by assumption) ?_
        · intro W hSW
          go_simp
        simp only [Act.put, List.getElem_toArray, List.getElem_cons_succ, List.getElem_cons_zero, List.setIfInBounds_toArray, List.set_cons_succ, List.set_cons_zero]
        refine wpAnyH_ready (rs := [12]) (by kernel_rfl) (by simp) ?_
        refine AllReadyH.cons rfl (fun K hK => ?_) AllReadyH.nil
        rw [if_pos (by rfl)]
        obtain ⟨⟨s0, s1⟩, ⟨f0, f1⟩⟩ := trn_cells hX8
        have hk9 : Kpt w8 (w8.setCell ⟨g4, 1, none⟩ (.slice (some ⟨tn, 0, none⟩) (k + 1) cn)) (fun j => j = g4) := kpt_set w8 _ 1 _ rfl
        have hX9 : (w8.setCell ⟨g4, 1, none⟩ (.slice (some ⟨tn, 0, none⟩) (k + 1) cn)).heap[g4]? = some (.cells #[.slice (some ⟨t, 0, none⟩) n cp, .slice (some ⟨tn, 0, none⟩) (k + 1) cn] 33) := by have h := heap_setCell_same _ _ 1 _ _ (.slice (some ⟨tn, 0, none⟩) (k + 1) cn) hX8; simpa using h
        have hS9 : Below w.heap.size w (w8.setCell ⟨g4, 1, none⟩ (.slice (some ⟨tn, 0, none⟩) (k + 1) cn)) ∧ (w8.setCell ⟨g4, 1, none⟩ (.slice (some ⟨tn, 0, none⟩) (k + 1) cn)).heap[w.heap.size]? = some (.cells #[.slice (some ⟨ba, oa, none⟩) n ca, .slice (some ⟨bu, ou, none⟩) n cu] 33) := ⟨hS8.1.trans (hk9.below hS8.1.size (fun k0 hk0 h => by omega)), (hk9.block _ (by omega) (by omega)).trans hS8.2⟩
        have h29 := (hk9.block (w.heap.size + 1) (by omega) (by omega)).trans h28
        have hT9 := hT8.apart hk9 (by omega)
        have hO9 := own_keptT hown8 hk9 (fun g hg => by have e : tn = g := Option.some.inj hg; omega)
        have hQ9 := hqn.apart hk9 (by omega)
        go_simp
        refine hK.out _ _ hS9 (fun _ => ?_)
        clear hK K s0 s1 f0 f1
        refine wpAnyH_done (by kernel_rfl) ?_ _
        refine NoPanic.normal ?_
        obtain ⟨w9, hw9⟩ : ∃ W, W = w8.setCell ⟨g4, 1, none⟩ (.slice (some ⟨tn, 0, none⟩) (k + 1) cn) := ⟨_, rfl⟩
        rw [← hw9] at hS9 hX9 h29 hT9 hO9 hQ9
        rw [← hw9]
        have HB9 : Hid (w9.heap[w.heap.size]? = some (.cells #[.slice (some ⟨ba, oa, none⟩) n ca, .slice (some ⟨bu, ou, none⟩) n cu] 33)) := hS9.2
        have HX9 : Hid (w9.heap[g4]? = some (.cells #[.slice (some ⟨t, 0, none⟩) n cp, .slice (some ⟨tn, 0, none⟩) (k + 1) cn] 33)) := hX9
        have H29 : Hid (w9.heap[w.heap.size + 1]? = some (.cells #[.slice none 0 0, .slice none 0 0] 33)) := h29
        have HT9 : Hid (ZSRow w9 t A) := hT9
        have HO9 : Hid (w9.ownsRow (g4 + 1) 3 1 (.slice (some ⟨tn, 0, none⟩) (k + 1) cn) (k + 1) ((S.take (k + 1)).map (Value.int .i64))) := hO9
        have hb9 : Below w.heap.size w w9 := hS9.1
        have hbl := bestN_le S k
        have HCC : Hid (∀ W, Below w9.heap.size w9 W → W.cell? ⟨g4, 1, none⟩ = some (.slice (some ⟨tn, 0, none⟩) (k + 1) cn) ∧ W.cell? ⟨tn, k, none⟩ = some (.int .i64 (S.getD k 0)) ∧ W.cell? ⟨tn, bestN S k, none⟩ = some (.int .i64 (S.getD (bestN S k) 0))) := fun W hW => by
          have h1 := (trn_cells ((hW.block _ (by rw [hw9]; simpa using hg8)).trans hX9)).1.2
          have h2 := hQ9.kept hW
          have h3 := (h2.2 k (by rw [hln]; omega)).1
          have h4 := (h2.2 (bestN S k) (by rw [hln]; omega)).1
          rw [take_get] at h3 h4
          exact ⟨h1, h3, h4⟩
        have hbk : bestN S k < k + 1 := by omega
        have HBN : Hid (bestN S (k + 1) = if S.getD k 0 > S.getD (bestN S k) 0 then k else bestN S k) := bestN_next S k
        obtain ⟨x, hx⟩ : ∃ x, x = S.getD k 0 := ⟨_, rfl⟩
        obtain ⟨bk, hbke⟩ : ∃ bk, bk = bestN S k := ⟨_, rfl⟩
        rw [← hbke] at HCC HBN hbk hbl ⊢
        obtain ⟨y, hy⟩ : ∃ y, y = S.getD bk 0 := ⟨_, rfl⟩
        rw [← hx, ← hy] at HCC HBN
        have hbd : Below w9.heap.size w9 w9.drew := (Below.refl _ _).drew
        have hbki : (bk : Int) < ((k + 1 : Nat) : Int) := by omega
        have hkki : (k : Int) < ((k + 1 : Nat) : Int) := by omega
        clear hX9 h29 hT9 hO9 hQ9 hS9 hw9 hk9 hk8 hown8 hgrow8 hat8 hne8 hS8 hX8 h28 hT8 hg8 hqn hx hbke hy HB1 HB2 HX HO HT HSK2 HTK2 HCA2 HLT hHeld
        go_wp2_with fail
        by_cases hg : y < x
        · skip
          have HNX : Hid (bestN S (k + 1) = k) := by show _ = _; rw [HBN.out]; rw [if_pos hg]
          clear HBN
          refine wp_region_quiet (C := fun W => Below w9.heap.size w9 W) (by kernel_rfl) (by kernel_rfl) hbd ?_
          refine wpQuiet_step (fun K hK => ?_)
          rw [if_pos (by rfl)]
          refine ⟨.pointer (some ⟨g4, 1, none⟩), fun W hW => quiet_ok ?_, hK _ ?_⟩
          · obtain ⟨c0, c1, c2⟩ := HCC.out W hW
            go_simp
            all_goals (try omega)
          clear hK K
          simp only [Act.put, List.setIfInBounds_toArray, List.set_cons_succ, List.set_cons_zero]
          refine wpQuiet_step (fun K hK => ?_)
          rw [if_pos (by rfl)]
          refine ⟨.slice (some ⟨tn, 0, none⟩) (k + 1) cn, fun W hW => quiet_ok ?_, hK _ ?_⟩
          · obtain ⟨c0, c1, c2⟩ := HCC.out W hW
            go_simp
            all_goals (try omega)
          clear hK K
          simp only [Act.put, List.setIfInBounds_toArray, List.set_cons_succ, List.set_cons_zero]
          refine wpQuiet_step (fun K hK => ?_)
          rw [if_pos (by rfl)]
          refine ⟨.int .i64 (k : Int), fun W hW => quiet_ok ?_, hK _ ?_⟩
          · obtain ⟨c0, c1, c2⟩ := HCC.out W hW
            go_simp
            all_goals (try omega)
          clear hK K
          simp only [Act.put, List.setIfInBounds_toArray, List.set_cons_succ, List.set_cons_zero]
          refine wpQuiet_step (fun K hK => ?_)
          rw [if_pos (by rfl)]
          refine ⟨.pointer (some ⟨tn, k, none⟩), fun W hW => quiet_ok ?_, hK _ ?_⟩
          · obtain ⟨c0, c1, c2⟩ := HCC.out W hW
            go_simp
            all_goals (try omega)
          clear hK K
          simp only [Act.put, List.setIfInBounds_toArray, List.set_cons_succ, List.set_cons_zero]
          refine wpQuiet_step (fun K hK => ?_)
          rw [if_pos (by rfl)]
          refine ⟨.int .i64 x, fun W hW => quiet_ok ?_, hK _ ?_⟩
          · obtain ⟨c0, c1, c2⟩ := HCC.out W hW
            go_simp
            all_goals (try omega)
          clear hK K
          simp only [Act.put, List.setIfInBounds_toArray, List.set_cons_succ, List.set_cons_zero]
          refine wpQuiet_step (fun K hK => ?_)
          rw [if_pos (by rfl)]
          refine ⟨.pointer (some ⟨g4, 1, none⟩), fun W hW => quiet_ok ?_, hK _ ?_⟩
          · obtain ⟨c0, c1, c2⟩ := HCC.out W hW
            go_simp
            all_goals (try omega)
          clear hK K
          simp only [Act.put, List.setIfInBounds_toArray, List.set_cons_succ, List.set_cons_zero]
          refine wpQuiet_step (fun K hK => ?_)
          rw [if_pos (by rfl)]
          refine ⟨.slice (some ⟨tn, 0, none⟩) (k + 1) cn, fun W hW => quiet_ok ?_, hK _ ?_⟩
          · obtain ⟨c0, c1, c2⟩ := HCC.out W hW
            go_simp
            all_goals (try omega)
          clear hK K
          simp only [Act.put, List.setIfInBounds_toArray, List.set_cons_succ, List.set_cons_zero]
          refine wpQuiet_step (fun K hK => ?_)
          rw [if_pos (by rfl)]
          refine ⟨.int .i64 (bk : Int), fun W hW => quiet_ok ?_, hK _ ?_⟩
          · obtain ⟨c0, c1, c2⟩ := HCC.out W hW
            go_simp
            all_goals (try omega)
          clear hK K
          simp only [Act.put, List.setIfInBounds_toArray, List.set_cons_succ, List.set_cons_zero]
          refine wpQuiet_step (fun K hK => ?_)
          rw [if_pos (by rfl)]
          refine ⟨.pointer (some ⟨tn, bk, none⟩), fun W hW => quiet_ok ?_, hK _ ?_⟩
          · obtain ⟨c0, c1, c2⟩ := HCC.out W hW
            go_simp
            all_goals (try omega)
          clear hK K
          simp only [Act.put, List.setIfInBounds_toArray, List.set_cons_succ, List.set_cons_zero]
          refine wpQuiet_step (fun K hK => ?_)
          rw [if_pos (by rfl)]
          refine ⟨.int .i64 y, fun W hW => quiet_ok ?_, hK _ ?_⟩
          · obtain ⟨c0, c1, c2⟩ := HCC.out W hW
            go_simp
            all_goals (try omega)
          clear hK K
          simp only [Act.put, List.setIfInBounds_toArray, List.set_cons_succ, List.set_cons_zero]
          refine wpQuiet_step (fun K hK => ?_)
          rw [if_pos (by rfl)]
          refine ⟨.bool true, fun W hW => quiet_ok ?_, hK _ ?_⟩
          · obtain ⟨c0, c1, c2⟩ := HCC.out W hW
            go_simp
            all_goals (try omega)
          clear hK K
          simp only [Act.put, List.setIfInBounds_toArray, List.set_cons_succ, List.set_cons_zero]
          refine wpQuiet_nil ?_
          intro W hW
          have HBf : Hid (W.heap[w.heap.size]? = some (.cells #[.slice (some ⟨ba, oa, none⟩) n ca, .slice (some ⟨bu, ou, none⟩) n cu] 33)) := (hW.block _ (Array.getElem?_eq_some_iff.1 HB9.out).1).trans HB9.out
          have H2f : Hid (W.heap[w.heap.size + 1]? = some (.cells #[.slice none 0 0, .slice none 0 0] 33)) := (hW.block _ (Array.getElem?_eq_some_iff.1 H29.out).1).trans H29.out
          have HXf : Hid (W.heap[g4]? = some (.cells #[.slice (some ⟨t, 0, none⟩) n cp, .slice (some ⟨tn, 0, none⟩) (k + 1) cn] 33)) := (hW.block _ (Array.getElem?_eq_some_iff.1 HX9.out).1).trans HX9.out
          have HTf : Hid (ZSRow W t A) := HT9.out.kept hW
          have HOf : Hid (W.ownsRow (g4 + 1) 3 1 (.slice (some ⟨tn, 0, none⟩) (k + 1) cn) (k + 1) ((S.take (k + 1)).map (Value.int .i64))) := own_belT HO9.out hW
          have hbf : Below w.heap.size w W := hb9.trans (hW.mono hb9.size)
          clear HCC HB9 H29 HX9 HT9 HO9 hb9
          go_wp2_with fail
          go_roundw
          case rel => exact ⟨k + 1, _, by omega, by go_num, by rw [HNX.out], HBf, H2f, HXf, HOf, HTf, hbf⟩
          case measure => simp [intOf]; omega
        · skip
          have HNX : Hid (bestN S (k + 1) = bk) := by show _ = _; rw [HBN.out]; rw [if_neg hg]
          clear HBN
          refine wp_region_quiet (C := fun W => Below w9.heap.size w9 W) (by kernel_rfl) (by kernel_rfl) hbd ?_
          refine wpQuiet_step (fun K hK => ?_)
          rw [if_pos (by rfl)]
          refine ⟨.pointer (some ⟨g4, 1, none⟩), fun W hW => quiet_ok ?_, hK _ ?_⟩
          · obtain ⟨c0, c1, c2⟩ := HCC.out W hW
            go_simp
            all_goals (try omega)
          clear hK K
          simp only [Act.put, List.setIfInBounds_toArray, List.set_cons_succ, List.set_cons_zero]
          refine wpQuiet_step (fun K hK => ?_)
          rw [if_pos (by rfl)]
          refine ⟨.slice (some ⟨tn, 0, none⟩) (k + 1) cn, fun W hW => quiet_ok ?_, hK _ ?_⟩
          · obtain ⟨c0, c1, c2⟩ := HCC.out W hW
            go_simp
            all_goals (try omega)
          clear hK K
          simp only [Act.put, List.setIfInBounds_toArray, List.set_cons_succ, List.set_cons_zero]
          refine wpQuiet_step (fun K hK => ?_)
          rw [if_pos (by rfl)]
          refine ⟨.int .i64 (k : Int), fun W hW => quiet_ok ?_, hK _ ?_⟩
          · obtain ⟨c0, c1, c2⟩ := HCC.out W hW
            go_simp
            all_goals (try omega)
          clear hK K
          simp only [Act.put, List.setIfInBounds_toArray, List.set_cons_succ, List.set_cons_zero]
          refine wpQuiet_step (fun K hK => ?_)
          rw [if_pos (by rfl)]
          refine ⟨.pointer (some ⟨tn, k, none⟩), fun W hW => quiet_ok ?_, hK _ ?_⟩
          · obtain ⟨c0, c1, c2⟩ := HCC.out W hW
            go_simp
            all_goals (try omega)
          clear hK K
          simp only [Act.put, List.setIfInBounds_toArray, List.set_cons_succ, List.set_cons_zero]
          refine wpQuiet_step (fun K hK => ?_)
          rw [if_pos (by rfl)]
          refine ⟨.int .i64 x, fun W hW => quiet_ok ?_, hK _ ?_⟩
          · obtain ⟨c0, c1, c2⟩ := HCC.out W hW
            go_simp
            all_goals (try omega)
          clear hK K
          simp only [Act.put, List.setIfInBounds_toArray, List.set_cons_succ, List.set_cons_zero]
          refine wpQuiet_step (fun K hK => ?_)
          rw [if_pos (by rfl)]
          refine ⟨.pointer (some ⟨g4, 1, none⟩), fun W hW => quiet_ok ?_, hK _ ?_⟩
          · obtain ⟨c0, c1, c2⟩ := HCC.out W hW
            go_simp
            all_goals (try omega)
          clear hK K
          simp only [Act.put, List.setIfInBounds_toArray, List.set_cons_succ, List.set_cons_zero]
          refine wpQuiet_step (fun K hK => ?_)
          rw [if_pos (by rfl)]
          refine ⟨.slice (some ⟨tn, 0, none⟩) (k + 1) cn, fun W hW => quiet_ok ?_, hK _ ?_⟩
          · obtain ⟨c0, c1, c2⟩ := HCC.out W hW
            go_simp
            all_goals (try omega)
          clear hK K
          simp only [Act.put, List.setIfInBounds_toArray, List.set_cons_succ, List.set_cons_zero]
          refine wpQuiet_step (fun K hK => ?_)
          rw [if_pos (by rfl)]
          refine ⟨.int .i64 (bk : Int), fun W hW => quiet_ok ?_, hK _ ?_⟩
          · obtain ⟨c0, c1, c2⟩ := HCC.out W hW
            go_simp
            all_goals (try omega)
          clear hK K
          simp only [Act.put, List.setIfInBounds_toArray, List.set_cons_succ, List.set_cons_zero]
          refine wpQuiet_step (fun K hK => ?_)
          rw [if_pos (by rfl)]
          refine ⟨.pointer (some ⟨tn, bk, none⟩), fun W hW => quiet_ok ?_, hK _ ?_⟩
          · obtain ⟨c0, c1, c2⟩ := HCC.out W hW
            go_simp
            all_goals (try omega)
          clear hK K
          simp only [Act.put, List.setIfInBounds_toArray, List.set_cons_succ, List.set_cons_zero]
          refine wpQuiet_step (fun K hK => ?_)
          rw [if_pos (by rfl)]
          refine ⟨.int .i64 y, fun W hW => quiet_ok ?_, hK _ ?_⟩
          · obtain ⟨c0, c1, c2⟩ := HCC.out W hW
            go_simp
            all_goals (try omega)
          clear hK K
          simp only [Act.put, List.setIfInBounds_toArray, List.set_cons_succ, List.set_cons_zero]
          refine wpQuiet_step (fun K hK => ?_)
          rw [if_pos (by rfl)]
          refine ⟨.bool false, fun W hW => quiet_ok ?_, hK _ ?_⟩
          · obtain ⟨c0, c1, c2⟩ := HCC.out W hW
            go_simp
            all_goals (try omega)
          clear hK K
          simp only [Act.put, List.setIfInBounds_toArray, List.set_cons_succ, List.set_cons_zero]
          refine wpQuiet_nil ?_
          intro W hW
          have HBf : Hid (W.heap[w.heap.size]? = some (.cells #[.slice (some ⟨ba, oa, none⟩) n ca, .slice (some ⟨bu, ou, none⟩) n cu] 33)) := (hW.block _ (Array.getElem?_eq_some_iff.1 HB9.out).1).trans HB9.out
          have H2f : Hid (W.heap[w.heap.size + 1]? = some (.cells #[.slice none 0 0, .slice none 0 0] 33)) := (hW.block _ (Array.getElem?_eq_some_iff.1 H29.out).1).trans H29.out
          have HXf : Hid (W.heap[g4]? = some (.cells #[.slice (some ⟨t, 0, none⟩) n cp, .slice (some ⟨tn, 0, none⟩) (k + 1) cn] 33)) := (hW.block _ (Array.getElem?_eq_some_iff.1 HX9.out).1).trans HX9.out
          have HTf : Hid (ZSRow W t A) := HT9.out.kept hW
          have HOf : Hid (W.ownsRow (g4 + 1) 3 1 (.slice (some ⟨tn, 0, none⟩) (k + 1) cn) (k + 1) ((S.take (k + 1)).map (Value.int .i64))) := own_belT HO9.out hW
          have hbf : Below w.heap.size w W := hb9.trans (hW.mono hb9.size)
          clear HCC HB9 H29 HX9 HT9 HO9 hb9
          go_wp2_with fail
          go_roundw
          case rel => exact ⟨k + 1, _, by omega, by go_num, by rw [HNX.out], HBf, H2f, HXf, HOf, HTf, hbf⟩
          case measure => simp [intOf]; omega
    · have hkn : n = k := by omega
      subst hkn
      obtain ⟨tn, cn, hvn, hcn1, hcn2, htn, hqn⟩ := zs_of_ownT (P := S) (base := g4 + 1) (v := .slice xv n cv) (by rw [HSN.out]; omega) (by have h := HO.out; rw [List.take_of_length_le (by rw [HSN.out]; exact Nat.le_refl _)] at h; rw [HSN.out]; exact h)
      rw [HSN.out] at hvn hcn1
      rw [hvn] at HX
      have hbl := bestN_lt S n (by omega)
      have HQ : Hid (ZSRow wr tn S) := hqn
      have HNB : Hid (nxtK A U = bestN S n) := by show _ = _; rw [HNK.out, HNA.out]
      have HNM : Hid (nxtL A U = S.set (bestN S n) (S.getD (bestN S n) 0 - A.sum)) := by show _ = _; rw [HNL.out, HNA.out]
      have hbd := HAB.out (bestN S n) (by rw [HNU.out]; exact hbl)
      have HCN : Hid (n ≤ cn ∧ cn ≤ 9223372036854775807) := ⟨hcn1, hcn2⟩
      have hcell : wr.drew.cell? ⟨tn, bestN S n, none⟩ = some (.int .i64 (S.getD (bestN S n) 0)) ∧ wr.drew.frozen? ⟨tn, bestN S n, none⟩ = false := by
        have h := hqn.2 (bestN S n) (by rw [HSN.out]; exact hbl)
        rw [← getD_get] at h
        exact h
      have hset := zs_setT (w := wr.drew) (g := tn) (L := S) hqn (bestN S n) (by rw [HSN.out]; exact hbl) (S.getD (bestN S n) 0 - A.sum)
      obtain ⟨bk, hbke⟩ : ∃ bk, bk = bestN S n := ⟨_, rfl⟩
      rw [← hbke] at HNB HNM hbl hbd hcell hset ⊢
      rw [← HNM.out] at hset
      have HSET : Hid (ZSRow (wr.drew.setCell ⟨tn, bk, none⟩ (.int .i64 (S.getD bk 0 - A.sum))) tn (nxtL A U)) := hset
      obtain ⟨y, hy⟩ : ∃ y, y = S.getD bk 0 := ⟨_, rfl⟩
      obtain ⟨sm, hsm⟩ : ∃ sm, sm = A.sum := ⟨_, rfl⟩
      rw [← hy] at hbd hcell HSET
      rw [← hsm] at HSET hsb HTT
      have hbki : (bk : Int) < (n : Int) := by omega
      have hwrp : IntKind.i64.wrap (y - sm) = y - sm := i64_wrap (by omega) (by omega)
      clear hbke hy hsm HNM hset hqn hvn hlt HAB HSG HUB HWB HNK HNL HCU HO
      go_wp2_with fail
      refine wp_region_noPanic ?_
      have hSX : Below w.heap.size w wr.drew ∧ wr.drew.heap[w.heap.size]? = some (.cells #[.slice (some ⟨ba, oa, none⟩) n ca, .slice (some ⟨bu, ou, none⟩) n cu] 33) ∧ wr.drew.heap[g4]? = some (.cells #[.slice (some ⟨t, 0, none⟩) n cp, .slice (some ⟨tn, 0, none⟩) n cn] 33) := ⟨hb.drew, HB1.out, HX.out⟩
      have h2X : wr.drew.heap[w.heap.size + 1]? = some (.cells #[.slice none 0 0, .slice none 0 0] 33) := HB2.out
      have hTX : ZSRow wr.drew t A := HT.out
      have htX : tn < wr.drew.heap.size := HQ.out.1
      obtain ⟨hcX, hfX⟩ := hcell
      refine wp_region_held_drew (S := fun W : World => Below w.heap.size w W ∧ W.heap[w.heap.size]? = some (.cells #[.slice (some ⟨ba, oa, none⟩) n ca, .slice (some ⟨bu, ou, none⟩) n cu] 33) ∧ W.heap[g4]? = some (.cells #[.slice (some ⟨t, 0, none⟩) n cp, .slice (some ⟨tn, 0, none⟩) n cn] 33)) (by kernel_rfl) hSX (fun hHeld => ?_)
      have hgrX : g4 < wr.drew.heap.size := hgr
      generalize wr.drew = wX at *
      refine wpAnyH_take (i := 0) (v := .pointer (some ⟨g4, 1, none⟩)) rfl (by kernel_rfl) (by kernel_rfl) (by kernel_rfl) (fun _ _ _ h => h) (Or.inl ⟨by rfl, ?_⟩) (by assumption) ?_
      · intro W hSW
        go_simp
      simp only [Act.put, List.getElem_toArray, List.getElem_cons_zero, List.setIfInBounds_toArray, List.set_cons_succ, List.set_cons_zero]
      refine wpAnyH_take (i := 1) (v := .slice (some ⟨tn, 0, none⟩) n cn) rfl (by kernel_rfl) (by kernel_rfl) (by kernel_rfl) (fun _ _ _ h => h) (Or.inl ⟨by rfl, ?_⟩) (by assumption) ?_
      · intro W hSW
        obtain ⟨⟨s0, s1⟩, _⟩ := trn_cells hSW.2.2
        go_simp
      simp only [Act.put, List.getElem_toArray, List.getElem_cons_succ, List.getElem_cons_zero, List.setIfInBounds_toArray, List.set_cons_succ, List.set_cons_zero]
      refine wpAnyH_take (i := 2) (v := .int .i64 (bk : Int)) rfl (by kernel_rfl) (by kernel_rfl) (by kernel_rfl) (fun _ _ _ h => h) (Or.inl ⟨by rfl, ?_⟩) (by assumption) ?_
      · intro W hSW
        go_simp
      simp only [Act.put, List.getElem_toArray, List.getElem_cons_succ, List.getElem_cons_zero, List.setIfInBounds_toArray, List.set_cons_succ, List.set_cons_zero]
      refine wpAnyH_take (i := 3) (v := .pointer (some ⟨tn, bk, none⟩)) rfl (by kernel_rfl) (by kernel_rfl) (by kernel_rfl) (fun _ _ _ h => h) (Or.inl ⟨by rfl, ?_⟩) (by assumption) ?_
      · intro W hSW
        go_simp
      simp only [Act.put, List.getElem_toArray, List.getElem_cons_succ, List.getElem_cons_zero, List.setIfInBounds_toArray, List.set_cons_succ, List.set_cons_zero]
      refine wpAnyH_take (i := 5) (v := .pointer (some ⟨w.heap.size, 0, none⟩)) rfl (by kernel_rfl) (by kernel_rfl) (by kernel_rfl) (fun _ _ _ h => h) (Or.inl ⟨by rfl, ?_⟩) (by assumption) ?_
      · intro W hSW
        go_simp
      simp only [Act.put, List.getElem_toArray, List.getElem_cons_succ, List.getElem_cons_zero, List.setIfInBounds_toArray, List.set_cons_succ, List.set_cons_zero]
      refine wpAnyH_take (i := 6) (v := .slice (some ⟨ba, oa, none⟩) n ca) rfl (by kernel_rfl) (by kernel_rfl) (by kernel_rfl) (fun _ _ _ h => h) (Or.inl ⟨by rfl, ?_⟩) (by assumption) ?_
      · intro W hSW
        obtain ⟨⟨s0, s1⟩, _⟩ := trn_cells hSW.2.1
        go_simp
      simp only [Act.put, List.getElem_toArray, List.getElem_cons_succ, List.getElem_cons_zero, List.setIfInBounds_toArray, List.set_cons_succ, List.set_cons_zero]
      refine wpAnyH_ready (rs := [4, 7]) (by kernel_rfl) (by simp) ?_
      refine AllReadyH.cons rfl (fun K hK => ?_) (AllReadyH.cons rfl (fun K hK => ?_) AllReadyH.nil)
      · skip
        rw [if_pos (by rfl)]
        go_simp
        refine hK.out _ _ hSX (fun _ => ?_)
        clear hK K
        refine wpAnyH_ready (rs := [7]) (by kernel_rfl) (by simp) ?_
        refine AllReadyH.cons rfl (fun K hK => ?_) AllReadyH.nil
        rw [if_pos (by rfl)]
        go_simp
        refine (HTT.out _ hSX.1).mono ?_
        rintro e wZ ⟨rfl, hwz⟩
        rw [hwz]
        clear hwz wZ
        go_simp
        refine hK.out _ _ hSX (fun _ => ?_)
        clear hK K
        refine wpAnyH_take (i := 8) (v := .int .i64 (y - sm)) rfl (by kernel_rfl) (by kernel_rfl) (by kernel_rfl) (fun _ _ _ h => h) (Or.inl ⟨by rfl, ?_⟩) (by assumption) ?_
        · intro W hSW
          go_simp
        simp only [Act.put, List.getElem_toArray, List.getElem_cons_succ, List.getElem_cons_zero, List.setIfInBounds_toArray, List.set_cons_succ, List.set_cons_zero]
        refine wpAnyH_take (i := 9) (v := .pointer (some ⟨tn, bk, none⟩)) rfl (by kernel_rfl) (by kernel_rfl) (by kernel_rfl) (fun _ _ _ h => h) (Or.inl ⟨by rfl, ?_⟩) (by assumption) ?_
        · intro W hSW
          go_simp
        simp only [Act.put, List.getElem_toArray, List.getElem_cons_succ, List.getElem_cons_zero, List.setIfInBounds_toArray, List.set_cons_succ, List.set_cons_zero]
        refine wpAnyH_ready (rs := [10]) (by kernel_rfl) (by simp) ?_
        refine AllReadyH.cons rfl (fun K hK => ?_) AllReadyH.nil
        rw [if_pos (by rfl)]
        have hk9 := kpt_set wX tn bk (.int .i64 (y - sm)) (S := fun j => j = tn) rfl
        have hS9 : Below w.heap.size w (wX.setCell ⟨tn, bk, none⟩ (.int .i64 (y - sm))) ∧ (wX.setCell ⟨tn, bk, none⟩ (.int .i64 (y - sm))).heap[w.heap.size]? = some (.cells #[.slice (some ⟨ba, oa, none⟩) n ca, .slice (some ⟨bu, ou, none⟩) n cu] 33) ∧ (wX.setCell ⟨tn, bk, none⟩ (.int .i64 (y - sm))).heap[g4]? = some (.cells #[.slice (some ⟨t, 0, none⟩) n cp, .slice (some ⟨tn, 0, none⟩) n cn] 33) := ⟨hSX.1.trans (hk9.below hSX.1.size (fun k0 hk0 h => by omega)), (hk9.block _ (by omega) (by omega)).trans hSX.2.1, (hk9.block _ (by omega) (by omega)).trans hSX.2.2⟩
        have h29 := (hk9.block (w.heap.size + 1) (by omega) (by omega)).trans h2X
        have hT9 := hTX.apart hk9 (by omega)
        have hQ9 := HSET.out
        go_simp
        refine hK.out _ _ hS9 (fun _ => ?_)
        clear hK K
        refine wpAnyH_done (by kernel_rfl) ?_ _
        refine NoPanic.normal ?_
        obtain ⟨w9, hw9⟩ : ∃ W, W = wX.setCell ⟨tn, bk, none⟩ (.int .i64 (y - sm)) := ⟨_, rfl⟩
        rw [← hw9] at hS9 h29 hT9 hQ9
        rw [← hw9]
        have H29 : Hid (w9.heap[w.heap.size + 1]? = some (.cells #[.slice none 0 0, .slice none 0 0] 33)) := h29
        have HQ9 : Hid (ZSRow w9 t A ∧ ZSRow w9 tn (nxtL A U)) := ⟨hT9, hQ9⟩
        have hb9 : Below w.heap.size w w9 := hS9.1
        obtain ⟨⟨c0, c1⟩, _⟩ := trn_cells hS9.2.2
        obtain ⟨⟨d0, d1⟩, ⟨z0, z1⟩⟩ := trn_cells h29
        clear hS9 h29 hT9 hQ9 hw9 hk9 hcX hfX HSET
        go_wp2_with fail
        (try simp only [Exit.inBlock, Exit.then])
        refine bodyPost_ret (results_trn rfl _ _ (w.heap.size + 1) 33 #[.slice (some ⟨t, 0, none⟩) n cp, .slice (some ⟨tn, 0, none⟩) n cn] (0, 0) _ (.int .i64 (bk : Int)) rfl rfl ?_ Try.underlying33 rfl (by kernel_rfl)) rfl ⟨⟨t, cp, tn, cn, ?_, HCP.out.1, HCP.out.2, HCN.out.1, HCN.out.2, by omega, by omega, by omega, ?_, ?_⟩, ?_⟩
        · exact put2v_heap H29.out
        · rw [HNB.out]
        · exact put2v_far HQ9.out.1 (by omega)
        · exact put2v_far HQ9.out.2 (by omega)
        · exact put2v_below hb9 (by omega) _ _
      · skip
        rw [if_pos (by rfl)]
        go_simp
        refine (HTT.out _ hSX.1).mono ?_
        rintro e wZ ⟨rfl, hwz⟩
        rw [hwz]
        clear hwz wZ
        go_simp
        refine hK.out _ _ hSX (fun _ => ?_)
        clear hK K
        refine wpAnyH_ready (rs := [4]) (by kernel_rfl) (by simp) ?_
        refine AllReadyH.cons rfl (fun K hK => ?_) AllReadyH.nil
        rw [if_pos (by rfl)]
        go_simp
        refine hK.out _ _ hSX (fun _ => ?_)
        clear hK K
        refine wpAnyH_take (i := 8) (v := .int .i64 (y - sm)) rfl (by kernel_rfl) (by kernel_rfl) (by kernel_rfl) (fun _ _ _ h => h) (Or.inl ⟨by rfl, ?_⟩) (by assumption) ?_
        · intro W hSW
          go_simp
        simp only [Act.put, List.getElem_toArray, List.getElem_cons_succ, List.getElem_cons_zero, List.setIfInBounds_toArray, List.set_cons_succ, List.set_cons_zero]
        refine wpAnyH_take (i := 9) (v := .pointer (some ⟨tn, bk, none⟩)) rfl (by kernel_rfl) (by kernel_rfl) (by kernel_rfl) (fun _ _ _ h => h) (Or.inl ⟨by rfl, ?_⟩) (by assumption) ?_
        · intro W hSW
          go_simp
        simp only [Act.put, List.getElem_toArray, List.getElem_cons_succ, List.getElem_cons_zero, List.setIfInBounds_toArray, List.set_cons_succ, List.set_cons_zero]
        refine wpAnyH_ready (rs := [10]) (by kernel_rfl) (by simp) ?_
        refine AllReadyH.cons rfl (fun K hK => ?_) AllReadyH.nil
        rw [if_pos (by rfl)]
        have hk9 := kpt_set wX tn bk (.int .i64 (y - sm)) (S := fun j => j = tn) rfl
        have hS9 : Below w.heap.size w (wX.setCell ⟨tn, bk, none⟩ (.int .i64 (y - sm))) ∧ (wX.setCell ⟨tn, bk, none⟩ (.int .i64 (y - sm))).heap[w.heap.size]? = some (.cells #[.slice (some ⟨ba, oa, none⟩) n ca, .slice (some ⟨bu, ou, none⟩) n cu] 33) ∧ (wX.setCell ⟨tn, bk, none⟩ (.int .i64 (y - sm))).heap[g4]? = some (.cells #[.slice (some ⟨t, 0, none⟩) n cp, .slice (some ⟨tn, 0, none⟩) n cn] 33) := ⟨hSX.1.trans (hk9.below hSX.1.size (fun k0 hk0 h => by omega)), (hk9.block _ (by omega) (by omega)).trans hSX.2.1, (hk9.block _ (by omega) (by omega)).trans hSX.2.2⟩
        have h29 := (hk9.block (w.heap.size + 1) (by omega) (by omega)).trans h2X
        have hT9 := hTX.apart hk9 (by omega)
        have hQ9 := HSET.out
        go_simp
        refine hK.out _ _ hS9 (fun _ => ?_)
        clear hK K
        refine wpAnyH_done (by kernel_rfl) ?_ _
        refine NoPanic.normal ?_
        obtain ⟨w9, hw9⟩ : ∃ W, W = wX.setCell ⟨tn, bk, none⟩ (.int .i64 (y - sm)) := ⟨_, rfl⟩
        rw [← hw9] at hS9 h29 hT9 hQ9
        rw [← hw9]
        have H29 : Hid (w9.heap[w.heap.size + 1]? = some (.cells #[.slice none 0 0, .slice none 0 0] 33)) := h29
        have HQ9 : Hid (ZSRow w9 t A ∧ ZSRow w9 tn (nxtL A U)) := ⟨hT9, hQ9⟩
        have hb9 : Below w.heap.size w w9 := hS9.1
        obtain ⟨⟨c0, c1⟩, _⟩ := trn_cells hS9.2.2
        obtain ⟨⟨d0, d1⟩, ⟨z0, z1⟩⟩ := trn_cells h29
        clear hS9 h29 hT9 hQ9 hw9 hk9 hcX hfX HSET
        go_wp2_with fail
        (try simp only [Exit.inBlock, Exit.then])
        refine bodyPost_ret (results_trn rfl _ _ (w.heap.size + 1) 33 #[.slice (some ⟨t, 0, none⟩) n cp, .slice (some ⟨tn, 0, none⟩) n cn] (0, 0) _ (.int .i64 (bk : Int)) rfl rfl ?_ Try.underlying33 rfl (by kernel_rfl)) rfl ⟨⟨t, cp, tn, cn, ?_, HCP.out.1, HCP.out.2, HCN.out.1, HCN.out.2, by omega, by omega, by omega, ?_, ?_⟩, ?_⟩
        · exact put2v_heap H29.out
        · rw [HNB.out]
        · exact put2v_far HQ9.out.1 (by omega)
        · exact put2v_far HQ9.out.2 (by omega)
        · exact put2v_below hb9 (by omega) _ _
end Go.Proofs.Ytafbnhelcoofmaa
