import Derived.Test.YtfbnigicigajeaaZ10
import Derived.Test.YtfbnigicigajeaaZ15
import Derived.Test.YtfbnigicigajeaaZ12
namespace Go.Proofs.Ytfbnigicigajeaa
open Go.RowKit

theorem cell_new_oneT (w : World) (x : Value) (t : TypeId) : ∀ j u, [x][j]? = some u → (w.alloc (.cells #[x] t)).cell? ((⟨w.heap.size, 0, none⟩ : Addr).add j) = some u := by
  intro j u hj
  match j, hj with
  | 0, hj => simp at hj; subst hj; simp [Addr.add]
theorem one_intT (n : Int) : ∀ u ∈ [Value.int .i64 n], u.oneCell' = true := by
  intro u hu; simp at hu; subst hu; rfl
theorem own_sliceT {w : World} {base : Nat} {v : Value} {n : Nat} {xs : List Value} (h : w.ownsRow base 3 1 v n xs) : ∃ x c, v = .slice x n c := by
  rcases h.2 with ⟨rfl, hn⟩ | ⟨g, cap, cur, rfl, _⟩
  · exact ⟨none, 0, by rw [hn]⟩
  · exact ⟨_, cap, rfl⟩
/-- One more number. -/
theorem take_ints (S : List Int) (k : Nat) (hk : k < S.length) : (S.take k).map (Value.int .i64) ++ [Value.int .i64 S[k]] = (S.take (k + 1)).map (Value.int .i64) := by
  rw [List.take_succ_eq_append_getElem hk, List.map_append]; rfl
theorem own_keptT {a b : World} {S : Nat → Prop} {base : Nat} {v : Value} {n : Nat} {xs : List Value} (h : a.ownsRow base 3 1 v n xs) (hk : Kpt a b S) (hn : ∀ g, v.ownBlock = some g → ¬ S g) : b.ownsRow base 3 1 v n xs := own_kpt h hk hn
theorem own_belT {a b : World} {base : Nat} {v : Value} {n : Nat} {xs : List Value} (h : a.ownsRow base 3 1 v n xs) (hb : Below a.heap.size a b) : b.ownsRow base 3 1 v n xs := own_kpt h (below_kpt0 hb (fun _ => False)) (fun _ _ h => h)
theorem bestN_next (S : List Int) (k : Nat) : bestN S (k + 1) = if S.getD k 0 > S.getD (bestN S k) 0 then k else bestN S k := rfl
theorem take_get {S : List Int} {m k : Nat} (h : k < (S.take m).length) : (S.take m)[k] = S.getD k 0 := by
  rw [List.getElem_take, getD_get]
theorem zs_setT {w : World} {g : Nat} {L : List Int} (h : ZSRow w g L) (k : Nat) (hk : k < L.length) (c : Int) : ZSRow (w.setCell ⟨g, k, none⟩ (.int .i64 c)) g (L.set k c) := h.set k hk c
/-- What the next turn tells. -/
def NxA (w' : World) (base : Nat) (A U : List Int) (e : Ending) : Prop := ∃ g1 c1 g2 c2, e = .returned (.tuple #[TrnV (.slice (some ⟨g1, 0, none⟩) A.length c1) (.slice (some ⟨g2, 0, none⟩) A.length c2), .int .i64 (nxtK A U : Int)]) ∧ A.length ≤ c1 ∧ c1 ≤ 9223372036854775807 ∧ A.length ≤ c2 ∧ c2 ≤ 9223372036854775807 ∧ base ≤ g1 ∧ base ≤ g2 ∧ g1 ≠ g2 ∧ ZSRow w' g1 A ∧ ZSRow w' g2 (nxtL A U)

set_option maxRecDepth 20000 in
set_option maxHeartbeats 8000000 in
theorem l12Next_any (va vu : Value) (A U : List Int) (w : World) (ha : ZRow .i64 w va A) (hu : ZRow .i64 w vu U) (hg : goodT A U = true) :
    Calls Try.prog 20 #[TrnV va vu] w fun e w' => NxA w' w.heap.size A U e ∧ Below w.heap.size w w' := by
  obtain ⟨hgw, hlen, hsmU, _⟩ := goodT_parts hg
  obtain ⟨⟨hp1, hp12⟩, hwt, _⟩ := goodW_parts hgw
  have hsb := sum_bound hg
  have HAB : Hid (∀ k, k < U.length → -10000 ≤ (addZ U A).getD k 0 ∧ (addZ U A).getD k 0 ≤ 10050) := fun k hk => add_bound hg hk
  have HTT : Hid (∀ W, Below w.heap.size w W → Calls Try.prog 31 #[va] W fun e w' => e = .returned (.int .i64 A.sum) ∧ w' = W) := fun W hW => l12Total_any _ A W (ha.kept hW) (by omega) (all_sm hwt)
  obtain ⟨xa, ca, rfl, hca, hcam, HRA⟩ := zrow_value ha
  obtain ⟨xu, cu, rfl, hcu, hcum, HRU⟩ := zrow_value hu
  obtain ⟨ba, oa, hxa, hba, hcelA⟩ := HRA.out (by omega)
  obtain ⟨bu, ou, hxu, hbu, hcelU⟩ := HRU.out (by omega)
  subst hxa hxu
  have HCA : Hid (∀ W, Below w.heap.size w W → ∀ k, (hk : k < A.length) → W.cell? ⟨ba, oa + k, none⟩ = some (.int .i64 (A[k]))) := fun W hW k hk => by rw [hW.cell (p := ⟨ba, oa + k, none⟩) hba]; exact hcelA k hk
  have HCU : Hid (∀ W, Below w.heap.size w W → ∀ k, (hk : k < U.length) → W.cell? ⟨bu, ou + k, none⟩ = some (.int .i64 (U[k]))) := fun W hW k hk => by rw [hW.cell (p := ⟨bu, ou + k, none⟩) hbu]; exact hcelU k hk
  have HEL : Hid (U.length = A.length) := hlen
  have HSL : Hid ((addZ U A).length = A.length) := by show _ = _; rw [addZ_length hlen, hlen]
  have HSG : Hid (∀ k, (hk : k < U.length) → (hka : k < A.length) → (addZ U A).getD k 0 = U[k] + A[k]) := fun k hk hka => by rw [getD_get (by rw [addZ_length hlen]; exact hk), addZ_get hlen hk]
  have HUB : Hid (∀ k, (hk : k < U.length) → -10000 ≤ U[k] ∧ U[k] ≤ 10000) := fun k hk => sm_in (List.all_eq_true.1 hsmU _ (List.getElem_mem hk))
  have HWB : Hid (∀ k, (hk : k < A.length) → 0 ≤ A[k] ∧ A[k] ≤ 50) := fun k hk => wt_in (List.all_eq_true.1 hwt _ (List.getElem_mem hk))
  have HNK : Hid (nxtK A U = bestN (addZ U A) A.length) := by show _ = _; unfold nxtK; rw [hlen]
  have HNL : Hid (nxtL A U = (addZ U A).set (bestN (addZ U A) A.length) ((addZ U A).getD (bestN (addZ U A) A.length) 0 - A.sum)) := by show _ = _; unfold nxtL nxtK; rw [hlen]
  obtain ⟨S, hSdef⟩ : ∃ S, S = addZ U A := ⟨_, rfl⟩
  rw [← hSdef] at HAB HSL HSG HNK HNL
  obtain ⟨n, hn⟩ : ∃ n, n = A.length := ⟨_, rfl⟩
  have HNA : Hid (A.length = n) := hn.symm
  have HNU : Hid (U.length = n) := by show _ = _; omega
  have HSN : Hid (S.length = n) := by show _ = _; rw [HSL.out, hn]
  obtain ⟨i0, hi, hz0, hz1, hz2⟩ := info_parts info_intY
  unfold NxA TrnV
  rw [← hn] at HTT
  rw [HNU.out, HNA.out]
  have hcan : n ≤ ca := by omega
  have HPN : Hid (0 < n ∧ n ≤ 12) := ⟨by omega, by omega⟩

  clear hg hgw hsmU hwt HRA HRU hcelA hcelU ha hu hSdef hlen hn hca hcu hp1 hp12
  have hpn : 0 < n ∧ n ≤ 12 := HPN.out
  obtain ⟨W0, hW0⟩ : ∃ W0, W0 = (w.alloc (.cells #[.slice (some ⟨ba, oa, none⟩) n ca, .slice (some ⟨bu, ou, none⟩) n cu] 30)).alloc (.cells #[.slice none 0 0, .slice none 0 0] 30) := ⟨_, rfl⟩
  have hbox1 : W0.heap[w.heap.size]? = some (.cells #[.slice (some ⟨ba, oa, none⟩) n ca, .slice (some ⟨bu, ou, none⟩) n cu] 30) := by rw [hW0]; exact (trn_below2 (Below.refl _ _)).1
  have hbox2 : W0.heap[w.heap.size + 1]? = some (.cells #[.slice none 0 0, .slice none 0 0] 30) := by rw [hW0]; exact (trn_below2 (Below.refl _ _)).2.1
  have hbW0 : Below w.heap.size w W0 := by rw [hW0]; exact (trn_below2 (Below.refl _ _)).2.2
  have hsW0 : w.heap.size + 1 < W0.heap.size := by rw [hW0]; simp
  have HB1 : Hid (W0.heap[w.heap.size]? = some (.cells #[.slice (some ⟨ba, oa, none⟩) n ca, .slice (some ⟨bu, ou, none⟩) n cu] 30)) := hbox1
  have HB2 : Hid (W0.heap[w.heap.size + 1]? = some (.cells #[.slice none 0 0, .slice none 0 0] 30)) := hbox2
  have HW0 : Hid ((w.alloc (.cells #[.slice (some ⟨ba, oa, none⟩) n ca, .slice (some ⟨bu, ou, none⟩) n cu] 30)).alloc (.cells #[.slice none 0 0, .slice none 0 0] 30) = W0) := hW0.symm
  have hbE : Below W0.heap.size W0 (W0.alloc (.cells #[] 3)) := (Below.refl _ _).alloc (Nat.le_refl _) _
  obtain ⟨⟨p0, p1⟩, _⟩ := trn_cells ((hbE.block _ (by omega)).trans hbox1)
  have hnews := src_intsT (W := W0.alloc (.cells #[] 3)) (b := ba) (o := oa) (P := A) (HCA.out _ (hbW0.trans (hbE.mono hbW0.size)))
  have hownE := own_emptyT W0 3 1
  clear hW0 hbox1 hbox2
  go_enter Try.func20, Try.ntmps20
  go_wp2_with (first | rw [HW0.out] | (at_builtin; refine wpList_append_own _ rfl (.tmp 8) (.tmp 10) 23 rfl W0.heap.size 3 i0 (.int .i64 0) 1 8 Try.underlying23 hi hz0 hz1 hz2 rfl (by decide) _ _ _ rfl hownE ⟨ba, oa, none⟩ n ca (A.map (Value.int .i64)) rfl (by rw [List.length_map, HNA.out]; omega) hnews (ints_oneZT A) ?d3 ?d4 ?d5 ?_))
  case d3 => unfold maxLen; omega
  case d4 => omega
  case d5 => simp
  intro v2 w2 hown2 hgrow2 _
  obtain ⟨t, cp, hv2, hcp1, hcp2, htb, hqt⟩ := zs_of_ownT (P := A) (v := v2) (base := W0.heap.size) (w := w2) (by rw [HNA.out]; omega) (by rw [HNA.out]; simpa using hown2)
  rw [HNA.out] at hv2 hcp1
  subst hv2
  have hb2 : Below W0.heap.size W0 w2 := hbE.grown hgrow2 hbE.size (fun k e => by cases e; exact Nat.le_refl _)
  have hbw2 := hbW0.trans (hb2.mono hbW0.size)
  obtain ⟨g4, hg4⟩ : ∃ g, g = w2.heap.size := ⟨_, rfl⟩
  obtain ⟨W4, hW4⟩ : ∃ W4, W4 = w2.alloc (.cells #[.slice (some ⟨t, 0, none⟩) n cp, .slice none 0 0] 30) := ⟨_, rfl⟩
  have hb24 : Below w2.heap.size w2 W4 := by rw [hW4]; exact (Below.refl _ _).alloc (Nat.le_refl _) _
  have HX4 : Hid (W4.heap[g4]? = some (.cells #[.slice (some ⟨t, 0, none⟩) n cp, .slice none 0 0] 30)) := by rw [hW4, hg4]; exact trn_new _ _
  have HB14 : Hid (W4.heap[w.heap.size]? = some (.cells #[.slice (some ⟨ba, oa, none⟩) n ca, .slice (some ⟨bu, ou, none⟩) n cu] 30)) := (hb24.block _ (by have := hb2.size; omega)).trans ((hb2.block _ (by omega)).trans HB1.out)
  have HB24 : Hid (W4.heap[w.heap.size + 1]? = some (.cells #[.slice none 0 0, .slice none 0 0] 30)) := (hb24.block _ (by have := hb2.size; omega)).trans ((hb2.block _ (by omega)).trans HB2.out)
  have HT4 : Hid (ZSRow W4 t A) := hqt.kept hb24
  have hbw4 := hbw2.trans (hb24.mono hbw2.size)
  have HOW4 : Hid (W4.ownsRow (g4 + 1) 3 1 (.slice none 0 0) 0 ((S.take 0).map (Value.int .i64))) := by
    rw [List.take_zero, List.map_nil]; exact World.ownsRow_nil W4 (g4 + 1) 3 1
  have htg : t < g4 := by rw [hg4]; exact hqt.1
  have hgw : w.heap.size + 1 < t := by omega
  have hs24 : g4 < W4.heap.size := by rw [hW4, hg4]; simp
  have HW4 : Hid (w2.alloc (.cells #[.slice (some ⟨t, 0, none⟩) n cp, .slice none 0 0] 30) = W4) := hW4.symm
  have HG4 : Hid (w2.heap.size = g4) := hg4.symm
  have HCP : Hid (n ≤ cp ∧ cp ≤ 9223372036854775807) := ⟨hcp1, hcp2⟩
  clear hown2 hgrow2 hqt hb24 hW4 hg4 hbw2 hb2 hnews hownE hbE HB1 HB2 HW0 hcp1 hcp2
  have q0 := (trn_cells HB14.out).1.2
  go_wp2_with (rw [HW4.out])
  (try rw [HW4.out])
  (try rw [HG4.out])
  clear q0 HW4 HG4 p0 p1
  go_loopw [5, 16] (fun bv i wr => ∃ (k : Nat) (v : Value), k ≤ n ∧ i = .int .i64 (k : Int) ∧ bv = .int .i64 (bestN S k : Int) ∧ Hid (wr.heap[w.heap.size]? = some (.cells #[.slice (some ⟨ba, oa, none⟩) n ca, .slice (some ⟨bu, ou, none⟩) n cu] 30)) ∧ Hid (wr.heap[w.heap.size + 1]? = some (.cells #[.slice none 0 0, .slice none 0 0] 30)) ∧ Hid (wr.heap[g4]? = some (.cells #[.slice (some ⟨t, 0, none⟩) n cp, v] 30)) ∧ Hid (wr.ownsRow (g4 + 1) 3 1 v k ((S.take k).map (Value.int .i64))) ∧ Hid (ZSRow wr t A) ∧ Below w.heap.size w wr) (fun _ i _ => n - (intOf i).toNat)
  case atStart => exact ⟨0, .slice none 0 0, Nat.zero_le _, rfl, rfl, HB14, HB24, HX4, HOW4, HT4, hbw4⟩
  case round =>
    obtain ⟨k, v, hk, rfl, rfl, HB1, HB2, HX, HO, HT, hb⟩ := hrel
    clear HB14 HB24 HX4 HOW4 HT4 hbw4 hs24
    obtain ⟨xv, cv, hv⟩ := own_sliceT HO.out
    subst hv
    have hgr : g4 < wr.heap.size := (Array.getElem?_eq_some_iff.1 HX.out).1
    by_cases hlt : k < n
    · have hkA : k < A.length := by rw [HNA.out]; exact hlt
      have hkU : k < U.length := by rw [HNU.out]; exact hlt
      have u0 := HCU.out wr hb k hkU
      have HCA2 : Hid (∀ W, Below w.heap.size w W → W.cell? ⟨ba, oa + k, none⟩ = some (.int .i64 (A[k]'hkA))) := fun W hW => HCA.out W hW k hkA
      have hub := HUB.out k hkU
      have hwb := HWB.out k hkA
      have HSK := HSG.out k hkU hkA
      have HTK := take_ints S k (by rw [HSN.out]; exact hlt)
      rw [← getD_get (by rw [HSN.out]; exact hlt), HSK] at HTK
      have HSK2 : Hid (S.getD k 0 = U[k]'hkU + A[k]'hkA) := HSK
      have HTK2 : Hid ((S.take k).map (Value.int .i64) ++ [Value.int .i64 (U[k]'hkU + A[k]'hkA)] = (S.take (k + 1)).map (Value.int .i64)) := HTK
      obtain ⟨uk, huk⟩ : ∃ uk, uk = U[k]'hkU := ⟨_, rfl⟩
      obtain ⟨ak, hak⟩ : ∃ ak, ak = A[k]'hkA := ⟨_, rfl⟩
      rw [← huk] at u0 hub HSK2 HTK2
      rw [← hak] at HCA2 hwb HSK2 HTK2
      have hki : (k : Int) < (n : Int) := by omega
      have hwrp : IntKind.i64.wrap (uk + ak) = uk + ak := i64_wrap (by omega) (by omega)
      have HLT : Hid (∀ g, (Value.slice xv k cv).ownBlock = some g → g4 + 1 ≤ g ∧ g < wr.heap.size) := fun g hg => HO.out.lt g hg
      clear HSK HTK huk hak hkA hkU
      have q0 := (trn_cells HB1.out).1.2
      go_wp2_with fail
      clear q0 u0
      refine wp_region_noPanic ?_
      have hSX : Below w.heap.size w wr.drew ∧ wr.drew.heap[w.heap.size]? = some (.cells #[.slice (some ⟨ba, oa, none⟩) n ca, .slice (some ⟨bu, ou, none⟩) n cu] 30) := ⟨hb.drew, HB1.out⟩
      refine wp_region_held_drew (S := fun W : World => Below w.heap.size w W ∧ W.heap[w.heap.size]? = some (.cells #[.slice (some ⟨ba, oa, none⟩) n ca, .slice (some ⟨bu, ou, none⟩) n cu] 30)) (by kernel_rfl) hSX (fun hHeld => ?_)
      have hXX : wr.drew.heap[g4]? = some (.cells #[.slice (some ⟨t, 0, none⟩) n cp, .slice xv k cv] 30) := HX.out
      have hOX : wr.drew.ownsRow (g4 + 1) 3 1 (.slice xv k cv) k ((S.take k).map (Value.int .i64)) := HO.out
      have hTX : ZSRow wr.drew t A := HT.out
      have h2X : wr.drew.heap[w.heap.size + 1]? = some (.cells #[.slice none 0 0, .slice none 0 0] 30) := HB2.out
      have hLX : ∀ g, (Value.slice xv k cv).ownBlock = some g → g4 + 1 ≤ g ∧ g < wr.drew.heap.size := HLT.out
      have hgX : g4 < wr.drew.heap.size := hgr
      generalize wr.drew = wX at *
      have hSwX := hSX
      have hXwX := hXX
      have hOwX := hOX
      have hTwX := hTX
      have h2wX := h2X
      have hLwX := hLX
      have hgwX := hgX
      clear hSX hXX hOX hTX h2X hLX hgX
      refine wpAnyH_take (i := 0) (v := .pointer (some ⟨g4, 1, none⟩)) rfl (by kernel_rfl) (by kernel_rfl) (by kernel_rfl) (fun _ _ _ h => h) (Or.inl ⟨by rfl, ?_⟩) (by assumption) ?_
      · intro W hSW
        go_simp
      simp only [Act.put, List.getElem_toArray, List.getElem_cons_zero, List.setIfInBounds_toArray, List.set_cons_succ, List.set_cons_zero]
      refine wpAnyH_take (i := 2) (v := .int .i64 uk) rfl (by kernel_rfl) (by kernel_rfl) (by kernel_rfl) (fun _ _ _ h => h) (Or.inl ⟨by rfl, ?_⟩) (by assumption) ?_
      · intro W hSW
        go_simp
      simp only [Act.put, List.getElem_toArray, List.getElem_cons_succ, List.getElem_cons_zero, List.setIfInBounds_toArray, List.set_cons_succ, List.set_cons_zero]
      refine wpAnyH_take (i := 3) (v := .pointer (some ⟨w.heap.size, 0, none⟩)) rfl (by kernel_rfl) (by kernel_rfl) (by kernel_rfl) (fun _ _ _ h => h) (Or.inl ⟨by rfl, ?_⟩) (by assumption) ?_
      · intro W hSW
        go_simp
      simp only [Act.put, List.getElem_toArray, List.getElem_cons_succ, List.getElem_cons_zero, List.setIfInBounds_toArray, List.set_cons_succ, List.set_cons_zero]
      refine wpAnyH_take (i := 4) (v := .slice (some ⟨ba, oa, none⟩) n ca) rfl (by kernel_rfl) (by kernel_rfl) (by kernel_rfl) (fun _ _ _ h => h) (Or.inl ⟨by rfl, ?_⟩) (by assumption) ?_
      · intro W hSW
        obtain ⟨⟨s0, s1⟩, _⟩ := trn_cells hSW.2
        go_simp
      simp only [Act.put, List.getElem_toArray, List.getElem_cons_succ, List.getElem_cons_zero, List.setIfInBounds_toArray, List.set_cons_succ, List.set_cons_zero]
      refine wpAnyH_take (i := 5) (v := .int .i64 (k : Int)) rfl (by kernel_rfl) (by kernel_rfl) (by kernel_rfl) (fun _ _ _ h => h) (Or.inl ⟨by rfl, ?_⟩) (by assumption) ?_
      · intro W hSW
        go_simp
      simp only [Act.put, List.getElem_toArray, List.getElem_cons_succ, List.getElem_cons_zero, List.setIfInBounds_toArray, List.set_cons_succ, List.set_cons_zero]
      refine wpAnyH_take (i := 6) (v := .pointer (some ⟨ba, oa + k, none⟩)) rfl (by kernel_rfl) (by kernel_rfl) (by kernel_rfl) (fun _ _ _ h => h) (Or.inl ⟨by rfl, ?_⟩) (by assumption) ?_
      · intro W hSW
        go_simp
      simp only [Act.put, List.getElem_toArray, List.getElem_cons_succ, List.getElem_cons_zero, List.setIfInBounds_toArray, List.set_cons_succ, List.set_cons_zero]
      refine wpAnyH_take (i := 7) (v := .int .i64 ak) rfl (by kernel_rfl) (by kernel_rfl) (by kernel_rfl) (fun _ _ _ h => h) (Or.inl ⟨by rfl, ?_⟩) (by assumption) ?_
      · intro W hSW
        have s2 := HCA2.out W hSW.1
        go_simp
      simp only [Act.put, List.getElem_toArray, List.getElem_cons_succ, List.getElem_cons_zero, List.setIfInBounds_toArray, List.set_cons_succ, List.set_cons_zero]
      refine wpAnyH_take (i := 8) (v := .int .i64 (uk + ak)) rfl (by kernel_rfl) (by kernel_rfl) (by kernel_rfl) (fun _ _ _ h => h) (Or.inl ⟨by rfl, ?_⟩) (by assumption) ?_
      · intro W hSW
        go_simp
      simp only [Act.put, List.getElem_toArray, List.getElem_cons_succ, List.getElem_cons_zero, List.setIfInBounds_toArray, List.set_cons_succ, List.set_cons_zero]
      refine wpAnyH_ready (rs := [1, 9]) (by kernel_rfl) (by simp) ?_
      refine AllReadyH.cons rfl (fun K hK => ?_) (AllReadyH.cons rfl (fun K hK => ?_) AllReadyH.nil)
      · skip
        rw [if_pos (by rfl)]
        obtain ⟨⟨s0, s1⟩, _⟩ := trn_cells hXwX
        go_simp
        refine hK.out _ _ hSwX (fun _ => ?_)
        clear hK K s0 s1
        refine wpAnyH_ready (rs := [9]) (by kernel_rfl) (by simp) ?_
        refine AllReadyH.cons rfl (fun K hK => ?_) AllReadyH.nil
        rw [if_pos (by rfl)]
        go_simp
        have hbwY : Below wX.heap.size wX (wX.alloc (.cells #[.int .i64 (uk + ak)] 3)) := (Below.refl _ _).alloc (Nat.le_refl _) _
        have hEwY := cell_new_oneT wX (.int .i64 (uk + ak)) 3
        have hlwY : w.heap.size < wX.heap.size := (Array.getElem?_eq_some_iff.1 hSwX.2).1
        have hSwY : Below w.heap.size w (wX.alloc (.cells #[.int .i64 (uk + ak)] 3)) ∧ (wX.alloc (.cells #[.int .i64 (uk + ak)] 3)).heap[w.heap.size]? = some (.cells #[.slice (some ⟨ba, oa, none⟩) n ca, .slice (some ⟨bu, ou, none⟩) n cu] 30) := ⟨hSwX.1.trans (hbwY.mono hSwX.1.size), (hbwY.block _ hlwY).trans hSwX.2⟩
        have hXwY := (hbwY.block _ hgwX).trans hXwX
        have hOwY : (wX.alloc (.cells #[.int .i64 (uk + ak)] 3)).ownsRow (g4 + 1) 3 1 (.slice xv k cv) k ((S.take k).map (Value.int .i64)) := own_belT hOwX hbwY
        have hTwY := hTwX.kept hbwY
        have h2wY := (hbwY.block _ (by omega)).trans h2wX
        have hgwY : g4 < (wX.alloc (.cells #[.int .i64 (uk + ak)] 3)).heap.size := Nat.lt_of_lt_of_le hgwX hbwY.size
        have hYwY : (wX.alloc (.cells #[.int .i64 (uk + ak)] 3)).heap.size = wX.heap.size + 1 := by simp
        have hLwY : ∀ g, (Value.slice xv k cv).ownBlock = some g → g4 + 1 ≤ g ∧ g < wX.heap.size := hLwX
        refine hK.out _ _ hSwY (fun _ => ?_)
        clear hK K
        generalize wX.alloc (.cells #[.int .i64 (uk + ak)] 3) = wY at *
        refine wpAnyH_ready (rs := [10]) (by kernel_rfl) (by simp) ?_
        refine AllReadyH.cons rfl (fun K hK => ?_) AllReadyH.nil
        refine step_append_atT rfl (.tmp 22) (.tmp 30) 23 rfl (g4 + 1) 3 i0 (.int .i64 0) 1 8 Try.underlying23 hi hz0 hz1 hz2 rfl (by decide) _ _ _ rfl hOwY ⟨wX.heap.size, 0, none⟩ 1 1 [.int .i64 (uk + ak)] rfl rfl hEwY (one_intT _) (by unfold maxLen; omega) (by omega) (by omega) ?_
        intro v8 w8 hown8 hgrow8 hat8
        rw [HTK2.out] at hown8
        have hk8 := grown_kpt hgrow8
        have hne8 : ∀ g, g ≤ g4 → ¬ ((Value.slice xv k cv).ownBlock = some g) := fun g hg h => by have := (hLwY g h).1; omega
        have hS8 : Below w.heap.size w w8 ∧ w8.heap[w.heap.size]? = some (.cells #[.slice (some ⟨ba, oa, none⟩) n ca, .slice (some ⟨bu, ou, none⟩) n cu] 30) := ⟨hSwY.1.trans (hk8.below (by have := hSwY.1.size; omega) (fun k0 hk0 h => hne8 _ (by omega) h)), (hk8.block _ (by omega) (hne8 _ (by omega))).trans hSwY.2⟩
        have hX8 : w8.heap[g4]? = some (.cells #[.slice (some ⟨t, 0, none⟩) n cp, .slice xv k cv] 30) := (hk8.block _ hgwY (hne8 _ (Nat.le_refl _))).trans hXwY
        have h28 : w8.heap[w.heap.size + 1]? = some (.cells #[.slice none 0 0, .slice none 0 0] 30) := (hk8.block _ (by omega) (hne8 _ (by omega))).trans h2wY
        have hT8 : ZSRow w8 t A := hTwY.apart hk8 (hne8 _ (by omega))
        have hg8 : g4 < w8.heap.size := Nat.lt_of_lt_of_le hgwY hk8.size
        obtain ⟨tn, cn, hv8, hcn1, hcn2, htn, hqn⟩ := zs_of_ownT (P := S.take (k + 1)) (base := g4 + 1) (v := v8) (by rw [List.length_take, HSN.out]; omega) (by rw [List.length_take, HSN.out, show min (k + 1) n = k + 1 by omega]; exact hown8)
        have hln : (S.take (k + 1)).length = k + 1 := by rw [List.length_take, HSN.out]; omega
        rw [hln] at hv8 hcn1
        subst hv8
        refine hK.out _ _ hS8 (fun _ => ?_)
        clear hK K
        simp only [Act.put]
        refine wpAnyH_take (i := 11) (v := .pointer (some ⟨g4, 1, none⟩)) rfl (by kernel_rfl) (by kernel_rfl) (by kernel_rfl) (fun _ _ _ h => h) (Or.inl ⟨by rfl, ?_⟩) (by assumption) ?_
        · intro W hSW
          go_simp
        simp only [Act.put, List.getElem_toArray, List.getElem_cons_succ, List.getElem_cons_zero, List.setIfInBounds_toArray, List.set_cons_succ, List.set_cons_zero]
        refine wpAnyH_ready (rs := [12]) (by kernel_rfl) (by simp) ?_
        refine AllReadyH.cons rfl (fun K hK => ?_) AllReadyH.nil
        rw [if_pos (by rfl)]
        obtain ⟨⟨s0, s1⟩, ⟨f0, f1⟩⟩ := trn_cells hX8
        have hk9 : Kpt w8 (w8.setCell ⟨g4, 1, none⟩ (.slice (some ⟨tn, 0, none⟩) (k + 1) cn)) (fun j => j = g4) := kpt_set w8 _ 1 _ rfl
        have hX9 : (w8.setCell ⟨g4, 1, none⟩ (.slice (some ⟨tn, 0, none⟩) (k + 1) cn)).heap[g4]? = some (.cells #[.slice (some ⟨t, 0, none⟩) n cp, .slice (some ⟨tn, 0, none⟩) (k + 1) cn] 30) := by have h := heap_setCell_same _ _ 1 _ _ (.slice (some ⟨tn, 0, none⟩) (k + 1) cn) hX8; simpa using h
        have hS9 : Below w.heap.size w (w8.setCell ⟨g4, 1, none⟩ (.slice (some ⟨tn, 0, none⟩) (k + 1) cn)) ∧ (w8.setCell ⟨g4, 1, none⟩ (.slice (some ⟨tn, 0, none⟩) (k + 1) cn)).heap[w.heap.size]? = some (.cells #[.slice (some ⟨ba, oa, none⟩) n ca, .slice (some ⟨bu, ou, none⟩) n cu] 30) := ⟨hS8.1.trans (hk9.below hS8.1.size (fun k0 hk0 h => by omega)), (hk9.block _ (by omega) (by omega)).trans hS8.2⟩
        have h29 := (hk9.block (w.heap.size + 1) (by omega) (by omega)).trans h28
        have hT9 := hT8.apart hk9 (by omega)
        have hO9 := own_keptT hown8 hk9 (fun g hg => by have e : tn = g := Option.some.inj hg; omega)
        have hQ9 := hqn.apart hk9 (by omega)
        go_simp
        refine hK.out _ _ hS9 (fun _ => ?_)
        clear hK K s0 s1 f0 f1
        refine wpAnyH_done (by kernel_rfl) ?_ _
        refine NoPanic.normal ?_
        obtain ⟨w9, hw9⟩ : ∃ W, W = w8.setCell ⟨g4, 1, none⟩ (.slice (some ⟨tn, 0, none⟩) (k + 1) cn) := ⟨_, rfl⟩
        rw [← hw9] at hS9 hX9 h29 hT9 hO9 hQ9
        rw [← hw9]
        have HB9 : Hid (w9.heap[w.heap.size]? = some (.cells #[.slice (some ⟨ba, oa, none⟩) n ca, .slice (some ⟨bu, ou, none⟩) n cu] 30)) := hS9.2
        have HX9 : Hid (w9.heap[g4]? = some (.cells #[.slice (some ⟨t, 0, none⟩) n cp, .slice (some ⟨tn, 0, none⟩) (k + 1) cn] 30)) := hX9
        have H29 : Hid (w9.heap[w.heap.size + 1]? = some (.cells #[.slice none 0 0, .slice none 0 0] 30)) := h29
        have HT9 : Hid (ZSRow w9 t A) := hT9
        have HO9 : Hid (w9.ownsRow (g4 + 1) 3 1 (.slice (some ⟨tn, 0, none⟩) (k + 1) cn) (k + 1) ((S.take (k + 1)).map (Value.int .i64))) := hO9
        have hb9 : Below w.heap.size w w9 := hS9.1
        have hbl := bestN_le S k
        have HCC : Hid (∀ W, Below w9.heap.size w9 W → W.cell? ⟨g4, 1, none⟩ = some (.slice (some ⟨tn, 0, none⟩) (k + 1) cn) ∧ W.cell? ⟨tn, k, none⟩ = some (.int .i64 (S.getD k 0)) ∧ W.cell? ⟨tn, bestN S k, none⟩ = some (.int .i64 (S.getD (bestN S k) 0))) := fun W hW => by
          have h1 := (trn_cells ((hW.block _ (by rw [hw9]; simpa using hg8)).trans hX9)).1.2
          have h2 := hQ9.kept hW
          have h3 := (h2.2 k (by rw [hln]; omega)).1
          have h4 := (h2.2 (bestN S k) (by rw [hln]; omega)).1
          rw [take_get] at h3 h4
          exact ⟨h1, h3, h4⟩
        have hbk : bestN S k < k + 1 := by omega
        have HBN : Hid (bestN S (k + 1) = if S.getD k 0 > S.getD (bestN S k) 0 then k else bestN S k) := bestN_next S k
        obtain ⟨x, hx⟩ : ∃ x, x = S.getD k 0 := ⟨_, rfl⟩
        obtain ⟨bk, hbke⟩ : ∃ bk, bk = bestN S k := ⟨_, rfl⟩
        rw [← hbke] at HCC HBN hbk hbl ⊢
        obtain ⟨y, hy⟩ : ∃ y, y = S.getD bk 0 := ⟨_, rfl⟩
        rw [← hx, ← hy] at HCC HBN
        have hbd : Below w9.heap.size w9 w9.drew := (Below.refl _ _).drew
        have hbki : (bk : Int) < ((k + 1 : Nat) : Int) := by omega
        have hkki : (k : Int) < ((k + 1 : Nat) : Int) := by omega
        clear hX9 h29 hT9 hO9 hQ9 hS9 hw9 hk9 hk8 hown8 hgrow8 hat8 hne8 hS8 hX8 h28 hT8 hg8 hqn hx hbke hy HB1 HB2 HX HO HT HSK2 HTK2 HCA2 HLT hHeld
        go_wp2_with fail
        by_cases hg : y < x
        · skip
          have HNX : Hid (bestN S (k + 1) = k) := by show _ = _; rw [HBN.out]; rw [if_pos hg]
          clear HBN
          refine wp_region_quiet (C := fun W => Below w9.heap.size w9 W) (by kernel_rfl) (by kernel_rfl) hbd ?_
          refine wpQuiet_step (fun K hK => ?_)
          rw [if_pos (by rfl)]
          refine ⟨.pointer (some ⟨g4, 1, none⟩), fun W hW => quiet_ok ?_, hK _ ?_⟩
          · obtain ⟨c0, c1, c2⟩ := HCC.out W hW
            go_simp
            all_goals (try omega)
          clear hK K
          simp only [Act.put, List.setIfInBounds_toArray, List.set_cons_succ, List.set_cons_zero]
          refine wpQuiet_step (fun K hK => ?_)
          rw [if_pos (by rfl)]
          refine ⟨.slice (some ⟨tn, 0, none⟩) (k + 1) cn, fun W hW => quiet_ok ?_, hK _ ?_⟩
          · obtain ⟨c0, c1, c2⟩ := HCC.out W hW
            go_simp
            all_goals (try omega)
          clear hK K
          simp only [Act.put, List.setIfInBounds_toArray, List.set_cons_succ, List.set_cons_zero]
          refine wpQuiet_step (fun K hK => ?_)
          rw [if_pos (by rfl)]
          refine ⟨.int .i64 (k : Int), fun W hW => quiet_ok ?_, hK _ ?_⟩
          · obtain ⟨c0, c1, c2⟩ := HCC.out W hW
            go_simp
            all_goals (try omega)
          clear hK K
          simp only [Act.put, List.setIfInBounds_toArray, List.set_cons_succ, List.set_cons_zero]
          refine wpQuiet_step (fun K hK => ?_)
          rw [if_pos (by rfl)]
          refine ⟨.pointer (some ⟨tn, k, none⟩), fun W hW => quiet_ok ?_, hK _ ?_⟩
          · obtain ⟨c0, c1, c2⟩ := HCC.out W hW
            go_simp
            all_goals (try omega)
          clear hK K
          simp only [Act.put, List.setIfInBounds_toArray, List.set_cons_succ, List.set_cons_zero]
          refine wpQuiet_step (fun K hK => ?_)
          rw [if_pos (by rfl)]
          refine ⟨.int .i64 x, fun W hW => quiet_ok ?_, hK _ ?_⟩
          · obtain ⟨c0, c1, c2⟩ := HCC.out W hW
            go_simp
            all_goals (try omega)
          clear hK K
          simp only [Act.put, List.setIfInBounds_toArray, List.set_cons_succ, List.set_cons_zero]
          refine wpQuiet_step (fun K hK => ?_)
          rw [if_pos (by rfl)]
          refine ⟨.pointer (some ⟨g4, 1, none⟩), fun W hW => quiet_ok ?_, hK _ ?_⟩
          · obtain ⟨c0, c1, c2⟩ := HCC.out W hW
            go_simp
            all_goals (try omega)
          clear hK K
          simp only [Act.put, List.setIfInBounds_toArray, List.set_cons_succ, List.set_cons_zero]
          refine wpQuiet_step (fun K hK => ?_)
          rw [if_pos (by rfl)]
          refine ⟨.slice (some ⟨tn, 0, none⟩) (k + 1) cn, fun W hW => quiet_ok ?_, hK _ ?_⟩
          · obtain ⟨c0, c1, c2⟩ := HCC.out W hW
            go_simp
            all_goals (try omega)
          clear hK K
          simp only [Act.put, List.setIfInBounds_toArray, List.set_cons_succ, List.set_cons_zero]
          refine wpQuiet_step (fun K hK => ?_)
          rw [if_pos (by rfl)]
          refine ⟨.int .i64 (bk : Int), fun W hW => quiet_ok ?_, hK _ ?_⟩
          · obtain ⟨c0, c1, c2⟩ := HCC.out W hW
            go_simp
            all_goals (try omega)
          clear hK K
          simp only [Act.put, List.setIfInBounds_toArray, List.set_cons_succ, List.set_cons_zero]
          refine wpQuiet_step (fun K hK => ?_)
          rw [if_pos (by rfl)]
          refine ⟨.pointer (some ⟨tn, bk, none⟩), fun W hW => quiet_ok ?_, hK _ ?_⟩
          · obtain ⟨c0, c1, c2⟩ := HCC.out W hW
            go_simp
            all_goals (try omega)
          clear hK K
          simp only [Act.put, List.setIfInBounds_toArray, List.set_cons_succ, List.set_cons_zero]
          refine wpQuiet_step (fun K hK => ?_)
          rw [if_pos (by rfl)]
          refine ⟨.int .i64 y, fun W hW => quiet_ok ?_, hK _ ?_⟩
          · obtain ⟨c0, c1, c2⟩ := HCC.out W hW
            go_simp
            all_goals (try omega)
          clear hK K
          simp only [Act.put, List.setIfInBounds_toArray, List.set_cons_succ, List.set_cons_zero]
          refine wpQuiet_step (fun K hK => ?_)
          rw [if_pos (by rfl)]
          refine ⟨.bool true, fun W hW => quiet_ok ?_, hK _ ?_⟩
          · obtain ⟨c0, c1, c2⟩ := HCC.out W hW
            go_simp
            all_goals (try omega)
          clear hK K
          simp only [Act.put, List.setIfInBounds_toArray, List.set_cons_succ, List.set_cons_zero]
          refine wpQuiet_nil ?_
          intro W hW
          have HBf : Hid (W.heap[w.heap.size]? = some (.cells #[.slice (some ⟨ba, oa, none⟩) n ca, .slice (some ⟨bu, ou, none⟩) n cu] 30)) := (hW.block _ (Array.getElem?_eq_some_iff.1 HB9.out).1).trans HB9.out
          have H2f : Hid (W.heap[w.heap.size + 1]? = some (.cells #[.slice none 0 0, .slice none 0 0] 30)) := (hW.block _ (Array.getElem?_eq_some_iff.1 H29.out).1).trans H29.out
          have HXf : Hid (W.heap[g4]? = some (.cells #[.slice (some ⟨t, 0, none⟩) n cp, .slice (some ⟨tn, 0, none⟩) (k + 1) cn] 30)) := (hW.block _ (Array.getElem?_eq_some_iff.1 HX9.out).1).trans HX9.out
          have HTf : Hid (ZSRow W t A) := HT9.out.kept hW
          have HOf : Hid (W.ownsRow (g4 + 1) 3 1 (.slice (some ⟨tn, 0, none⟩) (k + 1) cn) (k + 1) ((S.take (k + 1)).map (Value.int .i64))) := own_belT HO9.out hW
          have hbf : Below w.heap.size w W := hb9.trans (hW.mono hb9.size)
          clear HCC HB9 H29 HX9 HT9 HO9 hb9
          go_wp2_with fail
          go_roundw
          case rel => exact ⟨k + 1, _, by omega, by go_num, by rw [HNX.out], HBf, H2f, HXf, HOf, HTf, hbf⟩
          case measure => simp [intOf]; omega
        · skip
          have HNX : Hid (bestN S (k + 1) = bk) := by show _ = _; rw [HBN.out]; rw [if_neg hg]
          clear HBN
          refine wp_region_quiet (C := fun W => Below w9.heap.size w9 W) (by kernel_rfl) (by kernel_rfl) hbd ?_
          refine wpQuiet_step (fun K hK => ?_)
          rw [if_pos (by rfl)]
          refine ⟨.pointer (some ⟨g4, 1, none⟩), fun W hW => quiet_ok ?_, hK _ ?_⟩
          · obtain ⟨c0, c1, c2⟩ := HCC.out W hW
            go_simp
            all_goals (try omega)
          clear hK K
          simp only [Act.put, List.setIfInBounds_toArray, List.set_cons_succ, List.set_cons_zero]
          refine wpQuiet_step (fun K hK => ?_)
          rw [if_pos (by rfl)]
          refine ⟨.slice (some ⟨tn, 0, none⟩) (k + 1) cn, fun W hW => quiet_ok ?_, hK _ ?_⟩
          · obtain ⟨c0, c1, c2⟩ := HCC.out W hW
            go_simp
            all_goals (try omega)
          clear hK K
          simp only [Act.put, List.setIfInBounds_toArray, List.set_cons_succ, List.set_cons_zero]
          refine wpQuiet_step (fun K hK => ?_)
          rw [if_pos (by rfl)]
          refine ⟨.int .i64 (k : Int), fun W hW => quiet_ok ?_, hK _ ?_⟩
          · obtain ⟨c0, c1, c2⟩ := HCC.out W hW
            go_simp
            all_goals (try omega)
          clear hK K
          simp only [Act.put, List.setIfInBounds_toArray, List.set_cons_succ, List.set_cons_zero]
          refine wpQuiet_step (fun K hK => ?_)
          rw [if_pos (by rfl)]
          refine ⟨.pointer (some ⟨tn, k, none⟩), fun W hW => quiet_ok ?_, hK _ ?_⟩
          · obtain ⟨c0, c1, c2⟩ := HCC.out W hW
            go_simp
            all_goals (try omega)
          clear hK K
          simp only [Act.put, List.setIfInBounds_toArray, List.set_cons_succ, List.set_cons_zero]
          refine wpQuiet_step (fun K hK => ?_)
          rw [if_pos (by rfl)]
          refine ⟨.int .i64 x, fun W hW => quiet_ok ?_, hK _ ?_⟩
          · obtain ⟨c0, c1, c2⟩ := HCC.out W hW
            go_simp
            all_goals (try omega)
          clear hK K
          simp only [Act.put, List.setIfInBounds_toArray, List.set_cons_succ, List.set_cons_zero]
          refine wpQuiet_step (fun K hK => ?_)
          rw [if_pos (by rfl)]
          refine ⟨.pointer (some ⟨g4, 1, none⟩), fun W hW => quiet_ok ?_, hK _ ?_⟩
          · obtain ⟨c0, c1, c2⟩ := HCC.out W hW
            go_simp
            all_goals (try omega)
          clear hK K
          simp only [Act.put, List.setIfInBounds_toArray, List.set_cons_succ, List.set_cons_zero]
          refine wpQuiet_step (fun K hK => ?_)
          rw [if_pos (by rfl)]
          refine ⟨.slice (some ⟨tn, 0, none⟩) (k + 1) cn, fun W hW => quiet_ok ?_, hK _ ?_⟩
          · obtain ⟨c0, c1, c2⟩ := HCC.out W hW
            go_simp
            all_goals (try omega)
          clear hK K
          simp only [Act.put, List.setIfInBounds_toArray, List.set_cons_succ, List.set_cons_zero]
          refine wpQuiet_step (fun K hK => ?_)
          rw [if_pos (by rfl)]
          refine ⟨.int .i64 (bk : Int), fun W hW => quiet_ok ?_, hK _ ?_⟩
          · obtain ⟨c0, c1, c2⟩ := HCC.out W hW
            go_simp
            all_goals (try omega)
          clear hK K
          simp only [Act.put, List.setIfInBounds_toArray, List.set_cons_succ, List.set_cons_zero]
          refine wpQuiet_step (fun K hK => ?_)
          rw [if_pos (by rfl)]
          refine ⟨.pointer (some ⟨tn, bk, none⟩), fun W hW => quiet_ok ?_, hK _ ?_⟩
          · obtain ⟨c0, c1, c2⟩ := HCC.out W hW
            go_simp
            all_goals (try omega)
          clear hK K
          simp only [Act.put, List.setIfInBounds_toArray, List.set_cons_succ, List.set_cons_zero]
          refine wpQuiet_step (fun K hK => ?_)
          rw [if_pos (by rfl)]
          refine ⟨.int .i64 y, fun W hW => quiet_ok ?_, hK _ ?_⟩
          · obtain ⟨c0, c1, c2⟩ := HCC.out W hW
            go_simp
            all_goals (try omega)
          clear hK K
          simp only [Act.put, List.setIfInBounds_toArray, List.set_cons_succ, List.set_cons_zero]
          refine wpQuiet_step (fun K hK => ?_)
          rw [if_pos (by rfl)]
          refine ⟨.bool false, fun W hW => quiet_ok ?_, hK _ ?_⟩
          · obtain ⟨c0, c1, c2⟩ := HCC.out W hW
            go_simp
            all_goals (try omega)
          clear hK K
          simp only [Act.put, List.setIfInBounds_toArray, List.set_cons_succ, List.set_cons_zero]
          refine wpQuiet_nil ?_
          intro W hW
          have HBf : Hid (W.heap[w.heap.size]? = some (.cells #[.slice (some ⟨ba, oa, none⟩) n ca, .slice (some ⟨bu, ou, none⟩) n cu] 30)) := (hW.block _ (Array.getElem?_eq_some_iff.1 HB9.out).1).trans HB9.out
          have H2f : Hid (W.heap[w.heap.size + 1]? = some (.cells #[.slice none 0 0, .slice none 0 0] 30)) := (hW.block _ (Array.getElem?_eq_some_iff.1 H29.out).1).trans H29.out
          have HXf : Hid (W.heap[g4]? = some (.cells #[.slice (some ⟨t, 0, none⟩) n cp, .slice (some ⟨tn, 0, none⟩) (k + 1) cn] 30)) := (hW.block _ (Array.getElem?_eq_some_iff.1 HX9.out).1).trans HX9.out
          have HTf : Hid (ZSRow W t A) := HT9.out.kept hW
          have HOf : Hid (W.ownsRow (g4 + 1) 3 1 (.slice (some ⟨tn, 0, none⟩) (k + 1) cn) (k + 1) ((S.take (k + 1)).map (Value.int .i64))) := own_belT HO9.out hW
          have hbf : Below w.heap.size w W := hb9.trans (hW.mono hb9.size)
          clear HCC HB9 H29 HX9 HT9 HO9 hb9
          go_wp2_with fail
          go_roundw
          case rel => exact ⟨k + 1, _, by omega, by go_num, by rw [HNX.out], HBf, H2f, HXf, HOf, HTf, hbf⟩
          case measure => simp [intOf]; omega
      · skip
        rw [if_pos (by rfl)]
        go_simp
        have hbwY : Below wX.heap.size wX (wX.alloc (.cells #[.int .i64 (uk + ak)] 3)) := (Below.refl _ _).alloc (Nat.le_refl _) _
        have hEwY := cell_new_oneT wX (.int .i64 (uk + ak)) 3
        have hlwY : w.heap.size < wX.heap.size := (Array.getElem?_eq_some_iff.1 hSwX.2).1
        have hSwY : Below w.heap.size w (wX.alloc (.cells #[.int .i64 (uk + ak)] 3)) ∧ (wX.alloc (.cells #[.int .i64 (uk + ak)] 3)).heap[w.heap.size]? = some (.cells #[.slice (some ⟨ba, oa, none⟩) n ca, .slice (some ⟨bu, ou, none⟩) n cu] 30) := ⟨hSwX.1.trans (hbwY.mono hSwX.1.size), (hbwY.block _ hlwY).trans hSwX.2⟩
        have hXwY := (hbwY.block _ hgwX).trans hXwX
        have hOwY : (wX.alloc (.cells #[.int .i64 (uk + ak)] 3)).ownsRow (g4 + 1) 3 1 (.slice xv k cv) k ((S.take k).map (Value.int .i64)) := own_belT hOwX hbwY
        have hTwY := hTwX.kept hbwY
        have h2wY := (hbwY.block _ (by omega)).trans h2wX
        have hgwY : g4 < (wX.alloc (.cells #[.int .i64 (uk + ak)] 3)).heap.size := Nat.lt_of_lt_of_le hgwX hbwY.size
        have hYwY : (wX.alloc (.cells #[.int .i64 (uk + ak)] 3)).heap.size = wX.heap.size + 1 := by simp
        have hLwY : ∀ g, (Value.slice xv k cv).ownBlock = some g → g4 + 1 ≤ g ∧ g < wX.heap.size := hLwX
        refine hK.out _ _ hSwY (fun _ => ?_)
        clear hK K
        generalize wX.alloc (.cells #[.int .i64 (uk + ak)] 3) = wY at *
        refine wpAnyH_ready (rs := [1]) (by kernel_rfl) (by simp) ?_
        refine AllReadyH.cons rfl (fun K hK => ?_) AllReadyH.nil
        rw [if_pos (by rfl)]
        obtain ⟨⟨s0, s1⟩, _⟩ := trn_cells hXwY
        go_simp
        refine hK.out _ _ hSwY (fun _ => ?_)
        clear hK K s0 s1
        refine wpAnyH_ready (rs := [10]) (by kernel_rfl) (by simp) ?_
        refine AllReadyH.cons rfl (fun K hK => ?_) AllReadyH.nil
        refine step_append_atT rfl (.tmp 22) (.tmp 30) 23 rfl (g4 + 1) 3 i0 (.int .i64 0) 1 8 Try.underlying23 hi hz0 hz1 hz2 rfl (by decide) _ _ _ rfl hOwY ⟨wX.heap.size, 0, none⟩ 1 1 [.int .i64 (uk + ak)] rfl rfl hEwY (one_intT _) (by unfold maxLen; omega) (by omega) (by omega) ?_
        intro v8 w8 hown8 hgrow8 hat8
        rw [HTK2.out] at hown8
        have hk8 := grown_kpt hgrow8
        have hne8 : ∀ g, g ≤ g4 → ¬ ((Value.slice xv k cv).ownBlock = some g) := fun g hg h => by have := (hLwY g h).1; omega
        have hS8 : Below w.heap.size w w8 ∧ w8.heap[w.heap.size]? = some (.cells #[.slice (some ⟨ba, oa, none⟩) n ca, .slice (some ⟨bu, ou, none⟩) n cu] 30) := ⟨hSwY.1.trans (hk8.below (by have := hSwY.1.size; omega) (fun k0 hk0 h => hne8 _ (by omega) h)), (hk8.block _ (by omega) (hne8 _ (by omega))).trans hSwY.2⟩
        have hX8 : w8.heap[g4]? = some (.cells #[.slice (some ⟨t, 0, none⟩) n cp, .slice xv k cv] 30) := (hk8.block _ hgwY (hne8 _ (Nat.le_refl _))).trans hXwY
        have h28 : w8.heap[w.heap.size + 1]? = some (.cells #[.slice none 0 0, .slice none 0 0] 30) := (hk8.block _ (by omega) (hne8 _ (by omega))).trans h2wY
        have hT8 : ZSRow w8 t A := hTwY.apart hk8 (hne8 _ (by omega))
        have hg8 : g4 < w8.heap.size := Nat.lt_of_lt_of_le hgwY hk8.size
        obtain ⟨tn, cn, hv8, hcn1, hcn2, htn, hqn⟩ := zs_of_ownT (P := S.take (k + 1)) (base := g4 + 1) (v := v8) (by rw [List.length_take, HSN.out]; omega) (by rw [List.length_take, HSN.out, show min (k + 1) n = k + 1 by omega]; exact hown8)
        have hln : (S.take (k + 1)).length = k + 1 := by rw [List.length_take, HSN.out]; omega
        rw [hln] at hv8 hcn1
        subst hv8
        refine hK.out _ _ hS8 (fun _ => ?_)
        clear hK K
        simp only [Act.put]
        refine wpAnyH_take (i := 11) (v := .pointer (some ⟨g4, 1, none⟩)) rfl (by kernel_rfl) (by kernel_rfl) (by kernel_rfl) (fun _ _ _ h => h) (Or.inl ⟨by rfl, ?_⟩) (by assumption) ?_
        · intro W hSW
          go_simp
        simp only [Act.put, List.getElem_toArray, List.getElem_cons_succ, List.getElem_cons_zero, List.setIfInBounds_toArray, List.set_cons_succ, List.set_cons_zero]
        refine wpAnyH_ready (rs := [12]) (by kernel_rfl) (by simp) ?_
        refine AllReadyH.cons rfl (fun K hK => ?_) AllReadyH.nil
        rw [if_pos (by rfl)]
        obtain ⟨⟨s0, s1⟩, ⟨f0, f1⟩⟩ := trn_cells hX8
        have hk9 : Kpt w8 (w8.setCell ⟨g4, 1, none⟩ (.slice (some ⟨tn, 0, none⟩) (k + 1) cn)) (fun j => j = g4) := kpt_set w8 _ 1 _ rfl
        have hX9 : (w8.setCell ⟨g4, 1, none⟩ (.slice (some ⟨tn, 0, none⟩) (k + 1) cn)).heap[g4]? = some (.cells #[.slice (some ⟨t, 0, none⟩) n cp, .slice (some ⟨tn, 0, none⟩) (k + 1) cn] 30) := by have h := heap_setCell_same _ _ 1 _ _ (.slice (some ⟨tn, 0, none⟩) (k + 1) cn) hX8; simpa using h
        have hS9 : Below w.heap.size w (w8.setCell ⟨g4, 1, none⟩ (.slice (some ⟨tn, 0, none⟩) (k + 1) cn)) ∧ (w8.setCell ⟨g4, 1, none⟩ (.slice (some ⟨tn, 0, none⟩) (k + 1) cn)).heap[w.heap.size]? = some (.cells #[.slice (some ⟨ba, oa, none⟩) n ca, .slice (some ⟨bu, ou, none⟩) n cu] 30) := ⟨hS8.1.trans (hk9.below hS8.1.size (fun k0 hk0 h => by omega)), (hk9.block _ (by omega) (by omega)).trans hS8.2⟩
        have h29 := (hk9.block (w.heap.size + 1) (by omega) (by omega)).trans h28
        have hT9 := hT8.apart hk9 (by omega)
        have hO9 := own_keptT hown8 hk9 (fun g hg => by have e : tn = g := Option.some.inj hg; omega)
        have hQ9 := hqn.apart hk9 (by omega)
        go_simp
        refine hK.out _ _ hS9 (fun _ => ?_)
        clear hK K s0 s1 f0 f1
        refine wpAnyH_done (by kernel_rfl) ?_ _
        refine NoPanic.normal ?_
        obtain ⟨w9, hw9⟩ : ∃ W, W = w8.setCell ⟨g4, 1, none⟩ (.slice (some ⟨tn, 0, none⟩) (k + 1) cn) := ⟨_, rfl⟩
        rw [← hw9] at hS9 hX9 h29 hT9 hO9 hQ9
        rw [← hw9]
        have HB9 : Hid (w9.heap[w.heap.size]? = some (.cells #[.slice (some ⟨ba, oa, none⟩) n ca, .slice (some ⟨bu, ou, none⟩) n cu] 30)) := hS9.2
        have HX9 : Hid (w9.heap[g4]? = some (.cells #[.slice (some ⟨t, 0, none⟩) n cp, .slice (some ⟨tn, 0, none⟩) (k + 1) cn] 30)) := hX9
        have H29 : Hid (w9.heap[w.heap.size + 1]? = some (.cells #[.slice none 0 0, .slice none 0 0] 30)) := h29
        have HT9 : Hid (ZSRow w9 t A) := hT9
        have HO9 : Hid (w9.ownsRow (g4 + 1) 3 1 (.slice (some ⟨tn, 0, none⟩) (k + 1) cn) (k + 1) ((S.take (k + 1)).map (Value.int .i64))) := hO9
        have hb9 : Below w.heap.size w w9 := hS9.1
        have hbl := bestN_le S k
        have HCC : Hid (∀ W, Below w9.heap.size w9 W → W.cell? ⟨g4, 1, none⟩ = some (.slice (some ⟨tn, 0, none⟩) (k + 1) cn) ∧ W.cell? ⟨tn, k, none⟩ = some (.int .i64 (S.getD k 0)) ∧ W.cell? ⟨tn, bestN S k, none⟩ = some (.int .i64 (S.getD (bestN S k) 0))) := fun W hW => by
          have h1 := (trn_cells ((hW.block _ (by rw [hw9]; simpa using hg8)).trans hX9)).1.2
          have h2 := hQ9.kept hW
          have h3 := (h2.2 k (by rw [hln]; omega)).1
          have h4 := (h2.2 (bestN S k) (by rw [hln]; omega)).1
          rw [take_get] at h3 h4
          exact ⟨h1, h3, h4⟩
        have hbk : bestN S k < k + 1 := by omega
        have HBN : Hid (bestN S (k + 1) = if S.getD k 0 > S.getD (bestN S k) 0 then k else bestN S k) := bestN_next S k
        obtain ⟨x, hx⟩ : ∃ x, x = S.getD k 0 := ⟨_, rfl⟩
        obtain ⟨bk, hbke⟩ : ∃ bk, bk = bestN S k := ⟨_, rfl⟩
        rw [← hbke] at HCC HBN hbk hbl ⊢
        obtain ⟨y, hy⟩ : ∃ y, y = S.getD bk 0 := ⟨_, rfl⟩
        rw [← hx, ← hy] at HCC HBN
        have hbd : Below w9.heap.size w9 w9.drew := (Below.refl _ _).drew
        have hbki : (bk : Int) < ((k + 1 : Nat) : Int) := by omega
        have hkki : (k : Int) < ((k + 1 : Nat) : Int) := by omega
        clear hX9 h29 hT9 hO9 hQ9 hS9 hw9 hk9 hk8 hown8 hgrow8 hat8 hne8 hS8 hX8 h28 hT8 hg8 hqn hx hbke hy HB1 HB2 HX HO HT HSK2 HTK2 HCA2 HLT hHeld
        go_wp2_with fail
        by_cases hg : y < x
        · skip
          have HNX : Hid (bestN S (k + 1) = k) := by show _ = _; rw [HBN.out]; rw [if_pos hg]
          clear HBN
          refine wp_region_quiet (C := fun W => Below w9.heap.size w9 W) (by kernel_rfl) (by kernel_rfl) hbd ?_
          refine wpQuiet_step (fun K hK => ?_)
          rw [if_pos (by rfl)]
          refine ⟨.pointer (some ⟨g4, 1, none⟩), fun W hW => quiet_ok ?_, hK _ ?_⟩
          · obtain ⟨c0, c1, c2⟩ := HCC.out W hW
            go_simp
            all_goals (try omega)
          clear hK K
          simp only [Act.put, List.setIfInBounds_toArray, List.set_cons_succ, List.set_cons_zero]
          refine wpQuiet_step (fun K hK => ?_)
          rw [if_pos (by rfl)]
          refine ⟨.slice (some ⟨tn, 0, none⟩) (k + 1) cn, fun W hW => quiet_ok ?_, hK _ ?_⟩
          · obtain ⟨c0, c1, c2⟩ := HCC.out W hW
            go_simp
            all_goals (try omega)
          clear hK K
          simp only [Act.put, List.setIfInBounds_toArray, List.set_cons_succ, List.set_cons_zero]
          refine wpQuiet_step (fun K hK => ?_)
          rw [if_pos (by rfl)]
          refine ⟨.int .i64 (k : Int), fun W hW => quiet_ok ?_, hK _ ?_⟩
          · obtain ⟨c0, c1, c2⟩ := HCC.out W hW
            go_simp
            all_goals (try omega)
          clear hK K
          simp only [Act.put, List.setIfInBounds_toArray, List.set_cons_succ, List.set_cons_zero]
          refine wpQuiet_step (fun K hK => ?_)
          rw [if_pos (by rfl)]
          refine ⟨.pointer (some ⟨tn, k, none⟩), fun W hW => quiet_ok ?_, hK _ ?_⟩
          · obtain ⟨c0, c1, c2⟩ := HCC.out W hW
            go_simp
            all_goals (try omega)
          clear hK K
          simp only [Act.put, List.setIfInBounds_toArray, List.set_cons_succ, List.set_cons_zero]
          refine wpQuiet_step (fun K hK => ?_)
          rw [if_pos (by rfl)]
          refine ⟨.int .i64 x, fun W hW => quiet_ok ?_, hK _ ?_⟩
          · obtain ⟨c0, c1, c2⟩ := HCC.out W hW
            go_simp
            all_goals (try omega)
          clear hK K
          simp only [Act.put, List.setIfInBounds_toArray, List.set_cons_succ, List.set_cons_zero]
          refine wpQuiet_step (fun K hK => ?_)
          rw [if_pos (by rfl)]
          refine ⟨.pointer (some ⟨g4, 1, none⟩), fun W hW => quiet_ok ?_, hK _ ?_⟩
          · obtain ⟨c0, c1, c2⟩ := HCC.out W hW
            go_simp
            all_goals (try omega)
          clear hK K
          simp only [Act.put, List.setIfInBounds_toArray, List.set_cons_succ, List.set_cons_zero]
          refine wpQuiet_step (fun K hK => ?_)
          rw [if_pos (by rfl)]
          refine ⟨.slice (some ⟨tn, 0, none⟩) (k + 1) cn, fun W hW => quiet_ok ?_, hK _ ?_⟩
          · obtain ⟨c0, c1, c2⟩ := HCC.out W hW
            go_simp
            all_goals (try omega)
          clear hK K
          simp only [Act.put, List.setIfInBounds_toArray, List.set_cons_succ, List.set_cons_zero]
          refine wpQuiet_step (fun K hK => ?_)
          rw [if_pos (by rfl)]
          refine ⟨.int .i64 (bk : Int), fun W hW => quiet_ok ?_, hK _ ?_⟩
          · obtain ⟨c0, c1, c2⟩ := HCC.out W hW
            go_simp
            all_goals (try omega)
          clear hK K
          simp only [Act.put, List.setIfInBounds_toArray, List.set_cons_succ, List.set_cons_zero]
          refine wpQuiet_step (fun K hK => ?_)
          rw [if_pos (by rfl)]
          refine ⟨.pointer (some ⟨tn, bk, none⟩), fun W hW => quiet_ok ?_, hK _ ?_⟩
          · obtain ⟨c0, c1, c2⟩ := HCC.out W hW
            go_simp
            all_goals (try omega)
          clear hK K
          simp only [Act.put, List.setIfInBounds_toArray, List.set_cons_succ, List.set_cons_zero]
          refine wpQuiet_step (fun K hK => ?_)
          rw [if_pos (by rfl)]
          refine ⟨.int .i64 y, fun W hW => quiet_ok ?_, hK _ ?_⟩
          · obtain ⟨c0, c1, c2⟩ := HCC.out W hW
            go_simp
            all_goals (try omega)
          clear hK K
          simp only [Act.put, List.setIfInBounds_toArray, List.set_cons_succ, List.set_cons_zero]
          refine wpQuiet_step (fun K hK => ?_)
          rw [if_pos (by rfl)]
          refine ⟨.bool true, fun W hW => quiet_ok ?_, hK _ ?_⟩
          · obtain ⟨c0, c1, c2⟩ := HCC.out W hW
            go_simp
            all_goals (try omega)
          clear hK K
          simp only [Act.put, List.setIfInBounds_toArray, List.set_cons_succ, List.set_cons_zero]
          refine wpQuiet_nil ?_
          intro W hW
          have HBf : Hid (W.heap[w.heap.size]? = some (.cells #[.slice (some ⟨ba, oa, none⟩) n ca, .slice (some ⟨bu, ou, none⟩) n cu] 30)) := (hW.block _ (Array.getElem?_eq_some_iff.1 HB9.out).1).trans HB9.out
          have H2f : Hid (W.heap[w.heap.size + 1]? = some (.cells #[.slice none 0 0, .slice none 0 0] 30)) := (hW.block _ (Array.getElem?_eq_some_iff.1 H29.out).1).trans H29.out
          have HXf : Hid (W.heap[g4]? = some (.cells #[.slice (some ⟨t, 0, none⟩) n cp, .slice (some ⟨tn, 0, none⟩) (k + 1) cn] 30)) := (hW.block _ (Array.getElem?_eq_some_iff.1 HX9.out).1).trans HX9.out
          have HTf : Hid (ZSRow W t A) := HT9.out.kept hW
          have HOf : Hid (W.ownsRow (g4 + 1) 3 1 (.slice (some ⟨tn, 0, none⟩) (k + 1) cn) (k + 1) ((S.take (k + 1)).map (Value.int .i64))) := own_belT HO9.out hW
          have hbf : Below w.heap.size w W := hb9.trans (hW.mono hb9.size)
          clear HCC HB9 H29 HX9 HT9 HO9 hb9
          go_wp2_with fail
          go_roundw
          case rel => exact ⟨k + 1, _, by omega, by go_num, by rw [HNX.out], HBf, H2f, HXf, HOf, HTf, hbf⟩
          case measure => simp [intOf]; omega
        · skip
          have HNX : Hid (bestN S (k + 1) = bk) := by show _ = _; rw [HBN.out]; rw [if_neg hg]
          clear HBN
          refine wp_region_quiet (C := fun W => Below w9.heap.size w9 W) (by kernel_rfl) (by kernel_rfl) hbd ?_
          refine wpQuiet_step (fun K hK => ?_)
          rw [if_pos (by rfl)]
          refine ⟨.pointer (some ⟨g4, 1, none⟩), fun W hW => quiet_ok ?_, hK _ ?_⟩
          · obtain ⟨c0, c1, c2⟩ := HCC.out W hW
            go_simp
            all_goals (try omega)
          clear hK K
          simp only [Act.put, List.setIfInBounds_toArray, List.set_cons_succ, List.set_cons_zero]
          refine wpQuiet_step (fun K hK => ?_)
          rw [if_pos (by rfl)]
          refine ⟨.slice (some ⟨tn, 0, none⟩) (k + 1) cn, fun W hW => quiet_ok ?_, hK _ ?_⟩
          · obtain ⟨c0, c1, c2⟩ := HCC.out W hW
            go_simp
            all_goals (try omega)
          clear hK K
          simp only [Act.put, List.setIfInBounds_toArray, List.set_cons_succ, List.set_cons_zero]
          refine wpQuiet_step (fun K hK => ?_)
          rw [if_pos (by rfl)]
          refine ⟨.int .i64 (k : Int), fun W hW => quiet_ok ?_, hK _ ?_⟩
          · obtain ⟨c0, c1, c2⟩ := HCC.out W hW
            go_simp
            all_goals (try omega)
          clear hK K
          simp only [Act.put, List.setIfInBounds_toArray, List.set_cons_succ, List.set_cons_zero]
          refine wpQuiet_step (fun K hK => ?_)
          rw [if_pos (by rfl)]
          refine ⟨.pointer (some ⟨tn, k, none⟩), fun W hW => quiet_ok ?_, hK _ ?_⟩
          · obtain ⟨c0, c1, c2⟩ := HCC.out W hW
            go_simp
            all_goals (try omega)
          clear hK K
          simp only [Act.put, List.setIfInBounds_toArray, List.set_cons_succ, List.set_cons_zero]
          refine wpQuiet_step (fun K hK => ?_)
          rw [if_pos (by rfl)]
          refine ⟨.int .i64 x, fun W hW => quiet_ok ?_, hK _ ?_⟩
          · obtain ⟨c0, c1, c2⟩ := HCC.out W hW
            go_simp
            all_goals (try omega)
          clear hK K
          simp only [Act.put, List.setIfInBounds_toArray, List.set_cons_succ, List.set_cons_zero]
          refine wpQuiet_step (fun K hK => ?_)
          rw [if_pos (by rfl)]
          refine ⟨.pointer (some ⟨g4, 1, none⟩), fun W hW => quiet_ok ?_, hK _ ?_⟩
          · obtain ⟨c0, c1, c2⟩ := HCC.out W hW
            go_simp
            all_goals (try omega)
          clear hK K
          simp only [Act.put, List.setIfInBounds_toArray, List.set_cons_succ, List.set_cons_zero]
          refine wpQuiet_step (fun K hK => ?_)
          rw [if_pos (by rfl)]
          refine ⟨.slice (some ⟨tn, 0, none⟩) (k + 1) cn, fun W hW => quiet_ok ?_, hK _ ?_⟩
          · obtain ⟨c0, c1, c2⟩ := HCC.out W hW
            go_simp
            all_goals (try omega)
          clear hK K
          simp only [Act.put, List.setIfInBounds_toArray, List.set_cons_succ, List.set_cons_zero]
          refine wpQuiet_step (fun K hK => ?_)
          rw [if_pos (by rfl)]
          refine ⟨.int .i64 (bk : Int), fun W hW => quiet_ok ?_, hK _ ?_⟩
          · obtain ⟨c0, c1, c2⟩ := HCC.out W hW
            go_simp
            all_goals (try omega)
          clear hK K
          simp only [Act.put, List.setIfInBounds_toArray, List.set_cons_succ, List.set_cons_zero]
          refine wpQuiet_step (fun K hK => ?_)
          rw [if_pos (by rfl)]
          refine ⟨.pointer (some ⟨tn, bk, none⟩), fun W hW => quiet_ok ?_, hK _ ?_⟩
          · obtain ⟨c0, c1, c2⟩ := HCC.out W hW
            go_simp
            all_goals (try omega)
          clear hK K
          simp only [Act.put, List.setIfInBounds_toArray, List.set_cons_succ, List.set_cons_zero]
          refine wpQuiet_step (fun K hK => ?_)
          rw [if_pos (by rfl)]
          refine ⟨.int .i64 y, fun W hW => quiet_ok ?_, hK _ ?_⟩
          · obtain ⟨c0, c1, c2⟩ := HCC.out W hW
            go_simp
            all_goals (try omega)
          clear hK K
          simp only [Act.put, List.setIfInBounds_toArray, List.set_cons_succ, List.set_cons_zero]
          refine wpQuiet_step (fun K hK => ?_)
          rw [if_pos (by rfl)]
          refine ⟨.bool false, fun W hW => quiet_ok ?_, hK _ ?_⟩
          · obtain ⟨c0, c1, c2⟩ := HCC.out W hW
            go_simp
            all_goals (try omega)
          clear hK K
          simp only [Act.put, List.setIfInBounds_toArray, List.set_cons_succ, List.set_cons_zero]
          refine wpQuiet_nil ?_
          intro W hW
          have HBf : Hid (W.heap[w.heap.size]? = some (.cells #[.slice (some ⟨ba, oa, none⟩) n ca, .slice (some ⟨bu, ou, none⟩) n cu] 30)) := (hW.block _ (Array.getElem?_eq_some_iff.1 HB9.out).1).trans HB9.out
          have H2f : Hid (W.heap[w.heap.size + 1]? = some (.cells #[.slice none 0 0, .slice none 0 0] 30)) := (hW.block _ (Array.getElem?_eq_some_iff.1 H29.out).1).trans H29.out
          have HXf : Hid (W.heap[g4]? = some (.cells #[.slice (some ⟨t, 0, none⟩) n cp, .slice (some ⟨tn, 0, none⟩) (k + 1) cn] 30)) := (hW.block _ (Array.getElem?_eq_some_iff.1 HX9.out).1).trans HX9.out
          have HTf : Hid (ZSRow W t A) := HT9.out.kept hW
          have HOf : Hid (W.ownsRow (g4 + 1) 3 1 (.slice (some ⟨tn, 0, none⟩) (k + 1) cn) (k + 1) ((S.take (k + 1)).map (Value.int .i64))) := own_belT HO9.out hW
          have hbf : Below w.heap.size w W := hb9.trans (hW.mono hb9.size)
          clear HCC HB9 H29 HX9 HT9 HO9 hb9
          go_wp2_with fail
          go_roundw
          case rel => exact ⟨k + 1, _, by omega, by go_num, by rw [HNX.out], HBf, H2f, HXf, HOf, HTf, hbf⟩
          case measure => simp [intOf]; omega
    · have hkn : n = k := by omega
      subst hkn
      obtain ⟨tn, cn, hvn, hcn1, hcn2, htn, hqn⟩ := zs_of_ownT (P := S) (base := g4 + 1) (v := .slice xv n cv) (by rw [HSN.out]; omega) (by have h := HO.out; rw [List.take_of_length_le (by rw [HSN.out]; exact Nat.le_refl _)] at h; rw [HSN.out]; exact h)
      rw [HSN.out] at hvn hcn1
      rw [hvn] at HX
      have hbl := bestN_lt S n (by omega)
      have HQ : Hid (ZSRow wr tn S) := hqn
      have HNB : Hid (nxtK A U = bestN S n) := by show _ = _; rw [HNK.out, HNA.out]
      have HNM : Hid (nxtL A U = S.set (bestN S n) (S.getD (bestN S n) 0 - A.sum)) := by show _ = _; rw [HNL.out, HNA.out]
      have hbd := HAB.out (bestN S n) (by rw [HNU.out]; exact hbl)
      have HCN : Hid (n ≤ cn ∧ cn ≤ 9223372036854775807) := ⟨hcn1, hcn2⟩
      have hcell : wr.drew.cell? ⟨tn, bestN S n, none⟩ = some (.int .i64 (S.getD (bestN S n) 0)) ∧ wr.drew.frozen? ⟨tn, bestN S n, none⟩ = false := by
        have h := hqn.2 (bestN S n) (by rw [HSN.out]; exact hbl)
        rw [← getD_get] at h
        exact h
      have hset := zs_setT (w := wr.drew) (g := tn) (L := S) hqn (bestN S n) (by rw [HSN.out]; exact hbl) (S.getD (bestN S n) 0 - A.sum)
      obtain ⟨bk, hbke⟩ : ∃ bk, bk = bestN S n := ⟨_, rfl⟩
      rw [← hbke] at HNB HNM hbl hbd hcell hset ⊢
      rw [← HNM.out] at hset
      have HSET : Hid (ZSRow (wr.drew.setCell ⟨tn, bk, none⟩ (.int .i64 (S.getD bk 0 - A.sum))) tn (nxtL A U)) := hset
      obtain ⟨y, hy⟩ : ∃ y, y = S.getD bk 0 := ⟨_, rfl⟩
      obtain ⟨sm, hsm⟩ : ∃ sm, sm = A.sum := ⟨_, rfl⟩
      rw [← hy] at hbd hcell HSET
      rw [← hsm] at HSET hsb HTT
      have hbki : (bk : Int) < (n : Int) := by omega
      have hwrp : IntKind.i64.wrap (y - sm) = y - sm := i64_wrap (by omega) (by omega)
      clear hbke hy hsm HNM hset hqn hvn hlt HAB HSG HUB HWB HNK HNL HCU HO
      go_wp2_with fail
      refine wp_region_noPanic ?_
      have hSX : Below w.heap.size w wr.drew ∧ wr.drew.heap[w.heap.size]? = some (.cells #[.slice (some ⟨ba, oa, none⟩) n ca, .slice (some ⟨bu, ou, none⟩) n cu] 30) ∧ wr.drew.heap[g4]? = some (.cells #[.slice (some ⟨t, 0, none⟩) n cp, .slice (some ⟨tn, 0, none⟩) n cn] 30) := ⟨hb.drew, HB1.out, HX.out⟩
      have h2X : wr.drew.heap[w.heap.size + 1]? = some (.cells #[.slice none 0 0, .slice none 0 0] 30) := HB2.out
      have hTX : ZSRow wr.drew t A := HT.out
      have htX : tn < wr.drew.heap.size := HQ.out.1
      obtain ⟨hcX, hfX⟩ := hcell
      refine wp_region_held_drew (S := fun W : World => Below w.heap.size w W ∧ W.heap[w.heap.size]? = some (.cells #[.slice (some ⟨ba, oa, none⟩) n ca, .slice (some ⟨bu, ou, none⟩) n cu] 30) ∧ W.heap[g4]? = some (.cells #[.slice (some ⟨t, 0, none⟩) n cp, .slice (some ⟨tn, 0, none⟩) n cn] 30)) (by kernel_rfl) hSX (fun hHeld => ?_)
      have hgrX : g4 < wr.drew.heap.size := hgr
      generalize wr.drew = wX at *
      refine wpAnyH_take (i := 0) (v := .pointer (some ⟨g4, 1, none⟩)) rfl (by kernel_rfl) (by kernel_rfl) (by kernel_rfl) (fun _ _ _ h => h) (Or.inl ⟨by rfl, ?_⟩) (by assumption) ?_
      · intro W hSW
        go_simp
      simp only [Act.put, List.getElem_toArray, List.getElem_cons_zero, List.setIfInBounds_toArray, List.set_cons_succ, List.set_cons_zero]
      refine wpAnyH_take (i := 1) (v := .slice (some ⟨tn, 0, none⟩) n cn) rfl (by kernel_rfl) (by kernel_rfl) (by kernel_rfl) (fun _ _ _ h => h) (Or.inl ⟨by rfl, ?_⟩) (by assumption) ?_
      · intro W hSW
        obtain ⟨⟨s0, s1⟩, _⟩ := trn_cells hSW.2.2
        go_simp
      simp only [Act.put, List.getElem_toArray, List.getElem_cons_succ, List.getElem_cons_zero, List.setIfInBounds_toArray, List.set_cons_succ, List.set_cons_zero]
      refine wpAnyH_take (i := 2) (v := .int .i64 (bk : Int)) rfl (by kernel_rfl) (by kernel_rfl) (by kernel_rfl) (fun _ _ _ h => h) (Or.inl ⟨by rfl, ?_⟩) (by assumption) ?_
      · intro W hSW
        go_simp
      simp only [Act.put, List.getElem_toArray, List.getElem_cons_succ, List.getElem_cons_zero, List.setIfInBounds_toArray, List.set_cons_succ, List.set_cons_zero]
      refine wpAnyH_take (i := 3) (v := .pointer (some ⟨tn, bk, none⟩)) rfl (by kernel_rfl) (by kernel_rfl) (by kernel_rfl) (fun _ _ _ h => h) (Or.inl ⟨by rfl, ?_⟩) (by assumption) ?_
      · intro W hSW
        go_simp
      simp only [Act.put, List.getElem_toArray, List.getElem_cons_succ, List.getElem_cons_zero, List.setIfInBounds_toArray, List.set_cons_succ, List.set_cons_zero]
      refine wpAnyH_take (i := 5) (v := .pointer (some ⟨w.heap.size, 0, none⟩)) rfl (by kernel_rfl) (by kernel_rfl) (by kernel_rfl) (fun _ _ _ h => h) (Or.inl ⟨by rfl, ?_⟩) (by assumption) ?_
      · intro W hSW
        go_simp
      simp only [Act.put, List.getElem_toArray, List.getElem_cons_succ, List.getElem_cons_zero, List.setIfInBounds_toArray, List.set_cons_succ, List.set_cons_zero]
      refine wpAnyH_take (i := 6) (v := .slice (some ⟨ba, oa, none⟩) n ca) rfl (by kernel_rfl) (by kernel_rfl) (by kernel_rfl) (fun _ _ _ h => h) (Or.inl ⟨by rfl, ?_⟩) (by assumption) ?_
      · intro W hSW
        obtain ⟨⟨s0, s1⟩, _⟩ := trn_cells hSW.2.1
        go_simp
      simp only [Act.put, List.getElem_toArray, List.getElem_cons_succ, List.getElem_cons_zero, List.setIfInBounds_toArray, List.set_cons_succ, List.set_cons_zero]
      refine wpAnyH_ready (rs := [4, 7]) (by kernel_rfl) (by simp) ?_
      refine AllReadyH.cons rfl (fun K hK => ?_) (AllReadyH.cons rfl (fun K hK => ?_) AllReadyH.nil)
      · skip
        rw [if_pos (by rfl)]
        go_simp
        refine hK.out _ _ hSX (fun _ => ?_)
        clear hK K
        refine wpAnyH_ready (rs := [7]) (by kernel_rfl) (by simp) ?_
        refine AllReadyH.cons rfl (fun K hK => ?_) AllReadyH.nil
        rw [if_pos (by rfl)]
        go_simp
        refine (HTT.out _ hSX.1).mono ?_
        rintro e wZ ⟨rfl, hwz⟩
        rw [hwz]
        clear hwz wZ
        go_simp
        refine hK.out _ _ hSX (fun _ => ?_)
        clear hK K
        refine wpAnyH_take (i := 8) (v := .int .i64 (y - sm)) rfl (by kernel_rfl) (by kernel_rfl) (by kernel_rfl) (fun _ _ _ h => h) (Or.inl ⟨by rfl, ?_⟩) (by assumption) ?_
        · intro W hSW
          go_simp
        simp only [Act.put, List.getElem_toArray, List.getElem_cons_succ, List.getElem_cons_zero, List.setIfInBounds_toArray, List.set_cons_succ, List.set_cons_zero]
        refine wpAnyH_take (i := 9) (v := .pointer (some ⟨tn, bk, none⟩)) rfl (by kernel_rfl) (by kernel_rfl) (by kernel_rfl) (fun _ _ _ h => h) (Or.inl ⟨by rfl, ?_⟩) (by assumption) ?_
        · intro W hSW
          go_simp
        simp only [Act.put, List.getElem_toArray, List.getElem_cons_succ, List.getElem_cons_zero, List.setIfInBounds_toArray, List.set_cons_succ, List.set_cons_zero]
        refine wpAnyH_ready (rs := [10]) (by kernel_rfl) (by simp) ?_
        refine AllReadyH.cons rfl (fun K hK => ?_) AllReadyH.nil
        rw [if_pos (by rfl)]
        have hk9 := kpt_set wX tn bk (.int .i64 (y - sm)) (S := fun j => j = tn) rfl
        have hS9 : Below w.heap.size w (wX.setCell ⟨tn, bk, none⟩ (.int .i64 (y - sm))) ∧ (wX.setCell ⟨tn, bk, none⟩ (.int .i64 (y - sm))).heap[w.heap.size]? = some (.cells #[.slice (some ⟨ba, oa, none⟩) n ca, .slice (some ⟨bu, ou, none⟩) n cu] 30) ∧ (wX.setCell ⟨tn, bk, none⟩ (.int .i64 (y - sm))).heap[g4]? = some (.cells #[.slice (some ⟨t, 0, none⟩) n cp, .slice (some ⟨tn, 0, none⟩) n cn] 30) := ⟨hSX.1.trans (hk9.below hSX.1.size (fun k0 hk0 h => by omega)), (hk9.block _ (by omega) (by omega)).trans hSX.2.1, (hk9.block _ (by omega) (by omega)).trans hSX.2.2⟩
        have h29 := (hk9.block (w.heap.size + 1) (by omega) (by omega)).trans h2X
        have hT9 := hTX.apart hk9 (by omega)
        have hQ9 := HSET.out
        go_simp
        refine hK.out _ _ hS9 (fun _ => ?_)
        clear hK K
        refine wpAnyH_done (by kernel_rfl) ?_ _
        refine NoPanic.normal ?_
        obtain ⟨w9, hw9⟩ : ∃ W, W = wX.setCell ⟨tn, bk, none⟩ (.int .i64 (y - sm)) := ⟨_, rfl⟩
        rw [← hw9] at hS9 h29 hT9 hQ9
        rw [← hw9]
        have H29 : Hid (w9.heap[w.heap.size + 1]? = some (.cells #[.slice none 0 0, .slice none 0 0] 30)) := h29
        have HQ9 : Hid (ZSRow w9 t A ∧ ZSRow w9 tn (nxtL A U)) := ⟨hT9, hQ9⟩
        have hb9 : Below w.heap.size w w9 := hS9.1
        obtain ⟨⟨c0, c1⟩, _⟩ := trn_cells hS9.2.2
        obtain ⟨⟨d0, d1⟩, ⟨z0, z1⟩⟩ := trn_cells h29
        clear hS9 h29 hT9 hQ9 hw9 hk9 hcX hfX HSET
        go_wp2_with fail
        (try simp only [Exit.inBlock, Exit.then])
        refine bodyPost_ret (results_trn rfl _ _ (w.heap.size + 1) 30 #[.slice (some ⟨t, 0, none⟩) n cp, .slice (some ⟨tn, 0, none⟩) n cn] (0, 0) _ (.int .i64 (bk : Int)) rfl rfl ?_ Try.underlying30 rfl (by kernel_rfl)) rfl ⟨⟨t, cp, tn, cn, ?_, HCP.out.1, HCP.out.2, HCN.out.1, HCN.out.2, by omega, by omega, by omega, ?_, ?_⟩, ?_⟩
        · exact put2v_heap H29.out
        · rw [HNB.out]
        · exact put2v_far HQ9.out.1 (by omega)
        · exact put2v_far HQ9.out.2 (by omega)
        · exact put2v_below hb9 (by omega) _ _
      · skip
        rw [if_pos (by rfl)]
        go_simp
        refine (HTT.out _ hSX.1).mono ?_
        rintro e wZ ⟨rfl, hwz⟩
        rw [hwz]
        clear hwz wZ
        go_simp
        refine hK.out _ _ hSX (fun _ => ?_)
        clear hK K
        refine wpAnyH_ready (rs := [4]) (by kernel_rfl) (by simp) ?_
        refine AllReadyH.cons rfl (fun K hK => ?_) AllReadyH.nil
        rw [if_pos (by rfl)]
        go_simp
        refine hK.out _ _ hSX (fun _ => ?_)
        clear hK K
        refine wpAnyH_take (i := 8) (v := .int .i64 (y - sm)) rfl (by kernel_rfl) (by kernel_rfl) (by kernel_rfl) (fun _ _ _ h => h) (Or.inl ⟨by rfl, ?_⟩) (by assumption) ?_
        · intro W hSW
          go_simp
        simp only [Act.put, List.getElem_toArray, List.getElem_cons_succ, List.getElem_cons_zero, List.setIfInBounds_toArray, List.set_cons_succ, List.set_cons_zero]
        refine wpAnyH_take (i := 9) (v := .pointer (some ⟨tn, bk, none⟩)) rfl (by kernel_rfl) (by kernel_rfl) (by kernel_rfl) (fun _ _ _ h => h) (Or.inl ⟨by rfl, ?_⟩) (by assumption) ?_
        · intro W hSW
          go_simp
        simp only [Act.put, List.getElem_toArray, List.getElem_cons_succ, List.getElem_cons_zero, List.setIfInBounds_toArray, List.set_cons_succ, List.set_cons_zero]
        refine wpAnyH_ready (rs := [10]) (by kernel_rfl) (by simp) ?_
        refine AllReadyH.cons rfl (fun K hK => ?_) AllReadyH.nil
        rw [if_pos (by rfl)]
        have hk9 := kpt_set wX tn bk (.int .i64 (y - sm)) (S := fun j => j = tn) rfl
        have hS9 : Below w.heap.size w (wX.setCell ⟨tn, bk, none⟩ (.int .i64 (y - sm))) ∧ (wX.setCell ⟨tn, bk, none⟩ (.int .i64 (y - sm))).heap[w.heap.size]? = some (.cells #[.slice (some ⟨ba, oa, none⟩) n ca, .slice (some ⟨bu, ou, none⟩) n cu] 30) ∧ (wX.setCell ⟨tn, bk, none⟩ (.int .i64 (y - sm))).heap[g4]? = some (.cells #[.slice (some ⟨t, 0, none⟩) n cp, .slice (some ⟨tn, 0, none⟩) n cn] 30) := ⟨hSX.1.trans (hk9.below hSX.1.size (fun k0 hk0 h => by omega)), (hk9.block _ (by omega) (by omega)).trans hSX.2.1, (hk9.block _ (by omega) (by omega)).trans hSX.2.2⟩
        have h29 := (hk9.block (w.heap.size + 1) (by omega) (by omega)).trans h2X
        have hT9 := hTX.apart hk9 (by omega)
        have hQ9 := HSET.out
        go_simp
        refine hK.out _ _ hS9 (fun _ => ?_)
        clear hK K
        refine wpAnyH_done (by kernel_rfl) ?_ _
        refine NoPanic.normal ?_
        obtain ⟨w9, hw9⟩ : ∃ W, W = wX.setCell ⟨tn, bk, none⟩ (.int .i64 (y - sm)) := ⟨_, rfl⟩
        rw [← hw9] at hS9 h29 hT9 hQ9
        rw [← hw9]
        have H29 : Hid (w9.heap[w.heap.size + 1]? = some (.cells #[.slice none 0 0, .slice none 0 0] 30)) := h29
        have HQ9 : Hid (ZSRow w9 t A ∧ ZSRow w9 tn (nxtL A U)) := ⟨hT9, hQ9⟩
        have hb9 : Below w.heap.size w w9 := hS9.1
        obtain ⟨⟨c0, c1⟩, _⟩ := trn_cells hS9.2.2
        obtain ⟨⟨d0, d1⟩, ⟨z0, z1⟩⟩ := trn_cells h29
        clear hS9 h29 hT9 hQ9 hw9 hk9 hcX hfX HSET
        go_wp2_with fail
        (try simp only [Exit.inBlock, Exit.then])
        refine bodyPost_ret (results_trn rfl _ _ (w.heap.size + 1) 30 #[.slice (some ⟨t, 0, none⟩) n cp, .slice (some ⟨tn, 0, none⟩) n cn] (0, 0) _ (.int .i64 (bk : Int)) rfl rfl ?_ Try.underlying30 rfl (by kernel_rfl)) rfl ⟨⟨t, cp, tn, cn, ?_, HCP.out.1, HCP.out.2, HCN.out.1, HCN.out.2, by omega, by omega, by omega, ?_, ?_⟩, ?_⟩
        · exact put2v_heap H29.out
        · rw [HNB.out]
        · exact put2v_far HQ9.out.1 (by omega)
        · exact put2v_far HQ9.out.2 (by omega)
        · exact put2v_below hb9 (by omega) _ _
end Go.Proofs.Ytfbnigicigajeaa

namespace Go.Proofs.Ytfbnigicigajeaa
open Go.RowKit

theorem results_trn30 {fn : Func} {p u z : Tmp} {ty : TypeId} (h : fn.results = #[.cell p ty, .tmp u, .tmp z]) (tmps : Array Value) (P : Program) (w : World) :
    (results fn tmps).run P w =
      ((asAddr (tmps.getD p undef)).run P w).andThen fun a w₁ => ((loadVar ty a).run P w₁).andThen fun v w₂ => .ok (.tuple #[v, tmps.getD u undef, tmps.getD z undef]) w₂ := by
  simp only [results, h]
  simp [Sem.run_bind, Result.andThen]
/-- A struct and two plain values, told. -/
theorem results_trn3 {P : Program} {fn : Func} {p u z : Tmp} {ty : TypeId} (h : fn.results = #[.cell p ty, .tmp u, .tmp z]) (tmps : Array Value) (w : World) (g : Nat) (t : TypeId) (cs : Array Value) (fr : Nat × Nat) (d : TypeDesc) (x y : Value)
    (hp : tmps.getD p undef = .pointer (some ⟨g, 0, none⟩)) (hu : tmps.getD u undef = x) (hz : tmps.getD z undef = y) (hg : w.heap[g]? = some (.cells cs t fr))
    (hd0 : P.underlying ty = some d) (hd : (match d with | .struct _ | .array _ _ => true | _ => false) = true) (hi : (P.info? ty).map (·.size) = some cs.size) :
    (results fn tmps).run P w = .ok (.tuple #[.agg cs, x, y]) w := by
  have hp' : tmps[p]?.getD undef = .pointer (some ⟨g, 0, none⟩) := by simpa using hp
  have hu' : tmps[u]?.getD undef = x := by simpa using hu
  have hz' : tmps[z]?.getD undef = y := by simpa using hz
  rw [results_trn30 h]
  simp [hp', hu', hz', asAddr, run_loadVar_row w g t ty cs fr d hg hd0 hd hi, Result.andThen]
/-- What NextTurn tells. -/
def NTA (w' : World) (base : Nat) (ok : Bool) (k : Nat) (A L : List Int) (e : Ending) : Prop := ∃ va vu, e = .returned (.tuple #[TrnV va vu, .int .i64 (if ok then (k : Int) else 0), .bool ok]) ∧ OwnT w' base va vu (if ok then A else []) (if ok then L else [])
theorem nta_off (w' : World) (base k : Nat) (A L : List Int) : NTA w' base false k A L (.returned (.tuple #[.agg #[.slice none 0 0, .slice none 0 0], .int .i64 0, .bool false])) := ⟨_, _, rfl, .inl ⟨rfl, rfl, rfl, rfl⟩⟩

set_option maxRecDepth 20000 in
set_option maxHeartbeats 8000000 in
theorem sNextTurn_any (va vu : Value) (A U : List Int) (w : World) (ha : ZRow .i64 w va A) (hu : ZRow .i64 w vu U) (hla : A.length ≤ 1048576) :
    Calls Try.prog 10 #[TrnV va vu] w fun e w' => NTA w' w.heap.size (nxtB A U) (nxtK A U) A (nxtL A U) e ∧ Below w.heap.size w w' := by
  have HG : Hid (∀ W, Below w.heap.size w W → Calls Try.prog 12 #[TrnV va vu] W fun e w' => e = .returned (.bool (goodT A U)) ∧ Below W.heap.size W w') := fun W hW => sGoodTurn_any va vu A U W (ha.kept hW) (hu.kept hW) hla
  have HNX : Hid (goodT A U = true → ∀ W, Below w.heap.size w W → Calls Try.prog 20 #[TrnV va vu] W fun e w' => NxA w' W.heap.size A U e ∧ Below W.heap.size W w') := fun hg W hW => l12Next_any va vu A U W (ha.kept hW) (hu.kept hW) hg
  have HG2 : Hid (∀ v1 v2 W, ZRow .i64 W v1 A → ZRow .i64 W v2 (nxtL A U) → Calls Try.prog 12 #[TrnV v1 v2] W fun e w' => e = .returned (.bool (goodT A (nxtL A U))) ∧ Below W.heap.size W w') := fun v1 v2 W h1 h2 => sGoodTurn_any v1 v2 A (nxtL A U) W h1 h2 hla
  obtain ⟨xa, ca, rfl, hca, hcam, _⟩ := zrow_value ha
  obtain ⟨xu, cu, rfl, hcu, hcum, _⟩ := zrow_value hu
  obtain ⟨W0, hW0⟩ : ∃ W0, W0 = (w.alloc (.cells #[.slice xa A.length ca, .slice xu U.length cu] 30)).alloc (.cells #[.slice none 0 0, .slice none 0 0] 30) := ⟨_, rfl⟩
  have hb0 : Below w.heap.size w W0 := by rw [hW0]; exact (trn_below2 (Below.refl _ _)).2.2
  have hx1 : W0.heap[w.heap.size]? = some (.cells #[.slice xa A.length ca, .slice xu U.length cu] 30) := by rw [hW0]; exact (trn_below2 (Below.refl _ _)).1
  have hx2 : W0.heap[w.heap.size + 1]? = some (.cells #[.slice none 0 0, .slice none 0 0] 30) := by rw [hW0]; exact (trn_below2 (Below.refl _ _)).2.1
  have HX1 : Hid (W0.heap[w.heap.size]? = some (.cells #[.slice xa A.length ca, .slice xu U.length cu] 30)) := hx1
  have HX2 : Hid (W0.heap[w.heap.size + 1]? = some (.cells #[.slice none 0 0, .slice none 0 0] 30)) := hx2
  have hs0 : w.heap.size + 1 < W0.heap.size := by rw [hW0]; simp
  have HW0 : Hid ((w.alloc (.cells #[.slice xa A.length ca, .slice xu U.length cu] 30)).alloc (.cells #[.slice none 0 0, .slice none 0 0] 30) = W0) := hW0.symm
  obtain ⟨⟨p0, p1⟩, _⟩ := trn_cells hx1
  unfold TrnV at HG HNX HG2 ⊢
  clear hW0 hx1 hx2 ha hu
  cases hg : goodT A U with
  | false =>
    rw [hg] at HG
    have HB : Hid (nxtB A U = false) := by show _ = _; unfold nxtB; rw [hg]; rfl
    rw [HB.out]
    clear hg
    go_enter Try.func10, Try.ntmps10
    go_wp2_with (rw [HW0.out])
    (try rw [HW0.out])
    refine (HG.out _ hb0).mono ?_
    rintro e w1 ⟨rfl, hb1⟩
    have HX21 : Hid (w1.heap[w.heap.size + 1]? = some (.cells #[.slice none 0 0, .slice none 0 0] 30)) := (hb1.block _ hs0).trans HX2.out
    have hbw1 := hb0.trans (hb1.mono hb0.size)
    obtain ⟨⟨d0, d1⟩, ⟨z0, z1⟩⟩ := trn_cells HX21.out
    clear p0 p1 hb1
    go_wp2_with fail
    (try simp only [Exit.inBlock, Exit.then])
    refine bodyPost_ret (results_trn3 rfl _ _ (w.heap.size + 1) 30 #[.slice none 0 0, .slice none 0 0] (0, 0) _ (.int .i64 0) (.bool false) rfl rfl rfl ?_ Try.underlying30 rfl (by kernel_rfl)) rfl ⟨nta_off _ _ _ _ _, ?_⟩
    · exact put2v_heap HX21.out
    · exact put2v_below hbw1 (by omega) _ _
  | true =>
    rw [hg] at HG
    have HN := HNX.out hg
    have HNB : Hid (nxtB A U = goodT A (nxtL A U)) := by show _ = _; unfold nxtB; rw [hg]; rfl
    have HLL : Hid ((nxtL A U).length = A.length) := nxtL_length (goodT_parts hg).2.1
    rw [HNB.out]
    clear hg HNX
    go_enter Try.func10, Try.ntmps10
    go_wp2_with (rw [HW0.out])
    (try rw [HW0.out])
    refine (HG.out _ hb0).mono ?_
    rintro e w1 ⟨rfl, hb1⟩
    have hbw1 := hb0.trans (hb1.mono hb0.size)
    have HX11 : Hid (w1.heap[w.heap.size]? = some (.cells #[.slice xa A.length ca, .slice xu U.length cu] 30)) := (hb1.block _ (by omega)).trans HX1.out
    have HX21 : Hid (w1.heap[w.heap.size + 1]? = some (.cells #[.slice none 0 0, .slice none 0 0] 30)) := (hb1.block _ hs0).trans HX2.out
    have hs1 := hb1.size
    clear p0 p1 hb1
    obtain ⟨⟨p0, p1⟩, _⟩ := trn_cells HX11.out
    go_wp2_with fail
    refine (HN _ hbw1).mono ?_
    rintro e w2 ⟨⟨g1, c1, g2, c2, rfl, hc1, hm1, hc2, hm2, hg1, hg2, hne, hq1, hq2⟩, hb2⟩
    unfold TrnV
    have hbw2 := hbw1.trans (hb2.mono hbw1.size)
    have hX22 : w2.heap[w.heap.size + 1]? = some (.cells #[.slice none 0 0, .slice none 0 0] 30) := (hb2.block _ (by omega)).trans HX21.out
    have hs2 := hb2.size
    have hgl1 : g1 < w2.heap.size := hq1.1
    have hgl2 : g2 < w2.heap.size := hq2.1
    obtain ⟨W3, hW3⟩ : ∃ W3, W3 = w2.alloc (.cells #[.slice (some ⟨g1, 0, none⟩) A.length c1, .slice (some ⟨g2, 0, none⟩) A.length c2] 30) := ⟨_, rfl⟩
    have hb23 : Below w2.heap.size w2 W3 := by rw [hW3]; exact (Below.refl _ _).alloc (Nat.le_refl _) _
    have hx3 : W3.heap[w2.heap.size]? = some (.cells #[.slice (some ⟨g1, 0, none⟩) A.length c1, .slice (some ⟨g2, 0, none⟩) A.length c2] 30) := by rw [hW3]; exact trn_new _ _
    have HX23 : Hid (W3.heap[w.heap.size + 1]? = some (.cells #[.slice none 0 0, .slice none 0 0] 30)) := (hb23.block _ (by omega)).trans hX22
    have HQ3 : Hid (ZSRow W3 g1 A ∧ ZSRow W3 g2 (nxtL A U)) := ⟨hq1.kept hb23, hq2.kept hb23⟩
    have hbw3 := hbw2.trans (hb23.mono hbw2.size)
    have HC : Hid (A.length ≤ c1 ∧ c1 ≤ 9223372036854775807 ∧ A.length ≤ c2 ∧ c2 ≤ 9223372036854775807) := ⟨hc1, hm1, hc2, hm2⟩
    have HX3 : Hid (W3.heap[w2.heap.size]? = some (.cells #[.slice (some ⟨g1, 0, none⟩) A.length c1, .slice (some ⟨g2, 0, none⟩) A.length c2] 30)) := hx3
    have HR3 : Hid (ZRow .i64 W3 (.slice (some ⟨g1, 0, none⟩) A.length c1) A ∧ ZRow .i64 W3 (.slice (some ⟨g2, 0, none⟩) A.length c2) (nxtL A U)) := by
      refine ⟨HQ3.out.1.rowc hc1 hm1, ?_⟩
      have h := HQ3.out.2.rowc (cap := c2) (by rw [HLL.out]; exact hc2) hm2
      rw [HLL.out] at h
      exact h
    have HW3 : Hid (w2.alloc (.cells #[.slice (some ⟨g1, 0, none⟩) A.length c1, .slice (some ⟨g2, 0, none⟩) A.length c2] 30) = W3) := hW3.symm
    have hs23 : w2.heap.size < W3.heap.size := by rw [hW3]; simp
    clear p0 p1 hb2 hX22 hq1 hq2 hW3 hb23 HX11 HX21 HX1 HX2 hc1 hm1 hc2 hm2 hbw2 hbw1
    obtain ⟨⟨p0, p1⟩, _⟩ := trn_cells hx3
    clear hx3
    go_wp2_with (rw [HW3.out])
    refine (HG2.out _ _ _ HR3.out.1 HR3.out.2).mono ?_
    rintro e w4 ⟨rfl, hb4⟩
    have hbw4 := hbw3.trans (hb4.mono hbw3.size)
    have HX24 : Hid (w4.heap[w.heap.size + 1]? = some (.cells #[.slice none 0 0, .slice none 0 0] 30)) := (hb4.block _ (by omega)).trans HX23.out
    have HX34 : Hid (w4.heap[w2.heap.size]? = some (.cells #[.slice (some ⟨g1, 0, none⟩) A.length c1, .slice (some ⟨g2, 0, none⟩) A.length c2] 30)) := (hb4.block _ hs23).trans HX3.out
    have HQ4 : Hid (ZSRow w4 g1 A ∧ ZSRow w4 g2 (nxtL A U)) := ⟨HQ3.out.1.kept hb4, HQ3.out.2.kept hb4⟩
    clear p0 p1 hb4
    cases hok : goodT A (nxtL A U) with
    | false =>
      have HOK : Hid (goodT A (nxtL A U) = false) := hok
      obtain ⟨⟨d0, d1⟩, ⟨z0, z1⟩⟩ := trn_cells HX24.out
      go_wp2_with fail
      (try simp only [Exit.inBlock, Exit.then])
      refine bodyPost_ret (results_trn3 rfl _ _ (w.heap.size + 1) 30 #[.slice none 0 0, .slice none 0 0] (0, 0) _ (.int .i64 0) (.bool false) rfl rfl rfl ?_ Try.underlying30 rfl (by kernel_rfl)) rfl ⟨by rw [HOK.out]; exact nta_off _ _ _ _ _, ?_⟩
      · exact put2v_heap HX24.out
      · exact put2v_below hbw4 (by omega) _ _
    | true =>
      have HOK : Hid (goodT A (nxtL A U) = true) := hok
      obtain ⟨⟨d0, d1⟩, ⟨z0, z1⟩⟩ := trn_cells HX24.out
      obtain ⟨⟨p0, p1⟩, _⟩ := trn_cells HX34.out
      go_wp2_with fail
      (try simp only [Exit.inBlock, Exit.then])
      refine bodyPost_ret (results_trn3 rfl _ _ (w.heap.size + 1) 30 #[.slice (some ⟨g1, 0, none⟩) A.length c1, .slice (some ⟨g2, 0, none⟩) A.length c2] (0, 0) _ (.int .i64 (nxtK A U : Int)) (.bool true) rfl rfl rfl ?_ Try.underlying30 rfl (by kernel_rfl)) rfl ⟨?_, ?_⟩
      · exact put2v_heap HX24.out
      · rw [HOK.out]
        refine ⟨_, _, rfl, .inr ⟨g1, c1, g2, c2, rfl, ?_, HC.out.1, HC.out.2.1, ?_, HC.out.2.2.2, by omega, by omega, hne, ?_, ?_⟩⟩
        · show Value.slice _ A.length c2 = Value.slice _ (nxtL A U).length c2
          rw [HLL.out]
        · show (nxtL A U).length ≤ c2
          rw [HLL.out]; exact HC.out.2.2.1
        · exact put2v_far HQ4.out.1 (by omega)
        · exact put2v_far HQ4.out.2 (by omega)
      · exact put2v_below hbw4 (by omega) _ _
end Go.Proofs.Ytfbnigicigajeaa

namespace Go.Proofs.Ytfbnigicigajeaa
open Go.RowKit

/-- The numbers with the first k weights added. -/
def parA (U A : List Int) (k : Nat) : List Int := (addZ U A).take k ++ U.drop k
theorem parA_zero (U A : List Int) : parA U A 0 = U := by simp [parA]
theorem parA_length {U A : List Int} (h : U.length = A.length) (k : Nat) (hk : k ≤ U.length) : (parA U A k).length = U.length := by unfold parA; rw [List.length_append, List.length_take, addZ_length h, List.length_drop]; omega
theorem parA_end {U A : List Int} (h : U.length = A.length) : parA U A U.length = addZ U A := by unfold parA; rw [List.take_of_length_le (by rw [addZ_length h]; exact Nat.le_refl _), List.drop_length, List.append_nil]
theorem parA_at {U A : List Int} (h : U.length = A.length) (k : Nat) (hk : k < U.length) : (parA U A k)[k]'(by rw [parA_length h k (by omega)]; exact hk) = U[k] := by
  unfold parA
  have hm : ((addZ U A).take k).length = k := by rw [List.length_take, addZ_length h]; omega
  rw [List.getElem_append_right (by omega)]
  simp [hm]
theorem parA_next {U A : List Int} (h : U.length = A.length) (k : Nat) (hk : k < U.length) : parA U A (k + 1) = (parA U A k).set k (U[k] + A[k]'(by omega)) := by
  unfold parA
  have hz : k < (addZ U A).length := by rw [addZ_length h]; exact hk
  have hm : ((addZ U A).take k).length = k := by rw [List.length_take]; omega
  rw [List.take_succ_eq_append_getElem hz, addZ_get h hk, List.set_append_right _ _ (by omega), hm, Nat.sub_self, List.drop_eq_getElem_cons hk]
  simp only [List.set_cons_zero, List.append_assoc, List.singleton_append]

set_option maxRecDepth 20000 in
set_option maxHeartbeats 8000000 in
theorem iNextTurn_any (va vu : Value) (A U : List Int) (w : World) (ha : ZRow .i64 w va A) (hu : ZRow .i64 w vu U) (hla : A.length ≤ 1048576) :
    Calls Try.prog 9 #[TrnV va vu] w fun e w' => NTA w' w.heap.size (nxtB A U) (nxtK A U) A (nxtL A U) e ∧ Below w.heap.size w w' := by
  have HG : Hid (∀ W, Below w.heap.size w W → Calls Try.prog 11 #[TrnV va vu] W fun e w' => e = .returned (.bool (goodT A U)) ∧ Below W.heap.size W w') := fun W hW => iGoodTurn_any va vu A U W (ha.kept hW) (hu.kept hW)
  have HG2 : Hid (∀ v1 v2 W, ZRow .i64 W v1 A → ZRow .i64 W v2 (nxtL A U) → Calls Try.prog 11 #[TrnV v1 v2] W fun e w' => e = .returned (.bool (goodT A (nxtL A U))) ∧ Below W.heap.size W w') := fun v1 v2 W h1 h2 => iGoodTurn_any v1 v2 A (nxtL A U) W h1 h2
  cases hg : goodT A U with
  | false =>
    obtain ⟨xa, ca, rfl, hca, hcam, _⟩ := zrow_value ha
    obtain ⟨xu, cu, rfl, hcu, hcum, _⟩ := zrow_value hu
    obtain ⟨W0, hW0⟩ : ∃ W0, W0 = (w.alloc (.cells #[.slice xa A.length ca, .slice xu U.length cu] 30)).alloc (.cells #[.slice none 0 0, .slice none 0 0] 30) := ⟨_, rfl⟩
    have hb0 : Below w.heap.size w W0 := by rw [hW0]; exact (trn_below2 (Below.refl _ _)).2.2
    have hx1 : W0.heap[w.heap.size]? = some (.cells #[.slice xa A.length ca, .slice xu U.length cu] 30) := by rw [hW0]; exact (trn_below2 (Below.refl _ _)).1
    have HX2 : Hid (W0.heap[w.heap.size + 1]? = some (.cells #[.slice none 0 0, .slice none 0 0] 30)) := by rw [hW0]; exact (trn_below2 (Below.refl _ _)).2.1
    have hs0 : w.heap.size + 1 < W0.heap.size := by rw [hW0]; simp
    have HW0 : Hid ((w.alloc (.cells #[.slice xa A.length ca, .slice xu U.length cu] 30)).alloc (.cells #[.slice none 0 0, .slice none 0 0] 30) = W0) := hW0.symm
    obtain ⟨⟨p0, p1⟩, _⟩ := trn_cells hx1
    rw [hg] at HG
    have HB : Hid (nxtB A U = false) := by show _ = _; unfold nxtB; rw [hg]; rfl
    rw [HB.out]
    unfold TrnV at HG ⊢
    clear hW0 hx1 ha hu hg HG2
    go_enter Try.func9, Try.ntmps9
    go_wp2_with (rw [HW0.out])
    (try rw [HW0.out])
    refine (HG.out _ hb0).mono ?_
    rintro e w1 ⟨rfl, hb1⟩
    have HX21 : Hid (w1.heap[w.heap.size + 1]? = some (.cells #[.slice none 0 0, .slice none 0 0] 30)) := (hb1.block _ hs0).trans HX2.out
    have hbw1 := hb0.trans (hb1.mono hb0.size)
    obtain ⟨⟨d0, d1⟩, ⟨z0, z1⟩⟩ := trn_cells HX21.out
    clear p0 p1 hb1
    go_wp2_with fail
    (try simp only [Exit.inBlock, Exit.then])
    refine bodyPost_ret (results_trn3 rfl _ _ (w.heap.size + 1) 30 #[.slice none 0 0, .slice none 0 0] (0, 0) _ (.int .i64 0) (.bool false) rfl rfl rfl ?_ Try.underlying30 rfl (by kernel_rfl)) rfl ⟨nta_off _ _ _ _ _, ?_⟩
    · exact put2v_heap HX21.out
    · exact put2v_below hbw1 (by omega) _ _
  | true =>
    rw [hg] at HG
    obtain ⟨hgw, hlen, hsmU, _⟩ := goodT_parts hg
    obtain ⟨⟨hp1, hp12⟩, hwt, _⟩ := goodW_parts hgw
    have hsb := sum_bound hg
    have HAB : Hid (∀ k, k < U.length → -10000 ≤ (addZ U A).getD k 0 ∧ (addZ U A).getD k 0 ≤ 10050) := fun k hk => add_bound hg hk
    have HNB : Hid (nxtB A U = goodT A (nxtL A U)) := by show _ = _; unfold nxtB; rw [hg]; rfl
    have HLL : Hid ((nxtL A U).length = A.length) := nxtL_length hlen
    have HSU : Hid (∀ v W, ZRow .i64 W v A → Calls Try.prog 25 #[v] W fun e w' => e = .returned (.int .i64 A.sum) ∧ w' = W) := fun v W h => sumOf_any v A W h hla (all_sm hwt)
    obtain ⟨xa, ca, rfl, hca, hcam, HRA⟩ := zrow_value ha
    obtain ⟨xu, cu, rfl, hcu, hcum, HRU⟩ := zrow_value hu
    obtain ⟨ba, oa, hxa, _, _⟩ := HRA.out (by omega)
    obtain ⟨bu, ou, hxu, _, _⟩ := HRU.out (by omega)
    subst hxa hxu
    have HCA : Hid (∀ W, Below w.heap.size w W → Calls Try.prog 22 #[.slice (some ⟨ba, oa, none⟩) A.length ca] W fun e w' => ∃ t cap, e = .returned (.slice (some ⟨t, 0, none⟩) A.length cap) ∧ A.length ≤ cap ∧ cap ≤ 9223372036854775807 ∧ W.heap.size ≤ t ∧ ZSRow w' t A ∧ Below W.heap.size W w') := fun W hW => cloneZ_anyT _ A W (ha.kept hW) hla (by omega)
    have HCU : Hid (∀ W, Below w.heap.size w W → Calls Try.prog 22 #[.slice (some ⟨bu, ou, none⟩) U.length cu] W fun e w' => ∃ t cap, e = .returned (.slice (some ⟨t, 0, none⟩) U.length cap) ∧ U.length ≤ cap ∧ cap ≤ 9223372036854775807 ∧ W.heap.size ≤ t ∧ ZSRow w' t U ∧ Below W.heap.size W w') := fun W hW => cloneZ_anyT _ U W (hu.kept hW) (by omega) (by omega)
    have HEL : Hid (U.length = A.length) := hlen
    have HUB : Hid (∀ k, (hk : k < U.length) → -10000 ≤ U[k] ∧ U[k] ≤ 10000) := fun k hk => sm_in (List.all_eq_true.1 hsmU _ (List.getElem_mem hk))
    have HWB : Hid (∀ k, (hk : k < A.length) → 0 ≤ A[k] ∧ A[k] ≤ 50) := fun k hk => wt_in (List.all_eq_true.1 hwt _ (List.getElem_mem hk))
    have HNK : Hid (nxtK A U = bestN (addZ U A) A.length) := by show _ = _; unfold nxtK; rw [hlen]
    have HNL : Hid (nxtL A U = (addZ U A).set (bestN (addZ U A) A.length) ((addZ U A).getD (bestN (addZ U A) A.length) 0 - A.sum)) := by show _ = _; unfold nxtL nxtK; rw [hlen]
    obtain ⟨n, hn⟩ : ∃ n, n = A.length := ⟨_, rfl⟩
    have HNA : Hid (A.length = n) := hn.symm
    have HNU : Hid (U.length = n) := by show _ = _; omega
    have hpn : 0 < n ∧ n ≤ 12 := by omega
    have hcan : n ≤ ca := by omega
    have hcun : n ≤ cu := by omega
    rw [HNB.out]
    rw [HNA.out] at HCA
    rw [HNU.out] at HCU
    unfold TrnV at HG HG2 ⊢
    rw [HNA.out, HNU.out] at HG ⊢
    clear hg hgw hsmU hwt HRA HRU ha hu hlen hn hca hcu hp1 hp12 hla
    obtain ⟨W0, hW0⟩ : ∃ W0, W0 = (w.alloc (.cells #[.slice (some ⟨ba, oa, none⟩) n ca, .slice (some ⟨bu, ou, none⟩) n cu] 30)).alloc (.cells #[.slice none 0 0, .slice none 0 0] 30) := ⟨_, rfl⟩
    have hb0 : Below w.heap.size w W0 := by rw [hW0]; exact (trn_below2 (Below.refl _ _)).2.2
    have hx1 : W0.heap[w.heap.size]? = some (.cells #[.slice (some ⟨ba, oa, none⟩) n ca, .slice (some ⟨bu, ou, none⟩) n cu] 30) := by rw [hW0]; exact (trn_below2 (Below.refl _ _)).1
    have hx2 : W0.heap[w.heap.size + 1]? = some (.cells #[.slice none 0 0, .slice none 0 0] 30) := by rw [hW0]; exact (trn_below2 (Below.refl _ _)).2.1
    have hs0 : w.heap.size + 1 < W0.heap.size := by rw [hW0]; simp
    have HW0 : Hid ((w.alloc (.cells #[.slice (some ⟨ba, oa, none⟩) n ca, .slice (some ⟨bu, ou, none⟩) n cu] 30)).alloc (.cells #[.slice none 0 0, .slice none 0 0] 30) = W0) := hW0.symm
    have HX1 : Hid (W0.heap[w.heap.size]? = some (.cells #[.slice (some ⟨ba, oa, none⟩) n ca, .slice (some ⟨bu, ou, none⟩) n cu] 30)) := hx1
    have HX2 : Hid (W0.heap[w.heap.size + 1]? = some (.cells #[.slice none 0 0, .slice none 0 0] 30)) := hx2
    obtain ⟨⟨p0, p1⟩, _⟩ := trn_cells hx1
    clear hW0 hx1 hx2
    go_enter Try.func9, Try.ntmps9
    go_wp2_with (rw [HW0.out])
    (try rw [HW0.out])
    refine (HG.out _ hb0).mono ?_
    rintro e w1 ⟨rfl, hb1⟩
    have hbw1 := hb0.trans (hb1.mono hb0.size)
    have HX11 : Hid (w1.heap[w.heap.size]? = some (.cells #[.slice (some ⟨ba, oa, none⟩) n ca, .slice (some ⟨bu, ou, none⟩) n cu] 30)) := (hb1.block _ (by omega)).trans HX1.out
    have HX21 : Hid (w1.heap[w.heap.size + 1]? = some (.cells #[.slice none 0 0, .slice none 0 0] 30)) := (hb1.block _ hs0).trans HX2.out
    have hs1 := hb1.size
    clear p0 p1 hb1 HX1 HX2 HW0 HG
    go_wp2_with fail
    have hSX : Below w1.heap.size w1 w1.drew := (Below.refl _ _).drew
    have HTS : Hid (∀ W W', Below w1.heap.size w1 W → Below W.heap.size W W' → Below w1.heap.size w1 W') := fun W W' h1 h2 => h1.trans (h2.mono h1.size)
    have HCE : Hid (∀ W, Below w1.heap.size w1 W → W.cell? ⟨w.heap.size, 0, none⟩ = some (.slice (some ⟨ba, oa, none⟩) n ca) ∧ W.cell? ⟨w.heap.size, 1, none⟩ = some (.slice (some ⟨bu, ou, none⟩) n cu)) := fun W hW => (trn_cells ((hW.block _ (by omega)).trans HX11.out)).1
    have HBW : Hid (∀ W, Below w1.heap.size w1 W → Below w.heap.size w W) := fun W hW => hbw1.trans (hW.mono hbw1.size)
    refine Code.wp_mono (Q := fun e a W => e = Exit.normal ∧ ∃ (g1 c1 g2 c2 g5 : Nat), a = { tmps := #[.agg #[.slice (some ⟨ba, oa, none⟩) n ca, .slice (some ⟨bu, ou, none⟩) n cu], .pointer (some ⟨w.heap.size, 0, none⟩), .pointer (some ⟨w.heap.size + 1, 0, none⟩), .int .i64 0, .bool false, .pointer (some ⟨g5, 0, none⟩), undef, undef, undef, .agg #[.slice (some ⟨ba, oa, none⟩) n ca, .slice (some ⟨bu, ou, none⟩) n cu], .bool true, .bool false, undef, .pointer (some ⟨w.heap.size, 0, none⟩), .slice (some ⟨ba, oa, none⟩) n ca, .slice (some ⟨g1, 0, none⟩) n c1, .pointer (some ⟨w.heap.size, 1, none⟩), .slice (some ⟨bu, ou, none⟩) n cu, .slice (some ⟨g2, 0, none⟩) n c2, .agg #[.slice (some ⟨g1, 0, none⟩) n c1, .slice (some ⟨g2, 0, none⟩) n c2], undef, undef, undef, undef, undef, undef, undef, undef, undef, undef, undef, undef, undef, undef, undef, undef, undef, undef, undef, undef, undef, undef, undef, undef, undef, undef, undef, undef, undef, undef, undef, undef, undef, undef, undef, undef, undef, undef, undef], defers := [] } ∧ n ≤ c1 ∧ c1 ≤ 9223372036854775807 ∧ n ≤ c2 ∧ c2 ≤ 9223372036854775807 ∧ w1.heap.size ≤ g1 ∧ w1.heap.size ≤ g2 ∧ w1.heap.size ≤ g5 ∧ g1 ≠ g2 ∧ g5 ≠ g1 ∧ g5 ≠ g2 ∧ ZSRow W g1 A ∧ ZSRow W g2 U ∧ W.heap[g5]? = some (.cells #[.slice (some ⟨g1, 0, none⟩) n c1, .slice (some ⟨g2, 0, none⟩) n c2] 30) ∧ Below w1.heap.size w1 W) ?_ ?_
    rotate_left
    · refine wp_region_held_drew (S := fun W : World => Below w1.heap.size w1 W) (by kernel_rfl) hSX (fun hHeld => ?_)
      generalize w1.drew = wX at *
      have hSwX := hSX
      clear hSX
      refine wpAnyH_take (i := 0) (v := .pointer (some ⟨w.heap.size, 0, none⟩)) rfl (by kernel_rfl) (by kernel_rfl) (by kernel_rfl) (fun _ _ _ h => (by cases h.1)) (Or.inl ⟨by rfl, ?_⟩) (by assumption) ?_
      · intro W hSW
        go_simp
      simp only [Act.put, List.getElem_toArray, List.getElem_cons_zero, List.setIfInBounds_toArray, List.set_cons_succ, List.set_cons_zero]
      refine wpAnyH_take (i := 1) (v := .slice (some ⟨ba, oa, none⟩) n ca) rfl (by kernel_rfl) (by kernel_rfl) (by kernel_rfl) (fun _ _ _ h => (by cases h.1)) (Or.inl ⟨by rfl, ?_⟩) (by assumption) ?_
      · intro W hSW
        obtain ⟨s0, s1⟩ := HCE.out W hSW
        go_simp
      simp only [Act.put, List.getElem_toArray, List.getElem_cons_succ, List.getElem_cons_zero, List.setIfInBounds_toArray, List.set_cons_succ, List.set_cons_zero]
      refine wpAnyH_take (i := 3) (v := .pointer (some ⟨w.heap.size, 1, none⟩)) rfl (by kernel_rfl) (by kernel_rfl) (by kernel_rfl) (fun _ _ _ h => (by cases h.1)) (Or.inl ⟨by rfl, ?_⟩) (by assumption) ?_
      · intro W hSW
        go_simp
      simp only [Act.put, List.getElem_toArray, List.getElem_cons_succ, List.getElem_cons_zero, List.setIfInBounds_toArray, List.set_cons_succ, List.set_cons_zero]
      refine wpAnyH_take (i := 4) (v := .slice (some ⟨bu, ou, none⟩) n cu) rfl (by kernel_rfl) (by kernel_rfl) (by kernel_rfl) (fun _ _ _ h => (by cases h.1)) (Or.inl ⟨by rfl, ?_⟩) (by assumption) ?_
      · intro W hSW
        obtain ⟨s0, s1⟩ := HCE.out W hSW
        go_simp
      simp only [Act.put, List.getElem_toArray, List.getElem_cons_succ, List.getElem_cons_zero, List.setIfInBounds_toArray, List.set_cons_succ, List.set_cons_zero]
      refine wpAnyH_ready (rs := [2, 7]) (by kernel_rfl) (by simp) ?_
      refine AllReadyH.cons rfl (fun K hK => ?_) (AllReadyH.cons rfl (fun K hK => ?_) AllReadyH.nil)
      · rw [if_pos (by rfl)]
        go_simp
        refine (HCA.out _ (HBW.out _ hSwX)).mono ?_
        rintro e w11 ⟨g1, c1, rfl, hc11, hc12, hlo1, hq1w11, hbw11⟩
        go_simp
        have hSw11 := HTS.out _ _ hSwX hbw11
        have hzw11 := hbw11.size
        have hzSwX := hSwX.size
        have hup1 := hq1w11.1
        refine hK.out _ _ hSw11 (fun hSS => ?_)
        clear hK hbw11
        refine wpAnyH_ready (rs := [5, 7]) (by kernel_rfl) (by simp) ?_
        refine AllReadyH.cons rfl (fun K hK => ?_) (AllReadyH.cons rfl (fun K hK => ?_) AllReadyH.nil)
        · rw [if_pos (by rfl)]
          go_simp
          refine (HCU.out _ (HBW.out _ hSw11)).mono ?_
          rintro e w12 ⟨g2, c2, rfl, hc21, hc22, hlo2, hq2w12, hbw12⟩
          go_simp
          have hSw12 := HTS.out _ _ hSw11 hbw12
          have hzw12 := hbw12.size
          have hzSw11 := hSw11.size
          have hup2 := hq2w12.1
          have hq1w12 := hq1w11.kept hbw12
          have hlq1 := hq1w11.1
          refine hK.out _ _ hSw12 (fun hSS => ?_)
          clear hK hbw12
          refine wpAnyH_take (i := 6) (v := .agg #[.slice (some ⟨g1, 0, none⟩) n c1, .slice (some ⟨g2, 0, none⟩) n c2]) rfl (by kernel_rfl) (by kernel_rfl) (by kernel_rfl) (fun _ _ _ h => (by cases h.1)) (Or.inl ⟨by rfl, ?_⟩) (by assumption) ?_
          · intro W hSW
            go_simp
          simp only [Act.put, List.getElem_toArray, List.getElem_cons_succ, List.getElem_cons_zero, List.setIfInBounds_toArray, List.set_cons_succ, List.set_cons_zero]
          refine wpAnyH_ready (rs := [7]) (by kernel_rfl) (by simp) ?_
          refine AllReadyH.cons rfl (fun K hK => ?_) AllReadyH.nil
          · rw [if_pos (by rfl)]
            go_simp
            have hSw13 : Below w1.heap.size w1 (w12.alloc (.cells #[.slice none 0 0, .slice none 0 0] 30)) := hSw12.alloc hSw12.size _
            refine hK.out _ _ hSw13 (fun hSS => ?_)
            clear hK
            refine wpAnyH_ready (rs := [8]) (by kernel_rfl) (by simp) ?_
            refine AllReadyH.cons rfl (fun K hK => ?_) AllReadyH.nil
            rw [if_pos (by rfl)]
            have hSF : Below w1.heap.size w1 (w12.alloc (.cells #[.slice (some ⟨g1, 0, none⟩) n c1, .slice (some ⟨g2, 0, none⟩) n c2] 30)) := hSw12.alloc hSw12.size _
            have hbF : Below w12.heap.size w12 (w12.alloc (.cells #[.slice (some ⟨g1, 0, none⟩) n c1, .slice (some ⟨g2, 0, none⟩) n c2] 30)) := (Below.refl _ _).alloc (Nat.le_refl _) _
            have hF : (w12.alloc (.cells #[.slice (some ⟨g1, 0, none⟩) n c1, .slice (some ⟨g2, 0, none⟩) n c2] 30)).heap[w12.heap.size]? = some (.cells #[.slice (some ⟨g1, 0, none⟩) n c1, .slice (some ⟨g2, 0, none⟩) n c2] 30) := trn_new _ _
            have hq1F := hq1w12.kept hbF
            have hq2F := hq2w12.kept hbF
            have hszF := hSw12.size
            go_simp
            refine hK.out _ _ hSF (fun hSS => ?_)
            clear hK
            refine wpAnyH_done (by kernel_rfl) ?_ _
            exact ⟨rfl, g1, c1, g2, c2, w12.heap.size, rfl, hc11, hc12, hc21, hc22, by omega, by omega, by omega, by omega, by have := hq1w12.1; omega, by have := hq2w12.1; omega, hq1F, hq2F, hF, hSF⟩
        · rw [if_pos (by rfl)]
          go_simp
          have hSw14 : Below w1.heap.size w1 (w11.alloc (.cells #[.slice none 0 0, .slice none 0 0] 30)) := hSw11.alloc hSw11.size _
          refine hK.out _ _ hSw14 (fun hSS => ?_)
          clear hK
          obtain ⟨g5, hge⟩ : ∃ g5, g5 = w11.heap.size := ⟨_, rfl⟩
          have hAw14 : (w11.alloc (.cells #[.slice none 0 0, .slice none 0 0] 30)).heap[g5]? = some (.cells #[.slice none 0 0, .slice none 0 0] 30) := by rw [hge]; exact trn_new _ _
          have hbw14 : Below w11.heap.size w11 (w11.alloc (.cells #[.slice none 0 0, .slice none 0 0] 30)) := (Below.refl _ _).alloc (Nat.le_refl _) _
          have hlAw14 : g5 < (w11.alloc (.cells #[.slice none 0 0, .slice none 0 0] 30)).heap.size := by rw [hge]; simp
          have hzw14 := hbw14.size
          have hzSw11 := hSw11.size
          have hq1w14 := hq1w11.kept hbw14
          have hlq1 := hq1w11.1
          rw [← hge]
          have hg51 : w11.heap.size ≤ g5 := by omega
          have hg52 : g5 ≤ w11.heap.size := by omega
          clear hge hbw14
          generalize w11.alloc (.cells #[.slice none 0 0, .slice none 0 0] 30) = w14 at *
          refine wpAnyH_ready (rs := [5]) (by kernel_rfl) (by simp) ?_
          refine AllReadyH.cons rfl (fun K hK => ?_) AllReadyH.nil
          · rw [if_pos (by rfl)]
            go_simp
            refine (HCU.out _ (HBW.out _ hSw14)).mono ?_
            rintro e w15 ⟨g2, c2, rfl, hc21, hc22, hlo2, hq2w15, hbw15⟩
            go_simp
            have hSw15 := HTS.out _ _ hSw14 hbw15
            have hzw15 := hbw15.size
            have hzSw14 := hSw14.size
            have hup2 := hq2w15.1
            have hAw15 : w15.heap[g5]? = some (.cells #[.slice none 0 0, .slice none 0 0] 30) := (hbw15.block g5 hlAw14).trans hAw14
            have hlAw15 : g5 < w15.heap.size := by omega
            have hq1w15 := hq1w14.kept hbw15
            have hlq1 := hq1w14.1
            refine hK.out _ _ hSw15 (fun hSS => ?_)
            clear hK hbw15
            refine wpAnyH_take (i := 6) (v := .agg #[.slice (some ⟨g1, 0, none⟩) n c1, .slice (some ⟨g2, 0, none⟩) n c2]) rfl (by kernel_rfl) (by kernel_rfl) (by kernel_rfl) (fun _ _ _ h => (by cases h.1)) (Or.inl ⟨by rfl, ?_⟩) (by assumption) ?_
            · intro W hSW
              go_simp
            simp only [Act.put, List.getElem_toArray, List.getElem_cons_succ, List.getElem_cons_zero, List.setIfInBounds_toArray, List.set_cons_succ, List.set_cons_zero]
            refine wpAnyH_ready (rs := [8]) (by kernel_rfl) (by simp) ?_
            refine AllReadyH.cons rfl (fun K hK => ?_) AllReadyH.nil
            rw [if_pos (by rfl)]
            obtain ⟨⟨r0, r1⟩, ⟨f0, f1⟩⟩ := trn_cells hAw15
            have hSF := put2v_below hSw15 (g := g5) (by omega) (.slice (some ⟨g1, 0, none⟩) n c1) (.slice (some ⟨g2, 0, none⟩) n c2)
            have hF := put2v_heap (v0 := .slice (some ⟨g1, 0, none⟩) n c1) (v1 := .slice (some ⟨g2, 0, none⟩) n c2) hAw15
            have hq1F := put2v_far (v0 := .slice (some ⟨g1, 0, none⟩) n c1) (v1 := .slice (some ⟨g2, 0, none⟩) n c2) hq1w15 (show g5 ≠ g1 by omega)
            have hq2F := put2v_far (v0 := .slice (some ⟨g1, 0, none⟩) n c1) (v1 := .slice (some ⟨g2, 0, none⟩) n c2) hq2w15 (show g5 ≠ g2 by omega)
            go_simp
            unfold put2v at hSF hF hq1F hq2F
            refine hK.out _ _ hSF (fun hSS => ?_)
            clear hK
            refine wpAnyH_done (by kernel_rfl) ?_ _
            exact ⟨rfl, g1, c1, g2, c2, g5, rfl, hc11, hc12, hc21, hc22, by omega, by omega, by omega, by omega, by omega, by omega, hq1F, hq2F, hF, hSF⟩
      · rw [if_pos (by rfl)]
        go_simp
        have hSw16 : Below w1.heap.size w1 (wX.alloc (.cells #[.slice none 0 0, .slice none 0 0] 30)) := hSwX.alloc hSwX.size _
        refine hK.out _ _ hSw16 (fun hSS => ?_)
        clear hK
        obtain ⟨g5, hge⟩ : ∃ g5, g5 = wX.heap.size := ⟨_, rfl⟩
        have hAw16 : (wX.alloc (.cells #[.slice none 0 0, .slice none 0 0] 30)).heap[g5]? = some (.cells #[.slice none 0 0, .slice none 0 0] 30) := by rw [hge]; exact trn_new _ _
        have hbw16 : Below wX.heap.size wX (wX.alloc (.cells #[.slice none 0 0, .slice none 0 0] 30)) := (Below.refl _ _).alloc (Nat.le_refl _) _
        have hlAw16 : g5 < (wX.alloc (.cells #[.slice none 0 0, .slice none 0 0] 30)).heap.size := by rw [hge]; simp
        have hzw16 := hbw16.size
        have hzSwX := hSwX.size
        rw [← hge]
        have hg51 : wX.heap.size ≤ g5 := by omega
        have hg52 : g5 ≤ wX.heap.size := by omega
        clear hge hbw16
        generalize wX.alloc (.cells #[.slice none 0 0, .slice none 0 0] 30) = w16 at *
        refine wpAnyH_ready (rs := [2]) (by kernel_rfl) (by simp) ?_
        refine AllReadyH.cons rfl (fun K hK => ?_) AllReadyH.nil
        · rw [if_pos (by rfl)]
          go_simp
          refine (HCA.out _ (HBW.out _ hSw16)).mono ?_
          rintro e w17 ⟨g1, c1, rfl, hc11, hc12, hlo1, hq1w17, hbw17⟩
          go_simp
          have hSw17 := HTS.out _ _ hSw16 hbw17
          have hzw17 := hbw17.size
          have hzSw16 := hSw16.size
          have hup1 := hq1w17.1
          have hAw17 : w17.heap[g5]? = some (.cells #[.slice none 0 0, .slice none 0 0] 30) := (hbw17.block g5 hlAw16).trans hAw16
          have hlAw17 : g5 < w17.heap.size := by omega
          refine hK.out _ _ hSw17 (fun hSS => ?_)
          clear hK hbw17
          refine wpAnyH_ready (rs := [5]) (by kernel_rfl) (by simp) ?_
          refine AllReadyH.cons rfl (fun K hK => ?_) AllReadyH.nil
          · rw [if_pos (by rfl)]
            go_simp
            refine (HCU.out _ (HBW.out _ hSw17)).mono ?_
            rintro e w18 ⟨g2, c2, rfl, hc21, hc22, hlo2, hq2w18, hbw18⟩
            go_simp
            have hSw18 := HTS.out _ _ hSw17 hbw18
            have hzw18 := hbw18.size
            have hzSw17 := hSw17.size
            have hup2 := hq2w18.1
            have hAw18 : w18.heap[g5]? = some (.cells #[.slice none 0 0, .slice none 0 0] 30) := (hbw18.block g5 hlAw17).trans hAw17
            have hlAw18 : g5 < w18.heap.size := by omega
            have hq1w18 := hq1w17.kept hbw18
            have hlq1 := hq1w17.1
            refine hK.out _ _ hSw18 (fun hSS => ?_)
            clear hK hbw18
            refine wpAnyH_take (i := 6) (v := .agg #[.slice (some ⟨g1, 0, none⟩) n c1, .slice (some ⟨g2, 0, none⟩) n c2]) rfl (by kernel_rfl) (by kernel_rfl) (by kernel_rfl) (fun _ _ _ h => (by cases h.1)) (Or.inl ⟨by rfl, ?_⟩) (by assumption) ?_
            · intro W hSW
              go_simp
            simp only [Act.put, List.getElem_toArray, List.getElem_cons_succ, List.getElem_cons_zero, List.setIfInBounds_toArray, List.set_cons_succ, List.set_cons_zero]
            refine wpAnyH_ready (rs := [8]) (by kernel_rfl) (by simp) ?_
            refine AllReadyH.cons rfl (fun K hK => ?_) AllReadyH.nil
            rw [if_pos (by rfl)]
            obtain ⟨⟨r0, r1⟩, ⟨f0, f1⟩⟩ := trn_cells hAw18
            have hSF := put2v_below hSw18 (g := g5) (by omega) (.slice (some ⟨g1, 0, none⟩) n c1) (.slice (some ⟨g2, 0, none⟩) n c2)
            have hF := put2v_heap (v0 := .slice (some ⟨g1, 0, none⟩) n c1) (v1 := .slice (some ⟨g2, 0, none⟩) n c2) hAw18
            have hq1F := put2v_far (v0 := .slice (some ⟨g1, 0, none⟩) n c1) (v1 := .slice (some ⟨g2, 0, none⟩) n c2) hq1w18 (show g5 ≠ g1 by omega)
            have hq2F := put2v_far (v0 := .slice (some ⟨g1, 0, none⟩) n c1) (v1 := .slice (some ⟨g2, 0, none⟩) n c2) hq2w18 (show g5 ≠ g2 by omega)
            go_simp
            unfold put2v at hSF hF hq1F hq2F
            refine hK.out _ _ hSF (fun hSS => ?_)
            clear hK
            refine wpAnyH_done (by kernel_rfl) ?_ _
            exact ⟨rfl, g1, c1, g2, c2, g5, rfl, hc11, hc12, hc21, hc22, by omega, by omega, by omega, by omega, by omega, by omega, hq1F, hq2F, hF, hSF⟩
    · rintro e a W ⟨rfl, g1, c1, g2, c2, g5, rfl, hc11, hc12, hc21, hc22, hlg1, hlg2, hlg5, hne12, hne51, hne52, hq1, hq2, hA, hS⟩
      have hSz := hS.size
      have HQ1 : Hid (ZSRow W g1 A) := hq1
      have HQ2 : Hid (ZSRow W g2 (parA U A 0)) := by rw [parA_zero]; exact hq2
      have HB5 : Hid (W.heap[g5]? = some (.cells #[.slice (some ⟨g1, 0, none⟩) n c1, .slice (some ⟨g2, 0, none⟩) n c2] 30)) := hA
      have HB2 : Hid (W.heap[w.heap.size + 1]? = some (.cells #[.slice none 0 0, .slice none 0 0] 30)) := (hS.block _ (by omega)).trans HX21.out
      have hbW : Below w.heap.size w W := HBW.out _ hS
      have HCC : Hid (n ≤ c1 ∧ c1 ≤ 9223372036854775807 ∧ n ≤ c2 ∧ c2 ≤ 9223372036854775807) := ⟨hc11, hc12, hc21, hc22⟩
      clear hq1 hq2 hS HX11 HX21 HCE HTS HBW HCA HCU hSX hbw1 hc11 hc12 hc21 hc22 hSz
      obtain ⟨⟨p0, p1⟩, _⟩ := trn_cells hA
      clear hA
      go_wp2_with fail
      clear p0 p1
      go_loopw [23] (fun i wr => ∃ k : Nat, k ≤ n ∧ i = .int .i64 (k : Int) ∧ Hid (ZSRow wr g1 A) ∧ Hid (ZSRow wr g2 (parA U A k)) ∧ Hid (wr.heap[g5]? = some (.cells #[.slice (some ⟨g1, 0, none⟩) n c1, .slice (some ⟨g2, 0, none⟩) n c2] 30)) ∧ Hid (wr.heap[w.heap.size + 1]? = some (.cells #[.slice none 0 0, .slice none 0 0] 30)) ∧ Below w.heap.size w wr) (fun i _ => n - (intOf i).toNat)
      case atStart => exact ⟨0, Nat.zero_le _, rfl, HQ1, HQ2, HB5, HB2, hbW⟩
      case round =>
        obtain ⟨k, hk, rfl, HQA, HQU, HBX, HBZ, hb⟩ := hrel
        clear HQ1 HQ2 HB5 HB2 hbW
        by_cases hlt : k < n
        · have hkA : k < A.length := by rw [HNA.out]; exact hlt
          have hkU : k < U.length := by rw [HNU.out]; exact hlt
          have a0 := (HQA.out.2 k hkA).1
          have hkp : k < (parA U A k).length := by rw [parA_length HEL.out k (by omega)]; exact hkU
          have u0 := HQU.out.2 k hkp
          rw [parA_at HEL.out k hkU] at u0
          obtain ⟨u1, u2⟩ := u0
          have hset := zs_setT HQU.out k hkp (U[k]'hkU + A[k]'hkA)
          rw [← parA_next HEL.out k hkU] at hset
          have hub := HUB.out k hkU
          have hwb := HWB.out k hkA
          obtain ⟨uk, huk⟩ : ∃ uk, uk = U[k]'hkU := ⟨_, rfl⟩
          obtain ⟨ak, hak⟩ : ∃ ak, ak = A[k]'hkA := ⟨_, rfl⟩
          rw [← huk, ← hak] at hset
          rw [← huk] at u1 hub
          rw [← hak] at a0 hwb
          have HSET : Hid (ZSRow (wr.setCell ⟨g2, k, none⟩ (.int .i64 (uk + ak))) g2 (parA U A (k + 1))) := hset
          have hk9 := kpt_set wr g2 k (.int .i64 (uk + ak)) (S := fun j => j = g2) rfl
          have hg5l : g5 < wr.heap.size := (Array.getElem?_eq_some_iff.1 HBX.out).1
          have hz2l : w.heap.size + 1 < wr.heap.size := (Array.getElem?_eq_some_iff.1 HBZ.out).1
          have HQA9 : Hid (ZSRow (wr.setCell ⟨g2, k, none⟩ (.int .i64 (uk + ak))) g1 A) := HQA.out.apart hk9 (by omega)
          have HBX9 : Hid ((wr.setCell ⟨g2, k, none⟩ (.int .i64 (uk + ak))).heap[g5]? = some (.cells #[.slice (some ⟨g1, 0, none⟩) n c1, .slice (some ⟨g2, 0, none⟩) n c2] 30)) := (hk9.block _ hg5l (by omega)).trans HBX.out
          have HBZ9 : Hid ((wr.setCell ⟨g2, k, none⟩ (.int .i64 (uk + ak))).heap[w.heap.size + 1]? = some (.cells #[.slice none 0 0, .slice none 0 0] 30)) := (hk9.block _ hz2l (by omega)).trans HBZ.out
          have hb9 : Below w.heap.size w (wr.setCell ⟨g2, k, none⟩ (.int .i64 (uk + ak))) := hb.trans (hk9.below hb.size (fun k0 hk0 h => by omega))
          have hki : (k : Int) < (n : Int) := by omega
          have hwrp : IntKind.i64.wrap (uk + ak) = uk + ak := i64_wrap (by omega) (by omega)
          obtain ⟨⟨p0, p1⟩, _⟩ := trn_cells HBX.out
          clear hset hkp huk hak hkA hkU hk9 HBX HBZ HQA HQU
          go_wp2_with fail
          go_roundw
          case rel => exact ⟨k + 1, by omega, by go_num, HQA9, HSET, HBX9, HBZ9, hb9⟩
          case measure => simp [intOf]; omega
        · have hkn : n = k := by omega
          subst hkn
          have HQS : Hid (ZSRow wr g2 (addZ U A)) := by
            have h := HQU.out
            rw [← HNU.out, parA_end HEL.out] at h
            exact h
          have HSN : Hid ((addZ U A).length = n) := by show _ = _; rw [addZ_length HEL.out]; exact HNU.out
          rw [HNA.out] at HNK HNL
          rw [HNU.out] at HAB
          obtain ⟨S, hS⟩ : ∃ S, S = addZ U A := ⟨_, rfl⟩
          rw [← hS] at HQS HSN HNK HNL HAB
          have hbl := bestN_lt S n hpn.1
          have hbd := HAB.out _ hbl
          have HRW : Hid (∀ W, Below wr.heap.size wr W → W.cell? ⟨g5, 0, none⟩ = some (.slice (some ⟨g1, 0, none⟩) n c1) ∧ W.cell? ⟨g5, 1, none⟩ = some (.slice (some ⟨g2, 0, none⟩) n c2) ∧ ZRow .i64 W (.slice (some ⟨g2, 0, none⟩) n c2) S ∧ ZRow .i64 W (.slice (some ⟨g1, 0, none⟩) n c1) A) := fun W hW => by
            have h1 := (trn_cells ((hW.block _ (Array.getElem?_eq_some_iff.1 HBX.out).1).trans HBX.out)).1
            have h2 := (HQS.out.kept hW).rowc (cap := c2) (by rw [HSN.out]; exact HCC.out.2.2.1) HCC.out.2.2.2
            have h3 := (HQA.out.kept hW).rowc (cap := c1) (by rw [HNA.out]; exact HCC.out.1) HCC.out.2.1
            rw [HSN.out] at h2
            rw [HNA.out] at h3
            exact ⟨h1.1, h1.2, h2, h3⟩
          have HMAX : Hid (∀ W, Below wr.heap.size wr W → Calls Try.prog 24 #[.slice (some ⟨g2, 0, none⟩) n c2] W fun e w' => e = .returned (.int .i64 (S.getD (bestN S n) 0)) ∧ w' = W) := fun W hW => by
            have h := maxZ_any _ S W (HRW.out W hW).2.2.1 (by rw [HSN.out]; omega) (by rw [HSN.out]; omega)
            rw [HSN.out] at h
            exact h
          have HIDX : Hid (∀ W, Below wr.heap.size wr W → Calls Try.prog 23 #[.slice (some ⟨g2, 0, none⟩) n c2, .int .i64 (S.getD (bestN S n) 0)] W fun e w' => e = .returned (.int .i64 (bestN S n : Int)) ∧ w' = W) := fun W hW => indexZ_any _ S _ _ W (HRW.out W hW).2.2.1 (by rw [HSN.out]; omega) (by rw [HSN.out]; exact hbl) rfl (fun j hj => bestN_first S n j hj)
          obtain ⟨bk, hbke⟩ : ∃ bk, bk = bestN S n := ⟨_, rfl⟩
          rw [← hbke] at HNK HNL hbl hbd HMAX HIDX
          obtain ⟨y, hy⟩ : ∃ y, y = S.getD bk 0 := ⟨_, rfl⟩
          have HY : Hid (y = S.getD bk 0) := hy
          rw [← hy] at hbd HMAX HIDX HNL
          have hbdd : Below wr.heap.size wr wr.drew := (Below.refl _ _).drew
          clear hS hbke hy HAB hlt HQU hk
          go_wp2_with fail
          refine wp_region_quiet (C := fun W => Below wr.heap.size wr W) (by kernel_rfl) (by kernel_rfl) hbdd ?_
          refine wpQuiet_step (fun K hK => ?_)
          rw [if_pos (by rfl)]
          refine ⟨.pointer (some ⟨g5, 1, none⟩), fun W hW => quiet_ok ?_, hK _ ?_⟩
          · obtain ⟨c0, c1, _, _⟩ := HRW.out W hW
            go_simp
            all_goals (try omega)
          clear hK K
          simp only [Act.put, List.setIfInBounds_toArray, List.set_cons_succ, List.set_cons_zero]
          refine wpQuiet_step (fun K hK => ?_)
          rw [if_pos (by rfl)]
          refine ⟨.slice (some ⟨g2, 0, none⟩) n c2, fun W hW => quiet_ok ?_, hK _ ?_⟩
          · obtain ⟨c0, c1, _, _⟩ := HRW.out W hW
            go_simp
            all_goals (try omega)
          clear hK K
          simp only [Act.put, List.setIfInBounds_toArray, List.set_cons_succ, List.set_cons_zero]
          refine wpQuiet_step (fun K hK => ?_)
          rw [if_pos (by rfl)]
          refine ⟨.pointer (some ⟨g5, 1, none⟩), fun W hW => quiet_ok ?_, hK _ ?_⟩
          · obtain ⟨c0, c1, _, _⟩ := HRW.out W hW
            go_simp
            all_goals (try omega)
          clear hK K
          simp only [Act.put, List.setIfInBounds_toArray, List.set_cons_succ, List.set_cons_zero]
          refine wpQuiet_step (fun K hK => ?_)
          rw [if_pos (by rfl)]
          refine ⟨.slice (some ⟨g2, 0, none⟩) n c2, fun W hW => quiet_ok ?_, hK _ ?_⟩
          · obtain ⟨c0, c1, _, _⟩ := HRW.out W hW
            go_simp
            all_goals (try omega)
          clear hK K
          simp only [Act.put, List.setIfInBounds_toArray, List.set_cons_succ, List.set_cons_zero]
          refine wpQuiet_step (fun K hK => ?_)
          rw [if_pos (by rfl)]
          refine ⟨.int .i64 y, fun W hW => quiet_call (f := 24) (args := #[.slice (some ⟨g2, 0, none⟩) n c2]) ?_ ?_, hK _ ?_⟩
          · go_simp
          · exact (HMAX.out W hW).mono fun e w'' h => ⟨h.1, by rw [h.2]; exact hW⟩
          clear hK K
          simp only [Act.put, List.setIfInBounds_toArray, List.set_cons_succ, List.set_cons_zero]
          refine wpQuiet_step (fun K hK => ?_)
          rw [if_pos (by rfl)]
          refine ⟨.int .i64 (bk : Int), fun W hW => quiet_call (f := 23) (args := #[.slice (some ⟨g2, 0, none⟩) n c2, .int .i64 y]) ?_ ?_, hK _ ?_⟩
          · go_simp
          · exact (HIDX.out W hW).mono fun e w'' h => ⟨h.1, by rw [h.2]; exact hW⟩
          clear hK K
          simp only [Act.put, List.setIfInBounds_toArray, List.set_cons_succ, List.set_cons_zero]
          refine wpQuiet_step (fun K hK => ?_)
          rw [if_pos (by rfl)]
          refine ⟨.int .i64 (bk : Int), fun W hW => quiet_ok ?_, hK _ ?_⟩
          · obtain ⟨c0, c1, _, _⟩ := HRW.out W hW
            go_simp
            all_goals (try omega)
          clear hK K
          simp only [Act.put, List.setIfInBounds_toArray, List.set_cons_succ, List.set_cons_zero]
          refine wpQuiet_nil ?_
          intro W2 hW2
          have HB5 : Hid (W2.heap[g5]? = some (.cells #[.slice (some ⟨g1, 0, none⟩) n c1, .slice (some ⟨g2, 0, none⟩) n c2] 30)) := (hW2.block _ (Array.getElem?_eq_some_iff.1 HBX.out).1).trans HBX.out
          have HBZ2 : Hid (W2.heap[w.heap.size + 1]? = some (.cells #[.slice none 0 0, .slice none 0 0] 30)) := (hW2.block _ (Array.getElem?_eq_some_iff.1 HBZ.out).1).trans HBZ.out
          have HQ1 : Hid (ZSRow W2 g1 A) := HQA.out.kept hW2
          have HQ2 : Hid (ZSRow W2 g2 S) := HQS.out.kept hW2
          have hbW2 : Below w.heap.size w W2 := hb.trans (hW2.mono hb.size)
          clear hW2 HBX HBZ HQA HQS hb HRW HMAX HIDX hbdd
          go_wp2_with fail
          refine wp_region_noPanic ?_
          obtain ⟨sm, hsm⟩ : ∃ sm, sm = A.sum := ⟨_, rfl⟩
          rw [← hsm] at hsb HSU HNL
          have hwrp : IntKind.i64.wrap (y - sm) = y - sm := i64_wrap (by omega) (by omega)
          have hSX : Below w.heap.size w W2.drew ∧ W2.drew.heap[g5]? = some (.cells #[.slice (some ⟨g1, 0, none⟩) n c1, .slice (some ⟨g2, 0, none⟩) n c2] 30) := ⟨hbW2.drew, HB5.out⟩
          have h2X : W2.drew.heap[w.heap.size + 1]? = some (.cells #[.slice none 0 0, .slice none 0 0] 30) := HBZ2.out
          have h1X : ZSRow W2.drew g1 A := HQ1.out
          have hqX : ZSRow W2.drew g2 S := HQ2.out
          have hzX : w.heap.size + 1 < W2.drew.heap.size := (Array.getElem?_eq_some_iff.1 h2X).1
          have h5X : g5 < W2.drew.heap.size := (Array.getElem?_eq_some_iff.1 hSX.2).1
          have hbki : (bk : Int) < (n : Int) := by omega
          refine wp_region_held_drew (S := fun W : World => Below w.heap.size w W ∧ W.heap[g5]? = some (.cells #[.slice (some ⟨g1, 0, none⟩) n c1, .slice (some ⟨g2, 0, none⟩) n c2] 30)) (by kernel_rfl) hSX (fun hHeld => ?_)
          generalize W2.drew = wX at *
          have hcX := hqX.2 bk (by rw [HSN.out]; exact hbl)
          rw [← getD_get, ← HY.out] at hcX
          obtain ⟨hcX, hfX⟩ := hcX
          have hset := zs_setT hqX bk (by rw [HSN.out]; exact hbl) (y - sm)
          rw [← HNL.out] at hset
          have HSET : Hid (ZSRow (wX.setCell ⟨g2, bk, none⟩ (.int .i64 (y - sm))) g2 (nxtL A U)) := hset
          have hra : ZRow .i64 wX (.slice (some ⟨g1, 0, none⟩) n c1) A := by
            have h3 := h1X.rowc (cap := c1) (by rw [HNA.out]; exact HCC.out.1) HCC.out.2.1
            rw [HNA.out] at h3
            exact h3
          clear hset hqX hsm hHeld
          refine wpAnyH_take (i := 0) (v := .pointer (some ⟨g5, 1, none⟩)) rfl (by kernel_rfl) (by kernel_rfl) (by kernel_rfl) (fun _ _ _ h => h) (Or.inl ⟨by rfl, ?_⟩) (by assumption) ?_
          · intro W hSW
            go_simp
          simp only [Act.put, List.getElem_toArray, List.getElem_cons_zero, List.setIfInBounds_toArray, List.set_cons_succ, List.set_cons_zero]
          refine wpAnyH_take (i := 1) (v := .slice (some ⟨g2, 0, none⟩) n c2) rfl (by kernel_rfl) (by kernel_rfl) (by kernel_rfl) (fun _ _ _ h => h) (Or.inl ⟨by rfl, ?_⟩) (by assumption) ?_
          · intro W hSW
            obtain ⟨⟨s0, s1⟩, _⟩ := trn_cells hSW.2
            go_simp
          simp only [Act.put, List.getElem_toArray, List.getElem_cons_succ, List.getElem_cons_zero, List.setIfInBounds_toArray, List.set_cons_succ, List.set_cons_zero]
          refine wpAnyH_take (i := 2) (v := .int .i64 (bk : Int)) rfl (by kernel_rfl) (by kernel_rfl) (by kernel_rfl) (fun _ _ _ h => h) (Or.inl ⟨by rfl, ?_⟩) (by assumption) ?_
          · intro W hSW
            go_simp
          simp only [Act.put, List.getElem_toArray, List.getElem_cons_succ, List.getElem_cons_zero, List.setIfInBounds_toArray, List.set_cons_succ, List.set_cons_zero]
          refine wpAnyH_take (i := 3) (v := .pointer (some ⟨g2, bk, none⟩)) rfl (by kernel_rfl) (by kernel_rfl) (by kernel_rfl) (fun _ _ _ h => h) (Or.inl ⟨by rfl, ?_⟩) (by assumption) ?_
          · intro W hSW
            go_simp
          simp only [Act.put, List.getElem_toArray, List.getElem_cons_succ, List.getElem_cons_zero, List.setIfInBounds_toArray, List.set_cons_succ, List.set_cons_zero]
          refine wpAnyH_take (i := 5) (v := .pointer (some ⟨g5, 0, none⟩)) rfl (by kernel_rfl) (by kernel_rfl) (by kernel_rfl) (fun _ _ _ h => h) (Or.inl ⟨by rfl, ?_⟩) (by assumption) ?_
          · intro W hSW
            go_simp
          simp only [Act.put, List.getElem_toArray, List.getElem_cons_succ, List.getElem_cons_zero, List.setIfInBounds_toArray, List.set_cons_succ, List.set_cons_zero]
          refine wpAnyH_take (i := 6) (v := .slice (some ⟨g1, 0, none⟩) n c1) rfl (by kernel_rfl) (by kernel_rfl) (by kernel_rfl) (fun _ _ _ h => h) (Or.inl ⟨by rfl, ?_⟩) (by assumption) ?_
          · intro W hSW
            obtain ⟨⟨s0, s1⟩, _⟩ := trn_cells hSW.2
            go_simp
          simp only [Act.put, List.getElem_toArray, List.getElem_cons_succ, List.getElem_cons_zero, List.setIfInBounds_toArray, List.set_cons_succ, List.set_cons_zero]
          refine wpAnyH_ready (rs := [4, 7]) (by kernel_rfl) (by simp) ?_
          refine AllReadyH.cons rfl (fun K hK => ?_) (AllReadyH.cons rfl (fun K hK => ?_) AllReadyH.nil)
          · skip
            rw [if_pos (by rfl)]
            go_simp
            refine hK.out _ _ hSX (fun _ => ?_)
            clear hK K
            refine wpAnyH_ready (rs := [7]) (by kernel_rfl) (by simp) ?_
            refine AllReadyH.cons rfl (fun K hK => ?_) AllReadyH.nil
            rw [if_pos (by rfl)]
            go_simp
            refine (HSU.out _ _ hra).mono ?_
            rintro e wZ ⟨rfl, hwz⟩
            rw [hwz]
            clear hwz wZ
            go_simp
            refine hK.out _ _ hSX (fun _ => ?_)
            clear hK K
            refine wpAnyH_take (i := 8) (v := .int .i64 (y - sm)) rfl (by kernel_rfl) (by kernel_rfl) (by kernel_rfl) (fun _ _ _ h => h) (Or.inl ⟨by rfl, ?_⟩) (by assumption) ?_
            · intro W hSW
              go_simp
            simp only [Act.put, List.getElem_toArray, List.getElem_cons_succ, List.getElem_cons_zero, List.setIfInBounds_toArray, List.set_cons_succ, List.set_cons_zero]
            refine wpAnyH_take (i := 9) (v := .pointer (some ⟨g2, bk, none⟩)) rfl (by kernel_rfl) (by kernel_rfl) (by kernel_rfl) (fun _ _ _ h => h) (Or.inl ⟨by rfl, ?_⟩) (by assumption) ?_
            · intro W hSW
              go_simp
            simp only [Act.put, List.getElem_toArray, List.getElem_cons_succ, List.getElem_cons_zero, List.setIfInBounds_toArray, List.set_cons_succ, List.set_cons_zero]
            refine wpAnyH_ready (rs := [10]) (by kernel_rfl) (by simp) ?_
            refine AllReadyH.cons rfl (fun K hK => ?_) AllReadyH.nil
            rw [if_pos (by rfl)]
            have hk9 := kpt_set wX g2 bk (.int .i64 (y - sm)) (S := fun j => j = g2) rfl
            have hS9 : Below w.heap.size w (wX.setCell ⟨g2, bk, none⟩ (.int .i64 (y - sm))) ∧ (wX.setCell ⟨g2, bk, none⟩ (.int .i64 (y - sm))).heap[g5]? = some (.cells #[.slice (some ⟨g1, 0, none⟩) n c1, .slice (some ⟨g2, 0, none⟩) n c2] 30) := ⟨hSX.1.trans (hk9.below hSX.1.size (fun k0 hk0 h => by omega)), (hk9.block _ h5X (by omega)).trans hSX.2⟩
            have h29 := (hk9.block (w.heap.size + 1) hzX (by omega)).trans h2X
            have h19 := h1X.apart hk9 (by omega)
            have hQ9 := HSET.out
            go_simp
            refine hK.out _ _ hS9 (fun _ => ?_)
            clear hK K
            refine wpAnyH_done (by kernel_rfl) ?_ _
            refine NoPanic.normal ?_
            obtain ⟨w9, hw9⟩ : ∃ W, W = (wX.setCell ⟨g2, bk, none⟩ (.int .i64 (y - sm))) := ⟨_, rfl⟩
            rw [← hw9] at hS9 h29 h19 hQ9
            rw [← hw9]
            have H29 : Hid (w9.heap[w.heap.size + 1]? = some (.cells #[.slice none 0 0, .slice none 0 0] 30)) := h29
            have H59 : Hid (w9.heap[g5]? = some (.cells #[.slice (some ⟨g1, 0, none⟩) n c1, .slice (some ⟨g2, 0, none⟩) n c2] 30)) := hS9.2
            have HQ9 : Hid (ZSRow w9 g1 A ∧ ZSRow w9 g2 (nxtL A U)) := ⟨h19, hQ9⟩
            have hb9 : Below w.heap.size w w9 := hS9.1
            have HR9 : Hid (ZRow .i64 w9 (.slice (some ⟨g1, 0, none⟩) n c1) A ∧ ZRow .i64 w9 (.slice (some ⟨g2, 0, none⟩) n c2) (nxtL A U)) := by
              have h3 := h19.rowc (cap := c1) (by rw [HNA.out]; exact HCC.out.1) HCC.out.2.1
              have h4 := hQ9.rowc (cap := c2) (by rw [HLL.out, HNA.out]; exact HCC.out.2.2.1) HCC.out.2.2.2
              rw [HNA.out] at h3
              rw [HLL.out, HNA.out] at h4
              exact ⟨h3, h4⟩
            obtain ⟨⟨d0, d1⟩, _⟩ := trn_cells hS9.2
            have h59l : g5 < w9.heap.size := (Array.getElem?_eq_some_iff.1 hS9.2).1
            have h29l : w.heap.size + 1 < w9.heap.size := (Array.getElem?_eq_some_iff.1 h29).1
            clear hS9 h29 h19 hQ9 hw9 hk9 hcX hfX HSET hSX h2X h1X hra hzX h5X HSU hwrp
            go_wp2_with fail
            refine (HG2.out _ _ _ HR9.out.1 HR9.out.2).mono ?_
            rintro e w10 ⟨rfl, hb10⟩
            clear d0 d1
            have hbw10 := hb9.trans (hb10.mono hb9.size)
            have H210 : Hid (w10.heap[w.heap.size + 1]? = some (.cells #[.slice none 0 0, .slice none 0 0] 30)) := (hb10.block _ h29l).trans H29.out
            have H510 : Hid (w10.heap[g5]? = some (.cells #[.slice (some ⟨g1, 0, none⟩) n c1, .slice (some ⟨g2, 0, none⟩) n c2] 30)) := (hb10.block _ h59l).trans H59.out
            have HQ10 : Hid (ZSRow w10 g1 A ∧ ZSRow w10 g2 (nxtL A U)) := ⟨HQ9.out.1.kept hb10, HQ9.out.2.kept hb10⟩
            clear hb10 hb9 HQ9 H29 H59 HR9
            cases hok : goodT A (nxtL A U) with
            | false =>
              have HOK : Hid (goodT A (nxtL A U) = false) := hok
              obtain ⟨⟨d0, d1⟩, ⟨z0, z1⟩⟩ := trn_cells H210.out
              clear hok
              go_wp2_with fail
              (try simp only [Exit.inBlock, Exit.then])
              refine bodyPost_ret (results_trn3 rfl _ _ (w.heap.size + 1) 30 #[.slice none 0 0, .slice none 0 0] (0, 0) _ (.int .i64 0) (.bool false) rfl rfl rfl ?_ Try.underlying30 rfl (by kernel_rfl)) rfl ⟨by rw [HOK.out]; exact nta_off _ _ _ _ _, ?_⟩
              · exact put2v_heap H210.out
              · exact put2v_below hbw10 (by omega) _ _
            | true =>
              have HOK : Hid (goodT A (nxtL A U) = true) := hok
              obtain ⟨⟨d0, d1⟩, ⟨z0, z1⟩⟩ := trn_cells H210.out
              obtain ⟨⟨p0, p1⟩, _⟩ := trn_cells H510.out
              clear hok
              go_wp2_with fail
              (try simp only [Exit.inBlock, Exit.then])
              refine bodyPost_ret (results_trn3 rfl _ _ (w.heap.size + 1) 30 #[.slice (some ⟨g1, 0, none⟩) n c1, .slice (some ⟨g2, 0, none⟩) n c2] (0, 0) _ (.int .i64 (bk : Int)) (.bool true) rfl rfl rfl ?_ Try.underlying30 rfl (by kernel_rfl)) rfl ⟨?_, ?_⟩
              · exact put2v_heap H210.out
              · rw [HOK.out, HNK.out]
                refine ⟨_, _, rfl, .inr ⟨g1, c1, g2, c2, ?_, ?_, ?_, HCC.out.2.1, ?_, HCC.out.2.2.2, by omega, by omega, hne12, ?_, ?_⟩⟩
                · show Value.slice _ n c1 = Value.slice _ A.length c1
                  rw [HNA.out]
                · show Value.slice _ n c2 = Value.slice _ (nxtL A U).length c2
                  rw [HLL.out, HNA.out]
                · show A.length ≤ c1
                  rw [HNA.out]; exact HCC.out.1
                · show (nxtL A U).length ≤ c2
                  rw [HLL.out, HNA.out]; exact HCC.out.2.2.1
                · exact put2v_far HQ10.out.1 (by omega)
                · exact put2v_far HQ10.out.2 (by omega)
              · exact put2v_below hbw10 (by omega) _ _
          · skip
            rw [if_pos (by rfl)]
            go_simp
            refine (HSU.out _ _ hra).mono ?_
            rintro e wZ ⟨rfl, hwz⟩
            rw [hwz]
            clear hwz wZ
            go_simp
            refine hK.out _ _ hSX (fun _ => ?_)
            clear hK K
            refine wpAnyH_ready (rs := [4]) (by kernel_rfl) (by simp) ?_
            refine AllReadyH.cons rfl (fun K hK => ?_) AllReadyH.nil
            rw [if_pos (by rfl)]
            go_simp
            refine hK.out _ _ hSX (fun _ => ?_)
            clear hK K
            refine wpAnyH_take (i := 8) (v := .int .i64 (y - sm)) rfl (by kernel_rfl) (by kernel_rfl) (by kernel_rfl) (fun _ _ _ h => h) (Or.inl ⟨by rfl, ?_⟩) (by assumption) ?_
            · intro W hSW
              go_simp
            simp only [Act.put, List.getElem_toArray, List.getElem_cons_succ, List.getElem_cons_zero, List.setIfInBounds_toArray, List.set_cons_succ, List.set_cons_zero]
            refine wpAnyH_take (i := 9) (v := .pointer (some ⟨g2, bk, none⟩)) rfl (by kernel_rfl) (by kernel_rfl) (by kernel_rfl) (fun _ _ _ h => h) (Or.inl ⟨by rfl, ?_⟩) (by assumption) ?_
            · intro W hSW
              go_simp
            simp only [Act.put, List.getElem_toArray, List.getElem_cons_succ, List.getElem_cons_zero, List.setIfInBounds_toArray, List.set_cons_succ, List.set_cons_zero]
            refine wpAnyH_ready (rs := [10]) (by kernel_rfl) (by simp) ?_
            refine AllReadyH.cons rfl (fun K hK => ?_) AllReadyH.nil
            rw [if_pos (by rfl)]
            have hk9 := kpt_set wX g2 bk (.int .i64 (y - sm)) (S := fun j => j = g2) rfl
            have hS9 : Below w.heap.size w (wX.setCell ⟨g2, bk, none⟩ (.int .i64 (y - sm))) ∧ (wX.setCell ⟨g2, bk, none⟩ (.int .i64 (y - sm))).heap[g5]? = some (.cells #[.slice (some ⟨g1, 0, none⟩) n c1, .slice (some ⟨g2, 0, none⟩) n c2] 30) := ⟨hSX.1.trans (hk9.below hSX.1.size (fun k0 hk0 h => by omega)), (hk9.block _ h5X (by omega)).trans hSX.2⟩
            have h29 := (hk9.block (w.heap.size + 1) hzX (by omega)).trans h2X
            have h19 := h1X.apart hk9 (by omega)
            have hQ9 := HSET.out
            go_simp
            refine hK.out _ _ hS9 (fun _ => ?_)
            clear hK K
            refine wpAnyH_done (by kernel_rfl) ?_ _
            refine NoPanic.normal ?_
            obtain ⟨w9, hw9⟩ : ∃ W, W = (wX.setCell ⟨g2, bk, none⟩ (.int .i64 (y - sm))) := ⟨_, rfl⟩
            rw [← hw9] at hS9 h29 h19 hQ9
            rw [← hw9]
            have H29 : Hid (w9.heap[w.heap.size + 1]? = some (.cells #[.slice none 0 0, .slice none 0 0] 30)) := h29
            have H59 : Hid (w9.heap[g5]? = some (.cells #[.slice (some ⟨g1, 0, none⟩) n c1, .slice (some ⟨g2, 0, none⟩) n c2] 30)) := hS9.2
            have HQ9 : Hid (ZSRow w9 g1 A ∧ ZSRow w9 g2 (nxtL A U)) := ⟨h19, hQ9⟩
            have hb9 : Below w.heap.size w w9 := hS9.1
            have HR9 : Hid (ZRow .i64 w9 (.slice (some ⟨g1, 0, none⟩) n c1) A ∧ ZRow .i64 w9 (.slice (some ⟨g2, 0, none⟩) n c2) (nxtL A U)) := by
              have h3 := h19.rowc (cap := c1) (by rw [HNA.out]; exact HCC.out.1) HCC.out.2.1
              have h4 := hQ9.rowc (cap := c2) (by rw [HLL.out, HNA.out]; exact HCC.out.2.2.1) HCC.out.2.2.2
              rw [HNA.out] at h3
              rw [HLL.out, HNA.out] at h4
              exact ⟨h3, h4⟩
            obtain ⟨⟨d0, d1⟩, _⟩ := trn_cells hS9.2
            have h59l : g5 < w9.heap.size := (Array.getElem?_eq_some_iff.1 hS9.2).1
            have h29l : w.heap.size + 1 < w9.heap.size := (Array.getElem?_eq_some_iff.1 h29).1
            clear hS9 h29 h19 hQ9 hw9 hk9 hcX hfX HSET hSX h2X h1X hra hzX h5X HSU hwrp
            go_wp2_with fail
            refine (HG2.out _ _ _ HR9.out.1 HR9.out.2).mono ?_
            rintro e w10 ⟨rfl, hb10⟩
            clear d0 d1
            have hbw10 := hb9.trans (hb10.mono hb9.size)
            have H210 : Hid (w10.heap[w.heap.size + 1]? = some (.cells #[.slice none 0 0, .slice none 0 0] 30)) := (hb10.block _ h29l).trans H29.out
            have H510 : Hid (w10.heap[g5]? = some (.cells #[.slice (some ⟨g1, 0, none⟩) n c1, .slice (some ⟨g2, 0, none⟩) n c2] 30)) := (hb10.block _ h59l).trans H59.out
            have HQ10 : Hid (ZSRow w10 g1 A ∧ ZSRow w10 g2 (nxtL A U)) := ⟨HQ9.out.1.kept hb10, HQ9.out.2.kept hb10⟩
            clear hb10 hb9 HQ9 H29 H59 HR9
            cases hok : goodT A (nxtL A U) with
            | false =>
              have HOK : Hid (goodT A (nxtL A U) = false) := hok
              obtain ⟨⟨d0, d1⟩, ⟨z0, z1⟩⟩ := trn_cells H210.out
              clear hok
              go_wp2_with fail
              (try simp only [Exit.inBlock, Exit.then])
              refine bodyPost_ret (results_trn3 rfl _ _ (w.heap.size + 1) 30 #[.slice none 0 0, .slice none 0 0] (0, 0) _ (.int .i64 0) (.bool false) rfl rfl rfl ?_ Try.underlying30 rfl (by kernel_rfl)) rfl ⟨by rw [HOK.out]; exact nta_off _ _ _ _ _, ?_⟩
              · exact put2v_heap H210.out
              · exact put2v_below hbw10 (by omega) _ _
            | true =>
              have HOK : Hid (goodT A (nxtL A U) = true) := hok
              obtain ⟨⟨d0, d1⟩, ⟨z0, z1⟩⟩ := trn_cells H210.out
              obtain ⟨⟨p0, p1⟩, _⟩ := trn_cells H510.out
              clear hok
              go_wp2_with fail
              (try simp only [Exit.inBlock, Exit.then])
              refine bodyPost_ret (results_trn3 rfl _ _ (w.heap.size + 1) 30 #[.slice (some ⟨g1, 0, none⟩) n c1, .slice (some ⟨g2, 0, none⟩) n c2] (0, 0) _ (.int .i64 (bk : Int)) (.bool true) rfl rfl rfl ?_ Try.underlying30 rfl (by kernel_rfl)) rfl ⟨?_, ?_⟩
              · exact put2v_heap H210.out
              · rw [HOK.out, HNK.out]
                refine ⟨_, _, rfl, .inr ⟨g1, c1, g2, c2, ?_, ?_, ?_, HCC.out.2.1, ?_, HCC.out.2.2.2, by omega, by omega, hne12, ?_, ?_⟩⟩
                · show Value.slice _ n c1 = Value.slice _ A.length c1
                  rw [HNA.out]
                · show Value.slice _ n c2 = Value.slice _ (nxtL A U).length c2
                  rw [HLL.out, HNA.out]
                · show A.length ≤ c1
                  rw [HNA.out]; exact HCC.out.1
                · show (nxtL A U).length ≤ c2
                  rw [HLL.out, HNA.out]; exact HCC.out.2.2.1
                · exact put2v_far HQ10.out.1 (by omega)
                · exact put2v_far HQ10.out.2 (by omega)
              · exact put2v_below hbw10 (by omega) _ _
end Go.Proofs.Ytfbnigicigajeaa

namespace Go.Proofs.Ytfbnigicigajeaa
open Go.RowKit

/-- The numbers behind j turns from the beginning; who was picked in m of them. -/
def trnU (A : List Int) : Nat → List Int
  | 0 => zrs A.length
  | j + 1 => nxtL A (trnU A j)
def trnP (A : List Int) (m : Nat) : List Int := (List.range m).map (fun j => (nxtK A (trnU A j) : Int))
theorem trnP_length (A : List Int) (m : Nat) : (trnP A m).length = m := by simp [trnP]
theorem trnP_get (A : List Int) (m k : Nat) (h : k < m) : (trnP A m)[k]'(by rw [trnP_length]; exact h) = (nxtK A (trnU A k) : Int) := by simp [trnP]
theorem trnP_next (A : List Int) (m : Nat) : trnP A (m + 1) = trnP A m ++ [(nxtK A (trnU A m) : Int)] := by
  unfold trnP; rw [List.range_succ, List.map_append]; rfl
theorem sum_add : ∀ (U A : List Int), U.length = A.length → (addZ U A).sum = U.sum + A.sum
  | [], [], _ => by simp [addZ]
  | u :: U, a :: A, h => by
    have ih := sum_add U A (by simpa using h)
    unfold addZ at ih ⊢
    rw [List.zipWith_cons_cons, List.sum_cons, List.sum_cons, List.sum_cons, ih]
    omega
  | [], _ :: _, h => by simp at h
  | _ :: _, [], h => by simp at h
theorem sum_setZ : ∀ (L : List Int) (k : Nat) (x : Int), (h : k < L.length) → (L.set k x).sum = L.sum - L[k] + x
  | [], k, x, h => by simp at h
  | y :: L, 0, x, h => by simp; omega
  | y :: L, k + 1, x, h => by
    have ih := sum_setZ L k x (by simpa using h)
    rw [List.set_cons_succ, List.sum_cons, List.sum_cons, ih, List.getElem_cons_succ]
    omega
theorem sum_nonpos : ∀ (L : List Int), (∀ x ∈ L, x ≤ 0) → L.sum ≤ 0
  | [], _ => by simp
  | x :: L, h => by
    have ih := sum_nonpos L (fun y hy => h y (List.mem_cons_of_mem _ hy))
    have h1 := h x (List.mem_cons_self)
    rw [List.sum_cons]; omega
theorem sum_low : ∀ (L : List Int), (∀ x ∈ L, -600 ≤ x) → -600 * (L.length : Int) ≤ L.sum
  | [], _ => by simp
  | x :: L, h => by
    have ih := sum_low L (fun y hy => h y (List.mem_cons_of_mem _ hy))
    have h1 := h x (List.mem_cons_self)
    rw [List.sum_cons, List.length_cons]; omega
theorem sum_one : ∀ (L : List Int), (∀ x ∈ L, -600 ≤ x) → ∀ x ∈ L, x - 600 * ((L.length : Int) - 1) ≤ L.sum
  | [], _, x, hx => by simp at hx
  | y :: L, h, x, hx => by
    have hL := fun z (hz : z ∈ L) => h z (List.mem_cons_of_mem _ hz)
    rw [List.sum_cons, List.length_cons]
    rcases List.mem_cons.1 hx with rfl | hx
    · have := sum_low L hL; omega
    · have ih := sum_one L hL x hx
      have h1 := h y (List.mem_cons_self)
      omega
/-- Turns from the beginning: as many numbers as weights, together 0, none below -600. -/
def invT (A U : List Int) : Prop := U.length = A.length ∧ U.sum = 0 ∧ ∀ x ∈ U, -600 ≤ x
theorem invT_good {A U : List Int} (hg : goodW A = true) (h : invT A U) : goodT A U = true := by
  obtain ⟨h1, h2, h3⟩ := h
  obtain ⟨⟨h4, h5⟩, _, _⟩ := goodW_parts hg
  unfold goodT
  rw [hg, decide_eq_true h1, decide_eq_true h2]
  have : U.all smB = true := List.all_eq_true.2 fun x hx => by
    have a1 := h3 x hx
    have a2 := sum_one U h3 x hx
    rw [h2] at a2
    have a3 : (U.length : Int) ≤ 12 := by omega
    simp only [smB, inB, Bool.and_eq_true, decide_eq_true_eq]
    omega
  rw [this]; rfl
theorem invT_zero (A : List Int) : invT A (zrs A.length) := by
  refine ⟨by simp [zrs], ?_, fun x hx => ?_⟩
  · have h1 : (zrs A.length).sum ≤ 0 := sum_nonpos _ (fun x hx => by have := (List.mem_replicate.1 hx).2; omega)
    have h2 : ∀ n : Nat, (List.replicate n (0 : Int)).sum = 0 := fun n => by
      induction n with
      | zero => rfl
      | succ n ih => rw [List.replicate_succ, List.sum_cons, ih]; rfl
    exact h2 _
  · have := (List.mem_replicate.1 hx).2; omega
theorem invT_next {A U : List Int} (hg : goodW A = true) (h : invT A U) : invT A (nxtL A U) := by
  obtain ⟨⟨h4, h5⟩, hw, hpos⟩ := goodW_parts hg
  obtain ⟨h1, h2, h3⟩ := h
  have hT := (sum_bound (invT_good hg ⟨h1, h2, h3⟩)).2
  have hlen : (addZ U A).length = U.length := addZ_length h1
  have hb : nxtK A U < (addZ U A).length := by rw [hlen]; exact bestN_lt _ _ (by omega)
  have hS : (addZ U A).sum = A.sum := by rw [sum_add U A h1, h2]; omega
  have hmax : ∀ x ∈ addZ U A, x ≤ (addZ U A).getD (nxtK A U) 0 := fun x hx => by
    obtain ⟨j, hj, rfl⟩ := List.getElem_of_mem hx
    have := bestN_max (addZ U A) U.length j (by omega)
    rw [getD_get hj] at this
    exact this
  have hp : 0 < (addZ U A).getD (nxtK A U) 0 := by
    rcases Int.lt_or_le 0 ((addZ U A).getD (nxtK A U) 0) with h | h
    · exact h
    · have := sum_nonpos (addZ U A) (fun x hx => by have := hmax x hx; omega)
      omega
  refine ⟨nxtL_length h1, ?_, fun x hx => ?_⟩
  · unfold nxtL
    rw [sum_setZ _ _ _ hb, hS, getD_get hb]; omega
  · unfold nxtL at hx
    rcases List.mem_or_eq_of_mem_set hx with h | h
    · obtain ⟨j, hj, rfl⟩ := List.getElem_of_mem h
      rw [addZ_get h1 (by omega : j < U.length)]
      have a1 := h3 _ (List.getElem_mem (by omega : j < U.length))
      have a2 := wt_in (List.all_eq_true.1 hw _ (List.getElem_mem (by omega : j < A.length)))
      omega
    · omega
theorem trnU_inv {A : List Int} (hg : goodW A = true) : ∀ j, invT A (trnU A j)
  | 0 => invT_zero A
  | j + 1 => invT_next hg (trnU_inv hg j)
theorem trnU_good {A : List Int} (hg : goodW A = true) (j : Nat) : goodT A (trnU A j) = true := invT_good hg (trnU_inv hg j)
theorem trnU_ok {A : List Int} (hg : goodW A = true) (j : Nat) : nxtB A (trnU A j) = true := by
  unfold nxtB
  rw [trnU_good hg j, show nxtL A (trnU A j) = trnU A (j + 1) from rfl, trnU_good hg (j + 1)]; rfl
/-- Whether TurnsOf tells, and what. -/
def tuB (A : List Int) (m : Int) : Bool := goodW A && inB m 0 600
def tuL (A : List Int) (m : Int) : List Int := if tuB A m then trnP A m.toNat else []
theorem tuL_len (A : List Int) (m : Int) : (tuL A m).length ≤ 600 := by
  unfold tuL
  split
  · rename_i h
    unfold tuB at h
    rw [Bool.and_eq_true] at h
    have h2 := h.2
    simp only [inB, Bool.and_eq_true, decide_eq_true_eq] at h2
    rw [trnP_length]; omega
  · simp
end Go.Proofs.Ytfbnigicigajeaa

namespace Go.Proofs.Ytfbnigicigajeaa
open Go.RowKit

section
variable {w : World} {ops : Array Oper} {rest : List Oper} {o : Oper} {a : Act} {Q : Exit → Act → World → Prop}
/-- An append to a row of the call's own, and where what it tells lies. -/
theorem wpList_append_atT (hgd : o.guard = none) (s x : Operand) (t : TypeId)
    (ho : o.op = .call { callee := .builtin .append, args := #[s, x], argTypes := #[t, t] })
    (base : Nat) (e : TypeId) (i : TypeInfo) (z : Value) (size bytes : Nat) (ht : Try.prog.underlying t = some (.slice e)) (hi : Try.prog.info? e = some i) (hz : i.zero = some z)
    (hsize : i.size = size) (hby : i.bytes = bytes) (hzs : z.cells.size = size) (hsz : 0 < size)
    (v : Value) (n : Nat) (xs : List Value) (hs : a.eval s = v) (hown : w.ownsRow base e size v n xs)
    (ad : Addr) (m c : Nat) (news : List Value) (hx : a.eval x = .slice (some ad) m c) (hl : news.length = m * size) (hnews : ∀ j u, news[j]? = some u → w.cell? (ad.add j) = some u) (h1 : ∀ u ∈ news, u.oneCell' = true)
    (h63 : n + m ≤ maxLen) (hbytes : (n + m) * bytes ≤ 140737488355328) (hbase : base ≤ w.heap.size)
    (h : ∀ v' w', w'.ownsRow base e size v' (n + m) (xs ++ news) → w.grownBy w' v.ownBlock → (v'.ownBlock = v.ownBlock ∨ v'.ownBlock = some w.heap.size) → wpList Try.prog ops Q rest (a.put o.dst v') w') :
    wpList Try.prog ops Q (o :: rest) a w := by
  refine wpList_plain hgd fun K' hK' => ?_
  obtain ⟨v', w', hrun, h2, h3, _, h5⟩ := run_append_own_at (P := Try.prog) w base t o.type e i z size bytes ht hi hz hsize hby hzs hsz v n xs hown ad m c news hl hnews h1 h63 hbytes hbase
  unfold Oper.wp
  simp [execOp, ho, resolve, invoke, builtin, hs, hx, hrun, Result.andThen]
  exact hK' _ _ (h v' w' h2 h3 h5)
end
theorem own_baseT {w : World} {b b' : Nat} {v : Value} {n : Nat} {xs : List Value} (h : w.ownsRow b 3 1 v n xs) (hb : b' ≤ b) : w.ownsRow b' 3 1 v n xs := by
  refine ⟨h.1, ?_⟩
  rcases h.2 with h2 | ⟨g, cap, cur, hv, hg, h3⟩
  · exact .inl h2
  · exact .inr ⟨g, cap, cur, hv, Nat.le_trans hb hg, h3⟩
/-- What TurnsOf of the specification tells. -/
def TuA (w' : World) (base : Nat) (ok : Bool) (O : List Int) (e : Ending) : Prop := ∃ v, e = .returned (.tuple #[v, .bool ok]) ∧ w'.ownsRow base 3 1 v O.length (O.map (Value.int .i64))
theorem tua_off (w' : World) (base : Nat) : TuA w' base false [] (.returned (.tuple #[.slice none 0 0, .bool false])) := ⟨_, rfl, World.ownsRow_nil w' base 3 1⟩

set_option maxRecDepth 20000 in
set_option maxHeartbeats 8000000 in
theorem sTurnsOf_any (v : Value) (P : List Int) (m : Int) (w : World) (hr : ZRow .i64 w v P) (hl : P.length ≤ 1048576) :
    Calls Try.prog 6 #[v, .int .i64 m] w fun e w' => TuA w' w.heap.size (tuB P m) (tuL P m) e ∧ Below w.heap.size w w' := by
  have HNT : Hid (Calls Try.prog 15 #[v] w fun e w' => NTAns w' w.heap.size P e ∧ Below w.heap.size w w') := sNewTurn_any v P w hr hl
  have HIN : Hid (∀ W, Calls Try.prog 19 #[.int .i64 m, .int .i64 0, .int .i64 600] W fun e w' => e = .returned (.bool (inB m 0 600)) ∧ w' = W) := fun W => l1In_anyY m 0 600 W
  have HOFF : Hid (tuB P m = false → tuL P m = []) := fun h => by unfold tuL; rw [h]; rfl
  clear hr
  cases hg : goodW P with
  | false =>
    have HB : Hid (tuB P m = false) := by show _ = _; unfold tuB; rw [hg]; rfl
    rw [HOFF.out HB.out, HB.out]
    go_enter Try.func6, Try.ntmps6
    go_wp2_with fail
    refine HNT.out.mono ?_
    rintro e w1 ⟨h | h, hb1⟩
    · obtain ⟨_, rfl⟩ := h
      unfold TrnV
      have hb2 : Below w.heap.size w (w1.alloc (.cells #[.slice none 0 0, .slice none 0 0] 30)) := hb1.alloc hb1.size _
      clear hg
      go_wp2_with fail
      go_ret2
      exact ⟨tua_off _ _, hb2⟩
    · rw [hg] at h; exact absurd h.1 (by simp)
  | true =>
    have hgd := goodW_parts hg
    cases hin : inB m 0 600 with
    | false =>
      have HB : Hid (tuB P m = false) := by show _ = _; unfold tuB; rw [hin]; simp
      rw [HOFF.out HB.out, HB.out]
      rw [hin] at HIN
      go_enter Try.func6, Try.ntmps6
      go_wp2_with fail
      refine HNT.out.mono ?_
      rintro e w1 ⟨h | h, hb1⟩
      · rw [hg] at h; exact absurd h.1 (by simp)
      · obtain ⟨_, t1, c1, t2, rfl, _, _, _, _, _, _, _⟩ := h
        unfold TrnV
        have hb2 : Below w.heap.size w (w1.alloc (.cells #[.slice (some ⟨t1, 0, none⟩) P.length c1, .slice (some ⟨t2, 0, none⟩) P.length P.length] 30)) := hb1.alloc hb1.size _
        clear hg hin
        go_wp2_with fail
        refine (HIN.out _).mono ?_
        rintro e w2 ⟨rfl, rfl⟩
        go_wp2_with fail
        go_ret2
        exact ⟨tua_off _ _, hb2⟩
    | true =>
      obtain ⟨M, rfl, hM⟩ : ∃ M : Nat, m = (M : Int) ∧ M ≤ 600 := by
        simp only [inB, Bool.and_eq_true, decide_eq_true_eq] at hin
        exact ⟨m.toNat, by omega, by omega⟩
      have HB : Hid (tuB P (M : Int) = true ∧ tuL P (M : Int) = trnP P M) := by
        have h : tuB P (M : Int) = true := by unfold tuB; rw [hg, hin]; rfl
        refine ⟨h, ?_⟩
        unfold tuL; rw [h]; simp
      rw [HB.out.1, HB.out.2]
      rw [hin] at HIN
      have HNX : Hid (∀ k v1 v2 W, ZRow .i64 W v1 P → ZRow .i64 W v2 (trnU P k) → Calls Try.prog 20 #[TrnV v1 v2] W fun e w' => NxA w' W.heap.size P (trnU P k) e ∧ Below W.heap.size W w') := fun k v1 v2 W h1 h2 => l12Next_any v1 v2 P (trnU P k) W h1 h2 (trnU_good hg k)
      have HUL : Hid (∀ k, (trnU P k).length = P.length) := fun k => (trnU_inv hg k).1
      have HTN : Hid (∀ k, (trnP P k).map (Value.int .i64) ++ [Value.int .i64 (nxtK P (trnU P k) : Int)] = (trnP P (k + 1)).map (Value.int .i64)) := fun k => by rw [trnP_next, List.map_append]; rfl
      have HKB : Hid (∀ k, nxtK P (trnU P k) ≤ 12) := fun k => by
        have h1 := bestN_le (addZ (trnU P k) P) (trnU P k).length
        have h2 := (trnU_inv hg k).1
        unfold nxtK; omega
      obtain ⟨i0, hi, hz0, hz1, hz2⟩ := info_parts info_intY
      clear hgd hin HOFF
      go_enter Try.func6, Try.ntmps6
      go_wp2_with fail
      refine HNT.out.mono ?_
      rintro e w1 ⟨h | h, hb1⟩
      · rw [hg] at h; exact absurd h.1 (by simp)
      · obtain ⟨_, t1, c1, t2, rfl, hc1, hm1, hl1, hl2, hne, hq1, hq2⟩ := h
        unfold TrnV
        obtain ⟨n, hn⟩ : ∃ n, n = P.length := ⟨_, rfl⟩
        have HNP : Hid (P.length = n) := hn.symm
        rw [← hn] at hc1 ⊢
        obtain ⟨W2, hW2⟩ : ∃ W2, W2 = w1.alloc (.cells #[.slice (some ⟨t1, 0, none⟩) n c1, .slice (some ⟨t2, 0, none⟩) n n] 30) := ⟨_, rfl⟩
        obtain ⟨g6, hg6⟩ : ∃ g, g = w1.heap.size := ⟨_, rfl⟩
        have hb12 : Below w1.heap.size w1 W2 := by rw [hW2]; exact (Below.refl _ _).alloc (Nat.le_refl _) _
        have HX2 : Hid (W2.heap[g6]? = some (.cells #[.slice (some ⟨t1, 0, none⟩) n c1, .slice (some ⟨t2, 0, none⟩) n n] 30)) := by rw [hW2, hg6]; exact trn_new _ _
        have HQ2 : Hid (ZSRow W2 t1 P ∧ ZSRow W2 t2 (trnU P 0)) := ⟨hq1.kept hb12, hq2.kept hb12⟩
        have hbw2 := hb1.trans (hb12.mono hb1.size)
        have hnl : n ≤ 1048576 := by omega
        have HC2 : Hid (n ≤ c1 ∧ c1 ≤ 9223372036854775807 ∧ n ≤ n ∧ n ≤ 9223372036854775807) := ⟨hc1, hm1, Nat.le_refl _, by omega⟩
        have hw6 : w.heap.size ≤ g6 := by rw [hg6]; exact hb1.size
        have HOW2 : Hid (W2.ownsRow (g6 + 1) 3 1 (.slice none 0 0) 0 ((trnP P 0).map (Value.int .i64))) := World.ownsRow_nil W2 (g6 + 1) 3 1
        have HW2 : Hid (w1.alloc (.cells #[.slice (some ⟨t1, 0, none⟩) n c1, .slice (some ⟨t2, 0, none⟩) n n] 30) = W2) := hW2.symm
        have HG6 : Hid (w1.heap.size = g6) := hg6.symm
        clear hq1 hq2 hW2 hb12 hb1 hg hn hg6 hl1 hl2 hc1 hm1 hne
        go_wp2_with (rw [HW2.out])
        refine (HIN.out _).mono ?_
        rintro e w2' ⟨rfl, hw2'⟩
        rw [hw2']
        clear hw2' w2'
        go_wp2_with fail
        (try rw [HG6.out])
        clear HW2 HG6 HIN
        go_loopw [1, 8] (fun mv ov wr => ∃ (k : Nat) (u : Value) (s1 d1 s2 d2 : Nat), k ≤ M ∧ mv = .int .i64 ((M : Int) - (k : Int)) ∧ ov = u ∧ Hid (wr.heap[g6]? = some (.cells #[.slice (some ⟨s1, 0, none⟩) n d1, .slice (some ⟨s2, 0, none⟩) n d2] 30)) ∧ Hid (ZSRow wr s1 P ∧ ZSRow wr s2 (trnU P k)) ∧ Hid (n ≤ d1 ∧ d1 ≤ 9223372036854775807 ∧ n ≤ d2 ∧ d2 ≤ 9223372036854775807) ∧ Hid (wr.ownsRow (g6 + 1) 3 1 u k ((trnP P k).map (Value.int .i64))) ∧ Hid (∀ g, u.ownBlock = some g → g ≠ s1 ∧ g ≠ s2) ∧ Below w.heap.size w wr) (fun mv _ _ => (intOf mv).toNat)
        case atStart => exact ⟨0, _, t1, c1, t2, n, Nat.zero_le _, by simp, rfl, HX2, HQ2, HC2, HOW2, (fun g hg => (by cases hg)), hbw2⟩
        case round =>
          obtain ⟨k, u, s1, d1, s2, d2, hk, rfl, rfl, HX, HQ, HC, HO, HD, hb⟩ := hrel
          clear HX2 HQ2 HC2 HOW2 hbw2
          obtain ⟨xu, cu, hu⟩ := own_sliceT HO.out
          subst hu
          have hXl : g6 < wr.heap.size := (Array.getElem?_eq_some_iff.1 HX.out).1
          by_cases hlt : k < M
          · have HR : Hid (ZRow .i64 wr (.slice (some ⟨s1, 0, none⟩) n d1) P ∧ ZRow .i64 wr (.slice (some ⟨s2, 0, none⟩) n d2) (trnU P k)) := by
              have h1 := HQ.out.1.rowc (cap := d1) (by rw [HNP.out]; exact HC.out.1) HC.out.2.1
              have h2 := HQ.out.2.rowc (cap := d2) (by rw [HUL.out, HNP.out]; exact HC.out.2.2.1) HC.out.2.2.2
              rw [HNP.out] at h1
              rw [HUL.out, HNP.out] at h2
              exact ⟨h1, h2⟩
            have HCA : Hid (Calls Try.prog 20 #[.agg #[.slice (some ⟨s1, 0, none⟩) n d1, .slice (some ⟨s2, 0, none⟩) n d2]] wr fun e w' => NxA w' wr.heap.size P (trnU P k) e ∧ Below wr.heap.size wr w') := HNX.out k _ _ wr HR.out.1 HR.out.2
            have hgt : ¬ ((M : Int) - (k : Int) ≤ 0) := by omega
            have hgt2 : 0 < (M : Int) - (k : Int) := by omega
            have HLT : Hid (∀ g, (Value.slice xu k cu).ownBlock = some g → g6 + 1 ≤ g ∧ g < wr.heap.size) := fun g hg => HO.out.lt g hg
            obtain ⟨⟨p0, p1⟩, _⟩ := trn_cells HX.out
            clear HR HNX
            go_wp2_with fail
            refine HCA.out.mono ?_
            rintro e w5 ⟨⟨g1, e1, g2, e2, rfl, he1, hf1, he2, hf2, hl1, hl2, hne, hq1, hq2⟩, hb5⟩
            unfold TrnV
            have hgl1 : g1 < w5.heap.size := hq1.1
            have hgl2 : g2 < w5.heap.size := hq2.1
            have hs5 := hb5.size
            have hx5 : w5.heap[g6]? = some (.cells #[.slice (some ⟨s1, 0, none⟩) n d1, .slice (some ⟨s2, 0, none⟩) n d2] 30) := (hb5.block _ hXl).trans HX.out
            have ho5 := own_belT HO.out hb5
            have hbw5 := hb.trans (hb5.mono hb.size)
            have hkb := HKB.out k
            obtain ⟨kk, hkk⟩ : ∃ kk, kk = nxtK P (trnU P k) := ⟨_, rfl⟩
            have HTK : Hid ((trnP P k).map (Value.int .i64) ++ [Value.int .i64 (kk : Int)] = (trnP P (k + 1)).map (Value.int .i64)) := by rw [hkk]; exact HTN.out k
            rw [← hkk] at hkb ⊢
            rw [HNP.out] at he1 he2 ⊢
            obtain ⟨W6, hW6⟩ : ∃ W6, W6 = w5.alloc (.cells #[.slice (some ⟨g1, 0, none⟩) n e1, .slice (some ⟨g2, 0, none⟩) n e2] 30) := ⟨_, rfl⟩
            have hb56 : Below w5.heap.size w5 W6 := by rw [hW6]; exact (Below.refl _ _).alloc (Nat.le_refl _) _
            have hn6 : W6.heap[w5.heap.size]? = some (.cells #[.slice (some ⟨g1, 0, none⟩) n e1, .slice (some ⟨g2, 0, none⟩) n e2] 30) := by rw [hW6]; exact trn_new _ _
            have hx6 : W6.heap[g6]? = some (.cells #[.slice (some ⟨s1, 0, none⟩) n d1, .slice (some ⟨s2, 0, none⟩) n d2] 30) := (hb56.block _ (by omega)).trans hx5
            have ho6 := own_belT ho5 hb56
            have hq16 := hq1.kept hb56
            have hq26 := hq2.kept hb56
            have hbw6 := hbw5.trans (hb56.mono hbw5.size)
            have hs6 := hb56.size
            obtain ⟨W7, hW7⟩ : ∃ W7, W7 = put2v W6 g6 (.slice (some ⟨g1, 0, none⟩) n e1) (.slice (some ⟨g2, 0, none⟩) n e2) := ⟨_, rfl⟩
            have hk67 : Kpt W6 W7 (fun j => j = g6) := by rw [hW7]; unfold put2v; exact (kpt_set (S := fun j => j = g6) _ _ _ _ rfl).trans (kpt_set (S := fun j => j = g6) _ _ _ _ rfl)
            have hx7 : W7.heap[g6]? = some (.cells #[.slice (some ⟨g1, 0, none⟩) n e1, .slice (some ⟨g2, 0, none⟩) n e2] 30) := by rw [hW7]; exact put2v_heap hx6
            have ho7 := own_keptT ho6 hk67 (fun g hg => by have := (HLT.out g hg).1; omega)
            have hq17 := hq16.apart hk67 (by omega)
            have hq27 := hq26.apart hk67 (by omega)
            have hbw7 : Below w.heap.size w W7 := hbw6.trans (hk67.below hbw6.size (fun j hj h => by omega))
            have hs7 := hk67.size
            have hb78 : Below W7.heap.size W7 (W7.alloc (.cells #[.int .i64 (kk : Int)] 3)) := (Below.refl _ _).alloc (Nat.le_refl _) _
            have hnews := cell_new_oneT W7 (.int .i64 (kk : Int)) 3
            have ho8 := own_belT ho7 hb78
            have HX7 : Hid (W7.heap[g6]? = some (.cells #[.slice (some ⟨g1, 0, none⟩) n e1, .slice (some ⟨g2, 0, none⟩) n e2] 30)) := hx7
            have HQ7 : Hid (ZSRow W7 g1 P ∧ ZSRow W7 g2 (trnU P (k + 1))) := ⟨hq17, hq27⟩
            have HCN : Hid (n ≤ e1 ∧ e1 ≤ 9223372036854775807 ∧ n ≤ e2 ∧ e2 ≤ 9223372036854775807) := ⟨he1, hf1, he2, hf2⟩
            have HW6 : Hid (w5.alloc (.cells #[.slice (some ⟨g1, 0, none⟩) n e1, .slice (some ⟨g2, 0, none⟩) n e2] 30) = W6) := hW6.symm
            have HW7 : Hid ((W6.setCell ⟨g6, 0, none⟩ (.slice (some ⟨g1, 0, none⟩) n e1)).setCell ⟨g6, 1, none⟩ (.slice (some ⟨g2, 0, none⟩) n e2) = W7) := by rw [hW7]; rfl
            have h7l : g1 < W7.heap.size ∧ g2 < W7.heap.size ∧ wr.heap.size ≤ W7.heap.size := by omega
            obtain ⟨⟨q0, q1⟩, ⟨z0, z1⟩⟩ := trn_cells hx6
            obtain ⟨⟨n0, n1⟩, _⟩ := trn_cells hn6
            clear p0 p1 hb5 hx5 ho5 hbw5 hkk hW6 hb56 hn6 hx6 ho6 hq16 hq26 hbw6 hW7 hk67 hx7 ho7 hq17 hq27 hq1 hq2 hs6 hs7 he1 he2 hf1 hf2 HX HQ HO HCA
            go_wp2_with (first | rw [HW6.out] | rw [HW7.out] | (at_builtin; refine wpList_append_atT rfl (.tmp 33) (.tmp 35) 23 rfl (g6 + 1) 3 i0 (.int .i64 0) 1 8 Try.underlying23 hi hz0 hz1 hz2 rfl (by decide) _ _ _ rfl ho8 ⟨W7.heap.size, 0, none⟩ 1 1 [.int .i64 (kk : Int)] rfl rfl hnews (one_intT _) ?d3 ?d4 ?d5 ?_))
            case d3 => unfold maxLen; omega
            case d4 => omega
            case d5 => simp; omega
            intro v9 w9 hown9 hgrow9 hat9
            rw [HTK.out] at hown9
            have hk9 := grown_kpt hgrow9
            have hX9 : w9.heap[g6]? = some (.cells #[.slice (some ⟨g1, 0, none⟩) n e1, .slice (some ⟨g2, 0, none⟩) n e2] 30) := (hk9.block _ (by simp; omega) (fun h => by have := (HLT.out _ h).1; omega)).trans ((hb78.block _ (by omega)).trans HX7.out)
            have hQ9 : ZSRow w9 g1 P ∧ ZSRow w9 g2 (trnU P (k + 1)) := ⟨(HQ7.out.1.kept hb78).apart hk9 (fun h => by have := (HLT.out _ h).2; omega), (HQ7.out.2.kept hb78).apart hk9 (fun h => by have := (HLT.out _ h).2; omega)⟩
            have hb9 : Below w.heap.size w w9 := (hbw7.trans (hb78.mono hbw7.size)).trans (hk9.below (Nat.le_trans hbw7.size hb78.size) (fun j hj h => by have := (HLT.out _ h).1; omega))
            have hD9 : ∀ g, v9.ownBlock = some g → g ≠ g1 ∧ g ≠ g2 := fun g hg => by
              rcases hat9 with h | h
              · rw [hg] at h
                have := (HLT.out g h.symm).2
                omega
              · rw [hg] at h
                have e : g = W7.heap.size + 1 := Option.some.inj h
                omega
            have HX9 : Hid (w9.heap[g6]? = some (.cells #[.slice (some ⟨g1, 0, none⟩) n e1, .slice (some ⟨g2, 0, none⟩) n e2] 30)) := hX9
            have HQ9 : Hid (ZSRow w9 g1 P ∧ ZSRow w9 g2 (trnU P (k + 1))) := hQ9
            have HO9 : Hid (w9.ownsRow (g6 + 1) 3 1 v9 (k + 1) ((trnP P (k + 1)).map (Value.int .i64))) := hown9
            have HD9 : Hid (∀ g, v9.ownBlock = some g → g ≠ g1 ∧ g ≠ g2) := hD9
            clear hown9 hgrow9 hat9 hk9 hX9 hQ9 hD9 hb78 hnews ho8 hbw7 HX7 HQ7
            go_wp2_with fail
            go_roundw
            case rel => exact ⟨k + 1, v9, g1, e1, g2, e2, by omega, by go_num, rfl, HX9, HQ9, HCN, HO9, HD9, hb9⟩
            case measure => simp [intOf]; omega
          · have hkM : k = M := by omega
            have HO2 : Hid (wr.ownsRow (g6 + 1) 3 1 (.slice xu k cu) k ((trnP P k).map (Value.int .i64))) := HO
            have HKM : Hid (k = M) := hkM
            have hle : ¬ (0 < (M : Int) - (k : Int)) := by omega
            clear hkM HX HQ HO HD HC HNX
            go_wp2_with fail
            go_ret2
            refine ⟨⟨_, rfl, ?_⟩, hb⟩
            rw [trnP_length]
            have h := own_baseT HO2.out (show w.heap.size ≤ g6 + 1 by omega)
            rw [HKM.out] at h
            first | exact h | (rw [HKM.out]; exact h)
end Go.Proofs.Ytfbnigicigajeaa

namespace Go.Proofs.Ytfbnigicigajeaa
open Go.RowKit

/-- What TurnsOf of the program tells. -/
def TuI (w' : World) (base : Nat) (ok : Bool) (O : List Int) (e : Ending) : Prop := ∃ v, e = .returned (.tuple #[v, .bool ok]) ∧ OwnZ w' base v O
theorem tui_off (w' : World) (base : Nat) : TuI w' base false [] (.returned (.tuple #[.slice none 0 0, .bool false])) := ⟨_, rfl, .inl ⟨rfl, rfl⟩⟩

set_option maxRecDepth 20000 in
set_option maxHeartbeats 8000000 in
theorem iTurnsOf_any (v : Value) (P : List Int) (m : Int) (w : World) (hr : ZRow .i64 w v P) (hl : P.length ≤ 1048576) :
    Calls Try.prog 5 #[v, .int .i64 m] w fun e w' => TuI w' w.heap.size (tuB P m) (tuL P m) e ∧ Below w.heap.size w w' := by
  have HNT : Hid (Calls Try.prog 14 #[v] w fun e w' => NTAns w' w.heap.size P e ∧ Below w.heap.size w w') := iNewTurn_any v P w hr hl
  have HIN : Hid (∀ W, Calls Try.prog 18 #[.int .i64 m, .int .i64 0, .int .i64 600] W fun e w' => e = .returned (.bool (inB m 0 600)) ∧ w' = W) := fun W => iWithin_anyY m 0 600 W
  have HOFF : Hid (tuB P m = false → tuL P m = []) := fun h => by unfold tuL; rw [h]; rfl
  clear hr
  cases hg : goodW P with
  | false =>
    have HB : Hid (tuB P m = false) := by show _ = _; unfold tuB; rw [hg]; rfl
    rw [HOFF.out HB.out, HB.out]
    go_enter Try.func5, Try.ntmps5
    go_wp2_with fail
    refine HNT.out.mono ?_
    rintro e w1 ⟨h | h, hb1⟩
    · obtain ⟨_, rfl⟩ := h
      unfold TrnV
      have hb2 : Below w.heap.size w (w1.alloc (.cells #[.slice none 0 0, .slice none 0 0] 30)) := hb1.alloc hb1.size _
      clear hg
      go_wp2_with fail
      go_ret2
      exact ⟨tui_off _ _, hb2⟩
    · rw [hg] at h; exact absurd h.1 (by simp)
  | true =>
    have HPP : Hid (0 < P.length) := good_pos hg
    cases hin : inB m 0 600 with
    | false =>
      have HB : Hid (tuB P m = false) := by show _ = _; unfold tuB; rw [hin]; simp
      rw [HOFF.out HB.out, HB.out]
      rw [hin] at HIN
      go_enter Try.func5, Try.ntmps5
      go_wp2_with fail
      refine HNT.out.mono ?_
      rintro e w1 ⟨h | h, hb1⟩
      · rw [hg] at h; exact absurd h.1 (by simp)
      · obtain ⟨_, t1, c1, t2, rfl, _, _, _, _, _, _, _⟩ := h
        unfold TrnV
        have hb2 : Below w.heap.size w (w1.alloc (.cells #[.slice (some ⟨t1, 0, none⟩) P.length c1, .slice (some ⟨t2, 0, none⟩) P.length P.length] 30)) := hb1.alloc hb1.size _
        clear hg hin
        go_wp2_with fail
        refine (HIN.out _).mono ?_
        rintro e w2 ⟨rfl, rfl⟩
        go_wp2_with fail
        go_ret2
        exact ⟨tui_off _ _, hb2⟩
    | true =>
      obtain ⟨M, rfl, hM⟩ : ∃ M : Nat, m = (M : Int) ∧ M ≤ 600 := by
        simp only [inB, Bool.and_eq_true, decide_eq_true_eq] at hin
        exact ⟨m.toNat, by omega, by omega⟩
      have HB : Hid (tuB P (M : Int) = true ∧ tuL P (M : Int) = trnP P M) := by
        have h : tuB P (M : Int) = true := by unfold tuB; rw [hg, hin]; rfl
        refine ⟨h, ?_⟩
        unfold tuL; rw [h]; simp
      rw [HB.out.1, HB.out.2]
      rw [hin] at HIN
      have HNX : Hid (∀ k v1 v2 W, ZRow .i64 W v1 P → ZRow .i64 W v2 (trnU P k) → Calls Try.prog 9 #[TrnV v1 v2] W fun e w' => NTA w' W.heap.size true (nxtK P (trnU P k)) P (trnU P (k + 1)) e ∧ Below W.heap.size W w') := fun k v1 v2 W h1 h2 => by
        have h := iNextTurn_any v1 v2 P (trnU P k) W h1 h2 hl
        rw [trnU_ok hg k] at h
        exact h
      have HUL : Hid (∀ k, (trnU P k).length = P.length) := fun k => (trnU_inv hg k).1
      have HTN : Hid (∀ k, (trnP P k).map (Value.int .i64) ++ [Value.int .i64 (nxtK P (trnU P k) : Int)] = (trnP P (k + 1)).map (Value.int .i64)) := fun k => by rw [trnP_next, List.map_append]; rfl
      have HKB : Hid (∀ k, nxtK P (trnU P k) ≤ 12) := fun k => by
        have h1 := bestN_le (addZ (trnU P k) P) (trnU P k).length
        have h2 := (trnU_inv hg k).1
        have h3 := (goodW_parts hg).1
        unfold nxtK; omega
      obtain ⟨i0, hi, hz0, hz1, hz2⟩ := info_parts info_intY
      clear hin HOFF
      go_enter Try.func5, Try.ntmps5
      go_wp2_with fail
      refine HNT.out.mono ?_
      rintro e w1 ⟨h | h, hb1⟩
      · rw [hg] at h; exact absurd h.1 (by simp)
      · obtain ⟨_, t1, c1, t2, rfl, hc1, hm1, hl1, hl2, hne, hq1, hq2⟩ := h
        unfold TrnV
        obtain ⟨n, hn⟩ : ∃ n, n = P.length := ⟨_, rfl⟩
        have HNP : Hid (P.length = n) := hn.symm
        rw [← hn] at hc1 ⊢
        obtain ⟨W2, hW2⟩ : ∃ W2, W2 = w1.alloc (.cells #[.slice (some ⟨t1, 0, none⟩) n c1, .slice (some ⟨t2, 0, none⟩) n n] 30) := ⟨_, rfl⟩
        obtain ⟨g6, hg6⟩ : ∃ g, g = w1.heap.size := ⟨_, rfl⟩
        have hb12 : Below w1.heap.size w1 W2 := by rw [hW2]; exact (Below.refl _ _).alloc (Nat.le_refl _) _
        have HX2 : Hid (W2.heap[g6]? = some (.cells #[.slice (some ⟨t1, 0, none⟩) n c1, .slice (some ⟨t2, 0, none⟩) n n] 30)) := by rw [hW2, hg6]; exact trn_new _ _
        have HQ2 : Hid (ZSRow W2 t1 P ∧ ZSRow W2 t2 (trnU P 0)) := ⟨hq1.kept hb12, hq2.kept hb12⟩
        have hbw2 := hb1.trans (hb12.mono hb1.size)
        have hnl : n ≤ 1048576 := by omega
        have HC2 : Hid (n ≤ c1 ∧ c1 ≤ 9223372036854775807 ∧ n ≤ n ∧ n ≤ 9223372036854775807) := ⟨hc1, hm1, Nat.le_refl _, by omega⟩
        have hw6 : w.heap.size ≤ g6 := by rw [hg6]; exact hb1.size
        have HW2 : Hid (w1.alloc (.cells #[.slice (some ⟨t1, 0, none⟩) n c1, .slice (some ⟨t2, 0, none⟩) n n] 30) = W2) := hW2.symm
        have HG6 : Hid (w1.heap.size = g6) := hg6.symm
        clear hq1 hq2 hW2 hb12 hb1 hg hn hg6 hl1 hl2 hc1 hm1 hne
        go_wp2_with (rw [HW2.out])
        refine (HIN.out _).mono ?_
        rintro e w2' ⟨rfl, hw2'⟩
        rw [hw2']
        clear hw2' w2'
        go_wp2_with (at_make; refine wpList_make_full _ rfl _ _ 23 rfl W2.heap.size 3 i0 (.int .i64 0) 1 Try.underlying23 hi hz0 hz1 _ _ _ _ M rfl rfl rfl rfl ?b2 ?b3 ?b4 ?_)
        case b2 => rw [hz2]; omega
        case b3 => unfold maxLen; omega
        case b4 => exact Nat.le_refl _
        intro w3 hown3 hgrow3
        have hb23 : Below W2.heap.size W2 w3 := (Below.refl _ _).grown hgrow3 (Nat.le_refl _) (fun k h => by cases h)
        have hlp : (trnP P M).length = M := trnP_length P M
        have hz3 : ZSRow w3 W2.heap.size (partZ (trnP P M) 0) := made_zs (w := W2) (P := trnP P M) (by rw [hlp]; simpa [show (Value.int .i64 0).cells = #[Value.int .i64 0] from rfl] using hown3)
        have h62 : g6 < W2.heap.size := (Array.getElem?_eq_some_iff.1 HX2.out).1
        have h12 : t1 < W2.heap.size := HQ2.out.1.1
        have h22 : t2 < W2.heap.size := HQ2.out.2.1
        have HX3 : Hid (w3.heap[g6]? = some (.cells #[.slice (some ⟨t1, 0, none⟩) n c1, .slice (some ⟨t2, 0, none⟩) n n] 30)) := (hb23.block _ h62).trans HX2.out
        have HQ3 : Hid (ZSRow w3 t1 P ∧ ZSRow w3 t2 (trnU P 0)) := ⟨HQ2.out.1.kept hb23, HQ2.out.2.kept hb23⟩
        have HZ3 : Hid (ZSRow w3 W2.heap.size (partZ (trnP P M) 0)) := hz3
        have hbw3 := hbw2.trans (hb23.mono hbw2.size)
        have HLP : Hid ((trnP P M).length = M) := hlp
        have hwW2 : w.heap.size ≤ W2.heap.size := hbw2.size
        clear hown3 hgrow3 hb23 hz3 HX2 HQ2 hbw2 hlp
        go_wp2_with fail
        (try rw [HG6.out])
        obtain ⟨gp, hgp⟩ : ∃ gp, gp = W2.heap.size := ⟨_, rfl⟩
        rw [← hgp] at HZ3 h62 h12 h22 hwW2 ⊢
        clear HW2 HG6 HIN hgp
        have HNE0 : Hid (t1 ≠ gp ∧ t2 ≠ gp) := ⟨by omega, by omega⟩
        go_loopw [26] (fun iv wr => ∃ (k : Nat) (s1 d1 s2 d2 : Nat), k ≤ M ∧ iv = .int .i64 (k : Int) ∧ Hid (wr.heap[g6]? = some (.cells #[.slice (some ⟨s1, 0, none⟩) n d1, .slice (some ⟨s2, 0, none⟩) n d2] 30)) ∧ Hid (ZSRow wr s1 P ∧ ZSRow wr s2 (trnU P k)) ∧ Hid (n ≤ d1 ∧ d1 ≤ 9223372036854775807 ∧ n ≤ d2 ∧ d2 ≤ 9223372036854775807) ∧ Hid (ZSRow wr gp (partZ (trnP P M) k)) ∧ Hid (s1 ≠ gp ∧ s2 ≠ gp) ∧ Below w.heap.size w wr) (fun iv _ => M - (intOf iv).toNat)
        case atStart => exact ⟨0, t1, c1, t2, n, Nat.zero_le _, rfl, HX3, HQ3, HC2, HZ3, HNE0, hbw3⟩
        case round =>
          obtain ⟨k, s1, d1, s2, d2, hk, rfl, HX, HQ, HC, HZ, HNE, hb⟩ := hrel
          clear HX3 HQ3 HC2 HZ3 HNE0 hbw3
          have hXl : g6 < wr.heap.size := (Array.getElem?_eq_some_iff.1 HX.out).1
          have hPl : gp < wr.heap.size := HZ.out.1
          by_cases hlt : k < M
          · have HR : Hid (ZRow .i64 wr (.slice (some ⟨s1, 0, none⟩) n d1) P ∧ ZRow .i64 wr (.slice (some ⟨s2, 0, none⟩) n d2) (trnU P k)) := by
              have h1 := HQ.out.1.rowc (cap := d1) (by rw [HNP.out]; exact HC.out.1) HC.out.2.1
              have h2 := HQ.out.2.rowc (cap := d2) (by rw [HUL.out, HNP.out]; exact HC.out.2.2.1) HC.out.2.2.2
              rw [HNP.out] at h1
              rw [HUL.out, HNP.out] at h2
              exact ⟨h1, h2⟩
            have HCA : Hid (Calls Try.prog 9 #[.agg #[.slice (some ⟨s1, 0, none⟩) n d1, .slice (some ⟨s2, 0, none⟩) n d2]] wr fun e w' => NTA w' wr.heap.size true (nxtK P (trnU P k)) P (trnU P (k + 1)) e ∧ Below wr.heap.size wr w') := HNX.out k _ _ wr HR.out.1 HR.out.2
            have HPN : Hid (0 < n) := by rw [← HNP.out]; exact HPP.out
            have hlk : k < (trnP P M).length := by rw [HLP.out]; exact hlt
            have hpk : k < (partZ (trnP P M) k).length := by rw [partZ_length _ _ (by omega)]; exact hlk
            have HSET : Hid (∀ W, ZSRow W gp (partZ (trnP P M) k) → (∃ y : Int, W.cell? ⟨gp, k, none⟩ = some (.int .i64 y)) ∧ W.frozen? ⟨gp, k, none⟩ = false ∧ ZSRow (W.setCell ⟨gp, k, none⟩ (.int .i64 (nxtK P (trnU P k) : Int))) gp (partZ (trnP P M) (k + 1))) := fun W h => by
              have h1 := h.2 k hpk
              have h2 := zs_setT h k hpk (nxtK P (trnU P k) : Int)
              rw [partZ_next _ _ hlk, trnP_get P M k hlt]
              exact ⟨⟨_, h1.1⟩, h1.2, h2⟩
            have hki : (k : Int) < (M : Int) := by omega
            obtain ⟨⟨p0, p1⟩, _⟩ := trn_cells HX.out
            clear HR HNX hlk hpk
            go_wp2_with fail
            refine HCA.out.mono ?_
            rintro e w5 ⟨⟨v1, v2, rfl, ho⟩, hb5⟩
            rcases ho with ⟨_, _, hnil, _⟩ | ⟨g1, e1, g2, e2, rfl, rfl, he1, hf1, he2, hf2, hl1, hl2, hne, hq1, hq2⟩
            · exact absurd (congrArg List.length hnil) (by simp only [if_true]; rw [HNP.out]; have := HPN.out; simp; omega)
            simp only [if_true] at he1 he2 hq1 hq2 ⊢
            unfold TrnV
            rw [HUL.out, HNP.out] at he2
            rw [HNP.out] at he1
            rw [HUL.out, HNP.out]
            have hgl1 : g1 < w5.heap.size := hq1.1
            have hgl2 : g2 < w5.heap.size := hq2.1
            have hs5 := hb5.size
            have hx5 : w5.heap[g6]? = some (.cells #[.slice (some ⟨s1, 0, none⟩) n d1, .slice (some ⟨s2, 0, none⟩) n d2] 30) := (hb5.block _ hXl).trans HX.out
            have hz5 := HZ.out.kept hb5
            have hbw5 := hb.trans (hb5.mono hb.size)
            have hkb := HKB.out k
            obtain ⟨kk, hkk⟩ : ∃ kk, kk = nxtK P (trnU P k) := ⟨_, rfl⟩
            rw [← hkk] at hkb HSET ⊢
            obtain ⟨W7, hW7⟩ : ∃ W7, W7 = put2v w5 g6 (.slice (some ⟨g1, 0, none⟩) n e1) (.slice (some ⟨g2, 0, none⟩) n e2) := ⟨_, rfl⟩
            have hk67 : Kpt w5 W7 (fun j => j = g6) := by rw [hW7]; unfold put2v; exact (kpt_set (S := fun j => j = g6) _ _ _ _ rfl).trans (kpt_set (S := fun j => j = g6) _ _ _ _ rfl)
            have hx7 : W7.heap[g6]? = some (.cells #[.slice (some ⟨g1, 0, none⟩) n e1, .slice (some ⟨g2, 0, none⟩) n e2] 30) := by rw [hW7]; exact put2v_heap hx5
            have hz7 := hz5.apart hk67 (by omega)
            have hq17 := hq1.apart hk67 (by omega)
            have hq27 := hq2.apart hk67 (by omega)
            have hbw7 : Below w.heap.size w W7 := hbw5.trans (hk67.below hbw5.size (fun j hj h => by omega))
            have hs7 := hk67.size
            obtain ⟨⟨y, hcy⟩, hfy, hz8⟩ := HSET.out W7 hz7
            have hk78 := kpt_set W7 gp k (.int .i64 (kk : Int)) (S := fun j => j = gp) rfl
            have HX8 : Hid ((W7.setCell ⟨gp, k, none⟩ (.int .i64 (kk : Int))).heap[g6]? = some (.cells #[.slice (some ⟨g1, 0, none⟩) n e1, .slice (some ⟨g2, 0, none⟩) n e2] 30)) := (hk78.block _ (by omega) (by omega)).trans hx7
            have HQ8 : Hid (ZSRow (W7.setCell ⟨gp, k, none⟩ (.int .i64 (kk : Int))) g1 P ∧ ZSRow (W7.setCell ⟨gp, k, none⟩ (.int .i64 (kk : Int))) g2 (trnU P (k + 1))) := ⟨hq17.apart hk78 (by omega), hq27.apart hk78 (by omega)⟩
            have HZ8 : Hid (ZSRow (W7.setCell ⟨gp, k, none⟩ (.int .i64 (kk : Int))) gp (partZ (trnP P M) (k + 1))) := hz8
            have HN8 : Hid (g1 ≠ gp ∧ g2 ≠ gp) := ⟨by omega, by omega⟩
            have hb8 : Below w.heap.size w (W7.setCell ⟨gp, k, none⟩ (.int .i64 (kk : Int))) := hbw7.trans (hk78.below hbw7.size (fun j hj h => by omega))
            have HCN : Hid (n ≤ e1 ∧ e1 ≤ 9223372036854775807 ∧ n ≤ e2 ∧ e2 ≤ 9223372036854775807) := ⟨he1, hf1, he2, hf2⟩
            have HW7 : Hid ((w5.setCell ⟨g6, 0, none⟩ (.slice (some ⟨g1, 0, none⟩) n e1)).setCell ⟨g6, 1, none⟩ (.slice (some ⟨g2, 0, none⟩) n e2) = W7) := by rw [hW7]; rfl
            obtain ⟨⟨q0, q1⟩, ⟨z0, z1⟩⟩ := trn_cells hx5
            clear p0 p1 hb5 hx5 hz5 hbw5 hkk hW7 hk67 hx7 hz7 hq17 hq27 hq1 hq2 hs7 he1 he2 hf1 hf2 HX HQ HZ HCA hz8 hk78 hbw7 HSET
            go_wp2_with (rw [HW7.out])
            go_roundw
            case rel => exact ⟨k + 1, g1, e1, g2, e2, by omega, by go_num, HX8, HQ8, HCN, HZ8, HN8, hb8⟩
            case measure => simp [intOf]; omega
          · have hkM : k = M := by omega
            have HO2 : Hid (ZSRow wr gp (trnP P M)) := by
              have h := HZ.out
              have e : k = (trnP P M).length := by rw [HLP.out]; exact hkM
              rw [e, partZ_end] at h
              exact h
            clear hkM HX HQ HZ HC HNX
            go_wp2_with fail
            go_ret2
            exact ⟨⟨.slice (some ⟨gp, 0, none⟩) M M, rfl, .inr ⟨gp, hwW2, by rw [trnP_length], HO2.out⟩⟩, hb⟩
end Go.Proofs.Ytfbnigicigajeaa

namespace Go.Proofs.Ytfbnigicigajeaa
open Go.RowKit

/-- How often i was picked in the first j turns. -/
def pckN (A : List Int) (i : Nat) : Nat → Int
  | 0 => 0
  | j + 1 => pckN A i j + if nxtK A (trnU A j) = i then 1 else 0
theorem pckN_next (A : List Int) (i j : Nat) : pckN A i (j + 1) = pckN A i j + if nxtK A (trnU A j) = i then 1 else 0 := rfl
theorem pckN_nonneg (A : List Int) (i : Nat) : ∀ j, 0 ≤ pckN A i j
  | 0 => Int.le_refl _
  | j + 1 => by
    have ih := pckN_nonneg A i j
    rw [pckN_next]
    split <;> omega
theorem trnU_length (A : List Int) : ∀ j, (trnU A j).length = A.length
  | 0 => by simp [trnU, zrs]
  | j + 1 => nxtL_length (trnU_length A j)
theorem nxtL_getD {A U : List Int} (h : U.length = A.length) {i : Nat} (hi : i < A.length) : (nxtL A U).getD i 0 = U.getD i 0 + A.getD i 0 - (if nxtK A U = i then A.sum else 0) := by
  have hl : i < (addZ U A).length := by rw [addZ_length h]; omega
  have e : (addZ U A).getD i 0 = U.getD i 0 + A.getD i 0 := by rw [getD_get hl, addZ_get h (by omega), getD_get (by omega : i < U.length), getD_get hi]
  unfold nxtL
  rw [getD_get (by rw [List.length_set]; exact hl), List.getElem_set]
  by_cases hk : nxtK A U = i
  · rw [if_pos hk, if_pos hk, hk, e]
  · rw [if_neg hk, if_neg hk, ← getD_get hl, e]; omega
/-- The number of one is what it weighs in all turns, less the whole for each turn that it was picked in. -/
theorem trnU_is (A : List Int) {i : Nat} (hi : i < A.length) : ∀ j : Nat, (trnU A j).getD i 0 = (j : Int) * A.getD i 0 - A.sum * pckN A i j
  | 0 => by
    have e : (trnU A 0).getD i 0 = 0 := by
      show (zrs A.length).getD i 0 = 0
      unfold zrs
      rw [getD_get (by rw [List.length_replicate]; exact hi), List.getElem_replicate]
    rw [e]; simp [pckN]
  | j + 1 => by
    have ih := trnU_is A hi j
    show (nxtL A (trnU A j)).getD i 0 = _
    rw [nxtL_getD (trnU_length A j) hi, ih]
    rw [pckN_next]
    split
    · rw [Int.mul_add, Int.mul_one, show ((j + 1 : Nat) : Int) = (j : Int) + 1 by omega, Int.add_mul, Int.one_mul]; omega
    · rw [Int.add_zero, show ((j + 1 : Nat) : Int) = (j : Int) + 1 by omega, Int.add_mul, Int.one_mul]; omega
/-- No number falls as low as the whole. -/
theorem trnU_low {A : List Int} (hg : goodW A = true) : ∀ j, ∀ x ∈ trnU A j, -A.sum < x
  | 0, x, hx => by
    obtain ⟨_, _, hpos⟩ := goodW_parts hg
    have := (List.mem_replicate.1 hx).2
    omega
  | j + 1, x, hx => by
    obtain ⟨⟨h4, h5⟩, hw, hpos⟩ := goodW_parts hg
    have ih := trnU_low hg j
    obtain ⟨h1, h2, _⟩ := trnU_inv hg j
    have hlen : (addZ (trnU A j) A).length = (trnU A j).length := addZ_length h1
    have hb : nxtK A (trnU A j) < (addZ (trnU A j) A).length := by rw [hlen]; exact bestN_lt _ _ (by omega)
    have hS : (addZ (trnU A j) A).sum = A.sum := by rw [sum_add _ A h1, h2]; omega
    have hp : 0 < (addZ (trnU A j) A).getD (nxtK A (trnU A j)) 0 := by
      rcases Int.lt_or_le 0 ((addZ (trnU A j) A).getD (nxtK A (trnU A j)) 0) with h | h
      · exact h
      · have := sum_nonpos (addZ (trnU A j) A) (fun y hy => by
          obtain ⟨q, hq, rfl⟩ := List.getElem_of_mem hy
          have h6 := bestN_max (addZ (trnU A j) A) (trnU A j).length q (by omega)
          rw [getD_get hq] at h6
          have h7 : (addZ (trnU A j) A).getD (bestN (addZ (trnU A j) A) (trnU A j).length) 0 ≤ 0 := h
          omega)
        omega
    have hx2 : x ∈ (addZ (trnU A j) A).set (nxtK A (trnU A j)) ((addZ (trnU A j) A).getD (nxtK A (trnU A j)) 0 - A.sum) := hx
    rcases List.mem_or_eq_of_mem_set hx2 with h | h
    · obtain ⟨q, hq, rfl⟩ := List.getElem_of_mem h
      rw [addZ_get h1 (by omega : q < (trnU A j).length)]
      have a1 := ih _ (List.getElem_mem (by omega : q < (trnU A j).length))
      have a2 := wt_in (List.all_eq_true.1 hw _ (List.getElem_mem (by omega : q < A.length)))
      omega
    · omega
theorem sum_all0 : ∀ (L : List Int), (∀ x ∈ L, 0 ≤ x) → L.sum = 0 → ∀ x ∈ L, x = 0
  | [], _, _, x, hx => by simp at hx
  | y :: L, h, hs, x, hx => by
    have hL := fun z (hz : z ∈ L) => h z (List.mem_cons_of_mem _ hz)
    have hy := h y (List.mem_cons_self)
    have hn : 0 ≤ L.sum := by
      have : ∀ M : List Int, (∀ z ∈ M, 0 ≤ z) → 0 ≤ M.sum := fun M => by
        induction M with
        | nil => intro _; simp
        | cons a M ih => intro hM; have := ih (fun z hz => hM z (List.mem_cons_of_mem _ hz)); have := hM a (List.mem_cons_self); rw [List.sum_cons]; omega
      exact this L hL
    rw [List.sum_cons] at hs
    rcases List.mem_cons.1 hx with rfl | hx
    · omega
    · exact sum_all0 L hL (by omega) x hx
/-- In as many turns as all weigh together all numbers come back to 0. -/
theorem trnU_back {A : List Int} (hg : goodW A = true) : trnU A A.sum.toNat = zrs A.length := by
  obtain ⟨_, _, hpos⟩ := goodW_parts hg
  obtain ⟨h1, h2, _⟩ := trnU_inv hg A.sum.toNat
  have hlow := trnU_low hg A.sum.toNat
  have hnn : ∀ x ∈ trnU A A.sum.toNat, 0 ≤ x := fun x hx => by
    have hlx := hlow x hx
    obtain ⟨i, hi, rfl⟩ := List.getElem_of_mem hx
    have h3 := trnU_is A (i := i) (by omega) A.sum.toNat
    rw [getD_get hi, show ((A.sum.toNat : Nat) : Int) = A.sum by omega, ← Int.mul_sub] at h3
    rw [h3] at hlx ⊢
    have h4 : 0 ≤ A.getD i 0 - pckN A i A.sum.toNat := by
      rcases Int.lt_or_le (A.getD i 0 - pckN A i A.sum.toNat) 0 with h | h
      · have h5 : A.sum * (A.getD i 0 - pckN A i A.sum.toNat) ≤ A.sum * (-1) := Int.mul_le_mul_of_nonneg_left (by omega) (by omega)
        omega
      · exact h
    exact Int.mul_nonneg (by omega) h4
  have h0 := sum_all0 _ hnn h2
  unfold zrs
  exact List.eq_replicate_iff.2 ⟨h1, fun x hx => h0 x hx⟩
/-- .. and each was picked as often as it weighs. -/
theorem pckN_all {A : List Int} (hg : goodW A = true) {i : Nat} (hi : i < A.length) : pckN A i A.sum.toNat = A.getD i 0 := by
  obtain ⟨_, _, hpos⟩ := goodW_parts hg
  have h3 := trnU_is A hi A.sum.toNat
  rw [trnU_back hg, show ((A.sum.toNat : Nat) : Int) = A.sum by omega, ← Int.mul_sub] at h3
  have e : (zrs A.length).getD i 0 = 0 := by
    unfold zrs
    rw [getD_get (by rw [List.length_replicate]; exact hi), List.getElem_replicate]
  rw [e] at h3
  rcases Int.mul_eq_zero.1 h3.symm with h | h <;> omega
theorem trnU_again {A : List Int} (hg : goodW A = true) : ∀ j, trnU A (j + A.sum.toNat) = trnU A j
  | 0 => by rw [Nat.zero_add, trnU_back hg]; rfl
  | j + 1 => by
    rw [show j + 1 + A.sum.toNat = (j + A.sum.toNat) + 1 by omega]
    show nxtL A (trnU A (j + A.sum.toNat)) = nxtL A (trnU A j)
    rw [trnU_again hg j]
theorem trnU_turn {A : List Int} (hg : goodW A = true) (j q : Nat) : trnU A (j + q * A.sum.toNat) = trnU A j := by
  induction q with
  | zero => simp
  | succ q ih => rw [Nat.succ_mul, ← Nat.add_assoc, trnU_again hg, ih]
/-- Who is picked comes again from turn to turn. -/
theorem trnU_mod {A : List Int} (hg : goodW A = true) (j : Nat) : trnU A j = trnU A (j % A.sum.toNat) := by
  have h := trnU_turn hg (j % A.sum.toNat) (j / A.sum.toNat)
  rw [← h]
  congr 1
  have := Nat.mod_add_div j A.sum.toNat
  rw [Nat.mul_comm] at this
  omega
theorem trnP_mod {A : List Int} (hg : goodW A = true) (m j : Nat) (hj : j < m) (hm : j % A.sum.toNat < A.sum.toNat) : (trnP A m)[j]'(by rw [trnP_length]; exact hj) = (trnP A A.sum.toNat)[j % A.sum.toNat]'(by rw [trnP_length]; exact hm) := by
  rw [trnP_get A m j hj, trnP_get A _ _ hm, trnU_mod hg j]
/-- How often each was picked in m turns. -/
def pckL (A : List Int) (m : Nat) : List Int := (List.range A.length).map (fun i => pckN A i m)
theorem pckL_length (A : List Int) (m : Nat) : (pckL A m).length = A.length := by simp [pckL]
theorem pckL_all {A : List Int} (hg : goodW A = true) : pckL A A.sum.toNat = A := by
  apply List.ext_getElem (pckL_length _ _)
  intro i h1 h2
  simp only [pckL, List.getElem_map, List.getElem_range]
  rw [pckN_all hg h2, getD_get h2]
theorem pckL_next (A : List Int) (m : Nat) (hk : nxtK A (trnU A m) < A.length) : pckL A (m + 1) = (pckL A m).set (nxtK A (trnU A m)) ((pckL A m)[nxtK A (trnU A m)]'(by rw [pckL_length]; exact hk) + 1) := by
  apply List.ext_getElem (by rw [List.length_set, pckL_length, pckL_length])
  intro i h1 h2
  rw [List.getElem_set]
  by_cases e : nxtK A (trnU A m) = i
  · rw [if_pos e]
    simp only [pckL, List.getElem_map, List.getElem_range]
    subst e
    rw [pckN_next, if_pos rfl]
  · rw [if_neg e]
    simp only [pckL, List.getElem_map, List.getElem_range]
    rw [pckN_next, if_neg e]; omega
end Go.Proofs.Ytfbnigicigajeaa
