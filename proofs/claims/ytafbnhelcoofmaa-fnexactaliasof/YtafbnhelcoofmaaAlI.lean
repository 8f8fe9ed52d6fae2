import Derived.Test.YtafbnhelcoofmaaAlR
namespace Go.Proofs.Ytafbnhelcoofmaa
open Go.RowKit

/-- Twelve columns: behind those of the weights such as neither give nor take. -/
def extR (T : Int) (R : List ColT) : List ColT := R ++ (List.range (12 - R.length)).map (fun (j : Nat) => ((T, ((R.length + j : Nat) : Int)) : ColT))
theorem extR_length {T : Int} {R : List ColT} (h : R.length ≤ 12) : (extR T R).length = 12 := by simp [extR]; omega
theorem extR_lo {T : Int} {R : List ColT} {i : Nat} (h : i < R.length) : (extR T R).getD i (0, 0) = R.getD i (0, 0) := by
  unfold extR
  rw [List.getD_eq_getElem?_getD, List.getElem?_append_left h, ← List.getD_eq_getElem?_getD]
theorem extR_hi {T : Int} {R : List ColT} {i : Nat} (h : R.length ≤ i) (h2 : i < 12) : (extR T R).getD i (0, 0) = (T, (i : Int)) := by
  unfold extR
  rw [List.getD_eq_getElem?_getD, List.getElem?_append_right h, List.getElem?_map, List.getElem?_range (by omega)]
  simp only [Option.map_some, Option.getD_some]
  rw [show R.length + (i - R.length) = i by omega]
def rowP (A : List Int) (T : Int) (k : Nat) : List ColT := (List.range 12).map (fun (i : Nat) => if i < k then ((A.getD i 0 * (A.length : Int), (i : Int)) : ColT) else ((T, (i : Int)) : ColT))
theorem rowP_length (A : List Int) (T : Int) (k : Nat) : (rowP A T k).length = 12 := by simp [rowP]
theorem rowP_get (A : List Int) (T : Int) (k : Nat) {i : Nat} (h : i < 12) : (rowP A T k)[i]'(by rw [rowP_length]; exact h) = if i < k then ((A.getD i 0 * (A.length : Int), (i : Int)) : ColT) else ((T, (i : Int)) : ColT) := by simp [rowP]
theorem rowP_zero (A : List Int) (T : Int) : rowP A T 0 = outB T 12 := by
  apply List.ext_getElem
  · simp [rowP, outB]
  · intro i h1 h2
    have hi : i < 12 := by rw [rowP_length] at h1; exact h1
    rw [rowP_get A T 0 hi, outB_get T hi, if_neg (by omega)]
theorem rowP_next (A : List Int) (T : Int) (k : Nat) (h : k < 12) : rowP A T (k + 1) = (rowP A T k).set k (A.getD k 0 * (A.length : Int), ((rowP A T k)[k]'(by rw [rowP_length]; exact h)).2) := by
  apply List.ext_getElem
  · simp [rowP]
  · intro i h1 h2
    have hi : i < 12 := by rw [rowP_length] at h1; exact h1
    rw [rowP_get A T (k + 1) hi, List.getElem_set]
    by_cases e : k = i
    · subst e
      rw [if_pos (by omega), if_pos rfl, rowP_get A T k hi, if_neg (by omega)]
    · rw [if_neg e, rowP_get A T k hi]
      by_cases e2 : i < k
      · rw [if_pos (by omega), if_pos e2]
      · rw [if_neg (by omega), if_neg e2]
theorem rowP_end {A : List Int} (T : Int) (h : A.length ≤ 12) : rowP A T A.length = extR T (begR A) := by
  apply List.ext_getElem
  · rw [rowP_length, extR_length (by rw [begR_length]; exact h)]
  · intro i h1 h2
    have hi : i < 12 := by rw [rowP_length] at h1; exact h1
    rw [rowP_get A T _ hi, ← cgetD h2]
    by_cases e : i < A.length
    · rw [if_pos e, extR_lo (by rw [begR_length]; exact e), begR_get e]
    · rw [if_neg e, extR_hi (by rw [begR_length]; omega) hi]
theorem box_zero : (cellsL (List.replicate 12 (0, 0))).toArray = #[.int .i64 0, .int .i64 0, .int .i64 0, .int .i64 0, .int .i64 0, .int .i64 0, .int .i64 0, .int .i64 0, .int .i64 0, .int .i64 0, .int .i64 0, .int .i64 0, .int .i64 0, .int .i64 0, .int .i64 0, .int .i64 0, .int .i64 0, .int .i64 0, .int .i64 0, .int .i64 0, .int .i64 0, .int .i64 0, .int .i64 0, .int .i64 0] := rfl
theorem row_is (R : List ColT) (h : R.length = 12) : (Try.prog.info? 52).map (fun i => i.size) = some (cellsL R).length := by rw [cellsL_length, h]; kernel_rfl
theorem row_is2 (R : List ColT) (h : R.length = 12) : (Try.prog.info? 52).map (fun i => i.size) = some (cellsL R).toArray.size := by rw [List.size_toArray]; exact row_is R h

set_option maxRecDepth 20000 in
set_option maxHeartbeats 4000000 in
theorem unfilledRow_any (v : Value) (A : List Int) (T : Int) (w : World) (hr : ZRow .i64 w v A) (hg : goodW A = true) :
    Calls Try.prog 31 #[v, .int .i64 T] w fun e w' => e = .returned (.agg (cellsL (extR T (begR A))).toArray) ∧ Below w.heap.size w w' := by
  obtain ⟨⟨hp1, hp12⟩, hwt, _⟩ := goodW_parts hg
  obtain ⟨va, vc, rfl, hvc, hvm, HROW⟩ := zrow_value hr
  obtain ⟨b, o, ha, hbl, hcel⟩ := HROW.out (by omega)
  subst ha
  have HCA : Hid (∀ W, Below w.heap.size w W → ∀ k, (hk : k < A.length) → W.cell? ⟨b, o + k, none⟩ = some (.int .i64 (A.getD k 0)) ∧ 0 ≤ A.getD k 0 ∧ A.getD k 0 ≤ 50) := fun W hW k hk => by
    rw [hW.cell (p := ⟨b, o + k, none⟩) hbl, getD_get hk]
    exact ⟨hcel k hk, wt_in (List.all_eq_true.1 hwt _ (List.getElem_mem hk))⟩
  have HEN : Hid (rowP A T A.length = extR T (begR A)) := rowP_end T hp12
  have HRN : Hid (∀ k, (h : k < 12) → rowP A T (k + 1) = (rowP A T k).set k (A.getD k 0 * (A.length : Int), ((rowP A T k)[k]'(by rw [rowP_length]; exact h)).2)) := rowP_next A T
  obtain ⟨n, hn⟩ : ∃ n, n = A.length := ⟨_, rfl⟩
  have HNA : Hid (A.length = n) := hn.symm
  rw [← hn] at HEN HRN hp1 hp12 hvc ⊢
  obtain ⟨W0, hW0⟩ : ∃ W0, W0 = (w.alloc (.cells (cellsL (List.replicate 12 (0, 0))).toArray 52)).alloc (.cells (cellsL (List.replicate 12 (0, 0))).toArray 52) := ⟨_, rfl⟩
  have HB0 : Hid (BoxR W0 w.heap.size (List.replicate 12 (0, 0))) := by rw [hW0]; exact (trn_below2 (Below.refl _ _)).1
  have HC0 : Hid (BoxR W0 (w.heap.size + 1) (partC (outB T 12) 0)) := by rw [hW0]; exact (trn_below2 (Below.refl _ _)).2.1
  have hb0 : Below w.heap.size w W0 := by rw [hW0]; exact (trn_below2 (Below.refl _ _)).2.2
  rw [box_zero] at hW0
  have HW0 : Hid ((w.alloc (.cells #[.int .i64 0, .int .i64 0, .int .i64 0, .int .i64 0, .int .i64 0, .int .i64 0, .int .i64 0, .int .i64 0, .int .i64 0, .int .i64 0, .int .i64 0, .int .i64 0, .int .i64 0, .int .i64 0, .int .i64 0, .int .i64 0, .int .i64 0, .int .i64 0, .int .i64 0, .int .i64 0, .int .i64 0, .int .i64 0, .int .i64 0, .int .i64 0] 52)).alloc (.cells #[.int .i64 0, .int .i64 0, .int .i64 0, .int .i64 0, .int .i64 0, .int .i64 0, .int .i64 0, .int .i64 0, .int .i64 0, .int .i64 0, .int .i64 0, .int .i64 0, .int .i64 0, .int .i64 0, .int .i64 0, .int .i64 0, .int .i64 0, .int .i64 0, .int .i64 0, .int .i64 0, .int .i64 0, .int .i64 0, .int .i64 0, .int .i64 0] 52) = W0) := hW0.symm
  clear hW0 hr hg hwt HROW hcel hn
  go_enter Try.func31, Try.ntmps31
  go_wp2_with fail
  rw [HW0.out]
  clear HW0
  go_loopw [9] (fun iv wr => ∃ k : Nat, k ≤ 12 ∧ iv = .int .i64 (k : Int) ∧ Hid (BoxR wr w.heap.size (List.replicate 12 (0, 0))) ∧ Hid (BoxR wr (w.heap.size + 1) (partC (outB T 12) k)) ∧ Below w.heap.size w wr) (fun iv _ => 12 - (intOf iv).toNat)
  case atStart => exact ⟨0, Nat.zero_le _, rfl, HB0, HC0, hb0⟩
  case round =>
    obtain ⟨k, hk, rfl, HB, HC, hb⟩ := hrel
    clear HB0 HC0 hb0
    by_cases hlt : k < 12
    · have hlo : k < (outB T 12).length := by rw [outB_length]; exact hlt
      have hlp : k < (partC (outB T 12) k).length := by rw [partC_length _ _ (by omega)]; exact hlo
      obtain ⟨⟨c0, c1⟩, ⟨f0, f1⟩⟩ := HC.out.corow.2 k hlp
      have hput := HC.out.put k hlp (T, (k : Int))
      have e1 : (outB T 12)[k]'hlo = (T, (k : Int)) := outB_get T hlt
      rw [← e1, ← partC_next _ _ hlo, e1] at hput
      obtain ⟨W1, hW1⟩ : ∃ W, W = putC wr (w.heap.size + 1) (k * 2) (T, (k : Int)) := ⟨_, rfl⟩
      have hk1 : Kpt wr W1 (fun j => j = w.heap.size + 1) := by rw [hW1]; exact putC_kpt _ _ _ _
      have HC1 : Hid (BoxR W1 (w.heap.size + 1) (partC (outB T 12) (k + 1))) := by rw [hW1]; exact hput
      have HB1 : Hid (BoxR W1 w.heap.size (List.replicate 12 (0, 0))) := HB.out.apart hk1 (by omega)
      have hb1 : Below w.heap.size w W1 := hb.trans (hk1.below hb.size (fun j hj h => by omega))
      have HW1 : Hid ((wr.setCell ⟨w.heap.size + 1, k * 2, none⟩ (.int .i64 T)).setCell ⟨w.heap.size + 1, k * 2 + 1, none⟩ (.int .i64 (k : Int)) = W1) := by rw [hW1]; rfl
      obtain ⟨y1, hy1⟩ : ∃ y, y = ((partC (outB T 12) k)[k]'hlp).1 := ⟨_, rfl⟩
      obtain ⟨y2, hy2⟩ : ∃ y, y = ((partC (outB T 12) k)[k]'hlp).2 := ⟨_, rfl⟩
      rw [← hy1] at c0
      rw [← hy2] at c1
      have hki : (k : Int) < 12 := by omega
      clear hlo hlp hput e1 hW1 hk1 HB HC hy1 hy2
      go_wp2_with (rw [HW1.out])
      (try rw [HW1.out])
      go_roundw
      case rel => exact ⟨k + 1, by omega, by go_num, HB1, HC1, hb1⟩
      case measure => simp [intOf]; omega
    · have hk12 : k = 12 := by omega
      subst hk12
      have HCR : Hid (BoxR wr (w.heap.size + 1) (rowP A T 0)) := by
        have h := HC.out
        have e : partC (outB T 12) 12 = outB T 12 := by
          have h2 := partC_end (outB T 12)
          rwa [outB_length] at h2
        rw [e] at h
        rw [rowP_zero]
        exact h
      clear HC hlt hk
      go_wp2_with fail
      go_loopw [20] (fun iv wx => ∃ k : Nat, k ≤ n ∧ iv = .int .i64 (k : Int) ∧ Hid (BoxR wx w.heap.size (List.replicate 12 (0, 0))) ∧ Hid (BoxR wx (w.heap.size + 1) (rowP A T k)) ∧ Below w.heap.size w wx) (fun iv _ => n - (intOf iv).toNat)
      case atStart => exact ⟨0, Nat.zero_le _, rfl, HB, HCR, hb⟩
      case round =>
        obtain ⟨k, hk, rfl, HB2, HC2, hb2⟩ := hrel
        clear HB HCR hb
        by_cases hlt : k < n
        · have hk12 : k < 12 := by omega
          obtain ⟨c0, hw1, hw2⟩ := HCA.out wr hb2 k (by rw [HNA.out]; exact hlt)
          have hlp : k < (rowP A T k).length := by rw [rowP_length]; exact hk12
          obtain ⟨⟨d0, d1⟩, ⟨f0, f1⟩⟩ := HC2.out.corow.2 k hlp
          have hput := HC2.out.put0 k hlp (A.getD k 0 * (n : Int))
          have hnx := HRN.out k hk12
          rw [← hnx] at hput
          obtain ⟨ak, hak⟩ : ∃ ak, ak = A.getD k 0 := ⟨_, rfl⟩
          rw [← hak] at c0 hw1 hw2 hput
          have hml : 0 ≤ ak * (n : Int) ∧ ak * (n : Int) ≤ 600 := by
            refine ⟨Int.mul_nonneg hw1 (by omega), ?_⟩
            have := Int.mul_le_mul hw2 (show (n : Int) ≤ 12 by omega) (by omega) (by omega)
            simpa using this
          have hwrp : IntKind.i64.wrap (ak * (n : Int)) = ak * (n : Int) := i64_wrap (by omega) (by omega)
          have HC3 : Hid (BoxR (wr.setCell ⟨w.heap.size + 1, k * 2, none⟩ (.int .i64 (ak * (n : Int)))) (w.heap.size + 1) (rowP A T (k + 1))) := hput
          have hk3 := kpt_set wr (w.heap.size + 1) (k * 2) (.int .i64 (ak * (n : Int))) (S := fun j => j = w.heap.size + 1) rfl
          have HB3 : Hid (BoxR (wr.setCell ⟨w.heap.size + 1, k * 2, none⟩ (.int .i64 (ak * (n : Int)))) w.heap.size (List.replicate 12 (0, 0))) := HB2.out.apart hk3 (by omega)
          have hb3 : Below w.heap.size w (wr.setCell ⟨w.heap.size + 1, k * 2, none⟩ (.int .i64 (ak * (n : Int)))) := hb2.trans (hk3.below hb2.size (fun j hj h => by omega))
          obtain ⟨y1, hy1⟩ : ∃ y, y = ((rowP A T k)[k]'hlp).1 := ⟨_, rfl⟩
          rw [← hy1] at d0
          have hki : (k : Int) < (n : Int) := by omega
          have hk12i : (k : Int) < 12 := by omega
          clear hlp hput hnx hak hk3 HB2 HC2 d1 f1 hy1
          go_wp2_with fail
          go_roundw
          case rel => exact ⟨k + 1, by omega, by go_num, HB3, HC3, hb3⟩
          case measure => simp [intOf]; omega
        · have hkn : n = k := by omega
          subst hkn
          have HCE : Hid (BoxR wr (w.heap.size + 1) (extR T (begR A))) := by
            have h := HC2.out
            rw [HEN.out] at h
            exact h
          have HEL : Hid ((extR T (begR A)).length = 12) := extR_length (by rw [begR_length, HNA.out]; exact hp12)
          have hrng := HCE.out.range
          have hris := row_is _ HEL.out
          have hbz := HB2.out
          have hel := HEL.out
          clear hlt hk HC2
          go_wp2_with (first | (refine wpList_load_mid rfl 52 (.tmp 5) rfl (w.heap.size + 1) 0 rfl (cellsL (extR T (begR A))) _ hrng Try.underlying52 rfl hris ?_) | (refine wpList_store_rowT rfl (.tmp 4) (.tmp 33) rfl w.heap.size (List.replicate 12 (0, 0)) (extR T (begR A)) rfl rfl hbz rfl hel ?_; intro w5 hbx5 hk5))
          (try simp only [Exit.inBlock, Exit.then])
          have hb5 : Below w.heap.size w w5 := hb2.trans (hk5.below hb2.size (fun j hj h => by omega))
          exact bodyPost_ret (results_cell_row rfl _ _ w.heap.size 52 (cellsL (extR T (begR A))).toArray (0, 0) _ rfl hbx5 Try.underlying52 rfl (row_is2 _ hel)) rfl ⟨rfl, hb5⟩
end Go.Proofs.Ytafbnhelcoofmaa
