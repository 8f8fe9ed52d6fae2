import Derived.Test.YtoopfmebpjojiaaDoorHeW
namespace Go.Proofs.YtoopfmebpjojiaaDoor
open Go.RowKit

/-- Hosts with rows laid into them, the first k. -/
def hlP (L : List HosT) (R : List Int) (k : Nat) : List HosT := (List.zipWith (fun x r => ((x.1, x.2.1, r) : HosT)) L R).take k ++ L.drop k
def hlL (L : List HosT) (R : List Int) : List HosT := List.zipWith (fun x r => ((x.1, x.2.1, r) : HosT)) L R
theorem hlL_length (L : List HosT) (R : List Int) (h : R.length = L.length) : (hlL L R).length = L.length := by simp [hlL, h]
theorem hlP_zero (L : List HosT) (R : List Int) : hlP L R 0 = L := by simp [hlP]
theorem hlP_length (L : List HosT) (R : List Int) (h : R.length = L.length) (k : Nat) (hk : k ≤ L.length) : (hlP L R k).length = L.length := by simp [hlP, h]; omega
theorem hlP_end (L : List HosT) (R : List Int) (h : R.length = L.length) : hlP L R L.length = hlL L R := by
  unfold hlP hlL
  rw [List.take_of_length_le (by simp [h]), List.drop_length, List.append_nil]
theorem hlP_at (L : List HosT) (R : List Int) (h : R.length = L.length) (k : Nat) (hk : k < L.length) : (hlP L R k)[k]'(by rw [hlP_length L R h k (by omega)]; exact hk) = L[k] := by
  unfold hlP
  have hm : ((List.zipWith (fun x r => ((x.1, x.2.1, r) : HosT)) L R).take k).length = k := by simp [h]; omega
  rw [List.getElem_append_right (by omega)]
  simp [hm]
theorem hlP_next (L : List HosT) (R : List Int) (h : R.length = L.length) (k : Nat) (hk : k < L.length) : hlP L R (k + 1) = (hlP L R k).set k (L[k].1, L[k].2.1, R[k]'(by omega)) := by
  unfold hlP
  have hz : k < (List.zipWith (fun x r => ((x.1, x.2.1, r) : HosT)) L R).length := by simp [h]; exact hk
  have hm : ((List.zipWith (fun x r => ((x.1, x.2.1, r) : HosT)) L R).take k).length = k := by rw [List.length_take]; omega
  rw [List.take_succ_eq_append_getElem hz, List.set_append_right _ _ (by omega), hm, Nat.sub_self, List.drop_eq_getElem_cons hk]
  simp only [List.getElem_zipWith, List.set_cons_zero, List.append_assoc, List.singleton_append]

set_option maxRecDepth 20000 in
set_option maxHeartbeats 4000000 in
theorem health_any (ri fa : Int) (L : List HosT) (R : List Int) (gh gr ch cr : Nat) (w : World) (hs : HoRow w gh L) (hz : ZSRow w gr R) (hne : gr ≠ gh) (hRL : R.length = L.length) (hl : L.length ≤ 1048576) (hch : L.length ≤ ch ∧ ch ≤ maxLen) (hcr : L.length ≤ cr ∧ cr ≤ maxLen) :
    Calls Tryd.prog 55 #[WatV ri fa (.slice (some ⟨gh, 0, none⟩) L.length ch) (.slice (some ⟨gr, 0, none⟩) L.length cr)] w fun e w' => e = .returned (HeaV ri fa (.slice (some ⟨gh, 0, none⟩) L.length ch)) ∧ HoRow w' gh (hlL L R) ∧ Kpt w w' (fun b => b = gh) := by
  unfold WatV HeaV
  obtain ⟨W0, hW0⟩ : ∃ W0, W0 = (w.alloc (.cells #[.int .i64 ri, .int .i64 fa, .slice (some ⟨gh, 0, none⟩) L.length ch, .slice (some ⟨gr, 0, none⟩) L.length cr] 79)).alloc (.cells #[.int .i64 0, .int .i64 0, .slice none 0 0] 26) := ⟨_, rfl⟩
  have hb0 : Below w.heap.size w W0 := by rw [hW0]; exact ((Below.refl w.heap.size w).alloc (Nat.le_refl _) _).alloc (by simp) _
  have hz0 : W0.heap.size = w.heap.size + 1 + 1 := by rw [hW0]; simp
  have HX0 : Hid (W0.heap[w.heap.size]? = some (.cells #[.int .i64 ri, .int .i64 fa, .slice (some ⟨gh, 0, none⟩) L.length ch, .slice (some ⟨gr, 0, none⟩) L.length cr] 79) ∧ W0.heap[w.heap.size + 1]? = some (.cells #[.int .i64 0, .int .i64 0, .slice none 0 0] 26)) := by
    have h := hst_below2 (w := w) (a := .cells #[.int .i64 ri, .int .i64 fa, .slice (some ⟨gh, 0, none⟩) L.length ch, .slice (some ⟨gr, 0, none⟩) L.length cr] 79) (b := .cells #[.int .i64 0, .int .i64 0, .slice none 0 0] 26) (W := W0) (by rw [hW0]; exact Below.refl _ _)
    exact ⟨h.1, h.2.1⟩
  have HW0 : Hid ((w.alloc (.cells #[.int .i64 ri, .int .i64 fa, .slice (some ⟨gh, 0, none⟩) L.length ch, .slice (some ⟨gr, 0, none⟩) L.length cr] 79)).alloc (.cells #[.int .i64 0, .int .i64 0, .slice none 0 0] 26) = W0) := hW0.symm
  have HS0 : Hid (HoRow W0 gh L) := hs.kept hb0
  have HZ0 : Hid (ZSRow W0 gr R) := hz.kept hb0
  have HKP : Hid (Kpt w W0 (fun b => b = gh)) := below_kpt0 hb0 _
  have hgh : gh < w.heap.size := hs.1
  have hgr : gr < w.heap.size := hz.1
  obtain ⟨hch1, hch2⟩ := hch
  obtain ⟨hcr1, hcr2⟩ := hcr
  unfold maxLen at hch2 hcr2
  clear hW0 hs hz hb0
  go_enter Tryd.func55, Tryd.ntmps55
  go_wp2_with fail
  rw [HW0.out]
  go_loopw [8] (fun i wr => ∃ k : Nat, k ≤ L.length ∧ i = .int .i64 (k : Int) ∧ Hid (wr.heap[w.heap.size]? = some (.cells #[.int .i64 ri, .int .i64 fa, .slice (some ⟨gh, 0, none⟩) L.length ch, .slice (some ⟨gr, 0, none⟩) L.length cr] 79) ∧ wr.heap[w.heap.size + 1]? = some (.cells #[.int .i64 0, .int .i64 0, .slice none 0 0] 26)) ∧ Hid (HoRow wr gh (hlP L R k)) ∧ Hid (ZSRow wr gr R) ∧ Hid (Kpt w wr (fun b => b = gh)) ∧ wr.heap.size = w.heap.size + 1 + 1) (fun i _ => L.length - (intOf i).toNat)
  case atStart => exact ⟨0, Nat.zero_le _, rfl, HX0, by rw [hlP_zero]; exact HS0, HZ0, HKP, hz0⟩
  case round =>
    obtain ⟨k, hk, rfl, HX, HS, HZ, HK, hsz⟩ := hrel
    clear HX0 HS0 HZ0 HKP
    obtain ⟨⟨c0, c1, c2, c3⟩, _⟩ := wat_cells HX.out.1
    by_cases hlt : k < L.length
    · have hlp : k < (hlP L R k).length := by rw [hlP_length L R hRL k hk]; exact hlt
      have hat := HS.out.2 k hlp
      rw [hlP_at L R hRL k hlt] at hat
      unfold HstAt FzH at hat
      obtain ⟨⟨m0, m1, m2⟩, ⟨f0, f1, f2⟩⟩ := hat
      have hrow := (HZ.out.2 k (by omega)).1
      have HN : Hid (hlP L R (k + 1) = (hlP L R k).set k (L[k].1, L[k].2.1, R[k]'(by omega))) := hlP_next L R hRL k hlt
      have HQ : Hid (HoRow (wr.setCell ⟨gh, k * 3 + 2, none⟩ (.int .i64 (R[k]'(by omega)))) gh (hlP L R (k + 1))) := by
        have h := HS.out.set2 k hlp (R[k]'(by omega))
        rw [hlP_at L R hRL k hlt] at h
        rw [HN.out]; exact h
      obtain ⟨r, hr⟩ : ∃ r, r = R[k]'(by omega) := ⟨_, rfl⟩
      rw [← hr] at hrow HQ
      have HX2 : Hid ((wr.setCell ⟨gh, k * 3 + 2, none⟩ (.int .i64 r)).heap[w.heap.size]? = some (.cells #[.int .i64 ri, .int .i64 fa, .slice (some ⟨gh, 0, none⟩) L.length ch, .slice (some ⟨gr, 0, none⟩) L.length cr] 79) ∧ (wr.setCell ⟨gh, k * 3 + 2, none⟩ (.int .i64 r)).heap[w.heap.size + 1]? = some (.cells #[.int .i64 0, .int .i64 0, .slice none 0 0] 26)) := by
        refine ⟨?_, ?_⟩
        · rw [heap_setCell_other _ _ _ _ (show w.heap.size ≠ gh by omega)]; exact HX.out.1
        · rw [heap_setCell_other _ _ _ _ (show w.heap.size + 1 ≠ gh by omega)]; exact HX.out.2
      have HZ2 : Hid (ZSRow (wr.setCell ⟨gh, k * 3 + 2, none⟩ (.int .i64 r)) gr R) := zs_far HZ.out (Ne.symm hne) _
      have HK2 : Hid (Kpt w (wr.setCell ⟨gh, k * 3 + 2, none⟩ (.int .i64 r)) (fun b => b = gh)) := HK.out.trans (kpt_set _ _ _ _ rfl)
      have hsz2 : (wr.setCell ⟨gh, k * 3 + 2, none⟩ (.int .i64 r)).heap.size = w.heap.size + 1 + 1 := by simpa using hsz
      clear hr HN hlp HX HS HZ HK
      go_wp2_with fail
      go_roundw
      case rel => exact ⟨k + 1, by omega, by go_num, HX2, HQ, HZ2, HK2, hsz2⟩
      case measure => simp [intOf]; omega
    · have HF : Hid (HoRow wr gh (hlL L R)) := by
        have h := HS.out
        rw [show k = L.length by omega, hlP_end L R hRL] at h
        exact h
      obtain ⟨⟨d0, d1, d2⟩, ⟨z0, z1, z2⟩⟩ := hst_cells HX.out.2
      go_wp2_with fail
      (try simp only [Exit.inBlock, Exit.then])
      refine bodyPost_ret (results_cell_row rfl _ _ (w.heap.size + 1) 26 #[.int .i64 ri, .int .i64 fa, .slice (some ⟨gh, 0, none⟩) L.length ch] (0, 0) _ rfl ?_ Tryd.underlying26 rfl (by kernel_rfl)) rfl ⟨rfl, ?_, ?_⟩
      · exact put3h_heap HX.out.2
      · exact put3h_far HF.out (by omega)
      · exact ⟨HK.out.os, HK.out.tape, HK.out.output, by simp; omega, fun b hb hn => by rw [heap_setCell_other _ _ _ _ (show b ≠ w.heap.size + 1 by omega), heap_setCell_other _ _ _ _ (show b ≠ w.heap.size + 1 by omega), heap_setCell_other _ _ _ _ (show b ≠ w.heap.size + 1 by omega)]; exact HK.out.block b hb hn⟩
end Go.Proofs.YtoopfmebpjojiaaDoor
