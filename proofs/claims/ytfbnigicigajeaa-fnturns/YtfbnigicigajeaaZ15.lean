import Derived.Test.YtfbnigicigajeaaZ07
import Derived.Test.YtfbnigicigajeaaZ14
import Derived.Test.YtfbnigicigajeaaZ08
import Derived.Test.YtfbnigicigajeaaZ09
import Derived.Deep.RegionHeld3
namespace Go.Proofs.Ytfbnigicigajeaa
open Go.RowKit

/-- So many zeros. -/
def zrs (n : Nat) : List Int := List.replicate n 0
theorem made_zrs {w w1 : World} {n : Nat} (h : w1.ownsRow w.heap.size 3 1 (.slice (some ⟨w.heap.size, 0, none⟩) n n) n (madeCells (Value.int .i64 0).cells (n * 1)).toList) : ZSRow w1 w.heap.size (zrs n) := by
  have h1 := made_zs (w := w) (w1 := w1) (P := zrs n) (by simpa [zrs, show (Value.int .i64 0).cells = #[Value.int .i64 0] from rfl] using h)
  simpa [partZ, zrs] using h1
theorem own_of_empty {W : World} {g base : Nat} {e : TypeId} {size : Nat} (h : W.heap[g]? = some (.cells #[] e)) (hb : base ≤ g) : W.ownsRow base e size (.slice (some ⟨g, 0, none⟩) 0 0) 0 [] :=
  ⟨by simp, .inr ⟨g, 0, #[], rfl, hb, h, Nat.le_refl _, Nat.zero_le _, by simp, by simp⟩⟩
theorem good_pos {L : List Int} (h : goodW L = true) : 0 < L.length := by
  unfold goodW inB at h
  simp only [Bool.and_eq_true, decide_eq_true_eq] at h
  omega
/-- A turn told from weights, and whether. -/
def NTAns (w' : World) (base : Nat) (P : List Int) (e : Ending) : Prop :=
  (goodW P = false ∧ e = .returned (.tuple #[TrnV (.slice none 0 0) (.slice none 0 0), .bool false])) ∨ (goodW P = true ∧ ∃ t ch gr, e = .returned (.tuple #[TrnV (.slice (some ⟨t, 0, none⟩) P.length ch) (.slice (some ⟨gr, 0, none⟩) P.length P.length), .bool true]) ∧ P.length ≤ ch ∧ ch ≤ 9223372036854775807 ∧ base ≤ t ∧ base ≤ gr ∧ t ≠ gr ∧ ZSRow w' t P ∧ ZSRow w' gr (zrs P.length))

set_option maxRecDepth 20000 in
set_option maxHeartbeats 4000000 in
theorem iNewTurn_any (v : Value) (P : List Int) (w : World) (hr : ZRow .i64 w v P) (hl : P.length ≤ 1048576) :
    Calls Try.prog 14 #[v] w fun e w' => NTAns w' w.heap.size P e ∧ Below w.heap.size w w' := by
  have HG : Hid (∀ W, Below w.heap.size w W → Calls Try.prog 26 #[v] W fun e w' => e = .returned (.bool (goodW P)) ∧ w' = W) := fun W hW => iGoodWeights_any _ P W (hr.kept hW)
  obtain ⟨W0, hW0⟩ : ∃ W0, W0 = w.alloc (.cells #[.slice none 0 0, .slice none 0 0] 30) := ⟨_, rfl⟩
  have hb0 : Below w.heap.size w W0 := by rw [hW0]; exact (Below.refl w.heap.size w).alloc (Nat.le_refl _) _
  have hB0 : W0.heap[w.heap.size]? = some (.cells #[.slice none 0 0, .slice none 0 0] 30) := by rw [hW0]; exact trn_new _ _
  have HB0 : Hid (W0.heap[w.heap.size]? = some (.cells #[.slice none 0 0, .slice none 0 0] 30)) := hB0
  have hl0 : w.heap.size < W0.heap.size := by rw [hW0]; simp
  have HW0 : Hid (w.alloc (.cells #[.slice none 0 0, .slice none 0 0] 30) = W0) := hW0.symm
  clear hW0
  cases hg : goodW P with
  | false =>
    rw [hg] at HG
    have HN : Hid (goodW P = false) := hg
    obtain ⟨va, vc, rfl, _, _, _⟩ := zrow_value hr
    obtain ⟨⟨r0, r1⟩, ⟨f0, f1⟩⟩ := trn_cells hB0
    clear hr hB0 hg
    go_enter Try.func14, Try.ntmps14
    go_wp2_with fail
    rw [HW0.out]
    refine (HG.out _ hb0).mono ?_
    rintro e w1 ⟨rfl, rfl⟩
    go_wp2_with fail
    (try simp only [Exit.inBlock, Exit.then])
    refine bodyPost_ret (results_trn rfl _ _ w.heap.size 30 #[.slice none 0 0, .slice none 0 0] (0, 0) _ (.bool false) rfl rfl ?_ Try.underlying30 rfl (by kernel_rfl)) rfl ⟨.inl ⟨HN.out, rfl⟩, ?_⟩
    · exact put2v_heap HB0.out
    · exact put2v_below hb0 (Nat.le_refl _) _ _
  | true =>
    rw [hg] at HG
    have HGW : Hid (goodW P = true) := hg
    have hp : 0 < P.length := good_pos hg
    have h12 := good12 hg
    obtain ⟨i0, hi, hz0, hz1, hz2⟩ := info_parts info_intY
    obtain ⟨va, pc, rfl, hpc, hpm, HROW⟩ := zrow_value hr
    obtain ⟨b, o, ha, hbl, hc⟩ := HROW.out hp
    subst ha
    have HP : Hid (0 < P.length) := hp
    have HTS : Hid (∀ W W', Below w.heap.size w W → Below W.heap.size W W' → Below w.heap.size w W') := fun W W' h1 h2 => h1.trans (h2.mono h1.size)
    have HSR : Hid (∀ W, Below w.heap.size w W → ∀ j, (hj : j < P.length) → W.cell? ⟨b, o + j, none⟩ = some (.int .i64 P[j])) := fun W hW j hj => by rw [hW.cell (p := ⟨b, o + j, none⟩) hbl]; exact hc j hj
    have HCO : Hid (∀ W, Below w.heap.size w W → Calls Try.prog 22 #[.slice (some ⟨b, o, none⟩) P.length pc] W fun e w' => ∃ t cap, e = .returned (.slice (some ⟨t, 0, none⟩) P.length cap) ∧ P.length ≤ cap ∧ cap ≤ 9223372036854775807 ∧ W.heap.size ≤ t ∧ ZSRow w' t P ∧ Below W.heap.size W w') := fun W hW => cloneZ_anyT _ P W (hr.kept hW) hl hp
    clear hr hc hg HROW hp
    go_enter Try.func14, Try.ntmps14
    go_wp2_with fail
    rw [HW0.out]
    refine (HG.out _ hb0).mono ?_
    rintro e w1 ⟨rfl, rfl⟩
    clear HG HW0
    go_wp2_with fail
    have hSX : Below w.heap.size w w1.drew := hb0.drew
    have hBX : w1.drew.heap[w.heap.size]? = some (.cells #[.slice none 0 0, .slice none 0 0] 30) := hB0
    have hlX : w.heap.size < w1.drew.heap.size := hl0
    refine Code.wp_mono (Q := fun e a W => e = Exit.normal ∧ ∃ (t ch gr : Nat), a = { tmps := #[.slice (some ⟨b, o, none⟩) P.length pc, undef, .pointer (some ⟨w.heap.size, 0, none⟩), .bool true, .slice (some ⟨b, o, none⟩) P.length pc, .bool true, .bool false, undef, .slice (some ⟨b, o, none⟩) P.length pc, .slice (some ⟨t, 0, none⟩) P.length ch, .slice (some ⟨b, o, none⟩) P.length pc, .int .i64 (P.length : Int), .slice (some ⟨gr, 0, none⟩) P.length P.length, .agg #[.slice (some ⟨t, 0, none⟩) P.length ch, .slice (some ⟨gr, 0, none⟩) P.length P.length]], defers := [] } ∧ P.length ≤ ch ∧ ch ≤ 9223372036854775807 ∧ w.heap.size < t ∧ w.heap.size < gr ∧ t ≠ gr ∧ ZSRow W t P ∧ ZSRow W gr (zrs P.length) ∧ W.heap[w.heap.size]? = some (.cells #[.slice (some ⟨t, 0, none⟩) P.length ch, .slice (some ⟨gr, 0, none⟩) P.length P.length] 30) ∧ Below w.heap.size w W) ?_ ?_
    rotate_left
    · refine wp_region_held_drew (S := fun W : World => Below w.heap.size w W) (by kernel_rfl) hSX (fun hHeld => ?_)
      generalize w1.drew = wX at *
      have hSwX := hSX
      have hBwX := hBX
      have hlwX := hlX
      clear hSX hBX hlX
      refine wpAnyH_take (i := 0) (v := .slice (some ⟨b, o, none⟩) P.length pc) rfl (by kernel_rfl) (by kernel_rfl) (by kernel_rfl) (fun _ _ _ h => (by cases h.1)) (Or.inl ⟨by rfl, ?_⟩) (by assumption) ?_
      · intro W hSW
        go_simp
      simp only [Act.put, List.getElem_toArray, List.getElem_cons_zero, List.setIfInBounds_toArray, List.set_cons_succ, List.set_cons_zero]
      refine wpAnyH_take (i := 2) (v := .slice (some ⟨b, o, none⟩) P.length pc) rfl (by kernel_rfl) (by kernel_rfl) (by kernel_rfl) (fun _ _ _ h => (by cases h.1)) (Or.inl ⟨by rfl, ?_⟩) (by assumption) ?_
      · intro W hSW
        go_simp
      simp only [Act.put, List.getElem_toArray, List.getElem_cons_succ, List.getElem_cons_zero, List.setIfInBounds_toArray, List.set_cons_succ, List.set_cons_zero]
      refine wpAnyH_take (i := 3) (v := .int .i64 (P.length : Int)) rfl (by kernel_rfl) (by kernel_rfl) (by kernel_rfl) (fun _ _ _ h => (by cases h.1)) (Or.inl ⟨by rfl, ?_⟩) (by assumption) ?_
      · intro W hSW
        go_simp
      simp only [Act.put, List.getElem_toArray, List.getElem_cons_succ, List.getElem_cons_zero, List.setIfInBounds_toArray, List.set_cons_succ, List.set_cons_zero]
      refine wpAnyH_ready (rs := [1, 4]) (by kernel_rfl) (by simp) ?_
      refine AllReadyH.cons rfl (fun K hK => ?_) (AllReadyH.cons rfl (fun K hK => ?_) AllReadyH.nil)
      · rw [if_pos (by rfl)]
        go_simp
        refine (HCO.out _ hSwX).mono ?_
        rintro e w11 ⟨t, ch, rfl, hC1, hC2, hCg, hqCw11, hbw11⟩
        go_simp
        have hSw11 := HTS.out _ _ hSwX hbw11
        have hzw11 := hbw11.size
        have hBw11 : w11.heap[w.heap.size]? = some (.cells #[.slice none 0 0, .slice none 0 0] 30) := (hbw11.block _ hlwX).trans hBwX
        have hlw11 : w.heap.size < w11.heap.size := by omega
        have hltCw11 := hqCw11.1
        have hCw : w.heap.size < t := by omega
        refine hK.out _ _ hSw11 (fun hSS => ?_)
        clear hK hbw11
        refine wpAnyH_ready (rs := [4]) (by kernel_rfl) (by simp) ?_
        refine AllReadyH.cons rfl (fun K hK => ?_) AllReadyH.nil
        · rw [if_pos (by rfl)]
          obtain ⟨w12, hrunw12, ownw12, grww12⟩ := run_make_full (P := Try.prog) w11 w11.heap.size 23 3 i0 (.int .i64 0) 1 Try.underlying23 hi hz0 hz1 .i64 .i64 P.length (by rw [hz2]; omega) (by unfold maxLen; omega) (Nat.le_refl _)
          have hbw12 : Below w11.heap.size w11 w12 := (Below.refl _ _).grown grww12 (Nat.le_refl _) (fun k h => by cases h)
          have hqMw12 : ZSRow w12 w11.heap.size (zrs P.length) := made_zrs ownw12
          have hSw12 := HTS.out _ _ hSw11 hbw12
          have hzw12 := hbw12.size
          have hBw12 : w12.heap[w.heap.size]? = some (.cells #[.slice none 0 0, .slice none 0 0] 30) := (hbw12.block _ hlw11).trans hBw11
          have hlw12 : w.heap.size < w12.heap.size := by omega
          have hqCw12 : ZSRow w12 t P := hqCw11.kept hbw12
          have hltCw12 := hqCw11.1
          have hltMw12 := hqMw12.1
          go_simp
          clear ownw12 grww12
          refine hK.out _ _ hSw12 (fun hSS => ?_)
          clear hK hrunw12 hbw12
          obtain ⟨gr, hgre⟩ : ∃ gr, gr = w11.heap.size := ⟨_, rfl⟩
          rw [← hgre] at hqMw12 hltMw12 ⊢
          have hgr1 : w11.heap.size ≤ gr := by omega
          have hgr2 : gr ≤ w11.heap.size := by omega
          clear hgre
          refine wpAnyH_take (i := 5) (v := .agg #[.slice (some ⟨t, 0, none⟩) P.length ch, .slice (some ⟨gr, 0, none⟩) P.length P.length]) rfl (by kernel_rfl) (by kernel_rfl) (by kernel_rfl) (fun _ _ _ h => (by cases h.1)) (Or.inl ⟨by rfl, ?_⟩) (by assumption) ?_
          · intro W hSW
            go_simp
          simp only [Act.put, List.getElem_toArray, List.getElem_cons_succ, List.getElem_cons_zero, List.setIfInBounds_toArray, List.set_cons_succ, List.set_cons_zero]
          refine wpAnyH_ready (rs := [6]) (by kernel_rfl) (by simp) ?_
          refine AllReadyH.cons rfl (fun K hK => ?_) AllReadyH.nil
          rw [if_pos (by rfl)]
          obtain ⟨⟨r0, r1⟩, ⟨f0, f1⟩⟩ := trn_cells hBw12
          have hSF := put2v_below hSw12 (g := w.heap.size) (Nat.le_refl _) (.slice (some ⟨t, 0, none⟩) P.length ch) (.slice (some ⟨gr, 0, none⟩) P.length P.length)
          have hF := put2v_heap (v0 := .slice (some ⟨t, 0, none⟩) P.length ch) (v1 := .slice (some ⟨gr, 0, none⟩) P.length P.length) hBw12
          have hqF := put2v_far (v0 := .slice (some ⟨t, 0, none⟩) P.length ch) (v1 := .slice (some ⟨gr, 0, none⟩) P.length P.length) hqCw12 (show w.heap.size ≠ t by omega)
          have hrF := put2v_far (v0 := .slice (some ⟨t, 0, none⟩) P.length ch) (v1 := .slice (some ⟨gr, 0, none⟩) P.length P.length) hqMw12 (show w.heap.size ≠ gr by omega)
          go_simp
          unfold put2v at hSF hF hqF hrF
          refine hK.out _ _ hSF (fun hSS => ?_)
          clear hK
          refine wpAnyH_take (i := 7) (v := .bool true) rfl (by kernel_rfl) (by kernel_rfl) (by kernel_rfl) (fun _ _ _ h => (by cases h.1)) (Or.inl ⟨by rfl, ?_⟩) (by assumption) ?_
          · intro W hSW
            go_simp
          simp only [Act.put, List.getElem_toArray, List.getElem_cons_succ, List.getElem_cons_zero, List.setIfInBounds_toArray, List.set_cons_succ, List.set_cons_zero]
          refine wpAnyH_done (by kernel_rfl) ?_ _
          exact ⟨rfl, t, ch, gr, rfl, hC1, hC2, by omega, by omega, by omega, hqF, hrF, hF, hSF⟩
      · rw [if_pos (by rfl)]
        obtain ⟨w13, hrunw13, ownw13, grww13⟩ := run_make_full (P := Try.prog) wX wX.heap.size 23 3 i0 (.int .i64 0) 1 Try.underlying23 hi hz0 hz1 .i64 .i64 P.length (by rw [hz2]; omega) (by unfold maxLen; omega) (Nat.le_refl _)
        have hbw13 : Below wX.heap.size wX w13 := (Below.refl _ _).grown grww13 (Nat.le_refl _) (fun k h => by cases h)
        have hqMw13 : ZSRow w13 wX.heap.size (zrs P.length) := made_zrs ownw13
        have hSw13 := HTS.out _ _ hSwX hbw13
        have hzw13 := hbw13.size
        have hBw13 : w13.heap[w.heap.size]? = some (.cells #[.slice none 0 0, .slice none 0 0] 30) := (hbw13.block _ hlwX).trans hBwX
        have hlw13 : w.heap.size < w13.heap.size := by omega
        have hltMw13 := hqMw13.1
        go_simp
        clear ownw13 grww13
        refine hK.out _ _ hSw13 (fun hSS => ?_)
        clear hK hrunw13 hbw13
        obtain ⟨gr, hgre⟩ : ∃ gr, gr = wX.heap.size := ⟨_, rfl⟩
        rw [← hgre] at hqMw13 hltMw13 ⊢
        have hgr1 : wX.heap.size ≤ gr := by omega
        have hgr2 : gr ≤ wX.heap.size := by omega
        clear hgre
        refine wpAnyH_ready (rs := [1]) (by kernel_rfl) (by simp) ?_
        refine AllReadyH.cons rfl (fun K hK => ?_) AllReadyH.nil
        · rw [if_pos (by rfl)]
          go_simp
          refine (HCO.out _ hSw13).mono ?_
          rintro e w14 ⟨t, ch, rfl, hC1, hC2, hCg, hqCw14, hbw14⟩
          go_simp
          have hSw14 := HTS.out _ _ hSw13 hbw14
          have hzw14 := hbw14.size
          have hBw14 : w14.heap[w.heap.size]? = some (.cells #[.slice none 0 0, .slice none 0 0] 30) := (hbw14.block _ hlw13).trans hBw13
          have hlw14 : w.heap.size < w14.heap.size := by omega
          have hqMw14 : ZSRow w14 gr (zrs P.length) := hqMw13.kept hbw14
          have hltMw14 := hqMw13.1
          have hltCw14 := hqCw14.1
          have hCw : w.heap.size < t := by omega
          refine hK.out _ _ hSw14 (fun hSS => ?_)
          clear hK hbw14
          refine wpAnyH_take (i := 5) (v := .agg #[.slice (some ⟨t, 0, none⟩) P.length ch, .slice (some ⟨gr, 0, none⟩) P.length P.length]) rfl (by kernel_rfl) (by kernel_rfl) (by kernel_rfl) (fun _ _ _ h => (by cases h.1)) (Or.inl ⟨by rfl, ?_⟩) (by assumption) ?_
          · intro W hSW
            go_simp
          simp only [Act.put, List.getElem_toArray, List.getElem_cons_succ, List.getElem_cons_zero, List.setIfInBounds_toArray, List.set_cons_succ, List.set_cons_zero]
          refine wpAnyH_ready (rs := [6]) (by kernel_rfl) (by simp) ?_
          refine AllReadyH.cons rfl (fun K hK => ?_) AllReadyH.nil
          rw [if_pos (by rfl)]
          obtain ⟨⟨r0, r1⟩, ⟨f0, f1⟩⟩ := trn_cells hBw14
          have hSF := put2v_below hSw14 (g := w.heap.size) (Nat.le_refl _) (.slice (some ⟨t, 0, none⟩) P.length ch) (.slice (some ⟨gr, 0, none⟩) P.length P.length)
          have hF := put2v_heap (v0 := .slice (some ⟨t, 0, none⟩) P.length ch) (v1 := .slice (some ⟨gr, 0, none⟩) P.length P.length) hBw14
          have hqF := put2v_far (v0 := .slice (some ⟨t, 0, none⟩) P.length ch) (v1 := .slice (some ⟨gr, 0, none⟩) P.length P.length) hqCw14 (show w.heap.size ≠ t by omega)
          have hrF := put2v_far (v0 := .slice (some ⟨t, 0, none⟩) P.length ch) (v1 := .slice (some ⟨gr, 0, none⟩) P.length P.length) hqMw14 (show w.heap.size ≠ gr by omega)
          go_simp
          unfold put2v at hSF hF hqF hrF
          refine hK.out _ _ hSF (fun hSS => ?_)
          clear hK
          refine wpAnyH_take (i := 7) (v := .bool true) rfl (by kernel_rfl) (by kernel_rfl) (by kernel_rfl) (fun _ _ _ h => (by cases h.1)) (Or.inl ⟨by rfl, ?_⟩) (by assumption) ?_
          · intro W hSW
            go_simp
          simp only [Act.put, List.getElem_toArray, List.getElem_cons_succ, List.getElem_cons_zero, List.setIfInBounds_toArray, List.set_cons_succ, List.set_cons_zero]
          refine wpAnyH_done (by kernel_rfl) ?_ _
          exact ⟨rfl, t, ch, gr, rfl, hC1, hC2, by omega, by omega, by omega, hqF, hrF, hF, hSF⟩
    · rintro e a W ⟨rfl, t, ch, gr, rfl, hC1, hC2, hg1, hg2, hne, hqt, hqr, hbx, hS⟩
      have HQ : Hid (ZSRow W t P ∧ ZSRow W gr (zrs P.length)) := ⟨hqt, hqr⟩
      have HBX : Hid (W.heap[w.heap.size]? = some (.cells #[.slice (some ⟨t, 0, none⟩) P.length ch, .slice (some ⟨gr, 0, none⟩) P.length P.length] 30)) := hbx
      have HCC : Hid (P.length ≤ ch ∧ ch ≤ 9223372036854775807) := ⟨hC1, hC2⟩
      clear hqt hqr hbx hC1 hC2
      go_wp2_with fail
      (try simp only [Exit.inBlock, Exit.then])
      refine bodyPost_ret (results_trn rfl _ _ w.heap.size 30 #[.slice (some ⟨t, 0, none⟩) P.length ch, .slice (some ⟨gr, 0, none⟩) P.length P.length] (0, 0) _ (.bool true) rfl rfl ?_ Try.underlying30 rfl (by kernel_rfl)) rfl ⟨?_, hS⟩
      · exact HBX.out
      · exact .inr ⟨HGW.out, t, ch, gr, rfl, HCC.out.1, HCC.out.2, by omega, by omega, hne, HQ.out.1, HQ.out.2⟩

set_option maxRecDepth 20000 in
set_option maxHeartbeats 4000000 in
theorem sNewTurn_any (v : Value) (P : List Int) (w : World) (hr : ZRow .i64 w v P) (hl : P.length ≤ 1048576) :
    Calls Try.prog 15 #[v] w fun e w' => NTAns w' w.heap.size P e ∧ Below w.heap.size w w' := by
  have HG : Hid (∀ W, Below w.heap.size w W → Calls Try.prog 27 #[v] W fun e w' => e = .returned (.bool (goodW P)) ∧ w' = W) := fun W hW => sGoodWeights_any _ P W (hr.kept hW) hl
  obtain ⟨W0, hW0⟩ : ∃ W0, W0 = w.alloc (.cells #[.slice none 0 0, .slice none 0 0] 30) := ⟨_, rfl⟩
  have hb0 : Below w.heap.size w W0 := by rw [hW0]; exact (Below.refl w.heap.size w).alloc (Nat.le_refl _) _
  have hB0 : W0.heap[w.heap.size]? = some (.cells #[.slice none 0 0, .slice none 0 0] 30) := by rw [hW0]; exact trn_new _ _
  have HB0 : Hid (W0.heap[w.heap.size]? = some (.cells #[.slice none 0 0, .slice none 0 0] 30)) := hB0
  have hl0 : w.heap.size < W0.heap.size := by rw [hW0]; simp
  have HW0 : Hid (w.alloc (.cells #[.slice none 0 0, .slice none 0 0] 30) = W0) := hW0.symm
  clear hW0
  cases hg : goodW P with
  | false =>
    rw [hg] at HG
    have HN : Hid (goodW P = false) := hg
    obtain ⟨va, vc, rfl, _, _, _⟩ := zrow_value hr
    obtain ⟨⟨r0, r1⟩, ⟨f0, f1⟩⟩ := trn_cells hB0
    clear hr hB0 hg
    go_enter Try.func15, Try.ntmps15
    go_wp2_with fail
    rw [HW0.out]
    refine (HG.out _ hb0).mono ?_
    rintro e w1 ⟨rfl, rfl⟩
    go_wp2_with fail
    (try simp only [Exit.inBlock, Exit.then])
    refine bodyPost_ret (results_trn rfl _ _ w.heap.size 30 #[.slice none 0 0, .slice none 0 0] (0, 0) _ (.bool false) rfl rfl ?_ Try.underlying30 rfl (by kernel_rfl)) rfl ⟨.inl ⟨HN.out, rfl⟩, ?_⟩
    · exact put2v_heap HB0.out
    · exact put2v_below hb0 (Nat.le_refl _) _ _
  | true =>
    rw [hg] at HG
    have HGW : Hid (goodW P = true) := hg
    have hp : 0 < P.length := good_pos hg
    have h12 := good12 hg
    obtain ⟨i0, hi, hz0, hz1, hz2⟩ := info_parts info_intY
    obtain ⟨va, pc, rfl, hpc, hpm, HROW⟩ := zrow_value hr
    obtain ⟨b, o, ha, hbl, hc⟩ := HROW.out hp
    subst ha
    have HP : Hid (0 < P.length) := hp
    have HTS : Hid (∀ W W', Below w.heap.size w W → Below W.heap.size W W' → Below w.heap.size w W') := fun W W' h1 h2 => h1.trans (h2.mono h1.size)
    have HSR : Hid (∀ W, Below w.heap.size w W → ∀ j, (hj : j < P.length) → W.cell? ⟨b, o + j, none⟩ = some (.int .i64 P[j])) := fun W hW j hj => by rw [hW.cell (p := ⟨b, o + j, none⟩) hbl]; exact hc j hj
    clear hr hc hg HROW hp
    go_enter Try.func15, Try.ntmps15
    go_wp2_with fail
    rw [HW0.out]
    refine (HG.out _ hb0).mono ?_
    rintro e w1 ⟨rfl, rfl⟩
    clear HG HW0
    go_wp2_with fail
    have hSX : Below w.heap.size w w1.drew := hb0.drew
    have hBX : w1.drew.heap[w.heap.size]? = some (.cells #[.slice none 0 0, .slice none 0 0] 30) := hB0
    have hlX : w.heap.size < w1.drew.heap.size := hl0
    refine Code.wp_mono (Q := fun e a W => e = Exit.normal ∧ ∃ (t ch gr ge : Nat), a = { tmps := #[.slice (some ⟨b, o, none⟩) P.length pc, undef, .pointer (some ⟨w.heap.size, 0, none⟩), .bool true, .slice (some ⟨b, o, none⟩) P.length pc, .bool true, .bool false, undef, .slice (some ⟨ge, 0, none⟩) 0 0, .slice (some ⟨b, o, none⟩) P.length pc, .slice (some ⟨t, 0, none⟩) P.length ch, .slice (some ⟨b, o, none⟩) P.length pc, .int .i64 (P.length : Int), .slice (some ⟨gr, 0, none⟩) P.length P.length, .agg #[.slice (some ⟨t, 0, none⟩) P.length ch, .slice (some ⟨gr, 0, none⟩) P.length P.length]], defers := [] } ∧ P.length ≤ ch ∧ ch ≤ 9223372036854775807 ∧ w.heap.size < t ∧ w.heap.size < gr ∧ t ≠ gr ∧ ZSRow W t P ∧ ZSRow W gr (zrs P.length) ∧ W.heap[w.heap.size]? = some (.cells #[.slice (some ⟨t, 0, none⟩) P.length ch, .slice (some ⟨gr, 0, none⟩) P.length P.length] 30) ∧ Below w.heap.size w W) ?_ ?_
    rotate_left
    · refine wp_region_held_drew (S := fun W : World => Below w.heap.size w W) (by kernel_rfl) hSX (fun hHeld => ?_)
      generalize w1.drew = wX at *
      have hSwX := hSX
      have hBwX := hBX
      have hlwX := hlX
      clear hSX hBX hlX
      refine wpAnyH_take (i := 1) (v := .slice (some ⟨b, o, none⟩) P.length pc) rfl (by kernel_rfl) (by kernel_rfl) (by kernel_rfl) (fun _ _ _ h => (by cases h.1)) (Or.inl ⟨by rfl, ?_⟩) (by assumption) ?_
      · intro W hSW
        go_simp
      simp only [Act.put, List.getElem_toArray, List.getElem_cons_succ, List.getElem_cons_zero, List.setIfInBounds_toArray, List.set_cons_succ, List.set_cons_zero]
      refine wpAnyH_take (i := 3) (v := .slice (some ⟨b, o, none⟩) P.length pc) rfl (by kernel_rfl) (by kernel_rfl) (by kernel_rfl) (fun _ _ _ h => (by cases h.1)) (Or.inl ⟨by rfl, ?_⟩) (by assumption) ?_
      · intro W hSW
        go_simp
      simp only [Act.put, List.getElem_toArray, List.getElem_cons_succ, List.getElem_cons_zero, List.setIfInBounds_toArray, List.set_cons_succ, List.set_cons_zero]
      refine wpAnyH_take (i := 4) (v := .int .i64 (P.length : Int)) rfl (by kernel_rfl) (by kernel_rfl) (by kernel_rfl) (fun _ _ _ h => (by cases h.1)) (Or.inl ⟨by rfl, ?_⟩) (by assumption) ?_
      · intro W hSW
        go_simp
      simp only [Act.put, List.getElem_toArray, List.getElem_cons_succ, List.getElem_cons_zero, List.setIfInBounds_toArray, List.set_cons_succ, List.set_cons_zero]
      refine wpAnyH_ready (rs := [0, 5]) (by kernel_rfl) (by simp) ?_
      refine AllReadyH.cons rfl (fun K hK => ?_) (AllReadyH.cons rfl (fun K hK => ?_) AllReadyH.nil)
      · rw [if_pos (by rfl)]
        go_simp
        have hbw15 : Below wX.heap.size wX (wX.alloc (.cells #[] 3)) := (Below.refl _ _).alloc (Nat.le_refl _) _
        obtain ⟨w15, hYw15⟩ : ∃ Y, Y = wX.alloc (.cells #[] 3) := ⟨_, rfl⟩
        rw [← hYw15] at hbw15 ⊢
        have hEw15 : w15.heap[wX.heap.size]? = some (.cells #[] 3) := by rw [hYw15]; exact trn_new _ _
        have hlEw15 : wX.heap.size < w15.heap.size := by rw [hYw15]; simp
        have hSw15 := HTS.out _ _ hSwX hbw15
        have hzw15 := hbw15.size
        have hBw15 : w15.heap[w.heap.size]? = some (.cells #[.slice none 0 0, .slice none 0 0] 30) := (hbw15.block _ hlwX).trans hBwX
        have hlw15 : w.heap.size < w15.heap.size := by omega
        clear hYw15
        refine hK.out _ _ hSw15 (fun hSS => ?_)
        clear hK hbw15
        obtain ⟨ge, hgee⟩ : ∃ ge, ge = wX.heap.size := ⟨_, rfl⟩
        rw [← hgee] at hEw15 hlEw15 ⊢
        have hgeb : w.heap.size + 1 ≤ ge := by omega
        have hge1 : wX.heap.size ≤ ge := by omega
        have hge2 : ge ≤ wX.heap.size := by omega
        clear hgee
        refine wpAnyH_ready (rs := [2, 5]) (by kernel_rfl) (by simp) ?_
        refine AllReadyH.cons rfl (fun K hK => ?_) (AllReadyH.cons rfl (fun K hK => ?_) AllReadyH.nil)
        · refine step_append_atT rfl (.tmp 8) (.tmp 9) 23 rfl (w.heap.size + 1) 3 i0 (.int .i64 0) 1 8 Try.underlying23 hi hz0 hz1 hz2 rfl (by decide) _ _ _ rfl (own_of_empty hEw15 hgeb) ⟨b, o, none⟩ P.length pc (P.map (Value.int .i64)) rfl (by simp) (src_intsT (HSR.out _ hSw15)) (ints_oneZT P) ?_ ?_ ?_ ?_
          · unfold maxLen; omega
          · omega
          · omega
          intro v2 w16 hown2 hgrow2 hat2
          obtain ⟨t, ch, rfl, hC1, hC2, hCg, hqCw16⟩ := zs_of_ownT HP.out (by simpa using hown2)
          have hkw16 := grown_kpt hgrow2
          have hSw16 : Below w.heap.size w w16 := hSw15.grown hgrow2 (by omega) (fun k hk => by have e : ge = k := Option.some.inj hk; omega)
          have hzw16 : w15.heap.size ≤ w16.heap.size := hkw16.size
          have hBw16 : w16.heap[w.heap.size]? = some (.cells #[.slice none 0 0, .slice none 0 0] 30) := (hkw16.block _ hlw15 (fun h => by have e : ge = w.heap.size := Option.some.inj h; omega)).trans hBw15
          have hlw16 : w.heap.size < w16.heap.size := by omega
          have htat : t = ge ∨ t = w15.heap.size := by
            rcases hat2 with h | h
            · have e : t = ge := Option.some.inj h
              omega
            · have e : t = w15.heap.size := Option.some.inj h
              omega
          have hltCw16 := hqCw16.1
          have hCw : w.heap.size < t := by omega
          clear hown2 hgrow2 hat2 hkw16
          refine hK.out _ _ hSw16 (fun hSS => ?_)
          clear hK
          simp only [Act.put, List.getElem_toArray, List.getElem_cons_succ, List.getElem_cons_zero, List.setIfInBounds_toArray, List.set_cons_succ, List.set_cons_zero]
          refine wpAnyH_ready (rs := [5]) (by kernel_rfl) (by simp) ?_
          refine AllReadyH.cons rfl (fun K hK => ?_) AllReadyH.nil
          · rw [if_pos (by rfl)]
            obtain ⟨w17, hrunw17, ownw17, grww17⟩ := run_make_full (P := Try.prog) w16 w16.heap.size 23 3 i0 (.int .i64 0) 1 Try.underlying23 hi hz0 hz1 .i64 .i64 P.length (by rw [hz2]; omega) (by unfold maxLen; omega) (Nat.le_refl _)
            have hbw17 : Below w16.heap.size w16 w17 := (Below.refl _ _).grown grww17 (Nat.le_refl _) (fun k h => by cases h)
            have hqMw17 : ZSRow w17 w16.heap.size (zrs P.length) := made_zrs ownw17
            have hSw17 := HTS.out _ _ hSw16 hbw17
            have hzw17 := hbw17.size
            have hBw17 : w17.heap[w.heap.size]? = some (.cells #[.slice none 0 0, .slice none 0 0] 30) := (hbw17.block _ hlw16).trans hBw16
            have hlw17 : w.heap.size < w17.heap.size := by omega
            have hqCw17 : ZSRow w17 t P := hqCw16.kept hbw17
            have hltCw17 := hqCw16.1
            have hltMw17 := hqMw17.1
            go_simp
            clear ownw17 grww17
            refine hK.out _ _ hSw17 (fun hSS => ?_)
            clear hK hrunw17 hbw17
            obtain ⟨gr, hgre⟩ : ∃ gr, gr = w16.heap.size := ⟨_, rfl⟩
            rw [← hgre] at hqMw17 hltMw17 ⊢
            have hgr1 : w16.heap.size ≤ gr := by omega
            have hgr2 : gr ≤ w16.heap.size := by omega
            clear hgre
            refine wpAnyH_take (i := 6) (v := .agg #[.slice (some ⟨t, 0, none⟩) P.length ch, .slice (some ⟨gr, 0, none⟩) P.length P.length]) rfl (by kernel_rfl) (by kernel_rfl) (by kernel_rfl) (fun _ _ _ h => (by cases h.1)) (Or.inl ⟨by rfl, ?_⟩) (by assumption) ?_
            · intro W hSW
              go_simp
            simp only [Act.put, List.getElem_toArray, List.getElem_cons_succ, List.getElem_cons_zero, List.setIfInBounds_toArray, List.set_cons_succ, List.set_cons_zero]
            refine wpAnyH_ready (rs := [7]) (by kernel_rfl) (by simp) ?_
            refine AllReadyH.cons rfl (fun K hK => ?_) AllReadyH.nil
            rw [if_pos (by rfl)]
            obtain ⟨⟨r0, r1⟩, ⟨f0, f1⟩⟩ := trn_cells hBw17
            have hSF := put2v_below hSw17 (g := w.heap.size) (Nat.le_refl _) (.slice (some ⟨t, 0, none⟩) P.length ch) (.slice (some ⟨gr, 0, none⟩) P.length P.length)
            have hF := put2v_heap (v0 := .slice (some ⟨t, 0, none⟩) P.length ch) (v1 := .slice (some ⟨gr, 0, none⟩) P.length P.length) hBw17
            have hqF := put2v_far (v0 := .slice (some ⟨t, 0, none⟩) P.length ch) (v1 := .slice (some ⟨gr, 0, none⟩) P.length P.length) hqCw17 (show w.heap.size ≠ t by omega)
            have hrF := put2v_far (v0 := .slice (some ⟨t, 0, none⟩) P.length ch) (v1 := .slice (some ⟨gr, 0, none⟩) P.length P.length) hqMw17 (show w.heap.size ≠ gr by omega)
            go_simp
            unfold put2v at hSF hF hqF hrF
            refine hK.out _ _ hSF (fun hSS => ?_)
            clear hK
            refine wpAnyH_take (i := 8) (v := .bool true) rfl (by kernel_rfl) (by kernel_rfl) (by kernel_rfl) (fun _ _ _ h => (by cases h.1)) (Or.inl ⟨by rfl, ?_⟩) (by assumption) ?_
            · intro W hSW
              go_simp
            simp only [Act.put, List.getElem_toArray, List.getElem_cons_succ, List.getElem_cons_zero, List.setIfInBounds_toArray, List.set_cons_succ, List.set_cons_zero]
            refine wpAnyH_done (by kernel_rfl) ?_ _
            exact ⟨rfl, t, ch, gr, ge, rfl, hC1, hC2, by omega, by omega, by omega, hqF, hrF, hF, hSF⟩
        · rw [if_pos (by rfl)]
          obtain ⟨w18, hrunw18, ownw18, grww18⟩ := run_make_full (P := Try.prog) w15 w15.heap.size 23 3 i0 (.int .i64 0) 1 Try.underlying23 hi hz0 hz1 .i64 .i64 P.length (by rw [hz2]; omega) (by unfold maxLen; omega) (Nat.le_refl _)
          have hbw18 : Below w15.heap.size w15 w18 := (Below.refl _ _).grown grww18 (Nat.le_refl _) (fun k h => by cases h)
          have hqMw18 : ZSRow w18 w15.heap.size (zrs P.length) := made_zrs ownw18
          have hSw18 := HTS.out _ _ hSw15 hbw18
          have hzw18 := hbw18.size
          have hBw18 : w18.heap[w.heap.size]? = some (.cells #[.slice none 0 0, .slice none 0 0] 30) := (hbw18.block _ hlw15).trans hBw15
          have hlw18 : w.heap.size < w18.heap.size := by omega
          have hEw18 : w18.heap[ge]? = some (.cells #[] 3) := (hbw18.block _ hlEw15).trans hEw15
          have hlEw18 : ge < w18.heap.size := by omega
          have hltMw18 := hqMw18.1
          go_simp
          clear ownw18 grww18
          refine hK.out _ _ hSw18 (fun hSS => ?_)
          clear hK hrunw18 hbw18
          obtain ⟨gr, hgre⟩ : ∃ gr, gr = w15.heap.size := ⟨_, rfl⟩
          rw [← hgre] at hqMw18 hltMw18 ⊢
          have hgr1 : w15.heap.size ≤ gr := by omega
          have hgr2 : gr ≤ w15.heap.size := by omega
          clear hgre
          refine wpAnyH_ready (rs := [2]) (by kernel_rfl) (by simp) ?_
          refine AllReadyH.cons rfl (fun K hK => ?_) AllReadyH.nil
          · refine step_append_atT rfl (.tmp 8) (.tmp 9) 23 rfl (w.heap.size + 1) 3 i0 (.int .i64 0) 1 8 Try.underlying23 hi hz0 hz1 hz2 rfl (by decide) _ _ _ rfl (own_of_empty hEw18 hgeb) ⟨b, o, none⟩ P.length pc (P.map (Value.int .i64)) rfl (by simp) (src_intsT (HSR.out _ hSw18)) (ints_oneZT P) ?_ ?_ ?_ ?_
            · unfold maxLen; omega
            · omega
            · omega
            intro v2 w19 hown2 hgrow2 hat2
            obtain ⟨t, ch, rfl, hC1, hC2, hCg, hqCw19⟩ := zs_of_ownT HP.out (by simpa using hown2)
            have hkw19 := grown_kpt hgrow2
            have hSw19 : Below w.heap.size w w19 := hSw18.grown hgrow2 (by omega) (fun k hk => by have e : ge = k := Option.some.inj hk; omega)
            have hzw19 : w18.heap.size ≤ w19.heap.size := hkw19.size
            have hBw19 : w19.heap[w.heap.size]? = some (.cells #[.slice none 0 0, .slice none 0 0] 30) := (hkw19.block _ hlw18 (fun h => by have e : ge = w.heap.size := Option.some.inj h; omega)).trans hBw18
            have hlw19 : w.heap.size < w19.heap.size := by omega
            have htat : t = ge ∨ t = w18.heap.size := by
              rcases hat2 with h | h
              · have e : t = ge := Option.some.inj h
                omega
              · have e : t = w18.heap.size := Option.some.inj h
                omega
            have hqMw19 : ZSRow w19 gr (zrs P.length) := hqMw18.apart hkw19 (fun h => by have e : ge = gr := Option.some.inj h; omega)
            have hltMw19 := hqMw18.1
            have hltCw19 := hqCw19.1
            have hCw : w.heap.size < t := by omega
            clear hown2 hgrow2 hat2 hkw19
            refine hK.out _ _ hSw19 (fun hSS => ?_)
            clear hK
            simp only [Act.put, List.getElem_toArray, List.getElem_cons_succ, List.getElem_cons_zero, List.setIfInBounds_toArray, List.set_cons_succ, List.set_cons_zero]
            refine wpAnyH_take (i := 6) (v := .agg #[.slice (some ⟨t, 0, none⟩) P.length ch, .slice (some ⟨gr, 0, none⟩) P.length P.length]) rfl (by kernel_rfl) (by kernel_rfl) (by kernel_rfl) (fun _ _ _ h => (by cases h.1)) (Or.inl ⟨by rfl, ?_⟩) (by assumption) ?_
            · intro W hSW
              go_simp
            simp only [Act.put, List.getElem_toArray, List.getElem_cons_succ, List.getElem_cons_zero, List.setIfInBounds_toArray, List.set_cons_succ, List.set_cons_zero]
            refine wpAnyH_ready (rs := [7]) (by kernel_rfl) (by simp) ?_
            refine AllReadyH.cons rfl (fun K hK => ?_) AllReadyH.nil
            rw [if_pos (by rfl)]
            obtain ⟨⟨r0, r1⟩, ⟨f0, f1⟩⟩ := trn_cells hBw19
            have hSF := put2v_below hSw19 (g := w.heap.size) (Nat.le_refl _) (.slice (some ⟨t, 0, none⟩) P.length ch) (.slice (some ⟨gr, 0, none⟩) P.length P.length)
            have hF := put2v_heap (v0 := .slice (some ⟨t, 0, none⟩) P.length ch) (v1 := .slice (some ⟨gr, 0, none⟩) P.length P.length) hBw19
            have hqF := put2v_far (v0 := .slice (some ⟨t, 0, none⟩) P.length ch) (v1 := .slice (some ⟨gr, 0, none⟩) P.length P.length) hqCw19 (show w.heap.size ≠ t by omega)
            have hrF := put2v_far (v0 := .slice (some ⟨t, 0, none⟩) P.length ch) (v1 := .slice (some ⟨gr, 0, none⟩) P.length P.length) hqMw19 (show w.heap.size ≠ gr by omega)
            go_simp
            unfold put2v at hSF hF hqF hrF
            refine hK.out _ _ hSF (fun hSS => ?_)
            clear hK
            refine wpAnyH_take (i := 8) (v := .bool true) rfl (by kernel_rfl) (by kernel_rfl) (by kernel_rfl) (fun _ _ _ h => (by cases h.1)) (Or.inl ⟨by rfl, ?_⟩) (by assumption) ?_
            · intro W hSW
              go_simp
            simp only [Act.put, List.getElem_toArray, List.getElem_cons_succ, List.getElem_cons_zero, List.setIfInBounds_toArray, List.set_cons_succ, List.set_cons_zero]
            refine wpAnyH_done (by kernel_rfl) ?_ _
            exact ⟨rfl, t, ch, gr, ge, rfl, hC1, hC2, by omega, by omega, by omega, hqF, hrF, hF, hSF⟩
      · rw [if_pos (by rfl)]
        obtain ⟨w20, hrunw20, ownw20, grww20⟩ := run_make_full (P := Try.prog) wX wX.heap.size 23 3 i0 (.int .i64 0) 1 Try.underlying23 hi hz0 hz1 .i64 .i64 P.length (by rw [hz2]; omega) (by unfold maxLen; omega) (Nat.le_refl _)
        have hbw20 : Below wX.heap.size wX w20 := (Below.refl _ _).grown grww20 (Nat.le_refl _) (fun k h => by cases h)
        have hqMw20 : ZSRow w20 wX.heap.size (zrs P.length) := made_zrs ownw20
        have hSw20 := HTS.out _ _ hSwX hbw20
        have hzw20 := hbw20.size
        have hBw20 : w20.heap[w.heap.size]? = some (.cells #[.slice none 0 0, .slice none 0 0] 30) := (hbw20.block _ hlwX).trans hBwX
        have hlw20 : w.heap.size < w20.heap.size := by omega
        have hltMw20 := hqMw20.1
        go_simp
        clear ownw20 grww20
        refine hK.out _ _ hSw20 (fun hSS => ?_)
        clear hK hrunw20 hbw20
        obtain ⟨gr, hgre⟩ : ∃ gr, gr = wX.heap.size := ⟨_, rfl⟩
        rw [← hgre] at hqMw20 hltMw20 ⊢
        have hgr1 : wX.heap.size ≤ gr := by omega
        have hgr2 : gr ≤ wX.heap.size := by omega
        clear hgre
        refine wpAnyH_ready (rs := [0]) (by kernel_rfl) (by simp) ?_
        refine AllReadyH.cons rfl (fun K hK => ?_) AllReadyH.nil
        · rw [if_pos (by rfl)]
          go_simp
          have hbw21 : Below w20.heap.size w20 (w20.alloc (.cells #[] 3)) := (Below.refl _ _).alloc (Nat.le_refl _) _
          obtain ⟨w21, hYw21⟩ : ∃ Y, Y = w20.alloc (.cells #[] 3) := ⟨_, rfl⟩
          rw [← hYw21] at hbw21 ⊢
          have hEw21 : w21.heap[w20.heap.size]? = some (.cells #[] 3) := by rw [hYw21]; exact trn_new _ _
          have hlEw21 : w20.heap.size < w21.heap.size := by rw [hYw21]; simp
          have hSw21 := HTS.out _ _ hSw20 hbw21
          have hzw21 := hbw21.size
          have hBw21 : w21.heap[w.heap.size]? = some (.cells #[.slice none 0 0, .slice none 0 0] 30) := (hbw21.block _ hlw20).trans hBw20
          have hlw21 : w.heap.size < w21.heap.size := by omega
          have hqMw21 : ZSRow w21 gr (zrs P.length) := hqMw20.kept hbw21
          have hltMw21 := hqMw20.1
          clear hYw21
          refine hK.out _ _ hSw21 (fun hSS => ?_)
          clear hK hbw21
          obtain ⟨ge, hgee⟩ : ∃ ge, ge = w20.heap.size := ⟨_, rfl⟩
          rw [← hgee] at hEw21 hlEw21 ⊢
          have hgeb : w.heap.size + 1 ≤ ge := by omega
          have hge1 : w20.heap.size ≤ ge := by omega
          have hge2 : ge ≤ w20.heap.size := by omega
          clear hgee
          refine wpAnyH_ready (rs := [2]) (by kernel_rfl) (by simp) ?_
          refine AllReadyH.cons rfl (fun K hK => ?_) AllReadyH.nil
          · refine step_append_atT rfl (.tmp 8) (.tmp 9) 23 rfl (w.heap.size + 1) 3 i0 (.int .i64 0) 1 8 Try.underlying23 hi hz0 hz1 hz2 rfl (by decide) _ _ _ rfl (own_of_empty hEw21 hgeb) ⟨b, o, none⟩ P.length pc (P.map (Value.int .i64)) rfl (by simp) (src_intsT (HSR.out _ hSw21)) (ints_oneZT P) ?_ ?_ ?_ ?_
            · unfold maxLen; omega
            · omega
            · omega
            intro v2 w22 hown2 hgrow2 hat2
            obtain ⟨t, ch, rfl, hC1, hC2, hCg, hqCw22⟩ := zs_of_ownT HP.out (by simpa using hown2)
            have hkw22 := grown_kpt hgrow2
            have hSw22 : Below w.heap.size w w22 := hSw21.grown hgrow2 (by omega) (fun k hk => by have e : ge = k := Option.some.inj hk; omega)
            have hzw22 : w21.heap.size ≤ w22.heap.size := hkw22.size
            have hBw22 : w22.heap[w.heap.size]? = some (.cells #[.slice none 0 0, .slice none 0 0] 30) := (hkw22.block _ hlw21 (fun h => by have e : ge = w.heap.size := Option.some.inj h; omega)).trans hBw21
            have hlw22 : w.heap.size < w22.heap.size := by omega
            have htat : t = ge ∨ t = w21.heap.size := by
              rcases hat2 with h | h
              · have e : t = ge := Option.some.inj h
                omega
              · have e : t = w21.heap.size := Option.some.inj h
                omega
            have hqMw22 : ZSRow w22 gr (zrs P.length) := hqMw21.apart hkw22 (fun h => by have e : ge = gr := Option.some.inj h; omega)
            have hltMw22 := hqMw21.1
            have hltCw22 := hqCw22.1
            have hCw : w.heap.size < t := by omega
            clear hown2 hgrow2 hat2 hkw22
            refine hK.out _ _ hSw22 (fun hSS => ?_)
            clear hK
            simp only [Act.put, List.getElem_toArray, List.getElem_cons_succ, List.getElem_cons_zero, List.setIfInBounds_toArray, List.set_cons_succ, List.set_cons_zero]
            refine wpAnyH_take (i := 6) (v := .agg #[.slice (some ⟨t, 0, none⟩) P.length ch, .slice (some ⟨gr, 0, none⟩) P.length P.length]) rfl (by kernel_rfl) (by kernel_rfl) (by kernel_rfl) (fun _ _ _ h => (by cases h.1)) (Or.inl ⟨by rfl, ?_⟩) (by assumption) ?_
            · intro W hSW
              go_simp
            simp only [Act.put, List.getElem_toArray, List.getElem_cons_succ, List.getElem_cons_zero, List.setIfInBounds_toArray, List.set_cons_succ, List.set_cons_zero]
            refine wpAnyH_ready (rs := [7]) (by kernel_rfl) (by simp) ?_
            refine AllReadyH.cons rfl (fun K hK => ?_) AllReadyH.nil
            rw [if_pos (by rfl)]
            obtain ⟨⟨r0, r1⟩, ⟨f0, f1⟩⟩ := trn_cells hBw22
            have hSF := put2v_below hSw22 (g := w.heap.size) (Nat.le_refl _) (.slice (some ⟨t, 0, none⟩) P.length ch) (.slice (some ⟨gr, 0, none⟩) P.length P.length)
            have hF := put2v_heap (v0 := .slice (some ⟨t, 0, none⟩) P.length ch) (v1 := .slice (some ⟨gr, 0, none⟩) P.length P.length) hBw22
            have hqF := put2v_far (v0 := .slice (some ⟨t, 0, none⟩) P.length ch) (v1 := .slice (some ⟨gr, 0, none⟩) P.length P.length) hqCw22 (show w.heap.size ≠ t by omega)
            have hrF := put2v_far (v0 := .slice (some ⟨t, 0, none⟩) P.length ch) (v1 := .slice (some ⟨gr, 0, none⟩) P.length P.length) hqMw22 (show w.heap.size ≠ gr by omega)
            go_simp
            unfold put2v at hSF hF hqF hrF
            refine hK.out _ _ hSF (fun hSS => ?_)
            clear hK
            refine wpAnyH_take (i := 8) (v := .bool true) rfl (by kernel_rfl) (by kernel_rfl) (by kernel_rfl) (fun _ _ _ h => (by cases h.1)) (Or.inl ⟨by rfl, ?_⟩) (by assumption) ?_
            · intro W hSW
              go_simp
            simp only [Act.put, List.getElem_toArray, List.getElem_cons_succ, List.getElem_cons_zero, List.setIfInBounds_toArray, List.set_cons_succ, List.set_cons_zero]
            refine wpAnyH_done (by kernel_rfl) ?_ _
            exact ⟨rfl, t, ch, gr, ge, rfl, hC1, hC2, by omega, by omega, by omega, hqF, hrF, hF, hSF⟩
    · rintro e a W ⟨rfl, t, ch, gr, ge, rfl, hC1, hC2, hg1, hg2, hne, hqt, hqr, hbx, hS⟩
      have HQ : Hid (ZSRow W t P ∧ ZSRow W gr (zrs P.length)) := ⟨hqt, hqr⟩
      have HBX : Hid (W.heap[w.heap.size]? = some (.cells #[.slice (some ⟨t, 0, none⟩) P.length ch, .slice (some ⟨gr, 0, none⟩) P.length P.length] 30)) := hbx
      have HCC : Hid (P.length ≤ ch ∧ ch ≤ 9223372036854775807) := ⟨hC1, hC2⟩
      clear hqt hqr hbx hC1 hC2
      go_wp2_with fail
      (try simp only [Exit.inBlock, Exit.then])
      refine bodyPost_ret (results_trn rfl _ _ w.heap.size 30 #[.slice (some ⟨t, 0, none⟩) P.length ch, .slice (some ⟨gr, 0, none⟩) P.length P.length] (0, 0) _ (.bool true) rfl rfl ?_ Try.underlying30 rfl (by kernel_rfl)) rfl ⟨?_, hS⟩
      · exact HBX.out
      · exact .inr ⟨HGW.out, t, ch, gr, rfl, HCC.out.1, HCC.out.2, by omega, by omega, hne, HQ.out.1, HQ.out.2⟩
end Go.Proofs.Ytfbnigicigajeaa
