import Derived.Test.YtoopfmebpjojiaaDoorHeH
import Derived.Deep.RegionHeld3
namespace Go.Proofs.YtoopfmebpjojiaaDoor
open Go.RowKit

def rwL (L : List HosT) : List Int := L.map (fun x => x.2.2)
theorem rwL_length (L : List HosT) : (rwL L).length = L.length := by simp [rwL]
/-- So many zeros. -/
def zrs (n : Nat) : List Int := List.replicate n 0
theorem made_zrs {w w1 : World} {n : Nat} (h : w1.ownsRow w.heap.size 3 1 (.slice (some ⟨w.heap.size, 0, none⟩) n n) n (madeCells (Value.int .i64 0).cells (n * 1)).toList) : ZSRow w1 w.heap.size (zrs n) := by
  have h1 := made_zs (w := w) (w1 := w1) (P := zrs n) (by simpa [zrs, show (Value.int .i64 0).cells = #[Value.int .i64 0] from rfl] using h)
  simpa [partZ, zrs] using h1
/-- Four cells stored. -/
def put4w (w : World) (g : Nat) (v0 v1 v2 v3 : Value) : World := (((w.setCell ⟨g, 0, none⟩ v0).setCell ⟨g, 1, none⟩ v1).setCell ⟨g, 2, none⟩ v2).setCell ⟨g, 3, none⟩ v3
theorem put4w_heap {w : World} {g : Nat} {t : TypeId} {v0 v1 v2 v3 u0 u1 u2 u3 : Value} (h : w.heap[g]? = some (.cells #[u0, u1, u2, u3] t)) : (put4w w g v0 v1 v2 v3).heap[g]? = some (.cells #[v0, v1, v2, v3] t) := by
  have e0 := heap_setCell_same _ _ 0 _ _ v0 h
  have e1 := heap_setCell_same _ _ 1 _ _ v1 e0
  have e2 := heap_setCell_same _ _ 2 _ _ v2 e1
  have e3 := heap_setCell_same _ _ 3 _ _ v3 e2
  unfold put4w
  simpa using e3
theorem put4w_far {w : World} {g g' : Nat} {v0 v1 v2 v3 : Value} {L : List HosT} (h : HoRow w g L) (hne : g' ≠ g) : HoRow (put4w w g' v0 v1 v2 v3) g L := (((h.far hne _).far hne _).far hne _).far hne _
theorem put4w_farz {w : World} {g g' : Nat} {v0 v1 v2 v3 : Value} {R : List Int} (h : ZSRow w g R) (hne : g' ≠ g) : ZSRow (put4w w g' v0 v1 v2 v3) g R := zs_far (zs_far (zs_far (zs_far h hne _) hne _) hne _) hne _
theorem put4w_below {B : Nat} {a w : World} (h : Below B a w) {g : Nat} (hg : B ≤ g) (v0 v1 v2 v3 : Value) : Below B a (put4w w g v0 v1 v2 v3) :=
  (((h.setCell (p := ⟨g, 0, none⟩) hg _).setCell (p := ⟨g, 1, none⟩) hg _).setCell (p := ⟨g, 2, none⟩) hg _).setCell (p := ⟨g, 3, none⟩) hg _

set_option maxRecDepth 20000 in
set_option maxHeartbeats 16000000 in
theorem watchOf_any (ri fa : Int) (v : Value) (L : List HosT) (w : World) (hr : HstRow w v L) (hl : L.length ≤ 1048576) (hp : 0 < L.length) (hx : Hid (∀ x ∈ L, x.1.length ≤ 1048576)) :
    Calls Tryd.prog 53 #[HeaV ri fa v] w fun e w' => (∃ gh gr ch, e = .returned (WatV ri fa (.slice (some ⟨gh, 0, none⟩) L.length ch) (.slice (some ⟨gr, 0, none⟩) L.length L.length)) ∧ L.length ≤ ch ∧ ch ≤ maxLen ∧ w.heap.size ≤ gh ∧ w.heap.size ≤ gr ∧ gr ≠ gh ∧ HoRow w' gh L ∧ ZSRow w' gr (rwL L)) ∧ Below w.heap.size w w' := by
  obtain ⟨i0, hi, hz0, hz1, hz2⟩ := info_parts info_int
  have HCO : Hid (∀ W, Below w.heap.size w W → Calls Tryd.prog 41 #[HeaV ri fa v] W fun e w' => (∃ g cap, e = .returned (HeaV ri fa (.slice (some ⟨g, 0, none⟩) L.length cap)) ∧ L.length ≤ cap ∧ cap ≤ maxLen ∧ W.heap.size ≤ g ∧ HoRow w' g L) ∧ Below W.heap.size W w') := fun W hW => copyHealth_any ri fa v L W (hr.kept hW) hl hp hx
  unfold HeaV at HCO ⊢
  unfold WatV
  obtain ⟨va, vc, rfl, hvc, hvm, HROW⟩ := hst_value hr
  obtain ⟨W0, hW0⟩ : ∃ W0, W0 = (w.alloc (.cells #[.int .i64 ri, .int .i64 fa, .slice va L.length vc] 26)).alloc (.cells #[.int .i64 0, .int .i64 0, .slice none 0 0, .slice none 0 0] 79) := ⟨_, rfl⟩
  have hb0 : Below w.heap.size w W0 := by rw [hW0]; exact ((Below.refl w.heap.size w).alloc (Nat.le_refl _) _).alloc (by simp) _
  have hzz : W0.heap.size = w.heap.size + 1 + 1 := by rw [hW0]; simp
  have HX : Hid (∀ W, Below W0.heap.size W0 W → W.heap[w.heap.size]? = some (.cells #[.int .i64 ri, .int .i64 fa, .slice va L.length vc] 26) ∧ W.heap[w.heap.size + 1]? = some (.cells #[.int .i64 0, .int .i64 0, .slice none 0 0, .slice none 0 0] 79)) := fun W hW => by
    rw [hW0] at hW
    obtain ⟨h1, h2, _⟩ := hst_below2 hW
    exact ⟨h1, h2⟩
  have HXC : Hid (∀ W, Below W0.heap.size W0 W → W.cell? ⟨w.heap.size, 0, none⟩ = some (.int .i64 ri) ∧ W.cell? ⟨w.heap.size, 1, none⟩ = some (.int .i64 fa) ∧ W.cell? ⟨w.heap.size, 2, none⟩ = some (.slice va L.length vc)) := fun W hW => (hst_cells (HX.out W hW).1).1
  have HBW : Hid (∀ W, Below W0.heap.size W0 W → Below w.heap.size w W) := fun W hW => hb0.trans (hW.mono hb0.size)
  have HTS : Hid (∀ W W', Below W0.heap.size W0 W → Below W.heap.size W W' → Below W0.heap.size W0 W') := fun W W' h1 h2 => h1.trans (h2.mono h1.size)
  have HW0 : Hid ((w.alloc (.cells #[.int .i64 ri, .int .i64 fa, .slice va L.length vc] 26)).alloc (.cells #[.int .i64 0, .int .i64 0, .slice none 0 0, .slice none 0 0] 79) = W0) := hW0.symm
  clear hr hW0
  go_enter Tryd.func53, Tryd.ntmps53
  go_wp2_with fail
  rw [HW0.out]
  have hSX : Below W0.heap.size W0 W0.drew := (Below.refl _ _).drew
  refine Code.wp_mono (Q := fun e a W => e = Exit.normal ∧ ∃ (gh ch gr gX : Nat), a = { tmps := #[.agg #[.int .i64 ri, .int .i64 fa, .slice va L.length vc], .pointer (some ⟨w.heap.size, 0, none⟩), .pointer (some ⟨w.heap.size + 1, 0, none⟩), .pointer (some ⟨gX, 0, none⟩), undef, undef, .agg #[.int .i64 ri, .int .i64 fa, .slice va L.length vc], .agg #[.int .i64 ri, .int .i64 fa, .slice (some ⟨gh, 0, none⟩) L.length ch], .pointer (some ⟨w.heap.size, 2, none⟩), .slice va L.length vc, .int .i64 (L.length : Int), .slice (some ⟨gr, 0, none⟩) L.length L.length, .agg #[.int .i64 ri, .int .i64 fa, .slice (some ⟨gh, 0, none⟩) L.length ch, .slice (some ⟨gr, 0, none⟩) L.length L.length], undef, undef, undef, undef, undef, undef, undef, undef, undef, undef, undef, undef, undef, undef, undef, undef], defers := [] } ∧ L.length ≤ ch ∧ ch ≤ maxLen ∧ W0.heap.size ≤ gh ∧ W0.heap.size ≤ gr ∧ W0.heap.size ≤ gX ∧ gr ≠ gh ∧ gX ≠ gh ∧ gX ≠ gr ∧ HoRow W gh L ∧ ZSRow W gr (zrs L.length) ∧ W.heap[gX]? = some (.cells #[.int .i64 ri, .int .i64 fa, .slice (some ⟨gh, 0, none⟩) L.length ch, .slice (some ⟨gr, 0, none⟩) L.length L.length] 79) ∧ Below W0.heap.size W0 W) ?_ ?_
  rotate_left
  · refine wp_region_held_drew (S := fun W : World => Below W0.heap.size W0 W) (by kernel_rfl) hSX (fun hHeld => ?_)
    generalize W0.drew = wX at *
    refine wpAnyH_take (i := 0) (v := .agg #[.int .i64 ri, .int .i64 fa, .slice va L.length vc]) rfl (by kernel_rfl) (by kernel_rfl) (by kernel_rfl) (fun _ _ _ h => (by cases h.1)) (Or.inl ⟨by rfl, ?_⟩) (by assumption) ?_
    · intro W hSW
      obtain ⟨b0, b1, b2⟩ := HXC.out W hSW
      go_simp
    simp only [Act.put, List.getElem_toArray, List.getElem_cons_zero, List.setIfInBounds_toArray, List.set_cons_succ, List.set_cons_zero]
    refine wpAnyH_take (i := 2) (v := .pointer (some ⟨w.heap.size, 2, none⟩)) rfl (by kernel_rfl) (by kernel_rfl) (by kernel_rfl) (fun _ _ _ h => (by cases h.1)) (Or.inl ⟨by rfl, ?_⟩) (by assumption) ?_
    · intro W hSW
      go_simp
    simp only [Act.put, List.getElem_toArray, List.getElem_cons_succ, List.getElem_cons_zero, List.setIfInBounds_toArray, List.set_cons_succ, List.set_cons_zero]
    refine wpAnyH_take (i := 3) (v := .slice va L.length vc) rfl (by kernel_rfl) (by kernel_rfl) (by kernel_rfl) (fun _ _ _ h => (by cases h.1)) (Or.inl ⟨by rfl, ?_⟩) (by assumption) ?_
    · intro W hSW
      obtain ⟨b0, b1, b2⟩ := HXC.out W hSW
      go_simp
    simp only [Act.put, List.getElem_toArray, List.getElem_cons_succ, List.getElem_cons_zero, List.setIfInBounds_toArray, List.set_cons_succ, List.set_cons_zero]
    refine wpAnyH_take (i := 4) (v := .int .i64 (L.length : Int)) rfl (by kernel_rfl) (by kernel_rfl) (by kernel_rfl) (fun _ _ _ h => (by cases h.1)) (Or.inl ⟨by rfl, ?_⟩) (by assumption) ?_
    · intro W hSW
      go_simp
    simp only [Act.put, List.getElem_toArray, List.getElem_cons_succ, List.getElem_cons_zero, List.setIfInBounds_toArray, List.set_cons_succ, List.set_cons_zero]
    have hSwX := hSX
    refine wpAnyH_ready (rs := [1, 5, 7]) (by kernel_rfl) (by simp) ?_
    refine AllReadyH.cons rfl (fun K hK => ?_) (AllReadyH.cons rfl (fun K hK => ?_) (AllReadyH.cons rfl (fun K hK => ?_) AllReadyH.nil))
    · rw [if_pos (by rfl)]
      go_simp
      refine (HCO.out _ (HBW.out _ hSwX)).mono ?_
      rintro e w11 ⟨⟨gh, ch, rfl, hC1, hC2, hCg, hqCw11⟩, hbw11⟩
      go_simp
      have hSw11 := HTS.out _ _ hSwX hbw11
      have hszw11 := hbw11.size
      have hszSwX := hSwX.size
      have hghw11 := hqCw11.1
      refine hK.out _ _ hSw11 (fun hSS => ?_)
      clear hK
      refine wpAnyH_ready (rs := [5, 7]) (by kernel_rfl) (by simp) ?_
      refine AllReadyH.cons rfl (fun K hK => ?_) (AllReadyH.cons rfl (fun K hK => ?_) AllReadyH.nil)
      · rw [if_pos (by rfl)]
        obtain ⟨w12, hrunw12, ownw12, grww12⟩ := run_make_full (P := Tryd.prog) w11 w11.heap.size 77 3 i0 (.int .i64 0) 1 Tryd.underlying77 hi hz0 hz1 .i64 .i64 L.length (by rw [hz2]; omega) (by unfold maxLen; omega) (Nat.le_refl _)
        have hbw12 : Below w11.heap.size w11 w12 := (Below.refl _ _).grown grww12 (Nat.le_refl _) (fun k h => by cases h)
        have hqMw12 : ZSRow w12 w11.heap.size (zrs L.length) := made_zrs ownw12
        have hSw12 := HTS.out _ _ hSw11 hbw12
        have hszw12 := hbw12.size
        have hszSw11 := hSw11.size
        have hgrw12 := hqMw12.1
        have hqCw12 := hqCw11.kept hbw12
        have hghw11x := hqCw11.1
        go_simp
        clear ownw12 grww12
        refine hK.out _ _ hSw12 (fun hSS => ?_)
        clear hK hrunw12
        obtain ⟨gr, hgre⟩ : ∃ gr, gr = w11.heap.size := ⟨_, rfl⟩
        rw [← hgre] at hqMw12 hgrw12 ⊢
        have hgr1 : w11.heap.size ≤ gr := by omega
        have hgr2 : gr ≤ w11.heap.size := by omega
        clear hgre
        refine wpAnyH_take (i := 6) (v := .agg #[.int .i64 ri, .int .i64 fa, .slice (some ⟨gh, 0, none⟩) L.length ch, .slice (some ⟨gr, 0, none⟩) L.length L.length]) rfl (by kernel_rfl) (by kernel_rfl) (by kernel_rfl) (fun _ _ _ h => (by cases h.1)) (Or.inl ⟨by rfl, ?_⟩) (by assumption) ?_
        · intro W hSW
          go_simp
        simp only [Act.put, List.getElem_toArray, List.getElem_cons_succ, List.getElem_cons_zero, List.setIfInBounds_toArray, List.set_cons_succ, List.set_cons_zero]
        refine wpAnyH_ready (rs := [7]) (by kernel_rfl) (by simp) ?_
        refine AllReadyH.cons rfl (fun K hK => ?_) AllReadyH.nil
        · rw [if_pos (by rfl)]
          go_simp
          have hSw13 : Below W0.heap.size W0 (w12.alloc (.cells #[.int .i64 0, .int .i64 0, .slice none 0 0, .slice none 0 0] 79)) := hSw12.alloc hSw12.size _
          refine hK.out _ _ hSw13 (fun hSS => ?_)
          clear hK
          refine wpAnyH_ready (rs := [8]) (by kernel_rfl) (by simp) ?_
          refine AllReadyH.cons rfl (fun K hK => ?_) AllReadyH.nil
          rw [if_pos (by rfl)]
          have hSF : Below W0.heap.size W0 (w12.alloc (.cells #[.int .i64 ri, .int .i64 fa, .slice (some ⟨gh, 0, none⟩) L.length ch, .slice (some ⟨gr, 0, none⟩) L.length L.length] 79)) := hSw12.alloc hSw12.size _
          have hbF : Below w12.heap.size w12 (w12.alloc (.cells #[.int .i64 ri, .int .i64 fa, .slice (some ⟨gh, 0, none⟩) L.length ch, .slice (some ⟨gr, 0, none⟩) L.length L.length] 79)) := (Below.refl _ _).alloc (Nat.le_refl _) _
          have hF : (w12.alloc (.cells #[.int .i64 ri, .int .i64 fa, .slice (some ⟨gh, 0, none⟩) L.length ch, .slice (some ⟨gr, 0, none⟩) L.length L.length] 79)).heap[w12.heap.size]? = some (.cells #[.int .i64 ri, .int .i64 fa, .slice (some ⟨gh, 0, none⟩) L.length ch, .slice (some ⟨gr, 0, none⟩) L.length L.length] 79) := hst_new _ _
          have hqCF := hqCw12.kept hbF
          have hqMF := hqMw12.kept hbF
          go_simp
          refine hK.out _ _ hSF (fun hSS => ?_)
          clear hK
          refine wpAnyH_done (by kernel_rfl) ?_ _
          exact ⟨rfl, gh, ch, gr, w12.heap.size, rfl, hC1, hC2, by omega, by omega, by have := hSw12.size; omega, by omega, by have := hqCw12.1; omega, by have := hqMw12.1; omega, hqCF, hqMF, hF, hSF⟩
      · rw [if_pos (by rfl)]
        go_simp
        have hSw14 : Below W0.heap.size W0 (w11.alloc (.cells #[.int .i64 0, .int .i64 0, .slice none 0 0, .slice none 0 0] 79)) := hSw11.alloc hSw11.size _
        refine hK.out _ _ hSw14 (fun hSS => ?_)
        clear hK
        obtain ⟨gX, hgXe⟩ : ∃ gX, gX = w11.heap.size := ⟨_, rfl⟩
        have hqAw14 : (w11.alloc (.cells #[.int .i64 0, .int .i64 0, .slice none 0 0, .slice none 0 0] 79)).heap[gX]? = some (.cells #[.int .i64 0, .int .i64 0, .slice none 0 0, .slice none 0 0] 79) := by rw [hgXe]; exact hst_new _ _
        have hbw14 : Below w11.heap.size w11 (w11.alloc (.cells #[.int .i64 0, .int .i64 0, .slice none 0 0, .slice none 0 0] 79)) := (Below.refl _ _).alloc (Nat.le_refl _) _
        have hlAw14 : gX < (w11.alloc (.cells #[.int .i64 0, .int .i64 0, .slice none 0 0, .slice none 0 0] 79)).heap.size := by rw [hgXe]; simp
        have hszw14 := hbw14.size
        have hszSw11 := hSw11.size
        have hqCw14 := hqCw11.kept hbw14
        have hghw11a := hqCw11.1
        rw [← hgXe]
        have hgX1 : w11.heap.size ≤ gX := by omega
        have hgX2 : gX ≤ w11.heap.size := by omega
        clear hgXe
        generalize w11.alloc (.cells #[.int .i64 0, .int .i64 0, .slice none 0 0, .slice none 0 0] 79) = w14 at *
        refine wpAnyH_ready (rs := [5]) (by kernel_rfl) (by simp) ?_
        refine AllReadyH.cons rfl (fun K hK => ?_) AllReadyH.nil
        · rw [if_pos (by rfl)]
          obtain ⟨w15, hrunw15, ownw15, grww15⟩ := run_make_full (P := Tryd.prog) w14 w14.heap.size 77 3 i0 (.int .i64 0) 1 Tryd.underlying77 hi hz0 hz1 .i64 .i64 L.length (by rw [hz2]; omega) (by unfold maxLen; omega) (Nat.le_refl _)
          have hbw15 : Below w14.heap.size w14 w15 := (Below.refl _ _).grown grww15 (Nat.le_refl _) (fun k h => by cases h)
          have hqMw15 : ZSRow w15 w14.heap.size (zrs L.length) := made_zrs ownw15
          have hSw15 := HTS.out _ _ hSw14 hbw15
          have hszw15 := hbw15.size
          have hszSw14 := hSw14.size
          have hgrw15 := hqMw15.1
          have hqCw15 := hqCw14.kept hbw15
          have hqAw15 : w15.heap[gX]? = some (.cells #[.int .i64 0, .int .i64 0, .slice none 0 0, .slice none 0 0] 79) := (hbw15.block gX hlAw14).trans hqAw14
          have hlAw15 : gX < w15.heap.size := Nat.lt_of_lt_of_le hlAw14 hbw15.size
          have hghw14x := hqCw14.1
          go_simp
          clear ownw15 grww15
          refine hK.out _ _ hSw15 (fun hSS => ?_)
          clear hK hrunw15
          obtain ⟨gr, hgre⟩ : ∃ gr, gr = w14.heap.size := ⟨_, rfl⟩
          rw [← hgre] at hqMw15 hgrw15 ⊢
          have hgr1 : w14.heap.size ≤ gr := by omega
          have hgr2 : gr ≤ w14.heap.size := by omega
          clear hgre
          refine wpAnyH_take (i := 6) (v := .agg #[.int .i64 ri, .int .i64 fa, .slice (some ⟨gh, 0, none⟩) L.length ch, .slice (some ⟨gr, 0, none⟩) L.length L.length]) rfl (by kernel_rfl) (by kernel_rfl) (by kernel_rfl) (fun _ _ _ h => (by cases h.1)) (Or.inl ⟨by rfl, ?_⟩) (by assumption) ?_
          · intro W hSW
            go_simp
          simp only [Act.put, List.getElem_toArray, List.getElem_cons_succ, List.getElem_cons_zero, List.setIfInBounds_toArray, List.set_cons_succ, List.set_cons_zero]
          refine wpAnyH_ready (rs := [8]) (by kernel_rfl) (by simp) ?_
          refine AllReadyH.cons rfl (fun K hK => ?_) AllReadyH.nil
          rw [if_pos (by rfl)]
          obtain ⟨⟨r0, r1, r2, r3⟩, ⟨f0, f1, f2, f3⟩⟩ := wat_cells hqAw15
          have hSF := put4w_below hSw15 (g := gX) (by omega) (.int .i64 ri) (.int .i64 fa) (.slice (some ⟨gh, 0, none⟩) L.length ch) (.slice (some ⟨gr, 0, none⟩) L.length L.length)
          have hF := put4w_heap (v0 := .int .i64 ri) (v1 := .int .i64 fa) (v2 := .slice (some ⟨gh, 0, none⟩) L.length ch) (v3 := .slice (some ⟨gr, 0, none⟩) L.length L.length) hqAw15
          have hqCF := put4w_far (v0 := .int .i64 ri) (v1 := .int .i64 fa) (v2 := .slice (some ⟨gh, 0, none⟩) L.length ch) (v3 := .slice (some ⟨gr, 0, none⟩) L.length L.length) hqCw15 (show gX ≠ gh by omega)
          have hqMF := put4w_farz (v0 := .int .i64 ri) (v1 := .int .i64 fa) (v2 := .slice (some ⟨gh, 0, none⟩) L.length ch) (v3 := .slice (some ⟨gr, 0, none⟩) L.length L.length) hqMw15 (show gX ≠ gr by omega)
          go_simp
          unfold put4w at hSF hF hqCF hqMF
          refine hK.out _ _ hSF (fun hSS => ?_)
          clear hK
          refine wpAnyH_done (by kernel_rfl) ?_ _
          exact ⟨rfl, gh, ch, gr, gX, rfl, hC1, hC2, by omega, by omega, by omega, by omega, by omega, by omega, hqCF, hqMF, hF, hSF⟩
    · rw [if_pos (by rfl)]
      obtain ⟨w16, hrunw16, ownw16, grww16⟩ := run_make_full (P := Tryd.prog) wX wX.heap.size 77 3 i0 (.int .i64 0) 1 Tryd.underlying77 hi hz0 hz1 .i64 .i64 L.length (by rw [hz2]; omega) (by unfold maxLen; omega) (Nat.le_refl _)
      have hbw16 : Below wX.heap.size wX w16 := (Below.refl _ _).grown grww16 (Nat.le_refl _) (fun k h => by cases h)
      have hqMw16 : ZSRow w16 wX.heap.size (zrs L.length) := made_zrs ownw16
      have hSw16 := HTS.out _ _ hSwX hbw16
      have hszw16 := hbw16.size
      have hszSwX := hSwX.size
      have hgrw16 := hqMw16.1
      go_simp
      clear ownw16 grww16
      refine hK.out _ _ hSw16 (fun hSS => ?_)
      clear hK hrunw16
      obtain ⟨gr, hgre⟩ : ∃ gr, gr = wX.heap.size := ⟨_, rfl⟩
      rw [← hgre] at hqMw16 hgrw16 ⊢
      have hgr1 : wX.heap.size ≤ gr := by omega
      have hgr2 : gr ≤ wX.heap.size := by omega
      clear hgre
      refine wpAnyH_ready (rs := [1, 7]) (by kernel_rfl) (by simp) ?_
      refine AllReadyH.cons rfl (fun K hK => ?_) (AllReadyH.cons rfl (fun K hK => ?_) AllReadyH.nil)
      · rw [if_pos (by rfl)]
        go_simp
        refine (HCO.out _ (HBW.out _ hSw16)).mono ?_
        rintro e w17 ⟨⟨gh, ch, rfl, hC1, hC2, hCg, hqCw17⟩, hbw17⟩
        go_simp
        have hSw17 := HTS.out _ _ hSw16 hbw17
        have hszw17 := hbw17.size
        have hszSw16 := hSw16.size
        have hghw17 := hqCw17.1
        have hqMw17 := hqMw16.kept hbw17
        have hgrw16 := hqMw16.1
        refine hK.out _ _ hSw17 (fun hSS => ?_)
        clear hK
        refine wpAnyH_take (i := 6) (v := .agg #[.int .i64 ri, .int .i64 fa, .slice (some ⟨gh, 0, none⟩) L.length ch, .slice (some ⟨gr, 0, none⟩) L.length L.length]) rfl (by kernel_rfl) (by kernel_rfl) (by kernel_rfl) (fun _ _ _ h => (by cases h.1)) (Or.inl ⟨by rfl, ?_⟩) (by assumption) ?_
        · intro W hSW
          go_simp
        simp only [Act.put, List.getElem_toArray, List.getElem_cons_succ, List.getElem_cons_zero, List.setIfInBounds_toArray, List.set_cons_succ, List.set_cons_zero]
        refine wpAnyH_ready (rs := [7]) (by kernel_rfl) (by simp) ?_
        refine AllReadyH.cons rfl (fun K hK => ?_) AllReadyH.nil
        · rw [if_pos (by rfl)]
          go_simp
          have hSw18 : Below W0.heap.size W0 (w17.alloc (.cells #[.int .i64 0, .int .i64 0, .slice none 0 0, .slice none 0 0] 79)) := hSw17.alloc hSw17.size _
          refine hK.out _ _ hSw18 (fun hSS => ?_)
          clear hK
          refine wpAnyH_ready (rs := [8]) (by kernel_rfl) (by simp) ?_
          refine AllReadyH.cons rfl (fun K hK => ?_) AllReadyH.nil
          rw [if_pos (by rfl)]
          have hSF : Below W0.heap.size W0 (w17.alloc (.cells #[.int .i64 ri, .int .i64 fa, .slice (some ⟨gh, 0, none⟩) L.length ch, .slice (some ⟨gr, 0, none⟩) L.length L.length] 79)) := hSw17.alloc hSw17.size _
          have hbF : Below w17.heap.size w17 (w17.alloc (.cells #[.int .i64 ri, .int .i64 fa, .slice (some ⟨gh, 0, none⟩) L.length ch, .slice (some ⟨gr, 0, none⟩) L.length L.length] 79)) := (Below.refl _ _).alloc (Nat.le_refl _) _
          have hF : (w17.alloc (.cells #[.int .i64 ri, .int .i64 fa, .slice (some ⟨gh, 0, none⟩) L.length ch, .slice (some ⟨gr, 0, none⟩) L.length L.length] 79)).heap[w17.heap.size]? = some (.cells #[.int .i64 ri, .int .i64 fa, .slice (some ⟨gh, 0, none⟩) L.length ch, .slice (some ⟨gr, 0, none⟩) L.length L.length] 79) := hst_new _ _
          have hqCF := hqCw17.kept hbF
          have hqMF := hqMw17.kept hbF
          go_simp
          refine hK.out _ _ hSF (fun hSS => ?_)
          clear hK
          refine wpAnyH_done (by kernel_rfl) ?_ _
          exact ⟨rfl, gh, ch, gr, w17.heap.size, rfl, hC1, hC2, by omega, by omega, by have := hSw17.size; omega, by omega, by have := hqCw17.1; omega, by have := hqMw17.1; omega, hqCF, hqMF, hF, hSF⟩
      · rw [if_pos (by rfl)]
        go_simp
        have hSw19 : Below W0.heap.size W0 (w16.alloc (.cells #[.int .i64 0, .int .i64 0, .slice none 0 0, .slice none 0 0] 79)) := hSw16.alloc hSw16.size _
        refine hK.out _ _ hSw19 (fun hSS => ?_)
        clear hK
        obtain ⟨gX, hgXe⟩ : ∃ gX, gX = w16.heap.size := ⟨_, rfl⟩
        have hqAw19 : (w16.alloc (.cells #[.int .i64 0, .int .i64 0, .slice none 0 0, .slice none 0 0] 79)).heap[gX]? = some (.cells #[.int .i64 0, .int .i64 0, .slice none 0 0, .slice none 0 0] 79) := by rw [hgXe]; exact hst_new _ _
        have hbw19 : Below w16.heap.size w16 (w16.alloc (.cells #[.int .i64 0, .int .i64 0, .slice none 0 0, .slice none 0 0] 79)) := (Below.refl _ _).alloc (Nat.le_refl _) _
        have hlAw19 : gX < (w16.alloc (.cells #[.int .i64 0, .int .i64 0, .slice none 0 0, .slice none 0 0] 79)).heap.size := by rw [hgXe]; simp
        have hszw19 := hbw19.size
        have hszSw16 := hSw16.size
        have hqMw19 := hqMw16.kept hbw19
        have hgrw16a := hqMw16.1
        rw [← hgXe]
        have hgX1 : w16.heap.size ≤ gX := by omega
        have hgX2 : gX ≤ w16.heap.size := by omega
        clear hgXe
        generalize w16.alloc (.cells #[.int .i64 0, .int .i64 0, .slice none 0 0, .slice none 0 0] 79) = w19 at *
        refine wpAnyH_ready (rs := [1]) (by kernel_rfl) (by simp) ?_
        refine AllReadyH.cons rfl (fun K hK => ?_) AllReadyH.nil
        · rw [if_pos (by rfl)]
          go_simp
          refine (HCO.out _ (HBW.out _ hSw19)).mono ?_
          rintro e w20 ⟨⟨gh, ch, rfl, hC1, hC2, hCg, hqCw20⟩, hbw20⟩
          go_simp
          have hSw20 := HTS.out _ _ hSw19 hbw20
          have hszw20 := hbw20.size
          have hszSw19 := hSw19.size
          have hghw20 := hqCw20.1
          have hqMw20 := hqMw19.kept hbw20
          have hqAw20 : w20.heap[gX]? = some (.cells #[.int .i64 0, .int .i64 0, .slice none 0 0, .slice none 0 0] 79) := (hbw20.block gX hlAw19).trans hqAw19
          have hlAw20 : gX < w20.heap.size := Nat.lt_of_lt_of_le hlAw19 hbw20.size
          have hgrw19 := hqMw19.1
          refine hK.out _ _ hSw20 (fun hSS => ?_)
          clear hK
          refine wpAnyH_take (i := 6) (v := .agg #[.int .i64 ri, .int .i64 fa, .slice (some ⟨gh, 0, none⟩) L.length ch, .slice (some ⟨gr, 0, none⟩) L.length L.length]) rfl (by kernel_rfl) (by kernel_rfl) (by kernel_rfl) (fun _ _ _ h => (by cases h.1)) (Or.inl ⟨by rfl, ?_⟩) (by assumption) ?_
          · intro W hSW
            go_simp
          simp only [Act.put, List.getElem_toArray, List.getElem_cons_succ, List.getElem_cons_zero, List.setIfInBounds_toArray, List.set_cons_succ, List.set_cons_zero]
          refine wpAnyH_ready (rs := [8]) (by kernel_rfl) (by simp) ?_
          refine AllReadyH.cons rfl (fun K hK => ?_) AllReadyH.nil
          rw [if_pos (by rfl)]
          obtain ⟨⟨r0, r1, r2, r3⟩, ⟨f0, f1, f2, f3⟩⟩ := wat_cells hqAw20
          have hSF := put4w_below hSw20 (g := gX) (by omega) (.int .i64 ri) (.int .i64 fa) (.slice (some ⟨gh, 0, none⟩) L.length ch) (.slice (some ⟨gr, 0, none⟩) L.length L.length)
          have hF := put4w_heap (v0 := .int .i64 ri) (v1 := .int .i64 fa) (v2 := .slice (some ⟨gh, 0, none⟩) L.length ch) (v3 := .slice (some ⟨gr, 0, none⟩) L.length L.length) hqAw20
          have hqCF := put4w_far (v0 := .int .i64 ri) (v1 := .int .i64 fa) (v2 := .slice (some ⟨gh, 0, none⟩) L.length ch) (v3 := .slice (some ⟨gr, 0, none⟩) L.length L.length) hqCw20 (show gX ≠ gh by omega)
          have hqMF := put4w_farz (v0 := .int .i64 ri) (v1 := .int .i64 fa) (v2 := .slice (some ⟨gh, 0, none⟩) L.length ch) (v3 := .slice (some ⟨gr, 0, none⟩) L.length L.length) hqMw20 (show gX ≠ gr by omega)
          go_simp
          unfold put4w at hSF hF hqCF hqMF
          refine hK.out _ _ hSF (fun hSS => ?_)
          clear hK
          refine wpAnyH_done (by kernel_rfl) ?_ _
          exact ⟨rfl, gh, ch, gr, gX, rfl, hC1, hC2, by omega, by omega, by omega, by omega, by omega, by omega, hqCF, hqMF, hF, hSF⟩
    · rw [if_pos (by rfl)]
      go_simp
      have hSw21 : Below W0.heap.size W0 (wX.alloc (.cells #[.int .i64 0, .int .i64 0, .slice none 0 0, .slice none 0 0] 79)) := hSwX.alloc hSwX.size _
      refine hK.out _ _ hSw21 (fun hSS => ?_)
      clear hK
      obtain ⟨gX, hgXe⟩ : ∃ gX, gX = wX.heap.size := ⟨_, rfl⟩
      have hqAw21 : (wX.alloc (.cells #[.int .i64 0, .int .i64 0, .slice none 0 0, .slice none 0 0] 79)).heap[gX]? = some (.cells #[.int .i64 0, .int .i64 0, .slice none 0 0, .slice none 0 0] 79) := by rw [hgXe]; exact hst_new _ _
      have hbw21 : Below wX.heap.size wX (wX.alloc (.cells #[.int .i64 0, .int .i64 0, .slice none 0 0, .slice none 0 0] 79)) := (Below.refl _ _).alloc (Nat.le_refl _) _
      have hlAw21 : gX < (wX.alloc (.cells #[.int .i64 0, .int .i64 0, .slice none 0 0, .slice none 0 0] 79)).heap.size := by rw [hgXe]; simp
      have hszw21 := hbw21.size
      have hszSwX := hSwX.size
      rw [← hgXe]
      have hgX1 : wX.heap.size ≤ gX := by omega
      have hgX2 : gX ≤ wX.heap.size := by omega
      clear hgXe
      generalize wX.alloc (.cells #[.int .i64 0, .int .i64 0, .slice none 0 0, .slice none 0 0] 79) = w21 at *
      refine wpAnyH_ready (rs := [1, 5]) (by kernel_rfl) (by simp) ?_
      refine AllReadyH.cons rfl (fun K hK => ?_) (AllReadyH.cons rfl (fun K hK => ?_) AllReadyH.nil)
      · rw [if_pos (by rfl)]
        go_simp
        refine (HCO.out _ (HBW.out _ hSw21)).mono ?_
        rintro e w22 ⟨⟨gh, ch, rfl, hC1, hC2, hCg, hqCw22⟩, hbw22⟩
        go_simp
        have hSw22 := HTS.out _ _ hSw21 hbw22
        have hszw22 := hbw22.size
        have hszSw21 := hSw21.size
        have hghw22 := hqCw22.1
        have hqAw22 : w22.heap[gX]? = some (.cells #[.int .i64 0, .int .i64 0, .slice none 0 0, .slice none 0 0] 79) := (hbw22.block gX hlAw21).trans hqAw21
        have hlAw22 : gX < w22.heap.size := Nat.lt_of_lt_of_le hlAw21 hbw22.size
        refine hK.out _ _ hSw22 (fun hSS => ?_)
        clear hK
        refine wpAnyH_ready (rs := [5]) (by kernel_rfl) (by simp) ?_
        refine AllReadyH.cons rfl (fun K hK => ?_) AllReadyH.nil
        · rw [if_pos (by rfl)]
          obtain ⟨w23, hrunw23, ownw23, grww23⟩ := run_make_full (P := Tryd.prog) w22 w22.heap.size 77 3 i0 (.int .i64 0) 1 Tryd.underlying77 hi hz0 hz1 .i64 .i64 L.length (by rw [hz2]; omega) (by unfold maxLen; omega) (Nat.le_refl _)
          have hbw23 : Below w22.heap.size w22 w23 := (Below.refl _ _).grown grww23 (Nat.le_refl _) (fun k h => by cases h)
          have hqMw23 : ZSRow w23 w22.heap.size (zrs L.length) := made_zrs ownw23
          have hSw23 := HTS.out _ _ hSw22 hbw23
          have hszw23 := hbw23.size
          have hszSw22 := hSw22.size
          have hgrw23 := hqMw23.1
          have hqCw23 := hqCw22.kept hbw23
          have hqAw23 : w23.heap[gX]? = some (.cells #[.int .i64 0, .int .i64 0, .slice none 0 0, .slice none 0 0] 79) := (hbw23.block gX hlAw22).trans hqAw22
          have hlAw23 : gX < w23.heap.size := Nat.lt_of_lt_of_le hlAw22 hbw23.size
          have hghw22x := hqCw22.1
          go_simp
          clear ownw23 grww23
          refine hK.out _ _ hSw23 (fun hSS => ?_)
          clear hK hrunw23
          obtain ⟨gr, hgre⟩ : ∃ gr, gr = w22.heap.size := ⟨_, rfl⟩
          rw [← hgre] at hqMw23 hgrw23 ⊢
          have hgr1 : w22.heap.size ≤ gr := by omega
          have hgr2 : gr ≤ w22.heap.size := by omega
          clear hgre
          refine wpAnyH_take (i := 6) (v := .agg #[.int .i64 ri, .int .i64 fa, .slice (some ⟨gh, 0, none⟩) L.length ch, .slice (some ⟨gr, 0, none⟩) L.length L.length]) rfl (by kernel_rfl) (by kernel_rfl) (by kernel_rfl) (fun _ _ _ h => (by cases h.1)) (Or.inl ⟨by rfl, ?_⟩) (by assumption) ?_
          · intro W hSW
            go_simp
          simp only [Act.put, List.getElem_toArray, List.getElem_cons_succ, List.getElem_cons_zero, List.setIfInBounds_toArray, List.set_cons_succ, List.set_cons_zero]
          refine wpAnyH_ready (rs := [8]) (by kernel_rfl) (by simp) ?_
          refine AllReadyH.cons rfl (fun K hK => ?_) AllReadyH.nil
          rw [if_pos (by rfl)]
          obtain ⟨⟨r0, r1, r2, r3⟩, ⟨f0, f1, f2, f3⟩⟩ := wat_cells hqAw23
          have hSF := put4w_below hSw23 (g := gX) (by omega) (.int .i64 ri) (.int .i64 fa) (.slice (some ⟨gh, 0, none⟩) L.length ch) (.slice (some ⟨gr, 0, none⟩) L.length L.length)
          have hF := put4w_heap (v0 := .int .i64 ri) (v1 := .int .i64 fa) (v2 := .slice (some ⟨gh, 0, none⟩) L.length ch) (v3 := .slice (some ⟨gr, 0, none⟩) L.length L.length) hqAw23
          have hqCF := put4w_far (v0 := .int .i64 ri) (v1 := .int .i64 fa) (v2 := .slice (some ⟨gh, 0, none⟩) L.length ch) (v3 := .slice (some ⟨gr, 0, none⟩) L.length L.length) hqCw23 (show gX ≠ gh by omega)
          have hqMF := put4w_farz (v0 := .int .i64 ri) (v1 := .int .i64 fa) (v2 := .slice (some ⟨gh, 0, none⟩) L.length ch) (v3 := .slice (some ⟨gr, 0, none⟩) L.length L.length) hqMw23 (show gX ≠ gr by omega)
          go_simp
          unfold put4w at hSF hF hqCF hqMF
          refine hK.out _ _ hSF (fun hSS => ?_)
          clear hK
          refine wpAnyH_done (by kernel_rfl) ?_ _
          exact ⟨rfl, gh, ch, gr, gX, rfl, hC1, hC2, by omega, by omega, by omega, by omega, by omega, by omega, hqCF, hqMF, hF, hSF⟩
      · rw [if_pos (by rfl)]
        obtain ⟨w24, hrunw24, ownw24, grww24⟩ := run_make_full (P := Tryd.prog) w21 w21.heap.size 77 3 i0 (.int .i64 0) 1 Tryd.underlying77 hi hz0 hz1 .i64 .i64 L.length (by rw [hz2]; omega) (by unfold maxLen; omega) (Nat.le_refl _)
        have hbw24 : Below w21.heap.size w21 w24 := (Below.refl _ _).grown grww24 (Nat.le_refl _) (fun k h => by cases h)
        have hqMw24 : ZSRow w24 w21.heap.size (zrs L.length) := made_zrs ownw24
        have hSw24 := HTS.out _ _ hSw21 hbw24
        have hszw24 := hbw24.size
        have hszSw21 := hSw21.size
        have hgrw24 := hqMw24.1
        have hqAw24 : w24.heap[gX]? = some (.cells #[.int .i64 0, .int .i64 0, .slice none 0 0, .slice none 0 0] 79) := (hbw24.block gX hlAw21).trans hqAw21
        have hlAw24 : gX < w24.heap.size := Nat.lt_of_lt_of_le hlAw21 hbw24.size
        go_simp
        clear ownw24 grww24
        refine hK.out _ _ hSw24 (fun hSS => ?_)
        clear hK hrunw24
        obtain ⟨gr, hgre⟩ : ∃ gr, gr = w21.heap.size := ⟨_, rfl⟩
        rw [← hgre] at hqMw24 hgrw24 ⊢
        have hgr1 : w21.heap.size ≤ gr := by omega
        have hgr2 : gr ≤ w21.heap.size := by omega
        clear hgre
        refine wpAnyH_ready (rs := [1]) (by kernel_rfl) (by simp) ?_
        refine AllReadyH.cons rfl (fun K hK => ?_) AllReadyH.nil
        · rw [if_pos (by rfl)]
          go_simp
          refine (HCO.out _ (HBW.out _ hSw24)).mono ?_
          rintro e w25 ⟨⟨gh, ch, rfl, hC1, hC2, hCg, hqCw25⟩, hbw25⟩
          go_simp
          have hSw25 := HTS.out _ _ hSw24 hbw25
          have hszw25 := hbw25.size
          have hszSw24 := hSw24.size
          have hghw25 := hqCw25.1
          have hqMw25 := hqMw24.kept hbw25
          have hqAw25 : w25.heap[gX]? = some (.cells #[.int .i64 0, .int .i64 0, .slice none 0 0, .slice none 0 0] 79) := (hbw25.block gX hlAw24).trans hqAw24
          have hlAw25 : gX < w25.heap.size := Nat.lt_of_lt_of_le hlAw24 hbw25.size
          have hgrw24 := hqMw24.1
          refine hK.out _ _ hSw25 (fun hSS => ?_)
          clear hK
          refine wpAnyH_take (i := 6) (v := .agg #[.int .i64 ri, .int .i64 fa, .slice (some ⟨gh, 0, none⟩) L.length ch, .slice (some ⟨gr, 0, none⟩) L.length L.length]) rfl (by kernel_rfl) (by kernel_rfl) (by kernel_rfl) (fun _ _ _ h => (by cases h.1)) (Or.inl ⟨by rfl, ?_⟩) (by assumption) ?_
          · intro W hSW
            go_simp
          simp only [Act.put, List.getElem_toArray, List.getElem_cons_succ, List.getElem_cons_zero, List.setIfInBounds_toArray, List.set_cons_succ, List.set_cons_zero]
          refine wpAnyH_ready (rs := [8]) (by kernel_rfl) (by simp) ?_
          refine AllReadyH.cons rfl (fun K hK => ?_) AllReadyH.nil
          rw [if_pos (by rfl)]
          obtain ⟨⟨r0, r1, r2, r3⟩, ⟨f0, f1, f2, f3⟩⟩ := wat_cells hqAw25
          have hSF := put4w_below hSw25 (g := gX) (by omega) (.int .i64 ri) (.int .i64 fa) (.slice (some ⟨gh, 0, none⟩) L.length ch) (.slice (some ⟨gr, 0, none⟩) L.length L.length)
          have hF := put4w_heap (v0 := .int .i64 ri) (v1 := .int .i64 fa) (v2 := .slice (some ⟨gh, 0, none⟩) L.length ch) (v3 := .slice (some ⟨gr, 0, none⟩) L.length L.length) hqAw25
          have hqCF := put4w_far (v0 := .int .i64 ri) (v1 := .int .i64 fa) (v2 := .slice (some ⟨gh, 0, none⟩) L.length ch) (v3 := .slice (some ⟨gr, 0, none⟩) L.length L.length) hqCw25 (show gX ≠ gh by omega)
          have hqMF := put4w_farz (v0 := .int .i64 ri) (v1 := .int .i64 fa) (v2 := .slice (some ⟨gh, 0, none⟩) L.length ch) (v3 := .slice (some ⟨gr, 0, none⟩) L.length L.length) hqMw25 (show gX ≠ gr by omega)
          go_simp
          unfold put4w at hSF hF hqCF hqMF
          refine hK.out _ _ hSF (fun hSS => ?_)
          clear hK
          refine wpAnyH_done (by kernel_rfl) ?_ _
          exact ⟨rfl, gh, ch, gr, gX, rfl, hC1, hC2, by omega, by omega, by omega, by omega, by omega, by omega, hqCF, hqMF, hF, hSF⟩
  · rintro e a W ⟨rfl, gh, ch, gr, gX, rfl, hC1, hC2, hgh, hgr, hgX, hne, hXh, hXr, hqC, hqM, hqA, hS⟩
    obtain ⟨hx1, hx2⟩ := HX.out W hS
    have HX1 : Hid (W.heap[w.heap.size]? = some (.cells #[.int .i64 ri, .int .i64 fa, .slice va L.length vc] 26)) := hx1
    have HX2 : Hid (W.heap[w.heap.size + 1]? = some (.cells #[.int .i64 0, .int .i64 0, .slice none 0 0, .slice none 0 0] 79)) := hx2
    have HXA : Hid (W.heap[gX]? = some (.cells #[.int .i64 ri, .int .i64 fa, .slice (some ⟨gh, 0, none⟩) L.length ch, .slice (some ⟨gr, 0, none⟩) L.length L.length] 79)) := hqA
    have HQC : Hid (HoRow W gh L) := hqC
    have HQM : Hid (ZSRow W gr (partZ (rwL L) 0)) := by
      have h : partZ (rwL L) 0 = zrs L.length := by simp [partZ, zrs, rwL_length]
      rw [h]; exact hqM
    have hbW : Below w.heap.size w W := HBW.out W hS
    obtain ⟨⟨c0, c1, c2⟩, _⟩ := hst_cells hx1
    clear hx1 hx2 hqC hqM hqA hS HCO HX HXC HBW HTS HW0 hSX
    go_wp2_with fail
    go_loopw [16] (fun i wr => ∃ k : Nat, k ≤ L.length ∧ i = .int .i64 (k : Int) ∧ Hid (wr.heap[w.heap.size + 1]? = some (.cells #[.int .i64 0, .int .i64 0, .slice none 0 0, .slice none 0 0] 79)) ∧ Hid (wr.heap[gX]? = some (.cells #[.int .i64 ri, .int .i64 fa, .slice (some ⟨gh, 0, none⟩) L.length ch, .slice (some ⟨gr, 0, none⟩) L.length L.length] 79)) ∧ Hid (HoRow wr gh L) ∧ Hid (ZSRow wr gr (partZ (rwL L) k)) ∧ Below w.heap.size w wr) (fun i _ => L.length - (intOf i).toNat)
    case atStart => exact ⟨0, Nat.zero_le _, rfl, HX2, HXA, HQC, HQM, hbW⟩
    case round =>
      obtain ⟨k, hk, rfl, HY, HA, HC, HM, hb⟩ := hrel
      clear HX1 HX2 HXA HQC HQM hbW
      obtain ⟨⟨a0, a1, a2, a3⟩, _⟩ := wat_cells HA.out
      by_cases hlt : k < L.length
      · obtain ⟨b, o, ha, hbl, hcel⟩ := HROW.out (by omega)
        have hcx := (hcel k hlt).kept hb
        unfold HstAt at hcx
        obtain ⟨d0, d1, d2⟩ := hcx
        have hlr : k < (rwL L).length := by rw [rwL_length]; exact hlt
        have hlp : k < (partZ (rwL L) k).length := by rw [partZ_length _ _ (by omega)]; exact hlr
        have hrk : (rwL L)[k] = (L[k]'hlt).2.2 := by simp [rwL]
        have HSZ : Hid (∀ V, Below wr.heap.size wr V → (V.cell? ⟨gr, k, none⟩ = some (.int .i64 ((partZ (rwL L) k)[k]'hlp)) ∧ V.frozen? ⟨gr, k, none⟩ = false) ∧ ZSRow (V.setCell ⟨gr, k, none⟩ (.int .i64 (L[k]'hlt).2.2)) gr (partZ (rwL L) (k + 1))) := fun V hV => by
          have h1 := HM.out.kept hV
          have h2 := h1.set k hlp (L[k]'hlt).2.2
          rw [← hrk, ← partZ_next _ _ hlr] at h2
          rw [← hrk]
          exact ⟨h1.2 k hlp, h2⟩
        have hA1 : gX < wr.heap.size := (Array.getElem?_eq_some_iff.1 HA.out).1
        have hY1 : w.heap.size + 1 < wr.heap.size := (Array.getElem?_eq_some_iff.1 HY.out).1
        obtain ⟨x, hxe⟩ : ∃ x, x = L[k]'hlt := ⟨_, rfl⟩
        rw [← hxe] at d0 d1 d2 HSZ
        obtain ⟨xn, up, r⟩ := x
        simp only at d0 d1 d2 HSZ
        obtain ⟨V, hV⟩ : ∃ V, V = wr.alloc (.cells #[.string ⟨xn.toArray⟩, .bool up, .int .i64 r] 68) := ⟨_, rfl⟩
        have hbV : Below wr.heap.size wr V := by rw [hV]; exact (Below.refl _ _).alloc (Nat.le_refl _) _
        have hn := hst_new wr (.cells #[.string ⟨xn.toArray⟩, .bool up, .int .i64 r] 68)
        rw [← hV] at hn
        obtain ⟨⟨e0, e1, e2⟩, _⟩ := hst_cells hn
        obtain ⟨⟨g0, g1, g2, g3⟩, _⟩ := wat_cells ((hbV.block gX hA1).trans HA.out)
        obtain ⟨⟨s0, s1⟩, hsz⟩ := HSZ.out V hbV
        obtain ⟨y, hy⟩ : ∃ y, y = (partZ (rwL L) k)[k]'hlp := ⟨_, rfl⟩
        rw [← hy] at s0
        have HM2 : Hid (ZSRow (V.setCell ⟨gr, k, none⟩ (.int .i64 r)) gr (partZ (rwL L) (k + 1))) := hsz
        have HY2 : Hid ((V.setCell ⟨gr, k, none⟩ (.int .i64 r)).heap[w.heap.size + 1]? = some (.cells #[.int .i64 0, .int .i64 0, .slice none 0 0, .slice none 0 0] 79)) := by rw [heap_setCell_other _ _ _ _ (show w.heap.size + 1 ≠ gr by omega)]; exact (hbV.block _ hY1).trans HY.out
        have HA2 : Hid ((V.setCell ⟨gr, k, none⟩ (.int .i64 r)).heap[gX]? = some (.cells #[.int .i64 ri, .int .i64 fa, .slice (some ⟨gh, 0, none⟩) L.length ch, .slice (some ⟨gr, 0, none⟩) L.length L.length] 79)) := by rw [heap_setCell_other _ _ _ _ hXr]; exact (hbV.block _ hA1).trans HA.out
        have HC2 : Hid (HoRow (V.setCell ⟨gr, k, none⟩ (.int .i64 r)) gh L) := (HC.out.kept hbV).far hne _
        have hb2 : Below w.heap.size w (V.setCell ⟨gr, k, none⟩ (.int .i64 r)) := (hb.trans (hbV.mono hb.size)).setCell (p := ⟨gr, k, none⟩) (by show w.heap.size ≤ gr; omega) _
        have HVV : Hid (wr.alloc (.cells #[.string ⟨xn.toArray⟩, .bool up, .int .i64 r] 68) = V) := hV.symm
        rw [ha]
        clear hcel hxe hV hn hy hsz HSZ HY HA HC HM hbV hrk hlp hlr
        go_wp2_with (rw [HVV.out])
        go_roundw
        case rel => exact ⟨k + 1, by omega, by go_num, HY2, HA2, HC2, HM2, hb2⟩
        case measure => simp [intOf]; omega
      · have HF : Hid (ZSRow wr gr (rwL L)) := by
          have h := HM.out
          rw [show k = (rwL L).length by rw [rwL_length]; omega, partZ_end] at h
          exact h
        obtain ⟨⟨y0, y1, y2, y3⟩, ⟨z0, z1, z2, z3⟩⟩ := wat_cells HY.out
        have HCC : Hid (L.length ≤ ch ∧ ch ≤ maxLen) := ⟨hC1, hC2⟩
        go_wp2_with fail
        (try simp only [Exit.inBlock, Exit.then])
        refine bodyPost_ret (results_cell_row rfl _ _ (w.heap.size + 1) 79 #[.int .i64 ri, .int .i64 fa, .slice (some ⟨gh, 0, none⟩) L.length ch, .slice (some ⟨gr, 0, none⟩) L.length L.length] (0, 0) _ rfl ?_ Tryd.underlying79 rfl (by kernel_rfl)) rfl ⟨⟨gh, gr, ch, rfl, HCC.out.1, HCC.out.2, by omega, by omega, hne, ?_, ?_⟩, ?_⟩
        · exact put4w_heap HY.out
        · exact put4w_far HC.out (by omega)
        · exact put4w_farz HF.out (by omega)
        · exact put4w_below hb (by omega) _ _ _ _
end Go.Proofs.YtoopfmebpjojiaaDoor
