import Derived.Test.YtacmipcjhbkdcaaZ16
import Derived.Test.YtacmipcjhbkdcaaZ18
import Derived.Test.YtacmipcjhbkdcaaZ17
import Derived.Deep.RegionHeld3
namespace Go.Proofs.Ytacmipcjhbkdcaa.stepChain
open Go.RowKit

theorem one_cellF {W : World} {b : Nat} {v0 : Value} {t : TypeId} (h : W.heap[b]? = some (.cells #[v0] t)) : W.cell? ⟨b, 0, none⟩ = some v0 ∧ W.frozen? ⟨b, 0, none⟩ = false := by
  unfold World.cell? World.frozen?
  rw [h]; exact ⟨rfl, by simp⟩
theorem stp_cells {W : World} {b : Nat} {v0 v1 v2 : Value} {t : TypeId} (h : W.heap[b]? = some (.cells #[v0, v1, v2] t)) : W.cell? ⟨b, 0, none⟩ = some v0 ∧ W.cell? ⟨b, 1, none⟩ = some v1 ∧ W.cell? ⟨b, 2, none⟩ = some v2 := by
  unfold World.cell?
  rw [h]; exact ⟨rfl, rfl, rfl⟩
theorem sum_leC {α : Type} (f : α → Nat) (c : Nat) : ∀ L : List α, (∀ x ∈ L, f x ≤ c) → (L.map f).sum ≤ L.length * c
  | [], _ => by simp
  | x :: r, h => by
    have h1 := sum_leC f c r (fun y hy => h y (List.mem_cons_of_mem _ hy))
    have h2 := h x List.mem_cons_self
    rw [List.map_cons, List.sum_cons, List.length_cons, Nat.add_mul]
    omega
theorem good_small {L : List LkT} (h : chB L = true) : L.length ≤ 1048576 ∧ (∀ x ∈ L, x.1.length ≤ 1048576) ∧ L.length + wtK L ≤ 4000000 := by
  have h6 := chB_len h
  have key : ∀ x ∈ L, x.1.length ≤ 40 ∧ wtK1 x ≤ 840 := fun x hx => by
    obtain ⟨j, hj, rfl⟩ := List.getElem_of_mem hx
    have h1 := chB_log h hj
    have h2 := logB_len h1
    have h3 := sum_leC List.length 20 (L[j]'hj).1 (logB_text h1)
    refine ⟨h2, ?_⟩
    unfold wtK1 wtP
    omega
  have hs := sum_leC wtK1 840 L (fun x hx => (key x hx).2)
  refine ⟨by omega, fun x hx => by have := (key x hx).1; omega, ?_⟩
  unfold wtK
  omega
theorem schL_small (L : List LkT) (kd k : Int) (s : List UInt8) : (schL L (kd, k, s)).length ≤ 1048576 ∧ (∀ x ∈ schL L (kd, k, s), x.1.length ≤ 1048576) ∧ (schL L (kd, k, s)).length + wtK (schL L (kd, k, s)) ≤ 4000000 := by
  unfold schL
  split
  · rename_i h
    unfold schB at h
    simp only [Bool.and_eq_true] at h
    exact good_small (step_good h.1)
  · simp [wtK]

set_option maxRecDepth 20000 in
set_option maxHeartbeats 32000000 in
theorem core (va : Value) (L : List LkT) (kd k : Int) (s : List UInt8) (ok : Bool) (M : List LkT) (w : World) (ha : LkRow w va L) (hxa : Hid (∀ x ∈ L, KFit x)) (hs : s.length ≤ maxLen)
    (HSMM : Hid (M.length ≤ 1048576 ∧ (∀ x ∈ M, x.1.length ≤ 1048576) ∧ M.length + wtK M ≤ 4000000))
    (HS0 : Hid (∀ v W, LkRow W v L → Calls Try.prog 7 #[ChV v, .agg #[.int .i64 kd, .int .i64 k, .string ⟨s.toArray⟩]] W fun e w' => ChAns w' W.heap.size ok M e ∧ Below W.heap.size W w'))
    (HI0 : Hid (∀ v W, LkRow W v L → Calls Try.prog 10 #[ChV v, .agg #[.int .i64 kd, .int .i64 k, .string ⟨s.toArray⟩]] W fun e w' => ChAns w' W.heap.size ok M e ∧ Below W.heap.size W w')) :
    Calls Try.prog 3 #[ChV va, .agg #[.int .i64 kd, .int .i64 k, .string ⟨s.toArray⟩]] w fun e w' => e = .returned (.bool true) ∧ Below w.heap.size w w' := by
  obtain ⟨aa, ca, hva, _, hca, _⟩ := id ha
  have HSZ : Hid (∀ W, Below w.heap.size w W → Calls Try.prog 5 #[ChV va, .int .i64 1048576] W fun e w' => (∃ q : Int, e = .returned (.int .i64 q) ∧ (q = -1 ∨ (0 ≤ q ∧ q = 1048576 - (L.length : Int) - (wtK L : Int)))) ∧ Below W.heap.size W w') := fun W hW => szChain_any va L 1048576 W (ha.kept hW) hxa (by omega) (by omega)
  have HS2 : Hid (∀ q W, 0 ≤ q → q ≤ 1048576 → Calls Try.prog 6 #[.agg #[.int .i64 kd, .int .i64 k, .string ⟨s.toArray⟩], .int .i64 q] W fun e w' => (∃ p : Int, e = .returned (.int .i64 p) ∧ (p = -1 ∨ (0 ≤ p ∧ p = q - (s.length : Int)))) ∧ Below W.heap.size W w') := fun q W h1 h2 => szStep_any kd k s q W hs h1 h2
  have HTO0 : Hid (L.length ≤ 1048576 → Hid (∀ x ∈ L, KBig x) → ∀ W, Below w.heap.size w W → Calls Try.prog 8 #[ChV va] W fun e w' => (∃ g D, e = .returned (ChV (.slice (some ⟨g, 0, none⟩) L.length L.length)) ∧ W.heap.size ≤ g ∧ D.map (fun x : LkT × Value => x.1) = L ∧ LBld w' W.heap.size (.slice (some ⟨g, 0, none⟩) L.length L.length) D) ∧ Below W.heap.size W w') := fun h1 h2 W hW => toChain_any va L W (ha.kept hW) h1 h2
  have HTP : Hid (∀ W, Calls Try.prog 9 #[.agg #[.int .i64 kd, .int .i64 k, .string ⟨s.toArray⟩]] W fun e w' => e = .returned (.agg #[.int .i64 kd, .int .i64 k, .string ⟨s.toArray⟩]) ∧ Below W.heap.size W w') := fun W => toStep_any kd k s W
  subst hva
  clear ha
  unfold ChV at HSZ HTO0 ⊢
  obtain ⟨W0, hW0⟩ : ∃ W0, W0 = (w.alloc (.cells #[.slice aa L.length ca] 24)).alloc (.cells #[.int .i64 kd, .int .i64 k, .string ⟨s.toArray⟩] 26) := ⟨_, rfl⟩
  have hb0 : Below w.heap.size w W0 := by rw [hW0]; exact ((Below.refl w.heap.size w).alloc (Nat.le_refl _) _).alloc (by simp) _
  have hs1 : (w.alloc (.cells #[.slice aa L.length ca] 24)).heap.size = w.heap.size + 1 := by simp
  have hz0 : W0.heap.size = w.heap.size + 1 + 1 := by rw [hW0]; simp
  have HX : Hid (∀ W, Below W0.heap.size W0 W → W.heap[w.heap.size]? = some (.cells #[.slice aa L.length ca] 24) ∧ W.heap[w.heap.size + 1]? = some (.cells #[.int .i64 kd, .int .i64 k, .string ⟨s.toArray⟩] 26)) := fun W hW => by
    refine ⟨(hW.block _ (by omega)).trans ?_, (hW.block _ (by omega)).trans ?_⟩
    · rw [hW0, heap_alloc_old _ _ (by omega)]; exact heap_alloc_new _ _
    · rw [hW0, ← hs1]; exact heap_alloc_new _ _
  have HW0 : Hid ((w.alloc (.cells #[.slice aa L.length ca] 24)).alloc (.cells #[.int .i64 kd, .int .i64 k, .string ⟨s.toArray⟩] 26) = W0) := hW0.symm
  have HB0 : Hid (W0.heap[w.heap.size + 1]? = some (.cells #[.int .i64 kd, .int .i64 k, .string ⟨s.toArray⟩] 26)) := (HX.out W0 (Below.refl _ _)).2
  clear hW0 hs1
  go_enter Try.func3, Try.ntmps3
  go_wp2_with fail
  rw [HW0.out]
  refine (HSZ.out _ hb0).mono ?_
  rintro e w1' ⟨⟨q, rfl, hq⟩, hb1'⟩
  have hbww1' : Below w.heap.size w w1' := hb0.trans (hb1'.mono hb0.size)
  rcases hq with rfl | ⟨hq0, hqe⟩
  · go_wp2_with fail
    go_ret
    exact ⟨rfl, hbww1'⟩
  have hzz1' := hb1'.size
  have HQE : Hid (q = 1048576 - (L.length : Int) - (wtK L : Int)) := hqe
  have hqle : q ≤ 1048576 := by omega
  clear hqe
  obtain ⟨y0, y1, y2⟩ := stp_cells ((hb1'.block (w.heap.size + 1) (by omega)).trans HB0.out)
  go_wp2_with fail
  refine (HS2.out q _ hq0 hqle).mono ?_
  rintro e w1 ⟨⟨q2, rfl, hq2⟩, hb2⟩
  clear y0 y1 y2 HB0
  have hbww1 : Below w.heap.size w w1 := hbww1'.trans (hb2.mono hbww1'.size)
  have hb1 : Below W0.heap.size W0 w1 := hb1'.trans (hb2.mono hb1'.size)
  clear hbww1' hb1' hb2 hzz1'
  rcases hq2 with rfl | ⟨hq20, hq2e⟩
  · go_wp2_with fail
    go_ret
    exact ⟨rfl, hbww1⟩
  · have hqe := HQE.out
    have hsz := sz_chain hq0 hqe
    have HL2' : Hid (∀ x ∈ L, KBig x) := hsz.2
    have hLW := hsz.1
    have hL : L.length ≤ 1048576 := by omega
    have HSML : Hid (L.length ≤ 1048576 ∧ (∀ x ∈ L, x.1.length ≤ 1048576) ∧ L.length + wtK L ≤ 4000000) := ⟨hL, fun x hx => (HL2'.out x hx).1, by omega⟩
    have HTO : Hid (∀ W, Below w.heap.size w W → Calls Try.prog 8 #[.agg #[.slice aa L.length ca]] W fun e w' => (∃ g D, e = .returned (.agg #[.slice (some ⟨g, 0, none⟩) L.length L.length]) ∧ W.heap.size ≤ g ∧ D.map (fun x : LkT × Value => x.1) = L ∧ LBld w' W.heap.size (.slice (some ⟨g, 0, none⟩) L.length L.length) D) ∧ Below W.heap.size W w') := HTO0.out hL HL2'
    have HRW : Hid (∀ W base v D, LBld W base v D → D.map (fun x : LkT × Value => x.1) = L → LkRow W v L) := fun W base v D h e => by have h1 := h.row; rw [e] at h1; exact h1
    have HSP : Hid (∀ v base D W, LBld W base v D → D.map (fun x : LkT × Value => x.1) = L → Calls Try.prog 7 #[ChV v, .agg #[.int .i64 kd, .int .i64 k, .string ⟨s.toArray⟩]] W fun e w' => ChAns w' W.heap.size ok M e ∧ Below W.heap.size W w') := fun v base D W h e => HS0.out v W (HRW.out _ _ _ _ h e)
    have HI : Hid (∀ v base D W, LBld W base v D → D.map (fun x : LkT × Value => x.1) = L → Calls Try.prog 10 #[ChV v, .agg #[.int .i64 kd, .int .i64 k, .string ⟨s.toArray⟩]] W fun e w' => ChAns w' W.heap.size ok M e ∧ Below W.heap.size W w') := fun v base D W h e => HI0.out v W (HRW.out _ _ _ _ h e)
    have HEQ : Hid (∀ v1 v2 b1 b2 D1 D2 W, LBld W b1 v1 D1 → LBld W b2 v2 D2 → D1.map (fun x : LkT × Value => x.1) = M → D2.map (fun x : LkT × Value => x.1) = M → Calls Try.prog 11 #[.agg #[v1], .agg #[v2]] W fun e w' => e = .returned (.bool true) ∧ Below W.heap.size W w') := fun v1 v2 b1 b2 D1 D2 W h1 h2 e1 e2 => eqChain_same v1 v2 M W (by rw [← e1]; exact h1.row) (by rw [← e2]; exact h2.row)
    have HEX : Hid (∀ v1 v2 b1 b2 D1 D2 W, LBld W b1 v1 D1 → LBld W b2 v2 D2 → D1.map (fun x : LkT × Value => x.1) = L → D2.map (fun x : LkT × Value => x.1) = L → Calls Try.prog 11 #[.agg #[v1], .agg #[v2]] W fun e w' => e = .returned (.bool true) ∧ Below W.heap.size W w') := fun v1 v2 b1 b2 D1 D2 W h1 h2 e1 e2 => eqChain_same v1 v2 L W (HRW.out _ _ _ _ h1 e1) (HRW.out _ _ _ _ h2 e2)
    have HMX : Hid (∀ v D base W, LBld W base v D → D.map (fun x : LkT × Value => x.1) = L → Calls Try.prog 12 #[.agg #[v], .int .i64 1] W fun e w' => e = .returned (.int .i64 (((1 + totL L : Nat)) : Int)) ∧ Kpt W w' (inK v D)) := fun v D base W h e => (markCh_any v D base L W h e HSML.out).mono fun e w' h2 => ⟨h2.1, h2.2.2⟩
    have HMK : Hid (∀ v D base W, LBld W base v D → D.map (fun x : LkT × Value => x.1) = M → Calls Try.prog 12 #[.agg #[v], .int .i64 1] W fun e w' => e = .returned (.int .i64 (((1 + totL M : Nat)) : Int)) ∧ LBld w' base v (markD 1 D) ∧ Kpt W w' (inK v D)) := fun v D base W h e => markCh_any v D base M W h e HSMM.out
    have HHD : Hid (∀ v D base W, LBld W base v (markD 1 D) → D.map (fun x : LkT × Value => x.1) = M → Calls Try.prog 13 #[.agg #[v], .int .i64 1] W fun e w' => e = .returned (.int .i64 (((1 + totL M : Nat)) : Int)) ∧ Below W.heap.size W w') := fun v D base W h e => heldCh_any v D base M W h e HSMM.out
    obtain ⟨p, hp⟩ : ∃ p : Int, p = (((1 + totL M : Nat)) : Int) := ⟨_, rfl⟩
    rw [← hp] at HMK HHD
    obtain ⟨ps, hps⟩ : ∃ ps : Int, ps = (((1 + totL L : Nat)) : Int) := ⟨_, rfl⟩
    rw [← hps] at HMX
    have hp0 : decide (p < 0) = false := by simp; omega
    have hpp : (p != p) = false := by simp
    have hs0 : decide (ps < 0) = false := by simp; omega
    have eok : (ok != ok) = false := by simp
    unfold ChAns ChV at HSP HI
    have hzz1 := hb1.size
    clear hqle HQE hp hps hqe HS0 HI0 HTO0 HSZ HS2 hsz hq2e hLW hs
    have hargs := HX.out _ hb1
    have hzb : w.heap.size + 1 + 1 ≤ w1.heap.size := by omega
    have BH_w1 : Hid (w1.heap[w.heap.size]? = some (.cells #[.slice aa L.length ca] 24)) := hargs.1
    have BP_w1 : Hid (w1.heap[(w.heap.size + 1)]? = some (.cells #[.int .i64 kd, .int .i64 k, .string ⟨s.toArray⟩] 26)) := hargs.2
    clear hargs hb1 HX hzz1 hb0
    go_wp2_with fail
    have HXCA : Hid (∀ V, Below w1.heap.size w1 V → V.cell? ⟨w.heap.size, 0, none⟩ = some (.slice aa L.length ca) ∧ (V.cell? ⟨w.heap.size + 1, 0, none⟩ = some (.int .i64 kd) ∧ V.cell? ⟨w.heap.size + 1, 1, none⟩ = some (.int .i64 k) ∧ V.cell? ⟨w.heap.size + 1, 2, none⟩ = some (.string ⟨s.toArray⟩))) := fun V hV => ⟨(one_cellF ((hV.block w.heap.size (by omega)).trans BH_w1.out)).1, stp_cells ((hV.block (w.heap.size + 1) (by omega)).trans BP_w1.out)⟩
    have HBWA : Hid (∀ V, Below w1.heap.size w1 V → Below w.heap.size w V) := fun V hV => hbww1.trans (hV.mono hbww1.size)
    have hSXA : Below w1.heap.size w1 w1.drew := (Below.refl _ _).drew
    have HTSA : Hid (∀ W W', Below w1.heap.size w1 W → Below W.heap.size W W' → Below w1.heap.size w1 W') := fun W W' h1 h2 => h1.trans (h2.mono h1.size)
    refine Code.wp_mono (Q := fun e a W => e = Exit.normal ∧ ∃ (gA : Nat) (aA : Option Addr) (cA gXA : Nat) (DA : List (LkT × Value)), a = { tmps := #[.agg #[.slice aa L.length ca], .agg #[.int .i64 kd, .int .i64 k, .string ⟨s.toArray⟩], .pointer (some ⟨w.heap.size, 0, none⟩), .pointer (some ⟨w.heap.size + 1, 0, none⟩), .bool false, .int .i64 q2, .pointer (some ⟨gXA, 0, none⟩), .bool ok, undef, undef, undef, undef, undef, undef, undef, undef, .agg #[.slice aa L.length ca], .int .i64 1048576, .int .i64 q, .int .i64 q, .bool (decide (q < 0)), .agg #[.int .i64 kd, .int .i64 k, .string ⟨s.toArray⟩], .int .i64 q, .int .i64 q2, .int .i64 q2, .bool (decide (q2 < 0)), .tuple #[.agg #[.slice aA DA.length cA], .bool ok], .agg #[.slice aa L.length ca], .agg #[.slice (some ⟨gA, 0, none⟩) L.length L.length], .agg #[.int .i64 kd, .int .i64 k, .string ⟨s.toArray⟩], .agg #[.int .i64 kd, .int .i64 k, .string ⟨s.toArray⟩], .tuple #[.agg #[.slice aA DA.length cA], .bool ok], .agg #[.slice aA DA.length cA], .bool ok, undef, undef, undef, undef, undef, undef, undef, undef, undef, undef, undef, undef, undef, undef, undef, undef, undef, undef, undef, undef, undef, undef, undef, undef, undef, undef, undef, undef, undef, undef, undef, undef, undef, undef, undef, undef, undef, undef, undef, undef, undef, undef, undef, undef, undef, undef, undef, undef, undef, undef, undef, undef, undef, undef, undef, undef, undef, undef, undef, undef, undef, undef, undef, undef, undef, undef, undef, undef, undef, undef, undef, undef, undef, undef, undef], defers := [] } ∧ w1.heap.size ≤ gXA ∧ W.heap[gXA]? = some (.cells #[.slice aA DA.length cA] 31) ∧ LBld W w1.heap.size (.slice aA DA.length cA) DA ∧ DA.map (fun x : LkT × Value => x.1) = M ∧ (∀ j, inK (Value.slice aA DA.length cA) DA j → j ≠ gXA) ∧ Below w1.heap.size w1 W) ?_ ?_
    rotate_left
    · refine wp_region_held_drew (S := fun W : World => Below w1.heap.size w1 W) (by kernel_rfl) hSXA (fun hHeld => ?_)
      generalize w1.drew = wXA at *
      refine wpAnyH_take (i := 0) (v := .agg #[.slice aa L.length ca]) rfl (by kernel_rfl) (by kernel_rfl) (by kernel_rfl) (fun _ _ _ h => (by cases h.1)) (Or.inl ⟨by rfl, ?_⟩) (by assumption) ?_
      · intro W hSW
        obtain ⟨b0, b1, b2, b3⟩ := HXCA.out W hSW
        go_simp
      simp only [Act.put, List.getElem_toArray, List.getElem_cons_zero, List.setIfInBounds_toArray, List.set_cons_succ, List.set_cons_zero]
      refine wpAnyH_take (i := 2) (v := .agg #[.int .i64 kd, .int .i64 k, .string ⟨s.toArray⟩]) rfl (by kernel_rfl) (by kernel_rfl) (by kernel_rfl) (fun _ _ _ h => (by cases h.1)) (Or.inl ⟨by rfl, ?_⟩) (by assumption) ?_
      · intro W hSW
        obtain ⟨b0, b1, b2, b3⟩ := HXCA.out W hSW
        go_simp
      simp only [Act.put, List.getElem_toArray, List.getElem_cons_succ, List.getElem_cons_zero, List.setIfInBounds_toArray, List.set_cons_succ, List.set_cons_zero]
      have hSwXA := hSXA
      refine wpAnyH_ready (rs := [1, 8]) (by kernel_rfl) (by simp) ?_
      refine AllReadyH.cons rfl (fun K hK => ?_) (AllReadyH.cons rfl (fun K hK => ?_) AllReadyH.nil)
      · rw [if_pos (by rfl)]
        go_simp
        refine (HTO.out _ (HBWA.out _ hSwXA)).mono ?_
        rintro e v21 ⟨⟨gA, EA, rfl, _, heA, hqv21⟩, hbv21⟩
        go_simp
        have hSv21 := HTSA.out _ _ hSwXA hbv21
        have hszbv21 := hbv21.size
        have hszXwXA := hSwXA.size
        refine hK.out _ _ hSv21 (fun hSS => ?_)
        clear hK
        refine wpAnyH_ready (rs := [3, 8]) (by kernel_rfl) (by simp) ?_
        refine AllReadyH.cons rfl (fun K hK => ?_) (AllReadyH.cons rfl (fun K hK => ?_) AllReadyH.nil)
        · rw [if_pos (by rfl)]
          go_simp
          refine (HTP.out _).mono ?_
          rintro e v22 ⟨rfl, hbv22⟩
          go_simp
          have hqv22 := hqv21.kept hbv22
          have hSv22 := HTSA.out _ _ hSv21 hbv22
          have hszbv22 := hbv22.size
          have hszXv21 := hSv21.size
          refine hK.out _ _ hSv22 (fun hSS => ?_)
          clear hK
          refine wpAnyH_ready (rs := [4, 8]) (by kernel_rfl) (by simp) ?_
          refine AllReadyH.cons rfl (fun K hK => ?_) (AllReadyH.cons rfl (fun K hK => ?_) AllReadyH.nil)
          · rw [if_pos (by rfl)]
            go_simp
            refine (HSP.out _ _ _ _ hqv22 heA).mono ?_
            rintro e v23 ⟨⟨uA, DA, rfl, hdA, hov23⟩, hbv23⟩
            obtain ⟨aA, cA, huA, _, _⟩ := hov23.shape
            subst huA
            go_simp
            have hSv23 := HTSA.out _ _ hSv22 hbv23
            have hszbv23 := hbv23.size
            have hszXv22 := hSv22.size
            have hov23 := hov23.mono (show w1.heap.size ≤ v22.heap.size by omega)
            refine hK.out _ _ hSv23 (fun hSS => ?_)
            clear hK
            refine wpAnyH_take (i := 5) (v := .tuple #[.agg #[.slice aA DA.length cA], .bool ok]) rfl (by kernel_rfl) (by kernel_rfl) (by kernel_rfl) (fun _ _ _ h => (by cases h.1)) (Or.inl ⟨by rfl, ?_⟩) (by assumption) ?_
            · intro W hSW
              go_simp
            simp only [Act.put, List.getElem_toArray, List.getElem_cons_succ, List.getElem_cons_zero, List.setIfInBounds_toArray, List.set_cons_succ, List.set_cons_zero]
            refine wpAnyH_take (i := 6) (v := .agg #[.slice aA DA.length cA]) rfl (by kernel_rfl) (by kernel_rfl) (by kernel_rfl) (fun _ _ _ h => (by cases h.1)) (Or.inl ⟨by rfl, ?_⟩) (by assumption) ?_
            · intro W hSW
              go_simp
            simp only [Act.put, List.getElem_toArray, List.getElem_cons_succ, List.getElem_cons_zero, List.setIfInBounds_toArray, List.set_cons_succ, List.set_cons_zero]
            refine wpAnyH_take (i := 7) (v := .bool ok) rfl (by kernel_rfl) (by kernel_rfl) (by kernel_rfl) (fun _ _ _ h => (by cases h.1)) (Or.inl ⟨by rfl, ?_⟩) (by assumption) ?_
            · intro W hSW
              go_simp
            simp only [Act.put, List.getElem_toArray, List.getElem_cons_succ, List.getElem_cons_zero, List.setIfInBounds_toArray, List.set_cons_succ, List.set_cons_zero]
            refine wpAnyH_ready (rs := [8]) (by kernel_rfl) (by simp) ?_
            refine AllReadyH.cons rfl (fun K hK => ?_) AllReadyH.nil
            rw [if_pos (by rfl)]
            go_simp
            have hSA : Below w1.heap.size w1 (v23.alloc (.cells #[.slice none 0 0] 31)) := hSv23.alloc hSv23.size _
            refine hK.out _ _ hSA (fun hSS => ?_)
            clear hK
            refine wpAnyH_ready (rs := [9]) (by kernel_rfl) (by simp) ?_
            refine AllReadyH.cons rfl (fun K hK => ?_) AllReadyH.nil
            rw [if_pos (by rfl)]
            have hSF : Below w1.heap.size w1 (v23.alloc (.cells #[.slice aA DA.length cA] 31)) := hSv23.alloc hSv23.size _
            have hbF : Below v23.heap.size v23 (v23.alloc (.cells #[.slice aA DA.length cA] 31)) := (Below.refl _ _).alloc (Nat.le_refl _) _
            have hF : (v23.alloc (.cells #[.slice aA DA.length cA] 31)).heap[v23.heap.size]? = some (.cells #[.slice aA DA.length cA] 31) := heap_alloc_new _ _
            have hOF := hov23.kept hbF
            have hneF : ∀ j, inK (Value.slice aA DA.length cA) DA j → j ≠ v23.heap.size := fun j hj => by have := (hov23.inlt j hj).2; omega
            have hszF := hSv23.size
            go_simp
            refine hK.out _ _ hSF (fun hSS => ?_)
            clear hK
            refine wpAnyH_take (i := 10) (v := .bool ok) rfl (by kernel_rfl) (by kernel_rfl) (by kernel_rfl) (fun _ _ _ h => (by cases h.1)) (Or.inl ⟨by rfl, ?_⟩) (by assumption) ?_
            · intro W hSW
              go_simp
            simp only [Act.put, List.getElem_toArray, List.getElem_cons_succ, List.getElem_cons_zero, List.setIfInBounds_toArray, List.set_cons_succ, List.set_cons_zero]
            refine wpAnyH_done (by kernel_rfl) ?_ _
            exact ⟨rfl, gA, aA, cA, v23.heap.size, DA, rfl, by omega, hF, hOF, hdA, hneF, hSF⟩
          · rw [if_pos (by rfl)]
            go_simp
            have hSv24 : Below w1.heap.size w1 (v22.alloc (.cells #[.slice none 0 0] 31)) := hSv22.alloc hSv22.size _
            refine hK.out _ _ hSv24 (fun hSS => ?_)
            clear hK
            obtain ⟨gXA, hgXe⟩ : ∃ g, g = v22.heap.size := ⟨_, rfl⟩
            have hqAv24 : (v22.alloc (.cells #[.slice none 0 0] 31)).heap[gXA]? = some (.cells #[.slice none 0 0] 31) := by rw [hgXe]; exact heap_alloc_new _ _
            have hbv24 : Below v22.heap.size v22 (v22.alloc (.cells #[.slice none 0 0] 31)) := (Below.refl _ _).alloc (Nat.le_refl _) _
            have hlAv24 : gXA < (v22.alloc (.cells #[.slice none 0 0] 31)).heap.size := by rw [hgXe]; simp
            have hszSv22 := hSv22.size
            have hqv24 := hqv22.kept hbv24
            rw [← hgXe]
            have hgX1 : v22.heap.size ≤ gXA := by omega
            clear hgXe
            generalize v22.alloc (.cells #[.slice none 0 0] 31) = v24 at *
            refine wpAnyH_ready (rs := [4]) (by kernel_rfl) (by simp) ?_
            refine AllReadyH.cons rfl (fun K hK => ?_) AllReadyH.nil
            · rw [if_pos (by rfl)]
              go_simp
              refine (HSP.out _ _ _ _ hqv24 heA).mono ?_
              rintro e v25 ⟨⟨uA, DA, rfl, hdA, hov25⟩, hbv25⟩
              obtain ⟨aA, cA, huA, _, _⟩ := hov25.shape
              subst huA
              go_simp
              have hSv25 := HTSA.out _ _ hSv24 hbv25
              have hszbv25 := hbv25.size
              have hszXv24 := hSv24.size
              have hqAv25 : v25.heap[gXA]? = some (.cells #[.slice none 0 0] 31) := (hbv25.block gXA hlAv24).trans hqAv24
              have hlAv25 : gXA < v25.heap.size := Nat.lt_of_lt_of_le hlAv24 hbv25.size
              have hneA : ∀ j, inK (Value.slice aA DA.length cA) DA j → j ≠ gXA := fun j hj => by have := (hov25.inlt j hj).1; omega
              have hov25 := hov25.mono (show w1.heap.size ≤ v24.heap.size by omega)
              refine hK.out _ _ hSv25 (fun hSS => ?_)
              clear hK
              refine wpAnyH_take (i := 5) (v := .tuple #[.agg #[.slice aA DA.length cA], .bool ok]) rfl (by kernel_rfl) (by kernel_rfl) (by kernel_rfl) (fun _ _ _ h => (by cases h.1)) (Or.inl ⟨by rfl, ?_⟩) (by assumption) ?_
              · intro W hSW
                go_simp
              simp only [Act.put, List.getElem_toArray, List.getElem_cons_succ, List.getElem_cons_zero, List.setIfInBounds_toArray, List.set_cons_succ, List.set_cons_zero]
              refine wpAnyH_take (i := 6) (v := .agg #[.slice aA DA.length cA]) rfl (by kernel_rfl) (by kernel_rfl) (by kernel_rfl) (fun _ _ _ h => (by cases h.1)) (Or.inl ⟨by rfl, ?_⟩) (by assumption) ?_
              · intro W hSW
                go_simp
              simp only [Act.put, List.getElem_toArray, List.getElem_cons_succ, List.getElem_cons_zero, List.setIfInBounds_toArray, List.set_cons_succ, List.set_cons_zero]
              refine wpAnyH_take (i := 7) (v := .bool ok) rfl (by kernel_rfl) (by kernel_rfl) (by kernel_rfl) (fun _ _ _ h => (by cases h.1)) (Or.inl ⟨by rfl, ?_⟩) (by assumption) ?_
              · intro W hSW
                go_simp
              simp only [Act.put, List.getElem_toArray, List.getElem_cons_succ, List.getElem_cons_zero, List.setIfInBounds_toArray, List.set_cons_succ, List.set_cons_zero]
              refine wpAnyH_ready (rs := [9]) (by kernel_rfl) (by simp) ?_
              refine AllReadyH.cons rfl (fun K hK => ?_) AllReadyH.nil
              rw [if_pos (by rfl)]
              obtain ⟨r0, f0⟩ := one_cellF hqAv25
              have hSF : Below w1.heap.size w1 (v25.setCell ⟨gXA, 0, none⟩ (.slice aA DA.length cA)) := hSv25.setCell (p := ⟨gXA, 0, none⟩) (by show w1.heap.size ≤ gXA; omega) _
              have hF : (v25.setCell ⟨gXA, 0, none⟩ (.slice aA DA.length cA)).heap[gXA]? = some (.cells #[.slice aA DA.length cA] 31) := put1_heap hqAv25
              have hOF := LBld.kpt1 (S := fun j => j = gXA) hov25 (kpt_set _ gXA 0 (.slice aA DA.length cA) rfl) (fun j hj => hneA j hj)
              go_simp
              refine hK.out _ _ hSF (fun hSS => ?_)
              clear hK r0 f0
              refine wpAnyH_take (i := 10) (v := .bool ok) rfl (by kernel_rfl) (by kernel_rfl) (by kernel_rfl) (fun _ _ _ h => (by cases h.1)) (Or.inl ⟨by rfl, ?_⟩) (by assumption) ?_
              · intro W hSW
                go_simp
              simp only [Act.put, List.getElem_toArray, List.getElem_cons_succ, List.getElem_cons_zero, List.setIfInBounds_toArray, List.set_cons_succ, List.set_cons_zero]
              refine wpAnyH_done (by kernel_rfl) ?_ _
              exact ⟨rfl, gA, aA, cA, gXA, DA, rfl, by omega, hF, hOF, hdA, hneA, hSF⟩
        · rw [if_pos (by rfl)]
          go_simp
          have hSv26 : Below w1.heap.size w1 (v21.alloc (.cells #[.slice none 0 0] 31)) := hSv21.alloc hSv21.size _
          refine hK.out _ _ hSv26 (fun hSS => ?_)
          clear hK
          obtain ⟨gXA, hgXe⟩ : ∃ g, g = v21.heap.size := ⟨_, rfl⟩
          have hqAv26 : (v21.alloc (.cells #[.slice none 0 0] 31)).heap[gXA]? = some (.cells #[.slice none 0 0] 31) := by rw [hgXe]; exact heap_alloc_new _ _
          have hbv26 : Below v21.heap.size v21 (v21.alloc (.cells #[.slice none 0 0] 31)) := (Below.refl _ _).alloc (Nat.le_refl _) _
          have hlAv26 : gXA < (v21.alloc (.cells #[.slice none 0 0] 31)).heap.size := by rw [hgXe]; simp
          have hszSv21 := hSv21.size
          have hqv26 := hqv21.kept hbv26
          rw [← hgXe]
          have hgX1 : v21.heap.size ≤ gXA := by omega
          clear hgXe
          generalize v21.alloc (.cells #[.slice none 0 0] 31) = v26 at *
          refine wpAnyH_ready (rs := [3]) (by kernel_rfl) (by simp) ?_
          refine AllReadyH.cons rfl (fun K hK => ?_) AllReadyH.nil
          · rw [if_pos (by rfl)]
            go_simp
            refine (HTP.out _).mono ?_
            rintro e v27 ⟨rfl, hbv27⟩
            go_simp
            have hqv27 := hqv26.kept hbv27
            have hSv27 := HTSA.out _ _ hSv26 hbv27
            have hszbv27 := hbv27.size
            have hszXv26 := hSv26.size
            have hqAv27 : v27.heap[gXA]? = some (.cells #[.slice none 0 0] 31) := (hbv27.block gXA hlAv26).trans hqAv26
            have hlAv27 : gXA < v27.heap.size := Nat.lt_of_lt_of_le hlAv26 hbv27.size
            refine hK.out _ _ hSv27 (fun hSS => ?_)
            clear hK
            refine wpAnyH_ready (rs := [4]) (by kernel_rfl) (by simp) ?_
            refine AllReadyH.cons rfl (fun K hK => ?_) AllReadyH.nil
            · rw [if_pos (by rfl)]
              go_simp
              refine (HSP.out _ _ _ _ hqv27 heA).mono ?_
              rintro e v28 ⟨⟨uA, DA, rfl, hdA, hov28⟩, hbv28⟩
              obtain ⟨aA, cA, huA, _, _⟩ := hov28.shape
              subst huA
              go_simp
              have hSv28 := HTSA.out _ _ hSv27 hbv28
              have hszbv28 := hbv28.size
              have hszXv27 := hSv27.size
              have hqAv28 : v28.heap[gXA]? = some (.cells #[.slice none 0 0] 31) := (hbv28.block gXA hlAv27).trans hqAv27
              have hlAv28 : gXA < v28.heap.size := Nat.lt_of_lt_of_le hlAv27 hbv28.size
              have hneA : ∀ j, inK (Value.slice aA DA.length cA) DA j → j ≠ gXA := fun j hj => by have := (hov28.inlt j hj).1; omega
              have hov28 := hov28.mono (show w1.heap.size ≤ v27.heap.size by omega)
              refine hK.out _ _ hSv28 (fun hSS => ?_)
              clear hK
              refine wpAnyH_take (i := 5) (v := .tuple #[.agg #[.slice aA DA.length cA], .bool ok]) rfl (by kernel_rfl) (by kernel_rfl) (by kernel_rfl) (fun _ _ _ h => (by cases h.1)) (Or.inl ⟨by rfl, ?_⟩) (by assumption) ?_
              · intro W hSW
                go_simp
              simp only [Act.put, List.getElem_toArray, List.getElem_cons_succ, List.getElem_cons_zero, List.setIfInBounds_toArray, List.set_cons_succ, List.set_cons_zero]
              refine wpAnyH_take (i := 6) (v := .agg #[.slice aA DA.length cA]) rfl (by kernel_rfl) (by kernel_rfl) (by kernel_rfl) (fun _ _ _ h => (by cases h.1)) (Or.inl ⟨by rfl, ?_⟩) (by assumption) ?_
              · intro W hSW
                go_simp
              simp only [Act.put, List.getElem_toArray, List.getElem_cons_succ, List.getElem_cons_zero, List.setIfInBounds_toArray, List.set_cons_succ, List.set_cons_zero]
              refine wpAnyH_take (i := 7) (v := .bool ok) rfl (by kernel_rfl) (by kernel_rfl) (by kernel_rfl) (fun _ _ _ h => (by cases h.1)) (Or.inl ⟨by rfl, ?_⟩) (by assumption) ?_
              · intro W hSW
                go_simp
              simp only [Act.put, List.getElem_toArray, List.getElem_cons_succ, List.getElem_cons_zero, List.setIfInBounds_toArray, List.set_cons_succ, List.set_cons_zero]
              refine wpAnyH_ready (rs := [9]) (by kernel_rfl) (by simp) ?_
              refine AllReadyH.cons rfl (fun K hK => ?_) AllReadyH.nil
              rw [if_pos (by rfl)]
              obtain ⟨r0, f0⟩ := one_cellF hqAv28
              have hSF : Below w1.heap.size w1 (v28.setCell ⟨gXA, 0, none⟩ (.slice aA DA.length cA)) := hSv28.setCell (p := ⟨gXA, 0, none⟩) (by show w1.heap.size ≤ gXA; omega) _
              have hF : (v28.setCell ⟨gXA, 0, none⟩ (.slice aA DA.length cA)).heap[gXA]? = some (.cells #[.slice aA DA.length cA] 31) := put1_heap hqAv28
              have hOF := LBld.kpt1 (S := fun j => j = gXA) hov28 (kpt_set _ gXA 0 (.slice aA DA.length cA) rfl) (fun j hj => hneA j hj)
              go_simp
              refine hK.out _ _ hSF (fun hSS => ?_)
              clear hK r0 f0
              refine wpAnyH_take (i := 10) (v := .bool ok) rfl (by kernel_rfl) (by kernel_rfl) (by kernel_rfl) (fun _ _ _ h => (by cases h.1)) (Or.inl ⟨by rfl, ?_⟩) (by assumption) ?_
              · intro W hSW
                go_simp
              simp only [Act.put, List.getElem_toArray, List.getElem_cons_succ, List.getElem_cons_zero, List.setIfInBounds_toArray, List.set_cons_succ, List.set_cons_zero]
              refine wpAnyH_done (by kernel_rfl) ?_ _
              exact ⟨rfl, gA, aA, cA, gXA, DA, rfl, by omega, hF, hOF, hdA, hneA, hSF⟩
      · rw [if_pos (by rfl)]
        go_simp
        have hSv29 : Below w1.heap.size w1 (wXA.alloc (.cells #[.slice none 0 0] 31)) := hSwXA.alloc hSwXA.size _
        refine hK.out _ _ hSv29 (fun hSS => ?_)
        clear hK
        obtain ⟨gXA, hgXe⟩ : ∃ g, g = wXA.heap.size := ⟨_, rfl⟩
        have hqAv29 : (wXA.alloc (.cells #[.slice none 0 0] 31)).heap[gXA]? = some (.cells #[.slice none 0 0] 31) := by rw [hgXe]; exact heap_alloc_new _ _
        have hbv29 : Below wXA.heap.size wXA (wXA.alloc (.cells #[.slice none 0 0] 31)) := (Below.refl _ _).alloc (Nat.le_refl _) _
        have hlAv29 : gXA < (wXA.alloc (.cells #[.slice none 0 0] 31)).heap.size := by rw [hgXe]; simp
        have hszSwXA := hSwXA.size
        rw [← hgXe]
        have hgX1 : wXA.heap.size ≤ gXA := by omega
        clear hgXe
        generalize wXA.alloc (.cells #[.slice none 0 0] 31) = v29 at *
        refine wpAnyH_ready (rs := [1]) (by kernel_rfl) (by simp) ?_
        refine AllReadyH.cons rfl (fun K hK => ?_) AllReadyH.nil
        · rw [if_pos (by rfl)]
          go_simp
          refine (HTO.out _ (HBWA.out _ hSv29)).mono ?_
          rintro e v30 ⟨⟨gA, EA, rfl, _, heA, hqv30⟩, hbv30⟩
          go_simp
          have hSv30 := HTSA.out _ _ hSv29 hbv30
          have hszbv30 := hbv30.size
          have hszXv29 := hSv29.size
          have hqAv30 : v30.heap[gXA]? = some (.cells #[.slice none 0 0] 31) := (hbv30.block gXA hlAv29).trans hqAv29
          have hlAv30 : gXA < v30.heap.size := Nat.lt_of_lt_of_le hlAv29 hbv30.size
          refine hK.out _ _ hSv30 (fun hSS => ?_)
          clear hK
          refine wpAnyH_ready (rs := [3]) (by kernel_rfl) (by simp) ?_
          refine AllReadyH.cons rfl (fun K hK => ?_) AllReadyH.nil
          · rw [if_pos (by rfl)]
            go_simp
            refine (HTP.out _).mono ?_
            rintro e v31 ⟨rfl, hbv31⟩
            go_simp
            have hqv31 := hqv30.kept hbv31
            have hSv31 := HTSA.out _ _ hSv30 hbv31
            have hszbv31 := hbv31.size
            have hszXv30 := hSv30.size
            have hqAv31 : v31.heap[gXA]? = some (.cells #[.slice none 0 0] 31) := (hbv31.block gXA hlAv30).trans hqAv30
            have hlAv31 : gXA < v31.heap.size := Nat.lt_of_lt_of_le hlAv30 hbv31.size
            refine hK.out _ _ hSv31 (fun hSS => ?_)
            clear hK
            refine wpAnyH_ready (rs := [4]) (by kernel_rfl) (by simp) ?_
            refine AllReadyH.cons rfl (fun K hK => ?_) AllReadyH.nil
            · rw [if_pos (by rfl)]
              go_simp
              refine (HSP.out _ _ _ _ hqv31 heA).mono ?_
              rintro e v32 ⟨⟨uA, DA, rfl, hdA, hov32⟩, hbv32⟩
              obtain ⟨aA, cA, huA, _, _⟩ := hov32.shape
              subst huA
              go_simp
              have hSv32 := HTSA.out _ _ hSv31 hbv32
              have hszbv32 := hbv32.size
              have hszXv31 := hSv31.size
              have hqAv32 : v32.heap[gXA]? = some (.cells #[.slice none 0 0] 31) := (hbv32.block gXA hlAv31).trans hqAv31
              have hlAv32 : gXA < v32.heap.size := Nat.lt_of_lt_of_le hlAv31 hbv32.size
              have hneA : ∀ j, inK (Value.slice aA DA.length cA) DA j → j ≠ gXA := fun j hj => by have := (hov32.inlt j hj).1; omega
              have hov32 := hov32.mono (show w1.heap.size ≤ v31.heap.size by omega)
              refine hK.out _ _ hSv32 (fun hSS => ?_)
              clear hK
              refine wpAnyH_take (i := 5) (v := .tuple #[.agg #[.slice aA DA.length cA], .bool ok]) rfl (by kernel_rfl) (by kernel_rfl) (by kernel_rfl) (fun _ _ _ h => (by cases h.1)) (Or.inl ⟨by rfl, ?_⟩) (by assumption) ?_
              · intro W hSW
                go_simp
              simp only [Act.put, List.getElem_toArray, List.getElem_cons_succ, List.getElem_cons_zero, List.setIfInBounds_toArray, List.set_cons_succ, List.set_cons_zero]
              refine wpAnyH_take (i := 6) (v := .agg #[.slice aA DA.length cA]) rfl (by kernel_rfl) (by kernel_rfl) (by kernel_rfl) (fun _ _ _ h => (by cases h.1)) (Or.inl ⟨by rfl, ?_⟩) (by assumption) ?_
              · intro W hSW
                go_simp
              simp only [Act.put, List.getElem_toArray, List.getElem_cons_succ, List.getElem_cons_zero, List.setIfInBounds_toArray, List.set_cons_succ, List.set_cons_zero]
              refine wpAnyH_take (i := 7) (v := .bool ok) rfl (by kernel_rfl) (by kernel_rfl) (by kernel_rfl) (fun _ _ _ h => (by cases h.1)) (Or.inl ⟨by rfl, ?_⟩) (by assumption) ?_
              · intro W hSW
                go_simp
              simp only [Act.put, List.getElem_toArray, List.getElem_cons_succ, List.getElem_cons_zero, List.setIfInBounds_toArray, List.set_cons_succ, List.set_cons_zero]
              refine wpAnyH_ready (rs := [9]) (by kernel_rfl) (by simp) ?_
              refine AllReadyH.cons rfl (fun K hK => ?_) AllReadyH.nil
              rw [if_pos (by rfl)]
              obtain ⟨r0, f0⟩ := one_cellF hqAv32
              have hSF : Below w1.heap.size w1 (v32.setCell ⟨gXA, 0, none⟩ (.slice aA DA.length cA)) := hSv32.setCell (p := ⟨gXA, 0, none⟩) (by show w1.heap.size ≤ gXA; omega) _
              have hF : (v32.setCell ⟨gXA, 0, none⟩ (.slice aA DA.length cA)).heap[gXA]? = some (.cells #[.slice aA DA.length cA] 31) := put1_heap hqAv32
              have hOF := LBld.kpt1 (S := fun j => j = gXA) hov32 (kpt_set _ gXA 0 (.slice aA DA.length cA) rfl) (fun j hj => hneA j hj)
              go_simp
              refine hK.out _ _ hSF (fun hSS => ?_)
              clear hK r0 f0
              refine wpAnyH_take (i := 10) (v := .bool ok) rfl (by kernel_rfl) (by kernel_rfl) (by kernel_rfl) (fun _ _ _ h => (by cases h.1)) (Or.inl ⟨by rfl, ?_⟩) (by assumption) ?_
              · intro W hSW
                go_simp
              simp only [Act.put, List.getElem_toArray, List.getElem_cons_succ, List.getElem_cons_zero, List.setIfInBounds_toArray, List.set_cons_succ, List.set_cons_zero]
              refine wpAnyH_done (by kernel_rfl) ?_ _
              exact ⟨rfl, gA, aA, cA, gXA, DA, rfl, by omega, hF, hOF, hdA, hneA, hSF⟩
    · rintro e a wA ⟨rfl, gA, aA, cA, gXA, DA, rfl, hgXA, hbxA, hoA, hdA, hneA, hSA⟩
      have hlXA : gXA < wA.heap.size := (Array.getElem?_eq_some_iff.1 hbxA).1
      have HDA : Hid (DA.map (fun x : LkT × Value => x.1) = M) := hdA
      have HL1 : Hid (∀ j, inK (Value.slice aA DA.length cA) DA j → w1.heap.size ≤ j ∧ j < wA.heap.size) := fun j h => hoA.inlt j h
      have hbwwA : Below w.heap.size w wA := hbww1.trans (hSA.mono hbww1.size)
      have hzwA : w1.heap.size ≤ wA.heap.size := hSA.size
      have BH_wA : Hid (wA.heap[w.heap.size]? = some (.cells #[.slice aa L.length ca] 24)) := (hSA.block w.heap.size (by omega)).trans BH_w1.out
      have BP_wA : Hid (wA.heap[(w.heap.size + 1)]? = some (.cells #[.int .i64 kd, .int .i64 k, .string ⟨s.toArray⟩] 26)) := (hSA.block (w.heap.size + 1) (by omega)).trans BP_w1.out
      clear BH_w1 BP_w1 hSA 
      have B6_wA : Hid (wA.heap[gXA]? = some (.cells #[.slice aA DA.length cA] 31)) := hbxA
      have OA_wA : Hid (LBld wA w1.heap.size (.slice aA DA.length cA) DA) := hoA
      clear hbxA hoA hdA hneA HXCA HBWA HTSA hSXA
      have b0 := (one_cellF BH_wA.out).1
      go_wp2_with fail
      refine (HTO.out _ hbwwA).mono ?_
      rintro e w3 ⟨⟨g3, E3, rfl, hg3, he3, hq3⟩, hb3⟩
      clear b0
      have HE3 : Hid (E3.map (fun x : LkT × Value => x.1) = L) := he3
      have HQ3 : Hid (LBld w3 wA.heap.size (.slice (some ⟨g3, 0, none⟩) L.length L.length) E3) := hq3
      have HLX : Hid (∀ j, inK (Value.slice (some ⟨g3, 0, none⟩) L.length L.length) E3 j → wA.heap.size ≤ j ∧ j < w3.heap.size) := fun j h => hq3.inlt j h
      clear hq3 he3
      have hbww3 : Below w.heap.size w w3 := hbwwA.trans (hb3.mono hbwwA.size)
      have hzw3 : wA.heap.size ≤ w3.heap.size := hb3.size
      have BH_w3 : Hid (w3.heap[w.heap.size]? = some (.cells #[.slice aa L.length ca] 24)) := (hb3.block w.heap.size (by omega)).trans BH_wA.out
      have BP_w3 : Hid (w3.heap[(w.heap.size + 1)]? = some (.cells #[.int .i64 kd, .int .i64 k, .string ⟨s.toArray⟩] 26)) := (hb3.block (w.heap.size + 1) (by omega)).trans BP_wA.out
      have B6_w3 : Hid (w3.heap[gXA]? = some (.cells #[.slice aA DA.length cA] 31)) := (hb3.block gXA (by omega)).trans B6_wA.out
      have OA_w3 : Hid (LBld w3 w1.heap.size (.slice aA DA.length cA) DA) := OA_wA.out.kept hb3
      clear BH_wA BP_wA B6_wA OA_wA hb3 
      obtain ⟨w4, hw4⟩ : ∃ w4, w4 = w3.alloc (.cells #[.slice (some ⟨g3, 0, none⟩) L.length L.length] 31) := ⟨_, rfl⟩
      have hb34 : Below w3.heap.size w3 w4 := by rw [hw4]; exact (Below.refl _ _).alloc (Nat.le_refl _) _
      have hx4 : w4.heap[w3.heap.size]? = some (.cells #[.slice (some ⟨g3, 0, none⟩) L.length L.length] 31) := by rw [hw4]; exact heap_alloc_new _ _
      have hs4 : w4.heap.size = w3.heap.size + 1 := by rw [hw4]; simp
      have HQ4 := HQ3.out.kept hb34
      have HW4 : Hid (w3.alloc (.cells #[.slice (some ⟨g3, 0, none⟩) L.length L.length] 31) = w4) := hw4.symm
      clear hw4 HQ3
      have hbww4 : Below w.heap.size w w4 := hbww3.trans (hb34.mono hbww3.size)
      have hzw4 : w3.heap.size ≤ w4.heap.size := hb34.size
      have BH_w4 : Hid (w4.heap[w.heap.size]? = some (.cells #[.slice aa L.length ca] 24)) := (hb34.block w.heap.size (by omega)).trans BH_w3.out
      have BP_w4 : Hid (w4.heap[(w.heap.size + 1)]? = some (.cells #[.int .i64 kd, .int .i64 k, .string ⟨s.toArray⟩] 26)) := (hb34.block (w.heap.size + 1) (by omega)).trans BP_w3.out
      have B6_w4 : Hid (w4.heap[gXA]? = some (.cells #[.slice aA DA.length cA] 31)) := (hb34.block gXA (by omega)).trans B6_w3.out
      have OA_w4 : Hid (LBld w4 w1.heap.size (.slice aA DA.length cA) DA) := OA_w3.out.kept hb34
      clear BH_w3 BP_w3 B6_w3 OA_w3 hb34 
      have B9_w4 : Hid (w4.heap[w3.heap.size]? = some (.cells #[.slice (some ⟨g3, 0, none⟩) L.length L.length] 31)) := hx4
      have QX_w4 : Hid (LBld w4 wA.heap.size (.slice (some ⟨g3, 0, none⟩) L.length L.length) E3) := HQ4
      clear hx4 HQ4
      go_wp2_with (rw [HW4.out])
      (try rw [HW4.out])
      have HXCB : Hid (∀ V, Below w4.heap.size w4 V → V.cell? ⟨w.heap.size, 0, none⟩ = some (.slice aa L.length ca) ∧ (V.cell? ⟨w.heap.size + 1, 0, none⟩ = some (.int .i64 kd) ∧ V.cell? ⟨w.heap.size + 1, 1, none⟩ = some (.int .i64 k) ∧ V.cell? ⟨w.heap.size + 1, 2, none⟩ = some (.string ⟨s.toArray⟩))) := fun V hV => ⟨(one_cellF ((hV.block w.heap.size (by omega)).trans BH_w4.out)).1, stp_cells ((hV.block (w.heap.size + 1) (by omega)).trans BP_w4.out)⟩
      have HBWB : Hid (∀ V, Below w4.heap.size w4 V → Below w.heap.size w V) := fun V hV => hbww4.trans (hV.mono hbww4.size)
      have HXXB : Hid (∀ V, Below w4.heap.size w4 V → V.cell? ⟨w3.heap.size, 0, none⟩ = some (.slice (some ⟨g3, 0, none⟩) L.length L.length)) := fun V hV => (one_cellF ((hV.block w3.heap.size (by omega)).trans B9_w4.out)).1
      have HQXB : Hid (∀ V, Below w4.heap.size w4 V → LBld V wA.heap.size (.slice (some ⟨g3, 0, none⟩) L.length L.length) E3) := fun V hV => QX_w4.out.kept hV
      have heB := HE3.out
      have hSXB : Below w4.heap.size w4 w4.drew := (Below.refl _ _).drew
      have HTSB : Hid (∀ W W', Below w4.heap.size w4 W → Below W.heap.size W W' → Below w4.heap.size w4 W') := fun W W' h1 h2 => h1.trans (h2.mono h1.size)
      refine Code.wp_mono (Q := fun e a W => e = Exit.normal ∧ ∃ (aB : Option Addr) (cB gXB : Nat) (DB : List (LkT × Value)), a = { tmps := #[.agg #[.slice aa L.length ca], .agg #[.int .i64 kd, .int .i64 k, .string ⟨s.toArray⟩], .pointer (some ⟨w.heap.size, 0, none⟩), .pointer (some ⟨w.heap.size + 1, 0, none⟩), .bool false, .int .i64 q2, .pointer (some ⟨gXA, 0, none⟩), .bool ok, .pointer (some ⟨w3.heap.size, 0, none⟩), .pointer (some ⟨gXB, 0, none⟩), .bool ok, undef, undef, undef, undef, undef, .agg #[.slice aa L.length ca], .int .i64 1048576, .int .i64 q, .int .i64 q, .bool (decide (q < 0)), .agg #[.int .i64 kd, .int .i64 k, .string ⟨s.toArray⟩], .int .i64 q, .int .i64 q2, .int .i64 q2, .bool (decide (q2 < 0)), .tuple #[.agg #[.slice aA DA.length cA], .bool ok], .agg #[.slice aa L.length ca], .agg #[.slice (some ⟨gA, 0, none⟩) L.length L.length], .agg #[.int .i64 kd, .int .i64 k, .string ⟨s.toArray⟩], .agg #[.int .i64 kd, .int .i64 k, .string ⟨s.toArray⟩], .tuple #[.agg #[.slice aA DA.length cA], .bool ok], .agg #[.slice aA DA.length cA], .bool ok, .agg #[.slice aa L.length ca], .agg #[.slice (some ⟨g3, 0, none⟩) L.length L.length], .tuple #[.agg #[.slice aB DB.length cB], .bool ok], .agg #[.slice (some ⟨g3, 0, none⟩) L.length L.length], .agg #[.int .i64 kd, .int .i64 k, .string ⟨s.toArray⟩], .agg #[.int .i64 kd, .int .i64 k, .string ⟨s.toArray⟩], .tuple #[.agg #[.slice aB DB.length cB], .bool ok], .agg #[.slice aB DB.length cB], .bool ok, undef, undef, undef, undef, undef, undef, undef, undef, undef, undef, undef, undef, undef, undef, undef, undef, undef, undef, undef, undef, undef, undef, undef, undef, undef, undef, undef, undef, undef, undef, undef, undef, undef, undef, undef, undef, undef, undef, undef, undef, undef, undef, undef, undef, undef, undef, undef, undef, undef, undef, undef, undef, undef, undef, undef, undef, undef, undef, undef, undef, undef, undef, undef, undef, undef, undef], defers := [] } ∧ w4.heap.size ≤ gXB ∧ W.heap[gXB]? = some (.cells #[.slice aB DB.length cB] 31) ∧ LBld W w4.heap.size (.slice aB DB.length cB) DB ∧ DB.map (fun x : LkT × Value => x.1) = M ∧ (∀ j, inK (Value.slice aB DB.length cB) DB j → j ≠ gXB) ∧ Below w4.heap.size w4 W) ?_ ?_
      rotate_left
      · refine wp_region_held_drew (S := fun W : World => Below w4.heap.size w4 W) (by kernel_rfl) hSXB (fun hHeld => ?_)
        generalize w4.drew = wXB at *
        refine wpAnyH_take (i := 0) (v := .agg #[.slice (some ⟨g3, 0, none⟩) L.length L.length]) rfl (by kernel_rfl) (by kernel_rfl) (by kernel_rfl) (fun _ _ _ h => (by cases h.1)) (Or.inl ⟨by rfl, ?_⟩) (by assumption) ?_
        · intro W hSW
          have b0 := HXXB.out W hSW
          go_simp
        simp only [Act.put, List.getElem_toArray, List.getElem_cons_zero, List.setIfInBounds_toArray, List.set_cons_succ, List.set_cons_zero]
        refine wpAnyH_take (i := 1) (v := .agg #[.int .i64 kd, .int .i64 k, .string ⟨s.toArray⟩]) rfl (by kernel_rfl) (by kernel_rfl) (by kernel_rfl) (fun _ _ _ h => (by cases h.1)) (Or.inl ⟨by rfl, ?_⟩) (by assumption) ?_
        · intro W hSW
          obtain ⟨b0, b1, b2, b3⟩ := HXCB.out W hSW
          go_simp
        simp only [Act.put, List.getElem_toArray, List.getElem_cons_succ, List.getElem_cons_zero, List.setIfInBounds_toArray, List.set_cons_succ, List.set_cons_zero]
        have hSwXB := hSXB
        have hqwXB := HQXB.out _ hSXB
        refine wpAnyH_ready (rs := [2, 7]) (by kernel_rfl) (by simp) ?_
        refine AllReadyH.cons rfl (fun K hK => ?_) (AllReadyH.cons rfl (fun K hK => ?_) AllReadyH.nil)
        · rw [if_pos (by rfl)]
          go_simp
          refine (HTP.out _).mono ?_
          rintro e v33 ⟨rfl, hbv33⟩
          go_simp
          have hqv33 := hqwXB.kept hbv33
          have hSv33 := HTSB.out _ _ hSwXB hbv33
          have hszbv33 := hbv33.size
          have hszXwXB := hSwXB.size
          refine hK.out _ _ hSv33 (fun hSS => ?_)
          clear hK
          refine wpAnyH_ready (rs := [3, 7]) (by kernel_rfl) (by simp) ?_
          refine AllReadyH.cons rfl (fun K hK => ?_) (AllReadyH.cons rfl (fun K hK => ?_) AllReadyH.nil)
          · rw [if_pos (by rfl)]
            go_simp
            refine (HI.out _ _ _ _ hqv33 heB).mono ?_
            rintro e v34 ⟨⟨uB, DB, rfl, hdB, hov34⟩, hbv34⟩
            obtain ⟨aB, cB, huB, _, _⟩ := hov34.shape
            subst huB
            go_simp
            have hSv34 := HTSB.out _ _ hSv33 hbv34
            have hszbv34 := hbv34.size
            have hszXv33 := hSv33.size
            have hov34 := hov34.mono (show w4.heap.size ≤ v33.heap.size by omega)
            refine hK.out _ _ hSv34 (fun hSS => ?_)
            clear hK
            refine wpAnyH_take (i := 4) (v := .tuple #[.agg #[.slice aB DB.length cB], .bool ok]) rfl (by kernel_rfl) (by kernel_rfl) (by kernel_rfl) (fun _ _ _ h => (by cases h.1)) (Or.inl ⟨by rfl, ?_⟩) (by assumption) ?_
            · intro W hSW
              go_simp
            simp only [Act.put, List.getElem_toArray, List.getElem_cons_succ, List.getElem_cons_zero, List.setIfInBounds_toArray, List.set_cons_succ, List.set_cons_zero]
            refine wpAnyH_take (i := 5) (v := .agg #[.slice aB DB.length cB]) rfl (by kernel_rfl) (by kernel_rfl) (by kernel_rfl) (fun _ _ _ h => (by cases h.1)) (Or.inl ⟨by rfl, ?_⟩) (by assumption) ?_
            · intro W hSW
              go_simp
            simp only [Act.put, List.getElem_toArray, List.getElem_cons_succ, List.getElem_cons_zero, List.setIfInBounds_toArray, List.set_cons_succ, List.set_cons_zero]
            refine wpAnyH_take (i := 6) (v := .bool ok) rfl (by kernel_rfl) (by kernel_rfl) (by kernel_rfl) (fun _ _ _ h => (by cases h.1)) (Or.inl ⟨by rfl, ?_⟩) (by assumption) ?_
            · intro W hSW
              go_simp
            simp only [Act.put, List.getElem_toArray, List.getElem_cons_succ, List.getElem_cons_zero, List.setIfInBounds_toArray, List.set_cons_succ, List.set_cons_zero]
            refine wpAnyH_ready (rs := [7]) (by kernel_rfl) (by simp) ?_
            refine AllReadyH.cons rfl (fun K hK => ?_) AllReadyH.nil
            rw [if_pos (by rfl)]
            go_simp
            have hSA : Below w4.heap.size w4 (v34.alloc (.cells #[.slice none 0 0] 31)) := hSv34.alloc hSv34.size _
            refine hK.out _ _ hSA (fun hSS => ?_)
            clear hK
            refine wpAnyH_ready (rs := [8]) (by kernel_rfl) (by simp) ?_
            refine AllReadyH.cons rfl (fun K hK => ?_) AllReadyH.nil
            rw [if_pos (by rfl)]
            have hSF : Below w4.heap.size w4 (v34.alloc (.cells #[.slice aB DB.length cB] 31)) := hSv34.alloc hSv34.size _
            have hbF : Below v34.heap.size v34 (v34.alloc (.cells #[.slice aB DB.length cB] 31)) := (Below.refl _ _).alloc (Nat.le_refl _) _
            have hF : (v34.alloc (.cells #[.slice aB DB.length cB] 31)).heap[v34.heap.size]? = some (.cells #[.slice aB DB.length cB] 31) := heap_alloc_new _ _
            have hOF := hov34.kept hbF
            have hneF : ∀ j, inK (Value.slice aB DB.length cB) DB j → j ≠ v34.heap.size := fun j hj => by have := (hov34.inlt j hj).2; omega
            have hszF := hSv34.size
            go_simp
            refine hK.out _ _ hSF (fun hSS => ?_)
            clear hK
            refine wpAnyH_take (i := 9) (v := .bool ok) rfl (by kernel_rfl) (by kernel_rfl) (by kernel_rfl) (fun _ _ _ h => (by cases h.1)) (Or.inl ⟨by rfl, ?_⟩) (by assumption) ?_
            · intro W hSW
              go_simp
            simp only [Act.put, List.getElem_toArray, List.getElem_cons_succ, List.getElem_cons_zero, List.setIfInBounds_toArray, List.set_cons_succ, List.set_cons_zero]
            refine wpAnyH_done (by kernel_rfl) ?_ _
            exact ⟨rfl, aB, cB, v34.heap.size, DB, rfl, by omega, hF, hOF, hdB, hneF, hSF⟩
          · rw [if_pos (by rfl)]
            go_simp
            have hSv35 : Below w4.heap.size w4 (v33.alloc (.cells #[.slice none 0 0] 31)) := hSv33.alloc hSv33.size _
            refine hK.out _ _ hSv35 (fun hSS => ?_)
            clear hK
            obtain ⟨gXB, hgXe⟩ : ∃ g, g = v33.heap.size := ⟨_, rfl⟩
            have hqAv35 : (v33.alloc (.cells #[.slice none 0 0] 31)).heap[gXB]? = some (.cells #[.slice none 0 0] 31) := by rw [hgXe]; exact heap_alloc_new _ _
            have hbv35 : Below v33.heap.size v33 (v33.alloc (.cells #[.slice none 0 0] 31)) := (Below.refl _ _).alloc (Nat.le_refl _) _
            have hlAv35 : gXB < (v33.alloc (.cells #[.slice none 0 0] 31)).heap.size := by rw [hgXe]; simp
            have hszSv33 := hSv33.size
            have hqv35 := hqv33.kept hbv35
            rw [← hgXe]
            have hgX1 : v33.heap.size ≤ gXB := by omega
            clear hgXe
            generalize v33.alloc (.cells #[.slice none 0 0] 31) = v35 at *
            refine wpAnyH_ready (rs := [3]) (by kernel_rfl) (by simp) ?_
            refine AllReadyH.cons rfl (fun K hK => ?_) AllReadyH.nil
            · rw [if_pos (by rfl)]
              go_simp
              refine (HI.out _ _ _ _ hqv35 heB).mono ?_
              rintro e v36 ⟨⟨uB, DB, rfl, hdB, hov36⟩, hbv36⟩
              obtain ⟨aB, cB, huB, _, _⟩ := hov36.shape
              subst huB
              go_simp
              have hSv36 := HTSB.out _ _ hSv35 hbv36
              have hszbv36 := hbv36.size
              have hszXv35 := hSv35.size
              have hqAv36 : v36.heap[gXB]? = some (.cells #[.slice none 0 0] 31) := (hbv36.block gXB hlAv35).trans hqAv35
              have hlAv36 : gXB < v36.heap.size := Nat.lt_of_lt_of_le hlAv35 hbv36.size
              have hneB : ∀ j, inK (Value.slice aB DB.length cB) DB j → j ≠ gXB := fun j hj => by have := (hov36.inlt j hj).1; omega
              have hov36 := hov36.mono (show w4.heap.size ≤ v35.heap.size by omega)
              refine hK.out _ _ hSv36 (fun hSS => ?_)
              clear hK
              refine wpAnyH_take (i := 4) (v := .tuple #[.agg #[.slice aB DB.length cB], .bool ok]) rfl (by kernel_rfl) (by kernel_rfl) (by kernel_rfl) (fun _ _ _ h => (by cases h.1)) (Or.inl ⟨by rfl, ?_⟩) (by assumption) ?_
              · intro W hSW
                go_simp
              simp only [Act.put, List.getElem_toArray, List.getElem_cons_succ, List.getElem_cons_zero, List.setIfInBounds_toArray, List.set_cons_succ, List.set_cons_zero]
              refine wpAnyH_take (i := 5) (v := .agg #[.slice aB DB.length cB]) rfl (by kernel_rfl) (by kernel_rfl) (by kernel_rfl) (fun _ _ _ h => (by cases h.1)) (Or.inl ⟨by rfl, ?_⟩) (by assumption) ?_
              · intro W hSW
                go_simp
              simp only [Act.put, List.getElem_toArray, List.getElem_cons_succ, List.getElem_cons_zero, List.setIfInBounds_toArray, List.set_cons_succ, List.set_cons_zero]
              refine wpAnyH_take (i := 6) (v := .bool ok) rfl (by kernel_rfl) (by kernel_rfl) (by kernel_rfl) (fun _ _ _ h => (by cases h.1)) (Or.inl ⟨by rfl, ?_⟩) (by assumption) ?_
              · intro W hSW
                go_simp
              simp only [Act.put, List.getElem_toArray, List.getElem_cons_succ, List.getElem_cons_zero, List.setIfInBounds_toArray, List.set_cons_succ, List.set_cons_zero]
              refine wpAnyH_ready (rs := [8]) (by kernel_rfl) (by simp) ?_
              refine AllReadyH.cons rfl (fun K hK => ?_) AllReadyH.nil
              rw [if_pos (by rfl)]
              obtain ⟨r0, f0⟩ := one_cellF hqAv36
              have hSF : Below w4.heap.size w4 (v36.setCell ⟨gXB, 0, none⟩ (.slice aB DB.length cB)) := hSv36.setCell (p := ⟨gXB, 0, none⟩) (by show w4.heap.size ≤ gXB; omega) _
              have hF : (v36.setCell ⟨gXB, 0, none⟩ (.slice aB DB.length cB)).heap[gXB]? = some (.cells #[.slice aB DB.length cB] 31) := put1_heap hqAv36
              have hOF := LBld.kpt1 (S := fun j => j = gXB) hov36 (kpt_set _ gXB 0 (.slice aB DB.length cB) rfl) (fun j hj => hneB j hj)
              go_simp
              refine hK.out _ _ hSF (fun hSS => ?_)
              clear hK r0 f0
              refine wpAnyH_take (i := 9) (v := .bool ok) rfl (by kernel_rfl) (by kernel_rfl) (by kernel_rfl) (fun _ _ _ h => (by cases h.1)) (Or.inl ⟨by rfl, ?_⟩) (by assumption) ?_
              · intro W hSW
                go_simp
              simp only [Act.put, List.getElem_toArray, List.getElem_cons_succ, List.getElem_cons_zero, List.setIfInBounds_toArray, List.set_cons_succ, List.set_cons_zero]
              refine wpAnyH_done (by kernel_rfl) ?_ _
              exact ⟨rfl, aB, cB, gXB, DB, rfl, by omega, hF, hOF, hdB, hneB, hSF⟩
        · rw [if_pos (by rfl)]
          go_simp
          have hSv37 : Below w4.heap.size w4 (wXB.alloc (.cells #[.slice none 0 0] 31)) := hSwXB.alloc hSwXB.size _
          refine hK.out _ _ hSv37 (fun hSS => ?_)
          clear hK
          obtain ⟨gXB, hgXe⟩ : ∃ g, g = wXB.heap.size := ⟨_, rfl⟩
          have hqAv37 : (wXB.alloc (.cells #[.slice none 0 0] 31)).heap[gXB]? = some (.cells #[.slice none 0 0] 31) := by rw [hgXe]; exact heap_alloc_new _ _
          have hbv37 : Below wXB.heap.size wXB (wXB.alloc (.cells #[.slice none 0 0] 31)) := (Below.refl _ _).alloc (Nat.le_refl _) _
          have hlAv37 : gXB < (wXB.alloc (.cells #[.slice none 0 0] 31)).heap.size := by rw [hgXe]; simp
          have hszSwXB := hSwXB.size
          have hqv37 := hqwXB.kept hbv37
          rw [← hgXe]
          have hgX1 : wXB.heap.size ≤ gXB := by omega
          clear hgXe
          generalize wXB.alloc (.cells #[.slice none 0 0] 31) = v37 at *
          refine wpAnyH_ready (rs := [2]) (by kernel_rfl) (by simp) ?_
          refine AllReadyH.cons rfl (fun K hK => ?_) AllReadyH.nil
          · rw [if_pos (by rfl)]
            go_simp
            refine (HTP.out _).mono ?_
            rintro e v38 ⟨rfl, hbv38⟩
            go_simp
            have hqv38 := hqv37.kept hbv38
            have hSv38 := HTSB.out _ _ hSv37 hbv38
            have hszbv38 := hbv38.size
            have hszXv37 := hSv37.size
            have hqAv38 : v38.heap[gXB]? = some (.cells #[.slice none 0 0] 31) := (hbv38.block gXB hlAv37).trans hqAv37
            have hlAv38 : gXB < v38.heap.size := Nat.lt_of_lt_of_le hlAv37 hbv38.size
            refine hK.out _ _ hSv38 (fun hSS => ?_)
            clear hK
            refine wpAnyH_ready (rs := [3]) (by kernel_rfl) (by simp) ?_
            refine AllReadyH.cons rfl (fun K hK => ?_) AllReadyH.nil
            · rw [if_pos (by rfl)]
              go_simp
              refine (HI.out _ _ _ _ hqv38 heB).mono ?_
              rintro e v39 ⟨⟨uB, DB, rfl, hdB, hov39⟩, hbv39⟩
              obtain ⟨aB, cB, huB, _, _⟩ := hov39.shape
              subst huB
              go_simp
              have hSv39 := HTSB.out _ _ hSv38 hbv39
              have hszbv39 := hbv39.size
              have hszXv38 := hSv38.size
              have hqAv39 : v39.heap[gXB]? = some (.cells #[.slice none 0 0] 31) := (hbv39.block gXB hlAv38).trans hqAv38
              have hlAv39 : gXB < v39.heap.size := Nat.lt_of_lt_of_le hlAv38 hbv39.size
              have hneB : ∀ j, inK (Value.slice aB DB.length cB) DB j → j ≠ gXB := fun j hj => by have := (hov39.inlt j hj).1; omega
              have hov39 := hov39.mono (show w4.heap.size ≤ v38.heap.size by omega)
              refine hK.out _ _ hSv39 (fun hSS => ?_)
              clear hK
              refine wpAnyH_take (i := 4) (v := .tuple #[.agg #[.slice aB DB.length cB], .bool ok]) rfl (by kernel_rfl) (by kernel_rfl) (by kernel_rfl) (fun _ _ _ h => (by cases h.1)) (Or.inl ⟨by rfl, ?_⟩) (by assumption) ?_
              · intro W hSW
                go_simp
              simp only [Act.put, List.getElem_toArray, List.getElem_cons_succ, List.getElem_cons_zero, List.setIfInBounds_toArray, List.set_cons_succ, List.set_cons_zero]
              refine wpAnyH_take (i := 5) (v := .agg #[.slice aB DB.length cB]) rfl (by kernel_rfl) (by kernel_rfl) (by kernel_rfl) (fun _ _ _ h => (by cases h.1)) (Or.inl ⟨by rfl, ?_⟩) (by assumption) ?_
              · intro W hSW
                go_simp
              simp only [Act.put, List.getElem_toArray, List.getElem_cons_succ, List.getElem_cons_zero, List.setIfInBounds_toArray, List.set_cons_succ, List.set_cons_zero]
              refine wpAnyH_take (i := 6) (v := .bool ok) rfl (by kernel_rfl) (by kernel_rfl) (by kernel_rfl) (fun _ _ _ h => (by cases h.1)) (Or.inl ⟨by rfl, ?_⟩) (by assumption) ?_
              · intro W hSW
                go_simp
              simp only [Act.put, List.getElem_toArray, List.getElem_cons_succ, List.getElem_cons_zero, List.setIfInBounds_toArray, List.set_cons_succ, List.set_cons_zero]
              refine wpAnyH_ready (rs := [8]) (by kernel_rfl) (by simp) ?_
              refine AllReadyH.cons rfl (fun K hK => ?_) AllReadyH.nil
              rw [if_pos (by rfl)]
              obtain ⟨r0, f0⟩ := one_cellF hqAv39
              have hSF : Below w4.heap.size w4 (v39.setCell ⟨gXB, 0, none⟩ (.slice aB DB.length cB)) := hSv39.setCell (p := ⟨gXB, 0, none⟩) (by show w4.heap.size ≤ gXB; omega) _
              have hF : (v39.setCell ⟨gXB, 0, none⟩ (.slice aB DB.length cB)).heap[gXB]? = some (.cells #[.slice aB DB.length cB] 31) := put1_heap hqAv39
              have hOF := LBld.kpt1 (S := fun j => j = gXB) hov39 (kpt_set _ gXB 0 (.slice aB DB.length cB) rfl) (fun j hj => hneB j hj)
              go_simp
              refine hK.out _ _ hSF (fun hSS => ?_)
              clear hK r0 f0
              refine wpAnyH_take (i := 9) (v := .bool ok) rfl (by kernel_rfl) (by kernel_rfl) (by kernel_rfl) (fun _ _ _ h => (by cases h.1)) (Or.inl ⟨by rfl, ?_⟩) (by assumption) ?_
              · intro W hSW
                go_simp
              simp only [Act.put, List.getElem_toArray, List.getElem_cons_succ, List.getElem_cons_zero, List.setIfInBounds_toArray, List.set_cons_succ, List.set_cons_zero]
              refine wpAnyH_done (by kernel_rfl) ?_ _
              exact ⟨rfl, aB, cB, gXB, DB, rfl, by omega, hF, hOF, hdB, hneB, hSF⟩
      · rintro e a wB ⟨rfl, aB, cB, gXB, DB, rfl, hgXB, hbxB, hoB, hdB, hneB, hSB⟩
        have hlXB : gXB < wB.heap.size := (Array.getElem?_eq_some_iff.1 hbxB).1
        have HDB : Hid (DB.map (fun x : LkT × Value => x.1) = M) := hdB
        have HL2 : Hid (∀ j, inK (Value.slice aB DB.length cB) DB j → w4.heap.size ≤ j ∧ j < wB.heap.size) := fun j h => hoB.inlt j h
        have HNE : Hid (∀ j, inK (Value.slice aB DB.length cB) DB j → j ≠ gXB) := hneB
        have hbwwB : Below w.heap.size w wB := hbww4.trans (hSB.mono hbww4.size)
        have hzwB : w4.heap.size ≤ wB.heap.size := hSB.size
        have BH_wB : Hid (wB.heap[w.heap.size]? = some (.cells #[.slice aa L.length ca] 24)) := (hSB.block w.heap.size (by omega)).trans BH_w4.out
        have BP_wB : Hid (wB.heap[(w.heap.size + 1)]? = some (.cells #[.int .i64 kd, .int .i64 k, .string ⟨s.toArray⟩] 26)) := (hSB.block (w.heap.size + 1) (by omega)).trans BP_w4.out
        have B6_wB : Hid (wB.heap[gXA]? = some (.cells #[.slice aA DA.length cA] 31)) := (hSB.block gXA (by omega)).trans B6_w4.out
        have OA_wB : Hid (LBld wB w1.heap.size (.slice aA DA.length cA) DA) := OA_w4.out.kept hSB
        have B9_wB : Hid (wB.heap[w3.heap.size]? = some (.cells #[.slice (some ⟨g3, 0, none⟩) L.length L.length] 31)) := (hSB.block w3.heap.size (by omega)).trans B9_w4.out
        have QX_wB : Hid (LBld wB wA.heap.size (.slice (some ⟨g3, 0, none⟩) L.length L.length) E3) := QX_w4.out.kept hSB
        clear BH_w4 BP_w4 B6_w4 OA_w4 B9_w4 QX_w4 hSB 
        have B1_wB : Hid (wB.heap[gXB]? = some (.cells #[.slice aB DB.length cB] 31)) := hbxB
        have HO_wB : Hid (LBld wB w4.heap.size (.slice aB DB.length cB) DB) := hoB
        clear hbxB hoB hdB hneB HXCB HBWB HTSB hSXB HXXB HQXB heB HW4
        have d0 := (one_cellF B6_wB.out).1
        have f0 := (one_cellF B1_wB.out).1
        go_wp2_with fail
        refine (HEQ.out _ _ _ _ _ _ _ HO_wB.out OA_wB.out HDB.out HDA.out).mono ?_
        rintro e w6 ⟨rfl, hb6⟩
        clear d0 f0
        have hbww6 : Below w.heap.size w w6 := hbwwB.trans (hb6.mono hbwwB.size)
        have hzw6 : wB.heap.size ≤ w6.heap.size := hb6.size
        have BH_w6 : Hid (w6.heap[w.heap.size]? = some (.cells #[.slice aa L.length ca] 24)) := (hb6.block w.heap.size (by omega)).trans BH_wB.out
        have BP_w6 : Hid (w6.heap[(w.heap.size + 1)]? = some (.cells #[.int .i64 kd, .int .i64 k, .string ⟨s.toArray⟩] 26)) := (hb6.block (w.heap.size + 1) (by omega)).trans BP_wB.out
        have B6_w6 : Hid (w6.heap[gXA]? = some (.cells #[.slice aA DA.length cA] 31)) := (hb6.block gXA (by omega)).trans B6_wB.out
        have OA_w6 : Hid (LBld w6 w1.heap.size (.slice aA DA.length cA) DA) := OA_wB.out.kept hb6
        have B9_w6 : Hid (w6.heap[w3.heap.size]? = some (.cells #[.slice (some ⟨g3, 0, none⟩) L.length L.length] 31)) := (hb6.block w3.heap.size (by omega)).trans B9_wB.out
        have QX_w6 : Hid (LBld w6 wA.heap.size (.slice (some ⟨g3, 0, none⟩) L.length L.length) E3) := QX_wB.out.kept hb6
        have B1_w6 : Hid (w6.heap[gXB]? = some (.cells #[.slice aB DB.length cB] 31)) := (hb6.block gXB (by omega)).trans B1_wB.out
        have HO_w6 : Hid (LBld w6 w4.heap.size (.slice aB DB.length cB) DB) := HO_wB.out.kept hb6
        clear BH_wB BP_wB B6_wB OA_wB B9_wB QX_wB B1_wB HO_wB hb6 
        have HC : Hid (∀ W, Below w6.heap.size w6 W → (W.cell? ⟨w.heap.size, 0, none⟩ = some (.slice aa L.length ca)) ∧ (W.cell? ⟨w3.heap.size, 0, none⟩ = some (.slice (some ⟨g3, 0, none⟩) L.length L.length)) ∧ Below w6.heap.size w6 W) := fun W hW => ⟨(one_cellF ((hW.block w.heap.size (by omega)).trans BH_w6.out)).1, (one_cellF ((hW.block w3.heap.size (by omega)).trans B9_w6.out)).1, hW⟩
        have HT6 : Hid (∀ W, Below w6.heap.size w6 W → Calls Try.prog 8 #[.agg #[.slice aa L.length ca]] W fun e w' => (∃ g D, e = .returned (.agg #[.slice (some ⟨g, 0, none⟩) L.length L.length]) ∧ W.heap.size ≤ g ∧ D.map (fun x : LkT × Value => x.1) = L ∧ LBld w' W.heap.size (.slice (some ⟨g, 0, none⟩) L.length L.length) D) ∧ Below W.heap.size W w') := fun W hW => HTO.out W (hbww6.trans (hW.mono hbww6.size))
        have HE6 : Hid (∀ g base D W, Below w6.heap.size w6 W → LBld W base (.slice (some ⟨g, 0, none⟩) L.length L.length) D → D.map (fun x : LkT × Value => x.1) = L → Calls Try.prog 11 #[.agg #[.slice (some ⟨g3, 0, none⟩) L.length L.length], .agg #[.slice (some ⟨g, 0, none⟩) L.length L.length]] W fun e w' => e = .returned (.bool true) ∧ Below W.heap.size W w') := fun g base D W hW h1 e1 => HEX.out _ _ _ _ _ _ W (QX_w6.out.kept hW) h1 HE3.out e1
        have HTRN : Hid (∀ W W', Below w6.heap.size w6 W → Below W.heap.size W W' → Below w6.heap.size w6 W') := fun W W' h1 h2 => h1.trans (h2.mono h1.size)
        have hbz : Below w6.heap.size w6 w6 := Below.refl _ _
        have hbd : Below w6.heap.size w6 w6.drew := (Below.refl _ _).drew
        go_wp2_with fail
        go_region_held3 (fun W => (W.cell? ⟨w.heap.size, 0, none⟩ = some (.slice aa L.length ca)) ∧ (W.cell? ⟨w3.heap.size, 0, none⟩ = some (.slice (some ⟨g3, 0, none⟩) L.length L.length)) ∧ Below w6.heap.size w6 W) (first | exact HC.out _ (by assumption) | exact HC.out _ (Below.drew (by assumption)))
          (first
          | (go_at_call 8; refine (HT6.out _ (by assumption)).mono ?_; rintro e w7 ⟨⟨g5, D5, rfl, _, hd5, hq5⟩, hb7⟩; have hb67 := HTRN.out _ _ (by assumption) hb7)
          | (go_at_call 11; refine (HE6.out _ _ _ _ (by assumption) (by assumption) (by assumption)).mono ?_; rintro e w8 ⟨rfl, hb8⟩; have hb68 := HTRN.out _ _ (by assumption) hb8))
        clear hb8 HC HT6 HE6 HTRN hbz hbd
        (try clear hb7 hb67 hd5 hq5)
        have hbww8 : Below w.heap.size w w8 := hbww6.trans (hb68.mono hbww6.size)
        have hzw8 : w6.heap.size ≤ w8.heap.size := hb68.size
        have BH_w8 : Hid (w8.heap[w.heap.size]? = some (.cells #[.slice aa L.length ca] 24)) := (hb68.block w.heap.size (by omega)).trans BH_w6.out
        have BP_w8 : Hid (w8.heap[(w.heap.size + 1)]? = some (.cells #[.int .i64 kd, .int .i64 k, .string ⟨s.toArray⟩] 26)) := (hb68.block (w.heap.size + 1) (by omega)).trans BP_w6.out
        have B6_w8 : Hid (w8.heap[gXA]? = some (.cells #[.slice aA DA.length cA] 31)) := (hb68.block gXA (by omega)).trans B6_w6.out
        have OA_w8 : Hid (LBld w8 w1.heap.size (.slice aA DA.length cA) DA) := OA_w6.out.kept hb68
        have B9_w8 : Hid (w8.heap[w3.heap.size]? = some (.cells #[.slice (some ⟨g3, 0, none⟩) L.length L.length] 31)) := (hb68.block w3.heap.size (by omega)).trans B9_w6.out
        have QX_w8 : Hid (LBld w8 wA.heap.size (.slice (some ⟨g3, 0, none⟩) L.length L.length) E3) := QX_w6.out.kept hb68
        have B1_w8 : Hid (w8.heap[gXB]? = some (.cells #[.slice aB DB.length cB] 31)) := (hb68.block gXB (by omega)).trans B1_w6.out
        have HO_w8 : Hid (LBld w8 w4.heap.size (.slice aB DB.length cB) DB) := HO_w6.out.kept hb68
        clear BH_w6 BP_w6 B6_w6 OA_w6 B9_w6 QX_w6 B1_w6 HO_w6 hb68 
        have f0 := (one_cellF B9_w8.out).1
        go_wp2_with fail
        refine (HMX.out _ _ _ _ QX_w8.out HE3.out).mono ?_
        rintro e w9 ⟨rfl, hk9'⟩
        clear f0
        have hk9 : Kpt w8 w9 (fun j => wA.heap.size ≤ j ∧ j < w3.heap.size) := hk9'.mono (fun j _ hj => HLX.out j hj)
        clear hk9'
        have hbww9 : Below w.heap.size w w9 := hbww8.trans (hk9.below hbww8.size (fun k hk0 h => by omega))
        have hzw9 : w8.heap.size ≤ w9.heap.size := hk9.size
        have BH_w9 : Hid (w9.heap[w.heap.size]? = some (.cells #[.slice aa L.length ca] 24)) := (hk9.block w.heap.size (by omega) (fun h => by omega)).trans BH_w8.out
        have BP_w9 : Hid (w9.heap[(w.heap.size + 1)]? = some (.cells #[.int .i64 kd, .int .i64 k, .string ⟨s.toArray⟩] 26)) := (hk9.block (w.heap.size + 1) (by omega) (fun h => by omega)).trans BP_w8.out
        have B6_w9 : Hid (w9.heap[gXA]? = some (.cells #[.slice aA DA.length cA] 31)) := (hk9.block gXA (by omega) (fun h => by omega)).trans B6_w8.out
        have OA_w9 : Hid (LBld w9 w1.heap.size (.slice aA DA.length cA) DA) := OA_w8.out.kpt1 hk9 (fun g hg h => by have q := HL1.out g hg; omega)
        have B9_w9 : Hid (w9.heap[w3.heap.size]? = some (.cells #[.slice (some ⟨g3, 0, none⟩) L.length L.length] 31)) := (hk9.block w3.heap.size (by omega) (fun h => by omega)).trans B9_w8.out
        have B1_w9 : Hid (w9.heap[gXB]? = some (.cells #[.slice aB DB.length cB] 31)) := (hk9.block gXB (by omega) (fun h => by omega)).trans B1_w8.out
        have HO_w9 : Hid (LBld w9 w4.heap.size (.slice aB DB.length cB) DB) := HO_w8.out.kpt1 hk9 (fun g hg h => by have q := HL2.out g hg; omega)
        clear BH_w8 BP_w8 B6_w8 OA_w8 B9_w8 QX_w8 B1_w8 HO_w8 hk9
        have d0 := (one_cellF B6_w9.out).1
        have f0 := (one_cellF B1_w9.out).1
        go_wp2_with fail
        refine (HEQ.out _ _ _ _ _ _ _ HO_w9.out OA_w9.out HDB.out HDA.out).mono ?_
        rintro e w10 ⟨rfl, hb10⟩
        clear d0 f0
        have hbww10 : Below w.heap.size w w10 := hbww9.trans (hb10.mono hbww9.size)
        have hzw10 : w9.heap.size ≤ w10.heap.size := hb10.size
        have BH_w10 : Hid (w10.heap[w.heap.size]? = some (.cells #[.slice aa L.length ca] 24)) := (hb10.block w.heap.size (by omega)).trans BH_w9.out
        have BP_w10 : Hid (w10.heap[(w.heap.size + 1)]? = some (.cells #[.int .i64 kd, .int .i64 k, .string ⟨s.toArray⟩] 26)) := (hb10.block (w.heap.size + 1) (by omega)).trans BP_w9.out
        have B6_w10 : Hid (w10.heap[gXA]? = some (.cells #[.slice aA DA.length cA] 31)) := (hb10.block gXA (by omega)).trans B6_w9.out
        have OA_w10 : Hid (LBld w10 w1.heap.size (.slice aA DA.length cA) DA) := OA_w9.out.kept hb10
        have B9_w10 : Hid (w10.heap[w3.heap.size]? = some (.cells #[.slice (some ⟨g3, 0, none⟩) L.length L.length] 31)) := (hb10.block w3.heap.size (by omega)).trans B9_w9.out
        have B1_w10 : Hid (w10.heap[gXB]? = some (.cells #[.slice aB DB.length cB] 31)) := (hb10.block gXB (by omega)).trans B1_w9.out
        have HO_w10 : Hid (LBld w10 w4.heap.size (.slice aB DB.length cB) DB) := HO_w9.out.kept hb10
        clear BH_w9 BP_w9 B6_w9 OA_w9 B9_w9 B1_w9 HO_w9 hb10 
        have f0 := (one_cellF B1_w10.out).1
        go_wp2_with fail
        refine (HMK.out _ _ _ _ HO_w10.out HDB.out).mono ?_
        rintro e w11 ⟨rfl, ho11, hk11⟩
        clear f0
        have HM_w11 : Hid (LBld w11 w4.heap.size (.slice aB DB.length cB) (markD 1 DB)) := ho11
        clear ho11
        have hbww11 : Below w.heap.size w w11 := hbww10.trans (hk11.below hbww10.size (fun k hk0 h => by have q2 := HL2.out _ h; omega))
        have hzw11 : w10.heap.size ≤ w11.heap.size := hk11.size
        have BH_w11 : Hid (w11.heap[w.heap.size]? = some (.cells #[.slice aa L.length ca] 24)) := (hk11.block w.heap.size (by omega) (fun h => by have q2 := HL2.out _ h; omega)).trans BH_w10.out
        have BP_w11 : Hid (w11.heap[(w.heap.size + 1)]? = some (.cells #[.int .i64 kd, .int .i64 k, .string ⟨s.toArray⟩] 26)) := (hk11.block (w.heap.size + 1) (by omega) (fun h => by have q2 := HL2.out _ h; omega)).trans BP_w10.out
        have B6_w11 : Hid (w11.heap[gXA]? = some (.cells #[.slice aA DA.length cA] 31)) := (hk11.block gXA (by omega) (fun h => by have q2 := HL2.out _ h; omega)).trans B6_w10.out
        have OA_w11 : Hid (LBld w11 w1.heap.size (.slice aA DA.length cA) DA) := OA_w10.out.kpt1 hk11 (fun g hg h => by have q := HL1.out g hg; have q2 := HL2.out _ h; omega)
        have B9_w11 : Hid (w11.heap[w3.heap.size]? = some (.cells #[.slice (some ⟨g3, 0, none⟩) L.length L.length] 31)) := (hk11.block w3.heap.size (by omega) (fun h => by have q2 := HL2.out _ h; omega)).trans B9_w10.out
        have B1_w11 : Hid (w11.heap[gXB]? = some (.cells #[.slice aB DB.length cB] 31)) := (hk11.block gXB (by omega) (fun h => HNE.out _ h rfl)).trans B1_w10.out
        clear BH_w10 BP_w10 B6_w10 OA_w10 B9_w10 B1_w10 HO_w10 hk11
        have f0 := (one_cellF B1_w11.out).1
        go_wp2_with fail
        refine (HHD.out _ _ _ _ HM_w11.out HDB.out).mono ?_
        rintro e w12 ⟨rfl, hb12⟩
        clear f0
        have hbww12 : Below w.heap.size w w12 := hbww11.trans (hb12.mono hbww11.size)
        have hzw12 : w11.heap.size ≤ w12.heap.size := hb12.size
        have BH_w12 : Hid (w12.heap[w.heap.size]? = some (.cells #[.slice aa L.length ca] 24)) := (hb12.block w.heap.size (by omega)).trans BH_w11.out
        have BP_w12 : Hid (w12.heap[(w.heap.size + 1)]? = some (.cells #[.int .i64 kd, .int .i64 k, .string ⟨s.toArray⟩] 26)) := (hb12.block (w.heap.size + 1) (by omega)).trans BP_w11.out
        have B6_w12 : Hid (w12.heap[gXA]? = some (.cells #[.slice aA DA.length cA] 31)) := (hb12.block gXA (by omega)).trans B6_w11.out
        have OA_w12 : Hid (LBld w12 w1.heap.size (.slice aA DA.length cA) DA) := OA_w11.out.kept hb12
        have B9_w12 : Hid (w12.heap[w3.heap.size]? = some (.cells #[.slice (some ⟨g3, 0, none⟩) L.length L.length] 31)) := (hb12.block w3.heap.size (by omega)).trans B9_w11.out
        have B1_w12 : Hid (w12.heap[gXB]? = some (.cells #[.slice aB DB.length cB] 31)) := (hb12.block gXB (by omega)).trans B1_w11.out
        have HM_w12 : Hid (LBld w12 w4.heap.size (.slice aB DB.length cB) (markD 1 DB)) := HM_w11.out.kept hb12
        clear BH_w11 BP_w11 B6_w11 OA_w11 B9_w11 B1_w11 HM_w11 hb12 
        go_wp2_with fail
        have HXCC : Hid (∀ V, Below w12.heap.size w12 V → V.cell? ⟨w.heap.size, 0, none⟩ = some (.slice aa L.length ca) ∧ (V.cell? ⟨w.heap.size + 1, 0, none⟩ = some (.int .i64 kd) ∧ V.cell? ⟨w.heap.size + 1, 1, none⟩ = some (.int .i64 k) ∧ V.cell? ⟨w.heap.size + 1, 2, none⟩ = some (.string ⟨s.toArray⟩))) := fun V hV => ⟨(one_cellF ((hV.block w.heap.size (by omega)).trans BH_w12.out)).1, stp_cells ((hV.block (w.heap.size + 1) (by omega)).trans BP_w12.out)⟩
        have HBWC : Hid (∀ V, Below w12.heap.size w12 V → Below w.heap.size w V) := fun V hV => hbww12.trans (hV.mono hbww12.size)
        have hSXC : Below w12.heap.size w12 w12.drew := (Below.refl _ _).drew
        have HTSC : Hid (∀ W W', Below w12.heap.size w12 W → Below W.heap.size W W' → Below w12.heap.size w12 W') := fun W W' h1 h2 => h1.trans (h2.mono h1.size)
        refine Code.wp_mono (Q := fun e a W => e = Exit.normal ∧ ∃ (gC : Nat) (aC : Option Addr) (cC gXC : Nat) (DC : List (LkT × Value)), a = { tmps := #[.agg #[.slice aa L.length ca], .agg #[.int .i64 kd, .int .i64 k, .string ⟨s.toArray⟩], .pointer (some ⟨w.heap.size, 0, none⟩), .pointer (some ⟨w.heap.size + 1, 0, none⟩), .bool false, .int .i64 q2, .pointer (some ⟨gXA, 0, none⟩), .bool ok, .pointer (some ⟨w3.heap.size, 0, none⟩), .pointer (some ⟨gXB, 0, none⟩), .bool ok, .int .i64 ps, .int .i64 p, .int .i64 p, .pointer (some ⟨gXC, 0, none⟩), .bool ok, .agg #[.slice aa L.length ca], .int .i64 1048576, .int .i64 q, .int .i64 q, .bool (decide (q < 0)), .agg #[.int .i64 kd, .int .i64 k, .string ⟨s.toArray⟩], .int .i64 q, .int .i64 q2, .int .i64 q2, .bool (decide (q2 < 0)), .tuple #[.agg #[.slice aA DA.length cA], .bool ok], .agg #[.slice aa L.length ca], .agg #[.slice (some ⟨gA, 0, none⟩) L.length L.length], .agg #[.int .i64 kd, .int .i64 k, .string ⟨s.toArray⟩], .agg #[.int .i64 kd, .int .i64 k, .string ⟨s.toArray⟩], .tuple #[.agg #[.slice aA DA.length cA], .bool ok], .agg #[.slice aA DA.length cA], .bool ok, .agg #[.slice aa L.length ca], .agg #[.slice (some ⟨g3, 0, none⟩) L.length L.length], .tuple #[.agg #[.slice aB DB.length cB], .bool ok], .agg #[.slice (some ⟨g3, 0, none⟩) L.length L.length], .agg #[.int .i64 kd, .int .i64 k, .string ⟨s.toArray⟩], .agg #[.int .i64 kd, .int .i64 k, .string ⟨s.toArray⟩], .tuple #[.agg #[.slice aB DB.length cB], .bool ok], .agg #[.slice aB DB.length cB], .bool ok, .agg #[.slice aB DB.length cB], .agg #[.slice aA DA.length cA], .bool true, .bool false, .bool false, .bool ok, .bool ok, .bool false, .bool false, .agg #[.slice (some ⟨g3, 0, none⟩) L.length L.length], .agg #[.slice aa L.length ca], .agg #[.slice (some ⟨g5, 0, none⟩) L.length L.length], .bool true, .bool false, .agg #[.slice (some ⟨g3, 0, none⟩) L.length L.length], .int .i64 1, .int .i64 ps, .int .i64 ps, .bool false, .bool false, .agg #[.slice aB DB.length cB], .agg #[.slice aA DA.length cA], .bool true, .bool false, .bool false, .bool false, .bool ok, .bool ok, .bool false, .bool false, .agg #[.slice aB DB.length cB], .int .i64 1, .int .i64 p, .agg #[.slice aB DB.length cB], .int .i64 1, .int .i64 p, .int .i64 p, .bool false, .int .i64 p, .int .i64 p, .bool false, .tuple #[.agg #[.slice aC DC.length cC], .bool ok], .agg #[.slice aa L.length ca], .agg #[.slice (some ⟨gC, 0, none⟩) L.length L.length], .agg #[.int .i64 kd, .int .i64 k, .string ⟨s.toArray⟩], .agg #[.int .i64 kd, .int .i64 k, .string ⟨s.toArray⟩], .tuple #[.agg #[.slice aC DC.length cC], .bool ok], .agg #[.slice aC DC.length cC], .bool ok, undef, undef, undef, undef, undef, undef, undef, undef, undef, undef, undef, undef, undef, undef, undef, undef, undef], defers := [] } ∧ w12.heap.size ≤ gXC ∧ W.heap[gXC]? = some (.cells #[.slice aC DC.length cC] 31) ∧ LBld W w12.heap.size (.slice aC DC.length cC) DC ∧ DC.map (fun x : LkT × Value => x.1) = M ∧ (∀ j, inK (Value.slice aC DC.length cC) DC j → j ≠ gXC) ∧ Below w12.heap.size w12 W) ?_ ?_
        rotate_left
        · refine wp_region_held_drew (S := fun W : World => Below w12.heap.size w12 W) (by kernel_rfl) hSXC (fun hHeld => ?_)
          generalize w12.drew = wXC at *
          refine wpAnyH_take (i := 0) (v := .agg #[.slice aa L.length ca]) rfl (by kernel_rfl) (by kernel_rfl) (by kernel_rfl) (fun _ _ _ h => (by cases h.1)) (Or.inl ⟨by rfl, ?_⟩) (by assumption) ?_
          · intro W hSW
            obtain ⟨b0, b1, b2, b3⟩ := HXCC.out W hSW
            go_simp
          simp only [Act.put, List.getElem_toArray, List.getElem_cons_zero, List.setIfInBounds_toArray, List.set_cons_succ, List.set_cons_zero]
          refine wpAnyH_take (i := 2) (v := .agg #[.int .i64 kd, .int .i64 k, .string ⟨s.toArray⟩]) rfl (by kernel_rfl) (by kernel_rfl) (by kernel_rfl) (fun _ _ _ h => (by cases h.1)) (Or.inl ⟨by rfl, ?_⟩) (by assumption) ?_
          · intro W hSW
            obtain ⟨b0, b1, b2, b3⟩ := HXCC.out W hSW
            go_simp
          simp only [Act.put, List.getElem_toArray, List.getElem_cons_succ, List.getElem_cons_zero, List.setIfInBounds_toArray, List.set_cons_succ, List.set_cons_zero]
          have hSwXC := hSXC
          refine wpAnyH_ready (rs := [1, 8]) (by kernel_rfl) (by simp) ?_
          refine AllReadyH.cons rfl (fun K hK => ?_) (AllReadyH.cons rfl (fun K hK => ?_) AllReadyH.nil)
          · rw [if_pos (by rfl)]
            go_simp
            refine (HTO.out _ (HBWC.out _ hSwXC)).mono ?_
            rintro e v40 ⟨⟨gC, EC, rfl, _, heC, hqv40⟩, hbv40⟩
            go_simp
            have hSv40 := HTSC.out _ _ hSwXC hbv40
            have hszbv40 := hbv40.size
            have hszXwXC := hSwXC.size
            refine hK.out _ _ hSv40 (fun hSS => ?_)
            clear hK
            refine wpAnyH_ready (rs := [3, 8]) (by kernel_rfl) (by simp) ?_
            refine AllReadyH.cons rfl (fun K hK => ?_) (AllReadyH.cons rfl (fun K hK => ?_) AllReadyH.nil)
            · rw [if_pos (by rfl)]
              go_simp
              refine (HTP.out _).mono ?_
              rintro e v41 ⟨rfl, hbv41⟩
              go_simp
              have hqv41 := hqv40.kept hbv41
              have hSv41 := HTSC.out _ _ hSv40 hbv41
              have hszbv41 := hbv41.size
              have hszXv40 := hSv40.size
              refine hK.out _ _ hSv41 (fun hSS => ?_)
              clear hK
              refine wpAnyH_ready (rs := [4, 8]) (by kernel_rfl) (by simp) ?_
              refine AllReadyH.cons rfl (fun K hK => ?_) (AllReadyH.cons rfl (fun K hK => ?_) AllReadyH.nil)
              · rw [if_pos (by rfl)]
                go_simp
                refine (HI.out _ _ _ _ hqv41 heC).mono ?_
                rintro e v42 ⟨⟨uC, DC, rfl, hdC, hov42⟩, hbv42⟩
                obtain ⟨aC, cC, huC, _, _⟩ := hov42.shape
                subst huC
                go_simp
                have hSv42 := HTSC.out _ _ hSv41 hbv42
                have hszbv42 := hbv42.size
                have hszXv41 := hSv41.size
                have hov42 := hov42.mono (show w12.heap.size ≤ v41.heap.size by omega)
                refine hK.out _ _ hSv42 (fun hSS => ?_)
                clear hK
                refine wpAnyH_take (i := 5) (v := .tuple #[.agg #[.slice aC DC.length cC], .bool ok]) rfl (by kernel_rfl) (by kernel_rfl) (by kernel_rfl) (fun _ _ _ h => (by cases h.1)) (Or.inl ⟨by rfl, ?_⟩) (by assumption) ?_
                · intro W hSW
                  go_simp
                simp only [Act.put, List.getElem_toArray, List.getElem_cons_succ, List.getElem_cons_zero, List.setIfInBounds_toArray, List.set_cons_succ, List.set_cons_zero]
                refine wpAnyH_take (i := 6) (v := .agg #[.slice aC DC.length cC]) rfl (by kernel_rfl) (by kernel_rfl) (by kernel_rfl) (fun _ _ _ h => (by cases h.1)) (Or.inl ⟨by rfl, ?_⟩) (by assumption) ?_
                · intro W hSW
                  go_simp
                simp only [Act.put, List.getElem_toArray, List.getElem_cons_succ, List.getElem_cons_zero, List.setIfInBounds_toArray, List.set_cons_succ, List.set_cons_zero]
                refine wpAnyH_take (i := 7) (v := .bool ok) rfl (by kernel_rfl) (by kernel_rfl) (by kernel_rfl) (fun _ _ _ h => (by cases h.1)) (Or.inl ⟨by rfl, ?_⟩) (by assumption) ?_
                · intro W hSW
                  go_simp
                simp only [Act.put, List.getElem_toArray, List.getElem_cons_succ, List.getElem_cons_zero, List.setIfInBounds_toArray, List.set_cons_succ, List.set_cons_zero]
                refine wpAnyH_ready (rs := [8]) (by kernel_rfl) (by simp) ?_
                refine AllReadyH.cons rfl (fun K hK => ?_) AllReadyH.nil
                rw [if_pos (by rfl)]
                go_simp
                have hSA : Below w12.heap.size w12 (v42.alloc (.cells #[.slice none 0 0] 31)) := hSv42.alloc hSv42.size _
                refine hK.out _ _ hSA (fun hSS => ?_)
                clear hK
                refine wpAnyH_ready (rs := [9]) (by kernel_rfl) (by simp) ?_
                refine AllReadyH.cons rfl (fun K hK => ?_) AllReadyH.nil
                rw [if_pos (by rfl)]
                have hSF : Below w12.heap.size w12 (v42.alloc (.cells #[.slice aC DC.length cC] 31)) := hSv42.alloc hSv42.size _
                have hbF : Below v42.heap.size v42 (v42.alloc (.cells #[.slice aC DC.length cC] 31)) := (Below.refl _ _).alloc (Nat.le_refl _) _
                have hF : (v42.alloc (.cells #[.slice aC DC.length cC] 31)).heap[v42.heap.size]? = some (.cells #[.slice aC DC.length cC] 31) := heap_alloc_new _ _
                have hOF := hov42.kept hbF
                have hneF : ∀ j, inK (Value.slice aC DC.length cC) DC j → j ≠ v42.heap.size := fun j hj => by have := (hov42.inlt j hj).2; omega
                have hszF := hSv42.size
                go_simp
                refine hK.out _ _ hSF (fun hSS => ?_)
                clear hK
                refine wpAnyH_take (i := 10) (v := .bool ok) rfl (by kernel_rfl) (by kernel_rfl) (by kernel_rfl) (fun _ _ _ h => (by cases h.1)) (Or.inl ⟨by rfl, ?_⟩) (by assumption) ?_
                · intro W hSW
                  go_simp
                simp only [Act.put, List.getElem_toArray, List.getElem_cons_succ, List.getElem_cons_zero, List.setIfInBounds_toArray, List.set_cons_succ, List.set_cons_zero]
                refine wpAnyH_done (by kernel_rfl) ?_ _
                exact ⟨rfl, gC, aC, cC, v42.heap.size, DC, rfl, by omega, hF, hOF, hdC, hneF, hSF⟩
              · rw [if_pos (by rfl)]
                go_simp
                have hSv43 : Below w12.heap.size w12 (v41.alloc (.cells #[.slice none 0 0] 31)) := hSv41.alloc hSv41.size _
                refine hK.out _ _ hSv43 (fun hSS => ?_)
                clear hK
                obtain ⟨gXC, hgXe⟩ : ∃ g, g = v41.heap.size := ⟨_, rfl⟩
                have hqAv43 : (v41.alloc (.cells #[.slice none 0 0] 31)).heap[gXC]? = some (.cells #[.slice none 0 0] 31) := by rw [hgXe]; exact heap_alloc_new _ _
                have hbv43 : Below v41.heap.size v41 (v41.alloc (.cells #[.slice none 0 0] 31)) := (Below.refl _ _).alloc (Nat.le_refl _) _
                have hlAv43 : gXC < (v41.alloc (.cells #[.slice none 0 0] 31)).heap.size := by rw [hgXe]; simp
                have hszSv41 := hSv41.size
                have hqv43 := hqv41.kept hbv43
                rw [← hgXe]
                have hgX1 : v41.heap.size ≤ gXC := by omega
                clear hgXe
                generalize v41.alloc (.cells #[.slice none 0 0] 31) = v43 at *
                refine wpAnyH_ready (rs := [4]) (by kernel_rfl) (by simp) ?_
                refine AllReadyH.cons rfl (fun K hK => ?_) AllReadyH.nil
                · rw [if_pos (by rfl)]
                  go_simp
                  refine (HI.out _ _ _ _ hqv43 heC).mono ?_
                  rintro e v44 ⟨⟨uC, DC, rfl, hdC, hov44⟩, hbv44⟩
                  obtain ⟨aC, cC, huC, _, _⟩ := hov44.shape
                  subst huC
                  go_simp
                  have hSv44 := HTSC.out _ _ hSv43 hbv44
                  have hszbv44 := hbv44.size
                  have hszXv43 := hSv43.size
                  have hqAv44 : v44.heap[gXC]? = some (.cells #[.slice none 0 0] 31) := (hbv44.block gXC hlAv43).trans hqAv43
                  have hlAv44 : gXC < v44.heap.size := Nat.lt_of_lt_of_le hlAv43 hbv44.size
                  have hneC : ∀ j, inK (Value.slice aC DC.length cC) DC j → j ≠ gXC := fun j hj => by have := (hov44.inlt j hj).1; omega
                  have hov44 := hov44.mono (show w12.heap.size ≤ v43.heap.size by omega)
                  refine hK.out _ _ hSv44 (fun hSS => ?_)
                  clear hK
                  refine wpAnyH_take (i := 5) (v := .tuple #[.agg #[.slice aC DC.length cC], .bool ok]) rfl (by kernel_rfl) (by kernel_rfl) (by kernel_rfl) (fun _ _ _ h => (by cases h.1)) (Or.inl ⟨by rfl, ?_⟩) (by assumption) ?_
                  · intro W hSW
                    go_simp
                  simp only [Act.put, List.getElem_toArray, List.getElem_cons_succ, List.getElem_cons_zero, List.setIfInBounds_toArray, List.set_cons_succ, List.set_cons_zero]
                  refine wpAnyH_take (i := 6) (v := .agg #[.slice aC DC.length cC]) rfl (by kernel_rfl) (by kernel_rfl) (by kernel_rfl) (fun _ _ _ h => (by cases h.1)) (Or.inl ⟨by rfl, ?_⟩) (by assumption) ?_
                  · intro W hSW
                    go_simp
                  simp only [Act.put, List.getElem_toArray, List.getElem_cons_succ, List.getElem_cons_zero, List.setIfInBounds_toArray, List.set_cons_succ, List.set_cons_zero]
                  refine wpAnyH_take (i := 7) (v := .bool ok) rfl (by kernel_rfl) (by kernel_rfl) (by kernel_rfl) (fun _ _ _ h => (by cases h.1)) (Or.inl ⟨by rfl, ?_⟩) (by assumption) ?_
                  · intro W hSW
                    go_simp
                  simp only [Act.put, List.getElem_toArray, List.getElem_cons_succ, List.getElem_cons_zero, List.setIfInBounds_toArray, List.set_cons_succ, List.set_cons_zero]
                  refine wpAnyH_ready (rs := [9]) (by kernel_rfl) (by simp) ?_
                  refine AllReadyH.cons rfl (fun K hK => ?_) AllReadyH.nil
                  rw [if_pos (by rfl)]
                  obtain ⟨r0, f0⟩ := one_cellF hqAv44
                  have hSF : Below w12.heap.size w12 (v44.setCell ⟨gXC, 0, none⟩ (.slice aC DC.length cC)) := hSv44.setCell (p := ⟨gXC, 0, none⟩) (by show w12.heap.size ≤ gXC; omega) _
                  have hF : (v44.setCell ⟨gXC, 0, none⟩ (.slice aC DC.length cC)).heap[gXC]? = some (.cells #[.slice aC DC.length cC] 31) := put1_heap hqAv44
                  have hOF := LBld.kpt1 (S := fun j => j = gXC) hov44 (kpt_set _ gXC 0 (.slice aC DC.length cC) rfl) (fun j hj => hneC j hj)
                  go_simp
                  refine hK.out _ _ hSF (fun hSS => ?_)
                  clear hK r0 f0
                  refine wpAnyH_take (i := 10) (v := .bool ok) rfl (by kernel_rfl) (by kernel_rfl) (by kernel_rfl) (fun _ _ _ h => (by cases h.1)) (Or.inl ⟨by rfl, ?_⟩) (by assumption) ?_
                  · intro W hSW
                    go_simp
                  simp only [Act.put, List.getElem_toArray, List.getElem_cons_succ, List.getElem_cons_zero, List.setIfInBounds_toArray, List.set_cons_succ, List.set_cons_zero]
                  refine wpAnyH_done (by kernel_rfl) ?_ _
                  exact ⟨rfl, gC, aC, cC, gXC, DC, rfl, by omega, hF, hOF, hdC, hneC, hSF⟩
            · rw [if_pos (by rfl)]
              go_simp
              have hSv45 : Below w12.heap.size w12 (v40.alloc (.cells #[.slice none 0 0] 31)) := hSv40.alloc hSv40.size _
              refine hK.out _ _ hSv45 (fun hSS => ?_)
              clear hK
              obtain ⟨gXC, hgXe⟩ : ∃ g, g = v40.heap.size := ⟨_, rfl⟩
              have hqAv45 : (v40.alloc (.cells #[.slice none 0 0] 31)).heap[gXC]? = some (.cells #[.slice none 0 0] 31) := by rw [hgXe]; exact heap_alloc_new _ _
              have hbv45 : Below v40.heap.size v40 (v40.alloc (.cells #[.slice none 0 0] 31)) := (Below.refl _ _).alloc (Nat.le_refl _) _
              have hlAv45 : gXC < (v40.alloc (.cells #[.slice none 0 0] 31)).heap.size := by rw [hgXe]; simp
              have hszSv40 := hSv40.size
              have hqv45 := hqv40.kept hbv45
              rw [← hgXe]
              have hgX1 : v40.heap.size ≤ gXC := by omega
              clear hgXe
              generalize v40.alloc (.cells #[.slice none 0 0] 31) = v45 at *
              refine wpAnyH_ready (rs := [3]) (by kernel_rfl) (by simp) ?_
              refine AllReadyH.cons rfl (fun K hK => ?_) AllReadyH.nil
              · rw [if_pos (by rfl)]
                go_simp
                refine (HTP.out _).mono ?_
                rintro e v46 ⟨rfl, hbv46⟩
                go_simp
                have hqv46 := hqv45.kept hbv46
                have hSv46 := HTSC.out _ _ hSv45 hbv46
                have hszbv46 := hbv46.size
                have hszXv45 := hSv45.size
                have hqAv46 : v46.heap[gXC]? = some (.cells #[.slice none 0 0] 31) := (hbv46.block gXC hlAv45).trans hqAv45
                have hlAv46 : gXC < v46.heap.size := Nat.lt_of_lt_of_le hlAv45 hbv46.size
                refine hK.out _ _ hSv46 (fun hSS => ?_)
                clear hK
                refine wpAnyH_ready (rs := [4]) (by kernel_rfl) (by simp) ?_
                refine AllReadyH.cons rfl (fun K hK => ?_) AllReadyH.nil
                · rw [if_pos (by rfl)]
                  go_simp
                  refine (HI.out _ _ _ _ hqv46 heC).mono ?_
                  rintro e v47 ⟨⟨uC, DC, rfl, hdC, hov47⟩, hbv47⟩
                  obtain ⟨aC, cC, huC, _, _⟩ := hov47.shape
                  subst huC
                  go_simp
                  have hSv47 := HTSC.out _ _ hSv46 hbv47
                  have hszbv47 := hbv47.size
                  have hszXv46 := hSv46.size
                  have hqAv47 : v47.heap[gXC]? = some (.cells #[.slice none 0 0] 31) := (hbv47.block gXC hlAv46).trans hqAv46
                  have hlAv47 : gXC < v47.heap.size := Nat.lt_of_lt_of_le hlAv46 hbv47.size
                  have hneC : ∀ j, inK (Value.slice aC DC.length cC) DC j → j ≠ gXC := fun j hj => by have := (hov47.inlt j hj).1; omega
                  have hov47 := hov47.mono (show w12.heap.size ≤ v46.heap.size by omega)
                  refine hK.out _ _ hSv47 (fun hSS => ?_)
                  clear hK
                  refine wpAnyH_take (i := 5) (v := .tuple #[.agg #[.slice aC DC.length cC], .bool ok]) rfl (by kernel_rfl) (by kernel_rfl) (by kernel_rfl) (fun _ _ _ h => (by cases h.1)) (Or.inl ⟨by rfl, ?_⟩) (by assumption) ?_
                  · intro W hSW
                    go_simp
                  simp only [Act.put, List.getElem_toArray, List.getElem_cons_succ, List.getElem_cons_zero, List.setIfInBounds_toArray, List.set_cons_succ, List.set_cons_zero]
                  refine wpAnyH_take (i := 6) (v := .agg #[.slice aC DC.length cC]) rfl (by kernel_rfl) (by kernel_rfl) (by kernel_rfl) (fun _ _ _ h => (by cases h.1)) (Or.inl ⟨by rfl, ?_⟩) (by assumption) ?_
                  · intro W hSW
                    go_simp
                  simp only [Act.put, List.getElem_toArray, List.getElem_cons_succ, List.getElem_cons_zero, List.setIfInBounds_toArray, List.set_cons_succ, List.set_cons_zero]
                  refine wpAnyH_take (i := 7) (v := .bool ok) rfl (by kernel_rfl) (by kernel_rfl) (by kernel_rfl) (fun _ _ _ h => (by cases h.1)) (Or.inl ⟨by rfl, ?_⟩) (by assumption) ?_
                  · intro W hSW
                    go_simp
                  simp only [Act.put, List.getElem_toArray, List.getElem_cons_succ, List.getElem_cons_zero, List.setIfInBounds_toArray, List.set_cons_succ, List.set_cons_zero]
                  refine wpAnyH_ready (rs := [9]) (by kernel_rfl) (by simp) ?_
                  refine AllReadyH.cons rfl (fun K hK => ?_) AllReadyH.nil
                  rw [if_pos (by rfl)]
                  obtain ⟨r0, f0⟩ := one_cellF hqAv47
                  have hSF : Below w12.heap.size w12 (v47.setCell ⟨gXC, 0, none⟩ (.slice aC DC.length cC)) := hSv47.setCell (p := ⟨gXC, 0, none⟩) (by show w12.heap.size ≤ gXC; omega) _
                  have hF : (v47.setCell ⟨gXC, 0, none⟩ (.slice aC DC.length cC)).heap[gXC]? = some (.cells #[.slice aC DC.length cC] 31) := put1_heap hqAv47
                  have hOF := LBld.kpt1 (S := fun j => j = gXC) hov47 (kpt_set _ gXC 0 (.slice aC DC.length cC) rfl) (fun j hj => hneC j hj)
                  go_simp
                  refine hK.out _ _ hSF (fun hSS => ?_)
                  clear hK r0 f0
                  refine wpAnyH_take (i := 10) (v := .bool ok) rfl (by kernel_rfl) (by kernel_rfl) (by kernel_rfl) (fun _ _ _ h => (by cases h.1)) (Or.inl ⟨by rfl, ?_⟩) (by assumption) ?_
                  · intro W hSW
                    go_simp
                  simp only [Act.put, List.getElem_toArray, List.getElem_cons_succ, List.getElem_cons_zero, List.setIfInBounds_toArray, List.set_cons_succ, List.set_cons_zero]
                  refine wpAnyH_done (by kernel_rfl) ?_ _
                  exact ⟨rfl, gC, aC, cC, gXC, DC, rfl, by omega, hF, hOF, hdC, hneC, hSF⟩
          · rw [if_pos (by rfl)]
            go_simp
            have hSv48 : Below w12.heap.size w12 (wXC.alloc (.cells #[.slice none 0 0] 31)) := hSwXC.alloc hSwXC.size _
            refine hK.out _ _ hSv48 (fun hSS => ?_)
            clear hK
            obtain ⟨gXC, hgXe⟩ : ∃ g, g = wXC.heap.size := ⟨_, rfl⟩
            have hqAv48 : (wXC.alloc (.cells #[.slice none 0 0] 31)).heap[gXC]? = some (.cells #[.slice none 0 0] 31) := by rw [hgXe]; exact heap_alloc_new _ _
            have hbv48 : Below wXC.heap.size wXC (wXC.alloc (.cells #[.slice none 0 0] 31)) := (Below.refl _ _).alloc (Nat.le_refl _) _
            have hlAv48 : gXC < (wXC.alloc (.cells #[.slice none 0 0] 31)).heap.size := by rw [hgXe]; simp
            have hszSwXC := hSwXC.size
            rw [← hgXe]
            have hgX1 : wXC.heap.size ≤ gXC := by omega
            clear hgXe
            generalize wXC.alloc (.cells #[.slice none 0 0] 31) = v48 at *
            refine wpAnyH_ready (rs := [1]) (by kernel_rfl) (by simp) ?_
            refine AllReadyH.cons rfl (fun K hK => ?_) AllReadyH.nil
            · rw [if_pos (by rfl)]
              go_simp
              refine (HTO.out _ (HBWC.out _ hSv48)).mono ?_
              rintro e v49 ⟨⟨gC, EC, rfl, _, heC, hqv49⟩, hbv49⟩
              go_simp
              have hSv49 := HTSC.out _ _ hSv48 hbv49
              have hszbv49 := hbv49.size
              have hszXv48 := hSv48.size
              have hqAv49 : v49.heap[gXC]? = some (.cells #[.slice none 0 0] 31) := (hbv49.block gXC hlAv48).trans hqAv48
              have hlAv49 : gXC < v49.heap.size := Nat.lt_of_lt_of_le hlAv48 hbv49.size
              refine hK.out _ _ hSv49 (fun hSS => ?_)
              clear hK
              refine wpAnyH_ready (rs := [3]) (by kernel_rfl) (by simp) ?_
              refine AllReadyH.cons rfl (fun K hK => ?_) AllReadyH.nil
              · rw [if_pos (by rfl)]
                go_simp
                refine (HTP.out _).mono ?_
                rintro e v50 ⟨rfl, hbv50⟩
                go_simp
                have hqv50 := hqv49.kept hbv50
                have hSv50 := HTSC.out _ _ hSv49 hbv50
                have hszbv50 := hbv50.size
                have hszXv49 := hSv49.size
                have hqAv50 : v50.heap[gXC]? = some (.cells #[.slice none 0 0] 31) := (hbv50.block gXC hlAv49).trans hqAv49
                have hlAv50 : gXC < v50.heap.size := Nat.lt_of_lt_of_le hlAv49 hbv50.size
                refine hK.out _ _ hSv50 (fun hSS => ?_)
                clear hK
                refine wpAnyH_ready (rs := [4]) (by kernel_rfl) (by simp) ?_
                refine AllReadyH.cons rfl (fun K hK => ?_) AllReadyH.nil
                · rw [if_pos (by rfl)]
                  go_simp
                  refine (HI.out _ _ _ _ hqv50 heC).mono ?_
                  rintro e v51 ⟨⟨uC, DC, rfl, hdC, hov51⟩, hbv51⟩
                  obtain ⟨aC, cC, huC, _, _⟩ := hov51.shape
                  subst huC
                  go_simp
                  have hSv51 := HTSC.out _ _ hSv50 hbv51
                  have hszbv51 := hbv51.size
                  have hszXv50 := hSv50.size
                  have hqAv51 : v51.heap[gXC]? = some (.cells #[.slice none 0 0] 31) := (hbv51.block gXC hlAv50).trans hqAv50
                  have hlAv51 : gXC < v51.heap.size := Nat.lt_of_lt_of_le hlAv50 hbv51.size
                  have hneC : ∀ j, inK (Value.slice aC DC.length cC) DC j → j ≠ gXC := fun j hj => by have := (hov51.inlt j hj).1; omega
                  have hov51 := hov51.mono (show w12.heap.size ≤ v50.heap.size by omega)
                  refine hK.out _ _ hSv51 (fun hSS => ?_)
                  clear hK
                  refine wpAnyH_take (i := 5) (v := .tuple #[.agg #[.slice aC DC.length cC], .bool ok]) rfl (by kernel_rfl) (by kernel_rfl) (by kernel_rfl) (fun _ _ _ h => (by cases h.1)) (Or.inl ⟨by rfl, ?_⟩) (by assumption) ?_
                  · intro W hSW
                    go_simp
                  simp only [Act.put, List.getElem_toArray, List.getElem_cons_succ, List.getElem_cons_zero, List.setIfInBounds_toArray, List.set_cons_succ, List.set_cons_zero]
                  refine wpAnyH_take (i := 6) (v := .agg #[.slice aC DC.length cC]) rfl (by kernel_rfl) (by kernel_rfl) (by kernel_rfl) (fun _ _ _ h => (by cases h.1)) (Or.inl ⟨by rfl, ?_⟩) (by assumption) ?_
                  · intro W hSW
                    go_simp
                  simp only [Act.put, List.getElem_toArray, List.getElem_cons_succ, List.getElem_cons_zero, List.setIfInBounds_toArray, List.set_cons_succ, List.set_cons_zero]
                  refine wpAnyH_take (i := 7) (v := .bool ok) rfl (by kernel_rfl) (by kernel_rfl) (by kernel_rfl) (fun _ _ _ h => (by cases h.1)) (Or.inl ⟨by rfl, ?_⟩) (by assumption) ?_
                  · intro W hSW
                    go_simp
                  simp only [Act.put, List.getElem_toArray, List.getElem_cons_succ, List.getElem_cons_zero, List.setIfInBounds_toArray, List.set_cons_succ, List.set_cons_zero]
                  refine wpAnyH_ready (rs := [9]) (by kernel_rfl) (by simp) ?_
                  refine AllReadyH.cons rfl (fun K hK => ?_) AllReadyH.nil
                  rw [if_pos (by rfl)]
                  obtain ⟨r0, f0⟩ := one_cellF hqAv51
                  have hSF : Below w12.heap.size w12 (v51.setCell ⟨gXC, 0, none⟩ (.slice aC DC.length cC)) := hSv51.setCell (p := ⟨gXC, 0, none⟩) (by show w12.heap.size ≤ gXC; omega) _
                  have hF : (v51.setCell ⟨gXC, 0, none⟩ (.slice aC DC.length cC)).heap[gXC]? = some (.cells #[.slice aC DC.length cC] 31) := put1_heap hqAv51
                  have hOF := LBld.kpt1 (S := fun j => j = gXC) hov51 (kpt_set _ gXC 0 (.slice aC DC.length cC) rfl) (fun j hj => hneC j hj)
                  go_simp
                  refine hK.out _ _ hSF (fun hSS => ?_)
                  clear hK r0 f0
                  refine wpAnyH_take (i := 10) (v := .bool ok) rfl (by kernel_rfl) (by kernel_rfl) (by kernel_rfl) (fun _ _ _ h => (by cases h.1)) (Or.inl ⟨by rfl, ?_⟩) (by assumption) ?_
                  · intro W hSW
                    go_simp
                  simp only [Act.put, List.getElem_toArray, List.getElem_cons_succ, List.getElem_cons_zero, List.setIfInBounds_toArray, List.set_cons_succ, List.set_cons_zero]
                  refine wpAnyH_done (by kernel_rfl) ?_ _
                  exact ⟨rfl, gC, aC, cC, gXC, DC, rfl, by omega, hF, hOF, hdC, hneC, hSF⟩
        · rintro e a wC ⟨rfl, gC, aC, cC, gXC, DC, rfl, hgXC, hbxC, hoC, hdC, hneC, hSC⟩
          have hlXC : gXC < wC.heap.size := (Array.getElem?_eq_some_iff.1 hbxC).1
          have hbwwC : Below w.heap.size w wC := hbww12.trans (hSC.mono hbww12.size)
          have hzwC : w12.heap.size ≤ wC.heap.size := hSC.size
          have BH_wC : Hid (wC.heap[w.heap.size]? = some (.cells #[.slice aa L.length ca] 24)) := (hSC.block w.heap.size (by omega)).trans BH_w12.out
          have BP_wC : Hid (wC.heap[(w.heap.size + 1)]? = some (.cells #[.int .i64 kd, .int .i64 k, .string ⟨s.toArray⟩] 26)) := (hSC.block (w.heap.size + 1) (by omega)).trans BP_w12.out
          have B6_wC : Hid (wC.heap[gXA]? = some (.cells #[.slice aA DA.length cA] 31)) := (hSC.block gXA (by omega)).trans B6_w12.out
          have OA_wC : Hid (LBld wC w1.heap.size (.slice aA DA.length cA) DA) := OA_w12.out.kept hSC
          have B9_wC : Hid (wC.heap[w3.heap.size]? = some (.cells #[.slice (some ⟨g3, 0, none⟩) L.length L.length] 31)) := (hSC.block w3.heap.size (by omega)).trans B9_w12.out
          have B1_wC : Hid (wC.heap[gXB]? = some (.cells #[.slice aB DB.length cB] 31)) := (hSC.block gXB (by omega)).trans B1_w12.out
          have HM_wC : Hid (LBld wC w4.heap.size (.slice aB DB.length cB) (markD 1 DB)) := HM_w12.out.kept hSC
          clear BH_w12 BP_w12 B6_w12 OA_w12 B9_w12 B1_w12 HM_w12 hSC 
          have B5_wC : Hid (wC.heap[gXC]? = some (.cells #[.slice aC DC.length cC] 31)) := hbxC
          have d0 := (one_cellF B5_wC.out).1
          have f0 := (one_cellF B6_wC.out).1
          have HOC := hoC
          have HDC : Hid (DC.map (fun x : LkT × Value => x.1) = M) := hdC
          clear hbxC hoC hdC hneC
          go_wp2_with fail
          refine (HEQ.out _ _ _ _ _ _ _ HOC OA_wC.out HDC.out HDA.out).mono ?_
          rintro e w14 ⟨rfl, hb14⟩
          clear d0 f0 HOC
          have hbww14 : Below w.heap.size w w14 := hbwwC.trans (hb14.mono hbwwC.size)
          have hzw14 : wC.heap.size ≤ w14.heap.size := hb14.size
          have BH_w14 : Hid (w14.heap[w.heap.size]? = some (.cells #[.slice aa L.length ca] 24)) := (hb14.block w.heap.size (by omega)).trans BH_wC.out
          have BP_w14 : Hid (w14.heap[(w.heap.size + 1)]? = some (.cells #[.int .i64 kd, .int .i64 k, .string ⟨s.toArray⟩] 26)) := (hb14.block (w.heap.size + 1) (by omega)).trans BP_wC.out
          have B6_w14 : Hid (w14.heap[gXA]? = some (.cells #[.slice aA DA.length cA] 31)) := (hb14.block gXA (by omega)).trans B6_wC.out
          have OA_w14 : Hid (LBld w14 w1.heap.size (.slice aA DA.length cA) DA) := OA_wC.out.kept hb14
          have B9_w14 : Hid (w14.heap[w3.heap.size]? = some (.cells #[.slice (some ⟨g3, 0, none⟩) L.length L.length] 31)) := (hb14.block w3.heap.size (by omega)).trans B9_wC.out
          have B1_w14 : Hid (w14.heap[gXB]? = some (.cells #[.slice aB DB.length cB] 31)) := (hb14.block gXB (by omega)).trans B1_wC.out
          have HM_w14 : Hid (LBld w14 w4.heap.size (.slice aB DB.length cB) (markD 1 DB)) := HM_wC.out.kept hb14
          have B5_w14 : Hid (w14.heap[gXC]? = some (.cells #[.slice aC DC.length cC] 31)) := (hb14.block gXC (by omega)).trans B5_wC.out
          clear BH_wC BP_wC B6_wC OA_wC B9_wC B1_wC HM_wC B5_wC hb14 
          have f0 := (one_cellF B1_w14.out).1
          go_wp2_with fail
          refine (HHD.out _ _ _ _ HM_w14.out HDB.out).mono ?_
          rintro e w15 ⟨rfl, hb15⟩
          clear f0
          have hbww15 : Below w.heap.size w w15 := hbww14.trans (hb15.mono hbww14.size)
          have hzw15 : w14.heap.size ≤ w15.heap.size := hb15.size
          have BH_w15 : Hid (w15.heap[w.heap.size]? = some (.cells #[.slice aa L.length ca] 24)) := (hb15.block w.heap.size (by omega)).trans BH_w14.out
          have BP_w15 : Hid (w15.heap[(w.heap.size + 1)]? = some (.cells #[.int .i64 kd, .int .i64 k, .string ⟨s.toArray⟩] 26)) := (hb15.block (w.heap.size + 1) (by omega)).trans BP_w14.out
          have B6_w15 : Hid (w15.heap[gXA]? = some (.cells #[.slice aA DA.length cA] 31)) := (hb15.block gXA (by omega)).trans B6_w14.out
          have OA_w15 : Hid (LBld w15 w1.heap.size (.slice aA DA.length cA) DA) := OA_w14.out.kept hb15
          have B9_w15 : Hid (w15.heap[w3.heap.size]? = some (.cells #[.slice (some ⟨g3, 0, none⟩) L.length L.length] 31)) := (hb15.block w3.heap.size (by omega)).trans B9_w14.out
          have B1_w15 : Hid (w15.heap[gXB]? = some (.cells #[.slice aB DB.length cB] 31)) := (hb15.block gXB (by omega)).trans B1_w14.out
          have HM_w15 : Hid (LBld w15 w4.heap.size (.slice aB DB.length cB) (markD 1 DB)) := HM_w14.out.kept hb15
          have B5_w15 : Hid (w15.heap[gXC]? = some (.cells #[.slice aC DC.length cC] 31)) := (hb15.block gXC (by omega)).trans B5_w14.out
          clear BH_w14 BP_w14 B6_w14 OA_w14 B9_w14 B1_w14 HM_w14 B5_w14 hb15 
          go_wp2_with fail
          go_ret
          exact ⟨rfl, hbww15⟩

theorem walk (va : Value) (L : List LkT) (kd k : Int) (s : List UInt8) (w : World) (ha : LkRow w va L) (hxa : Hid (∀ x ∈ L, KFit x)) (hs : s.length ≤ maxLen) (_ : -9223372036854775808 ≤ kd ∧ kd ≤ 9223372036854775807) (_ : -9223372036854775808 ≤ k ∧ k ≤ 9223372036854775807) :
    Calls Try.prog 3 #[ChV va, .agg #[.int .i64 kd, .int .i64 k, .string ⟨s.toArray⟩]] w fun e w' => e = .returned (.bool true) ∧ Below w.heap.size w w' :=
  core va L kd k s _ _ w ha hxa hs (schL_small L kd k s) (fun v W h => sStepChain_any v L kd k s W h) (fun v W h => iStepChain_any v L kd k s W h hs)
end Go.Proofs.Ytacmipcjhbkdcaa.stepChain
