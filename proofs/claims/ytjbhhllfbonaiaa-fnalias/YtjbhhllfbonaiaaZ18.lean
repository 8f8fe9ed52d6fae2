import Derived.Test.YtjbhhllfbonaiaaZ11
import Derived.Test.YtjbhhllfbonaiaaZ15
import Derived.Test.YtjbhhllfbonaiaaZ17
import Derived.Laws.Rows
namespace Go.Proofs.Ytjbhhllfbonaiaa
open Go.RowKit

set_option maxRecDepth 20000 in
set_option maxHeartbeats 1000000 in
/-- The sum of any numbers, that may go round. -/
theorem l12TotalW_any (v : Value) (L : List Int) (w : World) (hr : ZRow .i64 w v L) (hl : L.length ≤ 1048576) :
    Calls Try.prog 20 #[v] w fun e w' => (∃ n, e = .returned (.int .i64 n)) ∧ w' = w := by
  obtain ⟨a, cap, rfl, hcap, hmax, HROW⟩ := zrow_value hr
  clear hr
  go_enter Try.func20, Try.ntmps20
  go_wp2_with fail
  go_loopw [3, 8] (fun s i wr => ∃ (k : Nat) (n : Int), k ≤ L.length ∧ i = .int .i64 (k : Int) ∧ s = .int .i64 n ∧ wr = w) (fun _ i _ => L.length - (intOf i).toNat)
  case atStart => exact ⟨0, 0, Nat.zero_le _, rfl, rfl, rfl⟩
  case round =>
    obtain ⟨k, n, hk, rfl, rfl, rfl⟩ := hrel
    by_cases hlt : k < L.length
    · obtain ⟨b, o, ha, hbl, hc⟩ := HROW.out (by omega)
      rw [ha]
      have hcx := hc k hlt
      obtain ⟨x, hx⟩ : ∃ x, x = L[k]'hlt := ⟨_, rfl⟩
      rw [← hx] at hcx
      clear hc hx
      go_wp2_with fail
      go_roundw
      case rel => exact ⟨k + 1, _, by omega, by go_num, rfl, by trivial⟩
      case measure => simp [intOf]; omega
    · go_wp2_with fail
      go_ret
      exact ⟨⟨_, rfl⟩, rfl⟩
theorem CoRow.set0 {w : World} {g : Nat} {L : List (Int × Int)} (h : CoRow w g L) (k : Nat) (hk : k < L.length) (y : Int) : CoRow (w.setCell ⟨g, k * 2, none⟩ (.int .i64 y)) g (L.set k (y, (L[k]).2)) := by
  refine ⟨by simpa using h.1, fun j hj => ?_⟩
  have hj' : j < L.length := by simpa using hj
  obtain ⟨h0, h1⟩ := h.2 j hj'
  refine ⟨?_, ?_⟩
  · rw [List.getElem_set]
    have n1 : (⟨g, k * 2, none⟩ : Addr) ≠ ⟨g, j * 2 + 1, none⟩ := fun e => by injection e with _ e2; omega
    unfold ColAt at h0 ⊢
    rw [World.cell?_setCell_other _ _ _ _ n1]
    split
    · rename_i e
      subst e
      exact ⟨World.cell?_setCell_same _ _ _ h0.1, h0.2⟩
    · rename_i e
      rw [World.cell?_setCell_other _ _ _ _ (show (⟨g, k * 2, none⟩ : Addr) ≠ ⟨g, j * 2, none⟩ from fun q => by injection q with _ e2; omega)]
      exact h0
  · unfold FzC at h1 ⊢
    simpa using h1
theorem CoRow.set1 {w : World} {g : Nat} {L : List (Int × Int)} (h : CoRow w g L) (k : Nat) (hk : k < L.length) (y : Int) : CoRow (w.setCell ⟨g, k * 2 + 1, none⟩ (.int .i64 y)) g (L.set k ((L[k]).1, y)) := by
  refine ⟨by simpa using h.1, fun j hj => ?_⟩
  have hj' : j < L.length := by simpa using hj
  obtain ⟨h0, h1⟩ := h.2 j hj'
  refine ⟨?_, ?_⟩
  · rw [List.getElem_set]
    have n1 : (⟨g, k * 2 + 1, none⟩ : Addr) ≠ ⟨g, j * 2, none⟩ := fun e => by injection e with _ e2; omega
    unfold ColAt at h0 ⊢
    rw [World.cell?_setCell_other _ _ _ _ n1]
    split
    · rename_i e
      subst e
      exact ⟨h0.1, World.cell?_setCell_same _ _ _ h0.2⟩
    · rename_i e
      rw [World.cell?_setCell_other _ _ _ _ (show (⟨g, k * 2 + 1, none⟩ : Addr) ≠ ⟨g, j * 2 + 1, none⟩ from fun q => by injection q with _ e2; omega)]
      exact h0
  · unfold FzC at h1 ⊢
    simpa using h1
/-- Columns drawn: they lie in a block of the draw's own. -/
def DrCo (w : World) (base : Nat) (u : Value) (L : List (Int × Int)) : Prop := ∃ g cap, u = .slice (some ⟨g, 0, none⟩) L.length cap ∧ L.length ≤ cap ∧ cap ≤ 9223372036854775807 ∧ base ≤ g ∧ CoRow w g L
theorem DrCo.row {w : World} {b : Nat} {u : Value} {L : List (Int × Int)} (h : DrCo w b u L) : ColRow w u L := by
  obtain ⟨g, cap, rfl, h1, h2, _, h3⟩ := h
  exact h3.row h1 (by unfold maxLen; omega)
theorem DrCo.apart {w w' : World} {S : Nat → Prop} {b : Nat} {u : Value} {L : List (Int × Int)} (h : DrCo w b u L) (hk : Kpt w w' S) (hn : ∀ j, b ≤ j → ¬ S j) : DrCo w' b u L := by
  obtain ⟨t, cap, h1, h2, h3, h4, h5⟩ := h
  exact ⟨t, cap, h1, h2, h3, h4, h5.apart hk (hn t h4)⟩
theorem DrCo.down {w : World} {b b' : Nat} {u : Value} {L : List (Int × Int)} (h : DrCo w b u L) (hb : b' ≤ b) : DrCo w b' u L := by
  obtain ⟨t, cap, h1, h2, h3, h4, h5⟩ := h
  exact ⟨t, cap, h1, h2, h3, Nat.le_trans hb h4, h5⟩
theorem one_col (w : World) : CoRow (w.alloc (.cells #[.int .i64 3, .int .i64 0] 30)) w.heap.size [(3, 0)] := by
  have h := trn_new w (.cells #[.int .i64 3, .int .i64 0] 30)
  obtain ⟨⟨x0, x1⟩, ⟨y0, y1⟩⟩ := trn_cells h
  refine ⟨(Array.getElem?_eq_some_iff.1 h).1, fun j hj => ?_⟩
  have hj0 : j = 0 := by simp at hj; omega
  subst hj0
  exact ⟨⟨x0, x1⟩, ⟨y0, y1⟩⟩
set_option maxRecDepth 20000 in
set_option maxHeartbeats 8000000 in
theorem columns_any (g : Nat) (v : Value) (P : List Int) (B : Nat) (w : World) (hc : CurB w g v P B) (hB : B ≤ 900000000) (hl : P.length ≤ 9223372036854775807) (HCL : Hid (0 < P.length → ∀ k, v.ownBlock = some k → k < w.heap.size)) :
    Calls Try.prog 23 #[.pointer (some ⟨g, 0, none⟩)] w fun e w' => (∃ u L t, e = .returned (.tuple #[u, .int .i64 t]) ∧ (1 ≤ L.length ∧ L.length ≤ 13) ∧ DrCo w' w.heap.size u L) ∧ CurB w' g v P (B + 80) ∧ Kpt w w' (· = g) := by
  have hgw := hc.lt
  have HKE : Hid (∀ W, Kpt w W (fun k => k = g ∨ w.heap.size ≤ k) → Kpt w W (· = g)) := fun W h => h.mono (fun k hk hs => by omega)
  have HGK : Hid (∀ W W', Kpt w W (fun k => k = g ∨ w.heap.size ≤ k) → Kpt W W' (· = g) → Kpt w W' (fun k => k = g ∨ w.heap.size ≤ k)) := fun W W' h k => h.trans (k.mono (fun _ _ e => Or.inl e))
  have HGO : Hid (∀ W W', Kpt w W (fun k => k = g ∨ w.heap.size ≤ k) → ∀ T : Nat → Prop, (∀ k, T k → w.heap.size ≤ k) → Kpt W W' T → Kpt w W' (fun k => k = g ∨ w.heap.size ≤ k)) := fun W W' h T hT k => h.trans (k.mono (fun _ _ e => Or.inr (hT _ e)))
  have HGB : Hid (∀ W W', Kpt w W (fun k => k = g ∨ w.heap.size ≤ k) → Below W.heap.size W W' → Kpt w W' (fun k => k = g ∨ w.heap.size ≤ k)) := fun W W' h k => h.trans (below_kpt0 k _)
  have HCK : Hid (∀ W W' (T : Nat → Prop) n, CurB W g v P n → (∀ k, T k → w.heap.size ≤ k) → Kpt W W' T → CurB W' g v P n) := fun W W' T n h hT k => h.kpt k (fun e => by have := hT _ e; omega) (fun h0 j hj e => by have := HCL.out h0 j hj; have := hT _ e; omega)
  have HCB : Hid (∀ W W' n, CurB W g v P n → Below W.heap.size W W' → CurB W' g v P n) := fun W W' n h k => h.kpt (below_kpt0 k (fun _ => False)) id (fun _ _ _ => id)
  go_enter Try.func23, Try.ntmps23
  go_wp2_with fail
  refine (weights_any g v P B w hc hB hl HCL).mono ?_
  rintro e w1 ⟨u, A, rfl, hA, hd, hc1, hk1⟩
  have HC1 : Hid (CurB w1 g v P (B + 40)) := hc1
  have hkk : Kpt w w1 (fun k => k = g ∨ w.heap.size ≤ k) := hk1.mono (fun _ _ e => Or.inl e)
  have HK1 : Hid (Kpt w w1 (fun k => k = g ∨ w.heap.size ≤ k)) := hkk
  have hs1 : w.heap.size ≤ w1.heap.size := hk1.size
  have HD1 : Hid (DrW w1 w.heap.size u A) := hd
  have HAL : Hid (Calls Try.prog 6 #[u] w1 fun e w' => AlA w' w1.heap.size (goodW A) (aliL A) e ∧ Below w1.heap.size w1 w') := sAliasOf_any u A w1 hd.row (by omega)
  clear hc hd hc1 hk1 hkk
  go_wp2_with fail
  refine HAL.out.mono ?_
  rintro e w2 ⟨⟨x, rfl, ho⟩, hb2⟩
  have HC2 : Hid (CurB w2 g v P (B + 40)) := HCB.out _ _ _ HC1.out hb2
  have HK2 : Hid (Kpt w w2 (fun k => k = g ∨ w.heap.size ≤ k)) := HGB.out _ _ HK1.out hb2
  have HD2 : Hid (DrW w2 w.heap.size u A) := HD1.out.kept hb2
  have hs2 := hb2.size
  cases hg : goodW A with
  | false =>
    rw [hg] at ho
    have HT2 : Hid (Calls Try.prog 20 #[u] w2 fun e w' => (∃ n, e = .returned (.int .i64 n)) ∧ w' = w2) := l12TotalW_any u A w2 HD2.out.row (by omega)
    clear ho hb2 HC1 HK1 HD1 HAL hg HD2
    go_wp2_with fail
    refine HT2.out.mono ?_
    rintro e w3 ⟨⟨n, rfl⟩, rfl⟩
    have HO3 : Hid (DrCo (w3.alloc (.cells #[.int .i64 3, .int .i64 0] 30)) w.heap.size (.slice (some ⟨w3.heap.size, 0, none⟩) 1 1) [(3, 0)]) := ⟨w3.heap.size, 1, rfl, by simp, by omega, by omega, one_col w3⟩
    have hbn : Below w3.heap.size w3 (w3.alloc (.cells #[.int .i64 3, .int .i64 0] 30)) := (Below.refl _ _).alloc (Nat.le_refl _) _
    have HC3 : Hid (CurB (w3.alloc (.cells #[.int .i64 3, .int .i64 0] 30)) g v P (B + 80)) := (HCB.out _ _ _ HC2.out hbn).mono (by omega)
    have HK3 : Hid (Kpt w (w3.alloc (.cells #[.int .i64 3, .int .i64 0] 30)) (· = g)) := HKE.out _ (HGB.out _ _ HK2.out hbn)
    clear hbn HT2 HC2 HK2
    go_wp2_with fail
    go_ret2
    exact ⟨⟨_, _, _, rfl, by decide, HO3.out⟩, HC3.out, HK3.out⟩
  | true =>
    rw [hg] at ho
    obtain ⟨hT1, hT2, hn1, hn2⟩ := ali_factsA hg
    have hf := ali_fitA hg
    have hlen := ali_lengthA A
    have hwt := (goodW_parts hg).2.1
    have HT2 : Hid (Calls Try.prog 20 #[u] w2 fun e w' => e = .returned (.int .i64 A.sum) ∧ w' = w2) := l12Total_any u A w2 HD2.out.row (by omega) (all_sm hwt)
    obtain ⟨L, hL⟩ : ∃ L, L = aliL A := ⟨_, rfl⟩
    rw [if_pos rfl, ← hL] at ho
    rw [← hL] at hf hlen
    have HKB : Hid (∀ k, (hk : k < L.length) → 0 ≤ (L[k]).1 ∧ (L[k]).1 ≤ 600) := fun k hk => by have := fit_col hf hk; omega
    rcases ho with ⟨_, h0⟩ | ⟨b2, cap, rfl, hcap, hmax, hbb, hco⟩
    · rw [h0] at hlen; simp at hlen; omega
    have hmax2 : cap ≤ 9223372036854775807 := hmax
    have HO2 : Hid (CoRow w2 b2 L) := hco
    obtain ⟨T, hT⟩ : ∃ T, T = A.sum := ⟨_, rfl⟩
    rw [← hT] at hT1 hT2 HT2
    rw [← hlen] at hn1 hn2
    have hwb : w.heap.size ≤ b2 := by omega
    clear hb2 HC1 HK1 HD1 HAL hg HD2 hf hlen hwt hL hT hmax hco hbb
    go_wp2_with fail
    refine HT2.out.mono ?_
    rintro e w3 ⟨rfl, rfl⟩
    clear HT2
    go_wp2_with fail
    refine (one_any 12 g v P (B + 40) _ HC2.out (by omega) hl (by omega)).mono ?_
    rintro e w4 ⟨bb, rfl, hc4, hk4⟩
    have HC4 : Hid (CurB w4 g v P (B + 42)) := hc4
    have HK4 : Hid (Kpt w w4 (fun k => k = g ∨ w.heap.size ≤ k)) := HGK.out _ _ HK2.out hk4
    have HO4 : Hid (CoRow w4 b2 L) := HO2.out.apart hk4 (by omega)
    clear hc4 hk4 HC2 HK2 HO2
    cases bb with
    | true =>
      go_wp2_with fail
      refine (pick_any (L.length : Int) g v P (B + 42) _ HC4.out (by omega) hl (by omega)).mono ?_
      rintro e w5 ⟨m, rfl, hm, hc5, hk5⟩
      obtain ⟨k, rfl⟩ : ∃ k : Nat, m = (k : Int) := ⟨m.toNat, by omega⟩
      have hkl : k < L.length := by omega
      have HC5 : Hid (CurB w5 g v P (B + 44)) := hc5
      have HK5 : Hid (Kpt w w5 (fun k => k = g ∨ w.heap.size ≤ k)) := HGK.out _ _ HK4.out hk5
      have HO5 : Hid (CoRow w5 b2 L) := HO4.out.apart hk5 (by omega)
      clear hc5 hk5 HC4 HK4 HO4
      have HYE : Hid (CoRow w5 b2 L) := HO5.out
      have hkb := HKB.out k hkl
      obtain ⟨y, hy⟩ : ∃ y, y = (L[k]'hkl).1 := ⟨_, rfl⟩
      have HRD : Hid (∀ W, CoRow W b2 L → W.cell? ⟨b2, k * 2, none⟩ = some (.int .i64 y) ∧ W.frozen? ⟨b2, k * 2, none⟩ = false) := fun W h => by
        obtain ⟨⟨r0, _⟩, f0, _⟩ := h.2 k hkl
        rw [← hy] at r0
        exact ⟨r0, f0⟩
      rw [← hy] at hkb
      have hbd : Below w5.heap.size w5 w5.drew := (Below.refl _ _).drew
      have HCX : Hid (CurB w5.drew g v P (B + 44)) := HCB.out _ _ _ HC5.out hbd
      have HKX : Hid (Kpt w w5.drew (fun k => k = g ∨ w.heap.size ≤ k)) := HGB.out _ _ HK5.out hbd
      have HOX : Hid (CoRow w5.drew b2 L) := HO5.out.kept hbd
      clear HC5 HK5 HO5 HYE hbd hy
      go_wp2_with fail
      refine Code.wp_mono (Q := fun e a W => e = Exit.normal ∧ ∃ (x : Int) (M : List (Int × Int)), a = { tmps := #[.pointer (some ⟨g, 0, none⟩), undef, .slice none 0 0, .int .i64 0, u, .slice (some ⟨b2, 0, none⟩) L.length cap, .bool true, .int .i64 T, .int .i64 (k : Int), .pointer (some ⟨g, 0, none⟩), u, .tuple #[.slice (some ⟨b2, 0, none⟩) L.length cap, .bool true], u, .tuple #[.slice (some ⟨b2, 0, none⟩) L.length cap, .bool true], .slice (some ⟨b2, 0, none⟩) L.length cap, .bool true, u, .int .i64 T, .bool true, .bool false, undef, undef, .pointer (some ⟨g, 0, none⟩), .bool true, .pointer (some ⟨g, 0, none⟩), .slice (some ⟨b2, 0, none⟩) L.length cap, .int .i64 (L.length : Int), .int .i64 (k : Int), .slice (some ⟨b2, 0, none⟩) L.length cap, .int .i64 (k : Int), .pointer (some ⟨b2, k * 2, none⟩), .pointer (some ⟨b2, k * 2, none⟩), .int .i64 y, .pointer (some ⟨g, 0, none⟩), .int .i64 x, .int .i64 (x - 1), .int .i64 (y + (x - 1)), .pointer (some ⟨b2, k * 2, none⟩), .pointer (some ⟨b2, k * 2, none⟩), undef, undef, undef, undef, undef, undef, undef, undef, undef, undef, undef, undef, undef, undef, undef, undef, undef, undef], defers := [] } ∧ M.length = L.length ∧ CoRow W b2 M ∧ CurB W g v P (B + 46) ∧ Kpt w W (fun k => k = g ∨ w.heap.size ≤ k)) ?_ ?_
      rotate_left
      · refine wp_region_held_drew (S := fun _ : World => True) (by kernel_rfl) trivial (fun hHeld => ?_)
        generalize w5.drew = wX at *
        refine wpAnyH_take (i := 0) (v := .slice (some ⟨b2, 0, none⟩) L.length cap) rfl (by kernel_rfl) (by kernel_rfl) (by kernel_rfl) (fun _ _ _ h => (by cases h.1)) (Or.inl ⟨by rfl, ?_⟩) (by trivial) ?_
        · intro W hSW
          go_simp
        simp only [Act.put, List.getElem_toArray, List.getElem_cons_zero, List.setIfInBounds_toArray, List.set_cons_succ, List.set_cons_zero]
        refine wpAnyH_take (i := 1) (v := .int .i64 (k : Int)) rfl (by kernel_rfl) (by kernel_rfl) (by kernel_rfl) (fun _ _ _ h => (by cases h.1)) (Or.inl ⟨by rfl, ?_⟩) (by trivial) ?_
        · intro W hSW
          go_simp
        simp only [Act.put, List.getElem_toArray, List.getElem_cons_succ, List.getElem_cons_zero, List.setIfInBounds_toArray, List.set_cons_succ, List.set_cons_zero]
        refine wpAnyH_take (i := 2) (v := .pointer (some ⟨b2, k * 2, none⟩)) rfl (by kernel_rfl) (by kernel_rfl) (by kernel_rfl) (fun _ _ _ h => (by cases h.1)) (Or.inl ⟨by rfl, ?_⟩) (by trivial) ?_
        · intro W hSW
          go_simp
        simp only [Act.put, List.getElem_toArray, List.getElem_cons_succ, List.getElem_cons_zero, List.setIfInBounds_toArray, List.set_cons_succ, List.set_cons_zero]
        refine wpAnyH_take (i := 3) (v := .pointer (some ⟨b2, k * 2, none⟩)) rfl (by kernel_rfl) (by kernel_rfl) (by kernel_rfl) (fun _ _ _ h => (by cases h.1)) (Or.inl ⟨by rfl, ?_⟩) (by trivial) ?_
        · intro W hSW
          go_simp
        simp only [Act.put, List.getElem_toArray, List.getElem_cons_succ, List.getElem_cons_zero, List.setIfInBounds_toArray, List.set_cons_succ, List.set_cons_zero]
        refine wpAnyH_take (i := 5) (v := .pointer (some ⟨g, 0, none⟩)) rfl (by kernel_rfl) (by kernel_rfl) (by kernel_rfl) (fun _ _ _ h => (by cases h.1)) (Or.inl ⟨by rfl, ?_⟩) (by trivial) ?_
        · intro W hSW
          go_simp
        simp only [Act.put, List.getElem_toArray, List.getElem_cons_succ, List.getElem_cons_zero, List.setIfInBounds_toArray, List.set_cons_succ, List.set_cons_zero]
        refine wpAnyH_ready (rs := [4, 6]) (by kernel_rfl) (by simp) ?_
        refine AllReadyH.cons rfl (fun K hK => ?_) (AllReadyH.cons rfl (fun K hK => ?_) AllReadyH.nil)
        · rw [if_pos (by rfl)]
          obtain ⟨p0, _⟩ := HRD.out _ HOX.out
          go_simp
          refine hK.out _ _ trivial (fun hSS => ?_)
          clear hK
          refine wpAnyH_ready (rs := [6]) (by kernel_rfl) (by simp) ?_
          refine AllReadyH.cons rfl (fun K hK => ?_) AllReadyH.nil
          rw [if_pos (by rfl)]
          go_simp
          refine (pick_any 3 g v P (B + 44) _ HCX.out (by omega) hl (by omega)).mono ?_
          rintro e wY ⟨x, rfl, hx, hcx, hkx⟩
          have HCY : Hid (CurB wY g v P (B + 46)) := hcx
          have HKY : Hid (Kpt w wY (fun k => k = g ∨ w.heap.size ≤ k)) := HGK.out _ _ HKX.out hkx
          have HOY : Hid (CoRow wY b2 L) := HOX.out.apart hkx (by omega)
          clear hcx hkx
          go_simp
          refine hK.out _ _ trivial (fun hSS => ?_)
          clear hK
          
          refine wpAnyH_take (i := 7) (v := .int .i64 (x - 1)) rfl (by kernel_rfl) (by kernel_rfl) (by kernel_rfl) (fun _ _ _ h => (by cases h.1)) (Or.inl ⟨by rfl, ?_⟩) (by trivial) ?_
          · intro W hSW
            go_simp
            exact i64_wrap (by omega) (by omega)
          simp only [Act.put, List.getElem_toArray, List.getElem_cons_succ, List.getElem_cons_zero, List.setIfInBounds_toArray, List.set_cons_succ, List.set_cons_zero]
          refine wpAnyH_take (i := 8) (v := .int .i64 (y + (x - 1))) rfl (by kernel_rfl) (by kernel_rfl) (by kernel_rfl) (fun _ _ _ h => (by cases h.1)) (Or.inl ⟨by rfl, ?_⟩) (by trivial) ?_
          · intro W hSW
            go_simp
            exact i64_wrap (by omega) (by omega)
          simp only [Act.put, List.getElem_toArray, List.getElem_cons_succ, List.getElem_cons_zero, List.setIfInBounds_toArray, List.set_cons_succ, List.set_cons_zero]
          refine wpAnyH_take (i := 9) (v := .pointer (some ⟨b2, k * 2, none⟩)) rfl (by kernel_rfl) (by kernel_rfl) (by kernel_rfl) (fun _ _ _ h => (by cases h.1)) (Or.inl ⟨by rfl, ?_⟩) (by trivial) ?_
          · intro W hSW
            go_simp
          simp only [Act.put, List.getElem_toArray, List.getElem_cons_succ, List.getElem_cons_zero, List.setIfInBounds_toArray, List.set_cons_succ, List.set_cons_zero]
          refine wpAnyH_take (i := 10) (v := .pointer (some ⟨b2, k * 2, none⟩)) rfl (by kernel_rfl) (by kernel_rfl) (by kernel_rfl) (fun _ _ _ h => (by cases h.1)) (Or.inl ⟨by rfl, ?_⟩) (by trivial) ?_
          · intro W hSW
            go_simp
          simp only [Act.put, List.getElem_toArray, List.getElem_cons_succ, List.getElem_cons_zero, List.setIfInBounds_toArray, List.set_cons_succ, List.set_cons_zero]
          refine wpAnyH_ready (rs := [11]) (by kernel_rfl) (by simp) ?_
          refine AllReadyH.cons rfl (fun K hK => ?_) AllReadyH.nil
          rw [if_pos (by rfl)]
          obtain ⟨q0, qf⟩ := HRD.out _ HOY.out
          have hks := kpt_set wY b2 (k * 2) (.int .i64 (y + (x - 1))) (S := fun j => j = b2) rfl
          have HOZ : Hid (CoRow (wY.setCell ⟨b2, k * 2, none⟩ (.int .i64 (y + (x - 1)))) b2 (L.set k (y + (x - 1), (L[k]'hkl).2))) := HOY.out.set0 k hkl _
          have HCZ : Hid (CurB (wY.setCell ⟨b2, k * 2, none⟩ (.int .i64 (y + (x - 1)))) g v P (B + 46)) := HCK.out _ _ _ _ HCY.out (fun j hj => by omega) hks
          have HKZ : Hid (Kpt w (wY.setCell ⟨b2, k * 2, none⟩ (.int .i64 (y + (x - 1)))) (fun k => k = g ∨ w.heap.size ≤ k)) := HGO.out _ _ HKY.out _ (fun j hj => by omega) hks
          go_simp
          refine hK.out _ _ trivial (fun hSS => ?_)
          clear hK
          refine wpAnyH_done (by kernel_rfl) ?_ _
          exact ⟨rfl, x, _, rfl, by simp, HOZ.out, HCZ.out, HKZ.out⟩
          
        · rw [if_pos (by rfl)]
          go_simp
          refine (pick_any 3 g v P (B + 44) _ HCX.out (by omega) hl (by omega)).mono ?_
          rintro e wY ⟨x, rfl, hx, hcx, hkx⟩
          have HCY : Hid (CurB wY g v P (B + 46)) := hcx
          have HKY : Hid (Kpt w wY (fun k => k = g ∨ w.heap.size ≤ k)) := HGK.out _ _ HKX.out hkx
          have HOY : Hid (CoRow wY b2 L) := HOX.out.apart hkx (by omega)
          clear hcx hkx
          go_simp
          refine hK.out _ _ trivial (fun hSS => ?_)
          clear hK
          
          refine wpAnyH_take (i := 7) (v := .int .i64 (x - 1)) rfl (by kernel_rfl) (by kernel_rfl) (by kernel_rfl) (fun _ _ _ h => (by cases h.1)) (Or.inl ⟨by rfl, ?_⟩) (by trivial) ?_
          · intro W hSW
            go_simp
            exact i64_wrap (by omega) (by omega)
          simp only [Act.put, List.getElem_toArray, List.getElem_cons_succ, List.getElem_cons_zero, List.setIfInBounds_toArray, List.set_cons_succ, List.set_cons_zero]
          refine wpAnyH_ready (rs := [4]) (by kernel_rfl) (by simp) ?_
          refine AllReadyH.cons rfl (fun K hK => ?_) AllReadyH.nil
          rw [if_pos (by rfl)]
          obtain ⟨p0, _⟩ := HRD.out _ HOY.out
          go_simp
          refine hK.out _ _ trivial (fun hSS => ?_)
          clear hK
          refine wpAnyH_take (i := 8) (v := .int .i64 (y + (x - 1))) rfl (by kernel_rfl) (by kernel_rfl) (by kernel_rfl) (fun _ _ _ h => (by cases h.1)) (Or.inl ⟨by rfl, ?_⟩) (by trivial) ?_
          · intro W hSW
            go_simp
            exact i64_wrap (by omega) (by omega)
          simp only [Act.put, List.getElem_toArray, List.getElem_cons_succ, List.getElem_cons_zero, List.setIfInBounds_toArray, List.set_cons_succ, List.set_cons_zero]
          refine wpAnyH_take (i := 9) (v := .pointer (some ⟨b2, k * 2, none⟩)) rfl (by kernel_rfl) (by kernel_rfl) (by kernel_rfl) (fun _ _ _ h => (by cases h.1)) (Or.inl ⟨by rfl, ?_⟩) (by trivial) ?_
          · intro W hSW
            go_simp
          simp only [Act.put, List.getElem_toArray, List.getElem_cons_succ, List.getElem_cons_zero, List.setIfInBounds_toArray, List.set_cons_succ, List.set_cons_zero]
          refine wpAnyH_take (i := 10) (v := .pointer (some ⟨b2, k * 2, none⟩)) rfl (by kernel_rfl) (by kernel_rfl) (by kernel_rfl) (fun _ _ _ h => (by cases h.1)) (Or.inl ⟨by rfl, ?_⟩) (by trivial) ?_
          · intro W hSW
            go_simp
          simp only [Act.put, List.getElem_toArray, List.getElem_cons_succ, List.getElem_cons_zero, List.setIfInBounds_toArray, List.set_cons_succ, List.set_cons_zero]
          refine wpAnyH_ready (rs := [11]) (by kernel_rfl) (by simp) ?_
          refine AllReadyH.cons rfl (fun K hK => ?_) AllReadyH.nil
          rw [if_pos (by rfl)]
          obtain ⟨q0, qf⟩ := HRD.out _ HOY.out
          have hks := kpt_set wY b2 (k * 2) (.int .i64 (y + (x - 1))) (S := fun j => j = b2) rfl
          have HOZ : Hid (CoRow (wY.setCell ⟨b2, k * 2, none⟩ (.int .i64 (y + (x - 1)))) b2 (L.set k (y + (x - 1), (L[k]'hkl).2))) := HOY.out.set0 k hkl _
          have HCZ : Hid (CurB (wY.setCell ⟨b2, k * 2, none⟩ (.int .i64 (y + (x - 1)))) g v P (B + 46)) := HCK.out _ _ _ _ HCY.out (fun j hj => by omega) hks
          have HKZ : Hid (Kpt w (wY.setCell ⟨b2, k * 2, none⟩ (.int .i64 (y + (x - 1)))) (fun k => k = g ∨ w.heap.size ≤ k)) := HGO.out _ _ HKY.out _ (fun j hj => by omega) hks
          go_simp
          refine hK.out _ _ trivial (fun hSS => ?_)
          clear hK
          refine wpAnyH_done (by kernel_rfl) ?_ _
          exact ⟨rfl, x, _, rfl, by simp, HOZ.out, HCZ.out, HKZ.out⟩
          
      · rintro e a W ⟨rfl, x, M, rfl, hML, hMO, hMC, hMK⟩
        have HMO : Hid (CoRow W b2 M) := hMO
        have HMC : Hid (CurB W g v P (B + 46)) := hMC
        have HMK : Hid (Kpt w W (fun k => k = g ∨ w.heap.size ≤ k)) := hMK
        clear hMO hMC hMK HCX HKX HOX HRD
        have hkM : k < M.length := by omega
        go_wp2_with fail
        refine (pick_any ((L.length : Int) + 1) g v P (B + 46) _ HMC.out (by omega) hl (by omega)).mono ?_
        rintro e w7 ⟨z, rfl, hz, hc7, hk7⟩
        have ho7 := HMO.out.apart hk7 (by omega)
        have hK7 := HGK.out _ _ HMK.out hk7
        obtain ⟨⟨_, s1⟩, _, s2⟩ := ho7.2 k hkM
        have hks := kpt_set w7 b2 (k * 2 + 1) (.int .i64 z) (S := fun j => j = b2) rfl
        have HO : Hid (CoRow (w7.setCell ⟨b2, k * 2 + 1, none⟩ (.int .i64 z)) b2 (M.set k ((M[k]'hkM).1, z))) := ho7.set1 k hkM z
        have HC : Hid (CurB (w7.setCell ⟨b2, k * 2 + 1, none⟩ (.int .i64 z)) g v P (B + 48)) := HCK.out _ _ _ _ hc7 (fun j hj => by omega) hks
        have HK : Hid (Kpt w (w7.setCell ⟨b2, k * 2 + 1, none⟩ (.int .i64 z)) (fun k => k = g ∨ w.heap.size ≤ k)) := HGO.out _ _ hK7 _ (fun j hj => by omega) hks
        clear ho7 hK7 hks hc7 hk7 HMO HMC HMK
        have hLN : (M.set k ((M[k]'hkM).1, z)).length = L.length := by simp [hML]
        obtain ⟨N, hN⟩ : ∃ N, N = M.set k ((M[k]'hkM).1, z) := ⟨_, rfl⟩
        rw [← hN] at HO hLN
        clear hN
        go_wp2_with fail
        clear s1 s2
        generalize w7.setCell ⟨b2, k * 2 + 1, none⟩ (.int .i64 z) = w8 at *
        go_wp2_with fail
        refine (one_any 20 g v P (B + 48) _ HC.out (by omega) hl (by omega)).mono ?_
        rintro e v1 ⟨cc, rfl, hd1, he1⟩
        have HDC : Hid (CurB v1 g v P (B + 50)) := hd1
        have HDK : Hid (Kpt w v1 (fun k => k = g ∨ w.heap.size ≤ k)) := HGK.out _ _ HK.out he1
        have HDO : Hid (CoRow v1 b2 N) := HO.out.apart he1 (by omega)
        clear hd1 he1 HC HK HO
        cases cc with
        | true =>
          go_wp2_with fail
          refine (pick_any 3 g v P (B + 50) _ HDC.out (by omega) hl (by omega)).mono ?_
          rintro e v2 ⟨z, rfl, hz, hd2, he2⟩
          have HEC : Hid (CurB v2 g v P (B + 80)) := hd2.mono (by omega)
          have HEK : Hid (Kpt w v2 (· = g)) := HKE.out _ (HGK.out _ _ HDK.out he2)
          have HEO : Hid (DrCo v2 w.heap.size (.slice (some ⟨b2, 0, none⟩) (N).length cap) N) := ⟨b2, cap, rfl, by omega, hmax2, hwb, HDO.out.apart he2 (by omega)⟩
          have HLL : Hid (1 ≤ (N).length ∧ (N).length ≤ 13) := ⟨by omega, by omega⟩
          clear hd2 he2 HDC HDK HDO
          go_wp2_with fail
          go_ret2
          exact ⟨⟨_, N, T + (z - 1), (by rw [hLN] <;> rfl), HLL.out, HEO.out⟩, HEC.out, HEK.out⟩
        | false =>
          have HEC : Hid (CurB v1 g v P (B + 80)) := HDC.out.mono (by omega)
          have HEK : Hid (Kpt w v1 (· = g)) := HKE.out _ HDK.out
          have HEO : Hid (DrCo v1 w.heap.size (.slice (some ⟨b2, 0, none⟩) (N).length cap) N) := ⟨b2, cap, rfl, by omega, hmax2, hwb, HDO.out⟩
          have HLL : Hid (1 ≤ (N).length ∧ (N).length ≤ 13) := ⟨by omega, by omega⟩
          clear HDC HDK HDO
          go_wp2_with fail
          go_ret2
          exact ⟨⟨_, N, T, (by rw [hLN] <;> rfl), HLL.out, HEO.out⟩, HEC.out, HEK.out⟩
    | false =>
      have HC : Hid (CurB w4 g v P (B + 48)) := HC4.out.mono (by omega)
      have HK : Hid (Kpt w w4 (fun k => k = g ∨ w.heap.size ≤ k)) := HK4.out
      have HO : Hid (CoRow w4 b2 L) := HO4.out
      clear HC4 HK4 HO4
      go_wp2_with fail
      refine (one_any 20 g v P (B + 48) _ HC.out (by omega) hl (by omega)).mono ?_
      rintro e v1 ⟨cc, rfl, hd1, he1⟩
      have HDC : Hid (CurB v1 g v P (B + 50)) := hd1
      have HDK : Hid (Kpt w v1 (fun k => k = g ∨ w.heap.size ≤ k)) := HGK.out _ _ HK.out he1
      have HDO : Hid (CoRow v1 b2 L) := HO.out.apart he1 (by omega)
      clear hd1 he1 HC HK HO
      cases cc with
      | true =>
        go_wp2_with fail
        refine (pick_any 3 g v P (B + 50) _ HDC.out (by omega) hl (by omega)).mono ?_
        rintro e v2 ⟨z, rfl, hz, hd2, he2⟩
        have HEC : Hid (CurB v2 g v P (B + 80)) := hd2.mono (by omega)
        have HEK : Hid (Kpt w v2 (· = g)) := HKE.out _ (HGK.out _ _ HDK.out he2)
        have HEO : Hid (DrCo v2 w.heap.size (.slice (some ⟨b2, 0, none⟩) (L).length cap) L) := ⟨b2, cap, rfl, by omega, hmax2, hwb, HDO.out.apart he2 (by omega)⟩
        have HLL : Hid (1 ≤ (L).length ∧ (L).length ≤ 13) := ⟨by omega, by omega⟩
        clear hd2 he2 HDC HDK HDO
        go_wp2_with fail
        go_ret2
        exact ⟨⟨_, L, T + (z - 1), rfl, HLL.out, HEO.out⟩, HEC.out, HEK.out⟩
      | false =>
        have HEC : Hid (CurB v1 g v P (B + 80)) := HDC.out.mono (by omega)
        have HEK : Hid (Kpt w v1 (· = g)) := HKE.out _ HDK.out
        have HEO : Hid (DrCo v1 w.heap.size (.slice (some ⟨b2, 0, none⟩) (L).length cap) L) := ⟨b2, cap, rfl, by omega, hmax2, hwb, HDO.out⟩
        have HLL : Hid (1 ≤ (L).length ∧ (L).length ≤ 13) := ⟨by omega, by omega⟩
        clear HDC HDK HDO
        go_wp2_with fail
        go_ret2
        exact ⟨⟨_, L, T, rfl, HLL.out, HEO.out⟩, HEC.out, HEK.out⟩
end Go.Proofs.Ytjbhhllfbonaiaa

namespace Go.Proofs.Ytjbhhllfbonaiaa
open Go.RowKit

set_option maxRecDepth 20000 in
set_option maxHeartbeats 1000000 in
theorem drawAliasOf_any (v : Value) (P : List Int) (w : World) (hr : ZRow .u8 w v P) (hb : Hid (∀ x ∈ P, 0 ≤ x ∧ x ≤ 255)) (hl : P.length ≤ 9223372036854775807) :
    Calls Try.prog 4 #[v] w fun e w' => (∃ u L, e = .returned u ∧ (1 ≤ L.length ∧ L.length ≤ 13) ∧ DrW w' w.heap.size u L) ∧ Below w.heap.size w w' := by
  have HD := drawGoodWeights_any v P w hr hb hl
  have HDD : Hid (Calls Try.prog 14 #[v] w fun e w' => (∃ u L, e = .returned u ∧ (1 ≤ L.length ∧ L.length ≤ 13) ∧ DrW w' w.heap.size u L) ∧ Below w.heap.size w w') := HD
  clear HD hr
  go_enter Try.func4, Try.ntmps4
  go_wp2_with fail
  refine HDD.out.mono ?_
  rintro e w1 ⟨⟨u, L, rfl, hL, hd⟩, hb1⟩
  have HW : Hid (DrW w1 w.heap.size u L ∧ Below w.heap.size w w1) := ⟨hd, hb1⟩
  clear hd hb1 HDD
  go_wp2_with fail
  go_ret
  exact ⟨⟨u, L, rfl, hL, HW.out.1⟩, HW.out.2⟩
set_option maxRecDepth 20000 in
set_option maxHeartbeats 1000000 in
theorem drawPickBy_any (v : Value) (P : List Int) (w : World) (hr : ZRow .u8 w v P) (hb : Hid (∀ x ∈ P, 0 ≤ x ∧ x ≤ 255)) (hl : P.length ≤ 9223372036854775807) :
    Calls Try.prog 12 #[v] w fun e w' => (∃ u L t d, e = .returned (.tuple #[u, .int .i64 t, .int .i64 d]) ∧ (1 ≤ L.length ∧ L.length ≤ 13) ∧ DrCo w' w.heap.size u L) ∧ Below w.heap.size w w' := by
  have HC0 : Hid (CurB (w.alloc (.cells #[v, .int .i64 0, .int .u64 0] 52)) w.heap.size v P 0) := new_cur hr hb.out
  have HCL : Hid (0 < P.length → ∀ k, v.ownBlock = some k → k < (w.alloc (.cells #[v, .int .i64 0, .int .u64 0] 52)).heap.size) := fun h0 k hk => by have := zrow_lt hr h0 k hk; simp; omega
  have HS : Hid ((w.alloc (.cells #[v, .int .i64 0, .int .u64 0] 52)).heap.size = w.heap.size + 1) := by show _ = _; simp
  obtain ⟨a, cap, rfl, hcap, hmax, _⟩ := zrow_value hr
  clear hr
  go_enter Try.func12, Try.ntmps12
  go_wp2_with fail
  refine (columns_any w.heap.size _ P 0 _ HC0.out (by omega) hl HCL).mono ?_
  rintro e w1 ⟨⟨u, L, t, rfl, hL, hd⟩, hc, hk⟩
  have HD : Hid (DrCo w1 (w.heap.size + 1) u L) := by rw [← HS.out]; exact hd
  have HC1 : Hid (CurB w1 w.heap.size (.slice a P.length cap) P 80) := hc.mono (by omega)
  have HK1 : Hid (Kpt (w.alloc (.cells #[.slice a P.length cap, .int .i64 0, .int .u64 0] 52)) w1 (· = w.heap.size)) := hk
  clear hd hk hc HS HC0 HCL
  go_wp2_with fail
  refine (pick_any 400 w.heap.size _ P 80 _ HC1.out (by omega) hl (by omega)).mono ?_
  rintro e w2 ⟨m, rfl, hy, _, hk⟩
  have HB : Hid (Below w.heap.size w w2) := cur_below (HK1.out.trans hk)
  have HD2 : Hid (DrCo w2 w.heap.size u L) := (HD.out.apart hk (fun j hj e => by omega)).down (by omega)
  clear hk HK1 HC1 HD
  go_wp2_with fail
  go_ret3
  exact ⟨⟨u, L, t, _, rfl, hL, HD2.out⟩, HB.out⟩
end Go.Proofs.Ytjbhhllfbonaiaa
