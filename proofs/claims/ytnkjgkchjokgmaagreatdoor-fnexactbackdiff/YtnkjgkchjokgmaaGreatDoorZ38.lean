import Derived.Test.YtnkjgkchjokgmaaGreatDoorZ37
import Derived.Test.YtnkjgkchjokgmaaGreatDoorZ33
import Derived.Test.YtnkjgkchjokgmaaGreatDoorZ29
import Derived.Test.YtnkjgkchjokgmaaGreatDoorZ30
namespace Go.Proofs.YtnkjgkchjokgmaaGreatDoor
open Go.RowKit

theorem own4_shape9 {w : World} {base n : Nat} {e : TypeId} {v : Value} {xs : List Value} (h : w.ownsRow base e 4 v n xs) : ∃ a cap, v = .slice a n cap ∧ cap ≤ maxLen := by
  rcases h.2 with ⟨rfl, rfl⟩ | ⟨g, cap, cur, rfl, _, _, _, hm, _⟩
  · exact ⟨none, 0, rfl, by unfold maxLen; omega⟩
  · exact ⟨_, cap, rfl, hm⟩
theorem own_lit9 (w : World) (base b : Nat) (e : b = w.heap.size) (hb : base ≤ w.heap.size) : (w.alloc (.cells #[] 56)).ownsRow base 56 4 (.slice (some ⟨b, 0, none⟩) 0 0) 0 (rcells []) := by
  subst e; exact World.ownsRow_lit w #[] 0 hb (by unfold maxLen; omega) rfl

set_option maxRecDepth 20000 in
set_option maxHeartbeats 4000000 in
theorem l9Own_any (f t : Int) (va vu : Value) (A U : List (List UInt8 × Int × Int × List UInt8)) (w : World) (ha : RRow w va A) (hu : RRow w vu U) (hna : ∀ n c, va = .slice none n c → c = 0) (hnu : ∀ n c, vu = .slice none n c → c = 0) (hla : A.length ≤ 1048576) (hlu : U.length ≤ 1048576) :
    Calls Tryz.prog 33 #[DifV f t va vu] w fun e w' => (∃ v1 v2, e = .returned (DifV f t v1 v2) ∧ OwnQ w' w.heap.size v1 A ∧ OwnQ w' w.heap.size v2 U) ∧ Below w.heap.size w w' := by
  unfold DifV
  obtain ⟨aa, ca, rfl, _, hca, _⟩ := id ha
  obtain ⟨au, cu, rfl, _, hcu, _⟩ := id hu
  have HRA : Hid (∀ W, Below w.heap.size w W → RRow W (.slice aa A.length ca) A) := fun W hW => ha.kept hW
  have HRU : Hid (∀ W, Below w.heap.size w W → RRow W (.slice au U.length cu) U) := fun W hW => hu.kept hW
  have HNA : Hid (∀ n c, Value.slice aa A.length ca = .slice none n c → c = 0) := hna
  have HNU : Hid (∀ n c, Value.slice au U.length cu = .slice none n c → c = 0) := hnu
  clear ha hu hna hnu
  have HK0 : Hid (((w.alloc (.cells #[.int .i64 f, .int .i64 t, .slice aa A.length ca, .slice au U.length cu] 29)).alloc (.cells #[.int .i64 0, .int .i64 0, .slice none 0 0, .slice none 0 0] 29)).heap[w.heap.size]? = some (.cells #[.int .i64 f, .int .i64 t, .slice aa A.length ca, .slice au U.length cu] 29) ∧ ((w.alloc (.cells #[.int .i64 f, .int .i64 t, .slice aa A.length ca, .slice au U.length cu] 29)).alloc (.cells #[.int .i64 0, .int .i64 0, .slice none 0 0, .slice none 0 0] 29)).heap[w.heap.size + 1]? = some (.cells #[.int .i64 0, .int .i64 0, .slice none 0 0, .slice none 0 0] 29) ∧ Below w.heap.size w ((w.alloc (.cells #[.int .i64 f, .int .i64 t, .slice aa A.length ca, .slice au U.length cu] 29)).alloc (.cells #[.int .i64 0, .int .i64 0, .slice none 0 0, .slice none 0 0] 29))) := by
    have h := heaps2 (Below.refl ((w.alloc (.cells #[.int .i64 f, .int .i64 t, .slice aa A.length ca, .slice au U.length cu] 29)).alloc (.cells #[.int .i64 0, .int .i64 0, .slice none 0 0, .slice none 0 0] 29)).heap.size ((w.alloc (.cells #[.int .i64 f, .int .i64 t, .slice aa A.length ca, .slice au U.length cu] 29)).alloc (.cells #[.int .i64 0, .int .i64 0, .slice none 0 0, .slice none 0 0] 29)))
    exact h
  go_enter Tryz.func33, Tryz.ntmps33
  go_wp2_with (first | (at_builtin; refine wpList_append_rows rfl (.tmp 3) (.tmp 5) 27 rfl Tryz.underlying27 (w.heap.size + 2) _ 0 [] rfl rfl (own_lit9 _ _ _ (by simp) ?b1) _ A rfl (HRA.out _ ?b2) HNA.out ?b3 ?b4 ?_))
  case b1 => simp
  case b2 => exact HK0.out.2.2.alloc (by simp; omega) _
  case b3 => simp <;> omega
  case b4 => simp <;> omega
  intro v1 w2 hown1 hgrow1
  obtain ⟨a1, k1, hv1, hk1⟩ := own4_shape9 hown1
  subst hv1
  have hz2 : w.heap.size + 3 ≤ w2.heap.size := by have h := hgrow1.size; simp at h; omega
  have HO1 : Hid (OwnQ w2 (w.heap.size + 2) (.slice a1 A.length k1) A) := own_q hown1
  have HKP : Hid (Kpt ((w.alloc (.cells #[.int .i64 f, .int .i64 t, .slice aa A.length ca, .slice au U.length cu] 29)).alloc (.cells #[.int .i64 0, .int .i64 0, .slice none 0 0, .slice none 0 0] 29)) w2 (fun k => w.heap.size + 2 ≤ k)) := (kpt_alloc _ _ _).trans ((grown_kpt hgrow1).mono (fun k _ h => by simp [Value.ownBlock] at h; omega))
  have HM2 : Hid (w2.heap[w.heap.size]? = some (.cells #[.int .i64 f, .int .i64 t, .slice aa A.length ca, .slice au U.length cu] 29)) := (HKP.out.block w.heap.size (by simp; omega) (fun h => by omega)).trans HK0.out.1
  have HR2 : Hid (w2.heap[w.heap.size + 1]? = some (.cells #[.int .i64 0, .int .i64 0, .slice none 0 0, .slice none 0 0] 29)) := (HKP.out.block (w.heap.size + 1) (by simp) (fun h => by omega)).trans HK0.out.2.1
  have hbw2 : Below w.heap.size w w2 := HK0.out.2.2.trans (HKP.out.below (by simp; omega) (fun k hk h => by omega))
  obtain ⟨c0, c1, c2, c3⟩ := dif4 HM2.out
  obtain ⟨f0, f1, f2, f3⟩ := dif4_frozen HM2.out
  have hlt2 : w.heap.size < w2.heap.size := by omega
  have hne2 : w.heap.size ≠ w2.heap.size := by omega
  clear hown1 hgrow1 HKP HK0
  go_wp2_with (first | (at_builtin; refine wpList_append_rows rfl (.tmp 8) (.tmp 10) 27 rfl Tryz.underlying27 w2.heap.size _ 0 [] rfl rfl (own_lit9 _ _ _ (by simp) ?b1) _ U rfl (HRU.out _ ?b2) HNU.out ?b3 ?b4 ?_))
  case b1 => simp
  case b2 => exact (hbw2.setCell (p := ⟨w.heap.size, 2, none⟩) (Nat.le_refl _) _).alloc (by simp; omega) _
  case b3 => simp <;> omega
  case b4 => simp <;> omega
  intro v2 w3 hown2 hgrow2
  obtain ⟨a2, k2, hv2, hk2⟩ := own4_shape9 hown2
  subst hv2
  have hz3 : w2.heap.size + 1 ≤ w3.heap.size := by have h := hgrow2.size; simp at h; omega
  have HO2 : Hid (OwnQ w3 w2.heap.size (.slice a2 U.length k2) U) := own_q hown2
  have HKS : Hid (Kpt w2 w3 (fun k => k = w.heap.size ∨ w2.heap.size ≤ k)) := (kpt_set _ _ _ _ (.inl rfl)).trans ((kpt_alloc _ _ _).trans ((grown_kpt hgrow2).mono (fun k _ h => .inr (by simp [Value.ownBlock] at h; omega))))
  have HM3 : Hid (w3.heap[w.heap.size]? = some (.cells #[.int .i64 f, .int .i64 t, .slice a1 A.length k1, .slice au U.length cu] 29)) := by
    have e1 := heap_setCell_same _ _ 2 _ _ (.slice a1 A.length k1) HM2.out
    have e3 := (((kpt_alloc _ _ _).trans (grown_kpt hgrow2)).block w.heap.size (by simp; omega) (fun h => by simp [Value.ownBlock] at h; omega)).trans e1
    exact e3.trans (by rfl)
  have HR3 : Hid (w3.heap[w.heap.size + 1]? = some (.cells #[.int .i64 0, .int .i64 0, .slice none 0 0, .slice none 0 0] 29)) := (HKS.out.block (w.heap.size + 1) (by omega) (fun h => by omega)).trans HR2.out
  have HO13 : Hid (OwnQ w3 (w.heap.size + 2) (.slice a1 A.length k1) A) := HO1.out.kpt HKS.out (fun g hg h => by have h1 := HO1.out.lt g hg; omega)
  have hbw3 : Below w.heap.size w w3 := hbw2.trans (HKS.out.below hbw2.size (fun k hk h => by omega))
  have HRQ : Hid ((w3.setCell ⟨w.heap.size, 3, none⟩ (.slice a2 U.length k2)).heap[w.heap.size + 1]? = some (.cells #[.int .i64 0, .int .i64 0, .slice none 0 0, .slice none 0 0] 29)) := by
    show (w3.setCell ⟨w.heap.size, 3, none⟩ (.slice a2 U.length k2)).heap[w.heap.size + 1]? = _
    rw [heap_setCell_other _ _ _ _ (show w.heap.size + 1 ≠ w.heap.size by omega)]; exact HR3.out
  have hbw4 : Below w.heap.size w (w3.setCell ⟨w.heap.size, 3, none⟩ (.slice a2 U.length k2)) := hbw3.setCell (p := ⟨w.heap.size, 3, none⟩) (Nat.le_refl _) _
  clear c0 c1 c2 c3 f0 f1 f2 f3
  obtain ⟨c0, c1, c2, c3⟩ := dif4 HM3.out
  obtain ⟨f0, f1, f2, f3⟩ := dif4_frozen HM3.out
  obtain ⟨d0, d1, d2, d3⟩ := dif4 HR3.out
  obtain ⟨g0, g1, g2, g3⟩ := dif4_frozen HR3.out
  clear hown2 hgrow2 HKS
  go_wp2_with fail
  (try simp only [Exit.inBlock, Exit.then])
  refine bodyPost_ret (results_cell_row rfl _ _ (w.heap.size + 1) 29 #[.int .i64 f, .int .i64 t, .slice a1 A.length k1, .slice a2 U.length k2] (0, 0) _ rfl ?_ Tryz.underlying29 rfl (by kernel_rfl)) rfl ⟨⟨_, _, rfl, ?_, ?_⟩, ?_⟩
  · exact put4v_heap HRQ.out
  · exact ((HO13.out.kpt (kpt_set w3 w.heap.size 3 (.slice a2 U.length k2) (S := fun k => k = w.heap.size) rfl) (fun g hg h => by have h1 := HO13.out.lt g hg; omega)).kpt (kpt_put4v _ (w.heap.size + 1) _ _ _ _ (S := fun k => k = w.heap.size + 1) rfl) (fun g hg h => by have h1 := HO13.out.lt g hg; omega)).base (by omega)
  · exact ((HO2.out.kpt (kpt_set w3 w.heap.size 3 (.slice a2 U.length k2) (S := fun k => k = w.heap.size) rfl) (fun g hg h => by have h1 := HO2.out.lt g hg; omega)).kpt (kpt_put4v _ (w.heap.size + 1) _ _ _ _ (S := fun k => k = w.heap.size + 1) rfl) (fun g hg h => by have h1 := HO2.out.lt g hg; omega)).base (by omega)
  · exact put4v_below hbw4 (Nat.le_succ _) _ _ _ _

set_option maxRecDepth 20000 in
set_option maxHeartbeats 4000000 in
theorem sBackDiff_any (f t : Int) (va vu : Value) (A U : List (List UInt8 × Int × Int × List UInt8)) (w : World) (ha : RRow w va A) (hu : RRow w vu U)
    (hxa : Hid (∀ x ∈ A, x.1.length ≤ 1048576 ∧ x.2.2.2.length ≤ 1048576)) (hxu : Hid (∀ x ∈ U, x.1.length ≤ 1048576 ∧ x.2.2.2.length ≤ 1048576)) (hna : ∀ n c, va = .slice none n c → c = 0) (hnu : ∀ n c, vu = .slice none n c → c = 0) :
    Calls Tryz.prog 11 #[DifV f t va vu] w fun e w' => ((difB f t A U = false → DRes w' false 0 0 [] [] e) ∧ (difB f t A U = true → DRes w' true t f U A e)) ∧ Below w.heap.size w w' := by
  have HG : Hid (∀ W, Below w.heap.size w W → Calls Tryz.prog 7 #[DifV f t va vu] W fun e w' => e = .returned (.bool (difB f t A U)) ∧ Below W.heap.size W w') := fun W hW => sGoodDiff_any f t va vu A U W (ha.kept hW) (hu.kept hW) hxa hxu
  have HCP : Hid (A.length ≤ 1048576 → U.length ≤ 1048576 → ∀ W, Below w.heap.size w W → Calls Tryz.prog 33 #[DifV t f vu va] W fun e w' => (∃ v1 v2, e = .returned (DifV t f v1 v2) ∧ OwnQ w' W.heap.size v1 U ∧ OwnQ w' W.heap.size v2 A) ∧ Below W.heap.size W w') := fun h1 h2 W hW => l9Own_any t f vu va U A W (hu.kept hW) (ha.kept hW) hnu hna h2 h1
  have HLEN : Hid (difB f t A U = true → A.length ≤ 1048576 ∧ U.length ≤ 1048576) := fun h => by have h1 := difB_lens h; omega
  obtain ⟨ok, hok⟩ : ∃ ok, ok = difB f t A U := ⟨_, rfl⟩
  rw [← hok] at HG HLEN ⊢
  obtain ⟨aa, ca, hva, _, hca, _⟩ := id ha
  obtain ⟨au, cu, hvu, _, hcu, _⟩ := id hu
  subst hva
  subst hvu
  clear hok ha hu
  unfold DifV at HG HCP ⊢
  go_enter Tryz.func11, Tryz.ntmps11
  go_wp2_with fail
  refine (HG.out _ (((Below.refl w.heap.size w).alloc (Nat.le_refl _) _).alloc (by simp) _)).mono ?_
  rintro e w1 ⟨rfl, hb1⟩
  obtain ⟨hm, hr, hbw⟩ := heaps2 hb1
  have hz1 : w.heap.size + 2 ≤ w1.heap.size := by have h := hb1.size; simpa using h
  have HR : Hid (w1.heap[w.heap.size + 1]? = some (.cells #[.int .i64 0, .int .i64 0, .slice none 0 0, .slice none 0 0] 29)) := hr
  obtain ⟨c0, c1, c2, c3⟩ := dif4 hm
  obtain ⟨d0, d1, d2, d3⟩ := dif4 hr
  obtain ⟨g0, g1, g2, g3⟩ := dif4_frozen hr
  clear hm hr hb1
  cases ok with
  | false =>
    go_wp2_with fail
    (try simp only [Exit.inBlock, Exit.then])
    refine bodyPost_ret (results_row_tmp rfl _ _ (w.heap.size + 1) 29 #[.int .i64 0, .int .i64 0, .slice none 0 0, .slice none 0 0] (0, 0) _ (.bool false) rfl rfl ?_ Tryz.underlying29 rfl (by kernel_rfl)) rfl ⟨by first | exact dres_no _ | exact ⟨fun _ => dres_no _, fun h => (by cases h)⟩, ?_⟩
    · exact put4v_heap HR.out
    · exact put4v_below hbw (Nat.le_succ _) _ _ _ _
  | true =>
    obtain ⟨hA, hU⟩ := HLEN.out rfl
    have HC2 := HCP.out hA hU
    clear HCP HG
    go_wp2_with fail
    refine (HC2 _ hbw).mono ?_
    rintro e w2 ⟨⟨v1, v2, rfl, hr1, hr2⟩, hb2⟩
    obtain ⟨a1, k1, hu1, hk1⟩ := hr1.shape
    obtain ⟨a2, k2, hu2, hk2⟩ := hr2.shape
    subst hu1
    subst hu2
    have HO1 : Hid (OwnQ w2 w1.heap.size (.slice a1 U.length k1) U) := hr1
    have HO2 : Hid (OwnQ w2 w1.heap.size (.slice a2 A.length k2) A) := hr2
    clear hr1 hr2
    have hbw2 : Below w.heap.size w w2 := hbw.trans (hb2.mono hbw.size)
    have HR2 : Hid (w2.heap[w.heap.size + 1]? = some (.cells #[.int .i64 0, .int .i64 0, .slice none 0 0, .slice none 0 0] 29)) := (hb2.block (w.heap.size + 1) (by omega)).trans HR.out
    clear d0 d1 d2 d3 g0 g1 g2 g3 c0 c1 c2 c3
    obtain ⟨d0, d1, d2, d3⟩ := dif4 HR2.out
    obtain ⟨g0, g1, g2, g3⟩ := dif4_frozen HR2.out
    go_wp2_with fail
    (try simp only [Exit.inBlock, Exit.then])
    refine bodyPost_ret (results_row_tmp rfl _ _ (w.heap.size + 1) 29 #[.int .i64 t, .int .i64 f, .slice a1 U.length k1, .slice a2 A.length k2] (0, 0) _ (.bool true) rfl rfl ?_ Tryz.underlying29 rfl (by kernel_rfl)) rfl ⟨by first | exact ⟨_, _, rfl, (HO1.out.kpt (kpt_put4v _ (w.heap.size + 1) _ _ _ _ (S := fun k => k = w.heap.size + 1) rfl) (fun g hg h => by have h1 := HO1.out.lt g hg; omega)).row, (HO2.out.kpt (kpt_put4v _ (w.heap.size + 1) _ _ _ _ (S := fun k => k = w.heap.size + 1) rfl) (fun g hg h => by have h1 := HO2.out.lt g hg; omega)).row⟩ | exact ⟨fun h => (by cases h), fun _ => ⟨_, _, rfl, (HO1.out.kpt (kpt_put4v _ (w.heap.size + 1) _ _ _ _ (S := fun k => k = w.heap.size + 1) rfl) (fun g hg h => by have h1 := HO1.out.lt g hg; omega)).row, (HO2.out.kpt (kpt_put4v _ (w.heap.size + 1) _ _ _ _ (S := fun k => k = w.heap.size + 1) rfl) (fun g hg h => by have h1 := HO2.out.lt g hg; omega)).row⟩⟩, ?_⟩
    · exact put4v_heap HR2.out
    · exact put4v_below hbw2 (Nat.le_succ _) _ _ _ _
end Go.Proofs.YtnkjgkchjokgmaaGreatDoor
