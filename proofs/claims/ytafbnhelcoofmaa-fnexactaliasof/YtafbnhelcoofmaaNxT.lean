import Derived.Test.YtafbnhelcoofmaaNxS
namespace Go.Proofs.Ytafbnhelcoofmaa
open Go.RowKit

theorem results_trn30 {fn : Func} {p u z : Tmp} {ty : TypeId} (h : fn.results = #[.cell p ty, .tmp u, .tmp z]) (tmps : Array Value) (P : Program) (w : World) :
    (results fn tmps).run P w =
      ((asAddr (tmps.getD p undef)).run P w).andThen fun a w₁ => ((loadVar ty a).run P w₁).andThen fun v w₂ => .ok (.tuple #[v, tmps.getD u undef, tmps.getD z undef]) w₂ := by
  simp only [results, h]
  simp [Sem.run_bind, Result.andThen]
/-- A struct and two plain values, told. -/
theorem results_trn3 {P : Program} {fn : Func} {p u z : Tmp} {ty : TypeId} (h : fn.results = #[.cell p ty, .tmp u, .tmp z]) (tmps : Array Value) (w : World) (g : Nat) (t : TypeId) (cs : Array Value) (fr : Nat × Nat) (d : TypeDesc) (x y : Value)
    (hp : tmps.getD p undef = .pointer (some ⟨g, 0, none⟩)) (hu : tmps.getD u undef = x) (hz : tmps.getD z undef = y) (hg : w.heap[g]? = some (.cells cs t fr))
    (hd0 : P.underlying ty = some d) (hd : (match d with | .struct _ | .array _ _ => true | _ => false) = true) (hi : (P.info? ty).map (·.size) = some cs.size) :
    (results fn tmps).run P w = .ok (.tuple #[.agg cs, x, y]) w := by
  have hp' : tmps[p]?.getD undef = .pointer (some ⟨g, 0, none⟩) := by simpa using hp
  have hu' : tmps[u]?.getD undef = x := by simpa using hu
  have hz' : tmps[z]?.getD undef = y := by simpa using hz
  rw [results_trn30 h]
  simp [hp', hu', hz', asAddr, run_loadVar_row w g t ty cs fr d hg hd0 hd hi, Result.andThen]
/-- What NextTurn tells. -/
def NTA (w' : World) (base : Nat) (ok : Bool) (k : Nat) (A L : List Int) (e : Ending) : Prop := ∃ va vu, e = .returned (.tuple #[TrnV va vu, .int .i64 (if ok then (k : Int) else 0), .bool ok]) ∧ OwnT w' base va vu (if ok then A else []) (if ok then L else [])
theorem nta_off (w' : World) (base k : Nat) (A L : List Int) : NTA w' base false k A L (.returned (.tuple #[.agg #[.slice none 0 0, .slice none 0 0], .int .i64 0, .bool false])) := ⟨_, _, rfl, .inl ⟨rfl, rfl, rfl, rfl⟩⟩

set_option maxRecDepth 20000 in
set_option maxHeartbeats 8000000 in
theorem sNextTurn_any (va vu : Value) (A U : List Int) (w : World) (ha : ZRow .i64 w va A) (hu : ZRow .i64 w vu U) (hla : A.length ≤ 1048576) :
    Calls Try.prog 21 #[TrnV va vu] w fun e w' => NTA w' w.heap.size (nxtB A U) (nxtK A U) A (nxtL A U) e ∧ Below w.heap.size w w' := by
  have HG : Hid (∀ W, Below w.heap.size w W → Calls Try.prog 37 #[TrnV va vu] W fun e w' => e = .returned (.bool (goodT A U)) ∧ Below W.heap.size W w') := fun W hW => sGoodTurn_any va vu A U W (ha.kept hW) (hu.kept hW) hla
  have HNX : Hid (goodT A U = true → ∀ W, Below w.heap.size w W → Calls Try.prog 38 #[TrnV va vu] W fun e w' => NxA w' W.heap.size A U e ∧ Below W.heap.size W w') := fun hg W hW => l12Next_any va vu A U W (ha.kept hW) (hu.kept hW) hg
  have HG2 : Hid (∀ v1 v2 W, ZRow .i64 W v1 A → ZRow .i64 W v2 (nxtL A U) → Calls Try.prog 37 #[TrnV v1 v2] W fun e w' => e = .returned (.bool (goodT A (nxtL A U))) ∧ Below W.heap.size W w') := fun v1 v2 W h1 h2 => sGoodTurn_any v1 v2 A (nxtL A U) W h1 h2 hla
  obtain ⟨xa, ca, rfl, hca, hcam, _⟩ := zrow_value ha
  obtain ⟨xu, cu, rfl, hcu, hcum, _⟩ := zrow_value hu
  obtain ⟨W0, hW0⟩ : ∃ W0, W0 = (w.alloc (.cells #[.slice xa A.length ca, .slice xu U.length cu] 33)).alloc (.cells #[.slice none 0 0, .slice none 0 0] 33) := ⟨_, rfl⟩
  have hb0 : Below w.heap.size w W0 := by rw [hW0]; exact (trn_below2 (Below.refl _ _)).2.2
  have hx1 : W0.heap[w.heap.size]? = some (.cells #[.slice xa A.length ca, .slice xu U.length cu] 33) := by rw [hW0]; exact (trn_below2 (Below.refl _ _)).1
  have hx2 : W0.heap[w.heap.size + 1]? = some (.cells #[.slice none 0 0, .slice none 0 0] 33) := by rw [hW0]; exact (trn_below2 (Below.refl _ _)).2.1
  have HX1 : Hid (W0.heap[w.heap.size]? = some (.cells #[.slice xa A.length ca, .slice xu U.length cu] 33)) := hx1
  have HX2 : Hid (W0.heap[w.heap.size + 1]? = some (.cells #[.slice none 0 0, .slice none 0 0] 33)) := hx2
  have hs0 : w.heap.size + 1 < W0.heap.size := by rw [hW0]; simp
  have HW0 : Hid ((w.alloc (.cells #[.slice xa A.length ca, .slice xu U.length cu] 33)).alloc (.cells #[.slice none 0 0, .slice none 0 0] 33) = W0) := hW0.symm
  obtain ⟨⟨p0, p1⟩, _⟩ := trn_cells hx1
  unfold TrnV at HG HNX HG2 ⊢
  clear hW0 hx1 hx2 ha hu
  cases hg : goodT A U with
  | false =>
    rw [hg] at HG
    have HB : Hid (nxtB A U = false) := by show _ = _; unfold nxtB; rw [hg]; rfl
    rw [HB.out]
    clear hg
    go_enter Try.func21, Try.ntmps21
    go_wp2_with (rw [HW0.out])
    (try rw [HW0.out])
    refine (HG.out _ hb0).mono ?_
    rintro e w1 ⟨rfl, hb1⟩
    have HX21 : Hid (w1.heap[w.heap.size + 1]? = some (.cells #[.slice none 0 0, .slice none 0 0] 33)) := (hb1.block _ hs0).trans HX2.out
    have hbw1 := hb0.trans (hb1.mono hb0.size)
    obtain ⟨⟨d0, d1⟩, ⟨z0, z1⟩⟩ := trn_cells HX21.out
    clear p0 p1 hb1
    go_wp2_with fail
    (try simp only [Exit.inBlock, Exit.then])
    refine bodyPost_ret (results_trn3 rfl _ _ (w.heap.size + 1) 33 #[.slice none 0 0, .slice none 0 0] (0, 0) _ (.int .i64 0) (.bool false) rfl rfl rfl ?_ Try.underlying33 rfl (by kernel_rfl)) rfl ⟨nta_off _ _ _ _ _, ?_⟩
    · exact put2v_heap HX21.out
    · exact put2v_below hbw1 (by omega) _ _
  | true =>
    rw [hg] at HG
    have HN := HNX.out hg
    have HNB : Hid (nxtB A U = goodT A (nxtL A U)) := by show _ = _; unfold nxtB; rw [hg]; rfl
    have HLL : Hid ((nxtL A U).length = A.length) := nxtL_length (goodT_parts hg).2.1
    rw [HNB.out]
    clear hg HNX
    go_enter Try.func21, Try.ntmps21
    go_wp2_with (rw [HW0.out])
    (try rw [HW0.out])
    refine (HG.out _ hb0).mono ?_
    rintro e w1 ⟨rfl, hb1⟩
    have hbw1 := hb0.trans (hb1.mono hb0.size)
    have HX11 : Hid (w1.heap[w.heap.size]? = some (.cells #[.slice xa A.length ca, .slice xu U.length cu] 33)) := (hb1.block _ (by omega)).trans HX1.out
    have HX21 : Hid (w1.heap[w.heap.size + 1]? = some (.cells #[.slice none 0 0, .slice none 0 0] 33)) := (hb1.block _ hs0).trans HX2.out
    have hs1 := hb1.size
    clear p0 p1 hb1
    obtain ⟨⟨p0, p1⟩, _⟩ := trn_cells HX11.out
    go_wp2_with fail
    refine (HN _ hbw1).mono ?_
    rintro e w2 ⟨⟨g1, c1, g2, c2, rfl, hc1, hm1, hc2, hm2, hg1, hg2, hne, hq1, hq2⟩, hb2⟩
    unfold TrnV
    have hbw2 := hbw1.trans (hb2.mono hbw1.size)
    have hX22 : w2.heap[w.heap.size + 1]? = some (.cells #[.slice none 0 0, .slice none 0 0] 33) := (hb2.block _ (by omega)).trans HX21.out
    have hs2 := hb2.size
    have hgl1 : g1 < w2.heap.size := hq1.1
    have hgl2 : g2 < w2.heap.size := hq2.1
    obtain ⟨W3, hW3⟩ : ∃ W3, W3 = w2.alloc (.cells #[.slice (some ⟨g1, 0, none⟩) A.length c1, .slice (some ⟨g2, 0, none⟩) A.length c2] 33) := ⟨_, rfl⟩
    have hb23 : Below w2.heap.size w2 W3 := by rw [hW3]; exact (Below.refl _ _).alloc (Nat.le_refl _) _
    have hx3 : W3.heap[w2.heap.size]? = some (.cells #[.slice (some ⟨g1, 0, none⟩) A.length c1, .slice (some ⟨g2, 0, none⟩) A.length c2] 33) := by rw [hW3]; exact trn_new _ _
    have HX23 : Hid (W3.heap[w.heap.size + 1]? = some (.cells #[.slice none 0 0, .slice none 0 0] 33)) := (hb23.block _ (by omega)).trans hX22
    have HQ3 : Hid (ZSRow W3 g1 A ∧ ZSRow W3 g2 (nxtL A U)) := ⟨hq1.kept hb23, hq2.kept hb23⟩
    have hbw3 := hbw2.trans (hb23.mono hbw2.size)
    have HC : Hid (A.length ≤ c1 ∧ c1 ≤ 9223372036854775807 ∧ A.length ≤ c2 ∧ c2 ≤ 9223372036854775807) := ⟨hc1, hm1, hc2, hm2⟩
    have HX3 : Hid (W3.heap[w2.heap.size]? = some (.cells #[.slice (some ⟨g1, 0, none⟩) A.length c1, .slice (some ⟨g2, 0, none⟩) A.length c2] 33)) := hx3
    have HR3 : Hid (ZRow .i64 W3 (.slice (some ⟨g1, 0, none⟩) A.length c1) A ∧ ZRow .i64 W3 (.slice (some ⟨g2, 0, none⟩) A.length c2) (nxtL A U)) := by
      refine ⟨HQ3.out.1.rowc hc1 hm1, ?_⟩
      have h := HQ3.out.2.rowc (cap := c2) (by rw [HLL.out]; exact hc2) hm2
      rw [HLL.out] at h
      exact h
    have HW3 : Hid (w2.alloc (.cells #[.slice (some ⟨g1, 0, none⟩) A.length c1, .slice (some ⟨g2, 0, none⟩) A.length c2] 33) = W3) := hW3.symm
    have hs23 : w2.heap.size < W3.heap.size := by rw [hW3]; simp
    clear p0 p1 hb2 hX22 hq1 hq2 hW3 hb23 HX11 HX21 HX1 HX2 hc1 hm1 hc2 hm2 hbw2 hbw1
    obtain ⟨⟨p0, p1⟩, _⟩ := trn_cells hx3
    clear hx3
    go_wp2_with (rw [HW3.out])
    refine (HG2.out _ _ _ HR3.out.1 HR3.out.2).mono ?_
    rintro e w4 ⟨rfl, hb4⟩
    have hbw4 := hbw3.trans (hb4.mono hbw3.size)
    have HX24 : Hid (w4.heap[w.heap.size + 1]? = some (.cells #[.slice none 0 0, .slice none 0 0] 33)) := (hb4.block _ (by omega)).trans HX23.out
    have HX34 : Hid (w4.heap[w2.heap.size]? = some (.cells #[.slice (some ⟨g1, 0, none⟩) A.length c1, .slice (some ⟨g2, 0, none⟩) A.length c2] 33)) := (hb4.block _ hs23).trans HX3.out
    have HQ4 : Hid (ZSRow w4 g1 A ∧ ZSRow w4 g2 (nxtL A U)) := ⟨HQ3.out.1.kept hb4, HQ3.out.2.kept hb4⟩
    clear p0 p1 hb4
    cases hok : goodT A (nxtL A U) with
    | false =>
      have HOK : Hid (goodT A (nxtL A U) = false) := hok
      obtain ⟨⟨d0, d1⟩, ⟨z0, z1⟩⟩ := trn_cells HX24.out
      go_wp2_with fail
      (try simp only [Exit.inBlock, Exit.then])
      refine bodyPost_ret (results_trn3 rfl _ _ (w.heap.size + 1) 33 #[.slice none 0 0, .slice none 0 0] (0, 0) _ (.int .i64 0) (.bool false) rfl rfl rfl ?_ Try.underlying33 rfl (by kernel_rfl)) rfl ⟨by rw [HOK.out]; exact nta_off _ _ _ _ _, ?_⟩
      · exact put2v_heap HX24.out
      · exact put2v_below hbw4 (by omega) _ _
    | true =>
      have HOK : Hid (goodT A (nxtL A U) = true) := hok
      obtain ⟨⟨d0, d1⟩, ⟨z0, z1⟩⟩ := trn_cells HX24.out
      obtain ⟨⟨p0, p1⟩, _⟩ := trn_cells HX34.out
      go_wp2_with fail
      (try simp only [Exit.inBlock, Exit.then])
      refine bodyPost_ret (results_trn3 rfl _ _ (w.heap.size + 1) 33 #[.slice (some ⟨g1, 0, none⟩) A.length c1, .slice (some ⟨g2, 0, none⟩) A.length c2] (0, 0) _ (.int .i64 (nxtK A U : Int)) (.bool true) rfl rfl rfl ?_ Try.underlying33 rfl (by kernel_rfl)) rfl ⟨?_, ?_⟩
      · exact put2v_heap HX24.out
      · rw [HOK.out]
        refine ⟨_, _, rfl, .inr ⟨g1, c1, g2, c2, rfl, ?_, HC.out.1, HC.out.2.1, ?_, HC.out.2.2.2, by omega, by omega, hne, ?_, ?_⟩⟩
        · show Value.slice _ A.length c2 = Value.slice _ (nxtL A U).length c2
          rw [HLL.out]
        · show (nxtL A U).length ≤ c2
          rw [HLL.out]; exact HC.out.2.2.1
        · exact put2v_far HQ4.out.1 (by omega)
        · exact put2v_far HQ4.out.2 (by omega)
      · exact put2v_below hbw4 (by omega) _ _
end Go.Proofs.Ytafbnhelcoofmaa
