import Derived.Test.YtgfldenhhogpbaaGreatDoorZ35
import Derived.Test.YtgfldenhhogpbaaGreatDoorZ39
import Derived.Test.YtgfldenhhogpbaaGreatDoorZ18
import Derived.Test.YtgfldenhhogpbaaGreatDoorZ15
namespace Go.Proofs.YtgfldenhhogpbaaGreatDoor
open Go.RowKit

/-- The zone at a place of a world. -/
def zO (L : List ZonT) (k : Nat) : ZonT := L[k]?.getD ([], 0, [])
theorem zO_at {L : List ZonT} {k : Nat} (h : k < L.length) : zO L k = L[k] := by unfold zO; rw [List.getElem?_eq_getElem h]; rfl
/-- A zone is good, and stands behind the one ahead. -/
def stepZ (L : List ZonT) (k : Nat) : Bool := zoneB (zO L k).1 (zO L k).2.1 (zO L k).2.2 && (k == 0 || decide (cmpN (zO L (k - 1)).1 (zO L k).1 < 0))
/-- A good world. -/
def worldB (L : List ZonT) : Bool := (decide (1 ≤ L.length) && decide (L.length ≤ 6)) && ((zO L 0).1 == []) && (List.range L.length).all (stepZ L)
theorem stepZ_at {L : List ZonT} {k : Nat} (h : k < L.length) : stepZ L k = (zoneB (L[k]'h).1 (L[k]'h).2.1 (L[k]'h).2.2 && (k == 0 || decide (cmpN (zO L (k - 1)).1 (L[k]'h).1 < 0))) := by
  unfold stepZ; rw [zO_at h]
theorem upZ_all {L : List ZonT} {k : Nat} (h : ∀ j, j < k → stepZ L j = true) (hk : stepZ L k = true) : ∀ j, j < k + 1 → stepZ L j = true := by
  intro j hj
  by_cases e : j = k
  · rw [e]; exact hk
  · exact h j (by omega)
theorem worldB_len {L : List ZonT} (h : ¬ (1 ≤ L.length ∧ L.length ≤ 6)) : worldB L = false := by
  have : (decide (1 ≤ L.length) && decide (L.length ≤ 6)) = false := by simp; omega
  unfold worldB; rw [this]; rfl
theorem worldB_root {L : List ZonT} (hp : 0 < L.length) (h : ¬ (L[0]'hp).1 = []) : worldB L = false := by
  have : ((zO L 0).1 == []) = false := by rw [zO_at hp]; simpa using h
  unfold worldB; rw [this]; simp
theorem worldB_bad {L : List ZonT} (k : Nat) (hk : k < L.length) (h : stepZ L k = false) : worldB L = false := by
  have : (List.range L.length).all (stepZ L) = false := by rw [List.all_eq_false]; exact ⟨k, List.mem_range.2 hk, by simpa using h⟩
  unfold worldB; rw [this]; simp
theorem worldB_all {L : List ZonT} (h0 : 1 ≤ L.length ∧ L.length ≤ 6) (h1 : (L[0]'h0.1).1 = []) (h : ∀ j, j < L.length → stepZ L j = true) : worldB L = true := by
  have : (List.range L.length).all (stepZ L) = true := by rw [List.all_eq_true]; exact fun j hj => h j (List.mem_range.1 hj)
  unfold worldB; rw [this, decide_eq_true h0.1, decide_eq_true h0.2, zO_at h0.1, h1]; rfl
theorem zone_name {x : ZonT} (h : zoneB x.1 x.2.1 x.2.2 = true) : nameB x.1 = true := (zone_facts h).1
theorem world_facts {L : List ZonT} (h : worldB L = true) : (1 ≤ L.length ∧ L.length ≤ 6) ∧ (zO L 0).1 = [] ∧ (∀ j, (hj : j < L.length) → zoneB L[j].1 L[j].2.1 L[j].2.2 = true) ∧ ∀ j, (hj : j + 1 < L.length) → cmpN (L[j]'(by omega)).1 (L[j + 1]).1 < 0 := by
  unfold worldB at h
  simp only [Bool.and_eq_true, decide_eq_true_eq, List.all_eq_true, beq_iff_eq] at h
  obtain ⟨⟨h1, h2⟩, h3⟩ := h
  refine ⟨h1, h2, fun j hj => ?_, fun j hj => ?_⟩
  · have h4 := h3 j (List.mem_range.2 hj)
    rw [stepZ_at hj] at h4
    simp only [Bool.and_eq_true] at h4
    exact h4.1
  · have h4 := h3 (j + 1) (List.mem_range.2 hj)
    rw [stepZ_at hj] at h4
    simp only [Bool.and_eq_true, Bool.or_eq_true, decide_eq_true_eq] at h4
    rcases h4.2 with h5 | h5
    · simp at h5
    · rw [show j + 1 - 1 = j by omega, zO_at (show j < L.length by omega)] at h5
      exact h5
end Go.Proofs.YtgfldenhhogpbaaGreatDoor

namespace Go.Proofs.YtgfldenhhogpbaaGreatDoor
open Go.RowKit

set_option maxRecDepth 20000 in
set_option maxHeartbeats 1000000 in
theorem orderOfZones_any (y x : ZonT) (vb va : Value) (w : World) (hE : EnvZ w) (hN : Hid (nameB y.1 = true ∧ nameB x.1 = true)) (sb : ∃ a n c, vb = .slice a n c) (sa : ∃ a n c, va = .slice a n c) :
    Calls Tryz.prog 36 #[.agg #[.string ⟨y.1.toArray⟩, .int .i64 y.2.1, vb], .agg #[.string ⟨x.1.toArray⟩, .int .i64 x.2.1, va]] w fun e w' => e = .returned (.int .i64 (cmpN y.1 x.1)) ∧ Below w.heap.size w w' := by
  have HC : Hid (∀ W, Below w.heap.size w W → Calls Tryz.prog 64 #[.string ⟨y.1.toArray⟩, .string ⟨x.1.toArray⟩] W fun e w' => e = .returned (.int .i64 (cmpN y.1 x.1)) ∧ Below W.heap.size W w') := fun W hW => by
    have h := orderOfNames_any ⟨y.1.toArray⟩ ⟨x.1.toArray⟩ W (hE.below hW).1.1
    have e : cmpT (⟨y.1.toArray⟩ : ByteArray).data.toList (⟨x.1.toArray⟩ : ByteArray).data.toList = cmpN y.1 x.1 := by show cmpT y.1 x.1 = _; unfold cmpT cmpN; rw [hN.out.1, hN.out.2]; rfl
    rw [e] at h
    exact h
  obtain ⟨a1, n1, k1, rfl⟩ := sb
  obtain ⟨a2, n2, k2, rfl⟩ := sa
  obtain ⟨c, hc⟩ : ∃ c, c = cmpN y.1 x.1 := ⟨_, rfl⟩
  rw [← hc] at HC ⊢
  clear hc hN
  go_enter Tryz.func36, Tryz.ntmps36
  go_wp2_with fail
  refine (HC.out _ (((Below.refl w.heap.size w).alloc (Nat.le_refl _) _).alloc (by simp) _)).mono ?_
  rintro e w1 ⟨rfl, hb1⟩
  obtain ⟨_, _, hbw⟩ := box2 hb1
  go_wp2_with fail
  go_ret
  exact ⟨rfl, hbw⟩

set_option maxRecDepth 20000 in
set_option maxHeartbeats 8000000 in
theorem iGoodWorld_any (v : Value) (L : List ZonT) (w : World) (hr : ZnRow w v L) (hx : Hid (∀ x ∈ L, ZBig x)) (hE : EnvZ w) :
    Calls Tryz.prog 11 #[WldV v] w fun e w' => e = .returned (.bool (worldB L)) ∧ Below w.heap.size w w' := by
  unfold WldV
  obtain ⟨a, cap, rfl, hcap, hmax, HROW⟩ := znrow_value hr
  clear hr
  obtain ⟨r, hrr⟩ : ∃ r, r = worldB L := ⟨_, rfl⟩
  have HRR : Hid (r = worldB L) := hrr
  rw [← hrr]
  clear hrr
  obtain ⟨WB, hWB⟩ : ∃ W, W = w.alloc (.cells #[.slice a L.length cap] 29) := ⟨_, rfl⟩
  have HWB : Hid (w.alloc (.cells #[.slice a L.length cap] 29) = WB) := hWB.symm
  have HCB : Hid (∀ W, Below WB.heap.size WB W → W.cell? ⟨w.heap.size, 0, none⟩ = some (.slice a L.length cap) ∧ Below w.heap.size w W) := fun W hW => by rw [hWB] at hW; exact box1w hW
  clear hWB
  by_cases gl : 1 ≤ L.length ∧ L.length ≤ 6
  case neg =>
    have HF : Hid (r = false) := HRR.out.trans (worldB_len gl)
    by_cases g1 : (L.length : Int) < 1
    · go_enter Tryz.func11, Tryz.ntmps11
      go_wp2_with fail
      go_ret
      exact ⟨ret_bool HF.out.symm, (Below.refl w.heap.size w).alloc (Nat.le_refl _) _⟩
    · have g2 : (6 : Int) < (L.length : Int) := by omega
      go_enter Tryz.func11, Tryz.ntmps11
      go_wp2_with fail
      go_ret
      exact ⟨ret_bool HF.out.symm, (Below.refl w.heap.size w).alloc (Nat.le_refl _) _⟩
  have g1 : ¬ (L.length : Int) < 1 := by omega
  have g2 : ¬ (6 : Int) < (L.length : Int) := by omega
  have hpos : 0 < L.length := by omega
  obtain ⟨b, o, ha, hbl, hcel⟩ := HROW.out hpos
  subst ha
  have hLn : ¬ L = [] := fun e => by rw [e] at hpos; simp at hpos
  have hposi : (0 : Int) < (L.length : Int) := by omega
  obtain ⟨v0, h00⟩ := hcel 0 hpos
  rw [Nat.zero_mul, Nat.add_zero] at h00
  have H00 : Hid (∀ W, Below w.heap.size w W → W.cell? ⟨b, o, none⟩ = some (.string ⟨(L[0]'hpos).1.toArray⟩)) := fun W hW => (h00.kept hW).1
  have HBADR : Hid (¬ (L[0]'hpos).1 = [] → r = false) := fun h => HRR.out.trans (worldB_root hpos h)
  have HALL : Hid ((L[0]'hpos).1 = [] → (∀ j, j < L.length → stepZ L j = true) → r = true) := fun h1 h => HRR.out.trans (worldB_all gl h1 h)
  have HBADA : Hid (∀ k, k < L.length → stepZ L k = false → r = false) := fun k hk h => HRR.out.trans (worldB_bad k hk h)
  obtain ⟨s0, hs0⟩ : ∃ s0, s0 = (L[0]'hpos).1 := ⟨_, rfl⟩
  rw [← hs0] at H00 HBADR HALL
  have hWBw := (HCB.out _ (Below.refl _ _)).2
  have HBB : Hid (Below w.heap.size w WB) := hWBw
  clear h00 hs0 HRR hWBw
  by_cases gr : s0 = []
  case neg =>
    have HF : Hid (r = false) := HBADR.out gr
    have er : (s0 == []) = false := by simpa using gr
    have er' : (s0 != []) = true := by simpa using gr
    clear HBADR HALL HBADA gr hcel
    go_enter Tryz.func11, Tryz.ntmps11
    have c00 := H00.out w (Below.refl _ _)
    go_wp2_with fail
    go_ret
    exact ⟨ret_bool HF.out.symm, (Below.refl w.heap.size w).alloc (Nat.le_refl _) _⟩
  have er : (s0 == []) = true := by simpa using gr
  have er' : (s0 != []) = false := by simpa using gr
  have HALL2 : Hid ((∀ j, j < L.length → stepZ L j = true) → r = true) := HALL.out gr
  clear HALL HBADR
  subst gr
  go_enter Tryz.func11, Tryz.ntmps11
  have c00 := H00.out w (Below.refl _ _)
  go_wp2_with fail
  rw [HWB.out]
  clear c00 H00 er er' HBB
  go_loopw [26] (fun i wr => ∃ k : Nat, k ≤ L.length ∧ i = .int .i64 (k : Int) ∧ Hid (∀ j, j < k → stepZ L j = true) ∧ Below WB.heap.size WB wr) (fun i _ => L.length - (intOf i).toNat)
  case atStart => exact ⟨0, Nat.zero_le _, rfl, fun j h => absurd h (Nat.not_lt_zero _), Below.refl _ _⟩
  case round =>
    obtain ⟨k, hk, rfl, HA, hbB⟩ := hrel
    have hb : Below w.heap.size w wr := (HCB.out wr hbB).2
    by_cases hlt : k < L.length
    · obtain ⟨va, hcx0⟩ := hcel k hlt
      have hcx := hcx0.kept hb
      have hxl := hx.out _ (List.getElem_mem hlt)
      have HG : Hid (stepZ L k = (zoneB (L[k]'hlt).1 (L[k]'hlt).2.1 (L[k]'hlt).2.2 && (k == 0 || decide (cmpN (zO L (k - 1)).1 (L[k]'hlt).1 < 0)))) := stepZ_at hlt
      have HBAD : Hid (stepZ L k = false → r = false) := HBADA.out k hlt
      have HUPA : Hid (stepZ L k = true → ∀ j, j < k + 1 → stepZ L j = true) := fun h => upZ_all HA.out h
      have HPREV : Hid (∀ j, (hj : k = j + 1) → ∃ y vb, zO L (k - 1) = y ∧ nameB y.1 = true ∧ y.1.length ≤ 1048576 ∧ (∃ a n c, vb = .slice a n c) ∧ ∀ W, Below w.heap.size w W → ZonAt W b (o + j * 3) y vb) := fun j hj => by
        obtain ⟨vb, h⟩ := hcel j (by omega)
        have h1 := HA.out j (by omega)
        rw [stepZ_at (show j < L.length by omega)] at h1
        simp only [Bool.and_eq_true] at h1
        obtain ⟨a1, c1, e1, _⟩ := id h.2.2.2
        exact ⟨_, vb, by rw [show k - 1 = j by omega, zO_at (show j < L.length by omega)], zone_name h1.1, (hx.out _ (List.getElem_mem (by omega))).1, ⟨a1, _, c1, e1⟩, fun W hW => h.kept hW⟩
      obtain ⟨x, hxe⟩ : ∃ x, x = L[k]'hlt := ⟨_, rfl⟩
      rw [← hxe] at HG hcx hxl
      clear hxe hcx0 hcel HBADA
      obtain ⟨nm, ct, R⟩ := x
      simp only at HG
      have hz : RRow wr va R := hcx.2.2.2
      unfold ZonAt at hcx
      obtain ⟨c0, c1, c2, _⟩ := hcx
      obtain ⟨aa, ca, rfl, hca1, hca, _⟩ := id hz
      obtain ⟨W0, hW0⟩ : ∃ W0, W0 = wr.alloc (.cells #[.string ⟨nm.toArray⟩, .int .i64 ct, .slice aa R.length ca] 52) := ⟨_, rfl⟩
      have HW0 : Hid (wr.alloc (.cells #[.string ⟨nm.toArray⟩, .int .i64 ct, .slice aa R.length ca] 52) = W0) := hW0.symm
      obtain ⟨gx, hgx⟩ : ∃ gx, gx = wr.heap.size := ⟨_, rfl⟩
      have HGX : Hid (wr.heap.size = gx) := hgx.symm
      have HTR : Hid (∀ W W', Below W0.heap.size W0 W → Below W.heap.size W W' → Below W0.heap.size W0 W') := fun W W' h1 h2 => h1.trans (h2.mono h1.size)
      have HX : Hid (∀ W, Below W0.heap.size W0 W → (W.cell? ⟨gx, 0, none⟩ = some (.string ⟨nm.toArray⟩) ∧ W.cell? ⟨gx, 1, none⟩ = some (.int .i64 ct) ∧ W.cell? ⟨gx, 2, none⟩ = some (.slice aa R.length ca)) ∧ Below wr.heap.size wr W) := fun W hW => by
        rw [hW0] at hW
        obtain ⟨u0, u1, u2, u3⟩ := box3c hW
        rw [hgx]
        exact ⟨⟨u0, u1, u2⟩, u3⟩
      have HIB : Hid (∀ W, Below W0.heap.size W0 W → Below WB.heap.size WB W) := fun W hW => hbB.trans ((HX.out W hW).2.mono hbB.size)
      have HBW : Hid (∀ W, Below W0.heap.size W0 W → Below w.heap.size w W) := fun W hW => (HCB.out W (HIB.out W hW)).2
      have HBR0 : Hid (∀ W, Below W0.heap.size W0 W → Below wr.heap.size wr W) := fun W hW => (HX.out W hW).2
      have HCX : Hid (∀ W, Below W0.heap.size W0 W → W.cell? ⟨w.heap.size, 0, none⟩ = some (.slice (some ⟨b, o, none⟩) L.length cap)) := fun W hW => (HCB.out W (HIB.out W hW)).1
      have HXL : Hid (nm.length ≤ 1048576) := hxl.1
      have HGZ : Hid (∀ W, Below W0.heap.size W0 W → Calls Tryz.prog 35 #[.agg #[.string ⟨nm.toArray⟩, .int .i64 ct, .slice aa R.length ca]] W fun e w' => e = .returned (.bool (zoneB nm ct R)) ∧ Below W.heap.size W w') := fun W hW => iGoodZone_any ⟨nm.toArray⟩ ct _ R W (hz.kept (HBR0.out W hW)) (by rw [size_list]; exact HXL.out) hxl.2.2 (hE.below (HBW.out W hW))
      have hbd : Below W0.heap.size W0 W0.drew := (Below.refl _ _).drew
      have hlk : (k : Int) < (L.length : Int) := by omega
      clear hW0 hgx hz hxl
      cases h1 : zoneB nm ct R with
      | false =>
        have HF : Hid (r = false) := HBAD.out (HG.out.trans (by rw [h1]; simp))
        rw [h1] at HGZ
        clear HBAD HG h1 HUPA HPREV
        obtain ⟨u34, hu34⟩ : ∃ u : Bool, u = true := ⟨_, rfl⟩
        have HU34 : Hid (u34 = true) := hu34
        clear hu34
        go_wp2_with fail
        rw [HW0.out, HGX.out]
        refine wp_region_quiet (C := fun W => Below W0.heap.size W0 W) (by kernel_rfl) (by kernel_rfl) hbd ?_
        refine wpQuiet_step (fun K hK => ?_)
        rw [if_pos (by rfl)]
        refine ⟨.agg #[.string ⟨nm.toArray⟩, .int .i64 ct, .slice aa R.length ca], fun W hW => quiet_ok ?_, hK _ ?_⟩
        · have q := HX.out W hW
          obtain ⟨⟨m0, m1, m2⟩, _⟩ := q
          have k0 := HCX.out W hW
          go_simp
          all_goals (try omega)
        clear hK K
        simp only [Act.put, List.setIfInBounds_toArray, List.set_cons_succ, List.set_cons_zero]
        refine wpQuiet_step (fun K hK => ?_)
        rw [if_pos (by rfl)]
        refine ⟨.bool false, fun W hW => quiet_call (f := 35) (args := #[.agg #[.string ⟨nm.toArray⟩, .int .i64 ct, .slice aa R.length ca]]) ?_ ?_, hK _ ?_⟩
        · go_simp
        · exact (HGZ.out W hW).mono fun e w'' h => ⟨h.1, HTR.out _ _ hW h.2⟩
        clear hK K
        simp only [Act.put, List.setIfInBounds_toArray, List.set_cons_succ, List.set_cons_zero]
        refine wpQuiet_step (fun K hK => ?_)
        rw [if_pos (by rfl)]
        refine ⟨.bool true, fun W hW => quiet_ok ?_, hK _ ?_⟩
        · have q := HX.out W hW
          obtain ⟨⟨m0, m1, m2⟩, _⟩ := q
          have k0 := HCX.out W hW
          go_simp
          all_goals (try omega)
        clear hK K
        simp only [Act.put, List.setIfInBounds_toArray, List.set_cons_succ, List.set_cons_zero]
        refine wpQuiet_step (fun K hK => ?_)
        rw [if_pos (by rfl)]
        refine ⟨.bool u34, fun W hW => quiet_ok ?_, hK _ ?_⟩
        · have q := HX.out W hW
          obtain ⟨⟨m0, m1, m2⟩, _⟩ := q
          have k0 := HCX.out W hW
          have v34 := HU34.out
          go_simp
          all_goals (try omega)
        clear hK K
        simp only [Act.put, List.setIfInBounds_toArray, List.set_cons_succ, List.set_cons_zero]
        refine BigFrame.wpQuiet_skip (by show (some u34 == some false) = false; rw [HU34.out]; rfl) ?_
        simp only [Act.put, List.setIfInBounds_toArray, List.set_cons_succ, List.set_cons_zero]
        refine BigFrame.wpQuiet_skip (by show (some u34 == some false) = false; rw [HU34.out]; rfl) ?_
        simp only [Act.put, List.setIfInBounds_toArray, List.set_cons_succ, List.set_cons_zero]
        refine BigFrame.wpQuiet_skip (by show (some u34 == some false) = false; rw [HU34.out]; rfl) ?_
        simp only [Act.put, List.setIfInBounds_toArray, List.set_cons_succ, List.set_cons_zero]
        generalize hund : (undef : Value) = un
        refine BigFrame.wpQuiet_skip (by rw [← hund]; rfl) ?_
        simp only [Act.put, List.setIfInBounds_toArray, List.set_cons_succ, List.set_cons_zero]
        refine BigFrame.wpQuiet_skip (by rw [← hund]; rfl) ?_
        simp only [Act.put, List.setIfInBounds_toArray, List.set_cons_succ, List.set_cons_zero]
        refine BigFrame.wpQuiet_skip (by rw [← hund]; rfl) ?_
        simp only [Act.put, List.setIfInBounds_toArray, List.set_cons_succ, List.set_cons_zero]
        refine BigFrame.wpQuiet_skip (by rw [← hund]; rfl) ?_
        simp only [Act.put, List.setIfInBounds_toArray, List.set_cons_succ, List.set_cons_zero]
        refine BigFrame.wpQuiet_skip (by rw [← hund]; rfl) ?_
        simp only [Act.put, List.setIfInBounds_toArray, List.set_cons_succ, List.set_cons_zero]
        refine BigFrame.wpQuiet_skip (by rw [← hund]; rfl) ?_
        simp only [Act.put, List.setIfInBounds_toArray, List.set_cons_succ, List.set_cons_zero]
        refine BigFrame.wpQuiet_skip (by rw [← hund]; rfl) ?_
        simp only [Act.put, List.setIfInBounds_toArray, List.set_cons_succ, List.set_cons_zero]
        refine BigFrame.wpQuiet_skip (by rw [← hund]; rfl) ?_
        simp only [Act.put, List.setIfInBounds_toArray, List.set_cons_succ, List.set_cons_zero]
        refine BigFrame.wpQuiet_skip (by rw [← hund]; rfl) ?_
        simp only [Act.put, List.setIfInBounds_toArray, List.set_cons_succ, List.set_cons_zero]
        refine BigFrame.wpQuiet_skip (by show (some u34 == some false) = false; rw [HU34.out]; rfl) ?_
        simp only [Act.put, List.setIfInBounds_toArray, List.set_cons_succ, List.set_cons_zero]
        refine wpQuiet_step (fun K hK => ?_)
        rw [if_pos (by rfl)]
        refine ⟨.bool true, fun W hW => quiet_ok ?_, hK _ ?_⟩
        · have q := HX.out W hW
          obtain ⟨⟨m0, m1, m2⟩, _⟩ := q
          have k0 := HCX.out W hW
          have v34 := HU34.out
          go_simp
          all_goals (try omega)
        clear hK K
        simp only [Act.put, List.setIfInBounds_toArray, List.set_cons_succ, List.set_cons_zero]
        subst hund
        refine wpQuiet_nil ?_
        intro W hW
        have hbW := HBW.out W hW
        go_wp2_with fail
        go_ret
        exact ⟨ret_bool HF.out.symm, hbW⟩
      | true =>
      rw [h1] at HGZ
      rcases Nat.eq_zero_or_pos k with hk0 | hk0
      · have HU : Hid (∀ j, j < k + 1 → stepZ L j = true) := HUPA.out (HG.out.trans (by rw [h1, hk0]; rfl))
        have hk0i : ¬ (0 : Int) < (k : Int) := by omega
        clear HUPA HBAD HG HPREV hk0 h1
        obtain ⟨u37, hu37⟩ : ∃ u : Bool, u = false := ⟨_, rfl⟩
        have HU37 : Hid (u37 = false) := hu37
        clear hu37
        go_wp2_with fail
        rw [HW0.out, HGX.out]
        refine wp_region_quiet (C := fun W => Below W0.heap.size W0 W) (by kernel_rfl) (by kernel_rfl) hbd ?_
        refine wpQuiet_step (fun K hK => ?_)
        rw [if_pos (by rfl)]
        refine ⟨.agg #[.string ⟨nm.toArray⟩, .int .i64 ct, .slice aa R.length ca], fun W hW => quiet_ok ?_, hK _ ?_⟩
        · have q := HX.out W hW
          obtain ⟨⟨m0, m1, m2⟩, _⟩ := q
          have k0 := HCX.out W hW
          go_simp
          all_goals (try omega)
        clear hK K
        simp only [Act.put, List.setIfInBounds_toArray, List.set_cons_succ, List.set_cons_zero]
        refine wpQuiet_step (fun K hK => ?_)
        rw [if_pos (by rfl)]
        refine ⟨.bool true, fun W hW => quiet_call (f := 35) (args := #[.agg #[.string ⟨nm.toArray⟩, .int .i64 ct, .slice aa R.length ca]]) ?_ ?_, hK _ ?_⟩
        · go_simp
        · exact (HGZ.out W hW).mono fun e w'' h => ⟨h.1, HTR.out _ _ hW h.2⟩
        clear hK K
        simp only [Act.put, List.setIfInBounds_toArray, List.set_cons_succ, List.set_cons_zero]
        refine wpQuiet_step (fun K hK => ?_)
        rw [if_pos (by rfl)]
        refine ⟨.bool false, fun W hW => quiet_ok ?_, hK _ ?_⟩
        · have q := HX.out W hW
          obtain ⟨⟨m0, m1, m2⟩, _⟩ := q
          have k0 := HCX.out W hW
          go_simp
          all_goals (try omega)
        clear hK K
        simp only [Act.put, List.setIfInBounds_toArray, List.set_cons_succ, List.set_cons_zero]
        refine wpQuiet_step (fun K hK => ?_)
        rw [if_pos (by rfl)]
        refine ⟨.bool false, fun W hW => quiet_ok ?_, hK _ ?_⟩
        · have q := HX.out W hW
          obtain ⟨⟨m0, m1, m2⟩, _⟩ := q
          have k0 := HCX.out W hW
          go_simp
          all_goals (try omega)
        clear hK K
        simp only [Act.put, List.setIfInBounds_toArray, List.set_cons_succ, List.set_cons_zero]
        refine wpQuiet_step (fun K hK => ?_)
        rw [if_pos (by rfl)]
        refine ⟨.int .i64 (k : Int), fun W hW => quiet_ok ?_, hK _ ?_⟩
        · have q := HX.out W hW
          obtain ⟨⟨m0, m1, m2⟩, _⟩ := q
          have k0 := HCX.out W hW
          go_simp
          all_goals (try omega)
        clear hK K
        simp only [Act.put, List.setIfInBounds_toArray, List.set_cons_succ, List.set_cons_zero]
        refine wpQuiet_step (fun K hK => ?_)
        rw [if_pos (by rfl)]
        refine ⟨.bool false, fun W hW => quiet_ok ?_, hK _ ?_⟩
        · have q := HX.out W hW
          obtain ⟨⟨m0, m1, m2⟩, _⟩ := q
          have k0 := HCX.out W hW
          go_simp
          all_goals (try omega)
        clear hK K
        simp only [Act.put, List.setIfInBounds_toArray, List.set_cons_succ, List.set_cons_zero]
        refine wpQuiet_step (fun K hK => ?_)
        rw [if_pos (by rfl)]
        refine ⟨.bool u37, fun W hW => quiet_ok ?_, hK _ ?_⟩
        · have q := HX.out W hW
          obtain ⟨⟨m0, m1, m2⟩, _⟩ := q
          have k0 := HCX.out W hW
          have v37 := HU37.out
          go_simp
          all_goals (try omega)
        clear hK K
        simp only [Act.put, List.setIfInBounds_toArray, List.set_cons_succ, List.set_cons_zero]
        refine BigFrame.wpQuiet_skip (by show (some u37 == some true) = false; rw [HU37.out]; rfl) ?_
        simp only [Act.put, List.setIfInBounds_toArray, List.set_cons_succ, List.set_cons_zero]
        refine BigFrame.wpQuiet_skip (by show (some u37 == some true) = false; rw [HU37.out]; rfl) ?_
        simp only [Act.put, List.setIfInBounds_toArray, List.set_cons_succ, List.set_cons_zero]
        refine BigFrame.wpQuiet_skip (by show (some u37 == some true) = false; rw [HU37.out]; rfl) ?_
        simp only [Act.put, List.setIfInBounds_toArray, List.set_cons_succ, List.set_cons_zero]
        refine BigFrame.wpQuiet_skip (by show (some u37 == some true) = false; rw [HU37.out]; rfl) ?_
        simp only [Act.put, List.setIfInBounds_toArray, List.set_cons_succ, List.set_cons_zero]
        refine BigFrame.wpQuiet_skip (by show (some u37 == some true) = false; rw [HU37.out]; rfl) ?_
        simp only [Act.put, List.setIfInBounds_toArray, List.set_cons_succ, List.set_cons_zero]
        refine BigFrame.wpQuiet_skip (by show (some u37 == some true) = false; rw [HU37.out]; rfl) ?_
        simp only [Act.put, List.setIfInBounds_toArray, List.set_cons_succ, List.set_cons_zero]
        refine BigFrame.wpQuiet_skip (by show (some u37 == some true) = false; rw [HU37.out]; rfl) ?_
        simp only [Act.put, List.setIfInBounds_toArray, List.set_cons_succ, List.set_cons_zero]
        refine BigFrame.wpQuiet_skip (by show (some u37 == some true) = false; rw [HU37.out]; rfl) ?_
        simp only [Act.put, List.setIfInBounds_toArray, List.set_cons_succ, List.set_cons_zero]
        refine BigFrame.wpQuiet_skip (by show (some u37 == some true) = false; rw [HU37.out]; rfl) ?_
        simp only [Act.put, List.setIfInBounds_toArray, List.set_cons_succ, List.set_cons_zero]
        refine wpQuiet_step (fun K hK => ?_)
        rw [if_pos (by rfl)]
        refine ⟨.bool false, fun W hW => quiet_ok ?_, hK _ ?_⟩
        · have q := HX.out W hW
          obtain ⟨⟨m0, m1, m2⟩, _⟩ := q
          have k0 := HCX.out W hW
          have v37 := HU37.out
          go_simp
          all_goals (try omega)
        clear hK K
        simp only [Act.put, List.setIfInBounds_toArray, List.set_cons_succ, List.set_cons_zero]
        refine wpQuiet_step (fun K hK => ?_)
        rw [if_pos (by rfl)]
        refine ⟨.bool false, fun W hW => quiet_ok ?_, hK _ ?_⟩
        · have q := HX.out W hW
          obtain ⟨⟨m0, m1, m2⟩, _⟩ := q
          have k0 := HCX.out W hW
          have v37 := HU37.out
          go_simp
          all_goals (try omega)
        clear hK K
        simp only [Act.put, List.setIfInBounds_toArray, List.set_cons_succ, List.set_cons_zero]
        refine wpQuiet_nil ?_
        intro W hW
        have hbW := HBW.out W hW
        have HIW : Hid (Below WB.heap.size WB W) := HIB.out W hW
        go_wp2_with fail
        go_roundw
        case rel => exact ⟨k + 1, by omega, by go_num, HU, HIW.out⟩
        case measure => simp [intOf]; omega
      · obtain ⟨j, hj⟩ : ∃ j, k = j + 1 := ⟨k - 1, by omega⟩
        obtain ⟨y, vb, hye, hny, hyl, hys, hyc⟩ := HPREV.out j hj
        rw [hye] at HG
        have hnm : nameB nm = true := zone_name (x := (nm, ct, R)) h1
        have HCM : Hid (∀ W, Below W0.heap.size W0 W → Calls Tryz.prog 36 #[.agg #[.string ⟨y.1.toArray⟩, .int .i64 y.2.1, vb], .agg #[.string ⟨nm.toArray⟩, .int .i64 ct, .slice aa R.length ca]] W fun e w' => e = .returned (.int .i64 (cmpN y.1 nm)) ∧ Below W.heap.size W w') := fun W hW => orderOfZones_any y (nm, ct, R) vb (.slice aa R.length ca) W (hE.below (HBW.out W hW)) ⟨hny, hnm⟩ hys ⟨_, _, _, rfl⟩
        have HY : Hid (∀ W, Below W0.heap.size W0 W → W.cell? ⟨b, o + j * 3, none⟩ = some (.string ⟨y.1.toArray⟩) ∧ W.cell? ⟨b, o + j * 3 + 1, none⟩ = some (.int .i64 y.2.1) ∧ W.cell? ⟨b, o + j * 3 + 2, none⟩ = some (vb)) := fun W hW => ⟨(hyc W (HBW.out W hW)).1, (hyc W (HBW.out W hW)).2.1, (hyc W (HBW.out W hW)).2.2.1⟩
        have hk0i : (0 : Int) < (k : Int) := by omega
        have wk : IntKind.i64.wrap ((k : Int) - 1) = (j : Int) := by rw [wrap_small _ (by omega) (by omega)]; omega
        have wk2 : (k : Int) - 1 = (j : Int) := by omega
        have wj : IntKind.i64.wrap (j : Int) = (j : Int) := wrap_small _ (by omega) (by omega)
        have hjl : (j : Int) < (L.length : Int) := by omega
        have HKB : Hid ((k == 0) = false) := by show _ = false; simp; omega
        obtain ⟨c, hc⟩ : ∃ c, c = cmpN y.1 nm := ⟨_, rfl⟩
        rw [← hc] at HCM HG
        clear HPREV hk0 hye hny hyl hyc hj hys hnm hc
        by_cases h5 : c < 0
        case neg =>
          have HF : Hid (r = false) := HBAD.out (HG.out.trans (by rw [HKB.out, decide_eq_false h5]; simp))
          have h5' : (0 : Int) ≤ c := by omega
          clear HBAD HG h1 HUPA HKB
          go_wp2_with fail
          rw [HW0.out, HGX.out]
          refine wp_region_quiet (C := fun W => Below W0.heap.size W0 W) (by kernel_rfl) (by kernel_rfl) hbd ?_
          refine wpQuiet_step (fun K hK => ?_)
          rw [if_pos (by rfl)]
          refine ⟨.agg #[.string ⟨nm.toArray⟩, .int .i64 ct, .slice aa R.length ca], fun W hW => quiet_ok ?_, hK _ ?_⟩
          · have q := HX.out W hW
            obtain ⟨⟨m0, m1, m2⟩, _⟩ := q
            have k0 := HCX.out W hW
            have q3 := HY.out W hW
            obtain ⟨y0, y1, y2⟩ := q3
            go_simp
            all_goals (try omega)
          clear hK K
          simp only [Act.put, List.setIfInBounds_toArray, List.set_cons_succ, List.set_cons_zero]
          refine wpQuiet_step (fun K hK => ?_)
          rw [if_pos (by rfl)]
          refine ⟨.bool true, fun W hW => quiet_call (f := 35) (args := #[.agg #[.string ⟨nm.toArray⟩, .int .i64 ct, .slice aa R.length ca]]) ?_ ?_, hK _ ?_⟩
          · go_simp
          · exact (HGZ.out W hW).mono fun e w'' h => ⟨h.1, HTR.out _ _ hW h.2⟩
          clear hK K
          simp only [Act.put, List.setIfInBounds_toArray, List.set_cons_succ, List.set_cons_zero]
          refine wpQuiet_step (fun K hK => ?_)
          rw [if_pos (by rfl)]
          refine ⟨.bool false, fun W hW => quiet_ok ?_, hK _ ?_⟩
          · have q := HX.out W hW
            obtain ⟨⟨m0, m1, m2⟩, _⟩ := q
            have k0 := HCX.out W hW
            have q3 := HY.out W hW
            obtain ⟨y0, y1, y2⟩ := q3
            go_simp
            all_goals (try omega)
          clear hK K
          simp only [Act.put, List.setIfInBounds_toArray, List.set_cons_succ, List.set_cons_zero]
          refine wpQuiet_step (fun K hK => ?_)
          rw [if_pos (by rfl)]
          refine ⟨.bool false, fun W hW => quiet_ok ?_, hK _ ?_⟩
          · have q := HX.out W hW
            obtain ⟨⟨m0, m1, m2⟩, _⟩ := q
            have k0 := HCX.out W hW
            have q3 := HY.out W hW
            obtain ⟨y0, y1, y2⟩ := q3
            go_simp
            all_goals (try omega)
          clear hK K
          simp only [Act.put, List.setIfInBounds_toArray, List.set_cons_succ, List.set_cons_zero]
          refine wpQuiet_step (fun K hK => ?_)
          rw [if_pos (by rfl)]
          refine ⟨.int .i64 (k : Int), fun W hW => quiet_ok ?_, hK _ ?_⟩
          · have q := HX.out W hW
            obtain ⟨⟨m0, m1, m2⟩, _⟩ := q
            have k0 := HCX.out W hW
            have q3 := HY.out W hW
            obtain ⟨y0, y1, y2⟩ := q3
            go_simp
            all_goals (try omega)
          clear hK K
          simp only [Act.put, List.setIfInBounds_toArray, List.set_cons_succ, List.set_cons_zero]
          refine wpQuiet_step (fun K hK => ?_)
          rw [if_pos (by rfl)]
          refine ⟨.bool true, fun W hW => quiet_ok ?_, hK _ ?_⟩
          · have q := HX.out W hW
            obtain ⟨⟨m0, m1, m2⟩, _⟩ := q
            have k0 := HCX.out W hW
            have q3 := HY.out W hW
            obtain ⟨y0, y1, y2⟩ := q3
            go_simp
            all_goals (try omega)
          clear hK K
          simp only [Act.put, List.setIfInBounds_toArray, List.set_cons_succ, List.set_cons_zero]
          refine wpQuiet_step (fun K hK => ?_)
          rw [if_pos (by rfl)]
          refine ⟨.bool true, fun W hW => quiet_ok ?_, hK _ ?_⟩
          · have q := HX.out W hW
            obtain ⟨⟨m0, m1, m2⟩, _⟩ := q
            have k0 := HCX.out W hW
            have q3 := HY.out W hW
            obtain ⟨y0, y1, y2⟩ := q3
            go_simp
            all_goals (try omega)
          clear hK K
          simp only [Act.put, List.setIfInBounds_toArray, List.set_cons_succ, List.set_cons_zero]
          refine wpQuiet_step (fun K hK => ?_)
          rw [if_pos (by rfl)]
          refine ⟨.pointer (some ⟨w.heap.size, 0, none⟩), fun W hW => quiet_ok ?_, hK _ ?_⟩
          · have q := HX.out W hW
            obtain ⟨⟨m0, m1, m2⟩, _⟩ := q
            have k0 := HCX.out W hW
            have q3 := HY.out W hW
            obtain ⟨y0, y1, y2⟩ := q3
            go_simp
            all_goals (try omega)
          clear hK K
          simp only [Act.put, List.setIfInBounds_toArray, List.set_cons_succ, List.set_cons_zero]
          refine wpQuiet_step (fun K hK => ?_)
          rw [if_pos (by rfl)]
          refine ⟨.slice (some ⟨b, o, none⟩) L.length cap, fun W hW => quiet_ok ?_, hK _ ?_⟩
          · have q := HX.out W hW
            obtain ⟨⟨m0, m1, m2⟩, _⟩ := q
            have k0 := HCX.out W hW
            have q3 := HY.out W hW
            obtain ⟨y0, y1, y2⟩ := q3
            go_simp
            all_goals (try omega)
          clear hK K
          simp only [Act.put, List.setIfInBounds_toArray, List.set_cons_succ, List.set_cons_zero]
          refine wpQuiet_step (fun K hK => ?_)
          rw [if_pos (by rfl)]
          refine ⟨.int .i64 (k : Int), fun W hW => quiet_ok ?_, hK _ ?_⟩
          · have q := HX.out W hW
            obtain ⟨⟨m0, m1, m2⟩, _⟩ := q
            have k0 := HCX.out W hW
            have q3 := HY.out W hW
            obtain ⟨y0, y1, y2⟩ := q3
            go_simp
            all_goals (try omega)
          clear hK K
          simp only [Act.put, List.setIfInBounds_toArray, List.set_cons_succ, List.set_cons_zero]
          refine wpQuiet_step (fun K hK => ?_)
          rw [if_pos (by rfl)]
          refine ⟨.int .i64 (j : Int), fun W hW => quiet_ok ?_, hK _ ?_⟩
          · have q := HX.out W hW
            obtain ⟨⟨m0, m1, m2⟩, _⟩ := q
            have k0 := HCX.out W hW
            have q3 := HY.out W hW
            obtain ⟨y0, y1, y2⟩ := q3
            go_simp
            all_goals (try omega)
          clear hK K
          simp only [Act.put, List.setIfInBounds_toArray, List.set_cons_succ, List.set_cons_zero]
          refine wpQuiet_step (fun K hK => ?_)
          rw [if_pos (by rfl)]
          refine ⟨.pointer (some ⟨b, o + j * 3, none⟩), fun W hW => quiet_ok ?_, hK _ ?_⟩
          · have q := HX.out W hW
            obtain ⟨⟨m0, m1, m2⟩, _⟩ := q
            have k0 := HCX.out W hW
            have q3 := HY.out W hW
            obtain ⟨y0, y1, y2⟩ := q3
            go_simp
            all_goals (try omega)
          clear hK K
          simp only [Act.put, List.setIfInBounds_toArray, List.set_cons_succ, List.set_cons_zero]
          refine wpQuiet_step (fun K hK => ?_)
          rw [if_pos (by rfl)]
          refine ⟨.agg #[.string ⟨y.1.toArray⟩, .int .i64 y.2.1, vb], fun W hW => quiet_ok ?_, hK _ ?_⟩
          · have q := HX.out W hW
            obtain ⟨⟨m0, m1, m2⟩, _⟩ := q
            have k0 := HCX.out W hW
            have q3 := HY.out W hW
            obtain ⟨y0, y1, y2⟩ := q3
            go_simp
            all_goals (try omega)
          clear hK K
          simp only [Act.put, List.setIfInBounds_toArray, List.set_cons_succ, List.set_cons_zero]
          refine wpQuiet_step (fun K hK => ?_)
          rw [if_pos (by rfl)]
          refine ⟨.agg #[.string ⟨nm.toArray⟩, .int .i64 ct, .slice aa R.length ca], fun W hW => quiet_ok ?_, hK _ ?_⟩
          · have q := HX.out W hW
            obtain ⟨⟨m0, m1, m2⟩, _⟩ := q
            have k0 := HCX.out W hW
            have q3 := HY.out W hW
            obtain ⟨y0, y1, y2⟩ := q3
            go_simp
            all_goals (try omega)
          clear hK K
          simp only [Act.put, List.setIfInBounds_toArray, List.set_cons_succ, List.set_cons_zero]
          refine wpQuiet_step (fun K hK => ?_)
          rw [if_pos (by rfl)]
          refine ⟨.int .i64 c, fun W hW => quiet_call (f := 36) (args := #[.agg #[.string ⟨y.1.toArray⟩, .int .i64 y.2.1, vb], .agg #[.string ⟨nm.toArray⟩, .int .i64 ct, .slice aa R.length ca]]) ?_ ?_, hK _ ?_⟩
          · go_simp
          · exact (HCM.out W hW).mono fun e w'' h => ⟨h.1, HTR.out _ _ hW h.2⟩
          clear hK K
          simp only [Act.put, List.setIfInBounds_toArray, List.set_cons_succ, List.set_cons_zero]
          refine wpQuiet_step (fun K hK => ?_)
          rw [if_pos (by rfl)]
          refine ⟨.bool true, fun W hW => quiet_ok ?_, hK _ ?_⟩
          · have q := HX.out W hW
            obtain ⟨⟨m0, m1, m2⟩, _⟩ := q
            have k0 := HCX.out W hW
            have q3 := HY.out W hW
            obtain ⟨y0, y1, y2⟩ := q3
            go_simp
            all_goals (try omega)
          clear hK K
          simp only [Act.put, List.setIfInBounds_toArray, List.set_cons_succ, List.set_cons_zero]
          refine wpQuiet_step (fun K hK => ?_)
          rw [if_pos (by rfl)]
          refine ⟨.bool true, fun W hW => quiet_ok ?_, hK _ ?_⟩
          · have q := HX.out W hW
            obtain ⟨⟨m0, m1, m2⟩, _⟩ := q
            have k0 := HCX.out W hW
            have q3 := HY.out W hW
            obtain ⟨y0, y1, y2⟩ := q3
            go_simp
            all_goals (try omega)
          clear hK K
          simp only [Act.put, List.setIfInBounds_toArray, List.set_cons_succ, List.set_cons_zero]
          refine wpQuiet_step (fun K hK => ?_)
          rw [if_pos (by rfl)]
          refine ⟨.bool true, fun W hW => quiet_ok ?_, hK _ ?_⟩
          · have q := HX.out W hW
            obtain ⟨⟨m0, m1, m2⟩, _⟩ := q
            have k0 := HCX.out W hW
            have q3 := HY.out W hW
            obtain ⟨y0, y1, y2⟩ := q3
            go_simp
            all_goals (try omega)
          clear hK K
          simp only [Act.put, List.setIfInBounds_toArray, List.set_cons_succ, List.set_cons_zero]
          refine wpQuiet_nil ?_
          intro W hW
          have hbW := HBW.out W hW
          go_wp2_with fail
          go_ret
          exact ⟨ret_bool HF.out.symm, hbW⟩
        have HU : Hid (∀ j, j < k + 1 → stepZ L j = true) := HUPA.out (HG.out.trans (by rw [h1, HKB.out, decide_eq_true h5]; rfl))
        have h5' : ¬ (0 : Int) ≤ c := by omega
        clear HUPA HBAD HG h1 HKB
        go_wp2_with fail
        rw [HW0.out, HGX.out]
        refine wp_region_quiet (C := fun W => Below W0.heap.size W0 W) (by kernel_rfl) (by kernel_rfl) hbd ?_
        refine wpQuiet_step (fun K hK => ?_)
        rw [if_pos (by rfl)]
        refine ⟨.agg #[.string ⟨nm.toArray⟩, .int .i64 ct, .slice aa R.length ca], fun W hW => quiet_ok ?_, hK _ ?_⟩
        · have q := HX.out W hW
          obtain ⟨⟨m0, m1, m2⟩, _⟩ := q
          have k0 := HCX.out W hW
          have q3 := HY.out W hW
          obtain ⟨y0, y1, y2⟩ := q3
          go_simp
          all_goals (try omega)
        clear hK K
        simp only [Act.put, List.setIfInBounds_toArray, List.set_cons_succ, List.set_cons_zero]
        refine wpQuiet_step (fun K hK => ?_)
        rw [if_pos (by rfl)]
        refine ⟨.bool true, fun W hW => quiet_call (f := 35) (args := #[.agg #[.string ⟨nm.toArray⟩, .int .i64 ct, .slice aa R.length ca]]) ?_ ?_, hK _ ?_⟩
        · go_simp
        · exact (HGZ.out W hW).mono fun e w'' h => ⟨h.1, HTR.out _ _ hW h.2⟩
        clear hK K
        simp only [Act.put, List.setIfInBounds_toArray, List.set_cons_succ, List.set_cons_zero]
        refine wpQuiet_step (fun K hK => ?_)
        rw [if_pos (by rfl)]
        refine ⟨.bool false, fun W hW => quiet_ok ?_, hK _ ?_⟩
        · have q := HX.out W hW
          obtain ⟨⟨m0, m1, m2⟩, _⟩ := q
          have k0 := HCX.out W hW
          have q3 := HY.out W hW
          obtain ⟨y0, y1, y2⟩ := q3
          go_simp
          all_goals (try omega)
        clear hK K
        simp only [Act.put, List.setIfInBounds_toArray, List.set_cons_succ, List.set_cons_zero]
        refine wpQuiet_step (fun K hK => ?_)
        rw [if_pos (by rfl)]
        refine ⟨.bool false, fun W hW => quiet_ok ?_, hK _ ?_⟩
        · have q := HX.out W hW
          obtain ⟨⟨m0, m1, m2⟩, _⟩ := q
          have k0 := HCX.out W hW
          have q3 := HY.out W hW
          obtain ⟨y0, y1, y2⟩ := q3
          go_simp
          all_goals (try omega)
        clear hK K
        simp only [Act.put, List.setIfInBounds_toArray, List.set_cons_succ, List.set_cons_zero]
        refine wpQuiet_step (fun K hK => ?_)
        rw [if_pos (by rfl)]
        refine ⟨.int .i64 (k : Int), fun W hW => quiet_ok ?_, hK _ ?_⟩
        · have q := HX.out W hW
          obtain ⟨⟨m0, m1, m2⟩, _⟩ := q
          have k0 := HCX.out W hW
          have q3 := HY.out W hW
          obtain ⟨y0, y1, y2⟩ := q3
          go_simp
          all_goals (try omega)
        clear hK K
        simp only [Act.put, List.setIfInBounds_toArray, List.set_cons_succ, List.set_cons_zero]
        refine wpQuiet_step (fun K hK => ?_)
        rw [if_pos (by rfl)]
        refine ⟨.bool true, fun W hW => quiet_ok ?_, hK _ ?_⟩
        · have q := HX.out W hW
          obtain ⟨⟨m0, m1, m2⟩, _⟩ := q
          have k0 := HCX.out W hW
          have q3 := HY.out W hW
          obtain ⟨y0, y1, y2⟩ := q3
          go_simp
          all_goals (try omega)
        clear hK K
        simp only [Act.put, List.setIfInBounds_toArray, List.set_cons_succ, List.set_cons_zero]
        refine wpQuiet_step (fun K hK => ?_)
        rw [if_pos (by rfl)]
        refine ⟨.bool true, fun W hW => quiet_ok ?_, hK _ ?_⟩
        · have q := HX.out W hW
          obtain ⟨⟨m0, m1, m2⟩, _⟩ := q
          have k0 := HCX.out W hW
          have q3 := HY.out W hW
          obtain ⟨y0, y1, y2⟩ := q3
          go_simp
          all_goals (try omega)
        clear hK K
        simp only [Act.put, List.setIfInBounds_toArray, List.set_cons_succ, List.set_cons_zero]
        refine wpQuiet_step (fun K hK => ?_)
        rw [if_pos (by rfl)]
        refine ⟨.pointer (some ⟨w.heap.size, 0, none⟩), fun W hW => quiet_ok ?_, hK _ ?_⟩
        · have q := HX.out W hW
          obtain ⟨⟨m0, m1, m2⟩, _⟩ := q
          have k0 := HCX.out W hW
          have q3 := HY.out W hW
          obtain ⟨y0, y1, y2⟩ := q3
          go_simp
          all_goals (try omega)
        clear hK K
        simp only [Act.put, List.setIfInBounds_toArray, List.set_cons_succ, List.set_cons_zero]
        refine wpQuiet_step (fun K hK => ?_)
        rw [if_pos (by rfl)]
        refine ⟨.slice (some ⟨b, o, none⟩) L.length cap, fun W hW => quiet_ok ?_, hK _ ?_⟩
        · have q := HX.out W hW
          obtain ⟨⟨m0, m1, m2⟩, _⟩ := q
          have k0 := HCX.out W hW
          have q3 := HY.out W hW
          obtain ⟨y0, y1, y2⟩ := q3
          go_simp
          all_goals (try omega)
        clear hK K
        simp only [Act.put, List.setIfInBounds_toArray, List.set_cons_succ, List.set_cons_zero]
        refine wpQuiet_step (fun K hK => ?_)
        rw [if_pos (by rfl)]
        refine ⟨.int .i64 (k : Int), fun W hW => quiet_ok ?_, hK _ ?_⟩
        · have q := HX.out W hW
          obtain ⟨⟨m0, m1, m2⟩, _⟩ := q
          have k0 := HCX.out W hW
          have q3 := HY.out W hW
          obtain ⟨y0, y1, y2⟩ := q3
          go_simp
          all_goals (try omega)
        clear hK K
        simp only [Act.put, List.setIfInBounds_toArray, List.set_cons_succ, List.set_cons_zero]
        refine wpQuiet_step (fun K hK => ?_)
        rw [if_pos (by rfl)]
        refine ⟨.int .i64 (j : Int), fun W hW => quiet_ok ?_, hK _ ?_⟩
        · have q := HX.out W hW
          obtain ⟨⟨m0, m1, m2⟩, _⟩ := q
          have k0 := HCX.out W hW
          have q3 := HY.out W hW
          obtain ⟨y0, y1, y2⟩ := q3
          go_simp
          all_goals (try omega)
        clear hK K
        simp only [Act.put, List.setIfInBounds_toArray, List.set_cons_succ, List.set_cons_zero]
        refine wpQuiet_step (fun K hK => ?_)
        rw [if_pos (by rfl)]
        refine ⟨.pointer (some ⟨b, o + j * 3, none⟩), fun W hW => quiet_ok ?_, hK _ ?_⟩
        · have q := HX.out W hW
          obtain ⟨⟨m0, m1, m2⟩, _⟩ := q
          have k0 := HCX.out W hW
          have q3 := HY.out W hW
          obtain ⟨y0, y1, y2⟩ := q3
          go_simp
          all_goals (try omega)
        clear hK K
        simp only [Act.put, List.setIfInBounds_toArray, List.set_cons_succ, List.set_cons_zero]
        refine wpQuiet_step (fun K hK => ?_)
        rw [if_pos (by rfl)]
        refine ⟨.agg #[.string ⟨y.1.toArray⟩, .int .i64 y.2.1, vb], fun W hW => quiet_ok ?_, hK _ ?_⟩
        · have q := HX.out W hW
          obtain ⟨⟨m0, m1, m2⟩, _⟩ := q
          have k0 := HCX.out W hW
          have q3 := HY.out W hW
          obtain ⟨y0, y1, y2⟩ := q3
          go_simp
          all_goals (try omega)
        clear hK K
        simp only [Act.put, List.setIfInBounds_toArray, List.set_cons_succ, List.set_cons_zero]
        refine wpQuiet_step (fun K hK => ?_)
        rw [if_pos (by rfl)]
        refine ⟨.agg #[.string ⟨nm.toArray⟩, .int .i64 ct, .slice aa R.length ca], fun W hW => quiet_ok ?_, hK _ ?_⟩
        · have q := HX.out W hW
          obtain ⟨⟨m0, m1, m2⟩, _⟩ := q
          have k0 := HCX.out W hW
          have q3 := HY.out W hW
          obtain ⟨y0, y1, y2⟩ := q3
          go_simp
          all_goals (try omega)
        clear hK K
        simp only [Act.put, List.setIfInBounds_toArray, List.set_cons_succ, List.set_cons_zero]
        refine wpQuiet_step (fun K hK => ?_)
        rw [if_pos (by rfl)]
        refine ⟨.int .i64 c, fun W hW => quiet_call (f := 36) (args := #[.agg #[.string ⟨y.1.toArray⟩, .int .i64 y.2.1, vb], .agg #[.string ⟨nm.toArray⟩, .int .i64 ct, .slice aa R.length ca]]) ?_ ?_, hK _ ?_⟩
        · go_simp
        · exact (HCM.out W hW).mono fun e w'' h => ⟨h.1, HTR.out _ _ hW h.2⟩
        clear hK K
        simp only [Act.put, List.setIfInBounds_toArray, List.set_cons_succ, List.set_cons_zero]
        refine wpQuiet_step (fun K hK => ?_)
        rw [if_pos (by rfl)]
        refine ⟨.bool false, fun W hW => quiet_ok ?_, hK _ ?_⟩
        · have q := HX.out W hW
          obtain ⟨⟨m0, m1, m2⟩, _⟩ := q
          have k0 := HCX.out W hW
          have q3 := HY.out W hW
          obtain ⟨y0, y1, y2⟩ := q3
          go_simp
          all_goals (try omega)
        clear hK K
        simp only [Act.put, List.setIfInBounds_toArray, List.set_cons_succ, List.set_cons_zero]
        refine wpQuiet_step (fun K hK => ?_)
        rw [if_pos (by rfl)]
        refine ⟨.bool false, fun W hW => quiet_ok ?_, hK _ ?_⟩
        · have q := HX.out W hW
          obtain ⟨⟨m0, m1, m2⟩, _⟩ := q
          have k0 := HCX.out W hW
          have q3 := HY.out W hW
          obtain ⟨y0, y1, y2⟩ := q3
          go_simp
          all_goals (try omega)
        clear hK K
        simp only [Act.put, List.setIfInBounds_toArray, List.set_cons_succ, List.set_cons_zero]
        refine wpQuiet_step (fun K hK => ?_)
        rw [if_pos (by rfl)]
        refine ⟨.bool false, fun W hW => quiet_ok ?_, hK _ ?_⟩
        · have q := HX.out W hW
          obtain ⟨⟨m0, m1, m2⟩, _⟩ := q
          have k0 := HCX.out W hW
          have q3 := HY.out W hW
          obtain ⟨y0, y1, y2⟩ := q3
          go_simp
          all_goals (try omega)
        clear hK K
        simp only [Act.put, List.setIfInBounds_toArray, List.set_cons_succ, List.set_cons_zero]
        refine wpQuiet_nil ?_
        intro W hW
        have hbW := HBW.out W hW
        have HIW : Hid (Below WB.heap.size WB W) := HIB.out W hW
        go_wp2_with fail
        go_roundw
        case rel => exact ⟨k + 1, by omega, by go_num, HU, HIW.out⟩
        case measure => simp [intOf]; omega
    · have HF : Hid (r = true) := HALL2.out (fun j hj => HA.out j (by omega))
      go_wp2_with fail
      go_ret
      exact ⟨ret_bool HF.out.symm, hb⟩
end Go.Proofs.YtgfldenhhogpbaaGreatDoor
