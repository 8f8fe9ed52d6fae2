import Derived.Test.YtoeffplfkdogdaaDoorZ31
import Derived.Test.YtoeffplfkdogdaaDoorZ05
namespace Go.Proofs.YtoeffplfkdogdaaDoor
open Go.RowKit Go.Shelf

/-- All names of gaps are good. -/
def haveB (L : List (List UInt8 × List UInt8 × List Int)) : Bool := L.all (fun x => nameB x.1 && nameB x.2.1)
/-- Whether gaps prove that a name is not there. -/
def prfB (L : List (List UInt8 × List UInt8 × List Int)) (n : List UInt8) : Bool :=
  match L.find? (fun x => covB x.1 x.2.1 n) with
  | none => false
  | some x => !(closL x.1 x.2.1 n == n) && L.any (fun y => covB y.1 y.2.1 (starL (closL x.1 x.2.1 n)) && !(closL y.1 y.2.1 (starL (closL x.1 x.2.1 n)) == starL (closL x.1 x.2.1 n)))
def chkB (ap : List UInt8) (L : List (List UInt8 × List UInt8 × List Int)) (n : List UInt8) : Bool := belowT n ap && decide (L.length ≤ 2) && haveB L
theorem have_all {L : List (List UInt8 × List UInt8 × List Int)} (h : ∀ j, (hj : j < L.length) → (nameB L[j].1 && nameB L[j].2.1) = true) : haveB L = true := by
  unfold haveB; rw [List.all_eq_true]; intro x hx
  obtain ⟨j, hj, rfl⟩ := List.getElem_of_mem hx
  exact h j hj
theorem have_bad {L : List (List UInt8 × List UInt8 × List Int)} (k : Nat) (hk : k < L.length) (h : (nameB L[k].1 && nameB L[k].2.1) = false) : haveB L = false := by
  unfold haveB; rw [List.all_eq_false]; exact ⟨_, List.getElem_mem hk, by simp [h]⟩
theorem have_at {L : List (List UInt8 × List UInt8 × List Int)} (h : haveB L = true) {x : List UInt8 × List UInt8 × List Int} (hx : x ∈ L) : nameB x.1 = true ∧ nameB x.2.1 = true := by
  unfold haveB at h; rw [List.all_eq_true] at h
  have := h x hx
  simpa using this
theorem ga_each {p : Nat → GA → Prop} : ∀ n : Nat, (∀ i, i < n → ∃ x, p i x) → ∃ L : List GA, L.length = n ∧ ∀ i, (h : i < L.length) → p i L[i]
  | 0, _ => ⟨[], rfl, fun i h => by simp at h⟩
  | n + 1, h => by
    obtain ⟨L, hl, hL⟩ := ga_each n (fun i hi => h i (by omega))
    obtain ⟨x, hx⟩ := h n (by omega)
    refine ⟨L ++ [x], by simp [hl], fun i hi => ?_⟩
    by_cases hi2 : i < L.length
    · rw [List.getElem_append_left hi2]; exact hL i hi2
    · have hin : i = n := by simp at hi; omega
      subst hin
      rw [List.getElem_append_right (by omega)]
      simpa [hl] using hx
/-- Gaps with good names that came in, with where their types lie. -/
theorem ga_of_row {w : World} {v : Value} {L : List (List UInt8 × List UInt8 × List Int)} (hr : GRow w v L) (hn : haveB L = true) :
    ∃ zs : List GA, zs.map (fun z => z.1.1) = L ∧ GARow w.heap.size w v zs ∧ ∀ z ∈ zs, ZRow .i64 w (.slice z.1.2.1 z.1.1.2.2.length z.1.2.2) z.1.1.2.2 := by
  obtain ⟨a, cap, rfl, h1, h2, h3⟩ := hr
  rcases h3 with rfl | ⟨b, o, rfl, hb, hc⟩
  · exact ⟨[], rfl, ⟨a, cap, rfl, h1, h2, .inl rfl⟩, fun z hz => by cases hz⟩
  · obtain ⟨zs, hl, hz⟩ := ga_each (p := fun j z => (∃ hj : j < L.length, z.1.1 = L[j]) ∧ w.cell? ⟨b, o + j * 3, none⟩ = some (.string ⟨z.1.1.1.toArray⟩) ∧ w.cell? ⟨b, o + j * 3 + 1, none⟩ = some (.string ⟨z.1.1.2.1.toArray⟩) ∧ w.cell? ⟨b, o + j * 3 + 2, none⟩ = some (.slice z.1.2.1 z.1.1.2.2.length z.1.2.2) ∧ ZRow .i64 w (.slice z.1.2.1 z.1.1.2.2.length z.1.2.2) z.1.1.2.2) L.length (fun j hj => by
      obtain ⟨va, c0, c1, c2, hz⟩ := hc j hj
      obtain ⟨aa, ca, rfl, k1, k2, k3⟩ := hz
      exact ⟨⟨(L[j], aa, ca), have_at hn (List.getElem_mem hj)⟩, ⟨hj, rfl⟩, c0, c1, c2, aa, ca, rfl, k1, k2, k3⟩)
    refine ⟨zs, ?_, ⟨some ⟨b, o, none⟩, cap, by rw [hl], by rw [hl]; exact h1, h2, .inr ⟨b, o, rfl, hb, fun j hj => ⟨(hz j hj).2.1, (hz j hj).2.2.1, (hz j hj).2.2.2.1⟩⟩⟩, fun z hz2 => ?_⟩
    · refine List.ext_getElem (by simp [hl]) (fun i g1 g2 => ?_)
      rw [List.getElem_map]
      obtain ⟨_, e⟩ := (hz i (by omega)).1
      exact e
    · obtain ⟨j, hj, rfl⟩ := List.getElem_of_mem hz2
      exact (hz j hj).2.2.2.2
theorem find_ga (zs : List GA) (p : List UInt8 × List UInt8 × List Int → Bool) : (zs.map (fun z => z.1.1)).find? p = (zs.find? (fun z => p z.1.1)).map (fun z => z.1.1) := by
  rw [List.find?_map]; rfl
theorem any_ga (zs : List GA) (p : List UInt8 × List UInt8 × List Int → Bool) : (zs.find? (fun z => p z.1.1)).isSome = (zs.map (fun z => z.1.1)).any p := by
  rw [Bool.eq_iff_iff, List.find?_isSome, List.any_map, List.any_eq_true]
  exact Iff.rfl
theorem new_cell (w : World) (v : Value) (t : TypeId) : (w.alloc (.cells #[v] t)).cell? ⟨w.heap.size, 0, none⟩ = some v := by unfold World.cell?; rw [gap_new]; rfl
theorem new_cell2 (w : World) (o : Obj) (v : Value) (t : TypeId) : ((w.alloc o).alloc (.cells #[v] t)).cell? ⟨w.heap.size + 1, 0, none⟩ = some v := by
  have h := new_cell (w.alloc o) v t
  rw [World.size_alloc] at h
  exact h
theorem new_cell1 (w : World) (o : Obj) (v : Value) (t : TypeId) : ((w.alloc (.cells #[v] t)).alloc o).cell? ⟨w.heap.size, 0, none⟩ = some v := by
  rw [((Below.refl (w.alloc (.cells #[v] t)).heap.size (w.alloc (.cells #[v] t))).alloc (Nat.le_refl _) o).cell (p := ⟨w.heap.size, 0, none⟩) (by simp)]
  exact new_cell w v t
theorem clos_name {o n x : List UInt8} (hx : nameB x = true) : nameB (closL o n x) = true := by
  unfold closL; split
  · exact common_name hx
  · exact common_name hx
theorem clos_star {o n x : List UInt8} (hx : nameB x = true) (h : closL o n x ≠ x) : nameB (starL (closL o n x)) = true := by
  unfold closL at h ⊢
  by_cases g : manyN (commonL x o) < manyN (commonL x n)
  · rw [if_pos g] at h ⊢; exact star_name hx _ h
  · rw [if_neg g] at h ⊢; exact star_name hx _ h
theorem prf_none {L : List (List UInt8 × List UInt8 × List Int)} {n : List UInt8} (h : L.find? (fun x => covB x.1 x.2.1 n) = none) : prfB L n = false := by unfold prfB; rw [h]
theorem prf_some {L : List (List UInt8 × List UInt8 × List Int)} {n : List UInt8} {x : List UInt8 × List UInt8 × List Int} (h : L.find? (fun x => covB x.1 x.2.1 n) = some x) :
    prfB L n = (!(closL x.1 x.2.1 n == n) && L.any (fun y => covB y.1 y.2.1 (starL (closL x.1 x.2.1 n)) && !(closL y.1 y.2.1 (starL (closL x.1 x.2.1 n)) == starL (closL x.1 x.2.1 n)))) := by unfold prfB; rw [h]

set_option maxRecDepth 20000 in
set_option maxHeartbeats 2000000 in
theorem haveNames_any (v : Value) (L : List (List UInt8 × List UInt8 × List Int)) (w : World) (hr : GRow w v L) (hE : Env w) :
    Calls Tryd.prog 39 #[v] w fun e w' => e = .returned (.bool (haveB L)) ∧ Below w.heap.size w w' := by
  obtain ⟨a, cap, rfl, hcap, hmax, HROW⟩ := grow_value hr
  clear hr
  obtain ⟨r, hrr⟩ : ∃ r, r = haveB L := ⟨_, rfl⟩
  have HRR : Hid (r = haveB L) := hrr
  rw [← hrr]
  clear hrr
  go_enter Tryd.func39, Tryd.ntmps39
  go_wp2_with fail
  go_loopw [7] (fun i wr => ∃ k : Nat, k ≤ L.length ∧ i = .int .i64 (k : Int) ∧ Hid (∀ j, (hj : j < L.length) → j < k → (nameB L[j].1 && nameB L[j].2.1) = true) ∧ Below w.heap.size w wr) (fun i _ => L.length - (intOf i).toNat)
  case atStart => exact ⟨0, Nat.zero_le _, rfl, fun j _ h => absurd h (Nat.not_lt_zero _), Below.refl _ _⟩
  case round =>
    obtain ⟨k, hk, rfl, HA, hb⟩ := hrel
    by_cases hlt : k < L.length
    · obtain ⟨b, o, ha, hbl, hcel⟩ := HROW.out (by omega)
      rw [ha]
      obtain ⟨va, hcx0⟩ := hcel k hlt
      have hcx := hcx0.kept hb
      have HBAD : Hid ((nameB (L[k]'hlt).1 && nameB (L[k]'hlt).2.1) = false → r = false) := fun h => HRR.out.trans (have_bad k hlt h)
      have HUP : Hid ((nameB (L[k]'hlt).1 && nameB (L[k]'hlt).2.1) = true → ∀ j, (hj : j < L.length) → j < k + 1 → (nameB L[j].1 && nameB L[j].2.1) = true) := fun h j hj hj2 => by
        rcases Nat.lt_or_ge j k with h' | h'
        · exact HA.out j hj h'
        · obtain rfl : j = k := by omega
          exact h
      obtain ⟨x, hxe⟩ : ∃ x, x = L[k]'hlt := ⟨_, rfl⟩
      rw [← hxe] at hcx HBAD HUP
      have hz : ZRow .i64 wr va x.2.2 := hcx.2.2.2
      unfold GapAt at hcx
      have c0 := hcx.1
      have c1 := hcx.2.1
      have c2 := hcx.2.2.1
      obtain ⟨aa, ca, rfl, _, hca, _⟩ := hz
      have HN : Hid (∀ W, Below w.heap.size w W → Calls Tryd.prog 47 #[.agg #[.string ⟨x.1.toArray⟩, .string ⟨x.2.1.toArray⟩, .slice aa x.2.2.length ca]] W fun e w' => e = .returned (.bool (nameB x.1 && nameB x.2.1)) ∧ Below W.heap.size W w') := fun W hW => hasNames_any ⟨x.1.toArray⟩ ⟨x.2.1.toArray⟩ _ W (hE.below hW)
      have HA2 : Hid (Below w.heap.size w (wr.alloc (.cells #[.string ⟨x.1.toArray⟩, .string ⟨x.2.1.toArray⟩, .slice aa x.2.2.length ca] 26))) := hb.alloc hb.size _
      clear hcx hcel hcx0 hxe
      cases h1 : (nameB x.1 && nameB x.2.1) with
      | false =>
        have HF : Hid (r = false) := HBAD.out h1
        rw [h1] at HN
        clear HBAD HUP h1
        go_wp2_with fail
        refine (HN.out _ HA2.out).mono ?_
        rintro e w2 ⟨rfl, hb2⟩
        have hbw2 := HA2.out.trans (hb2.mono HA2.out.size)
        go_wp2_with fail
        go_ret
        exact ⟨ret_bool HF.out.symm, hbw2⟩
      | true =>
        have HU : Hid (∀ j, (hj : j < L.length) → j < k + 1 → (nameB L[j].1 && nameB L[j].2.1) = true) := HUP.out h1
        rw [h1] at HN
        clear HBAD HUP h1
        go_wp2_with fail
        refine (HN.out _ HA2.out).mono ?_
        rintro e w2 ⟨rfl, hb2⟩
        have hbw2 := HA2.out.trans (hb2.mono HA2.out.size)
        go_wp2_with fail
        go_roundw
        case rel => exact ⟨k + 1, by omega, by go_num, HU, hbw2⟩
        case measure => simp [intOf]; omega
    · have HF : Hid (r = true) := HRR.out.trans (have_all (fun j hj => HA.out j hj (by omega)))
      go_wp2_with fail
      go_ret
      exact ⟨ret_bool HF.out.symm, hb⟩

set_option maxRecDepth 20000 in
set_option maxHeartbeats 1000000 in
theorem covering_any (n : List UInt8) (w : World) :
    Calls Tryd.prog 58 #[.string ⟨n.toArray⟩] w fun e w' => e = .returned (.func (.func 72) #[] #[.pointer (some ⟨w.heap.size, 0, none⟩)]) ∧ w' = w.alloc (.cells #[.string ⟨n.toArray⟩] 9) := by
  go_enter Tryd.func58, Tryd.ntmps58
  go_wp2_with fail
  go_ret
  exact ⟨rfl, rfl⟩

set_option maxRecDepth 20000 in
set_option maxHeartbeats 4000000 in
theorem areProof_any (v : Value) (L : List (List UInt8 × List UInt8 × List Int)) (n : List UInt8) (w : World) (hr : GRow w v L) (hn : haveB L = true) (hnn : Hid (nameB n = true)) (hE : Env w) :
    Calls Tryd.prog 40 #[v, .string ⟨n.toArray⟩] w fun e w' => e = .returned (.bool (prfB L n)) ∧ Below w.heap.size w w' := by
  obtain ⟨zs, hzs, hrow, _⟩ := ga_of_row hr hn
  obtain ⟨a, cap, rfl, _, _, _⟩ := id hr
  clear hr
  have hln : L.length = zs.length := by rw [← hzs]; simp
  rw [hln] at hrow ⊢
  -- the first search
  have HF1 : Hid (∀ W Bs pb, Below w.heap.size w W → Bs < W.heap.size → W.cell? ⟨Bs, 0, none⟩ = some (.slice a zs.length cap) → W.cell? ⟨pb, 0, none⟩ = some (.string ⟨n.toArray⟩) → Calls Tryd.prog 26 #[.func (.func 52) #[] #[.pointer (some ⟨Bs, 0, none⟩)], .func (.func 72) #[] #[.pointer (some ⟨pb, 0, none⟩)]] W fun e w' => e = .returned (.tuple #[fgV (zs.find? (fun z => covB z.1.1.1 z.1.1.2.1 n)), .bool (zs.find? (fun z => covB z.1.1.1 z.1.1.2.1 n)).isSome]) ∧ Below W.heap.size W w') := fun W Bs pb hW h1 h2 h3 =>
    firstGap_cov _ Bs pb _ zs W h1 h2 (by
      obtain ⟨a2, c2, e, k1, k2, k3⟩ := hrow.below hW
      exact ⟨a2, c2, e, k1, k2, k3.imp id (fun ⟨b, o, e1, e2, e3⟩ => ⟨b, o, e1, Nat.lt_of_lt_of_le e2 hW.size, e3⟩)⟩) (fun x W1 hW1 => covering1_any x n pb W1 (hE.below (hW.trans (hW1.mono hW.size))) hnn ((hW1.cell (p := ⟨pb, 0, none⟩) (World.block_lt_of_cell? _ _ h3)).trans h3))
  have HF2 : Hid (∀ st, nameB st = true → ∀ W Bs pb, Below w.heap.size w W → Bs < W.heap.size → W.cell? ⟨Bs, 0, none⟩ = some (.slice a zs.length cap) → W.cell? ⟨pb, 0, none⟩ = some (.string ⟨st.toArray⟩) → Calls Tryd.prog 26 #[.func (.func 52) #[] #[.pointer (some ⟨Bs, 0, none⟩)], .func (.func 61) #[] #[.pointer (some ⟨pb, 0, none⟩)]] W fun e w' => e = .returned (.tuple #[fgV (zs.find? (fun z => covB z.1.1.1 z.1.1.2.1 st && !(closL z.1.1.1 z.1.1.2.1 st == st))), .bool (L.any (fun y => covB y.1 y.2.1 st && !(closL y.1 y.2.1 st == st)))]) ∧ Below W.heap.size W w') := fun st hst W Bs pb hW h1 h2 h3 => by
    have h := firstGap_prf (fun z => covB z.1.1.1 z.1.1.2.1 st && !(closL z.1.1.1 z.1.1.2.1 st == st)) Bs pb _ zs W h1 h2 (by
      obtain ⟨a2, c2, e, k1, k2, k3⟩ := hrow.below hW
      exact ⟨a2, c2, e, k1, k2, k3.imp id (fun ⟨b, o, e1, e2, e3⟩ => ⟨b, o, e1, Nat.lt_of_lt_of_le e2 hW.size, e3⟩)⟩) (fun x W1 hW1 => areProof1_any x st pb W1 (hE.below (hW.trans (hW1.mono hW.size))) hst ((hW1.cell (p := ⟨pb, 0, none⟩) (World.block_lt_of_cell? _ _ h3)).trans h3))
    have e := any_ga zs (fun y => covB y.1 y.2.1 st && !(closL y.1 y.2.1 st == st))
    rw [hzs] at e
    rw [e] at h
    exact h
  have HFD : Hid (L.find? (fun x => covB x.1 x.2.1 n) = (zs.find? (fun z => covB z.1.1.1 z.1.1.2.1 n)).map (fun z => z.1.1)) := (by rw [← hzs]; exact find_ga zs _)
  have HV : Hid (∀ W, Calls Tryd.prog 27 #[.slice a zs.length cap] W fun e w' => e = .returned (.func (.func 52) #[] #[.pointer (some ⟨W.heap.size, 0, none⟩)]) ∧ w' = W.alloc (.cells #[.slice a zs.length cap] 29)) := fun W => gvalues_any a _ cap W
  have HCV : Hid (∀ W, Calls Tryd.prog 58 #[.string ⟨n.toArray⟩] W fun e w' => e = .returned (.func (.func 72) #[] #[.pointer (some ⟨W.heap.size, 0, none⟩)]) ∧ w' = W.alloc (.cells #[.string ⟨n.toArray⟩] 9)) := fun W => covering_any n W
  obtain ⟨r, hrr⟩ : ∃ r, r = prfB L n := ⟨_, rfl⟩
  have HRR : Hid (r = prfB L n) := hrr
  rw [← hrr]
  have HB2 : Hid (Below w.heap.size w ((w.alloc (.cells #[.slice a zs.length cap] 29)).alloc (.cells #[.string ⟨n.toArray⟩] 9))) := ((Below.refl w.heap.size w).alloc (Nat.le_refl _) _).alloc (by simp) _
  have HC1 := HF1.out _ w.heap.size (w.heap.size + 1) HB2.out (by simp; omega) (new_cell1 w _ _ _) (new_cell2 w _ _ _)
  obtain ⟨od, hod⟩ : ∃ od, od = zs.find? (fun z => covB z.1.1.1 z.1.1.2.1 n) := ⟨_, rfl⟩
  rw [← hod] at HC1 HFD
  have HC2 : Hid (Calls Tryd.prog 26 #[.func (.func 52) #[] #[.pointer (some ⟨w.heap.size, 0, none⟩)], .func (.func 72) #[] #[.pointer (some ⟨w.heap.size + 1, 0, none⟩)]] ((w.alloc (.cells #[.slice a zs.length cap] 29)).alloc (.cells #[.string ⟨n.toArray⟩] 9)) fun e w' => e = .returned (.tuple #[fgV od, .bool od.isSome]) ∧ Below ((w.alloc (.cells #[.slice a zs.length cap] 29)).alloc (.cells #[.string ⟨n.toArray⟩] 9)).heap.size ((w.alloc (.cells #[.slice a zs.length cap] 29)).alloc (.cells #[.string ⟨n.toArray⟩] 9)) w') := HC1
  clear HC1 hod HF1 hrow hrr hln hzs
  cases od with
  | none =>
    have HF : Hid (r = false) := HRR.out.trans (prf_none HFD.out)
    clear HRR HFD HF2
    unfold fgV at HC2
    go_enter Tryd.func40, Tryd.ntmps40
    go_wp2_with fail
    refine (HV.out _).mono ?_
    rintro e w1 ⟨rfl, rfl⟩
    go_wp2_with fail
    refine (HCV.out _).mono ?_
    rintro e w2 ⟨rfl, rfl⟩
    rw [show (w.alloc (.cells #[.slice a zs.length cap] 29)).heap.size = w.heap.size + 1 by simp]
    go_wp2_with fail
    refine HC2.out.mono ?_
    rintro e w3 ⟨rfl, hb3⟩
    have hbw3 := HB2.out.trans (hb3.mono HB2.out.size)
    have hbw4 := hbw3.alloc hbw3.size (.cells #[.string ⟨#[]⟩, .string ⟨#[]⟩, .slice none 0 0] 26)
    go_wp2_with fail
    go_ret
    exact ⟨ret_bool HF.out.symm, hbw4⟩
  | some x =>
    have HP := prf_some HFD.out
    have HRP : Hid (r = (!(closL x.1.1.1 x.1.1.2.1 n == n) && L.any (fun y => covB y.1 y.2.1 (starL (closL x.1.1.1 x.1.1.2.1 n)) && !(closL y.1 y.2.1 (starL (closL x.1.1.1 x.1.1.2.1 n)) == starL (closL x.1.1.1 x.1.1.2.1 n))))) := HRR.out.trans HP
    have HCL : Hid (∀ W, Below w.heap.size w W → Calls Tryd.prog 59 #[.agg #[.string ⟨x.1.1.1.toArray⟩, .string ⟨x.1.1.2.1.toArray⟩, .slice x.1.2.1 x.1.1.2.2.length x.1.2.2], .string ⟨n.toArray⟩] W fun e w' => e = .returned (.string ⟨(closL x.1.1.1 x.1.1.2.1 n).toArray⟩) ∧ Below W.heap.size W w') := fun W h => closestIn_any ⟨x.1.1.1.toArray⟩ ⟨x.1.1.2.1.toArray⟩ ⟨n.toArray⟩ _ W (hE.below h) ⟨x.2.1, x.2.2, hnn.out⟩
    have HSN : Hid (closL x.1.1.1 x.1.1.2.1 n ≠ n → nameB (starL (closL x.1.1.1 x.1.1.2.1 n)) = true) := fun h => clos_star hnn.out h
    have HLN : Hid ((closL x.1.1.1 x.1.1.2.1 n).length ≤ 60) := (name_parts (clos_name hnn.out)).2.1
    obtain ⟨c, hc⟩ : ∃ c, c = closL x.1.1.1 x.1.1.2.1 n := ⟨_, rfl⟩
    rw [← hc] at HRP HCL HSN HLN
    clear HRR HFD HP hc
    unfold fgV at HC2
    simp only [Option.isSome_some] at HC2
    by_cases hcn : c = n
    · have HF : Hid (r = false) := HRP.out.trans (by rw [show (c == n) = true by simpa using hcn]; rfl)
      have e1 : (c == n) = true := by simpa using hcn
      clear HRP HF2 hcn
      go_enter Tryd.func40, Tryd.ntmps40
      go_wp2_with fail
      refine (HV.out _).mono ?_
      rintro e w1 ⟨rfl, rfl⟩
      go_wp2_with fail
      refine (HCV.out _).mono ?_
      rintro e w2 ⟨rfl, rfl⟩
      rw [show (w.alloc (.cells #[.slice a zs.length cap] 29)).heap.size = w.heap.size + 1 by simp]
      go_wp2_with fail
      refine HC2.out.mono ?_
      rintro e w3 ⟨rfl, hb3⟩
      have hbw3 := HB2.out.trans (hb3.mono HB2.out.size)
      have hbw4 := hbw3.alloc hbw3.size (.cells #[.string ⟨x.1.1.1.toArray⟩, .string ⟨x.1.1.2.1.toArray⟩, .slice x.1.2.1 x.1.1.2.2.length x.1.2.2] 26)
      go_wp2_with fail
      refine (HCL.out _ hbw4).mono ?_
      rintro e w5 ⟨rfl, hb5⟩
      have hbw5 := hbw4.trans (hb5.mono hbw4.size)
      go_wp2_with fail
      go_ret
      exact ⟨ret_bool HF.out.symm, hbw5⟩
    · have HF : Hid (r = L.any (fun y => covB y.1 y.2.1 (starL c) && !(closL y.1 y.2.1 (starL c) == starL c))) := HRP.out.trans (by rw [show (c == n) = false by simpa using hcn]; rfl)
      have e1 : (c == n) = false := by simpa using hcn
      have hsn := HSN.out hcn
      have HSB : Hid (∀ W, Calls Tryd.prog 60 #[.string ⟨c.toArray⟩] W fun e w' => e = .returned (.string ⟨(starL c).toArray⟩) ∧ Below W.heap.size W w') := fun W => starBelow_any c W HLN.out
      have HF3 : Hid (∀ W Bs pb, Below w.heap.size w W → Bs < W.heap.size → W.cell? ⟨Bs, 0, none⟩ = some (.slice a zs.length cap) → W.cell? ⟨pb, 0, none⟩ = some (.string ⟨(starL c).toArray⟩) → Calls Tryd.prog 26 #[.func (.func 52) #[] #[.pointer (some ⟨Bs, 0, none⟩)], .func (.func 61) #[] #[.pointer (some ⟨pb, 0, none⟩)]] W fun e w' => e = .returned (.tuple #[fgV (zs.find? (fun z => covB z.1.1.1 z.1.1.2.1 (starL c) && !(closL z.1.1.1 z.1.1.2.1 (starL c) == starL c))), .bool (L.any (fun y => covB y.1 y.2.1 (starL c) && !(closL y.1 y.2.1 (starL c) == starL c)))]) ∧ Below W.heap.size W w') := HF2.out (starL c) hsn
      obtain ⟨fv, hfv⟩ : ∃ fv, fv = fgV (zs.find? (fun z => covB z.1.1.1 z.1.1.2.1 (starL c) && !(closL z.1.1.1 z.1.1.2.1 (starL c) == starL c))) := ⟨_, rfl⟩
      rw [← hfv] at HF3
      obtain ⟨fb, hfb⟩ : ∃ fb, fb = L.any (fun y => covB y.1 y.2.1 (starL c) && !(closL y.1 y.2.1 (starL c) == starL c)) := ⟨_, rfl⟩
      rw [← hfb] at HF3 HF
      obtain ⟨st, hst⟩ : ∃ st, st = starL c := ⟨_, rfl⟩
      rw [← hst] at HF3 HSB
      clear HRP HF2 hcn HSN hsn hfv hfb hst HLN
      go_enter Tryd.func40, Tryd.ntmps40
      go_wp2_with fail
      refine (HV.out _).mono ?_
      rintro e w1 ⟨rfl, rfl⟩
      go_wp2_with fail
      refine (HCV.out _).mono ?_
      rintro e w2 ⟨rfl, rfl⟩
      rw [show (w.alloc (.cells #[.slice a zs.length cap] 29)).heap.size = w.heap.size + 1 by simp]
      go_wp2_with fail
      refine HC2.out.mono ?_
      rintro e w3 ⟨rfl, hb3⟩
      have hbw3 := HB2.out.trans (hb3.mono HB2.out.size)
      have hbw4 := hbw3.alloc hbw3.size (.cells #[.string ⟨x.1.1.1.toArray⟩, .string ⟨x.1.1.2.1.toArray⟩, .slice x.1.2.1 x.1.1.2.2.length x.1.2.2] 26)
      go_wp2_with fail
      refine (HCL.out _ hbw4).mono ?_
      rintro e w5 ⟨rfl, hb5⟩
      have hbw5 := hbw4.trans (hb5.mono hbw4.size)
      clear hb3 hb5 hbw3 hbw4 HC2 HCL
      go_wp2_with fail
      refine (HSB.out _).mono ?_
      rintro e w6 ⟨rfl, hb6⟩
      have hbw6 := hbw5.trans (hb6.mono hbw5.size)
      clear hb6 hbw5
      have HB8 : Hid (Below w.heap.size w ((w6.alloc (.cells #[.string ⟨st.toArray⟩] 9)).alloc (.cells #[.slice a zs.length cap] 29))) := (hbw6.alloc hbw6.size _).alloc (by have := hbw6.size; simp; omega) _
      have HC8 := HF3.out _ (w6.heap.size + 1) w6.heap.size HB8.out (by simp) (new_cell2 w6 _ _ _) (new_cell1 w6 _ _ _)
      have HC9 : Hid _ := HC8
      clear HC8 HF3
      go_wp2_with fail
      refine (HV.out _).mono ?_
      rintro e w7 ⟨rfl, rfl⟩
      rw [show (w6.alloc (.cells #[.string ⟨st.toArray⟩] 9)).heap.size = w6.heap.size + 1 by simp]
      go_wp2_with fail
      refine Calls.mono HC9.out ?_
      rintro e w9 ⟨rfl, hb9⟩
      have hbw9 := HB8.out.trans (hb9.mono HB8.out.size)
      go_wp2_with fail
      go_ret
      exact ⟨ret_bool HF.out.symm, hbw9⟩

set_option maxRecDepth 20000 in
set_option maxHeartbeats 4000000 in
theorem iCheckAbsent_any (ap n : List UInt8) (v : Value) (L : List (List UInt8 × List UInt8 × List Int)) (w : World) (hr : GRow w v L) (hap : ap.length ≤ 1048576) (hnl : n.length ≤ 1048576) (hE : Env w) :
    Calls Tryd.prog 15 #[.string ⟨ap.toArray⟩, v, .string ⟨n.toArray⟩] w fun e w' => e = .returned (.tuple #[.bool (chkB ap L n && prfB L n), .bool (chkB ap L n)]) ∧ Below w.heap.size w w' := by
  have H1 : Hid (∀ W, Below w.heap.size w W → Calls Tryd.prog 38 #[.string ⟨n.toArray⟩, .string ⟨ap.toArray⟩] W fun e w' => e = .returned (.tuple #[.bool (belowT n ap), .bool (bothB n ap)]) ∧ Below W.heap.size W w') := fun W hW => iIsBl_any ⟨n.toArray⟩ ⟨ap.toArray⟩ W (by rw [size_list]; omega) (by rw [size_list]; omega) (hE.below hW)
  have H2 : Hid (∀ W, Below w.heap.size w W → Calls Tryd.prog 39 #[v] W fun e w' => e = .returned (.bool (haveB L)) ∧ Below W.heap.size W w') := fun W hW => haveNames_any v L W (hr.kept hW) (hE.below hW)
  have H3 : Hid (belowT n ap = true → haveB L = true → ∀ W, Below w.heap.size w W → Calls Tryd.prog 40 #[v, .string ⟨n.toArray⟩] W fun e w' => e = .returned (.bool (prfB L n)) ∧ Below W.heap.size W w') := fun h1 h2 W hW => areProof_any v L n W (hr.kept hW) h2 (by unfold belowT at h1; simp only [Bool.and_eq_true] at h1; exact h1.1.1) (hE.below hW)
  obtain ⟨a, cap, rfl, hcap, hmax, _⟩ := grow_value hr
  clear hr
  have HC : Hid (chkB ap L n = (belowT n ap && decide (L.length ≤ 2) && haveB L)) := rfl
  obtain ⟨k, hk⟩ : ∃ k, k = chkB ap L n := ⟨_, rfl⟩
  obtain ⟨p, hp⟩ : ∃ p, p = prfB L n := ⟨_, rfl⟩
  obtain ⟨hv, hhv⟩ : ∃ hv, hv = haveB L := ⟨_, rfl⟩
  obtain ⟨bt, hbt⟩ : ∃ bt, bt = belowT n ap := ⟨_, rfl⟩
  rw [← hk, ← hbt, ← hhv] at HC
  rw [← hbt] at H1
  rw [← hhv] at H2
  rw [← hbt, ← hhv, ← hp] at H3
  rw [← hk, ← hp]
  clear hk hp hhv hbt
  cases bt with
  | false =>
    have HF : Hid ((k && p) = false ∧ k = false) := by have h := HC.out; exact ⟨by rw [h]; rfl, h.trans rfl⟩
    clear HC H3
    go_enter Tryd.func15, Tryd.ntmps15
    go_wp2_with fail
    refine (H1.out _ (Below.refl _ _)).mono ?_
    rintro e w1 ⟨rfl, hb1⟩
    go_wp2_with fail
    go_ret2
    exact ⟨ret_two (val_bool HF.out.1.symm) (val_bool HF.out.2.symm), hb1⟩
  | true =>
    by_cases hl2 : 2 < L.length
    · have HF : Hid ((k && p) = false ∧ k = false) := by have h : k = false := HC.out.trans (by rw [decide_eq_false (show ¬ L.length ≤ 2 by omega)]; rfl); exact ⟨by rw [h]; rfl, h⟩
      clear HC H3
      go_enter Tryd.func15, Tryd.ntmps15
      go_wp2_with fail
      refine (H1.out _ (Below.refl _ _)).mono ?_
      rintro e w1 ⟨rfl, hb1⟩
      go_wp2_with fail
      go_ret2
      exact ⟨ret_two (val_bool HF.out.1.symm) (val_bool HF.out.2.symm), hb1⟩
    · cases hv with
      | false =>
        have HF : Hid ((k && p) = false ∧ k = false) := by have h : k = false := HC.out.trans (by simp); exact ⟨by rw [h]; rfl, h⟩
        clear HC H3
        go_enter Tryd.func15, Tryd.ntmps15
        go_wp2_with fail
        refine (H1.out _ (Below.refl _ _)).mono ?_
        rintro e w1 ⟨rfl, hb1⟩
        go_wp2_with fail
        refine (H2.out _ hb1).mono ?_
        rintro e w2 ⟨rfl, hb2⟩
        have hbw2 := hb1.trans (hb2.mono hb1.size)
        go_wp2_with fail
        go_ret2
        exact ⟨ret_two (val_bool HF.out.1.symm) (val_bool HF.out.2.symm), hbw2⟩
      | true =>
        have HF : Hid ((k && p) = p ∧ k = true) := by have h : k = true := HC.out.trans (by rw [decide_eq_true (show L.length ≤ 2 by omega)]; rfl); exact ⟨by rw [h]; cases p <;> rfl, h⟩
        clear HC
        go_enter Tryd.func15, Tryd.ntmps15
        go_wp2_with fail
        refine (H1.out _ (Below.refl _ _)).mono ?_
        rintro e w1 ⟨rfl, hb1⟩
        go_wp2_with fail
        refine (H2.out _ hb1).mono ?_
        rintro e w2 ⟨rfl, hb2⟩
        have hbw2 := hb1.trans (hb2.mono hb1.size)
        go_wp2_with fail
        refine (H3.out (by simp) (by simp) _ hbw2).mono ?_
        rintro e w3 ⟨rfl, hb3⟩
        have hbw3 := hbw2.trans (hb3.mono hbw2.size)
        go_wp2_with fail
        go_ret2
        exact ⟨ret_two (val_bool HF.out.1.symm) (val_bool HF.out.2.symm), hbw3⟩
end Go.Proofs.YtoeffplfkdogdaaDoor

namespace Go.Proofs.YtoeffplfkdogdaaDoor
open Go.RowKit

theorem find_pre {α : Type} {L : List α} {p : α → Bool} (k : Nat) (hk : k < L.length) (h : ∀ j, (hj : j < L.length) → j < k → p L[j] = false) (hp : p L[k] = true) : L.find? p = some L[k] := by
  rw [List.find?_eq_some_iff_getElem]
  exact ⟨hp, k, hk, rfl, fun j hj => by simp [h j (by omega) hj]⟩
theorem find_nil {α : Type} {L : List α} {p : α → Bool} (h : ∀ j, (hj : j < L.length) → p L[j] = false) : L.find? p = none := by
  rw [List.find?_eq_none]; intro x hx
  obtain ⟨j, hj, rfl⟩ := List.getElem_of_mem hx
  simp [h j hj]
theorem any_bad {α : Type} {L : List α} {p : α → Bool} (h : ∀ j, (hj : j < L.length) → p L[j] = false) : L.any p = false := by
  rw [List.any_eq_false]; intro x hx
  obtain ⟨j, hj, rfl⟩ := List.getElem_of_mem hx
  simp [h j hj]
theorem any_hit {α : Type} {L : List α} {p : α → Bool} (k : Nat) (hk : k < L.length) (h : p L[k] = true) : L.any p = true := by
  rw [List.any_eq_true]; exact ⟨_, List.getElem_mem hk, h⟩

set_option maxRecDepth 20000 in
set_option maxHeartbeats 8000000 in
theorem sCheckAbsent_any (ap n : List UInt8) (v : Value) (L : List (List UInt8 × List UInt8 × List Int)) (w : World) (hr : GRow w v L) (hx : Hid (∀ x ∈ L, x.1.length ≤ 1048576 ∧ x.2.1.length ≤ 1048576)) (hap : ap.length ≤ 1048576) (hnl : n.length ≤ 1048576) :
    Calls Tryd.prog 14 #[.string ⟨ap.toArray⟩, v, .string ⟨n.toArray⟩] w fun e w' => e = .returned (.tuple #[.bool (chkB ap L n && prfB L n), .bool (chkB ap L n)]) ∧ Below w.heap.size w w' := by
  obtain ⟨a, cap, rfl, hcap, hmax, HROW⟩ := grow_value hr
  clear hr
  have HNA : Hid (∀ W, Calls Tryd.prog 18 #[.string ⟨ap.toArray⟩] W fun e w' => e = .returned (.bool (nameB ap)) ∧ Below W.heap.size W w') := fun W => sGoodName_any ⟨ap.toArray⟩ W (by rw [size_list]; omega)
  have HNN : Hid (∀ W, Calls Tryd.prog 18 #[.string ⟨n.toArray⟩] W fun e w' => e = .returned (.bool (nameB n)) ∧ Below W.heap.size W w') := fun W => sGoodName_any ⟨n.toArray⟩ W (by rw [size_list]; omega)
  have HLB : Hid (∀ W, Calls Tryd.prog 19 #[.string ⟨n.toArray⟩, .string ⟨ap.toArray⟩] W fun e w' => e = .returned (.bool (belowB n ap)) ∧ w' = W) := fun W => l1Below_any ⟨n.toArray⟩ ⟨ap.toArray⟩ W (by rw [size_list]; omega) (by rw [size_list]; omega)
  have HCK : Hid (chkB ap L n = (((nameB n && nameB ap) && belowB n ap) && decide (L.length ≤ 2) && haveB L)) := rfl
  obtain ⟨ck, hck⟩ : ∃ ck, ck = chkB ap L n := ⟨_, rfl⟩
  obtain ⟨r, hrr⟩ : ∃ r, r = (chkB ap L n && prfB L n) := ⟨_, rfl⟩
  have HRR : Hid (r = (ck && prfB L n)) := (by rw [hck]; exact hrr : r = (ck && prfB L n))
  rw [← hrr, ← hck]
  rw [← hck] at HCK
  clear hck hrr
  have HNO : Hid (ck = false → r = false ∧ ck = false) := fun h => ⟨HRR.out.trans (by rw [h]; rfl), h⟩
  cases na : nameB ap with
  | false =>
    have HF : Hid (r = false ∧ ck = false) := HNO.out (HCK.out.trans (by rw [na]; simp))
    rw [na] at HNA
    clear HCK HRR HNO na
    go_enter Tryd.func14, Tryd.ntmps14
    go_wp2_with fail
    refine (HNA.out _).mono ?_
    rintro e w1 ⟨rfl, hb1⟩
    go_wp2_with fail
    go_ret2
    exact ⟨ret_two (val_bool HF.out.1.symm) (val_bool HF.out.2.symm), hb1⟩
  | true =>
  rw [na] at HNA HCK
  cases nn : nameB n with
  | false =>
    have HF : Hid (r = false ∧ ck = false) := HNO.out (HCK.out.trans (by rw [nn]; rfl))
    rw [nn] at HNN
    clear HCK HRR HNO nn na
    go_enter Tryd.func14, Tryd.ntmps14
    go_wp2_with fail
    refine (HNA.out _).mono ?_
    rintro e w1 ⟨rfl, hb1⟩
    go_wp2_with fail
    refine (HNN.out _).mono ?_
    rintro e w2 ⟨rfl, hb2⟩
    have hbw2 := hb1.trans (hb2.mono hb1.size)
    go_wp2_with fail
    go_ret2
    exact ⟨ret_two (val_bool HF.out.1.symm) (val_bool HF.out.2.symm), hbw2⟩
  | true =>
  rw [nn] at HNN HCK
  cases nb : belowB n ap with
  | false =>
    have HF : Hid (r = false ∧ ck = false) := HNO.out (HCK.out.trans (by rw [nb]; rfl))
    rw [nb] at HLB
    clear HCK HRR HNO nn na nb
    go_enter Tryd.func14, Tryd.ntmps14
    go_wp2_with fail
    refine (HNA.out _).mono ?_
    rintro e w1 ⟨rfl, hb1⟩
    go_wp2_with fail
    refine (HNN.out _).mono ?_
    rintro e w2 ⟨rfl, hb2⟩
    have hbw2 := hb1.trans (hb2.mono hb1.size)
    go_wp2_with fail
    refine (HLB.out _).mono ?_
    rintro e w3 ⟨rfl, rfl⟩
    go_wp2_with fail
    go_ret2
    exact ⟨ret_two (val_bool HF.out.1.symm) (val_bool HF.out.2.symm), hbw2⟩
  | true =>
  rw [nb] at HLB HCK
  by_cases hl2 : 2 < L.length
  · have HF : Hid (r = false ∧ ck = false) := HNO.out (HCK.out.trans (by rw [decide_eq_false (show ¬ L.length ≤ 2 by omega)]; rfl))
    clear HCK HRR HNO nn na nb
    go_enter Tryd.func14, Tryd.ntmps14
    go_wp2_with fail
    refine (HNA.out _).mono ?_
    rintro e w1 ⟨rfl, hb1⟩
    go_wp2_with fail
    refine (HNN.out _).mono ?_
    rintro e w2 ⟨rfl, hb2⟩
    have hbw2 := hb1.trans (hb2.mono hb1.size)
    go_wp2_with fail
    refine (HLB.out _).mono ?_
    rintro e w3 ⟨rfl, rfl⟩
    go_wp2_with fail
    go_ret2
    exact ⟨ret_two (val_bool HF.out.1.symm) (val_bool HF.out.2.symm), hbw2⟩
  have HCK2 : Hid (ck = haveB L) := HCK.out.trans (by rw [decide_eq_true (show L.length ≤ 2 by omega)]; rfl)
  have HNM : Hid (nameB n = true) := nn
  have HCELL : Hid (∀ k (hk : k < L.length), ∃ b o aa ca, a = some ⟨b, o, none⟩ ∧ ca ≤ 9223372036854775807 ∧ ∀ W, Below w.heap.size w W → W.cell? ⟨b, o + k * 3, none⟩ = some (.string ⟨L[k].1.toArray⟩) ∧ W.cell? ⟨b, o + k * 3 + 1, none⟩ = some (.string ⟨L[k].2.1.toArray⟩) ∧ W.cell? ⟨b, o + k * 3 + 2, none⟩ = some (.slice aa L[k].2.2.length ca)) := fun k hk => by
    obtain ⟨b, o, ha, hbl, hcel⟩ := HROW.out (by omega)
    obtain ⟨va, h⟩ := hcel k hk
    obtain ⟨aa, ca, e, _, hca, _⟩ := id h.2.2.2
    subst e
    unfold maxLen at hca
    exact ⟨b, o, aa, ca, ha, by omega, fun W hW => by have h2 := h.kept hW; exact ⟨h2.1, h2.2.1, h2.2.2.1⟩⟩
  clear HCK HNO nn na nb HROW
  go_enter Tryd.func14, Tryd.ntmps14
  go_wp2_with fail
  refine (HNA.out _).mono ?_
  rintro e w1 ⟨rfl, hb1⟩
  go_wp2_with fail
  refine (HNN.out _).mono ?_
  rintro e w2 ⟨rfl, hb2⟩
  have hbw2 := hb1.trans (hb2.mono hb1.size)
  go_wp2_with fail
  refine (HLB.out _).mono ?_
  rintro e w3 ⟨rfl, rfl⟩
  clear HNA HNN HLB hb1 hb2
  go_wp2_with fail
  go_loopw [37] (fun i wr => ∃ k : Nat, k ≤ L.length ∧ i = .int .i64 (k : Int) ∧ Hid (∀ j, (hj : j < L.length) → j < k → (nameB L[j].1 && nameB L[j].2.1) = true) ∧ Below w.heap.size w wr) (fun i _ => L.length - (intOf i).toNat)
  case atStart => exact ⟨0, Nat.zero_le _, rfl, fun j _ h => absurd h (Nat.not_lt_zero _), hbw2⟩
  case round =>
    obtain ⟨k, hk, rfl, HA, hb⟩ := hrel
    clear hbw2
    by_cases hlt : k < L.length
    · obtain ⟨b, o, aa, ca, ha, hca, hce⟩ := HCELL.out k hlt
      rw [ha]
      have hxl := hx.out _ (List.getElem_mem hlt)
      have HBAD : Hid ((nameB (L[k]'hlt).1 && nameB (L[k]'hlt).2.1) = false → r = false ∧ ck = false) := fun h => by
        have e := HCK2.out.trans (have_bad k hlt h)
        exact ⟨HRR.out.trans (by rw [e]; rfl), e⟩
      have HUP : Hid ((nameB (L[k]'hlt).1 && nameB (L[k]'hlt).2.1) = true → ∀ j, (hj : j < L.length) → j < k + 1 → (nameB L[j].1 && nameB L[j].2.1) = true) := fun h j hj hj2 => by
        rcases Nat.lt_or_ge j k with h' | h'
        · exact HA.out j hj h'
        · obtain rfl : j = k := by omega
          exact h
      obtain ⟨x, hxe⟩ : ∃ x, x = L[k]'hlt := ⟨_, rfl⟩
      rw [← hxe] at hce HBAD HUP hxl
      obtain ⟨c0, c1, c2⟩ := hce wr hb
      have HX : Hid (∀ W, Below (wr.alloc (.cells #[.string ⟨x.1.toArray⟩, .string ⟨x.2.1.toArray⟩, .slice aa x.2.2.length ca] 26)).heap.size (wr.alloc (.cells #[.string ⟨x.1.toArray⟩, .string ⟨x.2.1.toArray⟩, .slice aa x.2.2.length ca] 26)) W → W.cell? ⟨wr.heap.size, 0, none⟩ = some (.string ⟨x.1.toArray⟩) ∧ W.cell? ⟨wr.heap.size, 1, none⟩ = some (.string ⟨x.2.1.toArray⟩) ∧ Below w.heap.size w W) := fun W hW => by
        have h := gap_facts hW
        exact ⟨h.1, h.2.1, hb.trans (h.2.2.2.mono hb.size)⟩
      have H1 : Hid (∀ W, Calls Tryd.prog 18 #[.string ⟨x.1.toArray⟩] W fun e w' => e = .returned (.bool (nameB x.1)) ∧ Below W.heap.size W w') := fun W => sGoodName_any ⟨x.1.toArray⟩ W (by rw [size_list]; omega)
      have H2 : Hid (∀ W, Calls Tryd.prog 18 #[.string ⟨x.2.1.toArray⟩] W fun e w' => e = .returned (.bool (nameB x.2.1)) ∧ Below W.heap.size W w') := fun W => sGoodName_any ⟨x.2.1.toArray⟩ W (by rw [size_list]; omega)
      clear hce hxe HCELL
      cases h1 : nameB x.1 with
      | false =>
        have HF : Hid (r = false ∧ ck = false) := HBAD.out (by rw [h1]; rfl)
        rw [h1] at H1
        clear HBAD HUP h1
        go_wp2_with fail
        refine (H1.out _).mono ?_
        rintro e w4 ⟨rfl, hb4⟩
        have hbw4 := (HX.out _ hb4).2.2
        go_wp2_with fail
        go_ret2
        exact ⟨ret_two (val_bool HF.out.1.symm) (val_bool HF.out.2.symm), hbw4⟩
      | true =>
        rw [h1] at H1
        cases h2 : nameB x.2.1 with
        | false =>
          have HF : Hid (r = false ∧ ck = false) := HBAD.out (by rw [h2]; simp)
          rw [h2] at H2
          clear HBAD HUP h1 h2
          go_wp2_with fail
          refine (H1.out _).mono ?_
          rintro e w4 ⟨rfl, hb4⟩
          obtain ⟨m0, m1, _⟩ := HX.out _ hb4
          go_wp2_with fail
          refine (H2.out _).mono ?_
          rintro e w5 ⟨rfl, hb5⟩
          have hbw5 := (HX.out _ (hb4.trans (hb5.mono hb4.size))).2.2
          go_wp2_with fail
          go_ret2
          exact ⟨ret_two (val_bool HF.out.1.symm) (val_bool HF.out.2.symm), hbw5⟩
        | true =>
          have HU : Hid (∀ j, (hj : j < L.length) → j < k + 1 → (nameB L[j].1 && nameB L[j].2.1) = true) := HUP.out (by rw [h1, h2]; rfl)
          rw [h2] at H2
          clear HBAD HUP h1 h2
          go_wp2_with fail
          refine (H1.out _).mono ?_
          rintro e w4 ⟨rfl, hb4⟩
          obtain ⟨m0, m1, _⟩ := HX.out _ hb4
          go_wp2_with fail
          refine (H2.out _).mono ?_
          rintro e w5 ⟨rfl, hb5⟩
          have hbw5 := (HX.out _ (hb4.trans (hb5.mono hb4.size))).2.2
          go_wp2_with fail
          go_roundw
          case rel => exact ⟨k + 1, by omega, by go_num, HU, hbw5⟩
          case measure => simp [intOf]; omega
    · have HHV : Hid (haveB L = true) := have_all (fun j hj => HA.out j hj (by omega))
      have HCT : Hid (ck = true) := HCK2.out.trans HHV.out
      have HRP : Hid (r = prfB L n) := HRR.out.trans (by rw [HCT.out]; rfl)
      have HNX : Hid (∀ x ∈ L, nameB x.1 = true ∧ nameB x.2.1 = true) := fun x hx => have_at HHV.out hx
      clear HRR HCK2 HHV HA
      go_wp2_with fail
      go_loopw [54] (fun i wr => ∃ k : Nat, k ≤ L.length ∧ i = .int .i64 (k : Int) ∧ Hid (∀ j, (hj : j < L.length) → j < k → covB L[j].1 L[j].2.1 n = false) ∧ Below w.heap.size w wr) (fun i _ => L.length - (intOf i).toNat)
      case atStart => exact ⟨0, Nat.zero_le _, rfl, fun j _ h => absurd h (Nat.not_lt_zero _), hb⟩
      case round =>
        obtain ⟨k2, hk2, rfl, HA, hb2⟩ := hrel
        by_cases hlt2 : k2 < L.length
        · obtain ⟨b, o, aa, ca, ha, hca, hce⟩ := HCELL.out k2 hlt2
          rw [ha]
          have hnx := HNX.out _ (List.getElem_mem hlt2)
          have HHIT : Hid (covB (L[k2]'hlt2).1 (L[k2]'hlt2).2.1 n = true → L.find? (fun x => covB x.1 x.2.1 n) = some (L[k2]'hlt2)) := fun h => find_pre k2 hlt2 HA.out h
          have HUP : Hid (covB (L[k2]'hlt2).1 (L[k2]'hlt2).2.1 n = false → ∀ j, (hj : j < L.length) → j < k2 + 1 → covB L[j].1 L[j].2.1 n = false) := fun h j hj hj2 => by
            rcases Nat.lt_or_ge j k2 with h' | h'
            · exact HA.out j hj h'
            · obtain rfl : j = k2 := by omega
              exact h
          obtain ⟨x, hxe⟩ : ∃ x, x = L[k2]'hlt2 := ⟨_, rfl⟩
          rw [← hxe] at hce HHIT HUP hnx
          obtain ⟨c0, c1, c2⟩ := hce wr hb2
          have HX : Hid (∀ W, Below (wr.alloc (.cells #[.string ⟨x.1.toArray⟩, .string ⟨x.2.1.toArray⟩, .slice aa x.2.2.length ca] 26)).heap.size (wr.alloc (.cells #[.string ⟨x.1.toArray⟩, .string ⟨x.2.1.toArray⟩, .slice aa x.2.2.length ca] 26)) W → W.cell? ⟨wr.heap.size, 0, none⟩ = some (.string ⟨x.1.toArray⟩) ∧ W.cell? ⟨wr.heap.size, 1, none⟩ = some (.string ⟨x.2.1.toArray⟩) ∧ W.cell? ⟨wr.heap.size, 2, none⟩ = some (.slice aa x.2.2.length ca) ∧ Below w.heap.size w W) := fun W hW => by
            have h := gap_facts hW
            exact ⟨h.1, h.2.1, h.2.2.1, hb2.trans (h.2.2.2.mono hb2.size)⟩
          have l1 := (name_parts hnx.1).2.1
          have l2 := (name_parts hnx.2).2.1
          have l3 := (name_parts HNM.out).2.1
          have HCO : Hid (∀ W, Calls Tryd.prog 35 #[.agg #[.string ⟨x.1.toArray⟩, .string ⟨x.2.1.toArray⟩, .slice aa x.2.2.length ca], .string ⟨n.toArray⟩] W fun e w' => e = .returned (.bool (covB x.1 x.2.1 n)) ∧ Below W.heap.size W w') := fun W => l8Covers_any ⟨x.1.toArray⟩ ⟨x.2.1.toArray⟩ ⟨n.toArray⟩ _ W (by rw [size_list]; omega) (by rw [size_list]; omega) (by rw [size_list]; omega) ⟨hnx.1, hnx.2, HNM.out⟩
          have HCL : Hid (∀ W, Calls Tryd.prog 36 #[.agg #[.string ⟨x.1.toArray⟩, .string ⟨x.2.1.toArray⟩, .slice aa x.2.2.length ca], .string ⟨n.toArray⟩] W fun e w' => e = .returned (.string ⟨(closL x.1 x.2.1 n).toArray⟩) ∧ Below W.heap.size W w') := fun W => l8Closest_any ⟨x.1.toArray⟩ ⟨x.2.1.toArray⟩ ⟨n.toArray⟩ _ W (by rw [size_list]; omega) (by rw [size_list]; omega) (by rw [size_list]; omega) ⟨hnx.1, hnx.2, HNM.out⟩
          clear hce hxe hnx l1 l2 l3 HA
          cases h1 : covB x.1 x.2.1 n with
          | false =>
            have HU : Hid (∀ j, (hj : j < L.length) → j < k2 + 1 → covB L[j].1 L[j].2.1 n = false) := HUP.out h1
            rw [h1] at HCO
            clear HUP h1 HHIT
            go_wp2_with fail
            refine (HCO.out _).mono ?_
            rintro e w4 ⟨rfl, hb4⟩
            have hbw4 := (HX.out _ hb4).2.2.2
            go_wp2_with fail
            go_roundw
            case rel => exact ⟨k2 + 1, by omega, by go_num, HU, hbw4⟩
            case measure => simp [intOf]; omega
          | true =>
            have HPS : Hid (r = (!(closL x.1 x.2.1 n == n) && L.any (fun y => covB y.1 y.2.1 (starL (closL x.1 x.2.1 n)) && !(closL y.1 y.2.1 (starL (closL x.1 x.2.1 n)) == starL (closL x.1 x.2.1 n))))) := HRP.out.trans (prf_some (HHIT.out h1))
            have hcl := (name_parts (clos_name (o := x.1) (n := x.2.1) HNM.out)).2.1
            have HST : Hid (∀ W, Calls Tryd.prog 37 #[.string ⟨(closL x.1 x.2.1 n).toArray⟩] W fun e w' => e = .returned (.string ⟨(starL (closL x.1 x.2.1 n)).toArray⟩) ∧ w' = W) := fun W => l8Star_any _ W (by omega)
            have HSN : Hid (closL x.1 x.2.1 n ≠ n → nameB (starL (closL x.1 x.2.1 n)) = true) := fun h => clos_star HNM.out h
            obtain ⟨c, hc⟩ : ∃ c, c = closL x.1 x.2.1 n := ⟨_, rfl⟩
            rw [← hc] at HPS HST HSN HCL
            obtain ⟨st, hst⟩ : ∃ st, st = starL c := ⟨_, rfl⟩
            rw [← hst] at HPS HST HSN
            rw [h1] at HCO
            clear HUP h1 HHIT hcl hc hst HRP
            go_wp2_with fail
            refine (HCO.out _).mono ?_
            rintro e w4 ⟨rfl, hb4⟩
            obtain ⟨m0, m1, m2, _⟩ := HX.out _ hb4
            go_wp2_with fail
            refine (HCL.out _).mono ?_
            rintro e w5 ⟨rfl, hb5⟩
            have hbw5 := (HX.out _ (hb4.trans (hb5.mono hb4.size))).2.2.2
            clear m0 m1 m2
            go_wp2_with fail
            refine (HST.out _).mono ?_
            rintro e w6 ⟨rfl, rfl⟩
            go_wp2_with fail
            clear hb4 hb5 HX HCO HCL HST c0 c1 c2
            obtain ⟨gx, hgx⟩ : ∃ gx, gx = wr.heap.size := ⟨_, rfl⟩
            rw [← hgx]
            clear hgx hb2
            go_loopw [69] (fun i w7 => ∃ k : Nat, k ≤ L.length ∧ i = .int .i64 (k : Int) ∧ Hid (c ≠ n → ∀ j, (hj : j < L.length) → j < k → (covB L[j].1 L[j].2.1 st && !(closL L[j].1 L[j].2.1 st == st)) = false) ∧ Below w.heap.size w w7) (fun i _ => L.length - (intOf i).toNat)
            case atStart => exact ⟨0, Nat.zero_le _, rfl, fun _ j _ h => absurd h (Nat.not_lt_zero _), hbw5⟩
            case round =>
              obtain ⟨k3, hk3, rfl, HA3, hb3⟩ := hrel
              clear hbw5
              by_cases hlt3 : k3 < L.length
              · obtain ⟨b', o', ab, cb, ha', hcb, hce⟩ := HCELL.out k3 hlt3
                have hbo : b' = b ∧ o' = o := by rw [ha] at ha'; cases ha'; exact ⟨rfl, rfl⟩
                obtain ⟨rfl, rfl⟩ := hbo
                clear ha'
                have hny := HNX.out _ (List.getElem_mem hlt3)
                have HHIT : Hid (c ≠ n → (covB (L[k3]'hlt3).1 (L[k3]'hlt3).2.1 st && !(closL (L[k3]'hlt3).1 (L[k3]'hlt3).2.1 st == st)) = true → r = true) := fun h1 h2 => HPS.out.trans (by rw [any_hit k3 hlt3 h2, show (c == n) = false by simpa using h1]; rfl)
                have HUP : Hid (c = n ∨ (covB (L[k3]'hlt3).1 (L[k3]'hlt3).2.1 st && !(closL (L[k3]'hlt3).1 (L[k3]'hlt3).2.1 st == st)) = false → (c ≠ n → ∀ j, (hj : j < L.length) → j < k3 + 1 → (covB L[j].1 L[j].2.1 st && !(closL L[j].1 L[j].2.1 st == st)) = false)) := fun h hcn j hj hj2 => by
                  rcases Nat.lt_or_ge j k3 with h' | h'
                  · exact HA3.out hcn j hj h'
                  · obtain rfl : j = k3 := by omega
                    rcases h with h | h
                    · exact absurd h hcn
                    · exact h
                obtain ⟨y, hye⟩ : ∃ y, y = L[k3]'hlt3 := ⟨_, rfl⟩
                rw [← hye] at hce HHIT HUP hny
                obtain ⟨c0, c1, c2⟩ := hce wr hb3
                have HX : Hid (∀ W, Below (wr.alloc (.cells #[.string ⟨y.1.toArray⟩, .string ⟨y.2.1.toArray⟩, .slice ab y.2.2.length cb] 26)).heap.size (wr.alloc (.cells #[.string ⟨y.1.toArray⟩, .string ⟨y.2.1.toArray⟩, .slice ab y.2.2.length cb] 26)) W → W.cell? ⟨wr.heap.size, 0, none⟩ = some (.string ⟨y.1.toArray⟩) ∧ W.cell? ⟨wr.heap.size, 1, none⟩ = some (.string ⟨y.2.1.toArray⟩) ∧ W.cell? ⟨wr.heap.size, 2, none⟩ = some (.slice ab y.2.2.length cb) ∧ Below w.heap.size w W) := fun W hW => by
                  have h := gap_facts hW
                  exact ⟨h.1, h.2.1, h.2.2.1, hb3.trans (h.2.2.2.mono hb3.size)⟩
                have HBA : Hid (Below w.heap.size w (wr.alloc (.cells #[.string ⟨y.1.toArray⟩, .string ⟨y.2.1.toArray⟩, .slice ab y.2.2.length cb] 26))) := hb3.alloc hb3.size _
                clear hce hye HA3
                by_cases hcn : c = n
                · have HU := HUP.out (.inl hcn)
                  have HU2 : Hid (c ≠ n → ∀ j, (hj : j < L.length) → j < k3 + 1 → (covB L[j].1 L[j].2.1 st && !(closL L[j].1 L[j].2.1 st == st)) = false) := HU
                  have e1 : (c == n) = true := by simpa using hcn
                  have e2 : (c != n) = false := by simpa using hcn
                  clear HU HUP HHIT hcn
                  go_wp2_with fail
                  go_roundw
                  case rel => exact ⟨k3 + 1, by omega, by go_num, HU2, HBA.out⟩
                  case measure => simp [intOf]; omega
                · have e1 : (c == n) = false := by simpa using hcn
                  have e2 : (c != n) = true := by simpa using hcn
                  have hsn := HSN.out hcn
                  have l1 := (name_parts hny.1).2.1
                  have l2 := (name_parts hny.2).2.1
                  have l3 := (name_parts hsn).2.1
                  have HCO : Hid (∀ W, Calls Tryd.prog 35 #[.agg #[.string ⟨y.1.toArray⟩, .string ⟨y.2.1.toArray⟩, .slice ab y.2.2.length cb], .string ⟨st.toArray⟩] W fun e w' => e = .returned (.bool (covB y.1 y.2.1 st)) ∧ Below W.heap.size W w') := fun W => l8Covers_any ⟨y.1.toArray⟩ ⟨y.2.1.toArray⟩ ⟨st.toArray⟩ _ W (by rw [size_list]; omega) (by rw [size_list]; omega) (by rw [size_list]; omega) ⟨hny.1, hny.2, hsn⟩
                  have HCL : Hid (∀ W, Calls Tryd.prog 36 #[.agg #[.string ⟨y.1.toArray⟩, .string ⟨y.2.1.toArray⟩, .slice ab y.2.2.length cb], .string ⟨st.toArray⟩] W fun e w' => e = .returned (.string ⟨(closL y.1 y.2.1 st).toArray⟩) ∧ Below W.heap.size W w') := fun W => l8Closest_any ⟨y.1.toArray⟩ ⟨y.2.1.toArray⟩ ⟨st.toArray⟩ _ W (by rw [size_list]; omega) (by rw [size_list]; omega) (by rw [size_list]; omega) ⟨hny.1, hny.2, hsn⟩
                  have HHIT2 := HHIT.out hcn
                  have HH3 : Hid ((covB y.1 y.2.1 st && !(closL y.1 y.2.1 st == st)) = true → r = true) := HHIT2
                  have HU3 : Hid ((covB y.1 y.2.1 st && !(closL y.1 y.2.1 st == st)) = false → (c ≠ n → ∀ j, (hj : j < L.length) → j < k3 + 1 → (covB L[j].1 L[j].2.1 st && !(closL L[j].1 L[j].2.1 st == st)) = false)) := fun h => HUP.out (.inr h)
                  obtain ⟨cl, hcl⟩ : ∃ cl, cl = closL y.1 y.2.1 st := ⟨_, rfl⟩
                  rw [← hcl] at HCL HH3 HU3
                  clear HUP HHIT HHIT2 hcn hsn l1 l2 l3 hny hcl
                  cases h1 : covB y.1 y.2.1 st with
                  | false =>
                    have HU2 : Hid (c ≠ n → ∀ j, (hj : j < L.length) → j < k3 + 1 → (covB L[j].1 L[j].2.1 st && !(closL L[j].1 L[j].2.1 st == st)) = false) := HU3.out (by rw [h1]; rfl)
                    rw [h1] at HCO
                    clear HU3 HH3 h1
                    go_wp2_with fail
                    refine (HCO.out _).mono ?_
                    rintro e w8 ⟨rfl, hb8⟩
                    have hbw8 := (HX.out _ hb8).2.2.2
                    go_wp2_with fail
                    go_roundw
                    case rel => exact ⟨k3 + 1, by omega, by go_num, HU2, hbw8⟩
                    case measure => simp [intOf]; omega
                  | true =>
                    rw [h1] at HCO
                    by_cases h2 : cl = st
                    · have HU2 : Hid (c ≠ n → ∀ j, (hj : j < L.length) → j < k3 + 1 → (covB L[j].1 L[j].2.1 st && !(closL L[j].1 L[j].2.1 st == st)) = false) := HU3.out (by rw [h1, show (cl == st) = true by simpa using h2]; rfl)
                      have e3 : (cl == st) = true := by simpa using h2
                      have e4 : (cl != st) = false := by simpa using h2
                      clear HU3 HH3 h1 h2
                      go_wp2_with fail
                      refine (HCO.out _).mono ?_
                      rintro e w8 ⟨rfl, hb8⟩
                      obtain ⟨m0, m1, m2, _⟩ := HX.out _ hb8
                      go_wp2_with fail
                      refine (HCL.out _).mono ?_
                      rintro e w9 ⟨rfl, hb9⟩
                      have hbw9 := (HX.out _ (hb8.trans (hb9.mono hb8.size))).2.2.2
                      go_wp2_with fail
                      go_roundw
                      case rel => exact ⟨k3 + 1, by omega, by go_num, HU2, hbw9⟩
                      case measure => simp [intOf]; omega
                    · have HF : Hid (r = true) := HH3.out (by rw [h1, show (cl == st) = false by simpa using h2]; rfl)
                      have e3 : (cl == st) = false := by simpa using h2
                      have e4 : (cl != st) = true := by simpa using h2
                      clear HU3 HH3 h1 h2
                      go_wp2_with fail
                      refine (HCO.out _).mono ?_
                      rintro e w8 ⟨rfl, hb8⟩
                      obtain ⟨m0, m1, m2, _⟩ := HX.out _ hb8
                      go_wp2_with fail
                      refine (HCL.out _).mono ?_
                      rintro e w9 ⟨rfl, hb9⟩
                      have hbw9 := (HX.out _ (hb8.trans (hb9.mono hb8.size))).2.2.2
                      go_wp2_with fail
                      go_ret2
                      exact ⟨ret_two (val_bool HF.out.symm) (val_bool HCT.out.symm), hbw9⟩
              · have HF : Hid (r = false) := HPS.out.trans (by
                  by_cases hcn : c = n
                  · rw [show (c == n) = true by simpa using hcn]; rfl
                  · rw [any_bad (fun j hj => HA3.out hcn j hj (by omega))]; simp)
                go_wp2_with fail
                go_ret2
                exact ⟨ret_two (val_bool HF.out.symm) (val_bool HCT.out.symm), hb3⟩
        · have HF : Hid (r = false) := HRP.out.trans (prf_none (find_nil (fun j hj => HA.out j hj (by omega))))
          go_wp2_with fail
          go_ret2
          exact ⟨ret_two (val_bool HF.out.symm) (val_bool HCT.out.symm), hb2⟩
end Go.Proofs.YtoeffplfkdogdaaDoor
