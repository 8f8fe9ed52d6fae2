import Derived.Test.YtoeffplfkdogdaaDoorG8N
import Derived.Test.YtoeffplfkdogdaaDoorIsBl
namespace Go.Proofs.YtoeffplfkdogdaaDoor
open Go.RowKit Go.Shelf

/-- All names of gaps are good. -/
def haveB (L : List (List UInt8 × List UInt8 × List Int)) : Bool := L.all (fun x => nameB x.1 && nameB x.2.1)
/-- Whether gaps prove that a name is not there. -/
def prfB (L : List (List UInt8 × List UInt8 × List Int)) (n : List UInt8) : Bool :=
  match L.find? (fun x => covB x.1 x.2.1 n) with
  | none => false
  | some x => !(closL x.1 x.2.1 n == n) && L.any (fun y => covB y.1 y.2.1 (starL (closL x.1 x.2.1 n)) && !(closL y.1 y.2.1 (starL (closL x.1 x.2.1 n)) == starL (closL x.1 x.2.1 n)))
def chkB (ap : List UInt8) (L : List (List UInt8 × List UInt8 × List Int)) (n : List UInt8) : Bool := belowT n ap && decide (L.length ≤ 2) && haveB L
theorem have_all {L : List (List UInt8 × List UInt8 × List Int)} (h : ∀ j, (hj : j < L.length) → (nameB L[j].1 && nameB L[j].2.1) = true) : haveB L = true := by
  unfold haveB; rw [List.all_eq_true]; intro x hx
  obtain ⟨j, hj, rfl⟩ := List.getElem_of_mem hx
  exact h j hj
theorem have_bad {L : List (List UInt8 × List UInt8 × List Int)} (k : Nat) (hk : k < L.length) (h : (nameB L[k].1 && nameB L[k].2.1) = false) : haveB L = false := by
  unfold haveB; rw [List.all_eq_false]; exact ⟨_, List.getElem_mem hk, by simp [h]⟩
theorem have_at {L : List (List UInt8 × List UInt8 × List Int)} (h : haveB L = true) {x : List UInt8 × List UInt8 × List Int} (hx : x ∈ L) : nameB x.1 = true ∧ nameB x.2.1 = true := by
  unfold haveB at h; rw [List.all_eq_true] at h
  have := h x hx
  simpa using this
theorem ga_each {p : Nat → GA → Prop} : ∀ n : Nat, (∀ i, i < n → ∃ x, p i x) → ∃ L : List GA, L.length = n ∧ ∀ i, (h : i < L.length) → p i L[i]
  | 0, _ => ⟨[], rfl, fun i h => by simp at h⟩
  | n + 1, h => by
    obtain ⟨L, hl, hL⟩ := ga_each n (fun i hi => h i (by omega))
    obtain ⟨x, hx⟩ := h n (by omega)
    refine ⟨L ++ [x], by simp [hl], fun i hi => ?_⟩
    by_cases hi2 : i < L.length
    · rw [List.getElem_append_left hi2]; exact hL i hi2
    · have hin : i = n := by simp at hi; omega
      subst hin
      rw [List.getElem_append_right (by omega)]
      simpa [hl] using hx
/-- Gaps with good names that came in, with where their types lie. -/
theorem ga_of_row {w : World} {v : Value} {L : List (List UInt8 × List UInt8 × List Int)} (hr : GRow w v L) (hn : haveB L = true) :
    ∃ zs : List GA, zs.map (fun z => z.1.1) = L ∧ GARow w.heap.size w v zs ∧ ∀ z ∈ zs, ZRow .i64 w (.slice z.1.2.1 z.1.1.2.2.length z.1.2.2) z.1.1.2.2 := by
  obtain ⟨a, cap, rfl, h1, h2, h3⟩ := hr
  rcases h3 with rfl | ⟨b, o, rfl, hb, hc⟩
  · exact ⟨[], rfl, ⟨a, cap, rfl, h1, h2, .inl rfl⟩, fun z hz => by cases hz⟩
  · obtain ⟨zs, hl, hz⟩ := ga_each (p := fun j z => (∃ hj : j < L.length, z.1.1 = L[j]) ∧ w.cell? ⟨b, o + j * 3, none⟩ = some (.string ⟨z.1.1.1.toArray⟩) ∧ w.cell? ⟨b, o + j * 3 + 1, none⟩ = some (.string ⟨z.1.1.2.1.toArray⟩) ∧ w.cell? ⟨b, o + j * 3 + 2, none⟩ = some (.slice z.1.2.1 z.1.1.2.2.length z.1.2.2) ∧ ZRow .i64 w (.slice z.1.2.1 z.1.1.2.2.length z.1.2.2) z.1.1.2.2) L.length (fun j hj => by
      obtain ⟨va, c0, c1, c2, hz⟩ := hc j hj
      obtain ⟨aa, ca, rfl, k1, k2, k3⟩ := hz
      exact ⟨⟨(L[j], aa, ca), have_at hn (List.getElem_mem hj)⟩, ⟨hj, rfl⟩, c0, c1, c2, aa, ca, rfl, k1, k2, k3⟩)
    refine ⟨zs, ?_, ⟨some ⟨b, o, none⟩, cap, by rw [hl], by rw [hl]; exact h1, h2, .inr ⟨b, o, rfl, hb, fun j hj => ⟨(hz j hj).2.1, (hz j hj).2.2.1, (hz j hj).2.2.2.1⟩⟩⟩, fun z hz2 => ?_⟩
    · refine List.ext_getElem (by simp [hl]) (fun i g1 g2 => ?_)
      rw [List.getElem_map]
      obtain ⟨_, e⟩ := (hz i (by omega)).1
      exact e
    · obtain ⟨j, hj, rfl⟩ := List.getElem_of_mem hz2
      exact (hz j hj).2.2.2.2
theorem find_ga (zs : List GA) (p : List UInt8 × List UInt8 × List Int → Bool) : (zs.map (fun z => z.1.1)).find? p = (zs.find? (fun z => p z.1.1)).map (fun z => z.1.1) := by
  rw [List.find?_map]; rfl
theorem any_ga (zs : List GA) (p : List UInt8 × List UInt8 × List Int → Bool) : (zs.find? (fun z => p z.1.1)).isSome = (zs.map (fun z => z.1.1)).any p := by
  rw [Bool.eq_iff_iff, List.find?_isSome, List.any_map, List.any_eq_true]
  exact Iff.rfl
theorem new_cell (w : World) (v : Value) (t : TypeId) : (w.alloc (.cells #[v] t)).cell? ⟨w.heap.size, 0, none⟩ = some v := by unfold World.cell?; rw [gap_new]; rfl
theorem new_cell2 (w : World) (o : Obj) (v : Value) (t : TypeId) : ((w.alloc o).alloc (.cells #[v] t)).cell? ⟨w.heap.size + 1, 0, none⟩ = some v := by
  have h := new_cell (w.alloc o) v t
  rw [World.size_alloc] at h
  exact h
theorem new_cell1 (w : World) (o : Obj) (v : Value) (t : TypeId) : ((w.alloc (.cells #[v] t)).alloc o).cell? ⟨w.heap.size, 0, none⟩ = some v := by
  rw [((Below.refl (w.alloc (.cells #[v] t)).heap.size (w.alloc (.cells #[v] t))).alloc (Nat.le_refl _) o).cell (p := ⟨w.heap.size, 0, none⟩) (by simp)]
  exact new_cell w v t
theorem clos_name {o n x : List UInt8} (hx : nameB x = true) : nameB (closL o n x) = true := by
  unfold closL; split
  · exact common_name hx
  · exact common_name hx
theorem clos_star {o n x : List UInt8} (hx : nameB x = true) (h : closL o n x ≠ x) : nameB (starL (closL o n x)) = true := by
  unfold closL at h ⊢
  by_cases g : manyN (commonL x o) < manyN (commonL x n)
  · rw [if_pos g] at h ⊢; exact star_name hx _ h
  · rw [if_neg g] at h ⊢; exact star_name hx _ h
theorem prf_none {L : List (List UInt8 × List UInt8 × List Int)} {n : List UInt8} (h : L.find? (fun x => covB x.1 x.2.1 n) = none) : prfB L n = false := by unfold prfB; rw [h]
theorem prf_some {L : List (List UInt8 × List UInt8 × List Int)} {n : List UInt8} {x : List UInt8 × List UInt8 × List Int} (h : L.find? (fun x => covB x.1 x.2.1 n) = some x) :
    prfB L n = (!(closL x.1 x.2.1 n == n) && L.any (fun y => covB y.1 y.2.1 (starL (closL x.1 x.2.1 n)) && !(closL y.1 y.2.1 (starL (closL x.1 x.2.1 n)) == starL (closL x.1 x.2.1 n)))) := by unfold prfB; rw [h]

set_option maxRecDepth 20000 in
set_option maxHeartbeats 2000000 in
theorem haveNames_any (v : Value) (L : List (List UInt8 × List UInt8 × List Int)) (w : World) (hr : GRow w v L) (hE : Env w) :
    Calls Tryd.prog 39 #[v] w fun e w' => e = .returned (.bool (haveB L)) ∧ Below w.heap.size w w' := by
  obtain ⟨a, cap, rfl, hcap, hmax, HROW⟩ := grow_value hr
  clear hr
  obtain ⟨r, hrr⟩ : ∃ r, r = haveB L := ⟨_, rfl⟩
  have HRR : Hid (r = haveB L) := hrr
  rw [← hrr]
  clear hrr
  go_enter Tryd.func39, Tryd.ntmps39
  go_wp2_with fail
  go_loopw [7] (fun i wr => ∃ k : Nat, k ≤ L.length ∧ i = .int .i64 (k : Int) ∧ Hid (∀ j, (hj : j < L.length) → j < k → (nameB L[j].1 && nameB L[j].2.1) = true) ∧ Below w.heap.size w wr) (fun i _ => L.length - (intOf i).toNat)
  case atStart => exact ⟨0, Nat.zero_le _, rfl, fun j _ h => absurd h (Nat.not_lt_zero _), Below.refl _ _⟩
  case round =>
    obtain ⟨k, hk, rfl, HA, hb⟩ := hrel
    by_cases hlt : k < L.length
    · obtain ⟨b, o, ha, hbl, hcel⟩ := HROW.out (by omega)
      rw [ha]
      obtain ⟨va, hcx0⟩ := hcel k hlt
      have hcx := hcx0.kept hb
      have HBAD : Hid ((nameB (L[k]'hlt).1 && nameB (L[k]'hlt).2.1) = false → r = false) := fun h => HRR.out.trans (have_bad k hlt h)
      have HUP : Hid ((nameB (L[k]'hlt).1 && nameB (L[k]'hlt).2.1) = true → ∀ j, (hj : j < L.length) → j < k + 1 → (nameB L[j].1 && nameB L[j].2.1) = true) := fun h j hj hj2 => by
        rcases Nat.lt_or_ge j k with h' | h'
        · exact HA.out j hj h'
        · obtain rfl : j = k := by omega
          exact h
      obtain ⟨x, hxe⟩ : ∃ x, x = L[k]'hlt := ⟨_, rfl⟩
      rw [← hxe] at hcx HBAD HUP
      have hz : ZRow .i64 wr va x.2.2 := hcx.2.2.2
      unfold GapAt at hcx
      have c0 := hcx.1
      have c1 := hcx.2.1
      have c2 := hcx.2.2.1
      obtain ⟨aa, ca, rfl, _, hca, _⟩ := hz
      have HN : Hid (∀ W, Below w.heap.size w W → Calls Tryd.prog 47 #[.agg #[.string ⟨x.1.toArray⟩, .string ⟨x.2.1.toArray⟩, .slice aa x.2.2.length ca]] W fun e w' => e = .returned (.bool (nameB x.1 && nameB x.2.1)) ∧ Below W.heap.size W w') := fun W hW => hasNames_any ⟨x.1.toArray⟩ ⟨x.2.1.toArray⟩ _ W (hE.below hW)
      have HA2 : Hid (Below w.heap.size w (wr.alloc (.cells #[.string ⟨x.1.toArray⟩, .string ⟨x.2.1.toArray⟩, .slice aa x.2.2.length ca] 26))) := hb.alloc hb.size _
      clear hcx hcel hcx0 hxe
      cases h1 : (nameB x.1 && nameB x.2.1) with
      | false =>
        have HF : Hid (r = false) := HBAD.out h1
        rw [h1] at HN
        clear HBAD HUP h1
        go_wp2_with fail
        refine (HN.out _ HA2.out).mono ?_
        rintro e w2 ⟨rfl, hb2⟩
        have hbw2 := HA2.out.trans (hb2.mono HA2.out.size)
        go_wp2_with fail
        go_ret
        exact ⟨ret_bool HF.out.symm, hbw2⟩
      | true =>
        have HU : Hid (∀ j, (hj : j < L.length) → j < k + 1 → (nameB L[j].1 && nameB L[j].2.1) = true) := HUP.out h1
        rw [h1] at HN
        clear HBAD HUP h1
        go_wp2_with fail
        refine (HN.out _ HA2.out).mono ?_
        rintro e w2 ⟨rfl, hb2⟩
        have hbw2 := HA2.out.trans (hb2.mono HA2.out.size)
        go_wp2_with fail
        go_roundw
        case rel => exact ⟨k + 1, by omega, by go_num, HU, hbw2⟩
        case measure => simp [intOf]; omega
    · have HF : Hid (r = true) := HRR.out.trans (have_all (fun j hj => HA.out j hj (by omega)))
      go_wp2_with fail
      go_ret
      exact ⟨ret_bool HF.out.symm, hb⟩

set_option maxRecDepth 20000 in
set_option maxHeartbeats 1000000 in
theorem covering_any (n : List UInt8) (w : World) :
    Calls Tryd.prog 58 #[.string ⟨n.toArray⟩] w fun e w' => e = .returned (.func (.func 72) #[] #[.pointer (some ⟨w.heap.size, 0, none⟩)]) ∧ w' = w.alloc (.cells #[.string ⟨n.toArray⟩] 9) := by
  go_enter Tryd.func58, Tryd.ntmps58
  go_wp2_with fail
  go_ret
  exact ⟨rfl, rfl⟩

set_option maxRecDepth 20000 in
set_option maxHeartbeats 4000000 in
theorem areProof_any (v : Value) (L : List (List UInt8 × List UInt8 × List Int)) (n : List UInt8) (w : World) (hr : GRow w v L) (hn : haveB L = true) (hnn : Hid (nameB n = true)) (hE : Env w) :
    Calls Tryd.prog 40 #[v, .string ⟨n.toArray⟩] w fun e w' => e = .returned (.bool (prfB L n)) ∧ Below w.heap.size w w' := by
  obtain ⟨zs, hzs, hrow, _⟩ := ga_of_row hr hn
  obtain ⟨a, cap, rfl, _, _, _⟩ := id hr
  clear hr
  have hln : L.length = zs.length := by rw [← hzs]; simp
  rw [hln] at hrow ⊢
  -- the first search
  have HF1 : Hid (∀ W Bs pb, Below w.heap.size w W → Bs < W.heap.size → W.cell? ⟨Bs, 0, none⟩ = some (.slice a zs.length cap) → W.cell? ⟨pb, 0, none⟩ = some (.string ⟨n.toArray⟩) → Calls Tryd.prog 26 #[.func (.func 52) #[] #[.pointer (some ⟨Bs, 0, none⟩)], .func (.func 72) #[] #[.pointer (some ⟨pb, 0, none⟩)]] W fun e w' => e = .returned (.tuple #[fgV (zs.find? (fun z => covB z.1.1.1 z.1.1.2.1 n)), .bool (zs.find? (fun z => covB z.1.1.1 z.1.1.2.1 n)).isSome]) ∧ Below W.heap.size W w') := fun W Bs pb hW h1 h2 h3 =>
    firstGap_cov _ Bs pb _ zs W h1 h2 (by
      obtain ⟨a2, c2, e, k1, k2, k3⟩ := hrow.below hW
      exact ⟨a2, c2, e, k1, k2, k3.imp id (fun ⟨b, o, e1, e2, e3⟩ => ⟨b, o, e1, Nat.lt_of_lt_of_le e2 hW.size, e3⟩)⟩) (fun x W1 hW1 => covering1_any x n pb W1 (hE.below (hW.trans (hW1.mono hW.size))) hnn ((hW1.cell (p := ⟨pb, 0, none⟩) (World.block_lt_of_cell? _ _ h3)).trans h3))
  have HF2 : Hid (∀ st, nameB st = true → ∀ W Bs pb, Below w.heap.size w W → Bs < W.heap.size → W.cell? ⟨Bs, 0, none⟩ = some (.slice a zs.length cap) → W.cell? ⟨pb, 0, none⟩ = some (.string ⟨st.toArray⟩) → Calls Tryd.prog 26 #[.func (.func 52) #[] #[.pointer (some ⟨Bs, 0, none⟩)], .func (.func 61) #[] #[.pointer (some ⟨pb, 0, none⟩)]] W fun e w' => e = .returned (.tuple #[fgV (zs.find? (fun z => covB z.1.1.1 z.1.1.2.1 st && !(closL z.1.1.1 z.1.1.2.1 st == st))), .bool (L.any (fun y => covB y.1 y.2.1 st && !(closL y.1 y.2.1 st == st)))]) ∧ Below W.heap.size W w') := fun st hst W Bs pb hW h1 h2 h3 => by
    have h := firstGap_prf (fun z => covB z.1.1.1 z.1.1.2.1 st && !(closL z.1.1.1 z.1.1.2.1 st == st)) Bs pb _ zs W h1 h2 (by
      obtain ⟨a2, c2, e, k1, k2, k3⟩ := hrow.below hW
      exact ⟨a2, c2, e, k1, k2, k3.imp id (fun ⟨b, o, e1, e2, e3⟩ => ⟨b, o, e1, Nat.lt_of_lt_of_le e2 hW.size, e3⟩)⟩) (fun x W1 hW1 => areProof1_any x st pb W1 (hE.below (hW.trans (hW1.mono hW.size))) hst ((hW1.cell (p := ⟨pb, 0, none⟩) (World.block_lt_of_cell? _ _ h3)).trans h3))
    have e := any_ga zs (fun y => covB y.1 y.2.1 st && !(closL y.1 y.2.1 st == st))
    rw [hzs] at e
    rw [e] at h
    exact h
  have HFD : Hid (L.find? (fun x => covB x.1 x.2.1 n) = (zs.find? (fun z => covB z.1.1.1 z.1.1.2.1 n)).map (fun z => z.1.1)) := (by rw [← hzs]; exact find_ga zs _)
  have HV : Hid (∀ W, Calls Tryd.prog 27 #[.slice a zs.length cap] W fun e w' => e = .returned (.func (.func 52) #[] #[.pointer (some ⟨W.heap.size, 0, none⟩)]) ∧ w' = W.alloc (.cells #[.slice a zs.length cap] 29)) := fun W => gvalues_any a _ cap W
  have HCV : Hid (∀ W, Calls Tryd.prog 58 #[.string ⟨n.toArray⟩] W fun e w' => e = .returned (.func (.func 72) #[] #[.pointer (some ⟨W.heap.size, 0, none⟩)]) ∧ w' = W.alloc (.cells #[.string ⟨n.toArray⟩] 9)) := fun W => covering_any n W
  obtain ⟨r, hrr⟩ : ∃ r, r = prfB L n := ⟨_, rfl⟩
  have HRR : Hid (r = prfB L n) := hrr
  rw [← hrr]
  have HB2 : Hid (Below w.heap.size w ((w.alloc (.cells #[.slice a zs.length cap] 29)).alloc (.cells #[.string ⟨n.toArray⟩] 9))) := ((Below.refl w.heap.size w).alloc (Nat.le_refl _) _).alloc (by simp) _
  have HC1 := HF1.out _ w.heap.size (w.heap.size + 1) HB2.out (by simp; omega) (new_cell1 w _ _ _) (new_cell2 w _ _ _)
  obtain ⟨od, hod⟩ : ∃ od, od = zs.find? (fun z => covB z.1.1.1 z.1.1.2.1 n) := ⟨_, rfl⟩
  rw [← hod] at HC1 HFD
  have HC2 : Hid (Calls Tryd.prog 26 #[.func (.func 52) #[] #[.pointer (some ⟨w.heap.size, 0, none⟩)], .func (.func 72) #[] #[.pointer (some ⟨w.heap.size + 1, 0, none⟩)]] ((w.alloc (.cells #[.slice a zs.length cap] 29)).alloc (.cells #[.string ⟨n.toArray⟩] 9)) fun e w' => e = .returned (.tuple #[fgV od, .bool od.isSome]) ∧ Below ((w.alloc (.cells #[.slice a zs.length cap] 29)).alloc (.cells #[.string ⟨n.toArray⟩] 9)).heap.size ((w.alloc (.cells #[.slice a zs.length cap] 29)).alloc (.cells #[.string ⟨n.toArray⟩] 9)) w') := HC1
  clear HC1 hod HF1 hrow hrr hln hzs
  cases od with
  | none =>
    have HF : Hid (r = false) := HRR.out.trans (prf_none HFD.out)
    clear HRR HFD HF2
    unfold fgV at HC2
    go_enter Tryd.func40, Tryd.ntmps40
    go_wp2_with fail
    refine (HV.out _).mono ?_
    rintro e w1 ⟨rfl, rfl⟩
    go_wp2_with fail
    refine (HCV.out _).mono ?_
    rintro e w2 ⟨rfl, rfl⟩
    rw [show (w.alloc (.cells #[.slice a zs.length cap] 29)).heap.size = w.heap.size + 1 by simp]
    go_wp2_with fail
    refine HC2.out.mono ?_
    rintro e w3 ⟨rfl, hb3⟩
    have hbw3 := HB2.out.trans (hb3.mono HB2.out.size)
    have hbw4 := hbw3.alloc hbw3.size (.cells #[.string ⟨#[]⟩, .string ⟨#[]⟩, .slice none 0 0] 26)
    go_wp2_with fail
    go_ret
    exact ⟨ret_bool HF.out.symm, hbw4⟩
  | some x =>
    have HP := prf_some HFD.out
    have HRP : Hid (r = (!(closL x.1.1.1 x.1.1.2.1 n == n) && L.any (fun y => covB y.1 y.2.1 (starL (closL x.1.1.1 x.1.1.2.1 n)) && !(closL y.1 y.2.1 (starL (closL x.1.1.1 x.1.1.2.1 n)) == starL (closL x.1.1.1 x.1.1.2.1 n))))) := HRR.out.trans HP
    have HCL : Hid (∀ W, Below w.heap.size w W → Calls Tryd.prog 59 #[.agg #[.string ⟨x.1.1.1.toArray⟩, .string ⟨x.1.1.2.1.toArray⟩, .slice x.1.2.1 x.1.1.2.2.length x.1.2.2], .string ⟨n.toArray⟩] W fun e w' => e = .returned (.string ⟨(closL x.1.1.1 x.1.1.2.1 n).toArray⟩) ∧ Below W.heap.size W w') := fun W h => closestIn_any ⟨x.1.1.1.toArray⟩ ⟨x.1.1.2.1.toArray⟩ ⟨n.toArray⟩ _ W (hE.below h) ⟨x.2.1, x.2.2, hnn.out⟩
    have HSN : Hid (closL x.1.1.1 x.1.1.2.1 n ≠ n → nameB (starL (closL x.1.1.1 x.1.1.2.1 n)) = true) := fun h => clos_star hnn.out h
    have HLN : Hid ((closL x.1.1.1 x.1.1.2.1 n).length ≤ 60) := (name_parts (clos_name hnn.out)).2.1
    obtain ⟨c, hc⟩ : ∃ c, c = closL x.1.1.1 x.1.1.2.1 n := ⟨_, rfl⟩
    rw [← hc] at HRP HCL HSN HLN
    clear HRR HFD HP hc
    unfold fgV at HC2
    simp only [Option.isSome_some] at HC2
    by_cases hcn : c = n
    · have HF : Hid (r = false) := HRP.out.trans (by rw [show (c == n) = true by simpa using hcn]; rfl)
      have e1 : (c == n) = true := by simpa using hcn
      clear HRP HF2 hcn
      go_enter Tryd.func40, Tryd.ntmps40
      go_wp2_with fail
      refine (HV.out _).mono ?_
      rintro e w1 ⟨rfl, rfl⟩
      go_wp2_with fail
      refine (HCV.out _).mono ?_
      rintro e w2 ⟨rfl, rfl⟩
      rw [show (w.alloc (.cells #[.slice a zs.length cap] 29)).heap.size = w.heap.size + 1 by simp]
      go_wp2_with fail
      refine HC2.out.mono ?_
      rintro e w3 ⟨rfl, hb3⟩
      have hbw3 := HB2.out.trans (hb3.mono HB2.out.size)
      have hbw4 := hbw3.alloc hbw3.size (.cells #[.string ⟨x.1.1.1.toArray⟩, .string ⟨x.1.1.2.1.toArray⟩, .slice x.1.2.1 x.1.1.2.2.length x.1.2.2] 26)
      go_wp2_with fail
      refine (HCL.out _ hbw4).mono ?_
      rintro e w5 ⟨rfl, hb5⟩
      have hbw5 := hbw4.trans (hb5.mono hbw4.size)
      go_wp2_with fail
      go_ret
      exact ⟨ret_bool HF.out.symm, hbw5⟩
    · have HF : Hid (r = L.any (fun y => covB y.1 y.2.1 (starL c) && !(closL y.1 y.2.1 (starL c) == starL c))) := HRP.out.trans (by rw [show (c == n) = false by simpa using hcn]; rfl)
      have e1 : (c == n) = false := by simpa using hcn
      have hsn := HSN.out hcn
      have HSB : Hid (∀ W, Calls Tryd.prog 60 #[.string ⟨c.toArray⟩] W fun e w' => e = .returned (.string ⟨(starL c).toArray⟩) ∧ Below W.heap.size W w') := fun W => starBelow_any c W HLN.out
      have HF3 : Hid (∀ W Bs pb, Below w.heap.size w W → Bs < W.heap.size → W.cell? ⟨Bs, 0, none⟩ = some (.slice a zs.length cap) → W.cell? ⟨pb, 0, none⟩ = some (.string ⟨(starL c).toArray⟩) → Calls Tryd.prog 26 #[.func (.func 52) #[] #[.pointer (some ⟨Bs, 0, none⟩)], .func (.func 61) #[] #[.pointer (some ⟨pb, 0, none⟩)]] W fun e w' => e = .returned (.tuple #[fgV (zs.find? (fun z => covB z.1.1.1 z.1.1.2.1 (starL c) && !(closL z.1.1.1 z.1.1.2.1 (starL c) == starL c))), .bool (L.any (fun y => covB y.1 y.2.1 (starL c) && !(closL y.1 y.2.1 (starL c) == starL c)))]) ∧ Below W.heap.size W w') := HF2.out (starL c) hsn
      obtain ⟨fv, hfv⟩ : ∃ fv, fv = fgV (zs.find? (fun z => covB z.1.1.1 z.1.1.2.1 (starL c) && !(closL z.1.1.1 z.1.1.2.1 (starL c) == starL c))) := ⟨_, rfl⟩
      rw [← hfv] at HF3
      obtain ⟨fb, hfb⟩ : ∃ fb, fb = L.any (fun y => covB y.1 y.2.1 (starL c) && !(closL y.1 y.2.1 (starL c) == starL c)) := ⟨_, rfl⟩
      rw [← hfb] at HF3 HF
      obtain ⟨st, hst⟩ : ∃ st, st = starL c := ⟨_, rfl⟩
      rw [← hst] at HF3 HSB
      clear HRP HF2 hcn HSN hsn hfv hfb hst HLN
      go_enter Tryd.func40, Tryd.ntmps40
      go_wp2_with fail
      refine (HV.out _).mono ?_
      rintro e w1 ⟨rfl, rfl⟩
      go_wp2_with fail
      refine (HCV.out _).mono ?_
      rintro e w2 ⟨rfl, rfl⟩
      rw [show (w.alloc (.cells #[.slice a zs.length cap] 29)).heap.size = w.heap.size + 1 by simp]
      go_wp2_with fail
      refine HC2.out.mono ?_
      rintro e w3 ⟨rfl, hb3⟩
      have hbw3 := HB2.out.trans (hb3.mono HB2.out.size)
      have hbw4 := hbw3.alloc hbw3.size (.cells #[.string ⟨x.1.1.1.toArray⟩, .string ⟨x.1.1.2.1.toArray⟩, .slice x.1.2.1 x.1.1.2.2.length x.1.2.2] 26)
      go_wp2_with fail
      refine (HCL.out _ hbw4).mono ?_
      rintro e w5 ⟨rfl, hb5⟩
      have hbw5 := hbw4.trans (hb5.mono hbw4.size)
      clear hb3 hb5 hbw3 hbw4 HC2 HCL
      go_wp2_with fail
      refine (HSB.out _).mono ?_
      rintro e w6 ⟨rfl, hb6⟩
      have hbw6 := hbw5.trans (hb6.mono hbw5.size)
      clear hb6 hbw5
      have HB8 : Hid (Below w.heap.size w ((w6.alloc (.cells #[.string ⟨st.toArray⟩] 9)).alloc (.cells #[.slice a zs.length cap] 29))) := (hbw6.alloc hbw6.size _).alloc (by have := hbw6.size; simp; omega) _
      have HC8 := HF3.out _ (w6.heap.size + 1) w6.heap.size HB8.out (by simp) (new_cell2 w6 _ _ _) (new_cell1 w6 _ _ _)
      have HC9 : Hid _ := HC8
      clear HC8 HF3
      go_wp2_with fail
      refine (HV.out _).mono ?_
      rintro e w7 ⟨rfl, rfl⟩
      rw [show (w6.alloc (.cells #[.string ⟨st.toArray⟩] 9)).heap.size = w6.heap.size + 1 by simp]
      go_wp2_with fail
      refine Calls.mono HC9.out ?_
      rintro e w9 ⟨rfl, hb9⟩
      have hbw9 := HB8.out.trans (hb9.mono HB8.out.size)
      go_wp2_with fail
      go_ret
      exact ⟨ret_bool HF.out.symm, hbw9⟩

set_option maxRecDepth 20000 in
set_option maxHeartbeats 4000000 in
theorem iCheckAbsent_any (ap n : List UInt8) (v : Value) (L : List (List UInt8 × List UInt8 × List Int)) (w : World) (hr : GRow w v L) (hap : ap.length ≤ 1048576) (hnl : n.length ≤ 1048576) (hE : Env w) :
    Calls Tryd.prog 15 #[.string ⟨ap.toArray⟩, v, .string ⟨n.toArray⟩] w fun e w' => e = .returned (.tuple #[.bool (chkB ap L n && prfB L n), .bool (chkB ap L n)]) ∧ Below w.heap.size w w' := by
  have H1 : Hid (∀ W, Below w.heap.size w W → Calls Tryd.prog 38 #[.string ⟨n.toArray⟩, .string ⟨ap.toArray⟩] W fun e w' => e = .returned (.tuple #[.bool (belowT n ap), .bool (bothB n ap)]) ∧ Below W.heap.size W w') := fun W hW => iIsBl_any ⟨n.toArray⟩ ⟨ap.toArray⟩ W (by rw [size_list]; omega) (by rw [size_list]; omega) (hE.below hW)
  have H2 : Hid (∀ W, Below w.heap.size w W → Calls Tryd.prog 39 #[v] W fun e w' => e = .returned (.bool (haveB L)) ∧ Below W.heap.size W w') := fun W hW => haveNames_any v L W (hr.kept hW) (hE.below hW)
  have H3 : Hid (belowT n ap = true → haveB L = true → ∀ W, Below w.heap.size w W → Calls Tryd.prog 40 #[v, .string ⟨n.toArray⟩] W fun e w' => e = .returned (.bool (prfB L n)) ∧ Below W.heap.size W w') := fun h1 h2 W hW => areProof_any v L n W (hr.kept hW) h2 (by unfold belowT at h1; simp only [Bool.and_eq_true] at h1; exact h1.1.1) (hE.below hW)
  obtain ⟨a, cap, rfl, hcap, hmax, _⟩ := grow_value hr
  clear hr
  have HC : Hid (chkB ap L n = (belowT n ap && decide (L.length ≤ 2) && haveB L)) := rfl
  obtain ⟨k, hk⟩ : ∃ k, k = chkB ap L n := ⟨_, rfl⟩
  obtain ⟨p, hp⟩ : ∃ p, p = prfB L n := ⟨_, rfl⟩
  obtain ⟨hv, hhv⟩ : ∃ hv, hv = haveB L := ⟨_, rfl⟩
  obtain ⟨bt, hbt⟩ : ∃ bt, bt = belowT n ap := ⟨_, rfl⟩
  rw [← hk, ← hbt, ← hhv] at HC
  rw [← hbt] at H1
  rw [← hhv] at H2
  rw [← hbt, ← hhv, ← hp] at H3
  rw [← hk, ← hp]
  clear hk hp hhv hbt
  cases bt with
  | false =>
    have HF : Hid ((k && p) = false ∧ k = false) := by have h := HC.out; exact ⟨by rw [h]; rfl, h.trans rfl⟩
    clear HC H3
    go_enter Tryd.func15, Tryd.ntmps15
    go_wp2_with fail
    refine (H1.out _ (Below.refl _ _)).mono ?_
    rintro e w1 ⟨rfl, hb1⟩
    go_wp2_with fail
    go_ret2
    exact ⟨ret_two (val_bool HF.out.1.symm) (val_bool HF.out.2.symm), hb1⟩
  | true =>
    by_cases hl2 : 2 < L.length
    · have HF : Hid ((k && p) = false ∧ k = false) := by have h : k = false := HC.out.trans (by rw [decide_eq_false (show ¬ L.length ≤ 2 by omega)]; rfl); exact ⟨by rw [h]; rfl, h⟩
      clear HC H3
      go_enter Tryd.func15, Tryd.ntmps15
      go_wp2_with fail
      refine (H1.out _ (Below.refl _ _)).mono ?_
      rintro e w1 ⟨rfl, hb1⟩
      go_wp2_with fail
      go_ret2
      exact ⟨ret_two (val_bool HF.out.1.symm) (val_bool HF.out.2.symm), hb1⟩
    · cases hv with
      | false =>
        have HF : Hid ((k && p) = false ∧ k = false) := by have h : k = false := HC.out.trans (by simp); exact ⟨by rw [h]; rfl, h⟩
        clear HC H3
        go_enter Tryd.func15, Tryd.ntmps15
        go_wp2_with fail
        refine (H1.out _ (Below.refl _ _)).mono ?_
        rintro e w1 ⟨rfl, hb1⟩
        go_wp2_with fail
        refine (H2.out _ hb1).mono ?_
        rintro e w2 ⟨rfl, hb2⟩
        have hbw2 := hb1.trans (hb2.mono hb1.size)
        go_wp2_with fail
        go_ret2
        exact ⟨ret_two (val_bool HF.out.1.symm) (val_bool HF.out.2.symm), hbw2⟩
      | true =>
        have HF : Hid ((k && p) = p ∧ k = true) := by have h : k = true := HC.out.trans (by rw [decide_eq_true (show L.length ≤ 2 by omega)]; rfl); exact ⟨by rw [h]; cases p <;> rfl, h⟩
        clear HC
        go_enter Tryd.func15, Tryd.ntmps15
        go_wp2_with fail
        refine (H1.out _ (Below.refl _ _)).mono ?_
        rintro e w1 ⟨rfl, hb1⟩
        go_wp2_with fail
        refine (H2.out _ hb1).mono ?_
        rintro e w2 ⟨rfl, hb2⟩
        have hbw2 := hb1.trans (hb2.mono hb1.size)
        go_wp2_with fail
        refine (H3.out (by simp) (by simp) _ hbw2).mono ?_
        rintro e w3 ⟨rfl, hb3⟩
        have hbw3 := hbw2.trans (hb3.mono hbw2.size)
        go_wp2_with fail
        go_ret2
        exact ⟨ret_two (val_bool HF.out.1.symm) (val_bool HF.out.2.symm), hbw3⟩
end Go.Proofs.YtoeffplfkdogdaaDoor
