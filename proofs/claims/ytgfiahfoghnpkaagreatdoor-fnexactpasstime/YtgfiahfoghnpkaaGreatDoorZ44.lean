import Derived.Test.YtgfiahfoghnpkaaGreatDoorZ42
import Derived.Test.YtgfiahfoghnpkaaGreatDoorZ43
import Derived.Test.YtgfiahfoghnpkaaGreatDoorZ05
namespace Go.Proofs.YtgfiahfoghnpkaaGreatDoor
open Go.RowKit Go.Maps

theorem results_cell_tmp2 {fn : Func} {p u z : Tmp} {ty : TypeId} (h : fn.results = #[.cell p ty, .tmp u, .tmp z]) (tmps : Array Value) (P : Program) (w : World) :
    (results fn tmps).run P w =
      ((asAddr (tmps.getD p undef)).run P w).andThen fun a w₁ => ((loadVar ty a).run P w₁).andThen fun v w₂ => .ok (.tuple #[v, tmps.getD u undef, tmps.getD z undef]) w₂ := by
  simp only [results, h]
  simp [Sem.run_bind, Result.andThen]
/-- A struct and two plain values, told. -/
theorem results_row_tmp2 {P : Program} {fn : Func} {p u z : Tmp} {ty : TypeId} (h : fn.results = #[.cell p ty, .tmp u, .tmp z]) (tmps : Array Value) (w : World) (g : Nat) (t : TypeId) (cs : Array Value) (fr : Nat × Nat) (d : TypeDesc) (x y : Value)
    (hp : tmps.getD p undef = .pointer (some ⟨g, 0, none⟩)) (hu : tmps.getD u undef = x) (hz : tmps.getD z undef = y) (hg : w.heap[g]? = some (.cells cs t fr))
    (hd0 : P.underlying ty = some d) (hd : (match d with | .struct _ | .array _ _ => true | _ => false) = true) (hi : (P.info? ty).map (·.size) = some cs.size) :
    (results fn tmps).run P w = .ok (.tuple #[.agg cs, x, y]) w := by
  have hp' : tmps[p]?.getD undef = .pointer (some ⟨g, 0, none⟩) := by simpa using hp
  have hu' : tmps[u]?.getD undef = x := by simpa using hu
  have hz' : tmps[z]?.getD undef = y := by simpa using hz
  rw [results_cell_tmp2 h]
  simp [hp', hu', hz', asAddr, run_loadVar_row w g t ty cs fr d hg hd0 hd hi, Result.andThen]
/-- A cache, a number and a bool, told. -/
def CTold (w : World) (base : Nat) (e : Ending) (now : Int) (K : List EntT) (n : Int) (ok : Bool) : Prop :=
  ∃ v M, e = .returned (.tuple #[.agg #[.int .i64 now, v], .int .i64 n, .bool ok]) ∧ EBld w base v M ∧ M.map conT = K

set_option maxRecDepth 20000 in
set_option maxHeartbeats 1000000 in
theorem passTime1_any (e : EV) (now : Int) (pb : Nat) (W : World) (hc : W.cell? ⟨pb, 0, none⟩ = some (.int .i64 now)) :
    Calls Tryz.prog 57 #[.agg #[.string e.nm, .int .i64 e.ty, .bool e.no, .slice e.a e.n e.c, .int .i64 e.un, .int .i64 e.us], .pointer (some ⟨pb, 0, none⟩)] W fun r w' => r = .returned (.bool (decide (e.un ≤ now))) ∧ Below W.heap.size W w' := by
  have hpb : pb < W.heap.size := World.block_lt_of_cell? _ _ hc
  have HA : Hid (Below W.heap.size W (W.alloc (.cells #[.string e.nm, .int .i64 e.ty, .bool e.no, .slice e.a e.n e.c, .int .i64 e.un, .int .i64 e.us] 44))) := (Below.refl _ _).alloc (Nat.le_refl _) _
  go_enter Tryz.func57, Tryz.ntmps57
  go_wp2_with fail
  go_ret
  exact ⟨rfl, HA.out⟩
set_option maxRecDepth 20000 in
set_option maxHeartbeats 1000000 in
theorem entriesOf_any (now : Int) (v : Value) (L : List EV) (w : World) (hr : EVRow w v L) (hok : Hid (∀ e ∈ L, e.ok)) (h1 : Hid (L.Pairwise (fun e f => e.key ≠ f.key))) (hl : L.length ≤ 1048576) :
    Calls Tryz.prog 52 #[.agg #[.int .i64 now, v]] w fun e w' => ∃ B D, e = .returned (.map (some B)) ∧ w.heap.size ≤ B ∧ w'.ownsMap Tryz.prog 75 elE B L.length D ∧ MapOf D L ∧ Below w.heap.size w w' := by
  have HR : Hid (EVRow w v L) := hr
  obtain ⟨a, cap, rfl, hcap, hmax, hrow⟩ := hr
  have hb : Below w.heap.size w (w.alloc (.cells #[.int .i64 now, .slice a L.length cap] 30)) := (Below.refl _ _).alloc (Nat.le_refl _) _
  have HR1 : Hid (EVRow (w.alloc (.cells #[.int .i64 now, .slice a L.length cap] 30)) (.slice a L.length cap) L) := ⟨a, cap, rfl, hcap, hmax, fun h0 => by
    obtain ⟨b, o, ha, hbl, hc⟩ := hrow h0
    exact ⟨b, o, ha, Nat.lt_of_lt_of_le hbl hb.size, fun j hj => (hc j hj).kept hb hbl⟩⟩
  clear hrow
  go_enter Tryz.func52, Tryz.ntmps52
  go_wp2_with fail
  refine (keepBy_any _ L _ HR1.out hok h1 hl).mono ?_
  rintro e w1 ⟨B, D, rfl, hB, ho, hM, hb1⟩
  have HO : Hid (w1.ownsMap Tryz.prog 75 elE B L.length D) := ho
  have HM : Hid (MapOf D L) := hM
  clear ho hM
  go_wp2_with fail
  go_ret
  exact ⟨B, D, rfl, Nat.le_trans hb.size hB, HO.out, HM.out, hb.trans (hb1.mono hb.size)⟩
theorem typ_range {ty : Int} (h : typB ty = true) : -9223372036854775808 ≤ ty ∧ ty ≤ 9223372036854775807 := by
  unfold typB hasB at h
  simp at h
  omega
set_option maxRecDepth 100000 in
set_option maxHeartbeats 1000000 in
/-- What a good cache's entries are, as values. -/
theorem good_ev {w : World} {v : Value} {now : Int} {L : List EntT} (hr : ERow w v L) (hx : ∀ x ∈ L, EBig x) (hg : goodC now L = true) : ∃ E : List EV, EVRow w v E ∧ E.map (fun e => conT (e, rcOf L e)) = L ∧ (∀ e ∈ E, e.ok) ∧ E.Pairwise (fun e f => e.key ≠ f.key) ∧ (∀ e ∈ E, nameB e.nm.data.toList = true) ∧ E.Pairwise (fun x y => cmpE x y < 0) ∧ E.length ≤ 20 ∧
    (∀ e ∈ E, RRow w e.sl (rcOf L e) ∧ (rcOf L e).length ≤ 1048576 ∧ (∀ r ∈ rcOf L e, r.1.length ≤ 1048576 ∧ r.2.2.2.length ≤ 1048576) ∧ e.nm.size ≤ 1048576) := by
  have hris := good_rise hg
  obtain ⟨E, hE, hm, hR⟩ := ev_row hr hris
  have hmem : ∀ e ∈ E, conT (e, rcOf L e) ∈ L := fun e he => by
    have h : conT (e, rcOf L e) ∈ E.map (fun e => conT (e, rcOf L e)) := List.mem_map.2 ⟨e, he, rfl⟩
    rw [hm] at h
    exact h
  have hgf := goodC_facts hg
  have hent : ∀ x ∈ L, entB now x = true := fun x hx => by obtain ⟨j, hj, rfl⟩ := List.getElem_of_mem hx; exact hgf.2.2 j hj
  have hsz : ∀ s : ByteArray, s.size = s.data.toList.length := fun s => by simp
  have hfac : ∀ e ∈ E, nameB e.nm.data.toList = true ∧ typB e.ty = true := fun e he => by
    have h := hent _ (hmem e he)
    unfold entB at h
    rw [Bool.and_eq_true, Bool.and_eq_true, Bool.and_eq_true] at h
    exact ⟨h.2.1.1, h.2.1.2⟩
  have hbig : ∀ e ∈ E, e.nm.size ≤ 1048576 ∧ (rcOf L e).length ≤ 1048576 ∧ ∀ r ∈ rcOf L e, r.1.length ≤ 1048576 ∧ r.2.2.2.length ≤ 1048576 := fun e he => by
    have h := hx _ (hmem e he)
    exact ⟨by rw [hsz]; exact h.1, h.2.1, h.2.2⟩
  have hok : ∀ e ∈ E, e.ok := fun e he => ⟨by have := (hbig e he).1; unfold maxLen; omega, typ_range (hfac e he).2⟩
  have hrE : E.Pairwise (fun x y => cmpE x y < 0) := by
    have h : (E.map (fun e => conT (e, rcOf L e))).Pairwise (fun x y => cT x y < 0) := by rw [hm]; exact hris
    rw [List.pairwise_map] at h
    exact h
  refine ⟨E, hE, hm, hok, ?_, fun e he => (hfac e he).1, hrE, ?_, fun e he => ⟨hR e he, (hbig e he).2.1, (hbig e he).2.2, (hbig e he).1⟩⟩
  · rw [List.pairwise_iff_getElem] at hrE ⊢
    intro i j hi hj hij hk
    unfold EV.key at hk
    have h := keyL_inj (hok _ (List.getElem_mem hi)) (hok _ (List.getElem_mem hj)) hk
    exact ct_ne (x := conT (E[i], [])) (y := conT (E[j], [])) (hrE i j hi hj hij) ⟨congrArg (fun s : ByteArray => s.data.toList) h.1, h.2⟩
  · have := congrArg List.length hm
    simp at this
    omega
end Go.Proofs.YtgfiahfoghnpkaaGreatDoor

namespace Go.Proofs.YtgfiahfoghnpkaaGreatDoor
open Go.RowKit Go.Maps

/-- What is told where it may be, and the zero answer where not. -/
def CAns (w : World) (base : Nat) (e : Ending) (ok : Bool) (now : Int) (K : List EntT) (n : Int) : Prop := CTold w base e (if ok = true then now else 0) (if ok = true then K else []) (if ok = true then n else 0) ok
theorem cans_no {w : World} {base : Nat} {now n : Int} {K : List EntT} {ok : Bool} (h : ok = false) : CAns w base (.returned (.tuple #[.agg #[.int .i64 0, .slice none 0 0], .int .i64 0, .bool false])) ok now K n := by
  subst h
  exact ⟨_, [], rfl, EBld.nil _ _, rfl⟩
theorem cans_yes {w : World} {base : Nat} {v : Value} {now n : Int} {K : List EntT} {M : List (EV × RecL)} {ok : Bool} (h : ok = true) (hb : EBld w base v M) (hm : M.map conT = K) : CAns w base (.returned (.tuple #[.agg #[.int .i64 now, v], .int .i64 n, .bool true])) ok now K n := by
  subst h
  exact ⟨v, M, rfl, hb, hm⟩
theorem filter_con {E : List EV} {L : List EntT} {rc : EV → RecL} (p : EntT → Bool) (h : E.map (fun e => conT (e, rc e)) = L) : (E.filter (fun e => p (conT (e, rc e)))).map (fun e => conT (e, rc e)) = L.filter p := by
  rw [← h, List.filter_map]; rfl
theorem filter_len {E : List EV} {L : List EntT} {rc : EV → RecL} (p : EntT → Bool) (h : E.map (fun e => conT (e, rc e)) = L) : (E.filter (fun e => p (conT (e, rc e)))).length = (L.filter p).length := by
  rw [← filter_con p h, List.length_map]

end Go.Proofs.YtgfiahfoghnpkaaGreatDoor

namespace Go.Proofs.YtgfiahfoghnpkaaGreatDoor
open Go.RowKit Go.Maps

set_option maxRecDepth 20000 in
set_option maxHeartbeats 6000000 in
theorem iPassTime_any (now : Int) (v : Value) (L : List EntT) (by' : Int) (w : World) (hr : ERow w v L) (hx : Hid (∀ x ∈ L, EBig x)) (hE : EnvR w) :
    Calls Tryz.prog 27 #[CchV now v, .int .i64 by'] w fun e w' => CAns w' w.heap.size e ((decide (1 ≤ by') && decide (by' ≤ 100000)) && (goodC now L && decide (now + by' ≤ 1000000000))) (now + by') (L.filter (fun x => !decide (x.2.2.2.2.1 ≤ now + by'))) ((L.filter (fun x => decide (x.2.2.2.2.1 ≤ now + by'))).length : Int) ∧ Below w.heap.size w w' := by
  have HG : Hid (∀ W, Below w.heap.size w W → Calls Tryz.prog 38 #[CchV now v] W fun e w' => e = .returned (.bool (goodC now L)) ∧ Below W.heap.size W w') := fun W hW => iGoodCache_any now v L W (hr.kept hW) hx (hE.below hW)
  have HEV : Hid (goodC now L = true → ∃ E : List EV, EVRow w v E ∧ E.map (fun e => conT (e, rcOf L e)) = L ∧ (∀ e ∈ E, e.ok) ∧ E.Pairwise (fun e f => e.key ≠ f.key) ∧ (∀ e ∈ E, nameB e.nm.data.toList = true) ∧ E.Pairwise (fun x y => cmpE x y < 0) ∧ E.length ≤ 20 ∧ (∀ e ∈ E, RRow w e.sl (rcOf L e) ∧ (rcOf L e).length ≤ 1048576 ∧ (∀ r ∈ rcOf L e, r.1.length ≤ 1048576 ∧ r.2.2.2.length ≤ 1048576) ∧ e.nm.size ≤ 1048576)) := fun h => good_ev hr hx.out h
  have HNW : Hid (goodC now L = true → 1 ≤ now ∧ now ≤ 1000000000) := fun h => (goodC_facts h).1
  obtain ⟨a, cap, rfl, hcap, hmax, _⟩ := erow_value hr
  unfold CchV at HG ⊢
  obtain ⟨W0, hW0⟩ : ∃ W0, W0 = (w.alloc (.cells #[.int .i64 now, .slice a L.length cap] 30)).alloc (.cells #[.int .i64 0, .slice none 0 0] 30) := ⟨_, rfl⟩
  have HW0 : Hid ((w.alloc (.cells #[.int .i64 now, .slice a L.length cap] 30)).alloc (.cells #[.int .i64 0, .slice none 0 0] 30) = W0) := hW0.symm
  have hs1 : (w.alloc (.cells #[.int .i64 now, .slice a L.length cap] 30)).heap.size = w.heap.size + 1 := by simp
  have HC0 : Hid (CBox W0 w.heap.size (.int .i64 now) (.slice a L.length cap)) := by rw [hW0]; exact (cbox_new w).kpt (kpt_alloc _ _ (fun _ => False)) id
  have HR0 : Hid (CBox W0 (w.heap.size + 1) (.int .i64 0) (.slice none 0 0)) := by
    rw [hW0]
    have h := cbox_new (w.alloc (.cells #[.int .i64 now, .slice a L.length cap] 30)) (v0 := .int .i64 0) (v1 := .slice none 0 0)
    rw [hs1] at h
    exact h
  have HB0 : Hid (Below w.heap.size w W0) := by rw [hW0]; exact ((Below.refl _ _).alloc (Nat.le_refl _) _).alloc (by simp) _
  have hz0 : w.heap.size + 1 < W0.heap.size := HR0.out.lt
  clear hW0 hs1 hr
  obtain ⟨gb, hgb⟩ : ∃ gb, gb = goodC now L := ⟨_, rfl⟩
  rw [← hgb] at HG HEV HNW ⊢
  clear hgb
  obtain ⟨ok, hok⟩ : ∃ ok, ok = ((decide (1 ≤ by') && decide (by' ≤ 100000)) && (gb && decide (now + by' ≤ 1000000000))) := ⟨_, rfl⟩
  rw [← hok]
  by_cases h1 : by' < 1
  · have HNO : Hid (ok = false) := by rw [hok, decide_eq_false (by omega)]; rfl
    clear hok
    go_enter Tryz.func27, Tryz.ntmps27
    go_wp2_with fail
    rw [HW0.out]
    (try simp only [Exit.inBlock, Exit.then])
    exact bodyPost_ret (results_row_tmp2 rfl _ _ (w.heap.size + 1) 30 #[.int .i64 0, .slice none 0 0] (0, 0) _ (.int .i64 0) (.bool false) rfl rfl rfl HR0.out Tryz.underlying30 rfl (by kernel_rfl)) rfl ⟨cans_no HNO.out, HB0.out⟩
  · by_cases h2 : 100000 < by'
    · have hno : ok = false := by rw [hok, decide_eq_false (show ¬ by' ≤ 100000 by omega)]; simp
      have HNO : Hid (ok = false) := hno
      clear hno
      clear hok
      go_enter Tryz.func27, Tryz.ntmps27
      go_wp2_with fail
      rw [HW0.out]
      (try simp only [Exit.inBlock, Exit.then])
      exact bodyPost_ret (results_row_tmp2 rfl _ _ (w.heap.size + 1) 30 #[.int .i64 0, .slice none 0 0] (0, 0) _ (.int .i64 0) (.bool false) rfl rfl rfl HR0.out Tryz.underlying30 rfl (by kernel_rfl)) rfl ⟨cans_no HNO.out, HB0.out⟩
    · have hok2 : ok = (gb && decide (now + by' ≤ 1000000000)) := by rw [hok, decide_eq_true (by omega), decide_eq_true (by omega)]; rfl
      clear hok
      go_enter Tryz.func27, Tryz.ntmps27
      go_wp2_with fail
      rw [HW0.out]
      refine (HG.out _ HB0.out).mono ?_
      rintro e w1 ⟨rfl, hb1⟩
      have HB1 : Hid (Below w.heap.size w w1) := HB0.out.trans (hb1.mono HB0.out.size)
      have HC1 : Hid (CBox w1 w.heap.size (.int .i64 now) (.slice a L.length cap)) := HC0.out.kept hb1
      have HR1 : Hid (CBox w1 (w.heap.size + 1) (.int .i64 0) (.slice none 0 0)) := HR0.out.kept hb1
      have hz1 : W0.heap.size ≤ w1.heap.size := hb1.size
      clear hb1 HC0 HR0 HG
      cases gb with
      | false =>
        have HNO : Hid (ok = false) := by rw [hok2]; rfl
        clear hok2
        obtain ⟨d0, d1⟩ := HR1.out.cells
        obtain ⟨f0, f1⟩ := HR1.out.free
        go_wp2_with fail
        (try simp only [Exit.inBlock, Exit.then])
        exact bodyPost_ret (results_row_tmp2 rfl _ _ (w.heap.size + 1) 30 #[.int .i64 0, .slice none 0 0] (0, 0) _ (.int .i64 0) (.bool false) rfl rfl rfl ((HR1.out.set0 _).set1 _) Tryz.underlying30 rfl (by kernel_rfl)) rfl ⟨cans_no HNO.out, (HB1.out.setCell (p := ⟨w.heap.size + 1, 0, none⟩) (by show _ ≤ w.heap.size + 1; omega) _).setCell (p := ⟨w.heap.size + 1, 1, none⟩) (by show _ ≤ w.heap.size + 1; omega) _⟩
      | true =>
        have hnw := HNW.out rfl
        obtain ⟨c0, c1⟩ := HC1.out.cells
        by_cases h3 : 1000000000 < now + by'
        · have HNO : Hid (ok = false) := by rw [hok2, decide_eq_false (show ¬ now + by' ≤ 1000000000 by omega)]; rfl
          clear hok2
          obtain ⟨d0, d1⟩ := HR1.out.cells
          obtain ⟨f0, f1⟩ := HR1.out.free
          go_wp2_with fail
          (try simp only [Exit.inBlock, Exit.then])
          exact bodyPost_ret (results_row_tmp2 rfl _ _ (w.heap.size + 1) 30 #[.int .i64 0, .slice none 0 0] (0, 0) _ (.int .i64 0) (.bool false) rfl rfl rfl ((HR1.out.set0 _).set1 _) Tryz.underlying30 rfl (by kernel_rfl)) rfl ⟨cans_no HNO.out, (HB1.out.setCell (p := ⟨w.heap.size + 1, 0, none⟩) (by show _ ≤ w.heap.size + 1; omega) _).setCell (p := ⟨w.heap.size + 1, 1, none⟩) (by show _ ≤ w.heap.size + 1; omega) _⟩
        · have HYE : Hid (ok = true) := by rw [hok2, decide_eq_true (show now + by' ≤ 1000000000 by omega)]; rfl
          clear hok2
          obtain ⟨E, hEr, hEm, hEok, hEk, hEn, hEs, hEl, hErc⟩ := HEV.out rfl
          have HEM : Hid (E.map (fun e => conT (e, rcOf L e)) = L) := hEm
          have HER : Hid (∀ W, Below w.heap.size w W → EVRow W (.slice a L.length cap) E) := fun W hW => by
            obtain ⟨a', cap', hv, q1, q2, q3⟩ := hEr
            refine ⟨a', cap', hv, q1, q2, fun h0 => ?_⟩
            obtain ⟨b, o, ha, hbl, hc⟩ := q3 h0
            exact ⟨b, o, ha, Nat.lt_of_lt_of_le hbl hW.size, fun j hj => (hc j hj).kept hW hbl⟩
          have HOK : Hid (∀ e ∈ E, e.ok) := hEok
          have HKY : Hid (E.Pairwise (fun e f => e.key ≠ f.key)) := hEk
          have HNA : Hid (∀ e ∈ E, nameB e.nm.data.toList = true) := hEn
          have HRS : Hid (E.Pairwise (fun x y => cmpE x y < 0)) := hEs
          have HRC : Hid (∀ e ∈ E, RRow w e.sl (rcOf L e) ∧ (rcOf L e).length ≤ 1048576 ∧ (∀ r ∈ rcOf L e, r.1.length ≤ 1048576 ∧ r.2.2.2.length ≤ 1048576) ∧ e.nm.size ≤ 1048576) := hErc
          clear hEr hEm hEok hEk hEn hEs hErc HEV
          have HS2 : Hid (Boxed (w1.alloc (.cells #[.int .i64 (now + by')] 3)) w1.heap.size 3 (.int .i64 (now + by'))) := Boxed.new _ _ _
          have hb2 : Below w1.heap.size w1 (w1.alloc (.cells #[.int .i64 (now + by')] 3)) := (Below.refl _ _).alloc (Nat.le_refl _) _
          have HC2 : Hid (CBox (w1.alloc (.cells #[.int .i64 (now + by')] 3)) w.heap.size (.int .i64 now) (.slice a L.length cap)) := HC1.out.kept hb2
          have HR2 : Hid (CBox (w1.alloc (.cells #[.int .i64 (now + by')] 3)) (w.heap.size + 1) (.int .i64 0) (.slice none 0 0)) := HR1.out.kept hb2
          have HB2 : Hid (Below w.heap.size w (w1.alloc (.cells #[.int .i64 (now + by')] 3))) := HB1.out.trans (hb2.mono HB1.out.size)
          obtain ⟨d0, d1⟩ := HC2.out.cells
          go_wp2_with fail
          clear c0 c1 d0 d1 hb2
          obtain ⟨w2, hw2⟩ : ∃ W, W = w1.alloc (.cells #[.int .i64 (now + by')] 3) := ⟨_, rfl⟩
          have hz2 : w1.heap.size < w2.heap.size := by rw [hw2]; simp
          rw [← hw2] at HS2 HC2 HR2 HB2
          rw [← hw2]
          obtain ⟨pb, hpb⟩ : ∃ b, b = w1.heap.size := ⟨_, rfl⟩
          rw [← hpb] at HS2 hz2 hz1 ⊢
          clear hw2 hpb HC1 HR1 HB1
          refine (entriesOf_any now _ E _ (HER.out _ HB2.out) HOK HKY (by omega)).mono ?_
          rintro e w3 ⟨B, D, rfl, hB, ho3, hM3, hb3⟩
          have hbw3 : Below w.heap.size w w3 := HB2.out.trans (hb3.mono HB2.out.size)
          have HS3 : Hid (Boxed w3 pb 3 (.int .i64 (now + by'))) := (hb3.block _ hz2).trans HS2.out
          have HR3 : Hid (CBox w3 (w.heap.size + 1) (.int .i64 0) (.slice none 0 0)) := HR2.out.kept hb3
          have HO3 : Hid (w3.ownsMap Tryz.prog 75 elE B E.length D) := ho3
          have HM3 : Hid (MapOf D E) := hM3
          have hz3 : w2.heap.size ≤ w3.heap.size := hb3.size
          clear ho3 hM3 hb3 HC2 HS2 HR2
          go_wp2_with fail
          refine (dropTime_any pb (fun e => decide (e.un ≤ now + by')) B E.length D E w3 HO3.out HM3 (by omega) (fun e W he hW => passTime1_any e (now + by') pb W (hW.cell HS3.out.cell (by show ¬ pb = B; omega)))).mono ?_
          rintro e w4 ⟨D4, rfl, ho4, hM4, hk4⟩
          have hbw4 : Below w.heap.size w w4 := hbw3.trans (hk4.below hbw3.size (fun k hk h => by omega))
          have HS4 : Hid (Boxed w4 pb 3 (.int .i64 (now + by'))) := (hk4.block _ (Nat.lt_of_lt_of_le hz2 hz3) (by show ¬ pb = B; omega)).trans HS3.out
          have HR4 : Hid (CBox w4 (w.heap.size + 1) (.int .i64 0) (.slice none 0 0)) := HR3.out.kpt hk4 (by omega)
          have HO4 : Hid (w4.ownsMap Tryz.prog 75 elE B E.length D4) := ho4
          have HM4 : Hid (MapOf D4 (E.filter (fun e => !decide (e.un ≤ now + by')))) := hM4
          have hz4 : w3.heap.size ≤ w4.heap.size := hk4.size
          have HLN : Hid ((E.filter (fun e => decide (e.un ≤ now + by'))).length = (L.filter (fun x => decide (x.2.2.2.2.1 ≤ now + by'))).length) := filter_len (fun x => decide (x.2.2.2.2.1 ≤ now + by')) HEM.out
          have hle4 : (E.filter (fun e => !decide (e.un ≤ now + by'))).length ≤ 1048576 := Nat.le_trans (List.length_filter_le _ _) (by omega)
          obtain ⟨cn, hcn⟩ : ∃ cn, cn = (E.filter (fun e => decide (e.un ≤ now + by'))).length := ⟨_, rfl⟩
          rw [← hcn] at HLN ⊢
          clear ho4 hM4 hk4 HS3 HR3 HO3 HM3 hcn
          have p1 := HS4.out.cell
          go_wp2_with fail
          clear p1
          refine (cacheOf_any (now + by') B E.length D4 (E.filter (fun e => !decide (e.un ≤ now + by'))) (rcOf L) w4 (hE.below hbw4).1 HO4.out HM4 (fun x hx => HNA.out x (List.mem_filter.1 hx).1) (HRS.out.filter _) hle4 (fun e he => by have h := HRC.out e (List.mem_filter.1 he).1; exact ⟨h.1.kept hbw4, h.2⟩)).mono ?_
          rintro e w5 ⟨v5, M5, rfl, hE5, hm5, hb5⟩
          have hbw5 : Below w.heap.size w w5 := hbw4.trans (hb5.mono hbw4.size)
          have HR5 : Hid (CBox w5 (w.heap.size + 1) (.int .i64 0) (.slice none 0 0)) := HR4.out.kept hb5
          have HE5 : Hid (EBld w5 w4.heap.size v5 M5) := hE5
          have HM5 : Hid (M5.map conT = L.filter (fun x => !decide (x.2.2.2.2.1 ≤ now + by'))) := hm5.trans (filter_con (fun x => !decide (x.2.2.2.2.1 ≤ now + by')) HEM.out)
          obtain ⟨av, cv, hv⟩ := own6_slice hE5.row
          subst hv
          clear hE5 hm5 hb5 HR4 HS4
          obtain ⟨d0, d1⟩ := HR5.out.cells
          obtain ⟨f0, f1⟩ := HR5.out.free
          go_wp2_with fail
          (try simp only [Exit.inBlock, Exit.then])
          have hk6 : Kpt w5 ((w5.setCell ⟨w.heap.size + 1, 0, none⟩ (.int .i64 (now + by'))).setCell ⟨w.heap.size + 1, 1, none⟩ (.slice av M5.length cv)) (· = w.heap.size + 1) := (kpt_set w5 (w.heap.size + 1) 0 _ (S := (· = w.heap.size + 1)) rfl).trans (kpt_set _ (w.heap.size + 1) 1 _ rfl)
          have hE6 := HE5.out.kpt hk6 (fun g hg _ h => by omega)
          refine bodyPost_ret (results_row_tmp2 rfl _ _ (w.heap.size + 1) 30 #[.int .i64 (now + by'), .slice av M5.length cv] (0, 0) _ (.int .i64 (cn : Int)) (.bool true) rfl rfl rfl ((HR5.out.set0 _).set1 _) Tryz.underlying30 rfl (by kernel_rfl)) rfl ⟨?_, hbw5.trans (hk6.below hbw5.size (fun k hk h => by omega))⟩
          rw [← HLN.out]
          exact cans_yes HYE.out ⟨own_base hE6.row (by omega), fun p hp => (hE6.recs p hp).base (by omega), hE6.apart, hE6.off⟩ HM5.out
end Go.Proofs.YtgfiahfoghnpkaaGreatDoor
