import Derived.Test.YtdmellmmhipncaaGreatDoorZ19
import Derived.Test.YtdmellmmhipncaaGreatDoorZ23
import Derived.Test.YtdmellmmhipncaaGreatDoorZ13
namespace Go.Proofs.YtdmellmmhipncaaGreatDoor
open Go.RowKit

/-- The result's box, that lay there ahead of the cursor. -/
theorem new_curB {w : World} {v : Value} {P : List Int} (o : Obj) (hr : ZRow .u8 w v P) (hb : ∀ x ∈ P, 0 ≤ x ∧ x ≤ 255) :
    CurB ((w.alloc o).alloc (.cells #[v, .int .i64 0, .int .u64 0] 55)) (w.alloc o).heap.size v P 0 := new_cur (hr.kpt (kpt_alloc w o (fun _ => False)) (fun _ _ _ => id)) hb

set_option maxRecDepth 20000 in
set_option maxHeartbeats 2000000 in
theorem drawGoodRecord_any (v : Value) (P : List Int) (w : World) (hr : ZRow .u8 w v P) (hb : Hid (∀ x ∈ P, 0 ≤ x ∧ x ≤ 255)) (hl : P.length ≤ 9223372036854775807) :
    Calls Tryz.prog 18 #[v] w fun e w' => ∃ (nm : ByteArray) (ty ttl : Int) (d : ByteArray), (e = .returned (RecV nm ty ttl d) ∧ RSm nm ty ttl d) ∧ Below w.heap.size w w' := by
  obtain ⟨W0, hW0⟩ : ∃ W, W = w.alloc (.cells #[.string ⟨#[]⟩, .int .i64 0, .int .i64 0, .string ⟨#[]⟩] 24) := ⟨_, rfl⟩
  have hr0 : ZRow .u8 W0 v P := by rw [hW0]; exact hr.kpt (kpt_alloc w _ (fun _ => False)) (fun _ _ _ => id)
  have HCL : Hid (0 < P.length → ∀ k, v.ownBlock = some k → k < (W0.alloc (.cells #[v, .int .i64 0, .int .u64 0] 55)).heap.size) := fun h0 k hk => by have := code_lt hr0 h0 k hk; simp; omega
  have HC0 : Hid (CurB (W0.alloc (.cells #[v, .int .i64 0, .int .u64 0] 55)) W0.heap.size v P 0) := new_cur hr0 hb.out
  have HX0 : Hid (RBox W0 w.heap.size ⟨#[]⟩ 0 0 ⟨#[]⟩) := by rw [hW0]; exact rbox_new
  have hsz0 : w.heap.size + 1 = W0.heap.size := by rw [hW0]; simp
  have HBW : Hid (Below w.heap.size w W0) := by rw [hW0]; exact (Below.refl _ _).alloc (Nat.le_refl _) _
  have HW0 : Hid (w.alloc (.cells #[.string ⟨#[]⟩, .int .i64 0, .int .i64 0, .string ⟨#[]⟩] 24) = W0) := hW0.symm
  obtain ⟨a, cap, rfl, hcap, hmax, _⟩ := zrow_value hr
  clear hr hr0 hW0
  go_enter Tryz.func18, Tryz.ntmps18
  go_wp2_with fail
  rw [HW0.out]
  have hlt : w.heap.size < W0.heap.size := by omega
  clear hsz0
  refine (record_any W0.heap.size _ P 0 _ HC0.out (by omega) hl HCL).mono ?_
  rintro e w1 ⟨nm, ty, ttl, d, rfl, hsm, hc, hk⟩
  have HX1 : Hid (RBox w1 w.heap.size ⟨#[]⟩ 0 0 ⟨#[]⟩) := (HX0.out.kpt (kpt_alloc W0 _ (fun _ => False)) id).kpt hk (by omega)
  have HB1 : Hid (Below w.heap.size w w1) := HBW.out.trans (((kpt_alloc W0 _ (· = W0.heap.size)).trans hk).below (by omega) (fun k hk e => by omega))
  have HSM : Hid (RSm nm ty ttl d) := hsm
  obtain ⟨x0, x1, x2, x3⟩ := HX1.out.cells
  obtain ⟨y0, y1, y2, y3⟩ := HX1.out.free
  unfold RecV
  clear hc hk hsm
  go_wp2_with fail
  (try simp only [Exit.inBlock, Exit.then])
  refine bodyPost_ret (results_cell_row rfl _ _ w.heap.size 24 #[.string nm, .int .i64 ty, .int .i64 ttl, .string d] (0, 0) _ rfl (HX1.out.put _ _ _ _) Tryz.underlying24 rfl (by kernel_rfl)) rfl ⟨nm, ty, ttl, d, ⟨rfl, HSM.out⟩, ?_⟩
  exact (((HB1.out.setCell (Nat.le_refl _) _).setCell (Nat.le_refl _) _).setCell (Nat.le_refl _) _).setCell (Nat.le_refl _) _

set_option maxRecDepth 20000 in
set_option maxHeartbeats 1000000 in
theorem drawRecordText_any (v : Value) (P : List Int) (w : World) (hr : ZRow .u8 w v P) (hb : Hid (∀ x ∈ P, 0 ≤ x ∧ x ≤ 255)) (hl : P.length ≤ 9223372036854775807) :
    Calls Tryz.prog 4 #[v] w fun e w' => ∃ (nm : ByteArray) (ty ttl : Int) (d : ByteArray), (e = .returned (RecV nm ty ttl d) ∧ RSm nm ty ttl d) ∧ Below w.heap.size w w' := by
  obtain ⟨W0, hW0⟩ : ∃ W, W = w.alloc (.cells #[.string ⟨#[]⟩, .int .i64 0, .int .i64 0, .string ⟨#[]⟩] 24) := ⟨_, rfl⟩
  have HR0 : Hid (ZRow .u8 W0 v P) := by rw [hW0]; exact hr.kpt (kpt_alloc w _ (fun _ => False)) (fun _ _ _ => id)
  have HX0 : Hid (RBox W0 w.heap.size ⟨#[]⟩ 0 0 ⟨#[]⟩) := by rw [hW0]; exact rbox_new
  have HBW : Hid (Below w.heap.size w W0) := by rw [hW0]; exact (Below.refl _ _).alloc (Nat.le_refl _) _
  have HW0 : Hid (w.alloc (.cells #[.string ⟨#[]⟩, .int .i64 0, .int .i64 0, .string ⟨#[]⟩] 24) = W0) := hW0.symm
  obtain ⟨a, cap, rfl, hcap, hmax, _⟩ := zrow_value hr
  clear hr hW0
  go_enter Tryz.func4, Tryz.ntmps4
  go_wp2_with fail
  rw [HW0.out]
  refine (drawGoodRecord_any _ P _ HR0.out hb hl).mono ?_
  rintro e w1 ⟨nm, ty, ttl, d, ⟨rfl, hsm⟩, hbn⟩
  have HX1 : Hid (RBox w1 w.heap.size ⟨#[]⟩ 0 0 ⟨#[]⟩) := HX0.out.kpt (below_kpt0 hbn (fun _ => False)) id
  have HB1 : Hid (Below w.heap.size w w1) := HBW.out.trans (hbn.mono HBW.out.size)
  have HSM : Hid (RSm nm ty ttl d) := hsm
  obtain ⟨x0, x1, x2, x3⟩ := HX1.out.cells
  obtain ⟨y0, y1, y2, y3⟩ := HX1.out.free
  unfold RecV
  clear hbn hsm
  go_wp2_with fail
  (try simp only [Exit.inBlock, Exit.then])
  refine bodyPost_ret (results_cell_row rfl _ _ w.heap.size 24 #[.string nm, .int .i64 ty, .int .i64 ttl, .string d] (0, 0) _ rfl (HX1.out.put _ _ _ _) Tryz.underlying24 rfl (by kernel_rfl)) rfl ⟨nm, ty, ttl, d, ⟨rfl, HSM.out⟩, ?_⟩
  exact (((HB1.out.setCell (Nat.le_refl _) _).setCell (Nat.le_refl _) _).setCell (Nat.le_refl _) _).setCell (Nat.le_refl _) _
theorem results_cell_cell {fn : Func} {p q : Tmp} {ty t2 : TypeId} (h : fn.results = #[.cell p ty, .cell q t2]) (tmps : Array Value) (P : Program) (w : World) :
    (results fn tmps).run P w =
      ((asAddr (tmps.getD p undef)).run P w).andThen fun a w₁ => ((loadVar ty a).run P w₁).andThen fun v w₂ => ((asAddr (tmps.getD q undef)).run P w₂).andThen fun b w₃ => ((loadVar t2 b).run P w₃).andThen fun u w₄ => .ok (.tuple #[v, u]) w₄ := by
  simp only [results, h]
  simp [Sem.run_bind, Result.andThen]
/-- Two structs, told. -/
theorem results_row_row {P : Program} {fn : Func} {p q : Tmp} {ty : TypeId} (h : fn.results = #[.cell p ty, .cell q ty]) (tmps : Array Value) (w : World) (g k : Nat) (t : TypeId) (cs ds : Array Value) (fr : Nat × Nat) (d : TypeDesc)
    (hp : tmps.getD p undef = .pointer (some ⟨g, 0, none⟩)) (hq : tmps.getD q undef = .pointer (some ⟨k, 0, none⟩)) (hg : w.heap[g]? = some (.cells cs t fr)) (hk : w.heap[k]? = some (.cells ds t fr))
    (hd0 : P.underlying ty = some d) (hd : (match d with | .struct _ | .array _ _ => true | _ => false) = true) (hi : (P.info? ty).map (·.size) = some cs.size) (hj : (P.info? ty).map (·.size) = some ds.size) :
    (results fn tmps).run P w = .ok (.tuple #[.agg cs, .agg ds]) w := by
  have hp' : tmps[p]?.getD undef = .pointer (some ⟨g, 0, none⟩) := by simpa using hp
  have hq' : tmps[q]?.getD undef = .pointer (some ⟨k, 0, none⟩) := by simpa using hq
  rw [results_cell_cell h]
  simp [hp', hq', asAddr, run_loadVar_row w g t ty cs fr d hg hd0 hd hi, run_loadVar_row w k t ty ds fr d hk hd0 hd hj, Result.andThen]
/-- A later world, in which a box lies that was made before. -/
theorem RBox.below {w W : World} {b : Nat} {nm d : ByteArray} {ty ttl : Int} (h : RBox w b nm ty ttl d) (hb : Below w.heap.size w W) : RBox W b nm ty ttl d := (hb.block b h.lt).trans h
theorem put_kpt (W : World) (b : Nat) (nm : ByteArray) (ty ttl : Int) (d : ByteArray) : Kpt W ((((W.setCell ⟨b, 0, none⟩ (.string nm)).setCell ⟨b, 1, none⟩ (.int .i64 ty)).setCell ⟨b, 2, none⟩ (.int .i64 ttl)).setCell ⟨b, 3, none⟩ (.string d)) (· = b) :=
  (((kpt_set W b 0 _ (S := (· = b)) rfl).trans (kpt_set _ b 1 _ rfl)).trans (kpt_set _ b 2 _ rfl)).trans (kpt_set _ b 3 _ rfl)
theorem RBox.kept {w W : World} {b : Nat} {nm d : ByteArray} {ty ttl : Int} (h : RBox w b nm ty ttl d) (hb : Below w.heap.size w W) : RBox W b nm ty ttl d := (hb.block b h.lt).trans h
theorem RBox.drew {W : World} {b : Nat} {nm d : ByteArray} {ty ttl : Int} (h : RBox W b nm ty ttl d) : RBox W.drew b nm ty ttl d := h
theorem data_small (k : Int) (z : List UInt8) : ((dataP k z).getD []).length ≤ 600 := by
  cases h : dataP k z with
  | none => simp
  | some b => exact (data_back h).2.2

set_option maxRecDepth 20000 in
set_option maxHeartbeats 4000000 in
theorem drawReadData_any (v : Value) (P : List Int) (w : World) (hr : ZRow .u8 w v P) (hb : Hid (∀ x ∈ P, 0 ≤ x ∧ x ≤ 255)) (hl : P.length ≤ 9223372036854775807) :
    Calls Tryz.prog 13 #[v] w fun e w' => ∃ (kd : Int) (s : ByteArray), (e = .returned (.tuple #[.int .i64 kd, .string s]) ∧ (0 ≤ kd ∧ kd ≤ 20) ∧ s.size ≤ 700) ∧ Below w.heap.size w w' := by
  have HCL : Hid (0 < P.length → ∀ k, v.ownBlock = some k → k < (w.alloc (.cells #[v, .int .i64 0, .int .u64 0] 55)).heap.size) := fun h0 k hk => by have := code_lt hr h0 k hk; simp; omega
  have HC0 : Hid (CurB (w.alloc (.cells #[v, .int .i64 0, .int .u64 0] 55)) w.heap.size v P 0) := new_cur hr hb.out
  obtain ⟨a, cap, rfl, hcap, hmax, _⟩ := zrow_value hr
  clear hr
  go_enter Tryz.func13, Tryz.ntmps13
  go_wp2_with fail
  refine (record_any w.heap.size _ P 0 _ HC0.out (by omega) hl HCL).mono ?_
  rintro e w1 ⟨nm, ty, ttl, d, rfl, hsm, hc1, hk1⟩
  obtain ⟨hnm, hd, hty, httl⟩ := hsm
  have HC1 : Hid (CurB (w1.alloc (.cells #[.string nm, .int .i64 ty, .int .i64 ttl, .string d] 24)) w.heap.size (.slice a P.length cap) P (0 + 100)) := alloc_cur hc1 _
  have HB1 : Hid (Below w.heap.size w (w1.alloc (.cells #[.string nm, .int .i64 ty, .int .i64 ttl, .string d] 24))) := (cur_below hk1).alloc (cur_below hk1).size _
  have HY1 : Hid (RBox (w1.alloc (.cells #[.string nm, .int .i64 ty, .int .i64 ttl, .string d] 24)) w1.heap.size nm ty ttl d) := rbox_new
  have hlt1 : w.heap.size < w1.heap.size := hc1.lt
  unfold RecV
  clear hc1 hk1 HC0
  go_wp2_with fail
  obtain ⟨w2, hw2⟩ : ∃ W, W = w1.alloc (.cells #[.string nm, .int .i64 ty, .int .i64 ttl, .string d] 24) := ⟨_, rfl⟩
  rw [← hw2] at HC1 HB1 HY1
  rw [← hw2]
  obtain ⟨rb, hrb⟩ : ∃ b, b = w1.heap.size := ⟨_, rfl⟩
  rw [← hrb] at HY1 hlt1 ⊢
  clear hw2 hrb
  have HDB : Hid (∀ W, Calls Tryz.prog 33 #[.int .i64 ty, .string d] W fun e w' => e = .returned (.tuple #[.string ⟨((dataP ty d.data.toList).getD []).toArray⟩, .bool (dataP ty d.data.toList).isSome]) ∧ Below W.heap.size W w') := fun W => sDataBytes_any ty d W (by omega)
  obtain ⟨x, hx⟩ : ∃ x : ByteArray, x = ⟨((dataP ty d.data.toList).getD []).toArray⟩ := ⟨_, rfl⟩
  obtain ⟨bb, hbb⟩ : ∃ b : Bool, b = (dataP ty d.data.toList).isSome := ⟨_, rfl⟩
  rw [← hx, ← hbb] at HDB
  have hxz : x.size ≤ 600 := by rw [hx, size_of]; exact data_small _ _
  clear hx hbb
  obtain ⟨c0, c1, c2, c3⟩ := HY1.out.cells
  go_wp2_with fail
  clear c0 c1 c2 c3
  refine (HDB.out _).mono ?_
  rintro e w3 ⟨rfl, hbn⟩
  have HC3 : Hid (CurB w3 w.heap.size (.slice a P.length cap) P (0 + 100)) := HC1.out.kpt (below_kpt0 hbn (fun _ => False)) id (fun _ _ _ => id)
  have HB3 : Hid (Below w.heap.size w w3) := HB1.out.trans (hbn.mono HB1.out.size)
  have HY3 : Hid (RBox w3 rb nm ty ttl d) := HY1.out.below hbn
  clear hbn HC1 HB1 HY1 HDB
  go_wp2_with fail
  refine (one_any _ w.heap.size _ P (0 + 100) _ HC3.out (by omega) hl (by omega)).mono ?_
  rintro e w4 ⟨q, rfl, hc4, hk4⟩
  have HC4 : Hid (CurB w4 w.heap.size (.slice a P.length cap) P (0 + 102)) := hc4
  have HB4 : Hid (Below w.heap.size w w4) := HB3.out.trans (hk4.below HB3.out.size (fun k hk e => by omega))
  have HY4 : Hid (RBox w4 rb nm ty ttl d) := HY3.out.kpt hk4 (by omega)
  clear hc4 hk4 HC3 HB3 HY3
  cases q with
  | false =>
    obtain ⟨c0, c1, c2, c3⟩ := HY4.out.cells
    go_wp2_with fail
    go_ret2
    exact ⟨_, _, ⟨rfl, hty, by omega⟩, HB4.out⟩
  | true =>
    go_wp2_with fail
    refine (spoilt_any _ _ w.heap.size _ P (0 + 102) _ HC4.out (by omega) hl (by omega) (by decide)).mono ?_
    rintro e w5 ⟨y, rfl, hy, hc5, hk5⟩
    have HB5 : Hid (Below w.heap.size w w5) := HB4.out.trans (hk5.below HB4.out.size (fun k hk e => by omega))
    have HY5 : Hid (RBox w5 rb nm ty ttl d) := HY4.out.kpt hk5 (by omega)
    clear hc5 hk5 HC4 HB4 HY4
    obtain ⟨c0, c1, c2, c3⟩ := HY5.out.cells
    go_wp2_with fail
    go_ret2
    exact ⟨_, _, ⟨rfl, hty, by omega⟩, HB5.out⟩

set_option maxRecDepth 20000 in
set_option maxHeartbeats 2000000 in
theorem drawCompareRecords_any (v : Value) (P : List Int) (w : World) (hr : ZRow .u8 w v P) (hb : Hid (∀ x ∈ P, 0 ≤ x ∧ x ≤ 255)) (hl : P.length ≤ 9223372036854775807) :
    Calls Tryz.prog 15 #[v] w fun e w' => ∃ (n1 : ByteArray) (t1 l1 : Int) (d1 : ByteArray) (n2 : ByteArray) (t2 l2 : Int) (d2 : ByteArray), (e = .returned (.tuple #[RecV n1 t1 l1 d1, RecV n2 t2 l2 d2]) ∧ RSm n1 t1 l1 d1 ∧ RSm n2 t2 l2 d2) ∧ Below w.heap.size w w' := by
  obtain ⟨W0, hW0⟩ : ∃ W, W = (w.alloc (.cells #[.string ⟨#[]⟩, .int .i64 0, .int .i64 0, .string ⟨#[]⟩] 24)).alloc (.cells #[.string ⟨#[]⟩, .int .i64 0, .int .i64 0, .string ⟨#[]⟩] 24) := ⟨_, rfl⟩
  have hr0 : ZRow .u8 W0 v P := by rw [hW0]; exact (hr.kpt (kpt_alloc w _ (fun _ => False)) (fun _ _ _ => id)).kpt (kpt_alloc _ _ (fun _ => False)) (fun _ _ _ => id)
  have HCL : Hid (∀ W : World, W0.heap.size ≤ W.heap.size → 0 < P.length → ∀ k, v.ownBlock = some k → k < W.heap.size) := fun W hW h0 k hk => by have := code_lt hr0 h0 k hk; omega
  have HC0 : Hid (CurB (W0.alloc (.cells #[v, .int .i64 0, .int .u64 0] 55)) W0.heap.size v P 0) := new_cur hr0 hb.out
  have HX0 : Hid (RBox W0 w.heap.size ⟨#[]⟩ 0 0 ⟨#[]⟩) := by rw [hW0]; exact rbox_new.kpt (kpt_alloc _ _ (fun _ => False)) id
  have hsz1 : w.heap.size + 1 = (w.alloc (.cells #[.string ⟨#[]⟩, .int .i64 0, .int .i64 0, .string ⟨#[]⟩] 24)).heap.size := by simp
  have HU0 : Hid (RBox W0 (w.heap.size + 1) ⟨#[]⟩ 0 0 ⟨#[]⟩) := by rw [hW0, hsz1]; exact rbox_new
  have hsz0 : w.heap.size + 1 + 1 = W0.heap.size := by rw [hW0]; simp
  have HB0 : Hid (Below w.heap.size w W0) := by rw [hW0]; exact ((Below.refl _ _).alloc (Nat.le_refl _) _).alloc (by simp) _
  have HW0 : Hid ((w.alloc (.cells #[.string ⟨#[]⟩, .int .i64 0, .int .i64 0, .string ⟨#[]⟩] 24)).alloc (.cells #[.string ⟨#[]⟩, .int .i64 0, .int .i64 0, .string ⟨#[]⟩] 24) = W0) := hW0.symm
  obtain ⟨a, cap, rfl, hcap, hmax, _⟩ := zrow_value hr
  clear hr hr0 hW0 hsz1
  go_enter Tryz.func15, Tryz.ntmps15
  go_wp2_with fail
  rw [HW0.out]
  obtain ⟨g, hg⟩ : ∃ g, g = W0.heap.size := ⟨_, rfl⟩
  have HGS : Hid (W0.heap.size ≤ g) := show _ ≤ _ by omega
  obtain ⟨b0, hb0⟩ : ∃ b, b = w.heap.size := ⟨_, rfl⟩
  obtain ⟨b1, hb1⟩ : ∃ b, b = w.heap.size + 1 := ⟨_, rfl⟩
  have HS1 : Hid (W0.heap.size ≤ (W0.alloc (.cells #[(.slice a P.length cap), .int .i64 0, .int .u64 0] 55)).heap.size) := show _ ≤ _ by simp
  have HX1 : Hid (RBox (W0.alloc (.cells #[(.slice a P.length cap), .int .i64 0, .int .u64 0] 55)) b0 ⟨#[]⟩ 0 0 ⟨#[]⟩) := by rw [hb0]; exact HX0.out.kpt (kpt_alloc W0 _ (fun _ => False)) id
  have HU1 : Hid (RBox (W0.alloc (.cells #[(.slice a P.length cap), .int .i64 0, .int .u64 0] 55)) b1 ⟨#[]⟩ 0 0 ⟨#[]⟩) := by rw [hb1]; exact HU0.out.kpt (kpt_alloc W0 _ (fun _ => False)) id
  have HB1 : Hid (Below w.heap.size w (W0.alloc (.cells #[(.slice a P.length cap), .int .i64 0, .int .u64 0] 55))) := HB0.out.alloc HB0.out.size _
  have HC1 : Hid (CurB (W0.alloc (.cells #[(.slice a P.length cap), .int .i64 0, .int .u64 0] 55)) g (.slice a P.length cap) P 0) := by rw [hg]; exact HC0.out
  rw [← hg]
  obtain ⟨w1, hw1⟩ : ∃ W, W = W0.alloc (.cells #[(.slice a P.length cap), .int .i64 0, .int .u64 0] 55) := ⟨_, rfl⟩
  rw [← hw1] at HS1 HX1 HU1 HB1 HC1
  rw [← hw1]
  have h01 : ¬ b0 = g := by omega
  have h11 : ¬ b1 = g := by omega
  have hgw : w.heap.size ≤ g := by omega
  have hb0w : w.heap.size ≤ b0 := by omega
  have hb1w : w.heap.size ≤ b1 := by omega
  have h10 : ¬ b0 = b1 := by omega
  have h10' : ¬ b1 = b0 := by omega
  have hb0g : b0 < g := by omega
  have hb1g : b1 < g := by omega
  try rw [← hb1]
  try rw [← hb0]
  clear hw1 hsz0 hg hb0 hb1 HX0 HU0 HB0 HC0 HW0
  refine (record_any g _ P 0 _ HC1.out (by omega) hl (HCL.out _ HS1.out)).mono ?_
  rintro e w2 ⟨n1, t1, l1, d1, rfl, hs1, hcn, hkn⟩
  have HC2 : Hid (CurB w2 g (.slice a P.length cap) P (0 + 100)) := hcn
  have HB2 : Hid (Below w.heap.size w w2) := HB1.out.trans (hkn.below HB1.out.size (fun k hk e => by omega))
  have HS2 : Hid (W0.heap.size ≤ w2.heap.size) := Nat.le_trans HS1.out hkn.size
  have HX2 : Hid (RBox w2 b0 ⟨#[]⟩ 0 0 ⟨#[]⟩) := HX1.out.kpt hkn (by omega)
  have HU2 : Hid (RBox w2 b1 ⟨#[]⟩ 0 0 ⟨#[]⟩) := HU1.out.kpt hkn (by omega)
  clear hcn hkn HC1 HB1 HS1 HX1 HU1
  unfold RecV
  have HC3 : Hid (CurB (w2.alloc (.cells #[.string n1, .int .i64 t1, .int .i64 l1, .string d1] 24)) g (.slice a P.length cap) P (0 + 300)) := (alloc_cur HC2.out _).mono (by omega)
  have HB3 : Hid (Below w.heap.size w (w2.alloc (.cells #[.string n1, .int .i64 t1, .int .i64 l1, .string d1] 24))) := HB2.out.alloc HB2.out.size _
  have HS3 : Hid (W0.heap.size ≤ (w2.alloc (.cells #[.string n1, .int .i64 t1, .int .i64 l1, .string d1] 24)).heap.size) := Nat.le_trans HS2.out (kpt_alloc w2 _ (fun _ => False)).size
  have HX3 : Hid (RBox (w2.alloc (.cells #[.string n1, .int .i64 t1, .int .i64 l1, .string d1] 24)) b0 ⟨#[]⟩ 0 0 ⟨#[]⟩) := HX2.out.kpt (kpt_alloc w2 _ (fun _ => False)) id
  have HU3 : Hid (RBox (w2.alloc (.cells #[.string n1, .int .i64 t1, .int .i64 l1, .string d1] 24)) b1 ⟨#[]⟩ 0 0 ⟨#[]⟩) := HU2.out.kpt (kpt_alloc w2 _ (fun _ => False)) id
  have HA3 : Hid (RBox (w2.alloc (.cells #[.string n1, .int .i64 t1, .int .i64 l1, .string d1] 24)) w2.heap.size n1 t1 l1 d1) := rbox_new
  have hglA : g < w2.heap.size := HC2.out.lt
  go_wp2_with fail
  obtain ⟨w3, hw⟩ : ∃ W, W = (w2.alloc (.cells #[.string n1, .int .i64 t1, .int .i64 l1, .string d1] 24)) := ⟨_, rfl⟩
  rw [← hw] at HC3 HB3 HS3 HA3 HX3 HU3
  rw [← hw]
  obtain ⟨ba, hbx⟩ : ∃ b, b = w2.heap.size := ⟨_, rfl⟩
  rw [← hbx] at HA3 hglA  ⊢
  clear hw hbx HC2 HB2 HS2 HX2 HU2
  refine (record_any g _ P (0 + 300) _ HC3.out (by omega) hl (HCL.out _ HS3.out)).mono ?_
  rintro e w4 ⟨n2, t2, l2, d2, rfl, hs2, hcn, hkn⟩
  have HC4 : Hid (CurB w4 g (.slice a P.length cap) P (0 + 400)) := hcn
  have HB4 : Hid (Below w.heap.size w w4) := HB3.out.trans (hkn.below HB3.out.size (fun k hk e => by omega))
  have HS4 : Hid (W0.heap.size ≤ w4.heap.size) := Nat.le_trans HS3.out hkn.size
  have HX4 : Hid (RBox w4 b0 ⟨#[]⟩ 0 0 ⟨#[]⟩) := HX3.out.kpt hkn (by omega)
  have HU4 : Hid (RBox w4 b1 ⟨#[]⟩ 0 0 ⟨#[]⟩) := HU3.out.kpt hkn (by omega)
  have HA4 : Hid (RBox w4 ba n1 t1 l1 d1) := HA3.out.kpt hkn (by omega)
  clear hcn hkn HC3 HB3 HS3 HX3 HU3 HA3
  unfold RecV
  have HC5 : Hid (CurB (w4.alloc (.cells #[.string n2, .int .i64 t2, .int .i64 l2, .string d2] 24)) g (.slice a P.length cap) P (0 + 500)) := (alloc_cur HC4.out _).mono (by omega)
  have HB5 : Hid (Below w.heap.size w (w4.alloc (.cells #[.string n2, .int .i64 t2, .int .i64 l2, .string d2] 24))) := HB4.out.alloc HB4.out.size _
  have HS5 : Hid (W0.heap.size ≤ (w4.alloc (.cells #[.string n2, .int .i64 t2, .int .i64 l2, .string d2] 24)).heap.size) := Nat.le_trans HS4.out (kpt_alloc w4 _ (fun _ => False)).size
  have HX5 : Hid (RBox (w4.alloc (.cells #[.string n2, .int .i64 t2, .int .i64 l2, .string d2] 24)) b0 ⟨#[]⟩ 0 0 ⟨#[]⟩) := HX4.out.kpt (kpt_alloc w4 _ (fun _ => False)) id
  have HU5 : Hid (RBox (w4.alloc (.cells #[.string n2, .int .i64 t2, .int .i64 l2, .string d2] 24)) b1 ⟨#[]⟩ 0 0 ⟨#[]⟩) := HU4.out.kpt (kpt_alloc w4 _ (fun _ => False)) id
  have HA5 : Hid (RBox (w4.alloc (.cells #[.string n2, .int .i64 t2, .int .i64 l2, .string d2] 24)) ba n1 t1 l1 d1) := HA4.out.kpt (kpt_alloc w4 _ (fun _ => False)) id
  have HD5 : Hid (RBox (w4.alloc (.cells #[.string n2, .int .i64 t2, .int .i64 l2, .string d2] 24)) w4.heap.size n2 t2 l2 d2) := rbox_new
  have hglD : g < w4.heap.size := HC4.out.lt
  have hlDA : ba < w4.heap.size := HA4.out.lt
  go_wp2_with fail
  obtain ⟨w5, hw⟩ : ∃ W, W = (w4.alloc (.cells #[.string n2, .int .i64 t2, .int .i64 l2, .string d2] 24)) := ⟨_, rfl⟩
  rw [← hw] at HC5 HB5 HS5 HD5 HX5 HU5 HA5
  rw [← hw]
  obtain ⟨bb, hbx⟩ : ∃ b, b = w4.heap.size := ⟨_, rfl⟩
  rw [← hbx] at HD5 hglD hlDA ⊢
  clear hw hbx HC4 HB4 HS4 HX4 HU4 HA4
  refine (one_any _ g _ P (0 + 500) _ HC5.out (by omega) hl (by omega)).mono ?_
  rintro e w6 ⟨q, rfl, hcn, hkn⟩
  have HC6 : Hid (CurB w6 g (.slice a P.length cap) P (0 + 502)) := hcn
  have HB6 : Hid (Below w.heap.size w w6) := HB5.out.trans (hkn.below HB5.out.size (fun k hk e => by omega))
  have HS6 : Hid (W0.heap.size ≤ w6.heap.size) := Nat.le_trans HS5.out hkn.size
  have HX6 : Hid (RBox w6 b0 ⟨#[]⟩ 0 0 ⟨#[]⟩) := HX5.out.kpt hkn (by omega)
  have HU6 : Hid (RBox w6 b1 ⟨#[]⟩ 0 0 ⟨#[]⟩) := HU5.out.kpt hkn (by omega)
  have HA6 : Hid (RBox w6 ba n1 t1 l1 d1) := HA5.out.kpt hkn (by omega)
  have HD6 : Hid (RBox w6 bb n2 t2 l2 d2) := HD5.out.kpt hkn (by omega)
  clear hcn hkn HC5 HB5 HS5 HX5 HU5 HA5 HD5
  cases q with
  | false =>
    go_wp2_with fail
    refine (one_any _ g _ P (0 + 502) _ HC6.out (by omega) hl (by omega)).mono ?_
    rintro e w7 ⟨r, rfl, hcn, hkn⟩
    have HC7 : Hid (CurB w7 g (.slice a P.length cap) P (0 + 504)) := hcn
    have HB7 : Hid (Below w.heap.size w w7) := HB6.out.trans (hkn.below HB6.out.size (fun k hk e => by omega))
    have HS7 : Hid (W0.heap.size ≤ w7.heap.size) := Nat.le_trans HS6.out hkn.size
    have HX7 : Hid (RBox w7 b0 ⟨#[]⟩ 0 0 ⟨#[]⟩) := HX6.out.kpt hkn (by omega)
    have HU7 : Hid (RBox w7 b1 ⟨#[]⟩ 0 0 ⟨#[]⟩) := HU6.out.kpt hkn (by omega)
    have HA7 : Hid (RBox w7 ba n1 t1 l1 d1) := HA6.out.kpt hkn (by omega)
    have HD7 : Hid (RBox w7 bb n2 t2 l2 d2) := HD6.out.kpt hkn (by omega)
    clear hcn hkn HC6 HB6 HS6 HX6 HU6 HA6 HD6
    cases r with
    | false =>
      have k1 : ¬ b0 = ba := by omega
      have k2 : ¬ b0 = bb := by omega
      have k3 : ¬ b1 = ba := by omega
      have k4 : ¬ b1 = bb := by omega
      have k5 : ¬ ba = bb := by omega
      have k6 : ¬ bb = ba := by omega
      have k7 : ¬ ba = b0 := by omega
      have k8 : ¬ bb = b0 := by omega
      have k9 : ¬ ba = b1 := by omega
      have k0 : ¬ bb = b1 := by omega
      obtain ⟨c0, c1, c2, c3⟩ := HA7.out.cells
      obtain ⟨ff0, ff1, ff2, ff3⟩ := HA7.out.free
      obtain ⟨z0, z1, z2, z3⟩ := HD7.out.cells
      obtain ⟨yf0, yf1, yf2, yf3⟩ := HD7.out.free
      obtain ⟨x0, x1, x2, x3⟩ := HX7.out.cells
      obtain ⟨hf0, hf1, hf2, hf3⟩ := HX7.out.free
      obtain ⟨u0, u1, u2, u3⟩ := HU7.out.cells
      obtain ⟨if0, if1, if2, if3⟩ := HU7.out.free
      go_wp2_with fail
      go_region_with fail
      all_goals clear c0 c1 c2 c3 z0 z1 z2 z3 x0 x1 x2 x3 u0 u1 u2 u3 ff0 ff1 ff2 ff3 yf0 yf1 yf2 yf3 hf0 hf1 hf2 hf3 if0 if1 if2 if3 k1 k2 k3 k4 k5 k6 k7 k8 k9 k0
      all_goals
        have HXZ : Hid (RBox ((((((((w7.setCell ⟨b0, 0, none⟩ (.string n1)).setCell ⟨b0, 1, none⟩ (.int .i64 t1)).setCell ⟨b0, 2, none⟩ (.int .i64 l1)).setCell ⟨b0, 3, none⟩ (.string d1)).setCell ⟨b1, 0, none⟩ (.string n2)).setCell ⟨b1, 1, none⟩ (.int .i64 t2)).setCell ⟨b1, 2, none⟩ (.int .i64 l2)).setCell ⟨b1, 3, none⟩ (.string d2)).drew b0 n1 t1 l1 d1) := RBox.drew ((HX7.out.put n1 t1 l1 d1).kpt (put_kpt _ b1 _ _ _ _) h10)
        have HUZ : Hid (RBox ((((((((w7.setCell ⟨b0, 0, none⟩ (.string n1)).setCell ⟨b0, 1, none⟩ (.int .i64 t1)).setCell ⟨b0, 2, none⟩ (.int .i64 l1)).setCell ⟨b0, 3, none⟩ (.string d1)).setCell ⟨b1, 0, none⟩ (.string n2)).setCell ⟨b1, 1, none⟩ (.int .i64 t2)).setCell ⟨b1, 2, none⟩ (.int .i64 l2)).setCell ⟨b1, 3, none⟩ (.string d2)).drew b1 n2 t2 l2 d2) := RBox.drew ((HU7.out.kpt (put_kpt _ b0 n1 t1 l1 d1) h10').put _ _ _ _)
        have HBZ : Hid (Below w.heap.size w ((((((((w7.setCell ⟨b0, 0, none⟩ (.string n1)).setCell ⟨b0, 1, none⟩ (.int .i64 t1)).setCell ⟨b0, 2, none⟩ (.int .i64 l1)).setCell ⟨b0, 3, none⟩ (.string d1)).setCell ⟨b1, 0, none⟩ (.string n2)).setCell ⟨b1, 1, none⟩ (.int .i64 t2)).setCell ⟨b1, 2, none⟩ (.int .i64 l2)).setCell ⟨b1, 3, none⟩ (.string d2)).drew) := Below.drew ((((((((HB7.out.setCell hb0w _).setCell hb0w _).setCell hb0w _).setCell hb0w _).setCell hb1w _).setCell hb1w _).setCell hb1w _).setCell hb1w _)
        obtain ⟨wz, hwz⟩ : ∃ W, W = ((((((((w7.setCell ⟨b0, 0, none⟩ (.string n1)).setCell ⟨b0, 1, none⟩ (.int .i64 t1)).setCell ⟨b0, 2, none⟩ (.int .i64 l1)).setCell ⟨b0, 3, none⟩ (.string d1)).setCell ⟨b1, 0, none⟩ (.string n2)).setCell ⟨b1, 1, none⟩ (.int .i64 t2)).setCell ⟨b1, 2, none⟩ (.int .i64 l2)).setCell ⟨b1, 3, none⟩ (.string d2)).drew := ⟨_, rfl⟩
        rw [← hwz] at HXZ HUZ HBZ
        rw [← hwz]
        clear hwz HA7 HD7 HX7 HU7 HB7
        rename_i QQ KK hKK
        refine hKK _ _ ?_
        refine wp_ret ?_
        exact bodyPost_ret (results_row_row rfl _ _ b0 b1 24 #[.string n1, .int .i64 t1, .int .i64 l1, .string d1] #[.string n2, .int .i64 t2, .int .i64 l2, .string d2] (0, 0) _ rfl rfl HXZ.out HUZ.out Tryz.underlying24 rfl (by kernel_rfl) (by kernel_rfl)) rfl ⟨n1, t1, l1, d1, n2, t2, l2, d2, ⟨rfl, hs1, hs2⟩, HBZ.out⟩
    | true =>
      have k1 : ¬ b0 = ba := by omega
      have k2 : ¬ b0 = bb := by omega
      have k3 : ¬ b1 = ba := by omega
      have k4 : ¬ b1 = bb := by omega
      have k5 : ¬ ba = bb := by omega
      have k6 : ¬ bb = ba := by omega
      have k7 : ¬ ba = b0 := by omega
      have k8 : ¬ bb = b0 := by omega
      have k9 : ¬ ba = b1 := by omega
      have k0 : ¬ bb = b1 := by omega
      obtain ⟨c0, c1, c2, c3⟩ := HA7.out.cells
      obtain ⟨ff0, ff1, ff2, ff3⟩ := HA7.out.free
      obtain ⟨z0, z1, z2, z3⟩ := HD7.out.cells
      obtain ⟨yf0, yf1, yf2, yf3⟩ := HD7.out.free
      obtain ⟨x0, x1, x2, x3⟩ := HX7.out.cells
      obtain ⟨hf0, hf1, hf2, hf3⟩ := HX7.out.free
      obtain ⟨u0, u1, u2, u3⟩ := HU7.out.cells
      obtain ⟨if0, if1, if2, if3⟩ := HU7.out.free
      go_wp2_with fail
      clear c0 c1 c2 c3 z0 z1 z2 z3 x0 x1 x2 x3 u0 u1 u2 u3 ff0 ff1 ff2 ff3 yf0 yf1 yf2 yf3 hf0 hf1 hf2 hf3 if0 if1 if2 if3
      have hkn : Kpt w7 ((((w7.setCell ⟨bb, 0, none⟩ (.string n1)).setCell ⟨bb, 1, none⟩ (.int .i64 t1)).setCell ⟨bb, 2, none⟩ (.int .i64 l1)).setCell ⟨bb, 3, none⟩ (.string d1)) (· = bb) := put_kpt _ _ _ _ _ _
      have HB8 : Hid (Below w.heap.size w ((((w7.setCell ⟨bb, 0, none⟩ (.string n1)).setCell ⟨bb, 1, none⟩ (.int .i64 t1)).setCell ⟨bb, 2, none⟩ (.int .i64 l1)).setCell ⟨bb, 3, none⟩ (.string d1))) := HB7.out.trans (hkn.below HB7.out.size (fun k hk e => by omega))
      have HX8 : Hid (RBox ((((w7.setCell ⟨bb, 0, none⟩ (.string n1)).setCell ⟨bb, 1, none⟩ (.int .i64 t1)).setCell ⟨bb, 2, none⟩ (.int .i64 l1)).setCell ⟨bb, 3, none⟩ (.string d1)) b0 ⟨#[]⟩ 0 0 ⟨#[]⟩) := HX7.out.kpt hkn (by omega)
      have HU8 : Hid (RBox ((((w7.setCell ⟨bb, 0, none⟩ (.string n1)).setCell ⟨bb, 1, none⟩ (.int .i64 t1)).setCell ⟨bb, 2, none⟩ (.int .i64 l1)).setCell ⟨bb, 3, none⟩ (.string d1)) b1 ⟨#[]⟩ 0 0 ⟨#[]⟩) := HU7.out.kpt hkn (by omega)
      have HA8 : Hid (RBox ((((w7.setCell ⟨bb, 0, none⟩ (.string n1)).setCell ⟨bb, 1, none⟩ (.int .i64 t1)).setCell ⟨bb, 2, none⟩ (.int .i64 l1)).setCell ⟨bb, 3, none⟩ (.string d1)) ba n1 t1 l1 d1) := HA7.out.kpt hkn (by omega)
      have HD8 : Hid (RBox ((((w7.setCell ⟨bb, 0, none⟩ (.string n1)).setCell ⟨bb, 1, none⟩ (.int .i64 t1)).setCell ⟨bb, 2, none⟩ (.int .i64 l1)).setCell ⟨bb, 3, none⟩ (.string d1)) bb n1 t1 l1 d1) := HD7.out.put _ _ _ _
      obtain ⟨w8, hw⟩ : ∃ W, W = ((((w7.setCell ⟨bb, 0, none⟩ (.string n1)).setCell ⟨bb, 1, none⟩ (.int .i64 t1)).setCell ⟨bb, 2, none⟩ (.int .i64 l1)).setCell ⟨bb, 3, none⟩ (.string d1)) := ⟨_, rfl⟩
      rw [← hw] at HB8 HX8 HU8 HA8 HD8
      rw [← hw]
      clear hw hkn HB7 HX7 HU7 HA7 HD7
      obtain ⟨c0, c1, c2, c3⟩ := HA8.out.cells
      obtain ⟨ff0, ff1, ff2, ff3⟩ := HA8.out.free
      obtain ⟨z0, z1, z2, z3⟩ := HD8.out.cells
      obtain ⟨yf0, yf1, yf2, yf3⟩ := HD8.out.free
      obtain ⟨x0, x1, x2, x3⟩ := HX8.out.cells
      obtain ⟨hf0, hf1, hf2, hf3⟩ := HX8.out.free
      obtain ⟨u0, u1, u2, u3⟩ := HU8.out.cells
      obtain ⟨if0, if1, if2, if3⟩ := HU8.out.free
      go_region_with fail
      all_goals clear c0 c1 c2 c3 z0 z1 z2 z3 x0 x1 x2 x3 u0 u1 u2 u3 ff0 ff1 ff2 ff3 yf0 yf1 yf2 yf3 hf0 hf1 hf2 hf3 if0 if1 if2 if3 k1 k2 k3 k4 k5 k6 k7 k8 k9 k0
      all_goals
        have HXZ : Hid (RBox ((((((((w8.setCell ⟨b0, 0, none⟩ (.string n1)).setCell ⟨b0, 1, none⟩ (.int .i64 t1)).setCell ⟨b0, 2, none⟩ (.int .i64 l1)).setCell ⟨b0, 3, none⟩ (.string d1)).setCell ⟨b1, 0, none⟩ (.string n1)).setCell ⟨b1, 1, none⟩ (.int .i64 t1)).setCell ⟨b1, 2, none⟩ (.int .i64 l1)).setCell ⟨b1, 3, none⟩ (.string d1)).drew b0 n1 t1 l1 d1) := RBox.drew ((HX8.out.put n1 t1 l1 d1).kpt (put_kpt _ b1 _ _ _ _) h10)
        have HUZ : Hid (RBox ((((((((w8.setCell ⟨b0, 0, none⟩ (.string n1)).setCell ⟨b0, 1, none⟩ (.int .i64 t1)).setCell ⟨b0, 2, none⟩ (.int .i64 l1)).setCell ⟨b0, 3, none⟩ (.string d1)).setCell ⟨b1, 0, none⟩ (.string n1)).setCell ⟨b1, 1, none⟩ (.int .i64 t1)).setCell ⟨b1, 2, none⟩ (.int .i64 l1)).setCell ⟨b1, 3, none⟩ (.string d1)).drew b1 n1 t1 l1 d1) := RBox.drew ((HU8.out.kpt (put_kpt _ b0 n1 t1 l1 d1) h10').put _ _ _ _)
        have HBZ : Hid (Below w.heap.size w ((((((((w8.setCell ⟨b0, 0, none⟩ (.string n1)).setCell ⟨b0, 1, none⟩ (.int .i64 t1)).setCell ⟨b0, 2, none⟩ (.int .i64 l1)).setCell ⟨b0, 3, none⟩ (.string d1)).setCell ⟨b1, 0, none⟩ (.string n1)).setCell ⟨b1, 1, none⟩ (.int .i64 t1)).setCell ⟨b1, 2, none⟩ (.int .i64 l1)).setCell ⟨b1, 3, none⟩ (.string d1)).drew) := Below.drew ((((((((HB8.out.setCell hb0w _).setCell hb0w _).setCell hb0w _).setCell hb0w _).setCell hb1w _).setCell hb1w _).setCell hb1w _).setCell hb1w _)
        obtain ⟨wz, hwz⟩ : ∃ W, W = ((((((((w8.setCell ⟨b0, 0, none⟩ (.string n1)).setCell ⟨b0, 1, none⟩ (.int .i64 t1)).setCell ⟨b0, 2, none⟩ (.int .i64 l1)).setCell ⟨b0, 3, none⟩ (.string d1)).setCell ⟨b1, 0, none⟩ (.string n1)).setCell ⟨b1, 1, none⟩ (.int .i64 t1)).setCell ⟨b1, 2, none⟩ (.int .i64 l1)).setCell ⟨b1, 3, none⟩ (.string d1)).drew := ⟨_, rfl⟩
        rw [← hwz] at HXZ HUZ HBZ
        rw [← hwz]
        clear hwz HA8 HD8 HX8 HU8 HB8
        rename_i QQ KK hKK
        refine hKK _ _ ?_
        refine wp_ret ?_
        exact bodyPost_ret (results_row_row rfl _ _ b0 b1 24 #[.string n1, .int .i64 t1, .int .i64 l1, .string d1] #[.string n1, .int .i64 t1, .int .i64 l1, .string d1] (0, 0) _ rfl rfl HXZ.out HUZ.out Tryz.underlying24 rfl (by kernel_rfl) (by kernel_rfl)) rfl ⟨n1, t1, l1, d1, n1, t1, l1, d1, ⟨rfl, hs1, hs1⟩, HBZ.out⟩
  | true =>
    obtain ⟨c0, c1, c2, c3⟩ := HA6.out.cells
    obtain ⟨z0, z1, z2, z3⟩ := HD6.out.cells
    obtain ⟨f0, f1, f2, f3⟩ := HD6.out.free
    go_wp2_with fail
    clear c0 c1 c2 c3 z0 z1 z2 z3 f0 f1 f2 f3
    have hkn : Kpt w6 (w6.setCell ⟨bb, 0, none⟩ (.string n1)) (· = bb) := kpt_set w6 bb 0 _ rfl
    have HC7 : Hid (CurB (w6.setCell ⟨bb, 0, none⟩ (.string n1)) g (.slice a P.length cap) P (0 + 502)) := HC6.out.kpt hkn (by omega) (fun h0 k hk e => by have := HCL.out W0 (Nat.le_refl _) h0 k hk; have := HGS.out; omega)
    have HB7 : Hid (Below w.heap.size w (w6.setCell ⟨bb, 0, none⟩ (.string n1))) := HB6.out.setCell (show w.heap.size ≤ bb by omega) _
    have HS7 : Hid (W0.heap.size ≤ (w6.setCell ⟨bb, 0, none⟩ (.string n1)).heap.size) := Nat.le_trans HS6.out hkn.size
    have HX7 : Hid (RBox (w6.setCell ⟨bb, 0, none⟩ (.string n1)) b0 ⟨#[]⟩ 0 0 ⟨#[]⟩) := HX6.out.kpt hkn (by omega)
    have HU7 : Hid (RBox (w6.setCell ⟨bb, 0, none⟩ (.string n1)) b1 ⟨#[]⟩ 0 0 ⟨#[]⟩) := HU6.out.kpt hkn (by omega)
    have HA7 : Hid (RBox (w6.setCell ⟨bb, 0, none⟩ (.string n1)) ba n1 t1 l1 d1) := HA6.out.kpt hkn (by omega)
    have HD7 : Hid (RBox (w6.setCell ⟨bb, 0, none⟩ (.string n1)) bb n1 t2 l2 d2) := HD6.out.set0 _
    obtain ⟨w7, hw⟩ : ∃ W, W = (w6.setCell ⟨bb, 0, none⟩ (.string n1)) := ⟨_, rfl⟩
    rw [← hw] at HC7 HB7 HS7 HX7 HU7 HA7 HD7
    rw [← hw]
    clear hw hkn HC6 HB6 HS6 HX6 HU6 HA6 HD6
    refine (one_any _ g _ P (0 + 502) _ HC7.out (by omega) hl (by omega)).mono ?_
    rintro e w8 ⟨r, rfl, hcn, hkn⟩
    have HC8 : Hid (CurB w8 g (.slice a P.length cap) P (0 + 504)) := hcn
    have HB8 : Hid (Below w.heap.size w w8) := HB7.out.trans (hkn.below HB7.out.size (fun k hk e => by omega))
    have HS8 : Hid (W0.heap.size ≤ w8.heap.size) := Nat.le_trans HS7.out hkn.size
    have HX8 : Hid (RBox w8 b0 ⟨#[]⟩ 0 0 ⟨#[]⟩) := HX7.out.kpt hkn (by omega)
    have HU8 : Hid (RBox w8 b1 ⟨#[]⟩ 0 0 ⟨#[]⟩) := HU7.out.kpt hkn (by omega)
    have HA8 : Hid (RBox w8 ba n1 t1 l1 d1) := HA7.out.kpt hkn (by omega)
    have HD8 : Hid (RBox w8 bb n1 t2 l2 d2) := HD7.out.kpt hkn (by omega)
    clear hcn hkn HC7 HB7 HS7 HX7 HU7 HA7 HD7
    cases r with
    | false =>
      have k1 : ¬ b0 = ba := by omega
      have k2 : ¬ b0 = bb := by omega
      have k3 : ¬ b1 = ba := by omega
      have k4 : ¬ b1 = bb := by omega
      have k5 : ¬ ba = bb := by omega
      have k6 : ¬ bb = ba := by omega
      have k7 : ¬ ba = b0 := by omega
      have k8 : ¬ bb = b0 := by omega
      have k9 : ¬ ba = b1 := by omega
      have k0 : ¬ bb = b1 := by omega
      obtain ⟨c0, c1, c2, c3⟩ := HA8.out.cells
      obtain ⟨ff0, ff1, ff2, ff3⟩ := HA8.out.free
      obtain ⟨z0, z1, z2, z3⟩ := HD8.out.cells
      obtain ⟨yf0, yf1, yf2, yf3⟩ := HD8.out.free
      obtain ⟨x0, x1, x2, x3⟩ := HX8.out.cells
      obtain ⟨hf0, hf1, hf2, hf3⟩ := HX8.out.free
      obtain ⟨u0, u1, u2, u3⟩ := HU8.out.cells
      obtain ⟨if0, if1, if2, if3⟩ := HU8.out.free
      go_wp2_with fail
      go_region_with fail
      all_goals clear c0 c1 c2 c3 z0 z1 z2 z3 x0 x1 x2 x3 u0 u1 u2 u3 ff0 ff1 ff2 ff3 yf0 yf1 yf2 yf3 hf0 hf1 hf2 hf3 if0 if1 if2 if3 k1 k2 k3 k4 k5 k6 k7 k8 k9 k0
      all_goals
        have HXZ : Hid (RBox ((((((((w8.setCell ⟨b0, 0, none⟩ (.string n1)).setCell ⟨b0, 1, none⟩ (.int .i64 t1)).setCell ⟨b0, 2, none⟩ (.int .i64 l1)).setCell ⟨b0, 3, none⟩ (.string d1)).setCell ⟨b1, 0, none⟩ (.string n1)).setCell ⟨b1, 1, none⟩ (.int .i64 t2)).setCell ⟨b1, 2, none⟩ (.int .i64 l2)).setCell ⟨b1, 3, none⟩ (.string d2)).drew b0 n1 t1 l1 d1) := RBox.drew ((HX8.out.put n1 t1 l1 d1).kpt (put_kpt _ b1 _ _ _ _) h10)
        have HUZ : Hid (RBox ((((((((w8.setCell ⟨b0, 0, none⟩ (.string n1)).setCell ⟨b0, 1, none⟩ (.int .i64 t1)).setCell ⟨b0, 2, none⟩ (.int .i64 l1)).setCell ⟨b0, 3, none⟩ (.string d1)).setCell ⟨b1, 0, none⟩ (.string n1)).setCell ⟨b1, 1, none⟩ (.int .i64 t2)).setCell ⟨b1, 2, none⟩ (.int .i64 l2)).setCell ⟨b1, 3, none⟩ (.string d2)).drew b1 n1 t2 l2 d2) := RBox.drew ((HU8.out.kpt (put_kpt _ b0 n1 t1 l1 d1) h10').put _ _ _ _)
        have HBZ : Hid (Below w.heap.size w ((((((((w8.setCell ⟨b0, 0, none⟩ (.string n1)).setCell ⟨b0, 1, none⟩ (.int .i64 t1)).setCell ⟨b0, 2, none⟩ (.int .i64 l1)).setCell ⟨b0, 3, none⟩ (.string d1)).setCell ⟨b1, 0, none⟩ (.string n1)).setCell ⟨b1, 1, none⟩ (.int .i64 t2)).setCell ⟨b1, 2, none⟩ (.int .i64 l2)).setCell ⟨b1, 3, none⟩ (.string d2)).drew) := Below.drew ((((((((HB8.out.setCell hb0w _).setCell hb0w _).setCell hb0w _).setCell hb0w _).setCell hb1w _).setCell hb1w _).setCell hb1w _).setCell hb1w _)
        obtain ⟨wz, hwz⟩ : ∃ W, W = ((((((((w8.setCell ⟨b0, 0, none⟩ (.string n1)).setCell ⟨b0, 1, none⟩ (.int .i64 t1)).setCell ⟨b0, 2, none⟩ (.int .i64 l1)).setCell ⟨b0, 3, none⟩ (.string d1)).setCell ⟨b1, 0, none⟩ (.string n1)).setCell ⟨b1, 1, none⟩ (.int .i64 t2)).setCell ⟨b1, 2, none⟩ (.int .i64 l2)).setCell ⟨b1, 3, none⟩ (.string d2)).drew := ⟨_, rfl⟩
        rw [← hwz] at HXZ HUZ HBZ
        rw [← hwz]
        clear hwz HA8 HD8 HX8 HU8 HB8
        rename_i QQ KK hKK
        refine hKK _ _ ?_
        refine wp_ret ?_
        exact bodyPost_ret (results_row_row rfl _ _ b0 b1 24 #[.string n1, .int .i64 t1, .int .i64 l1, .string d1] #[.string n1, .int .i64 t2, .int .i64 l2, .string d2] (0, 0) _ rfl rfl HXZ.out HUZ.out Tryz.underlying24 rfl (by kernel_rfl) (by kernel_rfl)) rfl ⟨n1, t1, l1, d1, n1, t2, l2, d2, ⟨rfl, hs1, ⟨hs1.1, hs2.2.1, hs2.2.2.1, hs2.2.2.2⟩⟩, HBZ.out⟩
    | true =>
      have k1 : ¬ b0 = ba := by omega
      have k2 : ¬ b0 = bb := by omega
      have k3 : ¬ b1 = ba := by omega
      have k4 : ¬ b1 = bb := by omega
      have k5 : ¬ ba = bb := by omega
      have k6 : ¬ bb = ba := by omega
      have k7 : ¬ ba = b0 := by omega
      have k8 : ¬ bb = b0 := by omega
      have k9 : ¬ ba = b1 := by omega
      have k0 : ¬ bb = b1 := by omega
      obtain ⟨c0, c1, c2, c3⟩ := HA8.out.cells
      obtain ⟨ff0, ff1, ff2, ff3⟩ := HA8.out.free
      obtain ⟨z0, z1, z2, z3⟩ := HD8.out.cells
      obtain ⟨yf0, yf1, yf2, yf3⟩ := HD8.out.free
      obtain ⟨x0, x1, x2, x3⟩ := HX8.out.cells
      obtain ⟨hf0, hf1, hf2, hf3⟩ := HX8.out.free
      obtain ⟨u0, u1, u2, u3⟩ := HU8.out.cells
      obtain ⟨if0, if1, if2, if3⟩ := HU8.out.free
      go_wp2_with fail
      clear c0 c1 c2 c3 z0 z1 z2 z3 x0 x1 x2 x3 u0 u1 u2 u3 ff0 ff1 ff2 ff3 yf0 yf1 yf2 yf3 hf0 hf1 hf2 hf3 if0 if1 if2 if3
      have hkn : Kpt w8 ((((w8.setCell ⟨bb, 0, none⟩ (.string n1)).setCell ⟨bb, 1, none⟩ (.int .i64 t1)).setCell ⟨bb, 2, none⟩ (.int .i64 l1)).setCell ⟨bb, 3, none⟩ (.string d1)) (· = bb) := put_kpt _ _ _ _ _ _
      have HB9 : Hid (Below w.heap.size w ((((w8.setCell ⟨bb, 0, none⟩ (.string n1)).setCell ⟨bb, 1, none⟩ (.int .i64 t1)).setCell ⟨bb, 2, none⟩ (.int .i64 l1)).setCell ⟨bb, 3, none⟩ (.string d1))) := HB8.out.trans (hkn.below HB8.out.size (fun k hk e => by omega))
      have HX9 : Hid (RBox ((((w8.setCell ⟨bb, 0, none⟩ (.string n1)).setCell ⟨bb, 1, none⟩ (.int .i64 t1)).setCell ⟨bb, 2, none⟩ (.int .i64 l1)).setCell ⟨bb, 3, none⟩ (.string d1)) b0 ⟨#[]⟩ 0 0 ⟨#[]⟩) := HX8.out.kpt hkn (by omega)
      have HU9 : Hid (RBox ((((w8.setCell ⟨bb, 0, none⟩ (.string n1)).setCell ⟨bb, 1, none⟩ (.int .i64 t1)).setCell ⟨bb, 2, none⟩ (.int .i64 l1)).setCell ⟨bb, 3, none⟩ (.string d1)) b1 ⟨#[]⟩ 0 0 ⟨#[]⟩) := HU8.out.kpt hkn (by omega)
      have HA9 : Hid (RBox ((((w8.setCell ⟨bb, 0, none⟩ (.string n1)).setCell ⟨bb, 1, none⟩ (.int .i64 t1)).setCell ⟨bb, 2, none⟩ (.int .i64 l1)).setCell ⟨bb, 3, none⟩ (.string d1)) ba n1 t1 l1 d1) := HA8.out.kpt hkn (by omega)
      have HD9 : Hid (RBox ((((w8.setCell ⟨bb, 0, none⟩ (.string n1)).setCell ⟨bb, 1, none⟩ (.int .i64 t1)).setCell ⟨bb, 2, none⟩ (.int .i64 l1)).setCell ⟨bb, 3, none⟩ (.string d1)) bb n1 t1 l1 d1) := HD8.out.put _ _ _ _
      obtain ⟨w9, hw⟩ : ∃ W, W = ((((w8.setCell ⟨bb, 0, none⟩ (.string n1)).setCell ⟨bb, 1, none⟩ (.int .i64 t1)).setCell ⟨bb, 2, none⟩ (.int .i64 l1)).setCell ⟨bb, 3, none⟩ (.string d1)) := ⟨_, rfl⟩
      rw [← hw] at HB9 HX9 HU9 HA9 HD9
      rw [← hw]
      clear hw hkn HB8 HX8 HU8 HA8 HD8
      obtain ⟨c0, c1, c2, c3⟩ := HA9.out.cells
      obtain ⟨ff0, ff1, ff2, ff3⟩ := HA9.out.free
      obtain ⟨z0, z1, z2, z3⟩ := HD9.out.cells
      obtain ⟨yf0, yf1, yf2, yf3⟩ := HD9.out.free
      obtain ⟨x0, x1, x2, x3⟩ := HX9.out.cells
      obtain ⟨hf0, hf1, hf2, hf3⟩ := HX9.out.free
      obtain ⟨u0, u1, u2, u3⟩ := HU9.out.cells
      obtain ⟨if0, if1, if2, if3⟩ := HU9.out.free
      go_region_with fail
      all_goals clear c0 c1 c2 c3 z0 z1 z2 z3 x0 x1 x2 x3 u0 u1 u2 u3 ff0 ff1 ff2 ff3 yf0 yf1 yf2 yf3 hf0 hf1 hf2 hf3 if0 if1 if2 if3 k1 k2 k3 k4 k5 k6 k7 k8 k9 k0
      all_goals
        have HXZ : Hid (RBox ((((((((w9.setCell ⟨b0, 0, none⟩ (.string n1)).setCell ⟨b0, 1, none⟩ (.int .i64 t1)).setCell ⟨b0, 2, none⟩ (.int .i64 l1)).setCell ⟨b0, 3, none⟩ (.string d1)).setCell ⟨b1, 0, none⟩ (.string n1)).setCell ⟨b1, 1, none⟩ (.int .i64 t1)).setCell ⟨b1, 2, none⟩ (.int .i64 l1)).setCell ⟨b1, 3, none⟩ (.string d1)).drew b0 n1 t1 l1 d1) := RBox.drew ((HX9.out.put n1 t1 l1 d1).kpt (put_kpt _ b1 _ _ _ _) h10)
        have HUZ : Hid (RBox ((((((((w9.setCell ⟨b0, 0, none⟩ (.string n1)).setCell ⟨b0, 1, none⟩ (.int .i64 t1)).setCell ⟨b0, 2, none⟩ (.int .i64 l1)).setCell ⟨b0, 3, none⟩ (.string d1)).setCell ⟨b1, 0, none⟩ (.string n1)).setCell ⟨b1, 1, none⟩ (.int .i64 t1)).setCell ⟨b1, 2, none⟩ (.int .i64 l1)).setCell ⟨b1, 3, none⟩ (.string d1)).drew b1 n1 t1 l1 d1) := RBox.drew ((HU9.out.kpt (put_kpt _ b0 n1 t1 l1 d1) h10').put _ _ _ _)
        have HBZ : Hid (Below w.heap.size w ((((((((w9.setCell ⟨b0, 0, none⟩ (.string n1)).setCell ⟨b0, 1, none⟩ (.int .i64 t1)).setCell ⟨b0, 2, none⟩ (.int .i64 l1)).setCell ⟨b0, 3, none⟩ (.string d1)).setCell ⟨b1, 0, none⟩ (.string n1)).setCell ⟨b1, 1, none⟩ (.int .i64 t1)).setCell ⟨b1, 2, none⟩ (.int .i64 l1)).setCell ⟨b1, 3, none⟩ (.string d1)).drew) := Below.drew ((((((((HB9.out.setCell hb0w _).setCell hb0w _).setCell hb0w _).setCell hb0w _).setCell hb1w _).setCell hb1w _).setCell hb1w _).setCell hb1w _)
        obtain ⟨wz, hwz⟩ : ∃ W, W = ((((((((w9.setCell ⟨b0, 0, none⟩ (.string n1)).setCell ⟨b0, 1, none⟩ (.int .i64 t1)).setCell ⟨b0, 2, none⟩ (.int .i64 l1)).setCell ⟨b0, 3, none⟩ (.string d1)).setCell ⟨b1, 0, none⟩ (.string n1)).setCell ⟨b1, 1, none⟩ (.int .i64 t1)).setCell ⟨b1, 2, none⟩ (.int .i64 l1)).setCell ⟨b1, 3, none⟩ (.string d1)).drew := ⟨_, rfl⟩
        rw [← hwz] at HXZ HUZ HBZ
        rw [← hwz]
        clear hwz HA9 HD9 HX9 HU9 HB9
        rename_i QQ KK hKK
        refine hKK _ _ ?_
        refine wp_ret ?_
        exact bodyPost_ret (results_row_row rfl _ _ b0 b1 24 #[.string n1, .int .i64 t1, .int .i64 l1, .string d1] #[.string n1, .int .i64 t1, .int .i64 l1, .string d1] (0, 0) _ rfl rfl HXZ.out HUZ.out Tryz.underlying24 rfl (by kernel_rfl) (by kernel_rfl)) rfl ⟨n1, t1, l1, d1, n1, t1, l1, d1, ⟨rfl, hs1, hs1⟩, HBZ.out⟩
end Go.Proofs.YtdmellmmhipncaaGreatDoor
