import Derived.Test.YtoanloballaclaaGreatDoorZ23
import Derived.Test.YtoanloballaclaaGreatDoorZ25
import Derived.Test.YtoanloballaclaaGreatDoorZ05
import Derived.Deep.RegionHeld3
namespace Go.Proofs.YtoanloballaclaaGreatDoor
open Go.RowKit

/-- Numbers told: in a row of the call's own. -/
def NumsO (w : World) (base : Nat) (u : Value) (O : List Int) : Prop := w.ownsRow base 3 1 u O.length (O.map (Value.int .i64))
theorem NumsO.kept {w w' : World} {base : Nat} {u : Value} {O : List Int} (h : NumsO w base u O) (hb : Below w.heap.size w w') : NumsO w' base u O := own_below h hb
theorem NumsO.mono {w : World} {base base' : Nat} {u : Value} {O : List Int} (h : NumsO w base u O) (hb : base' ≤ base) : NumsO w base' u O := own_mono h hb
theorem nums_nil (w : World) (base : Nat) : NumsO w base (.slice none 0 0) [] := World.ownsRow_nil w base 3 1
theorem below_appendG {B : Nat} {a wr w1 : World} {v : Value} {base n : Nat} {xs : List Value} {o : Obj} (hb : Below B a wr) (hB : B ≤ base) (hz : base ≤ wr.heap.size) (hown : wr.ownsRow base 3 1 v n xs) (hgrow : (wr.alloc o).grownBy w1 v.ownBlock) : Below B a w1 :=
  (hb.alloc (Nat.le_trans hB hz) o).grown hgrow (by simp; omega) (fun k hk => Nat.le_trans hB (hown.lt k hk).1)

set_option maxRecDepth 20000 in
set_option maxHeartbeats 4000000 in
theorem groupsOf_any (g : Nat) (lb : Array Value) (p : TgtT → Bool) (n : ByteArray) (v : Value) (L : List TgtT) (w : World) (hr : TgtRow w v L) (hp : Hid (PredG g lb p L w)) (eg : ∀ args w, (callFunc g args).run Tryz.prog w = .ok (.enter g args) w) :
    Calls Tryz.prog 57 #[.agg #[.func (.func g) #[] lb], PolV n v] w fun e w' => (∃ u, e = .returned u ∧ NumsO w' w.heap.size u (grpsL p L 10)) ∧ Below w.heap.size w w' := by
  obtain ⟨i0, hi, hz0, hz1, hz2⟩ := info_parts info_int
  have hib0 : Below w.heap.size w ((w.alloc (.cells #[.func (.func g) #[] lb] 90)).alloc (.cells #[.string n, v] 34)) := ((Below.refl w.heap.size w).alloc (Nat.le_refl _) _).alloc (by simp) _
  obtain ⟨W0, hW0⟩ : ∃ W0, W0 = (w.alloc (.cells #[.func (.func g) #[] lb] 90)).alloc (.cells #[.string n, v] 34) := ⟨_, rfl⟩
  have HX : Hid (∀ W, Below W0.heap.size W0 W → ((W.cell? ⟨w.heap.size, 0, none⟩ = some (.func (.func g) #[] lb)) ∧ W.cell? ⟨w.heap.size + 1, 0, none⟩ = some (.string n) ∧ W.cell? ⟨w.heap.size + 1, 1, none⟩ = some v) ∧ Below w.heap.size w W) := fun W hW => by
    rw [hW0] at hW
    obtain ⟨h1, h2, h3⟩ := tgt_below2 hW
    exact ⟨⟨by unfold World.cell?; rw [h1]; rfl, (pol_cells h2).1⟩, h3⟩
  have HIG : Hid (∀ (k : Nat) W, Below w.heap.size w W → Calls Tryz.prog 70 #[.agg #[.func (.func g) #[] lb], .int .i64 (k : Int)] W fun e w' => (∃ lb', e = .returned (.agg #[.func (.func 95) #[] lb']) ∧ PredG 95 lb' (inG p (k : Int)) L w') ∧ Below W.heap.size W w') := fun k W hW => inGroup_any g lb p L k W (hp.out.kept hW) eg
  have HCF : Hid (∀ (k : Nat) lb' W, Below w.heap.size w W → PredG 95 lb' (inG p (k : Int)) L W → Calls Tryz.prog 84 #[v, .func (.func 95) #[] lb'] W fun e w' => e = .returned (.bool (L.any (inG p (k : Int)))) ∧ Below W.heap.size W w') := fun k lb' W hW hq => containsFuncG_any 95 lb' (inG p (k : Int)) v L W (hr.kept hW) hq (fun _ _ => by kernel_rfl)
  have HFI : Hid (∀ (x : Value) W, (Instr.field 90 (.agg #[x]) 0).run Tryz.prog W = .ok x W) := fun _ _ => rfl
  have hfi := HFI.out
  have HW0 : Hid ((w.alloc (.cells #[.func (.func g) #[] lb] 90)).alloc (.cells #[.string n, v] 34) = W0) := hW0.symm
  have hzw : w.heap.size ≤ W0.heap.size := by rw [hW0]; simp; omega
  unfold PolV
  obtain ⟨a, cap, rfl, hcap, hmax, _⟩ := hr
  clear hW0 hp eg hib0
  go_enter Tryz.func57, Tryz.ntmps57
  go_wp2_with fail
  rw [HW0.out]
  go_loopw [5, 7] (fun gv i wr => ∃ (k : Nat) (u : Value), k ≤ 10 ∧ i = .int .i64 (k : Int) ∧ u = gv ∧ Hid (NumsO wr W0.heap.size u (grpsL p L k)) ∧ Below W0.heap.size W0 wr) (fun _ i _ => 10 - (intOf i).toNat)
  case atStart => exact ⟨0, _, Nat.zero_le _, rfl, rfl, nums_nil _ _, Below.refl _ _⟩
  case round =>
    obtain ⟨k, u, hk, rfl, rfl, HO, hb⟩ := hrel
    have hzr := hb.size
    by_cases hlt : k < 10
    · have HC : Hid (∀ W, Below wr.heap.size wr W → ((W.cell? ⟨w.heap.size, 0, none⟩ = some (.func (.func g) #[] lb)) ∧ W.cell? ⟨w.heap.size + 1, 0, none⟩ = some (.string n) ∧ W.cell? ⟨w.heap.size + 1, 1, none⟩ = some (.slice a L.length cap)) ∧ Below wr.heap.size wr W) := fun W hW => ⟨(HX.out W (hb.trans (hW.mono hb.size))).1, hW⟩
      have HIG2 : Hid (∀ W, Below wr.heap.size wr W → Calls Tryz.prog 70 #[.agg #[.func (.func g) #[] lb], .int .i64 (k : Int)] W fun e w' => (∃ lb', e = .returned (.agg #[.func (.func 95) #[] lb']) ∧ PredG 95 lb' (inG p (k : Int)) L w') ∧ Below W.heap.size W w') := fun W hW => HIG.out k W (HX.out W (hb.trans (hW.mono hb.size))).2
      have HCF2 : Hid (∀ lb' W, Below wr.heap.size wr W → PredG 95 lb' (inG p (k : Int)) L W → Calls Tryz.prog 84 #[.slice a L.length cap, .func (.func 95) #[] lb'] W fun e w' => e = .returned (.bool (L.any (inG p (k : Int)))) ∧ Below W.heap.size W w') := fun lb' W hW hq => HCF.out k lb' W (HX.out W (hb.trans (hW.mono hb.size))).2 hq
      have HTR : Hid (∀ W W', Below wr.heap.size wr W → Below W.heap.size W W' → Below wr.heap.size wr W') := fun W W' h1 h2 => h1.trans (h2.mono h1.size)
      have HSN : Hid (grpsL p L (k + 1) = grpsL p L k ++ (if L.any (inG p (k : Int)) = true then [(k : Int)] else [])) := grpsL_succ p L k
      have hkl := grpsL_length p L k
      obtain ⟨gl, hgl⟩ : ∃ gl, gl = grpsL p L k := ⟨_, rfl⟩
      rw [← hgl] at HO HSN hkl
      have hbd : Below wr.heap.size wr wr.drew := (Below.refl _ _).drew
      have hbz : Below wr.heap.size wr wr := Below.refl _ _
      clear hgl HX HIG HCF
      obtain ⟨q, hq⟩ : ∃ q, q = L.any (inG p (k : Int)) := ⟨_, rfl⟩
      rw [← hq] at HCF2 HSN
      clear hq
      cases q with
      | false =>
        have HO2 : Hid (grpsL p L (k + 1) = gl) := by show _ = _; rw [HSN.out]; simp
        go_wp2_with fail
        go_region_held3 (fun W => ((W.cell? ⟨w.heap.size, 0, none⟩ = some (.func (.func g) #[] lb)) ∧ W.cell? ⟨w.heap.size + 1, 0, none⟩ = some (.string n) ∧ W.cell? ⟨w.heap.size + 1, 1, none⟩ = some (.slice a L.length cap)) ∧ Below wr.heap.size wr W) (first | exact HC.out _ (by assumption) | exact HC.out _ (Below.drew (by assumption)))
          (first
          | (go_at_call 70; refine (HIG2.out _ (by assumption)).mono ?_; rintro e w6 ⟨⟨lb', rfl, hp6⟩, hb6⟩; have hb56 := HTR.out _ _ (by assumption) hb6)
          | (go_at_call 84; refine (HCF2.out _ _ (by assumption) (by assumption)).mono ?_; rintro e w7 ⟨rfl, hb7⟩; have hb57 := HTR.out _ _ (by assumption) hb7))
        have HO7 : Hid (NumsO w7 W0.heap.size u (grpsL p L (k + 1))) := by rw [HO2.out]; exact HO.out.kept hb57
        have hb07 := hb.trans (hb57.mono hb.size)
        go_wp2_with fail
        go_roundw
        case rel => exact ⟨k + 1, _, by omega, by go_num, rfl, HO7, hb07⟩
        case measure => simp [intOf]; omega
      | true =>
        have HO2 : Hid (grpsL p L (k + 1) = gl ++ [(k : Int)]) := by show _ = _; rw [HSN.out]; simp
        go_wp2_with fail
        go_region_held3 (fun W => ((W.cell? ⟨w.heap.size, 0, none⟩ = some (.func (.func g) #[] lb)) ∧ W.cell? ⟨w.heap.size + 1, 0, none⟩ = some (.string n) ∧ W.cell? ⟨w.heap.size + 1, 1, none⟩ = some (.slice a L.length cap)) ∧ Below wr.heap.size wr W) (first | exact HC.out _ (by assumption) | exact HC.out _ (Below.drew (by assumption)))
          (first
          | (go_at_call 70; refine (HIG2.out _ (by assumption)).mono ?_; rintro e w6 ⟨⟨lb', rfl, hp6⟩, hb6⟩; have hb56 := HTR.out _ _ (by assumption) hb6)
          | (go_at_call 84; refine (HCF2.out _ _ (by assumption) (by assumption)).mono ?_; rintro e w7 ⟨rfl, hb7⟩; have hb57 := HTR.out _ _ (by assumption) hb7))
        have hown := HO.out.kept hb57
        unfold NumsO at hown
        have hb07 := hb.trans (hb57.mono hb.size)
        have hz7 := hb07.size
        clear hb7 hb57 hb6 hb56 hp6 HO HC HIG2 HCF2 HTR HSN hbd hbz
        go_wp2_with (at_builtin; refine wpList_append_own _ rfl (.tmp 17) (.tmp 19) 43 rfl W0.heap.size 3 i0 (.int .i64 0) 1 8 Tryz.underlying43 hi hz0 hz1 hz2 rfl (by decide) _ _ _ rfl (own_below hown ((Below.refl w7.heap.size w7).alloc (Nat.le_refl _) _)) ⟨w7.heap.size, 0, none⟩ 1 1 [.int .i64 (k : Int)] rfl rfl (cell_new_one w7 (.int .i64 (k : Int)) 3) (one_int _) ?c3 ?c4 ?c5 ?_)
        case c3 => unfold maxLen; omega
        case c4 => omega
        case c5 => simp; omega
        intro v4 w4 hown4 hgrow4 _
        have hb4 := below_appendG hb07 (Nat.le_refl _) hz7 hown hgrow4
        have HO4 : Hid (NumsO w4 W0.heap.size v4 (grpsL p L (k + 1))) := by
          show w4.ownsRow _ _ _ _ _ _
          rw [HO2.out, List.length_append, List.map_append]
          exact hown4
        clear hown hown4 hgrow4
        go_wp2_with fail
        go_roundw
        case rel => exact ⟨k + 1, _, by omega, by go_num, rfl, HO4, hb4⟩
        case measure => simp [intOf]; omega
    · obtain rfl : k = 10 := by omega
      have hbw := (HX.out _ hb).2
      clear HX HIG HCF
      go_wp2_with fail
      go_ret
      exact ⟨⟨_, rfl, HO.out.mono hzw⟩, hbw⟩

set_option maxRecDepth 20000 in
set_option maxHeartbeats 4000000 in
theorem numbersOf_any (g : Nat) (lb : Array Value) (p : TgtT → Bool) (n : ByteArray) (v : Value) (L : List TgtT) (w : World) (hr : TgtRow w v L) (hl : L.length ≤ 1048576) (hp : Hid (PredG g lb p L w)) (eg : ∀ args w, (callFunc g args).run Tryz.prog w = .ok (.enter g args) w) :
    Calls Tryz.prog 71 #[.agg #[.func (.func g) #[] lb], PolV n v] w fun e w' => (∃ u, e = .returned u ∧ NumsO w' w.heap.size u (numsL p L L.length)) ∧ Below w.heap.size w w' := by
  obtain ⟨i0, hi, hz0, hz1, hz2⟩ := info_parts info_int
  obtain ⟨W0, hW0⟩ : ∃ W0, W0 = (w.alloc (.cells #[.func (.func g) #[] lb] 90)).alloc (.cells #[.string n, v] 34) := ⟨_, rfl⟩
  have HX : Hid (∀ W, Below W0.heap.size W0 W → ((W.cell? ⟨w.heap.size, 0, none⟩ = some (.func (.func g) #[] lb)) ∧ W.cell? ⟨w.heap.size + 1, 0, none⟩ = some (.string n) ∧ W.cell? ⟨w.heap.size + 1, 1, none⟩ = some v) ∧ Below w.heap.size w W) := fun W hW => by
    rw [hW0] at hW
    obtain ⟨h1, h2, h3⟩ := tgt_below2 hW
    exact ⟨⟨by unfold World.cell?; rw [h1]; rfl, (pol_cells h2).1⟩, h3⟩
  have HW0 : Hid ((w.alloc (.cells #[.func (.func g) #[] lb] 90)).alloc (.cells #[.string n, v] 34) = W0) := hW0.symm
  have hzw : w.heap.size ≤ W0.heap.size := by rw [hW0]; simp; omega
  have HR0 : Hid (TgtRow w v L) := hr
  unfold PolV
  obtain ⟨a, cap, rfl, hcap, hmax, HROW⟩ := tgt_value hr
  clear hW0 hr
  go_enter Tryz.func71, Tryz.ntmps71
  go_wp2_with fail
  (try rw [HW0.out])
  go_loopw [5, 11] (fun gv i wr => ∃ (k : Nat) (u : Value), k ≤ L.length ∧ i = .int .i64 (k : Int) ∧ u = gv ∧ Hid (NumsO wr W0.heap.size u (numsL p L k)) ∧ Below W0.heap.size W0 wr) (fun _ i _ => L.length - (intOf i).toNat)
  case atStart => exact ⟨0, _, Nat.zero_le _, rfl, rfl, nums_nil _ _, Below.refl _ _⟩
  case round =>
    obtain ⟨k, u, hk, rfl, rfl, HO, hb⟩ := hrel
    have hzr := hb.size
    by_cases hlt : k < L.length
    · obtain ⟨b, o, ha, hbl, hcel⟩ := HROW.out (by omega)
      have hbw := (HX.out _ hb).2
      have hcx := (hcel k hlt).kept hbw
      unfold TgtAt at hcx
      obtain ⟨c0, c1, c2, c3⟩ := hcx
      have HSN : Hid (numsL p L (k + 1) = numsL p L k ++ (if p (L[k]'hlt) = true then [(k : Int)] else [])) := numsL_succ p L k hlt
      have hkl := numsL_length p L k
      have hm := List.getElem_mem hlt
      obtain ⟨x, hxe⟩ : ∃ x, x = L[k]'hlt := ⟨_, rfl⟩
      rw [← hxe] at c0 c1 c2 c3 HSN hm
      obtain ⟨gl, hgl⟩ : ∃ gl, gl = numsL p L k := ⟨_, rfl⟩
      rw [← hgl] at HO HSN hkl
      obtain ⟨xh, xd, xg, xk⟩ := x
      simp only at c0 c1 c2 c3
      obtain ⟨W1, hW1⟩ : ∃ W1, W1 = wr.alloc (.cells #[.string ⟨xh.toArray⟩, .string ⟨xd.toArray⟩, .int .i64 xg, .int .i64 xk] 79) := ⟨_, rfl⟩
      have hb01 : Below W0.heap.size W0 W1 := by rw [hW1]; exact hb.alloc hb.size _
      have hcall := hp.out W1 _ hm (HX.out _ hb01).2
      have hbr1 : Below wr.heap.size wr W1 := by rw [hW1]; exact (Below.refl _ _).alloc (Nat.le_refl _) _
      have hown := HO.out.kept hbr1
      obtain ⟨q, hq⟩ : ∃ q, q = p (xh, xd, xg, xk) := ⟨_, rfl⟩
      rw [← hq] at hcall HSN
      have HCALL : Hid (Calls Tryz.prog g (#[.agg #[.string ⟨xh.toArray⟩, .string ⟨xd.toArray⟩, .int .i64 xg, .int .i64 xk]] ++ lb) W1 fun e w' => e = .returned (.bool q) ∧ Below W1.heap.size W1 w') := hcall
      have HOW : Hid (NumsO W1 W0.heap.size u gl) := hown
      have HW1 : Hid (wr.alloc (.cells #[.string ⟨xh.toArray⟩, .string ⟨xd.toArray⟩, .int .i64 xg, .int .i64 xk] 79) = W1) := hW1.symm
      obtain ⟨⟨d0, d1, d2⟩, _⟩ := HX.out _ hb01
      obtain ⟨⟨e0, e1, e2⟩, _⟩ := HX.out _ hb
      have m0 := (show W1.cell? ⟨wr.heap.size, 0, none⟩ = some (.string ⟨xh.toArray⟩) by rw [hW1]; simp)
      have m1 := (show W1.cell? ⟨wr.heap.size, 1, none⟩ = some (.string ⟨xd.toArray⟩) by rw [hW1]; simp)
      have m2 := (show W1.cell? ⟨wr.heap.size, 2, none⟩ = some (.int .i64 xg) by rw [hW1]; simp)
      have m3 := (show W1.cell? ⟨wr.heap.size, 3, none⟩ = some (.int .i64 xk) by rw [hW1]; simp)
      subst ha
      clear hcel hxe hgl hm hq hcall hown HO hW1
      cases q with
      | false =>
        have HO2 : Hid (numsL p L (k + 1) = gl) := by show _ = _; rw [HSN.out]; simp
        clear HSN
        go_wp2_with (first | rw [HW1.out] | (go_at_fn g; refine HCALL.out.mono ?_; rintro e w7 ⟨rfl, hb7⟩))
        have HO7 : Hid (NumsO w7 W0.heap.size u (numsL p L (k + 1))) := by rw [HO2.out]; exact HOW.out.kept hb7
        have hb07 := hb01.trans (hb7.mono hb01.size)
        go_roundw
        case rel => exact ⟨k + 1, _, by omega, by go_num, rfl, HO7, hb07⟩
        case measure => simp [intOf]; omega
      | true =>
        have HO2 : Hid (numsL p L (k + 1) = gl ++ [(k : Int)]) := by show _ = _; rw [HSN.out]; simp
        clear HSN
        go_wp2_with (first | rw [HW1.out] | (go_at_fn g; refine HCALL.out.mono ?_; rintro e w7 ⟨rfl, hb7⟩; have hown := HOW.out.kept hb7; unfold NumsO at hown; have hb07 := hb01.trans (hb7.mono hb01.size); have hz7 := hb07.size; clear HCALL HOW) | (at_builtin; refine wpList_append_own _ rfl (.tmp 20) (.tmp 22) 43 rfl W0.heap.size 3 i0 (.int .i64 0) 1 8 Tryz.underlying43 hi hz0 hz1 hz2 rfl (by decide) _ _ _ rfl (own_below hown ((Below.refl w7.heap.size w7).alloc (Nat.le_refl _) _)) ⟨w7.heap.size, 0, none⟩ 1 1 [.int .i64 (k : Int)] rfl rfl (cell_new_one w7 (.int .i64 (k : Int)) 3) (one_int _) ?c3 ?c4 ?c5 ?_))
        case c3 => unfold maxLen; omega
        case c4 => omega
        case c5 => simp; omega
        intro v4 w4 hown4 hgrow4 _
        have hb4 := below_appendG hb07 (Nat.le_refl _) hz7 hown hgrow4
        have HO4 : Hid (NumsO w4 W0.heap.size v4 (numsL p L (k + 1))) := by
          show w4.ownsRow _ _ _ _ _ _
          rw [HO2.out, List.length_append, List.map_append]
          exact hown4
        clear hown hown4 hgrow4
        go_wp2_with fail
        go_roundw
        case rel => exact ⟨k + 1, _, by omega, by go_num, rfl, HO4, hb4⟩
        case measure => simp [intOf]; omega
    · obtain rfl : k = L.length := by omega
      have hbw := (HX.out _ hb).2
      clear HX hp
      go_wp2_with fail
      go_ret
      exact ⟨⟨_, rfl, HO.out.mono hzw⟩, hbw⟩
end Go.Proofs.YtoanloballaclaaGreatDoor

namespace Go.Proofs.YtoanloballaclaaGreatDoor
open Go.RowKit

/-- A struct and a bool, told. -/
theorem results_can {P : Program} {fn : Func} {p u : Tmp} {ty : TypeId} (h : fn.results = #[.cell p ty, .tmp u]) (tmps : Array Value) (w : World) (g : Nat) (t : TypeId) (cs : Array Value) (fr : Nat × Nat) (d : TypeDesc) (x : Value)
    (hp : tmps.getD p undef = .pointer (some ⟨g, 0, none⟩)) (hu : tmps.getD u undef = x) (hg : w.heap[g]? = some (.cells cs t fr))
    (hd0 : P.underlying ty = some d) (hd : (match d with | .struct _ | .array _ _ => true | _ => false) = true) (hi : (P.info? ty).map (·.size) = some cs.size) :
    (results fn tmps).run P w = .ok (.tuple #[.agg cs, x]) w := by
  have hp' : tmps[p]?.getD undef = .pointer (some ⟨g, 0, none⟩) := by simpa using hp
  have hu' : tmps[u]?.getD undef = x := by simpa using hu
  rw [results_cell_tmp h]
  simp [hp', hu', asAddr, run_loadVar_row w g t ty cs fr d hg hd0 hd hi, Result.andThen]
theorem nums_head {w : World} {base : Nat} {u : Value} {g : Int} {r : List Int} (h : NumsO w base u (g :: r)) : ∃ b c m, u = .slice (some ⟨b, 0, none⟩) m c ∧ 0 < m ∧ m ≤ c ∧ c ≤ 9223372036854775807 ∧ base ≤ b ∧ b < w.heap.size ∧ w.cell? ⟨b, 0, none⟩ = some (.int .i64 g) := by
  unfold NumsO at h
  have h0 := h
  obtain ⟨_, ⟨rfl, hn⟩ | ⟨b, c, cur, rfl, hg, _, h1, h2, _, _⟩⟩ := h
  · simp at hn
  · have hlt := h0.lt b rfl
    refine ⟨b, c, _, rfl, by simp, h1, by unfold maxLen at h2; omega, hg, hlt.2, ?_⟩
    rw [h0.cellAt 0 (by simp)]; rfl
/-- Whether there are candidates; their group, they themselves. -/
def okO (n : List UInt8) (L : List TgtT) (ri fa : Int) (H : List HosT) : Bool := polB n L && goodH ri fa H
def grpA (n : List UInt8) (L : List TgtT) (ri fa : Int) (H : List HosT) : Int := if okO n L ri fa H = true then grpO (wellB H) L else 0
def canA (n : List UInt8) (L : List TgtT) (ri fa : Int) (H : List HosT) : List Int := if okO n L ri fa H = true then canO (wellB H) L else []
theorem okO_off {n : List UInt8} {L : List TgtT} {ri fa : Int} {H : List HosT} (h : okO n L ri fa H = false) : grpA n L ri fa H = 0 ∧ canA n L ri fa H = [] := by unfold grpA canA; rw [h]; exact ⟨rfl, rfl⟩
theorem okO_on {n : List UInt8} {L : List TgtT} {ri fa : Int} {H : List HosT} (h : okO n L ri fa H = true) : grpA n L ri fa H = grpO (wellB H) L ∧ canA n L ri fa H = canO (wellB H) L := by unfold grpA canA; rw [h]; exact ⟨rfl, rfl⟩
/-- Candidates, told. -/
def CanT (w' : World) (base : Nat) (ok : Bool) (g : Int) (O : List Int) (e : Ending) : Prop := ∃ u, e = .returned (.tuple #[.agg #[.int .i64 g, u], .bool ok]) ∧ NumsO w' base u O
theorem can_off (w' : World) (base : Nat) : CanT w' base false 0 [] (.returned (.tuple #[.agg #[.int .i64 0, .slice none 0 0], .bool false])) := ⟨_, rfl, nums_nil _ _⟩

set_option maxRecDepth 20000 in
set_option maxHeartbeats 8000000 in
theorem candidatesBy_any (n : List UInt8) (v : Value) (L : List TgtT) (ri fa : Int) (hv : Value) (H : List HosT) (w : World) (hr : TgtRow w v L) (hl : L.length ≤ 1048576) (hx : Hid (∀ x ∈ L, x.1.length ≤ 1048576 ∧ x.2.1.length ≤ 1048576)) (hh : HstRow w hv H) (hE : EnvR w) :
    Calls Tryz.prog 40 #[PolV ⟨n.toArray⟩ v, HeaV ri fa hv] w fun e w' => CanT w' w.heap.size (okO n L ri fa H) (grpA n L ri fa H) (canA n L ri fa H) e ∧ Below w.heap.size w w' := by
  have HGP : Hid (∀ W, Below w.heap.size w W → Calls Tryz.prog 55 #[PolV ⟨n.toArray⟩ v] W fun e w' => e = .returned (.bool (polB n L)) ∧ Below W.heap.size W w') := fun W hW => iGoodPolicy_any n v L W (hr.kept hW) hl hx (hE.below hW)
  have HGH : Hid (∀ W, Below w.heap.size w W → Calls Tryz.prog 68 #[HeaV ri fa hv] W fun e w' => e = .returned (.bool (goodH ri fa H)) ∧ Below W.heap.size W w') := fun W hW => iGoodHealth_any ri fa hv H W (hh.kept hW) (hE.below hW).1
  have HWB : Hid (goodH ri fa H = true → ∀ W, Below w.heap.size w W → Calls Tryz.prog 69 #[HeaV ri fa hv] W fun e w' => (∃ lb, e = .returned (.agg #[.func (.func 93) #[] lb]) ∧ PredG 93 lb (wellB H) L w') ∧ Below W.heap.size W w') := fun hg W hW => wellBy_any ri fa hv H L W (hh.kept hW) (hE.below hW).1 hg
  have HWH : Hid (∀ W, Calls Tryz.prog 56 #[] W fun e w' => (e = .returned (.agg #[.func (.func 83) #[] #[]]) ∧ PredG 83 #[] allT L w') ∧ Below W.heap.size W w') := fun W => whoever_any L W
  have HGO : Hid (∀ g lb p W, Below w.heap.size w W → PredG g lb p L W → EntG g → Calls Tryz.prog 57 #[.agg #[.func (.func g) #[] lb], PolV ⟨n.toArray⟩ v] W fun e w' => (∃ u, e = .returned u ∧ NumsO w' W.heap.size u (grpsL p L 10)) ∧ Below W.heap.size W w') := fun g lb p W hW hp eg => groupsOf_any g lb p ⟨n.toArray⟩ v L W (hr.kept hW) hp eg
  have HIG : Hid (∀ g lb p (k : Int) W, PredG g lb p L W → EntG g → Calls Tryz.prog 70 #[.agg #[.func (.func g) #[] lb], .int .i64 k] W fun e w' => (∃ lb', e = .returned (.agg #[.func (.func 95) #[] lb']) ∧ PredG 95 lb' (inG p k) L w') ∧ Below W.heap.size W w') := fun g lb p k W hp eg => inGroup_any g lb p L k W hp eg
  have HNO : Hid (∀ lb q W, Below w.heap.size w W → PredG 95 lb q L W → Calls Tryz.prog 71 #[.agg #[.func (.func 95) #[] lb], PolV ⟨n.toArray⟩ v] W fun e w' => (∃ u, e = .returned u ∧ NumsO w' W.heap.size u (numsL q L L.length)) ∧ Below W.heap.size W w') := fun lb q W hW hp => numbersOf_any _ lb q ⟨n.toArray⟩ v L W (hr.kept hW) hl hp (fun _ _ => by kernel_rfl)
  have HPS : Hid (polB n L = true → 0 < (grpsL allT L 10).length) := fun h => grps_some h
  have HOK : Hid (okO n L ri fa H = (polB n L && goodH ri fa H)) := rfl
  unfold PolV at HGP HGO HNO ⊢
  unfold HeaV at HGH HWB ⊢
  obtain ⟨a, cap, rfl, hcap, hmax, _⟩ := tgt_value hr
  obtain ⟨a2, cap2, rfl, hcap2, hmax2, _⟩ := hst_value hh
  obtain ⟨W0, hW0⟩ : ∃ W0, W0 = ((w.alloc (.cells #[.string ⟨n.toArray⟩, .slice a L.length cap] 34)).alloc (.cells #[.int .i64 ri, .int .i64 fa, .slice a2 H.length cap2] 38)).alloc (.cells #[.int .i64 0, .slice none 0 0] 69) := ⟨_, rfl⟩
  have HX : Hid (∀ W, Below W0.heap.size W0 W → (W.heap[w.heap.size]? = some (.cells #[.string ⟨n.toArray⟩, .slice a L.length cap] 34) ∧ W.heap[w.heap.size + 1]? = some (.cells #[.int .i64 ri, .int .i64 fa, .slice a2 H.length cap2] 38) ∧ W.heap[w.heap.size + 1 + 1]? = some (.cells #[.int .i64 0, .slice none 0 0] 69)) ∧ Below w.heap.size w W) := fun W hW => by
    rw [hW0] at hW
    obtain ⟨h1, h2, h3, _, h4⟩ := tgt_below3 hW
    exact ⟨⟨h1, h2, h3⟩, h4⟩
  have hb00 : Below W0.heap.size W0 W0 := Below.refl _ _
  have hz0 : w.heap.size + 1 + 1 < W0.heap.size := by rw [hW0]; simp
  have HW0 : Hid (((w.alloc (.cells #[.string ⟨n.toArray⟩, .slice a L.length cap] 34)).alloc (.cells #[.int .i64 ri, .int .i64 fa, .slice a2 H.length cap2] 38)).alloc (.cells #[.int .i64 0, .slice none 0 0] 69) = W0) := hW0.symm
  obtain ⟨ok, hok⟩ : ∃ ok, ok = okO n L ri fa H := ⟨_, rfl⟩
  have HOF := @okO_off n L ri fa H
  have HON := @okO_on n L ri fa H
  rw [← hok] at HOK HOF HON ⊢
  clear hW0 hr hh hE hx hok
  have HZ : Hid (∀ W, Below W0.heap.size W0 W → (put2p W (w.heap.size + 1 + 1) (.int .i64 0) (.slice none 0 0)).heap[w.heap.size + 1 + 1]? = some (.cells #[.int .i64 0, .slice none 0 0] 69) ∧ Below w.heap.size w (put2p W (w.heap.size + 1 + 1) (.int .i64 0) (.slice none 0 0))) := fun W hW => ⟨put2p_heap (HX.out W hW).1.2.2, put2p_below (HX.out W hW).2 (by omega) _ _⟩
  unfold put2p at HZ
  cases hP : polB n L with
  | false =>
    have hk : ok = false := by rw [HOK.out, hP]; rfl
    have HA : Hid (grpA n L ri fa H = 0 ∧ canA n L ri fa H = []) := HOF hk
    rw [HA.out.1, HA.out.2, hk]
    rw [hP] at HGP
    clear hk hP HOF HON HOK HPS HGO HIG HNO HWB HWH HGH
    go_enter Tryz.func40, Tryz.ntmps40
    go_wp2_with (rw [HW0.out]; obtain ⟨⟨b1, b2, b3⟩, hbw⟩ := HX.out _ hb00; obtain ⟨⟨p0, p1⟩, _⟩ := pol_cells b1)
    refine (HGP.out _ hbw).mono ?_
    rintro e w1 ⟨rfl, hb1⟩
    clear b1 b2 b3 p0 p1 hbw
    have hb01 := hb00.trans (hb1.mono hb00.size)
    obtain ⟨⟨b1, b2, b3⟩, hbw⟩ := HX.out _ hb01
    obtain ⟨⟨q0, q1⟩, ⟨f0, f1⟩⟩ := pol_cells b3
    have hz := HZ.out _ hb01
    have HZZ : Hid (_ ∧ _) := hz
    clear hz b1 b2
    go_wp2_with fail
    (try simp only [Exit.inBlock, Exit.then])
    refine bodyPost_ret (results_can rfl _ _ (w.heap.size + 1 + 1) 69 #[.int .i64 0, .slice none 0 0] (0, 0) _ (.bool false) rfl rfl HZZ.out.1 Tryz.underlying69 rfl (by kernel_rfl)) rfl ⟨can_off _ _, HZZ.out.2⟩
  | true =>
    rw [hP] at HGP
    cases hG : goodH ri fa H with
    | false =>
      have hk : ok = false := by rw [HOK.out, hP, hG]; rfl
      have HA : Hid (grpA n L ri fa H = 0 ∧ canA n L ri fa H = []) := HOF hk
      rw [HA.out.1, HA.out.2, hk]
      rw [hG] at HGH
      clear hk hP hG HOF HON HOK HPS HGO HIG HNO HWB HWH
      go_enter Tryz.func40, Tryz.ntmps40
      go_wp2_with (rw [HW0.out]; obtain ⟨⟨b1, b2, b3⟩, hbw⟩ := HX.out _ hb00; obtain ⟨⟨p0, p1⟩, _⟩ := pol_cells b1)
      refine (HGP.out _ hbw).mono ?_
      rintro e w1 ⟨rfl, hb1⟩
      clear b1 b2 b3 p0 p1 hbw
      have hb01 := hb00.trans (hb1.mono hb00.size)
      obtain ⟨⟨b1, b2, b3⟩, hbw⟩ := HX.out _ hb01
      obtain ⟨⟨h0, h1, h2⟩, _⟩ := hst_cells b2
      go_wp2_with fail
      refine (HGH.out _ hbw).mono ?_
      rintro e w2 ⟨rfl, hb2⟩
      clear b1 b2 b3 h0 h1 h2 hbw
      have hb02 := hb01.trans (hb2.mono hb01.size)
      obtain ⟨⟨b1, b2, b3⟩, hbw⟩ := HX.out _ hb02
      obtain ⟨⟨q0, q1⟩, ⟨f0, f1⟩⟩ := pol_cells b3
      have hz := HZ.out _ hb02
      have HZZ : Hid (_ ∧ _) := hz
      clear hz b1 b2
      go_wp2_with fail
      (try simp only [Exit.inBlock, Exit.then])
      refine bodyPost_ret (results_can rfl _ _ (w.heap.size + 1 + 1) 69 #[.int .i64 0, .slice none 0 0] (0, 0) _ (.bool false) rfl rfl HZZ.out.1 Tryz.underlying69 rfl (by kernel_rfl)) rfl ⟨can_off _ _, HZZ.out.2⟩
    | true =>
      have hk : ok = true := by rw [HOK.out, hP, hG]; rfl
      have HA : Hid (grpA n L ri fa H = grpO (wellB H) L ∧ canA n L ri fa H = canO (wellB H) L) := HON hk
      obtain ⟨gA, hgA⟩ : ∃ gA, gA = grpA n L ri fa H := ⟨_, rfl⟩
      obtain ⟨cA, hcA⟩ : ∃ cA, cA = canA n L ri fa H := ⟨_, rfl⟩
      rw [← hgA, ← hcA] at HA ⊢
      rw [hk]
      clear hgA hcA
      rw [hG] at HGH
      have HWB2 := HWB.out hG
      have HWB3 : Hid (∀ W, Below w.heap.size w W → Calls Tryz.prog 69 #[.agg #[.int .i64 ri, .int .i64 fa, .slice a2 H.length cap2]] W fun e w' => (∃ lb, e = .returned (.agg #[.func (.func 93) #[] lb]) ∧ PredG 93 lb (wellB H) L w') ∧ Below W.heap.size W w') := HWB2
      have HPP : Hid (0 < (grpsL allT L 10).length) := HPS.out hP
      clear hk hP hG HOF HON HOK HPS HWB HWB2 HZ
      go_enter Tryz.func40, Tryz.ntmps40
      go_wp2_with (rw [HW0.out]; obtain ⟨⟨b1, b2, b3⟩, hbw⟩ := HX.out _ hb00; obtain ⟨⟨p0, p1⟩, _⟩ := pol_cells b1)
      refine (HGP.out _ hbw).mono ?_
      rintro e w1 ⟨rfl, hb1⟩
      clear b1 b2 b3 p0 p1 hbw
      have hb01 := hb00.trans (hb1.mono hb00.size)
      obtain ⟨⟨b1, b2, b3⟩, hbw⟩ := HX.out _ hb01
      obtain ⟨⟨h0, h1, h2⟩, _⟩ := hst_cells b2
      go_wp2_with fail
      refine (HGH.out _ hbw).mono ?_
      rintro e w2 ⟨rfl, hb2⟩
      clear b1 b2 b3 h0 h1 h2 hbw
      have hb02 := hb01.trans (hb2.mono hb01.size)
      obtain ⟨⟨b1, b2, b3⟩, hbw⟩ := HX.out _ hb02
      obtain ⟨⟨h0, h1, h2⟩, _⟩ := hst_cells b2
      clear hb1 hb01 hb2 b1 b2 b3
      go_wp2_with fail
      refine (HWB3.out _ hbw).mono ?_
      rintro e w3 ⟨⟨lb, rfl, hp3⟩, hb3⟩
      have hb03 := hb02.trans (hb3.mono hb02.size)
      have HP3 : Hid (PredG 93 lb (wellB H) L w3) := hp3
      clear h0 h1 h2 hbw hb3 hb02 hp3
      go_wp2_with fail
      refine (HWH.out _).mono ?_
      rintro e w4 ⟨⟨rfl, hp4⟩, hb4⟩
      have hb04 := hb03.trans (hb4.mono hb03.size)
      have HP4 : Hid (PredG 93 lb (wellB H) L w4 ∧ PredG 83 #[] allT L w4) := ⟨HP3.out.kept hb4, hp4⟩
      clear hb03 HP3 hp4 hb4 HWH HWB3 HGP HGH
      obtain ⟨W5, hW5⟩ : ∃ W5, W5 = w4.alloc (.cells #[.func (.func 93) #[] lb, .func (.func 83) #[] #[]] 90) := ⟨_, rfl⟩
      obtain ⟨g5, hg5⟩ : ∃ g5, g5 = w4.heap.size := ⟨_, rfl⟩
      have hb45 : Below w4.heap.size w4 W5 := by rw [hW5]; exact (Below.refl _ _).alloc (Nat.le_refl _) _
      have hb05 := hb04.trans (hb45.mono hb04.size)
      have HR5 : Hid (W5.heap[g5]? = some (.cells #[.func (.func 93) #[] lb, .func (.func 83) #[] #[]] 90)) := by rw [hW5, hg5]; exact tgt_new _ _
      have HP5 : Hid (PredG 93 lb (wellB H) L W5 ∧ PredG 83 #[] allT L W5) := ⟨HP4.out.1.kept hb45, HP4.out.2.kept hb45⟩
      have HW5 : Hid (w4.alloc (.cells #[.func (.func 93) #[] lb, .func (.func 83) #[] #[]] 90) = W5) := hW5.symm
      have HG5 : Hid (w4.heap.size = g5) := hg5.symm
      clear hW5 hg5 hb45 hb04 HP4
      go_wp2_with (rw [HW5.out])
      rw [HG5.out]
      clear HG5 HW5
      go_loopw [23] (fun i wr => ∃ k : Nat, k ≤ 1 ∧ i = .int .i64 (k : Int) ∧ Hid (k = 1 → grpsL (wellB H) L 10 = []) ∧ Below W5.heap.size W5 wr) (fun i _ => 2 - (intOf i).toNat)
      case atStart => exact ⟨0, Nat.zero_le _, rfl, fun h => (by cases h), Below.refl _ _⟩
      case round =>
        obtain ⟨k, hk, rfl, HN, hb⟩ := hrel
        have hb0 := hb05.trans (hb.mono hb05.size)
        have hbl5 := (Array.getElem?_eq_some_iff.1 HR5.out).1
        have hrk := (hb.block g5 hbl5).trans HR5.out
        have HRULE : Hid (∃ (gF : Nat) (lbF : Array Value) (p : TgtT → Bool), wr.cell? ⟨g5, k, none⟩ = some (.func (.func gF) #[] lbF) ∧ PredG gF lbF p L wr ∧ EntG gF ∧ (grpsL p L 10 = [] → k = 0 ∧ grpsL (wellB H) L 10 = []) ∧ (∀ g r, grpsL p L 10 = g :: r → grpO (wellB H) L = g ∧ canO (wellB H) L = numsL (inG p g) L L.length)) := by
          rcases (show k = 0 ∨ k = 1 by omega) with rfl | rfl
          · refine ⟨_, _, wellB H, (by unfold World.cell?; rw [hrk]; rfl), HP5.out.1.kept hb, (fun _ _ => by kernel_rfl), fun h => ⟨rfl, h⟩, fun g r h => ?_⟩
            unfold grpO canO; rw [h]; exact ⟨rfl, rfl⟩
          · refine ⟨_, _, allT, (by unfold World.cell?; rw [hrk]; rfl), HP5.out.2.kept hb, (fun _ _ => by kernel_rfl), fun h => ?_, fun g r h => ?_⟩
            · have := HPP.out; rw [h] at this; simp at this
            · unfold grpO canO; rw [HN.out rfl]; simp only; rw [h]; exact ⟨rfl, rfl⟩
        obtain ⟨gF, lbF, p, hcF, hpF, hegF, hnilF, hsomeF⟩ := HRULE.out
        have HNIL : Hid (grpsL p L 10 = [] → k = 0 ∧ grpsL (wellB H) L 10 = []) := hnilF
        have HSOME : Hid (∀ g r, grpsL p L 10 = g :: r → grpO (wellB H) L = g ∧ canO (wellB H) L = numsL (inG p g) L L.length) := hsomeF
        have HPF : Hid (PredG gF lbF p L wr) := hpF
        have HEG : Hid (EntG gF) := hegF
        obtain ⟨W6, hW6⟩ : ∃ W6, W6 = wr.alloc (.cells #[.func (.func gF) #[] lbF] 90) := ⟨_, rfl⟩
        have hb6r : Below wr.heap.size wr W6 := by rw [hW6]; exact (Below.refl _ _).alloc (Nat.le_refl _) _
        have hb06 := hb0.trans (hb6r.mono hb0.size)
        have HR6 : Hid (W6.heap[wr.heap.size]? = some (.cells #[.func (.func gF) #[] lbF] 90)) := by rw [hW6]; exact tgt_new _ _
        have HW6 : Hid (wr.alloc (.cells #[.func (.func gF) #[] lbF] 90) = W6) := hW6.symm
        obtain ⟨g6, hg6⟩ : ∃ g6, g6 = wr.heap.size := ⟨_, rfl⟩
        rw [← hg6] at HR6
        have HG6 : Hid (wr.heap.size = g6) := hg6.symm
        have HP6 : Hid (PredG gF lbF p L W6) := HPF.out.kept hb6r
        obtain ⟨⟨b1, _, _⟩, hbw6⟩ := HX.out _ hb06
        obtain ⟨⟨p0, p1⟩, _⟩ := pol_cells b1
        have c60 : W6.cell? ⟨g6, 0, none⟩ = some (.func (.func gF) #[] lbF) := by unfold World.cell?; rw [HR6.out]; rfl
        have hg6l : g6 < W6.heap.size := (Array.getElem?_eq_some_iff.1 HR6.out).1
        have hcF0 : wr.cell? ⟨g5, 0 + k, none⟩ = some (.func (.func gF) #[] lbF) := by rw [Nat.zero_add]; exact hcF
        have hk2 : (k : Int) < 2 := by omega
        have hk2n : k < 2 := by omega
        clear hnilF hsomeF hpF hegF hrk HRULE HN b1 hW6 hg6 HPF
        go_wp2_with (rw [HW6.out]; (try rw [HG6.out]))
        refine (HGO.out gF lbF p _ hbw6 HP6.out HEG.out).mono ?_
        rintro e w7 ⟨⟨u, rfl, hu⟩, hb7⟩
        have hb07 := hb06.trans (hb7.mono hb06.size)
        clear p0 p1 hbw6 hcF hcF0
        obtain ⟨G, hG⟩ : ∃ G, G = grpsL p L 10 := ⟨_, rfl⟩
        rw [← hG] at hu HNIL HSOME
        have HP7 : Hid (PredG gF lbF p L w7) := HP6.out.kept hb7
        have hR7 := (hb7.block g6 hg6l).trans HR6.out
        have hg6w : g6 < w7.heap.size := Nat.lt_of_lt_of_le hg6l hb7.size
        clear hG
        cases G with
        | nil =>
          obtain ⟨rfl, hn⟩ := HNIL.out rfl
          have HN1 : Hid (grpsL (wellB H) L 10 = []) := hn
          obtain ⟨ua, uc, hue, _, _⟩ := own_slice hu
          rw [List.length_nil] at hue
          subst hue
          clear hn
          have hb57 : Below W5.heap.size W5 w7 := hb.trans ((hb6r.trans (hb7.mono hb6r.size)).mono hb.size)
          go_wp2_with fail
          go_roundw
          case rel => exact ⟨1, Nat.le_refl _, rfl, (fun _ => HN1.out), hb57⟩
          case measure => simp [intOf]
        | cons g r =>
          have HGC : Hid (grpO (wellB H) L = g ∧ canO (wellB H) L = numsL (inG p g) L L.length) := HSOME.out g r rfl
          obtain ⟨ub, uc, um, rfl, hum, hum2, hum3, hub, hubl, hucell⟩ := nums_head hu
          have HGA : Hid (gA = g ∧ cA = numsL (inG p g) L L.length) := ⟨HA.out.1.trans HGC.out.1, HA.out.2.trans HGC.out.2⟩
          have HC : Hid (∀ W, Below w7.heap.size w7 W → (W.cell? ⟨ub, 0, none⟩ = some (.int .i64 g) ∧ W.cell? ⟨g6, 0, none⟩ = some (.func (.func gF) #[] lbF) ∧ W.cell? ⟨w.heap.size, 0, none⟩ = some (.string ⟨n.toArray⟩) ∧ W.cell? ⟨w.heap.size, 1, none⟩ = some (.slice a L.length cap)) ∧ Below w7.heap.size w7 W) := fun W hW => by
            have hx := HX.out W (hb07.trans (hW.mono hb07.size))
            have hp := (pol_cells hx.1.1).1
            exact ⟨⟨(hW.cell (p := ⟨ub, 0, none⟩) hubl).trans hucell, (by unfold World.cell?; rw [(hW.block g6 hg6w).trans hR7]; rfl), hp.1, hp.2⟩, hW⟩
          have HIG2 : Hid (∀ W, Below w7.heap.size w7 W → Calls Tryz.prog 70 #[.agg #[.func (.func gF) #[] lbF], .int .i64 g] W fun e w' => (∃ lb', e = .returned (.agg #[.func (.func 95) #[] lb']) ∧ PredG 95 lb' (inG p g) L w') ∧ Below W.heap.size W w') := fun W hW => HIG.out gF lbF p g W (HP7.out.kept hW) HEG.out
          have HNO2 : Hid (∀ lb W, Below w7.heap.size w7 W → PredG 95 lb (inG p g) L W → Calls Tryz.prog 71 #[.agg #[.func (.func 95) #[] lb], .agg #[.string ⟨n.toArray⟩, .slice a L.length cap]] W fun e w' => (∃ u, e = .returned u ∧ NumsO w' W.heap.size u (numsL (inG p g) L L.length)) ∧ Below W.heap.size W w') := fun lb W hW hp => HNO.out lb (inG p g) W (HX.out W (hb07.trans (hW.mono hb07.size))).2 hp
          have HTR : Hid (∀ W W', Below w7.heap.size w7 W → Below W.heap.size W W' → Below w7.heap.size w7 W') := fun W W' h1 h2 => h1.trans (h2.mono h1.size)
          have hbd : Below w7.heap.size w7 w7.drew := (Below.refl _ _).drew
          have hbz : Below w7.heap.size w7 w7 := Below.refl _ _
          obtain ⟨⟨_, _, b3⟩, _⟩ := HX.out _ hb07
          obtain ⟨nl, hnl⟩ : ∃ nl, nl = numsL (inG p g) L L.length := ⟨_, rfl⟩
          rw [← hnl] at HNO2 HGA
          have hz7 := hb07.size
          have HFIN : Hid (∀ W u, Below w7.heap.size w7 W → NumsO W w7.heap.size u nl → CanT (put2p W (w.heap.size + 1 + 1) (.int .i64 g) u) w.heap.size true gA cA (.returned (.tuple #[.agg #[.int .i64 g, u], .bool true])) ∧ Below w.heap.size w (put2p W (w.heap.size + 1 + 1) (.int .i64 g) u) ∧ (put2p W (w.heap.size + 1 + 1) (.int .i64 g) u).heap[w.heap.size + 1 + 1]? = some (.cells #[.int .i64 g, u] 69)) := fun W u hW hu => by
            have hx := HX.out W (hb07.trans (hW.mono hb07.size))
            have hk : Kpt W (put2p W (w.heap.size + 1 + 1) (.int .i64 g) u) (fun j => j = w.heap.size + 1 + 1) := by unfold put2p; exact (kpt_set (S := fun j => j = w.heap.size + 1 + 1) _ _ _ _ rfl).trans (kpt_set (S := fun j => j = w.heap.size + 1 + 1) _ _ _ _ rfl)
            rw [HGA.out.1, HGA.out.2]
            refine ⟨⟨u, rfl, ?_⟩, put2p_below hx.2 (by omega) _ _, put2p_heap hx.1.2.2⟩
            have h1 : NumsO (put2p W (w.heap.size + 1 + 1) (.int .i64 g) u) w7.heap.size u nl := own_kpt hu hk (fun j hj => by have := (World.ownsRow.lt hu j hj).1; omega)
            exact h1.mono (by omega)
          obtain ⟨z0, z1, HZ0⟩ : ∃ z0 z1, w7.heap[w.heap.size + 1 + 1]? = some (.cells #[z0, z1] 69) := ⟨_, _, (HX.out _ hb07).1.2.2⟩
          have HP2 : Hid (w7.heap[w.heap.size + 1 + 1]? = some (.cells #[z0, z1] 69)) := HZ0
          have hp2l : w.heap.size + 1 + 1 < w7.heap.size := (Array.getElem?_eq_some_iff.1 HZ0).1
          have HFR : Hid (w.heap.size ≠ w.heap.size + 1 + 1) := (show w.heap.size ≠ w.heap.size + 1 + 1 by omega)
          have hz06 := hb06.size
          have hzr0 := hb0.size
          have hgr6 := HG6.out
          have HFU : Hid (ub ≠ w.heap.size + 1 + 1) := (show ub ≠ w.heap.size + 1 + 1 by omega)
          have HF6 : Hid (g6 ≠ w.heap.size + 1 + 1) := (show g6 ≠ w.heap.size + 1 + 1 by omega)
          clear hz06 hzr0 hgr6
          have hS0 : ((w7.drew.cell? ⟨ub, 0, none⟩ = some (.int .i64 g) ∧ w7.drew.cell? ⟨g6, 0, none⟩ = some (.func (.func gF) #[] lbF) ∧ w7.drew.cell? ⟨w.heap.size, 0, none⟩ = some (.string ⟨n.toArray⟩) ∧ w7.drew.cell? ⟨w.heap.size, 1, none⟩ = some (.slice a L.length cap)) ∧ ∃ z0 z1, w7.drew.heap[w.heap.size + 1 + 1]? = some (.cells #[z0, z1] 69)) := ⟨(HC.out _ hbd).1, z0, z1, (hbd.block _ hp2l).trans HP2.out⟩
          clear HZ0 hnl HGC HSOME HNIL hu hucell HR6 hR7 HPP HX HGO HIG HNO b3 HGA HA
          go_wp2_with fail
          refine wp_region_held_drew (S := fun W => (W.cell? ⟨ub, 0, none⟩ = some (.int .i64 g) ∧ W.cell? ⟨g6, 0, none⟩ = some (.func (.func gF) #[] lbF) ∧ W.cell? ⟨w.heap.size, 0, none⟩ = some (.string ⟨n.toArray⟩) ∧ W.cell? ⟨w.heap.size, 1, none⟩ = some (.slice a L.length cap)) ∧ ∃ z0 z1, W.heap[w.heap.size + 1 + 1]? = some (.cells #[z0, z1] 69)) (by kernel_rfl) hS0 (fun hHeld => ?_)
          refine wpAnyH_take (i := 0) (v := .slice (some ⟨ub, 0, none⟩) um uc) rfl (by kernel_rfl) (by kernel_rfl) (by kernel_rfl) (fun _ _ _ h => h) (Or.inl ⟨by rfl, ?_⟩) (by assumption) ?_
          · intro W hSW
            obtain ⟨⟨s0, s1, s2, s3⟩, _⟩ := hSW
            go_simp
          simp only [Act.put, List.getElem_toArray, List.getElem_cons_zero, List.setIfInBounds_toArray, List.set_cons_succ, List.set_cons_zero]
          refine wpAnyH_take (i := 1) (v := .pointer (some ⟨ub, 0, none⟩)) rfl (by kernel_rfl) (by kernel_rfl) (by kernel_rfl) (fun _ _ _ h => h) (Or.inl ⟨by rfl, ?_⟩) (by assumption) ?_
          · intro W hSW
            obtain ⟨⟨s0, s1, s2, s3⟩, _⟩ := hSW
            go_simp
          simp only [Act.put, List.getElem_toArray, List.getElem_cons_succ, List.getElem_cons_zero, List.setIfInBounds_toArray, List.set_cons_succ, List.set_cons_zero]
          refine wpAnyH_take (i := 2) (v := .int .i64 g) rfl (by kernel_rfl) (by kernel_rfl) (by kernel_rfl) (fun _ _ _ h => h) (Or.inl ⟨by rfl, ?_⟩) (by assumption) ?_
          · intro W hSW
            obtain ⟨⟨s0, s1, s2, s3⟩, _⟩ := hSW
            go_simp
          simp only [Act.put, List.getElem_toArray, List.getElem_cons_succ, List.getElem_cons_zero, List.setIfInBounds_toArray, List.set_cons_succ, List.set_cons_zero]
          refine wpAnyH_take (i := 3) (v := .agg #[.func (.func gF) #[] lbF]) rfl (by kernel_rfl) (by kernel_rfl) (by kernel_rfl) (fun _ _ _ h => h) (Or.inl ⟨by rfl, ?_⟩) (by assumption) ?_
          · intro W hSW
            obtain ⟨⟨s0, s1, s2, s3⟩, _⟩ := hSW
            go_simp
          simp only [Act.put, List.getElem_toArray, List.getElem_cons_succ, List.getElem_cons_zero, List.setIfInBounds_toArray, List.set_cons_succ, List.set_cons_zero]
          refine wpAnyH_take (i := 4) (v := .slice (some ⟨ub, 0, none⟩) um uc) rfl (by kernel_rfl) (by kernel_rfl) (by kernel_rfl) (fun _ _ _ h => h) (Or.inl ⟨by rfl, ?_⟩) (by assumption) ?_
          · intro W hSW
            obtain ⟨⟨s0, s1, s2, s3⟩, _⟩ := hSW
            go_simp
          simp only [Act.put, List.getElem_toArray, List.getElem_cons_succ, List.getElem_cons_zero, List.setIfInBounds_toArray, List.set_cons_succ, List.set_cons_zero]
          refine wpAnyH_take (i := 5) (v := .pointer (some ⟨ub, 0, none⟩)) rfl (by kernel_rfl) (by kernel_rfl) (by kernel_rfl) (fun _ _ _ h => h) (Or.inl ⟨by rfl, ?_⟩) (by assumption) ?_
          · intro W hSW
            obtain ⟨⟨s0, s1, s2, s3⟩, _⟩ := hSW
            go_simp
          simp only [Act.put, List.getElem_toArray, List.getElem_cons_succ, List.getElem_cons_zero, List.setIfInBounds_toArray, List.set_cons_succ, List.set_cons_zero]
          refine wpAnyH_take (i := 6) (v := .int .i64 g) rfl (by kernel_rfl) (by kernel_rfl) (by kernel_rfl) (fun _ _ _ h => h) (Or.inl ⟨by rfl, ?_⟩) (by assumption) ?_
          · intro W hSW
            obtain ⟨⟨s0, s1, s2, s3⟩, _⟩ := hSW
            go_simp
          simp only [Act.put, List.getElem_toArray, List.getElem_cons_succ, List.getElem_cons_zero, List.setIfInBounds_toArray, List.set_cons_succ, List.set_cons_zero]
          refine wpAnyH_take (i := 8) (v := .agg #[.string ⟨n.toArray⟩, .slice a L.length cap]) rfl (by kernel_rfl) (by kernel_rfl) (by kernel_rfl) (fun _ _ _ h => h) (Or.inl ⟨by rfl, ?_⟩) (by assumption) ?_
          · intro W hSW
            obtain ⟨⟨s0, s1, s2, s3⟩, _⟩ := hSW
            go_simp
          simp only [Act.put, List.getElem_toArray, List.getElem_cons_succ, List.getElem_cons_zero, List.setIfInBounds_toArray, List.set_cons_succ, List.set_cons_zero]
          refine wpAnyH_ready (rs := [7]) (by kernel_rfl) (by simp) ?_
          refine AllReadyH.cons rfl (fun K hK => ?_) AllReadyH.nil
          rw [if_pos (by rfl)]
          go_simp
          refine (HIG2.out _ hbd).mono ?_
          rintro e w8 ⟨⟨lb', rfl, hp8⟩, hb8⟩
          go_simp
          have hb78 := HTR.out _ _ hbd hb8
          have HP8 : Hid (PredG 95 lb' (inG p g) L w8) := hp8
          refine hK.out _ _ ⟨(HC.out _ hb78).1, z0, z1, (hb78.block _ hp2l).trans HP2.out⟩ (fun hS => ?_)
          clear hK hp8 hb8
          refine wpAnyH_ready (rs := [9]) (by kernel_rfl) (by simp) ?_
          refine AllReadyH.cons rfl (fun K hK => ?_) AllReadyH.nil
          rw [if_pos (by rfl)]
          go_simp
          refine (HNO2.out lb' _ hb78 HP8.out).mono ?_
          rintro e w9 ⟨⟨u9, rfl, hu9⟩, hb9⟩
          go_simp
          have hb79 := HTR.out _ _ hb78 hb9
          have hu97 := hu9.mono hb78.size
          obtain ⟨ua, uc9, hue, huc1, huc2⟩ := own_slice hu9
          have HUE : Hid (u9 = .slice ua nl.length uc9) := hue
          subst hue
          have hfin := HFIN.out _ _ hb79 hu97
          have HFF : Hid (_ ∧ _ ∧ _) := hfin
          have HP9 : Hid (w9.heap[w.heap.size + 1 + 1]? = some (.cells #[z0, z1] 69)) := (hb79.block _ hp2l).trans HP2.out
          refine hK.out _ _ ⟨(HC.out _ hb79).1, z0, z1, HP9.out⟩ (fun hS => ?_)
          clear hK hfin hb9 hu9 hu97 HUE
          refine wpAnyH_take (i := 10) (v := .agg #[.int .i64 g, .slice ua nl.length uc9]) rfl (by kernel_rfl) (by kernel_rfl) (by kernel_rfl) (fun _ _ _ h => h) (Or.inl ⟨by rfl, ?_⟩) (by assumption) ?_
          · intro W hSW
            obtain ⟨⟨s0, s1, s2, s3⟩, _⟩ := hSW
            go_simp
          simp only [Act.put, List.getElem_toArray, List.getElem_cons_succ, List.getElem_cons_zero, List.setIfInBounds_toArray, List.set_cons_succ, List.set_cons_zero]
          refine wpAnyH_ready (rs := [11]) (by kernel_rfl) (by simp) ?_
          refine AllReadyH.cons rfl (fun K hK => ?_) AllReadyH.nil
          rw [if_pos (by rfl)]
          obtain ⟨⟨q0, q1⟩, ⟨f0, f1⟩⟩ := pol_cells HP9.out
          go_simp
          refine hK.out _ _ ⟨?_, _, _, HFF.out.2.2⟩ (fun hS3 => ?_)
          · obtain ⟨⟨s0, s1, s2, s3⟩, _⟩ := HC.out _ hb79
            have nn : ∀ b' c k, b' ≠ w.heap.size + 1 + 1 → (⟨w.heap.size + 1 + 1, k, none⟩ : Addr) ≠ ⟨b', c, none⟩ := fun b' c k h e => h (by injection e with e1; exact e1.symm)
            refine ⟨?_, ?_, ?_, ?_⟩
            · rw [World.cell?_setCell_other _ _ _ _ (nn ub 0 _ HFU.out), World.cell?_setCell_other _ _ _ _ (nn ub 0 _ HFU.out)]; exact s0
            · rw [World.cell?_setCell_other _ _ _ _ (nn g6 0 _ HF6.out), World.cell?_setCell_other _ _ _ _ (nn g6 0 _ HF6.out)]; exact s1
            · rw [World.cell?_setCell_other _ _ _ _ (nn w.heap.size 0 _ HFR.out), World.cell?_setCell_other _ _ _ _ (nn w.heap.size 0 _ HFR.out)]; exact s2
            · rw [World.cell?_setCell_other _ _ _ _ (nn w.heap.size 1 _ HFR.out), World.cell?_setCell_other _ _ _ _ (nn w.heap.size 1 _ HFR.out)]; exact s3
          clear hK
          refine wpAnyH_take (i := 12) (v := .bool true) rfl (by kernel_rfl) (by kernel_rfl) (by kernel_rfl) (fun _ _ _ h => h) (Or.inl ⟨by rfl, ?_⟩) (by assumption) ?_
          · intro W hSW
            obtain ⟨⟨s0, s1, s2, s3⟩, _⟩ := hSW
            go_simp
          simp only [Act.put, List.getElem_toArray, List.getElem_cons_succ, List.getElem_cons_zero, List.setIfInBounds_toArray, List.set_cons_succ, List.set_cons_zero]
          refine wpAnyH_done (by kernel_rfl) ?_ _
          go_wp2_with fail
          (try simp only [Exit.inBlock, Exit.then])
          refine bodyPost_ret (results_can rfl _ _ (w.heap.size + 1 + 1) 69 #[.int .i64 g, .slice ua nl.length uc9] (0, 0) _ (.bool true) rfl rfl HFF.out.2.2 Tryz.underlying69 rfl (by kernel_rfl)) rfl ⟨HFF.out.1, HFF.out.2.1⟩
end Go.Proofs.YtoanloballaclaaGreatDoor

namespace Go.Proofs.YtoanloballaclaaGreatDoor
open Go.RowKit

/-- Numbers and a bool, told. -/
def GrpT (w' : World) (base : Nat) (ok : Bool) (O : List Int) (e : Ending) : Prop := ∃ u, e = .returned (.tuple #[u, .bool ok]) ∧ NumsO w' base u O
theorem grp_off (w' : World) (base : Nat) : GrpT w' base false [] (.returned (.tuple #[.slice none 0 0, .bool false])) := ⟨_, rfl, nums_nil _ _⟩
def grsO (n : List UInt8) (L : List TgtT) : List Int := if polB n L = true then grpsL allT L 10 else []

set_option maxRecDepth 20000 in
set_option maxHeartbeats 2000000 in
theorem iGroupOf_any (n : List UInt8) (v : Value) (L : List TgtT) (ri fa : Int) (hv : Value) (H : List HosT) (w : World) (hr : TgtRow w v L) (hl : L.length ≤ 1048576) (hx : Hid (∀ x ∈ L, x.1.length ≤ 1048576 ∧ x.2.1.length ≤ 1048576)) (hh : HstRow w hv H) (hE : EnvR w) :
    Calls Tryz.prog 14 #[PolV ⟨n.toArray⟩ v, HeaV ri fa hv] w fun e w' => e = .returned (.tuple #[.int .i64 (grpA n L ri fa H), .bool (okO n L ri fa H)]) ∧ Below w.heap.size w w' := by
  have HCB : Hid (∀ W, Below w.heap.size w W → Calls Tryz.prog 40 #[PolV ⟨n.toArray⟩ v, HeaV ri fa hv] W fun e w' => CanT w' W.heap.size (okO n L ri fa H) (grpA n L ri fa H) (canA n L ri fa H) e ∧ Below W.heap.size W w') := fun W hW => candidatesBy_any n v L ri fa hv H W (hr.kept hW) hl hx (hh.kept hW) (hE.below hW)
  obtain ⟨ok, hok⟩ : ∃ ok, ok = okO n L ri fa H := ⟨_, rfl⟩
  obtain ⟨gA, hgA⟩ : ∃ gA, gA = grpA n L ri fa H := ⟨_, rfl⟩
  rw [← hok, ← hgA] at HCB ⊢
  unfold PolV HeaV at HCB ⊢
  obtain ⟨a, cap, rfl, hcap, hmax, _⟩ := hr
  obtain ⟨a2, cap2, rfl, hcap2, hmax2, _⟩ := hh
  have hb0 : Below w.heap.size w ((w.alloc (.cells #[.string ⟨n.toArray⟩, .slice a L.length cap] 34)).alloc (.cells #[.int .i64 ri, .int .i64 fa, .slice a2 H.length cap2] 38)) := ((Below.refl w.heap.size w).alloc (Nat.le_refl _) _).alloc (by simp) _
  clear hok hgA
  go_enter Tryz.func14, Tryz.ntmps14
  go_wp2_with fail
  refine (HCB.out _ hb0).mono ?_
  rintro e w1 ⟨⟨u, rfl, hu⟩, hb1⟩
  obtain ⟨ua, uc, hue, huc1, huc2⟩ := own_slice hu
  subst hue
  have hbw := hb0.trans (hb1.mono hb0.size)
  have hbw2 := hbw.alloc hbw.size (.cells #[.int .i64 gA, .slice ua (canA n L ri fa H).length uc] 69)
  clear hu
  go_wp2_with fail
  go_ret2
  exact ⟨rfl, hbw2⟩

set_option maxRecDepth 20000 in
set_option maxHeartbeats 2000000 in
theorem iCandidatesOf_any (n : List UInt8) (v : Value) (L : List TgtT) (ri fa : Int) (hv : Value) (H : List HosT) (w : World) (hr : TgtRow w v L) (hl : L.length ≤ 1048576) (hx : Hid (∀ x ∈ L, x.1.length ≤ 1048576 ∧ x.2.1.length ≤ 1048576)) (hh : HstRow w hv H) (hE : EnvR w) :
    Calls Tryz.prog 18 #[PolV ⟨n.toArray⟩ v, HeaV ri fa hv] w fun e w' => GrpT w' w.heap.size (okO n L ri fa H) (canA n L ri fa H) e ∧ Below w.heap.size w w' := by
  have HCB : Hid (∀ W, Below w.heap.size w W → Calls Tryz.prog 40 #[PolV ⟨n.toArray⟩ v, HeaV ri fa hv] W fun e w' => CanT w' W.heap.size (okO n L ri fa H) (grpA n L ri fa H) (canA n L ri fa H) e ∧ Below W.heap.size W w') := fun W hW => candidatesBy_any n v L ri fa hv H W (hr.kept hW) hl hx (hh.kept hW) (hE.below hW)
  obtain ⟨ok, hok⟩ : ∃ ok, ok = okO n L ri fa H := ⟨_, rfl⟩
  obtain ⟨gA, hgA⟩ : ∃ gA, gA = grpA n L ri fa H := ⟨_, rfl⟩
  obtain ⟨cA, hcA⟩ : ∃ cA, cA = canA n L ri fa H := ⟨_, rfl⟩
  rw [← hok, ← hcA] at HCB ⊢
  rw [← hgA] at HCB
  unfold PolV HeaV at HCB ⊢
  obtain ⟨a, cap, rfl, hcap, hmax, _⟩ := hr
  obtain ⟨a2, cap2, rfl, hcap2, hmax2, _⟩ := hh
  have hb0 : Below w.heap.size w ((w.alloc (.cells #[.string ⟨n.toArray⟩, .slice a L.length cap] 34)).alloc (.cells #[.int .i64 ri, .int .i64 fa, .slice a2 H.length cap2] 38)) := ((Below.refl w.heap.size w).alloc (Nat.le_refl _) _).alloc (by simp) _
  clear hok hgA hcA
  go_enter Tryz.func18, Tryz.ntmps18
  go_wp2_with fail
  refine (HCB.out _ hb0).mono ?_
  rintro e w1 ⟨⟨u, rfl, hu⟩, hb1⟩
  have hbw := hb0.trans (hb1.mono hb0.size)
  have hua : NumsO (w1.alloc (.cells #[.int .i64 gA, u] 69)) w.heap.size u cA := (hu.mono hb0.size).kept ((Below.refl w1.heap.size w1).alloc (Nat.le_refl _) _)
  have HUA : Hid (NumsO (w1.alloc (.cells #[.int .i64 gA, u] 69)) w.heap.size u cA) := hua
  have hbw2 := hbw.alloc hbw.size (.cells #[.int .i64 gA, u] 69)
  obtain ⟨ua, uc, hue, huc1, huc2⟩ := own_slice hu
  subst hue
  clear hu hua
  go_wp2_with fail
  go_ret2
  exact ⟨⟨_, rfl, HUA.out⟩, hbw2⟩

set_option maxRecDepth 20000 in
set_option maxHeartbeats 4000000 in
theorem iGroupsIn_any (n : List UInt8) (v : Value) (L : List TgtT) (w : World) (hr : TgtRow w v L) (hl : L.length ≤ 1048576) (hx : Hid (∀ x ∈ L, x.1.length ≤ 1048576 ∧ x.2.1.length ≤ 1048576)) (hE : EnvR w) :
    Calls Tryz.prog 32 #[PolV ⟨n.toArray⟩ v] w fun e w' => GrpT w' w.heap.size (polB n L) (grsO n L) e ∧ Below w.heap.size w w' := by
  have HGP : Hid (∀ W, Below w.heap.size w W → Calls Tryz.prog 55 #[PolV ⟨n.toArray⟩ v] W fun e w' => e = .returned (.bool (polB n L)) ∧ Below W.heap.size W w') := fun W hW => iGoodPolicy_any n v L W (hr.kept hW) hl hx (hE.below hW)
  have HWH : Hid (∀ W, Calls Tryz.prog 56 #[] W fun e w' => (e = .returned (.agg #[.func (.func 83) #[] #[]]) ∧ PredG 83 #[] allT L w') ∧ Below W.heap.size W w') := fun W => whoever_any L W
  have HGO : Hid (∀ W, Below w.heap.size w W → PredG 83 #[] allT L W → Calls Tryz.prog 57 #[.agg #[.func (.func 83) #[] #[]], PolV ⟨n.toArray⟩ v] W fun e w' => (∃ u, e = .returned u ∧ NumsO w' W.heap.size u (grpsL allT L 10)) ∧ Below W.heap.size W w') := fun W hW hp => groupsOf_any _ _ allT ⟨n.toArray⟩ v L W (hr.kept hW) hp (fun _ _ => by kernel_rfl)
  have HOF : Hid (polB n L = false → grsO n L = []) := fun h => by unfold grsO; rw [h]; rfl
  have HON : Hid (polB n L = true → grsO n L = grpsL allT L 10) := fun h => by unfold grsO; rw [h]; rfl
  unfold PolV at HGP HGO ⊢
  obtain ⟨a, cap, rfl, hcap, hmax, _⟩ := hr
  have hb0 : Below w.heap.size w (w.alloc (.cells #[.string ⟨n.toArray⟩, .slice a L.length cap] 34)) := (Below.refl w.heap.size w).alloc (Nat.le_refl _) _
  obtain ⟨ok, hok⟩ : ∃ ok, ok = polB n L := ⟨_, rfl⟩
  rw [← hok] at HGP HOF HON ⊢
  clear hok
  cases ok with
  | false =>
    rw [HOF.out rfl]
    clear HOF HON HGO HWH
    go_enter Tryz.func32, Tryz.ntmps32
    go_wp2_with fail
    refine (HGP.out _ hb0).mono ?_
    rintro e w1 ⟨rfl, hb1⟩
    have hbw := (pol_box hb1).2
    go_wp2_with fail
    go_ret2
    exact ⟨grp_off _ _, hbw⟩
  | true =>
    rw [HON.out rfl]
    clear HOF HON
    obtain ⟨G, hG⟩ : ∃ G, G = grpsL allT L 10 := ⟨_, rfl⟩
    rw [← hG] at HGO ⊢
    clear hG
    go_enter Tryz.func32, Tryz.ntmps32
    go_wp2_with fail
    refine (HGP.out _ hb0).mono ?_
    rintro e w1 ⟨rfl, hb1⟩
    obtain ⟨_, hbw⟩ := pol_box hb1
    have HC : Hid (∀ W, Below w1.heap.size w1 W → (W.cell? ⟨w.heap.size, 0, none⟩ = some (.string ⟨n.toArray⟩) ∧ W.cell? ⟨w.heap.size, 1, none⟩ = some (.slice a L.length cap)) ∧ Below w1.heap.size w1 W) := fun W hW => ⟨(pol_box (hb1.trans (hW.mono hb1.size))).1, hW⟩
    have HWH2 : Hid (∀ W, Below w1.heap.size w1 W → Calls Tryz.prog 56 #[] W fun e w' => (e = .returned (.agg #[.func (.func 83) #[] #[]]) ∧ PredG 83 #[] allT L w') ∧ Below W.heap.size W w') := fun W _ => HWH.out W
    have HGO2 : Hid (∀ W, Below w1.heap.size w1 W → PredG 83 #[] allT L W → Calls Tryz.prog 57 #[.agg #[.func (.func 83) #[] #[]], .agg #[.string ⟨n.toArray⟩, .slice a L.length cap]] W fun e w' => (∃ u, e = .returned u ∧ NumsO w' W.heap.size u G) ∧ Below W.heap.size W w') := fun W hW hp => HGO.out W (hbw.trans (hW.mono hbw.size)) hp
    have HTR : Hid (∀ W W', Below w1.heap.size w1 W → Below W.heap.size W W' → Below w1.heap.size w1 W') := fun W W' h1 h2 => h1.trans (h2.mono h1.size)
    have HMO : Hid (∀ W W' u, Below w1.heap.size w1 W → NumsO W' W.heap.size u G → NumsO W' w.heap.size u G) := fun W W' u h1 h2 => h2.mono (Nat.le_trans hbw.size h1.size)
    have hbd : Below w1.heap.size w1 w1.drew := (Below.refl _ _).drew
    have hbz : Below w1.heap.size w1 w1 := Below.refl _ _
    clear hb1 HGO HWH HGP
    go_wp2_with fail
    go_region_held3 (fun W => (W.cell? ⟨w.heap.size, 0, none⟩ = some (.string ⟨n.toArray⟩) ∧ W.cell? ⟨w.heap.size, 1, none⟩ = some (.slice a L.length cap)) ∧ Below w1.heap.size w1 W) (first | exact HC.out _ (by assumption) | exact HC.out _ (Below.drew (by assumption)))
      (first
      | (go_at_call 56; refine (HWH2.out _ (by assumption)).mono ?_; rintro e w6 ⟨⟨rfl, hp6⟩, hb6⟩; have hb56 := HTR.out _ _ (by assumption) hb6)
      | (go_at_call 57; refine (HGO2.out _ (by assumption) (by assumption)).mono ?_; rintro e w7 ⟨⟨u, rfl, hu⟩, hb7⟩; have hu7 := HMO.out _ _ _ (by assumption) hu; have hb57 := HTR.out _ _ (by assumption) hb7))
    have hbw7 := hbw.trans (hb57.mono hbw.size)
    have HU7 : Hid (NumsO w7 w.heap.size u G) := hu7
    clear hu hu7
    go_wp2_with fail
    go_ret2
    exact ⟨⟨_, rfl, HU7.out⟩, hbw7⟩
end Go.Proofs.YtoanloballaclaaGreatDoor
