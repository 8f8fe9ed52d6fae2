import Derived.Test.YtacmipcjhbkdcaaZ15
import Derived.Test.YtacmipcjhbkdcaaZ11
import Derived.Test.YtacmipcjhbkdcaaZ10
namespace Go.Proofs.Ytacmipcjhbkdcaa
open Go.RowKit

set_option linter.unusedSimpArgs false in
set_option maxRecDepth 20000 in
set_option maxHeartbeats 2000000 in
/-- The chain of the links, apart from them. -/
theorem chain_any (v : Value) (L : List LkT) (w : World) (hr : LkRow w v L) (hl : L.length ≤ 1000) (hx : Hid (∀ x ∈ L, KBig x)) :
    Calls Try.prog 31 #[v] w fun e w' => (∃ v' D, e = .returned (ChV v') ∧ lkf D = L ∧ LBld w' w.heap.size v' D) ∧ Below w.heap.size w w' := by
  have HLO : Hid (∀ W, LkRow W v L → Calls Try.prog 29 #[.agg #[v]] W fun e w' => ∃ g D, lkf D = L ∧ e = .returned (.slice (some ⟨g, 0, none⟩) L.length L.length) ∧ LBld w' W.heap.size (.slice (some ⟨g, 0, none⟩) L.length L.length) D ∧ Below W.heap.size W w') := fun W h => linksOf_any v L W h hl hx
  have HR : Hid (∀ W, Below w.heap.size w W → LkRow W v L) := fun W hW => hr.kept hW
  obtain ⟨a, cap, rfl, _, _, _⟩ := lkrow_value hr
  obtain ⟨W0, hW0⟩ : ∃ W0, W0 = w.alloc (.cells #[.slice none 0 0] 31) := ⟨_, rfl⟩
  have hb0 : Below w.heap.size w W0 := by rw [hW0]; exact (Below.refl w.heap.size w).alloc (Nat.le_refl _) _
  have hB0 : W0.heap[w.heap.size]? = some (.cells #[.slice none 0 0] 31) := by rw [hW0]; exact blk_new _ _
  have HB0 : Hid (W0.heap[w.heap.size]? = some (.cells #[.slice none 0 0] 31)) := hB0
  have hz0 : w.heap.size < W0.heap.size := by rw [hW0]; simp
  have HW0 : Hid (w.alloc (.cells #[.slice none 0 0] 31) = W0) := hW0.symm
  have r0 := cells_at hB0 0
  have f0 : W0.frozen? ⟨w.heap.size, 0, none⟩ = false := by unfold World.frozen?; rw [hB0]; simp
  simp only [List.getElem?_toArray, List.getElem?_cons_zero] at r0
  clear hr hW0 hB0
  go_enter Try.func31, Try.ntmps31
  go_wp2_with fail
  rw [HW0.out]
  refine (HLO.out _ (HR.out _ hb0)).mono ?_
  rintro e w2 ⟨g, D, hD, rfl, hL, hb2⟩
  have HL : Hid (LBld w2 W0.heap.size (.slice (some ⟨g, 0, none⟩) L.length L.length) D) := hL
  have HB2 : Hid (w2.heap[w.heap.size]? = some (.cells #[.slice none 0 0] 31)) := (hb2.block _ hz0).trans HB0.out
  have r2 : w2.cell? ⟨w.heap.size, 0, none⟩ = some (.slice none 0 0) := by rw [hb2.cell (p := ⟨w.heap.size, 0, none⟩) hz0]; exact r0
  have f2 : w2.frozen? ⟨w.heap.size, 0, none⟩ = false := by rw [hb2.frozen (p := ⟨w.heap.size, 0, none⟩) hz0]; exact f0
  have hbw := hb0.trans (hb2.mono hb0.size)
  clear hL hb2 r0 f0 HB0
  go_wp2_with fail
  (try simp only [Exit.inBlock, Exit.then])
  refine bodyPost_ret (results_cell_row rfl _ _ w.heap.size 31 #[.slice (some ⟨g, 0, none⟩) L.length L.length] (0, 0) _ rfl ?_ Try.underlying31 rfl (by kernel_rfl)) rfl ⟨⟨_, _, rfl, hD, (HL.out.far (g := w.heap.size) hz0 _).mono (Nat.le_of_lt hz0)⟩, ?_⟩
  · exact put1_heap HB2.out
  · exact hbw.setCell (p := ⟨w.heap.size, 0, none⟩) (Nat.le_refl _) _

/-- What StepChain tells. -/
def schB (L : List LkT) (t : StepT) : Bool := chB L && stepB L t
def schL (L : List LkT) (t : StepT) : List LkT := if schB L t then stepL L t else []
theorem good_shape {L : List LkT} (h : chB L = true) : ShapeL L := by
  refine ⟨chB_len h, fun k hk => ?_, fun k hk => ?_⟩
  · have h1 := logB_len (chB_log h hk)
    rw [getD_z hk]; omega
  · have h1 := chB_ahead h hk
    rw [getD_z hk, getD_z (by omega)]
    unfold aheadB begB at h1
    simp only [Bool.and_eq_true, decide_eq_true_eq] at h1
    exact h1.1.1.2.1
theorem good_big {L : List LkT} (h : chB L = true) : ∀ x ∈ L, KBig x := fun x hx => by
  obtain ⟨k, hk, rfl⟩ := List.getElem_of_mem hx
  have h1 := chB_log h hk
  exact ⟨by have := logB_len h1; omega, fun p hp => by have := logB_text h1 p hp; omega⟩
end Go.Proofs.Ytacmipcjhbkdcaa

namespace Go.Proofs.Ytacmipcjhbkdcaa
open Go.RowKit

set_option linter.unusedSimpArgs false in
set_option maxRecDepth 20000 in
set_option maxHeartbeats 4000000 in
/-- The chain in memory of its own. -/
theorem l15Own_any (v : Value) (L : List LkT) (w : World) (hr : LkRow w v L) (hl : L.length ≤ 1000) (hx : Hid (∀ x ∈ L, KBig x)) :
    Calls Try.prog 26 #[ChV v] w fun e w' => (∃ v' D, e = .returned (ChV v') ∧ lkf D = L ∧ LBld w' w.heap.size v' D) ∧ Below w.heap.size w w' := by
  unfold ChV
  obtain ⟨i0, hi, hz0, hz1, hz2⟩ := info_parts info_link
  obtain ⟨a, cap, rfl, hcap, hmax, HROW⟩ := lkrow_value hr
  obtain ⟨W0, hW0⟩ : ∃ W0, W0 = (w.alloc (.cells #[.slice a L.length cap] 31)).alloc (.cells #[.slice none 0 0] 31) := ⟨_, rfl⟩
  have HW0 : Hid ((w.alloc (.cells #[.slice a L.length cap] 31)).alloc (.cells #[.slice none 0 0] 31) = W0) := hW0.symm
  have hs1 : (w.alloc (.cells #[.slice a L.length cap] 31)).heap.size = w.heap.size + 1 := by simp
  have hs3 : W0.heap.size = w.heap.size + 1 + 1 := by rw [hW0]; simp
  have hb0 : Below w.heap.size w W0 := by rw [hW0]; exact ((Below.refl _ _).alloc (Nat.le_refl _) _).alloc (by simp) _
  have hA : W0.heap[w.heap.size]? = some (.cells #[.slice a L.length cap] 31) := by
    rw [hW0, heap_alloc_old _ _ (by omega)]; exact heap_alloc_new _ _
  have hC : W0.heap[w.heap.size + 1]? = some (.cells #[.slice none 0 0] 31) := by
    rw [hW0, ← hs1]; exact heap_alloc_new _ _
  have HCR : Hid (∀ W, Below W0.heap.size W0 W → W.heap[w.heap.size + 1]? = some (.cells #[.slice none 0 0] 31) ∧ W.cell? ⟨w.heap.size + 1, 0, none⟩ = some (.slice none 0 0) ∧ W.frozen? ⟨w.heap.size + 1, 0, none⟩ = false) := fun W hW => by
    have e1 : W.heap[w.heap.size + 1]? = some (.cells #[.slice none 0 0] 31) := (hW.block _ (by omega)).trans hC
    refine ⟨e1, cells_at e1 0, ?_⟩
    unfold World.frozen?; rw [e1]; simp
  have c0 : W0.cell? ⟨w.heap.size, 0, none⟩ = some (.slice a L.length cap) := cells_at hA 0
  have HB0 : Hid (Below w.heap.size w W0) := hb0
  have HZ0 : Hid (w.heap.size + 1 < W0.heap.size) := by show _ < W0.heap.size; omega
  have HXL : Hid (∀ x ∈ L, x.1.length ≤ 1048576) := fun x hxx => (hx.out x hxx).1
  clear hr hW0 hs1 hs3 hb0 hA hC hx
  go_enter Try.func26, Try.ntmps26
  go_wp2_with fail
  rw [HW0.out]
  go_wp2_with fail
  clear c0 HW0
  go_loopw [3, 9] (fun q i wr => ∃ (k : Nat) (D : List (LkT × Value)), (k ≤ L.length ∧ D.length = k) ∧ i = .int .i64 (k : Int) ∧ Hid (lkf D = L.take k) ∧ LBld wr W0.heap.size q D ∧ Below W0.heap.size W0 wr) (fun _ i _ => L.length - (intOf i).toNat)
  case atStart => exact ⟨0, [], ⟨Nat.zero_le _, rfl⟩, rfl, rfl, LBld.nil _ _, Below.refl _ _⟩
  case round =>
    obtain ⟨k, D, ⟨hk, hDk⟩, rfl, HM, hq, hb⟩ := hrel
    obtain ⟨aq, cq, rfl, _, _⟩ := hq.shape
    rw [hDk] at hq ⊢
    have HR : Hid (LBld wr W0.heap.size (.slice aq k cq) D) := hq
    have HB : Hid (Below W0.heap.size W0 wr) := hb
    have HDK : Hid (D.length = k) := hDk
    clear hq hb
    by_cases hlt : k < L.length
    · obtain ⟨b, o, ha, hbl, hcel⟩ := HROW.out (by omega)
      rw [ha]
      obtain ⟨va, hcx0⟩ := hcel k hlt
      have hcx := hcx0.kept (HB0.out.trans (HB.out.mono HB0.out.size))
      have hxl := HXL.out _ (List.getElem_mem hlt)
      have HMN : Hid (∀ y : LkT × Value, y.1 = L[k]'hlt → lkf (D ++ [y]) = L.take (k + 1)) := fun y hy => by
        have hM := HM.out
        unfold lkf at hM ⊢
        rw [List.map_append, hM, List.take_succ_eq_append_getElem hlt]; simp [hy]
      obtain ⟨x, hxe⟩ : ∃ x, x = L[k]'hlt := ⟨_, rfl⟩
      rw [← hxe] at hcx hxl HMN
      have HRX : Hid (∀ W, Below wr.heap.size wr W → Row W va x.1) := fun W hW => hcx.2.kept hW
      unfold LkAt at hcx
      obtain ⟨⟨c0, c1, c2⟩, hrx⟩ := hcx
      obtain ⟨⟨xd, xs, xu⟩, hxx⟩ : ∃ y : LkT, x = y := ⟨x, rfl⟩
      subst hxx
      simp only at c1 c2 HRX hxl
      obtain ⟨aa, ca, rfl, _, _, _⟩ := hrx
      obtain ⟨wX, hwX⟩ : ∃ wX, wX = wr.alloc (.cells #[.slice aa xd.length ca, .int .i64 xs, .int .i64 xu] 71) := ⟨_, rfl⟩
      have HWX : Hid (wr.alloc (.cells #[.slice aa xd.length ca, .int .i64 xs, .int .i64 xu] 71) = wX) := hwX.symm
      have hbX : Below wr.heap.size wr wX := by rw [hwX]; exact (Below.refl _ _).alloc (Nat.le_refl _) _
      have hXb : wX.heap[wr.heap.size]? = some (.cells #[.slice aa xd.length ca, .int .i64 xs, .int .i64 xu] 71) := by rw [hwX]; exact heap_alloc_new _ _
      have hzX : wX.heap.size = wr.heap.size + 1 := by rw [hwX]; simp
      have x0 := cells_at hXb 0
      simp only [List.getElem?_toArray, List.getElem?_cons_zero] at x0
      obtain ⟨wE, hwE⟩ : ∃ wE, wE = wX.alloc (.cells #[] 9) := ⟨_, rfl⟩
      have HWE : Hid (wX.alloc (.cells #[] 9) = wE) := hwE.symm
      have hbE : Below wX.heap.size wX wE := by rw [hwE]; exact (Below.refl _ _).alloc (Nat.le_refl _) _
      have HOE : Hid (wE.ownsRow wX.heap.size 9 1 (.slice (some ⟨wX.heap.size, 0, none⟩) 0 0) 0 []) := by rw [hwE]; exact own_emptyC wX 9 1
      have hbrE : Below wr.heap.size wr wE := hbX.trans (hbE.mono hbX.size)
      have x0E : wE.cell? ⟨wr.heap.size, 0, none⟩ = some (.slice aa xd.length ca) := by rw [hbE.cell (p := ⟨wr.heap.size, 0, none⟩) (by show wr.heap.size < _; omega)]; exact x0
      have hzE : wX.heap.size ≤ wE.heap.size := hbE.size
      have HXE : Hid (wE.heap[wr.heap.size]? = some (.cells #[.slice aa xd.length ca, .int .i64 xs, .int .i64 xu] 71)) := (hbE.block _ (by omega)).trans hXb
      have HBE : Hid (Below wr.heap.size wr wE) := hbrE
      have HZX : Hid (wX.heap.size = wr.heap.size + 1) := hzX
      clear hcel hxe hcx0 hwX hwE hbX hbE hXb x0 hzX ha
      go_wp2_with (first | rw [HWX.out] | rw [HWE.out] | (at_builtin; refine wpList_append_row _ rfl (.tmp 13) (.tmp 15) rfl wX.heap.size _ 0 [] rfl HOE.out _ rfl xd (HRX.out _ hbrE) ?d1 hzE ?_))
      case d1 => omega
      intro v2 w2 hown2 hgrow2 _
      have ho2 : w2.ownsRow wX.heap.size 9 1 v2 xd.length (xd.map S) := by simpa using hown2
      obtain ⟨a2, c2', hv2, _, _, _⟩ := own_sliceC ho2
      subst hv2
      have hXz := HZX.out
      have hX2 : w2.heap[wr.heap.size]? = some (.cells #[.slice aa xd.length ca, .int .i64 xs, .int .i64 xu] 71) := (hgrow2.block _ (by omega) (fun e => by have q : wr.heap.size = wX.heap.size := Option.some.inj e; omega)).trans HXE.out
      have y0 := cells_at hX2 0
      simp only [List.getElem?_toArray, List.getElem?_cons_zero] at y0
      have g0 : w2.frozen? ⟨wr.heap.size, 0, none⟩ = false := by unfold World.frozen?; rw [hX2]; simp
      have hb2 : Below wr.heap.size wr w2 := HBE.out.grown hgrow2 HBE.out.size (fun j e => by have q : wX.heap.size = j := Option.some.inj e; omega)
      obtain ⟨W3, hW3⟩ : ∃ W3, W3 = w2.setCell ⟨wr.heap.size, 0, none⟩ (.slice a2 xd.length c2') := ⟨_, rfl⟩
      have HW3 : Hid (w2.setCell ⟨wr.heap.size, 0, none⟩ (.slice a2 xd.length c2') = W3) := hW3.symm
      have hX3 : W3.heap[wr.heap.size]? = some (.cells #[.slice a2 xd.length c2', .int .i64 xs, .int .i64 xu] 71) := by
        rw [hW3]
        have e0 := heap_setCell_same _ _ 0 _ _ (.slice a2 xd.length c2') hX2
        simpa using e0
      have hb3 : Below wr.heap.size wr W3 := by rw [hW3]; exact hb2.setCell (p := ⟨wr.heap.size, 0, none⟩) (Nat.le_refl _) _
      have hz3 : W3.heap.size = w2.heap.size := by rw [hW3]; simp
      have ho3 : W3.ownsRow wX.heap.size 9 1 (.slice a2 xd.length c2') xd.length (xd.map S) := by
        rw [hW3]
        refine ho2.kept (grown_set (grown_refl _ _)) ?_
        cases e : (Value.slice a2 xd.length c2').ownBlock with
        | none => exact .inl rfl
        | some j => exact .inr (fun h => by have q : j = wr.heap.size := Option.some.inj h; have := (ho2.lt j e).1; omega)
      have m0 := cells_at hX3 0
      have m1 := cells_at hX3 1
      have m2 := cells_at hX3 2
      simp only [List.getElem?_toArray, List.getElem?_cons_zero, List.getElem?_cons_succ] at m0 m1 m2
      obtain ⟨wC, hwC⟩ : ∃ wC, wC = W3.alloc (.cells #[.slice a2 xd.length c2', .int .i64 xs, .int .i64 xu] 71) := ⟨_, rfl⟩
      have HWC : Hid (W3.alloc (.cells #[.slice a2 xd.length c2', .int .i64 xs, .int .i64 xu] 71) = wC) := hwC.symm
      have hbC : Below W3.heap.size W3 wC := by rw [hwC]; exact (Below.refl _ _).alloc (Nat.le_refl _) _
      have hbrC : Below wr.heap.size wr wC := hb3.trans (hbC.mono hb3.size)
      obtain ⟨y, hy⟩ : ∃ y : LkT × Value, y = ((xd, xs, xu), Value.slice a2 xd.length c2') := ⟨_, rfl⟩
      have hnew : ∀ j q, (lkcs [y])[j]? = some q → wC.cell? ((⟨W3.heap.size, 0, none⟩ : Addr).add j) = some q := fun j q hq => by
        rw [hy, lkcs_one, lkc] at hq
        rw [add_0C, hwC]
        unfold World.cell?
        rw [blk_new]
        match j, hq with
        | 0, hq => simpa using hq
        | 1, hq => simpa using hq
        | 2, hq => simpa using hq
      have hone : ∀ q ∈ lkcs [y], q.oneCell' = true := fun q hq => lk_cells_one (fun z hz => ⟨a2, xd.length, c2', by rw [List.mem_singleton.1 hz, hy]⟩) hq
      have hRC := HR.out.kept hbrC
      have HRC : Hid (LBld wC W0.heap.size (.slice aq k cq) D) := hRC
      have hownq := hRC.1
      rw [HDK.out] at hownq
      have HOC : Hid (wC.ownsRow wX.heap.size 9 1 y.2 y.1.1.length (y.1.1.map S)) := by rw [hy]; exact own_below ho3 hbC
      have hzC : W0.heap.size ≤ wC.heap.size := Nat.le_trans HB.out.size hbrC.size
      have HOW : Hid (∀ z ∈ D, ∀ j, z.2.ownBlock = some j → j < wX.heap.size) := fun z hz j hj => by have := (HR.out.lt.2 z hz j hj).2; omega
      have HBX : Hid (W0.heap.size ≤ wX.heap.size) := by have := HB.out.size; show W0.heap.size ≤ wX.heap.size; omega
      have HBC : Hid (Below W0.heap.size W0 wC) := HB.out.trans (hbrC.mono HB.out.size)
      have HMX := HMN.out y (by rw [hy])
      have HMY : Hid (lkf (D ++ [y]) = L.take (k + 1)) := HMX
      have hnl : (lkcs [y]).length = 1 * 3 := lkcs_length _
      clear hown2 hgrow2 ho2 hX2 hb2 hW3 hX3 hb3 hz3 ho3 hwC hbC hbrC hRC c0 c1 c2 x0E hzE hbrE hXz HMX
      go_wp2_with (first | rw [HW3.out] | rw [HWC.out] | (at_builtin; refine Go.Proofs.Ytacmipcjhbkdcaa.wpList_append_own_at _ rfl (.tmp 18) (.tmp 20) 29 rfl W0.heap.size 71 i0 (.agg #[.slice none 0 0, .int .i64 0, .int .i64 0]) 3 40 Try.underlying29 hi hz0 hz1 hz2 rfl (by decide) _ _ _ rfl hownq ⟨W3.heap.size, 0, none⟩ 1 1 (lkcs [y]) rfl hnl hnew hone ?d3 ?d4 ?d5 ?_))
      case d3 => unfold maxLen; omega
      case d4 => omega
      case d5 => exact hzC
      intro v6 w6 hown6 hgrow6 _
      have HL6 : Hid (LBld w6 W0.heap.size v6 (D ++ [y])) := HRC.out.more HOC.out HBX.out HOW.out (by rw [HDK.out]; first | exact hown6 | (rw [hy]; exact hown6)) hgrow6
      have HB6 : Hid (Below W0.heap.size W0 w6) := HBC.out.grown hgrow6 hzC (fun j hj => (HRC.out.lt.1 j hj).1)
      have HDL : Hid ((D ++ [y]).length = k + 1) := by show _ = _; rw [List.length_append, HDK.out]; rfl
      clear hown6 hgrow6 hownq hnl hnew hone hzC hy m0 m1 m2 y0 g0 HW3 HWC HRC HOC HOW
      go_wp2_with fail
      go_roundw
      case rel => exact ⟨k + 1, D ++ [y], ⟨by omega, HDL.out⟩, by go_num, HMY, HL6.out, HB6.out⟩
      case measure => simp [intOf]; omega
    · have HFM : Hid (lkf D = L) := by have h := HM.out; rw [List.take_of_length_le (by omega)] at h; exact h
      obtain ⟨r1, r2, r3⟩ := HCR.out wr HB.out
      have HR1 : Hid (wr.heap[w.heap.size + 1]? = some (.cells #[.slice none 0 0] 31)) := r1
      have HBW : Hid (Below w.heap.size w wr) := HB0.out.trans (HB.out.mono HB0.out.size)
      clear r1 HM
      go_wp2_with fail
      (try simp only [Exit.inBlock, Exit.then])
      refine bodyPost_ret (results_cell_row rfl _ _ (w.heap.size + 1) 31 #[.slice aq k cq] (0, 0) _ rfl ?_ Try.underlying31 rfl (by kernel_rfl)) rfl ⟨⟨_, D, rfl, HFM.out, (HR.out.far (g := w.heap.size + 1) HZ0.out _).mono (by have := HZ0.out; omega)⟩, ?_⟩
      · exact put1_heap HR1.out
      · exact HBW.out.setCell (p := ⟨w.heap.size + 1, 0, none⟩) (by show w.heap.size ≤ w.heap.size + 1; omega) _
end Go.Proofs.Ytacmipcjhbkdcaa

namespace Go.Proofs.Ytacmipcjhbkdcaa
open Go.RowKit

def tailT (L : List LkT) : List LkT := L.set (L.length - 1) ((L.getD (L.length - 1) zLk).1, 0, ((L.getD (L.length - 1) zLk).1.length : Int))

theorem grown_new {w W : World} {r : Option Nat} {g : Nat} (h : w.grownBy W r) (hg : w.heap.size ≤ g) (u : Value) : w.grownBy (W.setCell ⟨g, 0, none⟩ u) r :=
  ⟨h.os, h.tape, h.output, by simpa using h.size, fun k hk hr => by rw [heap_setCell_other _ _ _ _ (show k ≠ g by omega)]; exact h.block k hk hr⟩
/-- A store into a block that none of the links' has. -/
theorem lbld_far2 {w : World} {base g : Nat} {v : Value} {D : List (LkT × Value)} (h : LBld w base v D) (hg : (∀ j, v.ownBlock = some j → j ≠ g) ∧ ∀ x ∈ D, ∀ j, x.2.ownBlock = some j → j ≠ g) (u : Value) : LBld (w.setCell ⟨g, 0, none⟩ u) base v D :=
  h.kpt (kpt_set w g 0 u (S := (· = g)) rfl) (fun k hk => hg.1 k hk) (fun x hx k hk => hg.2 x hx k hk)
set_option linter.unusedSimpArgs false in
set_option maxRecDepth 20000 in
set_option maxHeartbeats 4000000 in
theorem l15Tail_any (base g cap n : Nat) (D : List (LkT × Value)) (w : World) (h : LBld w base (.slice (some ⟨g, 0, none⟩) n cap) D) (hn : n = D.length) (h1 : 1 ≤ n) (hn6 : n ≤ 1000) (hb : base ≤ w.heap.size) :
    Calls Try.prog 42 #[ChV (.slice (some ⟨g, 0, none⟩) n cap)] w fun e w' => e = .returned (ChV (.slice (some ⟨g, 0, none⟩) n cap)) ∧ (∃ D', LBld w' base (.slice (some ⟨g, 0, none⟩) n cap) D' ∧ lkf D' = tailT (lkf D)) ∧ Below base w w' ∧ w.grownBy w' (some g) := by
  unfold ChV
  obtain ⟨t, ht⟩ : ∃ t, n = t + 1 := ⟨n - 1, by omega⟩
  have htD : t < D.length := by omega
  obtain ⟨W0, hW0⟩ : ∃ W0, W0 = (w.alloc (.cells #[.slice (some ⟨g, 0, none⟩) n cap] 31)).alloc (.cells #[.slice none 0 0] 31) := ⟨_, rfl⟩
  have HW0 : Hid ((w.alloc (.cells #[.slice (some ⟨g, 0, none⟩) n cap] 31)).alloc (.cells #[.slice none 0 0] 31) = W0) := hW0.symm
  have hs1 : (w.alloc (.cells #[.slice (some ⟨g, 0, none⟩) n cap] 31)).heap.size = w.heap.size + 1 := by simp
  have hs3 : W0.heap.size = w.heap.size + 1 + 1 := by rw [hW0]; simp
  have hb0 : Below w.heap.size w W0 := by rw [hW0]; exact ((Below.refl _ _).alloc (Nat.le_refl _) _).alloc (by simp) _
  have hA : W0.heap[w.heap.size]? = some (.cells #[.slice (some ⟨g, 0, none⟩) n cap] 31) := by
    rw [hW0, heap_alloc_old _ _ (by omega)]; exact heap_alloc_new _ _
  have hC : W0.heap[w.heap.size + 1]? = some (.cells #[.slice none 0 0] 31) := by
    rw [hW0, ← hs1]; exact heap_alloc_new _ _
  have hL0 := h.kept hb0
  have hgl : g < w.heap.size := (h.lt.1 g (by simp [Value.ownBlock])).2
  obtain ⟨⟨p0, p1, p2⟩, hfz, hbg⟩ := hL0.atI htD
  obtain ⟨x, hx⟩ : ∃ x, x = D[t]'htD := ⟨_, rfl⟩
  have hown := hL0.logI htD
  have f1 := hfz (t * 3 + 1)
  have hP := hL0.putI htD ((x.1.1, 0, x.1.2.2), x.2) 1 (.int .i64 0) (by omega) (by rw [hx]; rfl) (by rw [hx]) (by rw [hx])
  obtain ⟨D1, hD1⟩ : ∃ D1, D1 = D.set t ((x.1.1, 0, x.1.2.2), x.2) := ⟨_, rfl⟩
  rw [← hD1] at hP
  have ht1 : t < D1.length := by rw [hD1, List.length_set]; exact htD
  have hD1t : D1[t]'ht1 = ((x.1.1, 0, x.1.2.2), x.2) := by simp [hD1]
  obtain ⟨W1, hW1⟩ : ∃ W1, W1 = W0.setCell ⟨g, t * 3 + 1, none⟩ (.int .i64 0) := ⟨_, rfl⟩
  have HW1 : Hid (W0.setCell ⟨g, t * 3 + 1, none⟩ (.int .i64 0) = W1) := hW1.symm
  rw [← hW1] at hP
  have hbW1 : Below base w W1 := by rw [hW1]; exact (hb0.mono hb).setCell (p := ⟨g, t * 3 + 1, none⟩) hbg _
  have hgW1 : w.grownBy W1 (some g) := by rw [hW1]; exact grown_set (grown_below (grown_refl _ _) hb0)
  have hA1 : W1.heap[w.heap.size]? = some (.cells #[.slice (some ⟨g, 0, none⟩) n cap] 31) := by
    rw [hW1, heap_setCell_other _ _ _ _ (show w.heap.size ≠ g by omega)]; exact hA
  have hC1 : W1.heap[w.heap.size + 1]? = some (.cells #[.slice none 0 0] 31) := by
    rw [hW1, heap_setCell_other _ _ _ _ (show w.heap.size + 1 ≠ g by omega)]; exact hC
  rw [← hx] at hown p0
  have HK : Hid (∀ W, Below W1.heap.size W1 W → (LBld W base (.slice (some ⟨g, 0, none⟩) n cap) D1 ∧ Below base w W ∧ W.heap[w.heap.size]? = some (.cells #[.slice (some ⟨g, 0, none⟩) n cap] 31) ∧ W.heap[w.heap.size + 1]? = some (.cells #[.slice none 0 0] 31) ∧ w.grownBy W (some g))) := fun W hW => by
    have hz : W1.heap.size = W0.heap.size := by rw [hW1]; simp
    exact ⟨hP.kept hW, hbW1.trans (hW.mono (Nat.le_trans hb hbW1.size)), (hW.block _ (by omega)).trans hA1, (hW.block _ (by omega)).trans hC1, grown_below hgW1 hW⟩
  have c0 := cells_at hA 0
  have c1 := cells_at hA1 0
  simp only [List.getElem?_toArray, List.getElem?_cons_zero] at c0 c1
  have HTT : Hid (lkf (D1.set t ((x.1.1, 0, (x.1.1.length : Int)), x.2)) = tailT (lkf D)) := by
    show _ = _
    unfold tailT
    rw [lkf_set, hD1, lkf_set, List.set_set, lkf_len, show D.length - 1 = t by omega, lkf_get htD, ← hx]
  have hnt : (n : Int) - 1 = (t : Int) := by omega
  have HOW : Hid (∀ z ∈ D1.set t ((x.1.1, 0, (x.1.1.length : Int)), x.2), ∀ j, z.2.ownBlock = some j → j < w.heap.size) := fun z hz j hj => by
    have hall : ∀ z ∈ D, ∀ j, z.2.ownBlock = some j → j < w.heap.size := fun z hz j hj => (h.lt.2 z hz j hj).2
    rw [hD1, List.set_set] at hz
    rcases List.mem_or_eq_of_mem_set hz with hz | hz
    · exact hall z hz j hj
    · rw [hz] at hj
      simp only [hx] at hj
      exact hall _ (List.getElem_mem htD) j hj
  have wt : IntKind.i64.wrap ((n : Int) - 1) = (t : Int) := by rw [i64_wrapC (by omega) (by omega)]; omega
  have htn : (t : Int) < (n : Int) := by omega
  obtain ⟨⟨xd, xs, xu⟩, dv⟩ := x
  obtain ⟨ad, cd, hdv, _, _, _⟩ := own_sliceC hown
  simp only at hdv p0 hD1t HTT HOW
  subst hdv
  have HD1T : Hid (D1[t]'ht1 = ((xd, 0, xu), Value.slice ad xd.length cd)) := hD1t
  have HGL : Hid (g < w.heap.size) := hgl
  have HGB : Hid (base ≤ g) := hbg
  clear h hn hW0 hs1 hs3 hb0 hA hC hL0 hfz hx hown hP hD1 hW1 hbW1 hA1 hC1 hgW1 hD1t p2 ht hgl hbg
  go_enter Try.func42, Try.ntmps42
  go_wp2_with (first | rw [HW0.out] | rw [HW1.out])
  have hb1d : Below W1.heap.size W1 W1.drew := (Below.refl _ _).drew
  have HSS : Hid (∀ W, Below W1.heap.size W1 W → W.cell? ⟨w.heap.size, 0, none⟩ = some (.slice (some ⟨g, 0, none⟩) n cap) ∧ W.cell? ⟨g, t * 3, none⟩ = some (.slice ad xd.length cd)) := fun W hW => by
    obtain ⟨q1, q2, q3, q4, q5⟩ := HK.out W hW
    obtain ⟨⟨r0, _, _⟩, _, _⟩ := q1.atI ht1
    simp only [HD1T.out] at r0
    have e := cells_at q3 0
    exact ⟨e, r0⟩
  refine wp_region_noPanic ?_
  refine wp_region_held_drew (S := fun W : World => W.cell? ⟨w.heap.size, 0, none⟩ = some (.slice (some ⟨g, 0, none⟩) n cap) ∧ W.cell? ⟨g, t * 3, none⟩ = some (.slice ad xd.length cd)) (by kernel_rfl) (HSS.out _ hb1d) (fun hHeld => ?_)
  generalize W1.drew = wv at hb1d hHeld ⊢
  refine wpAnyH_take (i := 0) (v := .pointer (some ⟨w.heap.size, 0, none⟩)) rfl (by kernel_rfl) (by kernel_rfl) (by kernel_rfl) (fun _ _ _ h => h) (Or.inl ⟨by rfl, ?_⟩) (by assumption) ?_
  · intro W hSW
    go_simp
    all_goals (try omega)
  simp only [Act.put, List.getElem_toArray, List.getElem_cons_succ, List.getElem_cons_zero, List.setIfInBounds_toArray, List.set_cons_succ, List.set_cons_zero]
  refine wpAnyH_take (i := 1) (v := .slice (some ⟨g, 0, none⟩) n cap) rfl (by kernel_rfl) (by kernel_rfl) (by kernel_rfl) (fun _ _ _ h => h) (Or.inl ⟨by rfl, ?_⟩) (by assumption) ?_
  · intro W hSW
    obtain ⟨z0, z1⟩ := hSW
    go_simp
    all_goals (try omega)
  simp only [Act.put, List.getElem_toArray, List.getElem_cons_succ, List.getElem_cons_zero, List.setIfInBounds_toArray, List.set_cons_succ, List.set_cons_zero]
  refine wpAnyH_take (i := 2) (v := .int .i64 (t : Int)) rfl (by kernel_rfl) (by kernel_rfl) (by kernel_rfl) (fun _ _ _ h => h) (Or.inl ⟨by rfl, ?_⟩) (by assumption) ?_
  · intro W hSW
    go_simp
    all_goals (try omega)
  simp only [Act.put, List.getElem_toArray, List.getElem_cons_succ, List.getElem_cons_zero, List.setIfInBounds_toArray, List.set_cons_succ, List.set_cons_zero]
  refine wpAnyH_take (i := 3) (v := .pointer (some ⟨w.heap.size, 0, none⟩)) rfl (by kernel_rfl) (by kernel_rfl) (by kernel_rfl) (fun _ _ _ h => h) (Or.inl ⟨by rfl, ?_⟩) (by assumption) ?_
  · intro W hSW
    go_simp
    all_goals (try omega)
  simp only [Act.put, List.getElem_toArray, List.getElem_cons_succ, List.getElem_cons_zero, List.setIfInBounds_toArray, List.set_cons_succ, List.set_cons_zero]
  refine wpAnyH_take (i := 4) (v := .slice (some ⟨g, 0, none⟩) n cap) rfl (by kernel_rfl) (by kernel_rfl) (by kernel_rfl) (fun _ _ _ h => h) (Or.inl ⟨by rfl, ?_⟩) (by assumption) ?_
  · intro W hSW
    obtain ⟨z0, z1⟩ := hSW
    go_simp
    all_goals (try omega)
  simp only [Act.put, List.getElem_toArray, List.getElem_cons_succ, List.getElem_cons_zero, List.setIfInBounds_toArray, List.set_cons_succ, List.set_cons_zero]
  refine wpAnyH_take (i := 5) (v := .int .i64 (t : Int)) rfl (by kernel_rfl) (by kernel_rfl) (by kernel_rfl) (fun _ _ _ h => h) (Or.inl ⟨by rfl, ?_⟩) (by assumption) ?_
  · intro W hSW
    go_simp
    all_goals (try omega)
  simp only [Act.put, List.getElem_toArray, List.getElem_cons_succ, List.getElem_cons_zero, List.setIfInBounds_toArray, List.set_cons_succ, List.set_cons_zero]
  refine wpAnyH_take (i := 6) (v := .pointer (some ⟨g, t * 3, none⟩)) rfl (by kernel_rfl) (by kernel_rfl) (by kernel_rfl) (fun _ _ _ h => h) (Or.inl ⟨by rfl, ?_⟩) (by assumption) ?_
  · intro W hSW
    go_simp
    all_goals (try omega)
  simp only [Act.put, List.getElem_toArray, List.getElem_cons_succ, List.getElem_cons_zero, List.setIfInBounds_toArray, List.set_cons_succ, List.set_cons_zero]
  refine wpAnyH_take (i := 7) (v := .pointer (some ⟨g, t * 3, none⟩)) rfl (by kernel_rfl) (by kernel_rfl) (by kernel_rfl) (fun _ _ _ h => h) (Or.inl ⟨by rfl, ?_⟩) (by assumption) ?_
  · intro W hSW
    go_simp
    all_goals (try omega)
  simp only [Act.put, List.getElem_toArray, List.getElem_cons_succ, List.getElem_cons_zero, List.setIfInBounds_toArray, List.set_cons_succ, List.set_cons_zero]
  refine wpAnyH_take (i := 8) (v := .slice ad xd.length cd) rfl (by kernel_rfl) (by kernel_rfl) (by kernel_rfl) (fun _ _ _ h => h) (Or.inl ⟨by rfl, ?_⟩) (by assumption) ?_
  · intro W hSW
    obtain ⟨z0, z1⟩ := hSW
    go_simp
    all_goals (try omega)
  simp only [Act.put, List.getElem_toArray, List.getElem_cons_succ, List.getElem_cons_zero, List.setIfInBounds_toArray, List.set_cons_succ, List.set_cons_zero]
  refine wpAnyH_take (i := 9) (v := .int .i64 (xd.length : Int)) rfl (by kernel_rfl) (by kernel_rfl) (by kernel_rfl) (fun _ _ _ h => h) (Or.inl ⟨by rfl, ?_⟩) (by assumption) ?_
  · intro W hSW
    go_simp
    all_goals (try omega)
  simp only [Act.put, List.getElem_toArray, List.getElem_cons_succ, List.getElem_cons_zero, List.setIfInBounds_toArray, List.set_cons_succ, List.set_cons_zero]
  refine wpAnyH_take (i := 10) (v := .pointer (some ⟨g, t * 3, none⟩)) rfl (by kernel_rfl) (by kernel_rfl) (by kernel_rfl) (fun _ _ _ h => h) (Or.inl ⟨by rfl, ?_⟩) (by assumption) ?_
  · intro W hSW
    go_simp
    all_goals (try omega)
  simp only [Act.put, List.getElem_toArray, List.getElem_cons_succ, List.getElem_cons_zero, List.setIfInBounds_toArray, List.set_cons_succ, List.set_cons_zero]
  refine wpAnyH_take (i := 11) (v := .pointer (some ⟨g, t * 3 + 2, none⟩)) rfl (by kernel_rfl) (by kernel_rfl) (by kernel_rfl) (fun _ _ _ h => h) (Or.inl ⟨by rfl, ?_⟩) (by assumption) ?_
  · intro W hSW
    go_simp
    all_goals (try omega)
  simp only [Act.put, List.getElem_toArray, List.getElem_cons_succ, List.getElem_cons_zero, List.setIfInBounds_toArray, List.set_cons_succ, List.set_cons_zero]
  obtain ⟨q1, q2, q3, q4, q5⟩ := HK.out wv hb1d
  obtain ⟨⟨r0, r1, r2⟩, hfz, _⟩ := q1.atI ht1
  simp only [HD1T.out] at r0 r1 r2
  have f2 := hfz (t * 3 + 2)
  have hP2 := q1.putI ht1 ((xd, 0, (xd.length : Int)), .slice ad xd.length cd) 2 (.int .i64 (xd.length : Int)) (by omega) (by rw [HD1T.out]; rfl) (by rw [HD1T.out]) (by rw [HD1T.out])
  obtain ⟨W2, hW2⟩ : ∃ W2, W2 = wv.setCell ⟨g, t * 3 + 2, none⟩ (.int .i64 (xd.length : Int)) := ⟨_, rfl⟩
  have HW2 : Hid (wv.setCell ⟨g, t * 3 + 2, none⟩ (.int .i64 (xd.length : Int)) = W2) := hW2.symm
  rw [← hW2] at hP2
  have HP2 : Hid (LBld W2 base (.slice (some ⟨g, 0, none⟩) n cap) (D1.set t ((xd, 0, (xd.length : Int)), .slice ad xd.length cd))) := hP2
  have HB2 : Hid (Below base w W2) := by show Below _ _ _; rw [hW2]; exact q2.setCell (p := ⟨g, t * 3 + 2, none⟩) HGB.out _
  have HG2 : Hid (w.grownBy W2 (some g)) := by show World.grownBy _ _ _; rw [hW2]; exact grown_set q5
  have hgl := HGL.out
  have hA2 : W2.heap[w.heap.size]? = some (.cells #[.slice (some ⟨g, 0, none⟩) n cap] 31) := by
    rw [hW2, heap_setCell_other _ _ _ _ (show w.heap.size ≠ g by omega)]; exact q3
  have hC2 : W2.heap[w.heap.size + 1]? = some (.cells #[.slice none 0 0] 31) := by
    rw [hW2, heap_setCell_other _ _ _ _ (show w.heap.size + 1 ≠ g by omega)]; exact q4
  have hl2 : t < (D1.set t ((xd, 0, (xd.length : Int)), Value.slice ad xd.length cd)).length := by rw [List.length_set]; exact ht1
  obtain ⟨⟨s0, _, _⟩, _, _⟩ := hP2.atI hl2
  simp only [List.getElem_set_self] at s0
  have d0 := cells_at hA2 0
  have e0 := cells_at hC2 0
  simp only [List.getElem?_toArray, List.getElem?_cons_zero] at d0 e0
  have g0 : W2.frozen? ⟨w.heap.size + 1, 0, none⟩ = false := by unfold World.frozen?; rw [hC2]; simp
  have HC2 : Hid (W2.heap[w.heap.size + 1]? = some (.cells #[.slice none 0 0] 31)) := hC2
  have HFAR : Hid ((∀ j, (Value.slice (some ⟨g, 0, none⟩) n cap).ownBlock = some j → j ≠ w.heap.size + 1) ∧ ∀ z ∈ D1.set t ((xd, 0, (xd.length : Int)), Value.slice ad xd.length cd), ∀ j, z.2.ownBlock = some j → j ≠ w.heap.size + 1) := by
    refine ⟨fun j hj => ?_, fun z hz j hj => ?_⟩
    · have q : g = j := Option.some.inj hj
      omega
    · have hz2 := HOW.out z hz j hj
      omega
  clear q1 q2 q3 q4 q5 hP2 hW2 hA2 hC2 hfz hgl
  refine wpAnyH_ready (rs := [12]) (by kernel_rfl) (by simp) ?_
  refine AllReadyH.cons rfl (fun K hK => ?_) AllReadyH.nil
  rw [if_pos (by rfl)]
  go_simp
  rw [HW2.out]
  refine hK.out _ _ ⟨d0, s0⟩ (fun hSS6 => ?_)
  clear hK hSS6 s0 r0 r1 r2 f2 HW2
  refine wpAnyH_done (by kernel_rfl) ?_ _
  refine NoPanic.normal ?_
  clear hHeld HK HSS
  go_wp2_with fail
  (try simp only [Exit.inBlock, Exit.then])
  refine bodyPost_ret (results_cell_row rfl _ _ (w.heap.size + 1) 31 #[.slice (some ⟨g, 0, none⟩) n cap] (0, 0) _ rfl ?_ Try.underlying31 rfl (by kernel_rfl)) rfl ⟨rfl, ⟨_, lbld_far2 HP2.out HFAR.out _, HTT.out⟩, ?_, ?_⟩
  · exact put1_heap HC2.out
  · exact HB2.out.setCell (p := ⟨w.heap.size + 1, 0, none⟩) (by show base ≤ w.heap.size + 1; omega) _
  · exact grown_new HG2.out (by omega) _
end Go.Proofs.Ytacmipcjhbkdcaa

namespace Go.Proofs.Ytacmipcjhbkdcaa
open Go.RowKit

/-! Every step leaves a good chain good. -/
theorem chB_iff {L : List LkT} : chB L = true ↔ (1 ≤ L.length ∧ L.length ≤ 6) ∧ (∀ k, k + 1 = L.length → tailB (L.getD k zLk) = true) ∧ ∀ k, k + 1 < L.length → aheadB (L.getD k zLk) (L.getD (k + 1) zLk) = true := by
  constructor
  · intro h
    refine ⟨chB_len h, fun k hk => ?_, fun k hk => ?_⟩
    · rw [getD_z (by omega)]; exact chB_tail h hk
    · rw [getD_z (show k < L.length by omega), getD_z hk]; exact chB_ahead h hk
  · rintro ⟨⟨h1, h6⟩, ht, ha⟩
    have key : ∀ m k, k < L.length → L.length = k + 1 + m → goodL (L.drop k) = true := by
      intro m
      induction m with
      | zero =>
        intro k hk e
        rw [goodL_last (show k + 1 = L.length by omega), ← getD_z hk]
        exact ht k (by omega)
      | succ m ih =>
        intro k hk e
        have hk1 : k + 1 < L.length := by omega
        rw [goodL_next hk1, ih (k + 1) hk1 (by omega), Bool.and_true, ← getD_z hk, ← getD_z hk1]
        exact ha k hk1
    have h0 := key (L.length - 1) 0 (by omega) (by omega)
    unfold chB
    simp only [List.drop_zero] at h0
    rw [h0]
    simp [h1, h6]
theorem tail_iff {x : LkT} : tailB x = true ↔ logB x.1 = true ∧ x.2.1 = 0 ∧ x.2.2 = (x.1.length : Int) := by
  unfold tailB
  simp only [Bool.and_eq_true, decide_eq_true_eq, and_assoc]
theorem ahead_iff {x y : LkT} : aheadB x y = true ↔ logB x.1 = true ∧ begB y.1 x.1 = true ∧ (0 ≤ x.2.1 ∧ x.2.1 ≤ (y.1.length : Int)) ∧ 0 ≤ x.2.2 ∧ x.2.2 ≤ y.2.2 := by
  unfold aheadB
  simp only [Bool.and_eq_true, decide_eq_true_eq, and_assoc]
theorem beg_iff {a b : List (List UInt8)} : begB a b = true ↔ a.length ≤ b.length ∧ a = b.take a.length := by
  unfold begB
  simp only [Bool.and_eq_true, decide_eq_true_eq, beq_iff_eq]
theorem beg_refl (a : List (List UInt8)) : begB a a = true := by rw [beg_iff]; simp
theorem beg_pre {a b : List (List UInt8)} : begB a b = true ↔ ∃ c, b = a ++ c := by
  rw [beg_iff]
  constructor
  · rintro ⟨_, h⟩
    exact ⟨b.drop a.length, by conv => lhs; rw [← List.take_append_drop a.length b, ← h]⟩
  · rintro ⟨c, rfl⟩
    simp
theorem beg_trans {a b c : List (List UInt8)} (h1 : begB a b = true) (h2 : begB b c = true) : begB a c = true := by
  rw [beg_pre] at *
  obtain ⟨x, rfl⟩ := h1
  obtain ⟨y, rfl⟩ := h2
  exact ⟨x ++ y, by rw [List.append_assoc]⟩
theorem beg_add {a b : List (List UInt8)} (h : begB a b = true) (s : List UInt8) : begB a (b ++ [s]) = true := by
  rw [beg_pre] at *
  obtain ⟨x, rfl⟩ := h
  exact ⟨x ++ [s], by rw [List.append_assoc]⟩
/-- The first text that is not there yet may be added. -/
theorem beg_next {a b : List (List UInt8)} (h : begB a b = true) (hl : a.length < b.length) : begB (a ++ [b.getD a.length []]) b = true := by
  rw [beg_pre] at *
  obtain ⟨x, rfl⟩ := h
  cases x with
  | nil => simp at hl
  | cons y r =>
    refine ⟨r, ?_⟩
    have e : (a ++ y :: r).getD a.length [] = y := by
      rw [List.getD_eq_getElem?_getD, List.getElem?_append_right (Nat.le_refl _), Nat.sub_self]; rfl
    rw [e, List.append_assoc]; rfl
theorem log_add {l : List (List UInt8)} {s : List UInt8} (h : logB l = true) (hl : l.length < 40) (hs : s.length ≤ 20) : logB (l ++ [s]) = true := by
  unfold logB at *
  simp only [Bool.and_eq_true, decide_eq_true_eq, List.all_eq_true] at h ⊢
  refine ⟨by rw [List.length_append]; simp; omega, fun p hp => ?_⟩
  rcases List.mem_append.1 hp with hp | hp
  · exact h.2 p hp
  · rw [List.mem_singleton.1 hp]; exact hs
theorem getD_set {L : List LkT} {i j : Nat} {x : LkT} (hi : i < L.length) : (L.set i x).getD j zLk = if i = j then x else L.getD j zLk := by
  rw [List.getD_eq_getElem?_getD, List.getElem?_set, List.getD_eq_getElem?_getD]
  split
  · rfl
  · rfl
theorem sure_log {L : List LkT} (h : chB L = true) {k : Nat} (hk : k < L.length) : (L.getD k zLk).2.2 ≤ ((L.getD k zLk).1.length : Int) ∧ 0 ≤ (L.getD k zLk).2.2 := by
  have h1 := chB_sure h (L.length - 1 - k) k hk (by omega)
  rw [getD_z hk]
  omega
/-- keep: a text more at the link k, which the one ahead has already. -/
theorem keep_good {L : List LkT} {k : Nat} {s : List UInt8} (h : chB L = true) (hk : k < L.length) (hs : s.length ≤ 20) (hl : (L.getD k zLk).1.length < 40) (hp : 0 < k → begB ((L.getD k zLk).1 ++ [s]) (L.getD (k - 1) zLk).1 = true) : chB (keepL L k s) = true := by
  obtain ⟨h16, ht, ha⟩ := chB_iff.1 h
  have hlog : logB (L.getD k zLk).1 = true := by rw [getD_z hk]; exact chB_log h hk
  have hlog2 := log_add hlog hl hs
  have hsl := sure_log h hk
  obtain ⟨x, hx⟩ : ∃ x, x = L.getD k zLk := ⟨_, rfl⟩
  have hget : ∀ j, j < L.length → (keepL L k s).getD j zLk = if j = k then (x.1 ++ [s], x.2.1, if k + 1 = L.length then (x.1.length : Int) + 1 else x.2.2) else if j + 1 = k then ((L.getD j zLk).1, (x.1.length : Int) + 1, (L.getD j zLk).2.2) else L.getD j zLk := by
    intro j hj
    unfold keepL
    rw [← hx]
    by_cases h0 : 0 < k
    · simp only [if_pos h0]
      rw [getD_set (by rw [List.length_set]; omega), getD_set hk]
      by_cases e1 : j = k
      · rw [if_neg (by omega), if_pos e1.symm, if_pos e1]
      · by_cases e2 : j + 1 = k
        · have e3 : k - 1 = j := by omega
          rw [if_pos e3, if_neg e1, if_pos e2, e3]
        · rw [if_neg (by omega), if_neg (by omega), if_neg e1, if_neg e2]
    · simp only [if_neg h0]
      rw [getD_set hk]
      by_cases e1 : j = k
      · rw [if_pos e1.symm, if_pos e1]
      · rw [if_neg (by omega), if_neg e1, if_neg (by omega)]
  have hlen : (keepL L k s).length = L.length := by
    unfold keepL
    by_cases h0 : 0 < k
    · simp only [if_pos h0, List.length_set]
    · simp only [if_neg h0, List.length_set]
  rw [← hx] at hlog2 hsl hp
  rw [chB_iff, hlen]
  refine ⟨h16, fun j hj => ?_, fun j hj => ?_⟩
  · rw [hget j (by omega)]
    have h1 := ht j hj
    by_cases e1 : j = k
    · subst e1
      rw [if_pos rfl, if_pos hj]
      rw [← hx, tail_iff] at h1
      rw [tail_iff]
      exact ⟨hlog2, h1.2.1, by simp⟩
    · rw [if_neg e1, if_neg (by omega)]; exact h1
  · rw [hget j (by omega), hget (j + 1) hj]
    have h1 := ha j hj
    by_cases e1 : j = k
    · subst e1
      rw [if_pos rfl, if_neg (by omega), if_neg (by omega), if_neg (by omega)]
      rw [← hx, ahead_iff] at h1
      rw [ahead_iff]
      exact ⟨hlog2, beg_add h1.2.1 s, h1.2.2.1, h1.2.2.2⟩
    · rw [if_neg e1]
      by_cases e2 : j + 1 = k
      · subst e2
        rw [if_pos rfl, if_pos rfl]
        have h3 := hp (by omega)
        rw [Nat.add_sub_cancel] at h3
        rw [← hx, ahead_iff] at h1
        rw [ahead_iff]
        refine ⟨h1.1, h3, ⟨by simp only; omega, by simp⟩, h1.2.2.2.1, ?_⟩
        simp only
        have h4 := h1.2.2.2.2
        split
        · omega
        · exact h4
      · rw [if_neg e2, if_neg e2]
        by_cases e3 : j + 1 + 1 = k
        · rw [if_pos e3]
          rw [ahead_iff] at h1 ⊢
          exact h1
        · rw [if_neg e3]; exact h1
end Go.Proofs.Ytacmipcjhbkdcaa

namespace Go.Proofs.Ytacmipcjhbkdcaa
open Go.RowKit

theorem getD_mem {α : Type} {l : List α} {i : Nat} {d : α} (h : i < l.length) : l.getD i d ∈ l := by
  rw [List.getD_eq_getElem?_getD, List.getElem?_eq_getElem h]
  exact List.getElem_mem h
theorem log_of {L : List LkT} (h : chB L = true) {k : Nat} (hk : k < L.length) : logB (L.getD k zLk).1 = true := by rw [getD_z hk]; exact chB_log h hk
theorem put_good {L : List LkT} {s : List UInt8} (h : chB L = true) : chB (putL L s) = true := by
  unfold putL
  split
  · rename_i hb
    have h16 := chB_len h
    have hk : 0 < L.length := by omega
    have hl := logB_len (log_of h hk)
    unfold putB at hb
    simp only [Bool.not_eq_true', Bool.or_eq_false_iff, decide_eq_false_iff_not] at hb
    exact keep_good h hk (by omega) (by omega) (fun h0 => absurd h0 (by omega))
  · exact h
theorem pass_good {L : List LkT} {k : Int} (h : chB L = true) : chB (passL L k) = true := by
  unfold passL
  split
  · rename_i hb
    unfold passB nextB at hb
    simp only [Bool.and_eq_true, decide_eq_true_eq] at hb
    have h16 := chB_len h
    obtain ⟨j, rfl⟩ : ∃ j : Nat, k = (j : Int) := ⟨k.toNat, by omega⟩
    have e : ((j : Int)).toNat = j := by omega
    rw [e] at hb ⊢
    have hj : j + 1 < L.length := by omega
    obtain ⟨_, _, ha⟩ := chB_iff.1 h
    have h1 := ahead_iff.1 (ha j hj)
    have hlj := log_of h (show j < L.length by omega)
    have hll := logB_len hlj
    refine keep_good h hj ?_ (by omega) (fun _ => ?_)
    · exact logB_text hlj _ (getD_mem hb.2)
    · rw [Nat.add_sub_cancel]
      exact beg_next h1.2.1 hb.2
  · exact h
theorem back_good {L : List LkT} {k : Int} (h : chB L = true) : chB (backL L k) = true := by
  unfold backL
  split
  · rename_i hb
    unfold backB nextB at hb
    simp only [Bool.and_eq_true, decide_eq_true_eq] at hb
    obtain ⟨i, rfl⟩ : ∃ j : Nat, k = (j : Int) := ⟨k.toNat, by omega⟩
    have e : ((i : Int)).toNat = i := by omega
    rw [e] at hb ⊢
    have hi : i + 1 < L.length := by omega
    obtain ⟨h16, ht, ha⟩ := chB_iff.1 h
    have hib := ha i hi
    obtain ⟨y, hy⟩ : ∃ y, y = L.getD (i + 1) zLk := ⟨_, rfl⟩
    have hys := (sure_log h hi).2
    rw [← hy] at hb hib hys ⊢
    unfold learnL
    rw [if_pos hb.2]
    have hlt : (L.getD i zLk).2.2 < y.2.2 := by have := hb.2; unfold learnB at this; simpa using this
    obtain ⟨x, hx⟩ : ∃ x, x = L.getD i zLk := ⟨_, rfl⟩
    have hg : ∀ j, (L.set i (x.1, x.2.1, y.2.2)).getD j zLk = if i = j then (x.1, x.2.1, y.2.2) else L.getD j zLk := fun j => getD_set (by omega)
    rw [← hx] at hlt hib ⊢
    rw [chB_iff, List.length_set]
    refine ⟨h16, fun j hj => ?_, fun j hj => ?_⟩
    · rw [hg, if_neg (by omega)]; exact ht j hj
    · rw [hg, hg]
      have h1 := ha j hj
      by_cases e1 : i = j
      · subst e1
        rw [if_pos rfl, if_neg (by omega), ← hy]
        rw [ahead_iff] at hib ⊢
        exact ⟨hib.1, hib.2.1, hib.2.2.1, hys, by simp⟩
      · rw [if_neg e1]
        by_cases e2 : i = j + 1
        · rw [if_pos e2]
          rw [← e2, ← hx, ahead_iff] at h1
          rw [ahead_iff]
          refine ⟨h1.1, h1.2.1, h1.2.2.1, h1.2.2.2.1, ?_⟩
          simp only
          have := h1.2.2.2.2
          omega
        · rw [if_neg e2]; exact h1
  · exact h
theorem join_good {L : List LkT} (h : chB L = true) : chB (joinL L) = true := by
  unfold joinL
  split
  · rename_i hb
    unfold joinB at hb
    simp only [Bool.not_eq_true', decide_eq_false_iff_not] at hb
    obtain ⟨h16, ht, ha⟩ := chB_iff.1 h
    obtain ⟨t, htl⟩ : ∃ t, L.length = t + 1 := ⟨L.length - 1, by omega⟩
    have htt := ht t htl.symm
    have e0 : L.length - 1 = t := by omega
    rw [e0]
    obtain ⟨x, hx⟩ : ∃ x, x = L.getD t zLk := ⟨_, rfl⟩
    rw [← hx] at htt ⊢
    obtain ⟨M, hM⟩ : ∃ M, M = L.set t (x.1, (x.1.length : Int), x.2.2) ++ [(x.1, 0, 0)] := ⟨_, rfl⟩
    have hMl : M.length = L.length + 1 := by rw [hM, List.length_append, List.length_set]; rfl
    have hMg : ∀ j, M.getD j zLk = if j = t + 1 then (x.1, 0, 0) else if t = j then (x.1, (x.1.length : Int), x.2.2) else L.getD j zLk := by
      intro j
      rw [hM, List.getD_eq_getElem?_getD]
      by_cases e1 : j = t + 1
      · rw [if_pos e1, e1, List.getElem?_append_right (by rw [List.length_set]; omega), List.length_set, htl, Nat.sub_self]; rfl
      · rw [if_neg e1]
        by_cases e2 : j < L.length
        · rw [List.getElem?_append_left (by rw [List.length_set]; exact e2), ← List.getD_eq_getElem?_getD, getD_set (by omega)]
        · rw [List.getElem?_eq_none (by rw [List.length_append, List.length_set]; simp; omega), if_neg (by omega), List.getD_eq_getElem?_getD, List.getElem?_eq_none (by omega)]
    rw [← hM]
    have hsl : (sealL M).length = L.length + 1 := by unfold sealL; rw [List.length_set]; exact hMl
    have hsg : ∀ j, (sealL M).getD j zLk = if j = t + 1 then (x.1, 0, (x.1.length : Int)) else M.getD j zLk := by
      intro j
      have e3 : M.length - 1 = t + 1 := by omega
      unfold sealL
      rw [getD_set (by omega), e3]
      by_cases e1 : j = t + 1
      · rw [if_pos e1.symm, if_pos e1, hMg, if_pos rfl]
      · rw [if_neg (by omega), if_neg e1]
    rw [tail_iff] at htt
    rw [chB_iff, hsl]
    refine ⟨by omega, fun j hj => ?_, fun j hj => ?_⟩
    · rw [hsg, if_pos (by omega), tail_iff]
      exact ⟨htt.1, rfl, rfl⟩
    · rw [hsg, if_neg (by omega), hMg, if_neg (by omega)]
      by_cases e1 : t = j
      · subst e1
        rw [if_pos rfl, hsg, if_pos rfl, ahead_iff]
        refine ⟨htt.1, beg_refl _, ⟨by simp, by simp⟩, ?_, ?_⟩
        · simp only; omega
        · simp only; omega
      · rw [if_neg e1, hsg, if_neg (by omega), hMg, if_neg (by omega)]
        have h1 := ha j (by omega)
        by_cases e2 : t = j + 1
        · rw [if_pos e2]
          rw [← e2, ← hx, ahead_iff] at h1
          rw [ahead_iff]
          exact h1
        · rw [if_neg e2]; exact h1
  · exact h
end Go.Proofs.Ytacmipcjhbkdcaa

namespace Go.Proofs.Ytacmipcjhbkdcaa
open Go.RowKit

theorem getD_erase {L : List LkT} {k j : Nat} : (L.eraseIdx k).getD j zLk = if j < k then L.getD j zLk else L.getD (j + 1) zLk := by
  rw [List.getD_eq_getElem?_getD, List.getElem?_eraseIdx]
  split
  · rw [List.getD_eq_getElem?_getD]
  · rw [List.getD_eq_getElem?_getD]
theorem getD_sent0 {M : List LkT} {k j : Nat} (hk : k ≤ M.length) : (sent0L M k).getD j zLk = if j + 1 = k then ((M.getD j zLk).1, 0, (M.getD j zLk).2.2) else M.getD j zLk := by
  unfold sent0L
  by_cases h0 : 0 < k
  · rw [if_pos h0, getD_set (by omega)]
    by_cases e : j + 1 = k
    · have e2 : k - 1 = j := by omega
      rw [if_pos e, if_pos e2, e2]
    · rw [if_neg e, if_neg (by omega)]
  · rw [if_neg h0, if_neg (by omega)]
theorem sent0_len (M : List LkT) (k : Nat) : (sent0L M k).length = M.length := by
  unfold sent0L
  split
  · rw [List.length_set]
  · rfl
theorem getD_seal {M : List LkT} {j : Nat} (hM : 0 < M.length) : (sealL M).getD j zLk = if j + 1 = M.length then ((M.getD j zLk).1, (M.getD j zLk).2.1, ((M.getD j zLk).1.length : Int)) else M.getD j zLk := by
  unfold sealL
  rw [getD_set (by omega)]
  by_cases e : j + 1 = M.length
  · have e2 : M.length - 1 = j := by omega
    rw [if_pos e, if_pos e2, e2]
  · rw [if_neg e, if_neg (by omega)]
theorem fail_good {L : List LkT} {k : Int} (h : chB L = true) : chB (failL L k) = true := by
  unfold failL
  split
  · rename_i hb
    unfold failB at hb
    simp only [Bool.and_eq_true, decide_eq_true_eq, Bool.not_eq_true', decide_eq_false_iff_not] at hb
    obtain ⟨i, rfl⟩ : ∃ j : Nat, k = (j : Int) := ⟨k.toNat, by omega⟩
    have e : ((i : Int)).toNat = i := by omega
    rw [e]
    have hi : i < L.length := by omega
    obtain ⟨h16, ht, ha⟩ := chB_iff.1 h
    obtain ⟨n, hn⟩ : ∃ n, L.length = n + 1 := ⟨L.length - 1, by omega⟩
    have hMl : (L.eraseIdx i).length = n := by rw [List.length_eraseIdx, if_pos hi, hn]; rfl
    have hTl : (sent0L (L.eraseIdx i) i).length = n := by rw [sent0_len, hMl]
    have hn0 : 0 < n := by omega
    have hg : ∀ j, (sealL (sent0L (L.eraseIdx i) i)).getD j zLk = if j + 1 = n then ((if j < i then L.getD j zLk else L.getD (j + 1) zLk).1, (if j + 1 = i then 0 else (if j < i then L.getD j zLk else L.getD (j + 1) zLk).2.1), ((if j < i then L.getD j zLk else L.getD (j + 1) zLk).1.length : Int)) else ((if j < i then L.getD j zLk else L.getD (j + 1) zLk).1, (if j + 1 = i then 0 else (if j < i then L.getD j zLk else L.getD (j + 1) zLk).2.1), (if j < i then L.getD j zLk else L.getD (j + 1) zLk).2.2) := by
      intro j
      rw [getD_seal (by omega), hTl, getD_sent0 (by omega), getD_erase]
      by_cases e1 : j + 1 = i
      · rw [if_pos e1, if_pos e1]
      · rw [if_neg e1, if_neg e1]
    have hRl : (sealL (sent0L (L.eraseIdx i) i)).length = n := by unfold sealL; rw [List.length_set, hTl]
    rw [chB_iff, hRl]
    refine ⟨by omega, fun j hj => ?_, fun j hj => ?_⟩
    · rw [hg, if_pos hj, tail_iff]
      by_cases e1 : j < i
      · have e2 : j + 1 = i := by omega
        simp only [if_pos e1, if_pos e2]
        exact ⟨log_of h (by omega), trivial, trivial⟩
      · have e2 : ¬ j + 1 = i := by omega
        simp only [if_neg e1, if_neg e2]
        have h1 := tail_iff.1 (ht (j + 1) (by omega))
        exact ⟨h1.1, h1.2.1, trivial⟩
    · have hs : ∀ z : LkT, z.2.2 ≤ (z.1.length : Int) → z.2.2 ≤ (if j + 1 + 1 = n then (z.1.length : Int) else z.2.2) := fun z hz => by
        split
        · exact hz
        · exact Int.le_refl _
      have key : ∀ x y : LkT, ∀ se : Int, logB x.1 = true → begB y.1 x.1 = true → (0 ≤ se ∧ se ≤ (y.1.length : Int)) → (0 ≤ x.2.2 ∧ x.2.2 ≤ y.2.2) → y.2.2 ≤ (y.1.length : Int) → ∀ sy : Int, aheadB (x.1, se, x.2.2) (if j + 1 + 1 = n then (y.1, sy, (y.1.length : Int)) else (y.1, sy, y.2.2)) = true := fun x y se a1 a2 a3 a4 a5 sy => by
        split
        · rw [ahead_iff]; exact ⟨a1, a2, a3, a4.1, by simp only; omega⟩
        · rw [ahead_iff]; exact ⟨a1, a2, a3, a4⟩
      rw [hg j, if_neg (show ¬ j + 1 = n by omega), hg (j + 1)]
      by_cases e1 : j + 1 < i
      · have h1 := ahead_iff.1 (ha j (by omega))
        simp only [if_pos (show j < i by omega), if_pos e1, if_neg (show ¬ j + 1 = i by omega)]
        exact key _ _ _ h1.1 h1.2.1 h1.2.2.1 h1.2.2.2 (sure_log h (by omega)).1 _
      · by_cases e2 : j + 1 = i
        · have h1 := ahead_iff.1 (ha j (by omega))
          have h2 := ahead_iff.1 (ha (j + 1) (by omega))
          simp only [if_pos (show j < i by omega), if_neg e1, if_pos e2]
          refine key _ _ _ h1.1 (beg_trans h2.2.1 h1.2.1) ⟨by omega, by omega⟩ ⟨h1.2.2.2.1, ?_⟩ (sure_log h (by omega)).1 _
          have := h1.2.2.2.2
          have := h2.2.2.2.2
          omega
        · have h2 := ahead_iff.1 (ha (j + 1) (by omega))
          simp only [if_neg (show ¬ j < i by omega), if_neg e1, if_neg e2]
          exact key _ _ _ h2.1 h2.2.1 h2.2.2.1 h2.2.2.2 (sure_log h (by omega)).1 _
  · exact h
/-- What a step leaves is a good chain. -/
theorem step_good {L : List LkT} {t : StepT} (h : chB L = true) : chB (stepL L t) = true := by
  unfold stepL
  split
  · exact put_good h
  · split
    · exact pass_good h
    · split
      · exact back_good h
      · split
        · exact fail_good h
        · split
          · exact join_good h
          · exact h
end Go.Proofs.Ytacmipcjhbkdcaa

namespace Go.Proofs.Ytacmipcjhbkdcaa
open Go.RowKit

/-! l15Step: what lies in memory while it runs (w: the world that it was called in; three boxes behind it). -/
def OffL (w : World) (D : List (LkT × Value)) : Prop := ∀ x ∈ D, ∀ j, x.2.ownBlock = some j → j < w.heap.size ∨ w.heap.size + 3 ≤ j
/-- Blocks of the world that it was called in that are neither strings nor links stay as they are. -/
def Oth (w W : World) : Prop := ∀ (b : Nat) (cs : Array Value) (t : TypeId), w.heap[b]? = some (Obj.cells cs t) → t ≠ 9 → t ≠ 71 → W.heap[b]? = w.heap[b]?
def Kind (W : World) (g : Nat) : Prop := ∃ (cs : Array Value) (e : TypeId), W.heap[g]? = some (Obj.cells cs e) ∧ (e = 9 ∨ e = 71)
theorem oth_ltC {W : World} {g : Nat} {o : Obj} (h : W.heap[g]? = some o) : g < W.heap.size := (Array.getElem?_eq_some_iff.1 h).1
theorem own_kind {W : World} {base e size n : Nat} {u : Value} {xs : List Value} (ho : W.ownsRow base e size u n xs) (he : e = 9 ∨ e = 71) : ∀ j, u.ownBlock = some j → Kind W j := by
  intro j hj
  obtain ⟨_, h0 | ⟨g2, c2, cur, e2, _, hg, _⟩⟩ := ho
  · rw [h0.1] at hj; cases hj
  · rw [e2] at hj
    have q : g2 = j := Option.some.inj hj
    subst q
    exact ⟨_, _, hg, he⟩
theorem Oth.at {w W : World} (h : Oth w W) {b g : Nat} {cs : Array Value} {t : TypeId} (h1 : w.heap[b]? = some (Obj.cells cs t)) (h9 : t ≠ 9) (hk : t ≠ 71) (hg : Kind W g) : b ≠ g := by
  intro e
  subst e
  obtain ⟨cs2, e2, h3, h4⟩ := hg
  rw [h b cs t h1 h9 hk, h1] at h3
  injection h3 with h3
  injection h3 with _ h3 _
  rcases h4 with h4 | h4
  · exact h9 (h3.trans h4)
  · exact hk (h3.trans h4)
theorem Oth.below {w W W' : World} (h : Oth w W) (hs : w.heap.size ≤ W.heap.size) (hb : Below W.heap.size W W') : Oth w W' := fun b cs t h1 h9 hk => (hb.block b (Nat.lt_of_lt_of_le (oth_ltC h1) hs)).trans (h b cs t h1 h9 hk)
theorem Oth.set {w W : World} (h : Oth w W) {g : Nat} (hg : Kind W g) (i : Nat) (u : Value) : Oth w (W.setCell ⟨g, i, none⟩ u) := fun b cs t h1 h9 hk => by
  rw [heap_setCell_other _ _ _ _ (h.at h1 h9 hk hg)]; exact h b cs t h1 h9 hk
theorem Oth.new {w W : World} (h : Oth w W) {g : Nat} (hg : w.heap.size ≤ g) (i : Nat) (u : Value) : Oth w (W.setCell ⟨g, i, none⟩ u) := fun b cs t h1 h9 hk => by
  have := oth_ltC h1
  rw [heap_setCell_other _ _ _ _ (show b ≠ g by omega)]; exact h b cs t h1 h9 hk
theorem Oth.grown {w W W' : World} {row : Option Nat} (h : Oth w W) (hs : w.heap.size ≤ W.heap.size) (hg : W.grownBy W' row) (hr : ∀ j, row = some j → Kind W j ∨ w.heap.size ≤ j) : Oth w W' := fun b cs t h1 h9 hk => by
  have hlt := oth_ltC h1
  refine (hg.block b (Nat.lt_of_lt_of_le hlt hs) (fun e => ?_)).trans (h b cs t h1 h9 hk)
  rcases hr b e.symm with h5 | h5
  · exact h.at h1 h9 hk h5 rfl
  · omega
def StB (w W : World) (v : Value) (kd k : Int) (s : List UInt8) : Prop :=
  W.heap[w.heap.size]? = some (.cells #[v] 31) ∧ W.heap[w.heap.size + 1]? = some (.cells #[.int .i64 kd, .int .i64 k, .string ⟨s.toArray⟩] 35) ∧ W.heap[w.heap.size + 1 + 1]? = some (.cells #[.slice none 0 0] 31)
def StL (w W : World) (base g cap n : Nat) (kd k : Int) (s : List UInt8) (D : List (LkT × Value)) : Prop :=
  LBld W base (.slice (some ⟨g, 0, none⟩) n cap) D ∧ OffL w D ∧ (g < w.heap.size ∨ w.heap.size + 3 ≤ g) ∧ Below base w W ∧ StB w W (.slice (some ⟨g, 0, none⟩) n cap) kd k s ∧ Oth w W
/-- What l15Step tells. -/
def SpAns (w w' : World) (base : Nat) (e : Ending) (L : List LkT) (b : Bool) : Prop :=
  ∃ g cap n D, e = .returned (.tuple #[ChV (.slice (some ⟨g, 0, none⟩) n cap), .bool b]) ∧ LBld w' base (.slice (some ⟨g, 0, none⟩) n cap) D ∧ lkf D = L ∧ Below base w w' ∧ Oth w w'
def w3 (w : World) (v : Value) (kd k : Int) (s : List UInt8) : World := ((w.alloc (.cells #[v] 31)).alloc (.cells #[.int .i64 kd, .int .i64 k, .string ⟨s.toArray⟩] 35)).alloc (.cells #[.slice none 0 0] 31)
theorem w3_size (w : World) (v : Value) (kd k : Int) (s : List UInt8) : (w3 w v kd k s).heap.size = w.heap.size + 3 := by unfold w3; simp
theorem w3_below (w : World) (v : Value) (kd k : Int) (s : List UInt8) : Below w.heap.size w (w3 w v kd k s) := by
  unfold w3; exact (((Below.refl _ _).alloc (Nat.le_refl _) _).alloc (by simp) _).alloc (by simp; omega) _
theorem w3_boxes (w : World) (v : Value) (kd k : Int) (s : List UInt8) : StB w (w3 w v kd k s) v kd k s := by
  have hs1 : (w.alloc (.cells #[v] 31)).heap.size = w.heap.size + 1 := by simp
  have hs2 : ((w.alloc (.cells #[v] 31)).alloc (.cells #[.int .i64 kd, .int .i64 k, .string ⟨s.toArray⟩] 35)).heap.size = w.heap.size + 1 + 1 := by simp
  unfold w3
  refine ⟨?_, ?_, ?_⟩
  · rw [heap_alloc_old _ _ (by omega), heap_alloc_old _ _ (by omega)]; exact heap_alloc_new _ _
  · rw [heap_alloc_old _ _ (by omega), ← hs1]; exact heap_alloc_new _ _
  · rw [← hs2]; exact heap_alloc_new _ _
theorem st_new {w : World} {base g cap n : Nat} {D : List (LkT × Value)} (kd k : Int) (s : List UInt8) (h : LBld w base (.slice (some ⟨g, 0, none⟩) n cap) D) (hb : base ≤ w.heap.size) : StL w (w3 w (.slice (some ⟨g, 0, none⟩) n cap) kd k s) base g cap n kd k s D :=
  ⟨h.kept (w3_below _ _ _ _ _), fun x hx j hj => .inl (h.lt.2 x hx j hj).2, .inl (h.lt.1 g (by simp [Value.ownBlock])).2, (w3_below _ _ _ _ _).mono hb, w3_boxes _ _ _ _ _, fun b cs t h1 _ _ => (w3_below _ _ _ _ _).block b (oth_ltC h1)⟩
theorem blk_ltC {W : World} {g : Nat} {o : Obj} (h : W.heap[g]? = some o) : g < W.heap.size := (Array.getElem?_eq_some_iff.1 h).1
theorem StB.kept {w W W' : World} {v : Value} {kd k : Int} {s : List UInt8} (h : StB w W v kd k s) (hb : Below W.heap.size W W') : StB w W' v kd k s :=
  ⟨(hb.block _ (blk_ltC h.1)).trans h.1, (hb.block _ (blk_ltC h.2.1)).trans h.2.1, (hb.block _ (blk_ltC h.2.2)).trans h.2.2⟩
theorem StB.cells {w W : World} {v : Value} {kd k : Int} {s : List UInt8} (h : StB w W v kd k s) : (W.cell? ⟨w.heap.size, 0, none⟩ = some v) ∧ (W.cell? ⟨w.heap.size + 1, 0, none⟩ = some (.int .i64 kd) ∧ W.cell? ⟨w.heap.size + 1, 1, none⟩ = some (.int .i64 k) ∧ W.cell? ⟨w.heap.size + 1, 2, none⟩ = some (.string ⟨s.toArray⟩)) ∧ W.cell? ⟨w.heap.size + 1 + 1, 0, none⟩ = some (.slice none 0 0) ∧ W.frozen? ⟨w.heap.size + 1 + 1, 0, none⟩ = false := by
  have e1 := cells_at h.1 0
  have e2 := cells_at h.2.1 0
  have e3 := cells_at h.2.1 1
  have e4 := cells_at h.2.1 2
  have e5 := cells_at h.2.2 0
  refine ⟨e1, ⟨e2, e3, e4⟩, e5, ?_⟩
  unfold World.frozen?; rw [h.2.2]; simp
theorem StB.far {w W : World} {v : Value} {kd k : Int} {s : List UInt8} {g i : Nat} (h : StB w W v kd k s) (hg : g < w.heap.size ∨ w.heap.size + 3 ≤ g) (u : Value) : StB w (W.setCell ⟨g, i, none⟩ u) v kd k s := by
  refine ⟨?_, ?_, ?_⟩
  · rw [heap_setCell_other _ _ _ _ (show w.heap.size ≠ g by omega)]; exact h.1
  · rw [heap_setCell_other _ _ _ _ (show w.heap.size + 1 ≠ g by omega)]; exact h.2.1
  · rw [heap_setCell_other _ _ _ _ (show w.heap.size + 1 + 1 ≠ g by omega)]; exact h.2.2
theorem StL.kept {w W W' : World} {base g cap n : Nat} {kd k : Int} {s : List UInt8} {D : List (LkT × Value)} (h : StL w W base g cap n kd k s D) (hbs : base ≤ W.heap.size) (hb : Below W.heap.size W W') : StL w W' base g cap n kd k s D :=
  ⟨h.1.kept hb, h.2.1, h.2.2.1, h.2.2.2.1.trans (hb.mono hbs), h.2.2.2.2.1.kept hb, h.2.2.2.2.2.below h.2.2.2.1.size hb⟩
/-- The links as they are told at the end, the result's box written. -/
theorem StL.fin {w W : World} {base g cap n : Nat} {kd k : Int} {s : List UInt8} {D : List (LkT × Value)} (h : StL w W base g cap n kd k s D) (hb : base ≤ w.heap.size) (u : Value) : LBld (W.setCell ⟨w.heap.size + 1 + 1, 0, none⟩ u) base (.slice (some ⟨g, 0, none⟩) n cap) D ∧ Below base w (W.setCell ⟨w.heap.size + 1 + 1, 0, none⟩ u) ∧ Oth w (W.setCell ⟨w.heap.size + 1 + 1, 0, none⟩ u) := by
  refine ⟨lbld_far2 h.1 ⟨fun j hj => ?_, fun x hx j hj => ?_⟩ u, h.2.2.2.1.setCell (p := ⟨w.heap.size + 1 + 1, 0, none⟩) (by show base ≤ w.heap.size + 1 + 1; omega) _, h.2.2.2.2.2.new (by omega) _ _⟩
  · have q : g = j := Option.some.inj hj
    have := h.2.2.1
    omega
  · have := h.2.1 x hx j hj
    omega

/-! The specification's tail, at good chains. -/
theorem tail_seal {M : List LkT} (h : (M.getD (M.length - 1) zLk).2.1 = 0) : tailT M = sealL M := by
  unfold tailT sealL
  rw [h]
theorem list_same {A B : List LkT} (hl : A.length = B.length) (h : ∀ j, j < A.length → A.getD j zLk = B.getD j zLk) : A = B := by
  refine List.ext_getElem hl fun j h1 h2 => ?_
  have := h j h1
  rw [getD_z h1, getD_z h2] at this
  exact this
end Go.Proofs.Ytacmipcjhbkdcaa

namespace Go.Proofs.Ytacmipcjhbkdcaa
open Go.RowKit

set_option linter.unusedSimpArgs false in
set_option maxRecDepth 20000 in
set_option maxHeartbeats 4000000 in
theorem l15Step_out (base g cap n : Nat) (D : List (LkT × Value)) (kd k : Int) (s : List UInt8) (w : World) (h : LBld w base (.slice (some ⟨g, 0, none⟩) n cap) D) (hn : n = D.length) (h16 : 1 ≤ n ∧ n ≤ 6) (hb : base ≤ w.heap.size) (h1 : kd ≠ 1) (h5 : kd ≠ 5) (ho : (decide (0 ≤ k) && decide (k ≤ (n : Int) - 1)) = false) :
    Calls Try.prog 25 #[ChV (.slice (some ⟨g, 0, none⟩) n cap), .agg #[.int .i64 kd, .int .i64 k, .string ⟨s.toArray⟩]] w fun e w' => SpAns w w' base e (lkf D) false := by
  unfold ChV
  obtain ⟨t, ht⟩ : ∃ t, n = t + 1 := ⟨n - 1, by omega⟩
  obtain ⟨W0, hW0⟩ : ∃ W0, W0 = w3 w (.slice (some ⟨g, 0, none⟩) n cap) kd k s := ⟨_, rfl⟩
  have HW0 : Hid (((w.alloc (.cells #[.slice (some ⟨g, 0, none⟩) n cap] 31)).alloc (.cells #[.int .i64 kd, .int .i64 k, .string ⟨s.toArray⟩] 35)).alloc (.cells #[.slice none 0 0] 31) = W0) := by show _ = _; rw [hW0]; rfl
  have HST : Hid (StL w W0 base g cap n kd k s D) := by show StL _ _ _ _ _ _ _ _ _ _; rw [hW0]; exact st_new kd k s h hb
  have HZ : Hid (W0.heap.size = w.heap.size + 3) := by show _ = _; rw [hW0]; exact w3_size _ _ _ _ _
  obtain ⟨c0, ⟨c1, c2, c3⟩, c4, f4⟩ := HST.out.2.2.2.2.1.cells
  have hnt : (n : Int) - 1 = (t : Int) := by omega
  have wt : IntKind.i64.wrap ((n : Int) - 1) = (t : Int) := by rw [i64_wrapC (by omega) (by omega)]; omega
  have HWI : Hid (∀ W, Calls Try.prog 40 #[.int .i64 k, .int .i64 0, .int .i64 (t : Int)] W fun e w' => e = .returned (.bool (decide (0 ≤ k) && decide (k ≤ (t : Int)))) ∧ w' = W) := fun W => l1In_any _ _ _ W
  have e1 : (kd == (1 : Int)) = false := by rw [beq_eq_false_iff_ne]; exact h1
  have e5 : (kd == (5 : Int)) = false := by rw [beq_eq_false_iff_ne]; exact h5
  have HBS : Hid (base ≤ w.heap.size) := hb
  rw [hnt] at ho
  rw [ho] at HWI
  clear h hn hW0 ht ho h1 h5
  go_enter Try.func25, Try.ntmps25
  go_wp2_with (rw [HW0.out])
  refine (HWI.out _).mono ?_
  rintro e w1 ⟨rfl, rfl⟩
  go_wp2_with fail
  (try simp only [Exit.inBlock, Exit.then])
  refine bodyPost_ret (results_row_tmp rfl _ _ (w.heap.size + 1 + 1) 31 #[.slice (some ⟨g, 0, none⟩) n cap] (0, 0) _ (.bool false) rfl rfl ?_ Try.underlying31 rfl (by kernel_rfl)) rfl ⟨g, cap, _, D, rfl, (HST.out.fin HBS.out _).1, rfl, (HST.out.fin HBS.out _).2⟩
  exact put1_heap HST.out.2.2.2.2.1.2.2
set_option linter.unusedSimpArgs false in
set_option maxRecDepth 20000 in
set_option maxHeartbeats 4000000 in
theorem l15Step_none (base g cap n : Nat) (D : List (LkT × Value)) (kd k : Int) (s : List UInt8) (w : World) (h : LBld w base (.slice (some ⟨g, 0, none⟩) n cap) D) (hn : n = D.length) (h16 : 1 ≤ n ∧ n ≤ 6) (hb : base ≤ w.heap.size) (h1 : kd ≠ 1) (h2 : kd ≠ 2) (h3 : kd ≠ 3) (h4 : kd ≠ 4) (h5 : kd ≠ 5) (ho : (decide (0 ≤ k) && decide (k ≤ (n : Int) - 1)) = true) :
    Calls Try.prog 25 #[ChV (.slice (some ⟨g, 0, none⟩) n cap), .agg #[.int .i64 kd, .int .i64 k, .string ⟨s.toArray⟩]] w fun e w' => SpAns w w' base e (lkf D) false := by
  unfold ChV
  obtain ⟨t, ht⟩ : ∃ t, n = t + 1 := ⟨n - 1, by omega⟩
  obtain ⟨W0, hW0⟩ : ∃ W0, W0 = w3 w (.slice (some ⟨g, 0, none⟩) n cap) kd k s := ⟨_, rfl⟩
  have HW0 : Hid (((w.alloc (.cells #[.slice (some ⟨g, 0, none⟩) n cap] 31)).alloc (.cells #[.int .i64 kd, .int .i64 k, .string ⟨s.toArray⟩] 35)).alloc (.cells #[.slice none 0 0] 31) = W0) := by show _ = _; rw [hW0]; rfl
  have HST : Hid (StL w W0 base g cap n kd k s D) := by show StL _ _ _ _ _ _ _ _ _ _; rw [hW0]; exact st_new kd k s h hb
  have HZ : Hid (W0.heap.size = w.heap.size + 3) := by show _ = _; rw [hW0]; exact w3_size _ _ _ _ _
  obtain ⟨c0, ⟨c1, c2, c3⟩, c4, f4⟩ := HST.out.2.2.2.2.1.cells
  have hnt : (n : Int) - 1 = (t : Int) := by omega
  have wt : IntKind.i64.wrap ((n : Int) - 1) = (t : Int) := by rw [i64_wrapC (by omega) (by omega)]; omega
  have HWI : Hid (∀ W, Calls Try.prog 40 #[.int .i64 k, .int .i64 0, .int .i64 (t : Int)] W fun e w' => e = .returned (.bool (decide (0 ≤ k) && decide (k ≤ (t : Int)))) ∧ w' = W) := fun W => l1In_any _ _ _ W
  have e1 : (kd == (1 : Int)) = false := by rw [beq_eq_false_iff_ne]; exact h1
  have e2 : (kd == (2 : Int)) = false := by rw [beq_eq_false_iff_ne]; exact h2
  have e3 : (kd == (3 : Int)) = false := by rw [beq_eq_false_iff_ne]; exact h3
  have e4 : (kd == (4 : Int)) = false := by rw [beq_eq_false_iff_ne]; exact h4
  have e5 : (kd == (5 : Int)) = false := by rw [beq_eq_false_iff_ne]; exact h5
  have HBS : Hid (base ≤ w.heap.size) := hb
  rw [hnt] at ho
  rw [ho] at HWI
  clear h hn hW0 ht ho h1 h2 h3 h4 h5
  go_enter Try.func25, Try.ntmps25
  go_wp2_with (rw [HW0.out])
  refine (HWI.out _).mono ?_
  rintro e w1 ⟨rfl, rfl⟩
  go_wp2_with fail
  (try simp only [Exit.inBlock, Exit.then])
  refine bodyPost_ret (results_row_tmp rfl _ _ (w.heap.size + 1 + 1) 31 #[.slice (some ⟨g, 0, none⟩) n cap] (0, 0) _ (.bool false) rfl rfl ?_ Try.underlying31 rfl (by kernel_rfl)) rfl ⟨g, cap, _, D, rfl, (HST.out.fin HBS.out _).1, rfl, (HST.out.fin HBS.out _).2⟩
  exact put1_heap HST.out.2.2.2.2.1.2.2
end Go.Proofs.Ytacmipcjhbkdcaa

namespace Go.Proofs.Ytacmipcjhbkdcaa
open Go.RowKit

theorem lbld_type {W : World} {base b : Nat} {v : Value} {D : List (LkT × Value)} {cs : Array Value} {t : TypeId} (h : LBld W base v D) (hb : W.heap[b]? = some (.cells cs t)) (h9 : t ≠ 9) (hk : t ≠ 71) : (∀ j, v.ownBlock = some j → j ≠ b) ∧ ∀ x ∈ D, ∀ j, x.2.ownBlock = some j → j ≠ b := by
  have key : ∀ {e size n : Nat} {u : Value} {xs : List Value}, W.ownsRow base e size u n xs → t ≠ e → ∀ j, u.ownBlock = some j → j ≠ b := by
    intro e size n u xs ho hne j hj hjb
    subst hjb
    obtain ⟨_, h0 | ⟨g2, c2, cur, e2, _, hg, _⟩⟩ := ho
    · rw [h0.1] at hj; cases hj
    · rw [e2] at hj
      have q : g2 = j := Option.some.inj hj
      subst q
      rw [hb] at hg
      injection hg with hg
      injection hg with _ hg _
      exact hne hg
  exact ⟨key h.1 hk, fun x hx => key (h.2.1 x hx) h9⟩
theorem StB.grown {w W W' : World} {row : Option Nat} {v : Value} {kd k : Int} {s : List UInt8} (h : StB w W v kd k s) (hg : W.grownBy W' row) (hr : ∀ j, row = some j → j < w.heap.size ∨ w.heap.size + 3 ≤ j) : StB w W' v kd k s := by
  have key : ∀ b, w.heap.size ≤ b → b < w.heap.size + 3 → b < W.heap.size → W'.heap[b]? = W.heap[b]? := fun b h1 h2 h3 => hg.block b h3 (fun e => by have := hr b e.symm; omega)
  exact ⟨(key _ (Nat.le_refl _) (by omega) (blk_ltC h.1)).trans h.1, (key _ (by omega) (by omega) (blk_ltC h.2.1)).trans h.2.1, (key _ (by omega) (by omega) (blk_ltC h.2.2)).trans h.2.2⟩
/-- A log written anew. -/
theorem StL.relog {w W W' : World} {base g cap n i : Nat} {kd k : Int} {s : List UInt8} {D : List (LkT × Value)} (h : StL w W base g cap n kd k s D) (hi : i < D.length) {d : List (List UInt8)} {dv : Value}
    (ho : W'.ownsRow base 9 1 dv d.length (d.map S)) (hg : W.grownBy W' D[i].2.ownBlock) (hf : ∀ j, dv.ownBlock = some j → D[i].2.ownBlock = some j ∨ W.heap.size ≤ j) (hz : w.heap.size + 3 ≤ W.heap.size) (hb : base ≤ W.heap.size) :
    StL w (W'.setCell ⟨g, i * 3, none⟩ dv) base g cap n kd k s (D.set i ((d, D[i].1.2), dv)) ∧ (∃ u, W'.cell? ⟨g, i * 3, none⟩ = some u) ∧ (∀ j, W'.frozen? ⟨g, j, none⟩ = false) ∧ StB w W' (.slice (some ⟨g, 0, none⟩) n cap) kd k s := by
  obtain ⟨h1, h2, h3⟩ := h.1.relogI hi ho hg hf
  have hoff : ∀ j, D[i].2.ownBlock = some j → j < w.heap.size ∨ w.heap.size + 3 ≤ j := h.2.1 _ (List.getElem_mem hi)
  have hst := h.2.2.2.2.1.grown hg hoff
  obtain ⟨_, _, hgb⟩ := h.1.atI hi
  refine ⟨⟨h1, fun z hz2 j hj => ?_, h.2.2.1, ?_, hst.far h.2.2.1 _, ?_⟩, h2, h3, hst⟩
  · rcases List.mem_or_eq_of_mem_set hz2 with hz2 | hz2
    · exact h.2.1 z hz2 j hj
    · rw [hz2] at hj
      rcases hf j hj with h5 | h5
      · exact hoff j h5
      · exact .inr (by omega)
  · exact (h.2.2.2.1.grown hg hb (fun j hj => (h.1.lt.2 _ (List.getElem_mem hi) j hj).1)).setCell (p := ⟨g, i * 3, none⟩) hgb _
  · refine (h.2.2.2.2.2.grown h.2.2.2.1.size hg (fun j hj => .inl (own_kind (h.1.logI hi) (.inl rfl) j hj))).set ?_ _ _
    obtain ⟨cs, e, h8, h9⟩ := own_kind h.1.1 (.inr rfl) g (by simp [Value.ownBlock])
    refine ⟨cs, e, ?_, h9⟩
    rw [hg.block g (oth_ltC h8) (fun e => by
      have q4 := own_types (h.1.logI hi) h.1.1 (by decide)
      rcases q4 with q4 | q4
      · exact absurd (e.trans q4) (by simp)
      · exact q4 e.symm)]
    exact h8
set_option linter.unusedSimpArgs false in
set_option maxRecDepth 20000 in
set_option maxHeartbeats 4000000 in
theorem l15Step_put_no (base g cap n : Nat) (D : List (LkT × Value)) (kd k : Int) (s : List UInt8) (w : World) (h : LBld w base (.slice (some ⟨g, 0, none⟩) n cap) D) (hn : n = D.length) (h16 : 1 ≤ n ∧ n ≤ 6) (hb : base ≤ w.heap.size) (h1 : kd = 1) (hno : 20 < s.length ∨ ((lkf D).getD 0 zLk).1.length = 40) :
    Calls Try.prog 25 #[ChV (.slice (some ⟨g, 0, none⟩) n cap), .agg #[.int .i64 kd, .int .i64 k, .string ⟨s.toArray⟩]] w fun e w' => SpAns w w' base e (lkf D) false := by
  unfold ChV
  obtain ⟨t, ht⟩ : ∃ t, n = t + 1 := ⟨n - 1, by omega⟩
  obtain ⟨W0, hW0⟩ : ∃ W0, W0 = w3 w (.slice (some ⟨g, 0, none⟩) n cap) kd k s := ⟨_, rfl⟩
  have HW0 : Hid (((w.alloc (.cells #[.slice (some ⟨g, 0, none⟩) n cap] 31)).alloc (.cells #[.int .i64 kd, .int .i64 k, .string ⟨s.toArray⟩] 35)).alloc (.cells #[.slice none 0 0] 31) = W0) := by show _ = _; rw [hW0]; rfl
  have HST : Hid (StL w W0 base g cap n kd k s D) := by show StL _ _ _ _ _ _ _ _ _ _; rw [hW0]; exact st_new kd k s h hb
  have HZ : Hid (W0.heap.size = w.heap.size + 3) := by show _ = _; rw [hW0]; exact w3_size _ _ _ _ _
  obtain ⟨c0, ⟨c1, c2, c3⟩, c4, f4⟩ := HST.out.2.2.2.2.1.cells
  have hnt : (n : Int) - 1 = (t : Int) := by omega
  have wt : IntKind.i64.wrap ((n : Int) - 1) = (t : Int) := by rw [i64_wrapC (by omega) (by omega)]; omega
  have HWI : Hid (∀ W, Calls Try.prog 40 #[.int .i64 k, .int .i64 0, .int .i64 (t : Int)] W fun e w' => e = .returned (.bool (decide (0 ≤ k) && decide (k ≤ (t : Int)))) ∧ w' = W) := fun W => l1In_any _ _ _ W
  subst h1
  have h0D : 0 < D.length := by omega
  obtain ⟨⟨a0, _, _⟩, _, _⟩ := HST.out.1.atI h0D
  have hown := HST.out.1.logI h0D
  rw [lkf_get h0D] at hno
  obtain ⟨x, hx⟩ : ∃ x, x = D[0]'h0D := ⟨_, rfl⟩
  rw [← hx] at a0 hown hno
  have HX : Hid (x = D[0]'h0D) := hx
  obtain ⟨⟨xd, xs, xu⟩, dv⟩ := x
  obtain ⟨ad, cd, hdv, _, _, _⟩ := own_sliceC hown
  simp only at hdv a0 hown hno
  subst hdv
  rw [Nat.zero_mul] at a0
  have h0n : (0 : Int) < (n : Int) := by omega
  have HBS : Hid (base ≤ w.heap.size) := hb
  clear hown h hn hW0 ht hx
  by_cases h20 : 20 < s.length
  · have f20 : decide ((20 : Int) < (s.length : Int)) = true := by simp; omega
    clear hno
    go_enter Try.func25, Try.ntmps25
    go_wp2_with (rw [HW0.out])
    (try simp only [Exit.inBlock, Exit.then])
    refine bodyPost_ret (results_row_tmp rfl _ _ (w.heap.size + 1 + 1) 31 #[.slice (some ⟨g, 0, none⟩) n cap] (0, 0) _ (.bool false) rfl rfl ?_ Try.underlying31 rfl (by kernel_rfl)) rfl ⟨g, cap, _, D, rfl, (HST.out.fin HBS.out _).1, rfl, (HST.out.fin HBS.out _).2⟩
    exact put1_heap HST.out.2.2.2.2.1.2.2
  · have f20 : decide ((20 : Int) < (s.length : Int)) = false := by simp; omega
    have f40 : ((xd.length : Int) == 40) = true := by
      rcases hno with h5 | h5
      · exact absurd h5 h20
      · simp [h5]
    clear hno
    go_enter Try.func25, Try.ntmps25
    go_wp2_with (rw [HW0.out])
    (try simp only [Exit.inBlock, Exit.then])
    refine bodyPost_ret (results_row_tmp rfl _ _ (w.heap.size + 1 + 1) 31 #[.slice (some ⟨g, 0, none⟩) n cap] (0, 0) _ (.bool false) rfl rfl ?_ Try.underlying31 rfl (by kernel_rfl)) rfl ⟨g, cap, _, D, rfl, (HST.out.fin HBS.out _).1, rfl, (HST.out.fin HBS.out _).2⟩
    exact put1_heap HST.out.2.2.2.2.1.2.2
end Go.Proofs.Ytacmipcjhbkdcaa

namespace Go.Proofs.Ytacmipcjhbkdcaa
open Go.RowKit

/-- One text that was just built. -/
theorem row_one {W : World} (s : List UInt8) : Row (W.alloc (.cells #[.string ⟨s.toArray⟩] 9)) (.slice (some ⟨W.heap.size, 0, none⟩) 1 1) [s] := by
  refine ⟨_, 1, rfl, Nat.le_refl _, by unfold maxLen; omega, .inr ⟨W.heap.size, 0, rfl, by simp, fun j hj => ?_⟩⟩
  have e : j = 0 := by simp at hj; exact hj
  subst e
  unfold World.cell?
  rw [blk_new]; rfl
set_option linter.unusedSimpArgs false in
set_option maxRecDepth 20000 in
set_option maxHeartbeats 4000000 in
theorem l15Step_put_yes (base g cap n : Nat) (D : List (LkT × Value)) (kd k : Int) (s : List UInt8) (w : World) (h : LBld w base (.slice (some ⟨g, 0, none⟩) n cap) D) (hn : n = D.length) (h16 : 1 ≤ n ∧ n ≤ 6) (hb : base ≤ w.heap.size) (h1 : kd = 1) (hyes : ¬ 20 < s.length ∧ ((lkf D).getD 0 zLk).1.length < 40) :
    Calls Try.prog 25 #[ChV (.slice (some ⟨g, 0, none⟩) n cap), .agg #[.int .i64 kd, .int .i64 k, .string ⟨s.toArray⟩]] w fun e w' => SpAns w w' base e (tailT ((lkf D).set 0 (((lkf D).getD 0 zLk).1 ++ [s], ((lkf D).getD 0 zLk).2.1, ((lkf D).getD 0 zLk).2.2))) true := by
  unfold ChV
  obtain ⟨t, ht⟩ : ∃ t, n = t + 1 := ⟨n - 1, by omega⟩
  obtain ⟨W0, hW0⟩ : ∃ W0, W0 = w3 w (.slice (some ⟨g, 0, none⟩) n cap) kd k s := ⟨_, rfl⟩
  have HW0 : Hid (((w.alloc (.cells #[.slice (some ⟨g, 0, none⟩) n cap] 31)).alloc (.cells #[.int .i64 kd, .int .i64 k, .string ⟨s.toArray⟩] 35)).alloc (.cells #[.slice none 0 0] 31) = W0) := by show _ = _; rw [hW0]; rfl
  have HST : Hid (StL w W0 base g cap n kd k s D) := by show StL _ _ _ _ _ _ _ _ _ _; rw [hW0]; exact st_new kd k s h hb
  have HZ : Hid (W0.heap.size = w.heap.size + 3) := by show _ = _; rw [hW0]; exact w3_size _ _ _ _ _
  obtain ⟨c0, ⟨c1, c2, c3⟩, c4, f4⟩ := HST.out.2.2.2.2.1.cells
  have hnt : (n : Int) - 1 = (t : Int) := by omega
  have wt : IntKind.i64.wrap ((n : Int) - 1) = (t : Int) := by rw [i64_wrapC (by omega) (by omega)]; omega
  have HWI : Hid (∀ W, Calls Try.prog 40 #[.int .i64 k, .int .i64 0, .int .i64 (t : Int)] W fun e w' => e = .returned (.bool (decide (0 ≤ k) && decide (k ≤ (t : Int)))) ∧ w' = W) := fun W => l1In_any _ _ _ W
  subst h1
  have h0D : 0 < D.length := by omega
  obtain ⟨⟨a0, _, _⟩, _, _⟩ := HST.out.1.atI h0D
  have hown := HST.out.1.logI h0D
  rw [lkf_get h0D] at hyes ⊢
  obtain ⟨x, hx⟩ : ∃ x, x = D[0]'h0D := ⟨_, rfl⟩
  rw [← hx] at a0 hown hyes ⊢
  have HX : Hid (x = D[0]'h0D) := hx
  obtain ⟨⟨xd, xs, xu⟩, dv⟩ := x
  obtain ⟨ad, cd, hdv, _, _, _⟩ := own_sliceC hown
  simp only at hdv a0 hown hyes ⊢
  subst hdv
  rw [Nat.zero_mul] at a0
  have h0n : (0 : Int) < (n : Int) := by omega
  have HBS : Hid (base ≤ w.heap.size) := hb
  have f20 : decide ((20 : Int) < (s.length : Int)) = false := by have := hyes.1; simp; omega
  have f40 : ((xd.length : Int) == 40) = false := by rw [beq_eq_false_iff_ne]; have := hyes.2; omega
  have hxl := hyes.2
  have h3w : w.heap.size + 3 ≤ W0.heap.size := by have := HZ.out; omega
  have HTL : Hid (∀ W D', LBld W base (.slice (some ⟨g, 0, none⟩) n cap) D' → n = D'.length → base ≤ W.heap.size → Calls Try.prog 42 #[ChV (.slice (some ⟨g, 0, none⟩) n cap)] W fun e w' => e = .returned (ChV (.slice (some ⟨g, 0, none⟩) n cap)) ∧ (∃ D2, LBld w' base (.slice (some ⟨g, 0, none⟩) n cap) D2 ∧ lkf D2 = tailT (lkf D')) ∧ Below base W w' ∧ W.grownBy w' (some g)) := fun W D' h1 h2 h3 => l15Tail_any base g cap n D' W h1 h2 (by omega) (by omega) h3
  unfold ChV at HTL
  have HN : Hid (n = D.length) := hn
  clear h hn hW0 ht hx hown hyes
  go_enter Try.func25, Try.ntmps25
  go_wp2_with (rw [HW0.out])
  clear c0 c1 c2 c3 c4 f4 a0
  have HS3 : Hid (StL w W0.drew base g cap n 1 k s D) := HST.out.kept (Nat.le_trans hb (by omega)) (Below.refl _ _).drew
  have HZ3 : Hid (w.heap.size + 3 ≤ W0.drew.heap.size) := h3w
  have HSB : Hid (∀ W, StB w W (.slice (some ⟨g, 0, none⟩) n cap) 1 k s → W.cell? ⟨w.heap.size, 0, none⟩ = some (.slice (some ⟨g, 0, none⟩) n cap) ∧ W.cell? ⟨w.heap.size + 1, 2, none⟩ = some (.string ⟨s.toArray⟩)) := fun W h => by
    obtain ⟨k0, ⟨k1, k2, k3⟩, k4, l4⟩ := h.cells
    exact ⟨k0, k3⟩
  refine wp_region_noPanic ?_
  refine wp_region_held_drew (S := fun W : World => W.cell? ⟨w.heap.size, 0, none⟩ = some (.slice (some ⟨g, 0, none⟩) n cap) ∧ W.cell? ⟨w.heap.size + 1, 2, none⟩ = some (.string ⟨s.toArray⟩)) (by kernel_rfl) (HSB.out _ HS3.out.2.2.2.2.1) (fun hHeld => ?_)
  generalize W0.drew = wv at HS3 HZ3 hHeld ⊢
  clear HZ h3w HST
  refine wpAnyH_take (i := 0) (v := .pointer (some ⟨w.heap.size, 0, none⟩)) rfl (by kernel_rfl) (by kernel_rfl) (by kernel_rfl) (fun _ _ _ h => h) (Or.inl ⟨by rfl, ?_⟩) (by assumption) ?_
  · intro W hSW
    go_simp
    all_goals (try omega)
  simp only [Act.put, List.getElem_toArray, List.getElem_cons_succ, List.getElem_cons_zero, List.setIfInBounds_toArray, List.set_cons_succ, List.set_cons_zero]
  refine wpAnyH_take (i := 1) (v := .slice (some ⟨g, 0, none⟩) n cap) rfl (by kernel_rfl) (by kernel_rfl) (by kernel_rfl) (fun _ _ _ h => h) (Or.inl ⟨by rfl, ?_⟩) (by assumption) ?_
  · intro W hSW
    obtain ⟨z0, z1⟩ := hSW
    go_simp
    all_goals (try omega)
  simp only [Act.put, List.getElem_toArray, List.getElem_cons_succ, List.getElem_cons_zero, List.setIfInBounds_toArray, List.set_cons_succ, List.set_cons_zero]
  refine wpAnyH_take (i := 2) (v := .pointer (some ⟨w.heap.size, 0, none⟩)) rfl (by kernel_rfl) (by kernel_rfl) (by kernel_rfl) (fun _ _ _ h => h) (Or.inl ⟨by rfl, ?_⟩) (by assumption) ?_
  · intro W hSW
    go_simp
    all_goals (try omega)
  simp only [Act.put, List.getElem_toArray, List.getElem_cons_succ, List.getElem_cons_zero, List.setIfInBounds_toArray, List.set_cons_succ, List.set_cons_zero]
  refine wpAnyH_take (i := 3) (v := .slice (some ⟨g, 0, none⟩) n cap) rfl (by kernel_rfl) (by kernel_rfl) (by kernel_rfl) (fun _ _ _ h => h) (Or.inl ⟨by rfl, ?_⟩) (by assumption) ?_
  · intro W hSW
    obtain ⟨z0, z1⟩ := hSW
    go_simp
    all_goals (try omega)
  simp only [Act.put, List.getElem_toArray, List.getElem_cons_succ, List.getElem_cons_zero, List.setIfInBounds_toArray, List.set_cons_succ, List.set_cons_zero]
  refine wpAnyH_take (i := 4) (v := .pointer (some ⟨g, 0, none⟩)) rfl (by kernel_rfl) (by kernel_rfl) (by kernel_rfl) (fun _ _ _ h => h) (Or.inl ⟨by rfl, ?_⟩) (by assumption) ?_
  · intro W hSW
    go_simp
    all_goals (try omega)
  simp only [Act.put, List.getElem_toArray, List.getElem_cons_succ, List.getElem_cons_zero, List.setIfInBounds_toArray, List.set_cons_succ, List.set_cons_zero]
  refine wpAnyH_take (i := 5) (v := .pointer (some ⟨g, 0, none⟩)) rfl (by kernel_rfl) (by kernel_rfl) (by kernel_rfl) (fun _ _ _ h => h) (Or.inl ⟨by rfl, ?_⟩) (by assumption) ?_
  · intro W hSW
    go_simp
    all_goals (try omega)
  simp only [Act.put, List.getElem_toArray, List.getElem_cons_succ, List.getElem_cons_zero, List.setIfInBounds_toArray, List.set_cons_succ, List.set_cons_zero]
  refine wpAnyH_take (i := 7) (v := .pointer (some ⟨w.heap.size + 1, 2, none⟩)) rfl (by kernel_rfl) (by kernel_rfl) (by kernel_rfl) (fun _ _ _ h => h) (Or.inl ⟨by rfl, ?_⟩) (by assumption) ?_
  · intro W hSW
    go_simp
    all_goals (try omega)
  simp only [Act.put, List.getElem_toArray, List.getElem_cons_succ, List.getElem_cons_zero, List.setIfInBounds_toArray, List.set_cons_succ, List.set_cons_zero]
  refine wpAnyH_take (i := 8) (v := .string ⟨s.toArray⟩) rfl (by kernel_rfl) (by kernel_rfl) (by kernel_rfl) (fun _ _ _ h => h) (Or.inl ⟨by rfl, ?_⟩) (by assumption) ?_
  · intro W hSW
    obtain ⟨z0, z1⟩ := hSW
    go_simp
    all_goals (try omega)
  simp only [Act.put, List.getElem_toArray, List.getElem_cons_succ, List.getElem_cons_zero, List.setIfInBounds_toArray, List.set_cons_succ, List.set_cons_zero]
  obtain ⟨wA, hwA⟩ : ∃ wA, wA = wv.alloc (.cells #[.string ⟨s.toArray⟩] 9) := ⟨_, rfl⟩
  have HWA : Hid (wv.alloc (.cells #[.string ⟨s.toArray⟩] 9) = wA) := hwA.symm
  have hbA : Below wv.heap.size wv wA := by rw [hwA]; exact (Below.refl _ _).alloc (Nat.le_refl _) _
  have hbv : base ≤ wv.heap.size := by have := HZ3.out; omega
  have HSA : Hid (StL w wA base g cap n 1 k s D) := HS3.out.kept hbv hbA
  have HZA : Hid (w.heap.size + 3 ≤ wA.heap.size) := Nat.le_trans HZ3.out hbA.size
  have HRO : Hid (Row wA (.slice (some ⟨wv.heap.size, 0, none⟩) 1 1) [s]) := by show Row _ _ _; rw [hwA]; exact row_one s
  have HA0 : Hid (∀ W, StL w W base g cap n 1 k s D → W.cell? ⟨g, 0, none⟩ = some (.slice ad xd.length cd) ∧ W.ownsRow base 9 1 (.slice ad xd.length cd) xd.length (xd.map S)) := fun W h => by
    obtain ⟨⟨q0, _, _⟩, _, _⟩ := h.1.atI h0D
    have q5 := h.1.logI h0D
    rw [← HX.out, Nat.zero_mul] at q0
    rw [← HX.out] at q5
    exact ⟨q0, q5⟩
  clear hwA hbA hbv
  refine wpAnyH_ready (rs := [6, 9]) (by kernel_rfl) (by simp) ?_
  refine AllReadyH.cons rfl (fun K hK => ?_) (AllReadyH.cons rfl (fun K hK => ?_) AllReadyH.nil)
  · rw [if_pos (by rfl)]
    obtain ⟨q0, _⟩ := HA0.out _ HS3.out
    go_simp
    refine hK.out _ _ (HSB.out _ HS3.out.2.2.2.2.1) (fun hSS => ?_)
    clear hK hSS q0
    refine wpAnyH_ready (rs := [9]) (by kernel_rfl) (by simp) ?_
    refine AllReadyH.cons rfl (fun K hK => ?_) AllReadyH.nil
    rw [if_pos (by rfl)]
    go_simp
    rw [HWA.out]
    refine hK.out _ _ (HSB.out _ HSA.out.2.2.2.2.1) (fun hSS => ?_)
    clear hK hSS
    refine wpAnyH_ready (rs := [10]) (by kernel_rfl) (by simp) ?_
    refine AllReadyH.cons rfl (fun K hK => ?_) AllReadyH.nil
    refine step_append_row rfl (.tmp 36) (.tmp 39) rfl base _ xd.length (xd.map S) rfl (HA0.out _ HSA.out).2 _ rfl [s] HRO.out (by simp; omega) (by have := HZA.out; omega) ?_
    intro v2 w2 hown2 hgrow2 hfr2
    have ho2 : w2.ownsRow base 9 1 v2 (xd ++ [s]).length ((xd ++ [s]).map S) := by rw [List.length_append, List.map_append]; exact hown2
    obtain ⟨a2, c2', hv2, _, _, _⟩ := own_sliceC ho2
    subst hv2
    obtain ⟨hS5, ⟨u0, m0⟩, mf, hB2⟩ := HSA.out.relog h0D (d := xd ++ [s]) ho2 (by rw [← HX.out]; exact hgrow2) (by rw [← HX.out]; exact hfr2) HZA.out (by have := HZA.out; omega)
    rw [Nat.zero_mul] at m0 hS5
    have mf0 := mf 0
    rw [← HX.out] at hS5
    obtain ⟨D5, hD5⟩ : ∃ D5, D5 = D.set 0 ((xd ++ [s], ((xd, xs, xu), Value.slice ad xd.length cd).1.2), Value.slice a2 (xd ++ [s]).length c2') := ⟨_, rfl⟩
    rw [← hD5] at hS5
    have HL5 : Hid (lkf D5 = (lkf D).set 0 (xd ++ [s], xs, xu)) := by show _ = _; rw [hD5, lkf_set]
    have HN5 : Hid (n = D5.length) := by show _ = _; rw [hD5, List.length_set]; exact HN.out
    obtain ⟨W5, hW5⟩ : ∃ W5, W5 = w2.setCell ⟨g, 0, none⟩ (.slice a2 (xd ++ [s]).length c2') := ⟨_, rfl⟩
    have HW5 : Hid (w2.setCell ⟨g, 0, none⟩ (.slice a2 (xd ++ [s]).length c2') = W5) := hW5.symm
    rw [← hW5] at hS5
    have HS5 : Hid (StL w W5 base g cap n 1 k s D5) := hS5
    have HZ5 : Hid (base ≤ W5.heap.size) := Nat.le_trans hb hS5.2.2.2.1.size
    have HB2 : Hid (StB w w2 (.slice (some ⟨g, 0, none⟩) n cap) 1 k s) := hB2
    clear hown2 hgrow2 hfr2 ho2 mf hD5 hW5 hS5 hB2
    obtain ⟨m, hm⟩ : ∃ m, m = (xd ++ [s]).length := ⟨_, rfl⟩
    rw [← hm] at HW5
    simp only [Act.put, List.getElem_toArray, List.getElem_cons_succ, List.getElem_cons_zero, List.setIfInBounds_toArray, List.set_cons_succ, List.set_cons_zero]
    rw [← hm]
    refine hK.out _ _ (HSB.out _ HB2.out) (fun hSS => ?_)
    clear hK hm
    refine wpAnyH_take (i := 11) (v := .pointer (some ⟨g, 0, none⟩)) rfl (by kernel_rfl) (by kernel_rfl) (by kernel_rfl) (fun _ _ _ h => h) (Or.inl ⟨by rfl, ?_⟩) (by assumption) ?_
    · intro W hSW
      go_simp
      all_goals (try omega)
    simp only [Act.put, List.getElem_toArray, List.getElem_cons_succ, List.getElem_cons_zero, List.setIfInBounds_toArray, List.set_cons_succ, List.set_cons_zero]
    refine wpAnyH_take (i := 12) (v := .pointer (some ⟨g, 0, none⟩)) rfl (by kernel_rfl) (by kernel_rfl) (by kernel_rfl) (fun _ _ _ h => h) (Or.inl ⟨by rfl, ?_⟩) (by assumption) ?_
    · intro W hSW
      go_simp
      all_goals (try omega)
    simp only [Act.put, List.getElem_toArray, List.getElem_cons_succ, List.getElem_cons_zero, List.setIfInBounds_toArray, List.set_cons_succ, List.set_cons_zero]
    refine wpAnyH_ready (rs := [13]) (by kernel_rfl) (by simp) ?_
    refine AllReadyH.cons rfl (fun K hK => ?_) AllReadyH.nil
    rw [if_pos (by rfl)]
    go_simp
    rw [HW5.out]
    refine hK.out _ _ (HSB.out _ HS5.out.2.2.2.2.1) (fun hSS6 => ?_)
    clear hK hSS6 hSS m0 mf0 HW5 HB2
    refine wpAnyH_done (by kernel_rfl) ?_ _
    refine NoPanic.normal ?_
    clear hHeld
    obtain ⟨k0, ⟨k1, k2, k3⟩, k4, l4⟩ := HS5.out.2.2.2.2.1.cells
    go_wp2_with fail
    refine (HTL.out W5 D5 HS5.out.1 HN5.out HZ5.out).mono ?_
    rintro e w8 ⟨rfl, ⟨D8, hd8, hl8⟩, hb8, hg8⟩
    have hB8 : StB w w8 (.slice (some ⟨g, 0, none⟩) n cap) 1 k s := HS5.out.2.2.2.2.1.grown hg8 (fun j hj => by have q : g = j := Option.some.inj hj; rw [← q]; exact HS5.out.2.2.1)
    have HB8 : Hid (StB w w8 (.slice (some ⟨g, 0, none⟩) n cap) 1 k s) := hB8
    have HF8 : Hid (∀ u, LBld (w8.setCell ⟨w.heap.size + 1 + 1, 0, none⟩ u) base (.slice (some ⟨g, 0, none⟩) n cap) D8) := fun u => lbld_far2 hd8 (lbld_type hd8 hB8.2.2 (by decide) (by decide)) u
    have HO8 : Hid (Oth w w8) := HS5.out.2.2.2.2.2.grown HS5.out.2.2.2.1.size hg8 (fun j hj => .inl (own_kind HS5.out.1.1 (.inr rfl) j hj))
    have HW8 : Hid (Below base w w8) := HS5.out.2.2.2.1.trans hb8
    have HL8 : Hid (lkf D8 = tailT ((lkf D).set 0 (xd ++ [s], xs, xu))) := by show _ = _; rw [hl8, HL5.out]
    clear k0 k1 k2 k3 k4 l4 hd8 hl8 hb8 hg8 hB8
    obtain ⟨_, _, k4, l4⟩ := HB8.out.cells
    go_wp2_with fail
    (try simp only [Exit.inBlock, Exit.then])
    refine bodyPost_ret (results_row_tmp rfl _ _ (w.heap.size + 1 + 1) 31 #[.slice (some ⟨g, 0, none⟩) n cap] (0, 0) _ (.bool true) rfl rfl ?_ Try.underlying31 rfl (by kernel_rfl)) rfl ⟨g, cap, n, D8, rfl, HF8.out _, HL8.out, HW8.out.setCell (p := ⟨w.heap.size + 1 + 1, 0, none⟩) (by show base ≤ w.heap.size + 1 + 1; have := HBS.out; omega) _, HO8.out.new (by omega) _ _⟩
    exact put1_heap HB8.out.2.2
  · rw [if_pos (by rfl)]
    go_simp
    rw [HWA.out]
    refine hK.out _ _ (HSB.out _ HSA.out.2.2.2.2.1) (fun hSS => ?_)
    clear hK hSS
    refine wpAnyH_ready (rs := [6]) (by kernel_rfl) (by simp) ?_
    refine AllReadyH.cons rfl (fun K hK => ?_) AllReadyH.nil
    rw [if_pos (by rfl)]
    obtain ⟨q0, _⟩ := HA0.out _ HSA.out
    go_simp
    refine hK.out _ _ (HSB.out _ HSA.out.2.2.2.2.1) (fun hSS => ?_)
    clear hK hSS q0
    refine wpAnyH_ready (rs := [10]) (by kernel_rfl) (by simp) ?_
    refine AllReadyH.cons rfl (fun K hK => ?_) AllReadyH.nil
    refine step_append_row rfl (.tmp 36) (.tmp 39) rfl base _ xd.length (xd.map S) rfl (HA0.out _ HSA.out).2 _ rfl [s] HRO.out (by simp; omega) (by have := HZA.out; omega) ?_
    intro v2 w2 hown2 hgrow2 hfr2
    have ho2 : w2.ownsRow base 9 1 v2 (xd ++ [s]).length ((xd ++ [s]).map S) := by rw [List.length_append, List.map_append]; exact hown2
    obtain ⟨a2, c2', hv2, _, _, _⟩ := own_sliceC ho2
    subst hv2
    obtain ⟨hS5, ⟨u0, m0⟩, mf, hB2⟩ := HSA.out.relog h0D (d := xd ++ [s]) ho2 (by rw [← HX.out]; exact hgrow2) (by rw [← HX.out]; exact hfr2) HZA.out (by have := HZA.out; omega)
    rw [Nat.zero_mul] at m0 hS5
    have mf0 := mf 0
    rw [← HX.out] at hS5
    obtain ⟨D5, hD5⟩ : ∃ D5, D5 = D.set 0 ((xd ++ [s], ((xd, xs, xu), Value.slice ad xd.length cd).1.2), Value.slice a2 (xd ++ [s]).length c2') := ⟨_, rfl⟩
    rw [← hD5] at hS5
    have HL5 : Hid (lkf D5 = (lkf D).set 0 (xd ++ [s], xs, xu)) := by show _ = _; rw [hD5, lkf_set]
    have HN5 : Hid (n = D5.length) := by show _ = _; rw [hD5, List.length_set]; exact HN.out
    obtain ⟨W5, hW5⟩ : ∃ W5, W5 = w2.setCell ⟨g, 0, none⟩ (.slice a2 (xd ++ [s]).length c2') := ⟨_, rfl⟩
    have HW5 : Hid (w2.setCell ⟨g, 0, none⟩ (.slice a2 (xd ++ [s]).length c2') = W5) := hW5.symm
    rw [← hW5] at hS5
    have HS5 : Hid (StL w W5 base g cap n 1 k s D5) := hS5
    have HZ5 : Hid (base ≤ W5.heap.size) := Nat.le_trans hb hS5.2.2.2.1.size
    have HB2 : Hid (StB w w2 (.slice (some ⟨g, 0, none⟩) n cap) 1 k s) := hB2
    clear hown2 hgrow2 hfr2 ho2 mf hD5 hW5 hS5 hB2
    obtain ⟨m, hm⟩ : ∃ m, m = (xd ++ [s]).length := ⟨_, rfl⟩
    rw [← hm] at HW5
    simp only [Act.put, List.getElem_toArray, List.getElem_cons_succ, List.getElem_cons_zero, List.setIfInBounds_toArray, List.set_cons_succ, List.set_cons_zero]
    rw [← hm]
    refine hK.out _ _ (HSB.out _ HB2.out) (fun hSS => ?_)
    clear hK hm
    refine wpAnyH_take (i := 11) (v := .pointer (some ⟨g, 0, none⟩)) rfl (by kernel_rfl) (by kernel_rfl) (by kernel_rfl) (fun _ _ _ h => h) (Or.inl ⟨by rfl, ?_⟩) (by assumption) ?_
    · intro W hSW
      go_simp
      all_goals (try omega)
    simp only [Act.put, List.getElem_toArray, List.getElem_cons_succ, List.getElem_cons_zero, List.setIfInBounds_toArray, List.set_cons_succ, List.set_cons_zero]
    refine wpAnyH_take (i := 12) (v := .pointer (some ⟨g, 0, none⟩)) rfl (by kernel_rfl) (by kernel_rfl) (by kernel_rfl) (fun _ _ _ h => h) (Or.inl ⟨by rfl, ?_⟩) (by assumption) ?_
    · intro W hSW
      go_simp
      all_goals (try omega)
    simp only [Act.put, List.getElem_toArray, List.getElem_cons_succ, List.getElem_cons_zero, List.setIfInBounds_toArray, List.set_cons_succ, List.set_cons_zero]
    refine wpAnyH_ready (rs := [13]) (by kernel_rfl) (by simp) ?_
    refine AllReadyH.cons rfl (fun K hK => ?_) AllReadyH.nil
    rw [if_pos (by rfl)]
    go_simp
    rw [HW5.out]
    refine hK.out _ _ (HSB.out _ HS5.out.2.2.2.2.1) (fun hSS6 => ?_)
    clear hK hSS6 hSS m0 mf0 HW5 HB2
    refine wpAnyH_done (by kernel_rfl) ?_ _
    refine NoPanic.normal ?_
    clear hHeld
    obtain ⟨k0, ⟨k1, k2, k3⟩, k4, l4⟩ := HS5.out.2.2.2.2.1.cells
    go_wp2_with fail
    refine (HTL.out W5 D5 HS5.out.1 HN5.out HZ5.out).mono ?_
    rintro e w8 ⟨rfl, ⟨D8, hd8, hl8⟩, hb8, hg8⟩
    have hB8 : StB w w8 (.slice (some ⟨g, 0, none⟩) n cap) 1 k s := HS5.out.2.2.2.2.1.grown hg8 (fun j hj => by have q : g = j := Option.some.inj hj; rw [← q]; exact HS5.out.2.2.1)
    have HB8 : Hid (StB w w8 (.slice (some ⟨g, 0, none⟩) n cap) 1 k s) := hB8
    have HF8 : Hid (∀ u, LBld (w8.setCell ⟨w.heap.size + 1 + 1, 0, none⟩ u) base (.slice (some ⟨g, 0, none⟩) n cap) D8) := fun u => lbld_far2 hd8 (lbld_type hd8 hB8.2.2 (by decide) (by decide)) u
    have HO8 : Hid (Oth w w8) := HS5.out.2.2.2.2.2.grown HS5.out.2.2.2.1.size hg8 (fun j hj => .inl (own_kind HS5.out.1.1 (.inr rfl) j hj))
    have HW8 : Hid (Below base w w8) := HS5.out.2.2.2.1.trans hb8
    have HL8 : Hid (lkf D8 = tailT ((lkf D).set 0 (xd ++ [s], xs, xu))) := by show _ = _; rw [hl8, HL5.out]
    clear k0 k1 k2 k3 k4 l4 hd8 hl8 hb8 hg8 hB8
    obtain ⟨_, _, k4, l4⟩ := HB8.out.cells
    go_wp2_with fail
    (try simp only [Exit.inBlock, Exit.then])
    refine bodyPost_ret (results_row_tmp rfl _ _ (w.heap.size + 1 + 1) 31 #[.slice (some ⟨g, 0, none⟩) n cap] (0, 0) _ (.bool true) rfl rfl ?_ Try.underlying31 rfl (by kernel_rfl)) rfl ⟨g, cap, n, D8, rfl, HF8.out _, HL8.out, HW8.out.setCell (p := ⟨w.heap.size + 1 + 1, 0, none⟩) (by show base ≤ w.heap.size + 1 + 1; have := HBS.out; omega) _, HO8.out.new (by omega) _ _⟩
    exact put1_heap HB8.out.2.2
end Go.Proofs.Ytacmipcjhbkdcaa

namespace Go.Proofs.Ytacmipcjhbkdcaa
open Go.RowKit

theorem StL.drewN {w W : World} {base g cap n : Nat} {kd k : Int} {s : List UInt8} {D : List (LkT × Value)} (h : StL w W base g cap n kd k s D) (hb : base ≤ w.heap.size) (m : Nat) : StL w (W.drewN m) base g cap n kd k s D := h.kept (Nat.le_trans hb h.2.2.2.1.size) (bel_drewN m)
set_option linter.unusedSimpArgs false in
set_option maxRecDepth 20000 in
set_option maxHeartbeats 4000000 in
theorem l15Step_back_last (base g cap n : Nat) (D : List (LkT × Value)) (kd k : Int) (s : List UInt8) (w : World) (h : LBld w base (.slice (some ⟨g, 0, none⟩) n cap) D) (hn : n = D.length) (h16 : 1 ≤ n ∧ n ≤ 6) (hb : base ≤ w.heap.size) (hj : k = (n : Int) - 1) (h3 : kd = 3) :
    Calls Try.prog 25 #[ChV (.slice (some ⟨g, 0, none⟩) n cap), .agg #[.int .i64 kd, .int .i64 k, .string ⟨s.toArray⟩]] w fun e w' => SpAns w w' base e (lkf D) false := by
  unfold ChV
  obtain ⟨t, ht⟩ : ∃ t, n = t + 1 := ⟨n - 1, by omega⟩
  obtain ⟨W0, hW0⟩ : ∃ W0, W0 = w3 w (.slice (some ⟨g, 0, none⟩) n cap) kd k s := ⟨_, rfl⟩
  have HW0 : Hid (((w.alloc (.cells #[.slice (some ⟨g, 0, none⟩) n cap] 31)).alloc (.cells #[.int .i64 kd, .int .i64 k, .string ⟨s.toArray⟩] 35)).alloc (.cells #[.slice none 0 0] 31) = W0) := by show _ = _; rw [hW0]; rfl
  have HST : Hid (StL w W0 base g cap n kd k s D) := by show StL _ _ _ _ _ _ _ _ _ _; rw [hW0]; exact st_new kd k s h hb
  have HZ : Hid (W0.heap.size = w.heap.size + 3) := by show _ = _; rw [hW0]; exact w3_size _ _ _ _ _
  obtain ⟨c0, ⟨c1, c2, c3⟩, c4, f4⟩ := HST.out.2.2.2.2.1.cells
  have hnt : (n : Int) - 1 = (t : Int) := by omega
  have wt : IntKind.i64.wrap ((n : Int) - 1) = (t : Int) := by rw [i64_wrapC (by omega) (by omega)]; omega
  have HWI : Hid (∀ W, Calls Try.prog 40 #[.int .i64 k, .int .i64 0, .int .i64 (t : Int)] W fun e w' => e = .returned (.bool (decide (0 ≤ k) && decide (k ≤ (t : Int)))) ∧ w' = W) := fun W => l1In_any _ _ _ W
  subst h3
  rw [hnt] at hj
  subst hj
  have e1 : ((t : Int) == (t : Int)) = true := by simp
  have HBS : Hid (base ≤ w.heap.size) := hb
  rw [show (decide ((0 : Int) ≤ (t : Int)) && decide ((t : Int) ≤ (t : Int))) = true by simp] at HWI
  clear h hn hW0 ht
  go_enter Try.func25, Try.ntmps25
  go_wp2_with (rw [HW0.out])
  refine (HWI.out _).mono ?_
  rintro e w1 ⟨rfl, rfl⟩
  go_wp2_with fail
  go_quiet (fail)
  rename_i nq
  obtain ⟨W2, hW2⟩ : ∃ W2, W2 = w1.drewN nq := ⟨_, rfl⟩
  have HS2 : Hid (StL w W2 base g cap n 3 (t : Int) s D) := by show StL _ _ _ _ _ _ _ _ _ _; rw [hW2]; exact HST.out.drewN HBS.out nq
  rw [← hW2]
  clear c0 c1 c2 c3 c4 f4 hW2
  obtain ⟨k0, ⟨k1, k2, k3⟩, k4, l4⟩ := HS2.out.2.2.2.2.1.cells
  go_wp2_with fail
  (try simp only [Exit.inBlock, Exit.then])
  refine bodyPost_ret (results_row_tmp rfl _ _ (w.heap.size + 1 + 1) 31 #[.slice (some ⟨g, 0, none⟩) n cap] (0, 0) _ (.bool false) rfl rfl ?_ Try.underlying31 rfl (by kernel_rfl)) rfl ⟨g, cap, _, D, rfl, (HS2.out.fin HBS.out _).1, rfl, (HS2.out.fin HBS.out _).2⟩
  exact put1_heap HS2.out.2.2.2.2.1.2.2
set_option linter.unusedSimpArgs false in
set_option maxRecDepth 20000 in
set_option maxHeartbeats 4000000 in
theorem l15Step_back_no (base g cap n : Nat) (D : List (LkT × Value)) (kd k : Int) (s : List UInt8) (w : World) (h : LBld w base (.slice (some ⟨g, 0, none⟩) n cap) D) (hn : n = D.length) (h16 : 1 ≤ n ∧ n ≤ 6) (hb : base ≤ w.heap.size) (hk : 0 ≤ k ∧ k < (n : Int) - 1) (h3 : kd = 3) (hle : ((lkf D).getD (k.toNat + 1) zLk).2.2 ≤ ((lkf D).getD k.toNat zLk).2.2) :
    Calls Try.prog 25 #[ChV (.slice (some ⟨g, 0, none⟩) n cap), .agg #[.int .i64 kd, .int .i64 k, .string ⟨s.toArray⟩]] w fun e w' => SpAns w w' base e (lkf D) false := by
  unfold ChV
  obtain ⟨t, ht⟩ : ∃ t, n = t + 1 := ⟨n - 1, by omega⟩
  obtain ⟨W0, hW0⟩ : ∃ W0, W0 = w3 w (.slice (some ⟨g, 0, none⟩) n cap) kd k s := ⟨_, rfl⟩
  have HW0 : Hid (((w.alloc (.cells #[.slice (some ⟨g, 0, none⟩) n cap] 31)).alloc (.cells #[.int .i64 kd, .int .i64 k, .string ⟨s.toArray⟩] 35)).alloc (.cells #[.slice none 0 0] 31) = W0) := by show _ = _; rw [hW0]; rfl
  have HST : Hid (StL w W0 base g cap n kd k s D) := by show StL _ _ _ _ _ _ _ _ _ _; rw [hW0]; exact st_new kd k s h hb
  have HZ : Hid (W0.heap.size = w.heap.size + 3) := by show _ = _; rw [hW0]; exact w3_size _ _ _ _ _
  obtain ⟨c0, ⟨c1, c2, c3⟩, c4, f4⟩ := HST.out.2.2.2.2.1.cells
  have hnt : (n : Int) - 1 = (t : Int) := by omega
  have wt : IntKind.i64.wrap ((n : Int) - 1) = (t : Int) := by rw [i64_wrapC (by omega) (by omega)]; omega
  have HWI : Hid (∀ W, Calls Try.prog 40 #[.int .i64 k, .int .i64 0, .int .i64 (t : Int)] W fun e w' => e = .returned (.bool (decide (0 ≤ k) && decide (k ≤ (t : Int)))) ∧ w' = W) := fun W => l1In_any _ _ _ W
  subst h3
  obtain ⟨j, rfl⟩ : ∃ j : Nat, k = (j : Int) := ⟨k.toNat, by omega⟩
  have hjt : j < t := by omega
  have hjD : j < D.length := by omega
  have hjD1 : j + 1 < D.length := by omega
  rw [show (decide ((0 : Int) ≤ (j : Int)) && decide ((j : Int) ≤ (t : Int))) = true by simp; omega] at HWI
  have e1 : ((j : Int) == (t : Int)) = false := by rw [beq_eq_false_iff_ne]; omega
  obtain ⟨⟨a0, a1, a2⟩, _, _⟩ := HST.out.1.atI hjD
  obtain ⟨⟨b0, b1, b2⟩, _, _⟩ := HST.out.1.atI hjD1
  obtain ⟨j1, hj1⟩ : ∃ j1, j1 = j + 1 := ⟨_, rfl⟩
  have wj : IntKind.i64.wrap ((j : Int) + 1) = (j1 : Int) := by rw [i64_wrapC (by omega) (by omega)]; omega
  have hjn : (j : Int) < (n : Int) := by omega
  have hj1n : (j1 : Int) < (n : Int) := by omega
  have ej : ((j : Int)).toNat = j := by omega
  rw [ej, lkf_get hjD, lkf_get hjD1] at hle
  obtain ⟨sx, hsx⟩ : ∃ sx, sx = (D[j]'hjD).1.2.2 := ⟨_, rfl⟩
  obtain ⟨sy, hsy⟩ : ∃ sy, sy = (D[j + 1]'hjD1).1.2.2 := ⟨_, rfl⟩
  rw [← hsx] at a2 hle
  rw [← hsy] at b2 hle
  rw [← hj1] at b2
  have hde : decide (sy ≤ sx) = true := by simpa using hle
  have HBS : Hid (base ≤ w.heap.size) := hb
  clear h hn hW0 ht hk a0 a1 b0 b1 ej hsx hsy hjD hjD1 hj1 hjt hle
  go_enter Try.func25, Try.ntmps25
  go_wp2_with (rw [HW0.out])
  refine (HWI.out _).mono ?_
  rintro e w1 ⟨rfl, rfl⟩
  go_wp2_with fail
  go_quiet (fail)
  rename_i nq
  obtain ⟨W2, hW2⟩ : ∃ W2, W2 = w1.drewN nq := ⟨_, rfl⟩
  have HS2 : Hid (StL w W2 base g cap n 3 (j : Int) s D) := by show StL _ _ _ _ _ _ _ _ _ _; rw [hW2]; exact HST.out.drewN HBS.out nq
  rw [← hW2]
  clear c0 c1 c2 c3 c4 f4 hW2 a2 b2
  obtain ⟨k0, ⟨k1, k2, k3⟩, k4, l4⟩ := HS2.out.2.2.2.2.1.cells
  go_wp2_with fail
  (try simp only [Exit.inBlock, Exit.then])
  refine bodyPost_ret (results_row_tmp rfl _ _ (w.heap.size + 1 + 1) 31 #[.slice (some ⟨g, 0, none⟩) n cap] (0, 0) _ (.bool false) rfl rfl ?_ Try.underlying31 rfl (by kernel_rfl)) rfl ⟨g, cap, _, D, rfl, (HS2.out.fin HBS.out _).1, rfl, (HS2.out.fin HBS.out _).2⟩
  exact put1_heap HS2.out.2.2.2.2.1.2.2
set_option linter.unusedSimpArgs false in
set_option maxRecDepth 20000 in
set_option maxHeartbeats 4000000 in
theorem l15Step_back_yes (base g cap n : Nat) (D : List (LkT × Value)) (kd k : Int) (s : List UInt8) (w : World) (h : LBld w base (.slice (some ⟨g, 0, none⟩) n cap) D) (hn : n = D.length) (h16 : 1 ≤ n ∧ n ≤ 6) (hb : base ≤ w.heap.size) (hk : 0 ≤ k ∧ k < (n : Int) - 1) (h3 : kd = 3) (hlt : ((lkf D).getD k.toNat zLk).2.2 < ((lkf D).getD (k.toNat + 1) zLk).2.2) :
    Calls Try.prog 25 #[ChV (.slice (some ⟨g, 0, none⟩) n cap), .agg #[.int .i64 kd, .int .i64 k, .string ⟨s.toArray⟩]] w fun e w' => SpAns w w' base e ((lkf D).set k.toNat (((lkf D).getD k.toNat zLk).1, ((lkf D).getD k.toNat zLk).2.1, ((lkf D).getD (k.toNat + 1) zLk).2.2)) true := by
  unfold ChV
  obtain ⟨t, ht⟩ : ∃ t, n = t + 1 := ⟨n - 1, by omega⟩
  obtain ⟨W0, hW0⟩ : ∃ W0, W0 = w3 w (.slice (some ⟨g, 0, none⟩) n cap) kd k s := ⟨_, rfl⟩
  have HW0 : Hid (((w.alloc (.cells #[.slice (some ⟨g, 0, none⟩) n cap] 31)).alloc (.cells #[.int .i64 kd, .int .i64 k, .string ⟨s.toArray⟩] 35)).alloc (.cells #[.slice none 0 0] 31) = W0) := by show _ = _; rw [hW0]; rfl
  have HST : Hid (StL w W0 base g cap n kd k s D) := by show StL _ _ _ _ _ _ _ _ _ _; rw [hW0]; exact st_new kd k s h hb
  have HZ : Hid (W0.heap.size = w.heap.size + 3) := by show _ = _; rw [hW0]; exact w3_size _ _ _ _ _
  obtain ⟨c0, ⟨c1, c2, c3⟩, c4, f4⟩ := HST.out.2.2.2.2.1.cells
  have hnt : (n : Int) - 1 = (t : Int) := by omega
  have wt : IntKind.i64.wrap ((n : Int) - 1) = (t : Int) := by rw [i64_wrapC (by omega) (by omega)]; omega
  have HWI : Hid (∀ W, Calls Try.prog 40 #[.int .i64 k, .int .i64 0, .int .i64 (t : Int)] W fun e w' => e = .returned (.bool (decide (0 ≤ k) && decide (k ≤ (t : Int)))) ∧ w' = W) := fun W => l1In_any _ _ _ W
  subst h3
  obtain ⟨j, rfl⟩ : ∃ j : Nat, k = (j : Int) := ⟨k.toNat, by omega⟩
  have hjt : j < t := by omega
  have hjD : j < D.length := by omega
  have hjD1 : j + 1 < D.length := by omega
  rw [show (decide ((0 : Int) ≤ (j : Int)) && decide ((j : Int) ≤ (t : Int))) = true by simp; omega] at HWI
  have e1 : ((j : Int) == (t : Int)) = false := by rw [beq_eq_false_iff_ne]; omega
  obtain ⟨⟨a0, a1, a2⟩, _, _⟩ := HST.out.1.atI hjD
  obtain ⟨⟨b0, b1, b2⟩, _, _⟩ := HST.out.1.atI hjD1
  obtain ⟨j1, hj1⟩ : ∃ j1, j1 = j + 1 := ⟨_, rfl⟩
  have wj : IntKind.i64.wrap ((j : Int) + 1) = (j1 : Int) := by rw [i64_wrapC (by omega) (by omega)]; omega
  have hjn : (j : Int) < (n : Int) := by omega
  have hj1n : (j1 : Int) < (n : Int) := by omega
  have ej : ((j : Int)).toNat = j := by omega
  rw [ej, lkf_get hjD, lkf_get hjD1] at hlt ⊢
  obtain ⟨x, hx⟩ : ∃ x, x = D[j]'hjD := ⟨_, rfl⟩
  obtain ⟨sy, hsy⟩ : ∃ sy, sy = (D[j + 1]'hjD1).1.2.2 := ⟨_, rfl⟩
  rw [← hx] at a2 hlt ⊢
  rw [← hsy] at b2 hlt ⊢
  rw [← hj1] at b2
  obtain ⟨sx, hsx⟩ : ∃ sx, sx = x.1.2.2 := ⟨_, rfl⟩
  rw [← hsx] at a2 hlt
  have hde : decide (sy ≤ sx) = false := by simp; omega
  have HBS : Hid (base ≤ w.heap.size) := hb
  have HSY : Hid (∀ W, LBld W base (.slice (some ⟨g, 0, none⟩) n cap) D → W.cell? ⟨g, j1 * 3 + 2, none⟩ = some (.int .i64 sy)) := fun W hW => by
    obtain ⟨⟨_, _, q2⟩, _, _⟩ := hW.atI hjD1
    rw [← hsy, ← hj1] at q2; exact q2
  have HPU : Hid (∀ W, StL w W base g cap n 3 (j : Int) s D → StL w (W.setCell ⟨g, j * 3 + 2, none⟩ (.int .i64 sy)) base g cap n 3 (j : Int) s (D.set j ((x.1.1, x.1.2.1, sy), x.2)) ∧ (∃ u, W.cell? ⟨g, j * 3 + 2, none⟩ = some u) ∧ W.frozen? ⟨g, j * 3 + 2, none⟩ = false) := fun W hW => by
    obtain ⟨⟨_, _, q2⟩, qf, qb⟩ := hW.1.atI hjD
    have hP := hW.1.putI hjD ((x.1.1, x.1.2.1, sy), x.2) 2 (.int .i64 sy) (by omega) (by rw [hx]; rfl) (by rw [hx]) (by rw [hx])
    refine ⟨⟨hP, fun z hz i hi => ?_, hW.2.2.1, hW.2.2.2.1.setCell (p := ⟨g, j * 3 + 2, none⟩) qb _, hW.2.2.2.2.1.far hW.2.2.1 _, hW.2.2.2.2.2.set (own_kind hW.1.1 (.inr rfl) g (by simp [Value.ownBlock])) _ _⟩, ⟨_, q2⟩, qf _⟩
    rcases List.mem_or_eq_of_mem_set hz with hz | hz
    · exact hW.2.1 z hz i hi
    · rw [hz, hx] at hi
      exact hW.2.1 _ (List.getElem_mem hjD) i hi
  have HRES : Hid (lkf (D.set j ((x.1.1, x.1.2.1, sy), x.2)) = (lkf D).set j (x.1.1, x.1.2.1, sy)) := by show _ = _; rw [lkf_set]
  have HNE : Hid ((j1 * 3 + 2) ≠ j * 3 + 2) := by show _ ≠ _; omega
  clear h hn hW0 ht hk a0 a1 b0 b1 ej hsx hx hsy hjD hjD1 hj1 hjt hlt
  go_enter Try.func25, Try.ntmps25
  go_wp2_with (rw [HW0.out])
  refine (HWI.out _).mono ?_
  rintro e w1 ⟨rfl, rfl⟩
  go_wp2_with fail
  go_quiet (fail)
  rename_i nq
  obtain ⟨W2, hW2⟩ : ∃ W2, W2 = w1.drewN nq := ⟨_, rfl⟩
  have HS2 : Hid (StL w W2 base g cap n 3 (j : Int) s D) := by show StL _ _ _ _ _ _ _ _ _ _; rw [hW2]; exact HST.out.drewN HBS.out nq
  rw [← hW2]
  clear hW2 c0 c1 c2 c3 c4 f4 a2 b2
  obtain ⟨k0, ⟨k1, k2, k3⟩, k4, l4⟩ := HS2.out.2.2.2.2.1.cells
  go_wp2_with fail
  clear k0 k1 k2 k3 k4 l4
  have HS3 : Hid (StL w W2.drew base g cap n 3 (j : Int) s D) := HS2.out.kept (Nat.le_trans HBS.out HS2.out.2.2.2.1.size) (Below.refl _ _).drew
  have hS0 : W2.drew.cell? ⟨w.heap.size, 0, none⟩ = some (.slice (some ⟨g, 0, none⟩) n cap) ∧ W2.drew.cell? ⟨w.heap.size + 1, 1, none⟩ = some (.int .i64 (j : Int)) ∧ W2.drew.cell? ⟨g, j1 * 3 + 2, none⟩ = some (.int .i64 sy) := by
    obtain ⟨k0, ⟨k1, k2, k3⟩, k4, l4⟩ := HS3.out.2.2.2.2.1.cells
    exact ⟨k0, k2, HSY.out _ HS3.out.1⟩
  refine wp_region_noPanic ?_
  refine wp_region_held_drew (S := fun W : World => W.cell? ⟨w.heap.size, 0, none⟩ = some (.slice (some ⟨g, 0, none⟩) n cap) ∧ W.cell? ⟨w.heap.size + 1, 1, none⟩ = some (.int .i64 (j : Int)) ∧ W.cell? ⟨g, j1 * 3 + 2, none⟩ = some (.int .i64 sy)) (by kernel_rfl) hS0 (fun hHeld => ?_)
  generalize W2.drew = wv at HS3 hS0 hHeld ⊢
  refine wpAnyH_take (i := 0) (v := .pointer (some ⟨w.heap.size, 0, none⟩)) rfl (by kernel_rfl) (by kernel_rfl) (by kernel_rfl) (fun _ _ _ h => h) (Or.inl ⟨by rfl, ?_⟩) (by assumption) ?_
  · intro W hSW
    go_simp
    all_goals (try omega)
  simp only [Act.put, List.getElem_toArray, List.getElem_cons_succ, List.getElem_cons_zero, List.setIfInBounds_toArray, List.set_cons_succ, List.set_cons_zero]
  refine wpAnyH_take (i := 1) (v := .slice (some ⟨g, 0, none⟩) n cap) rfl (by kernel_rfl) (by kernel_rfl) (by kernel_rfl) (fun _ _ _ h => h) (Or.inl ⟨by rfl, ?_⟩) (by assumption) ?_
  · intro W hSW
    obtain ⟨z0, z1, z2⟩ := hSW
    go_simp
    all_goals (try omega)
  simp only [Act.put, List.getElem_toArray, List.getElem_cons_succ, List.getElem_cons_zero, List.setIfInBounds_toArray, List.set_cons_succ, List.set_cons_zero]
  refine wpAnyH_take (i := 2) (v := .pointer (some ⟨w.heap.size + 1, 1, none⟩)) rfl (by kernel_rfl) (by kernel_rfl) (by kernel_rfl) (fun _ _ _ h => h) (Or.inl ⟨by rfl, ?_⟩) (by assumption) ?_
  · intro W hSW
    go_simp
    all_goals (try omega)
  simp only [Act.put, List.getElem_toArray, List.getElem_cons_succ, List.getElem_cons_zero, List.setIfInBounds_toArray, List.set_cons_succ, List.set_cons_zero]
  refine wpAnyH_take (i := 3) (v := .int .i64 (j : Int)) rfl (by kernel_rfl) (by kernel_rfl) (by kernel_rfl) (fun _ _ _ h => h) (Or.inl ⟨by rfl, ?_⟩) (by assumption) ?_
  · intro W hSW
    obtain ⟨z0, z1, z2⟩ := hSW
    go_simp
    all_goals (try omega)
  simp only [Act.put, List.getElem_toArray, List.getElem_cons_succ, List.getElem_cons_zero, List.setIfInBounds_toArray, List.set_cons_succ, List.set_cons_zero]
  refine wpAnyH_take (i := 4) (v := .pointer (some ⟨w.heap.size, 0, none⟩)) rfl (by kernel_rfl) (by kernel_rfl) (by kernel_rfl) (fun _ _ _ h => h) (Or.inl ⟨by rfl, ?_⟩) (by assumption) ?_
  · intro W hSW
    go_simp
    all_goals (try omega)
  simp only [Act.put, List.getElem_toArray, List.getElem_cons_succ, List.getElem_cons_zero, List.setIfInBounds_toArray, List.set_cons_succ, List.set_cons_zero]
  refine wpAnyH_take (i := 5) (v := .slice (some ⟨g, 0, none⟩) n cap) rfl (by kernel_rfl) (by kernel_rfl) (by kernel_rfl) (fun _ _ _ h => h) (Or.inl ⟨by rfl, ?_⟩) (by assumption) ?_
  · intro W hSW
    obtain ⟨z0, z1, z2⟩ := hSW
    go_simp
    all_goals (try omega)
  simp only [Act.put, List.getElem_toArray, List.getElem_cons_succ, List.getElem_cons_zero, List.setIfInBounds_toArray, List.set_cons_succ, List.set_cons_zero]
  refine wpAnyH_take (i := 6) (v := .pointer (some ⟨w.heap.size + 1, 1, none⟩)) rfl (by kernel_rfl) (by kernel_rfl) (by kernel_rfl) (fun _ _ _ h => h) (Or.inl ⟨by rfl, ?_⟩) (by assumption) ?_
  · intro W hSW
    go_simp
    all_goals (try omega)
  simp only [Act.put, List.getElem_toArray, List.getElem_cons_succ, List.getElem_cons_zero, List.setIfInBounds_toArray, List.set_cons_succ, List.set_cons_zero]
  refine wpAnyH_take (i := 7) (v := .int .i64 (j : Int)) rfl (by kernel_rfl) (by kernel_rfl) (by kernel_rfl) (fun _ _ _ h => h) (Or.inl ⟨by rfl, ?_⟩) (by assumption) ?_
  · intro W hSW
    obtain ⟨z0, z1, z2⟩ := hSW
    go_simp
    all_goals (try omega)
  simp only [Act.put, List.getElem_toArray, List.getElem_cons_succ, List.getElem_cons_zero, List.setIfInBounds_toArray, List.set_cons_succ, List.set_cons_zero]
  refine wpAnyH_take (i := 8) (v := .int .i64 (j1 : Int)) rfl (by kernel_rfl) (by kernel_rfl) (by kernel_rfl) (fun _ _ _ h => h) (Or.inl ⟨by rfl, ?_⟩) (by assumption) ?_
  · intro W hSW
    go_simp
    all_goals (try omega)
  simp only [Act.put, List.getElem_toArray, List.getElem_cons_succ, List.getElem_cons_zero, List.setIfInBounds_toArray, List.set_cons_succ, List.set_cons_zero]
  refine wpAnyH_take (i := 9) (v := .pointer (some ⟨g, j1 * 3, none⟩)) rfl (by kernel_rfl) (by kernel_rfl) (by kernel_rfl) (fun _ _ _ h => h) (Or.inl ⟨by rfl, ?_⟩) (by assumption) ?_
  · intro W hSW
    go_simp
    all_goals (try omega)
  simp only [Act.put, List.getElem_toArray, List.getElem_cons_succ, List.getElem_cons_zero, List.setIfInBounds_toArray, List.set_cons_succ, List.set_cons_zero]
  refine wpAnyH_take (i := 10) (v := .pointer (some ⟨g, j1 * 3 + 2, none⟩)) rfl (by kernel_rfl) (by kernel_rfl) (by kernel_rfl) (fun _ _ _ h => h) (Or.inl ⟨by rfl, ?_⟩) (by assumption) ?_
  · intro W hSW
    go_simp
    all_goals (try omega)
  simp only [Act.put, List.getElem_toArray, List.getElem_cons_succ, List.getElem_cons_zero, List.setIfInBounds_toArray, List.set_cons_succ, List.set_cons_zero]
  refine wpAnyH_take (i := 11) (v := .int .i64 sy) rfl (by kernel_rfl) (by kernel_rfl) (by kernel_rfl) (fun _ _ _ h => h) (Or.inl ⟨by rfl, ?_⟩) (by assumption) ?_
  · intro W hSW
    obtain ⟨z0, z1, z2⟩ := hSW
    go_simp
    all_goals (try omega)
  simp only [Act.put, List.getElem_toArray, List.getElem_cons_succ, List.getElem_cons_zero, List.setIfInBounds_toArray, List.set_cons_succ, List.set_cons_zero]
  refine wpAnyH_take (i := 12) (v := .pointer (some ⟨g, j * 3, none⟩)) rfl (by kernel_rfl) (by kernel_rfl) (by kernel_rfl) (fun _ _ _ h => h) (Or.inl ⟨by rfl, ?_⟩) (by assumption) ?_
  · intro W hSW
    go_simp
    all_goals (try omega)
  simp only [Act.put, List.getElem_toArray, List.getElem_cons_succ, List.getElem_cons_zero, List.setIfInBounds_toArray, List.set_cons_succ, List.set_cons_zero]
  refine wpAnyH_take (i := 13) (v := .pointer (some ⟨g, j * 3 + 2, none⟩)) rfl (by kernel_rfl) (by kernel_rfl) (by kernel_rfl) (fun _ _ _ h => h) (Or.inl ⟨by rfl, ?_⟩) (by assumption) ?_
  · intro W hSW
    go_simp
    all_goals (try omega)
  simp only [Act.put, List.getElem_toArray, List.getElem_cons_succ, List.getElem_cons_zero, List.setIfInBounds_toArray, List.set_cons_succ, List.set_cons_zero]
  obtain ⟨hS4, ⟨u0, m0⟩, mf⟩ := HPU.out wv HS3.out
  obtain ⟨W4, hW4⟩ : ∃ W4, W4 = wv.setCell ⟨g, j * 3 + 2, none⟩ (.int .i64 sy) := ⟨_, rfl⟩
  have HW4 : Hid (wv.setCell ⟨g, j * 3 + 2, none⟩ (.int .i64 sy) = W4) := hW4.symm
  rw [← hW4] at hS4
  have hSE : W4.cell? ⟨w.heap.size, 0, none⟩ = some (.slice (some ⟨g, 0, none⟩) n cap) ∧ W4.cell? ⟨w.heap.size + 1, 1, none⟩ = some (.int .i64 (j : Int)) ∧ W4.cell? ⟨g, j1 * 3 + 2, none⟩ = some (.int .i64 sy) := by
    obtain ⟨k0, ⟨k1, k2, k3⟩, k4, l4⟩ := hS4.2.2.2.2.1.cells
    refine ⟨k0, k2, ?_⟩
    have hne : (⟨g, j * 3 + 2, none⟩ : Addr) ≠ ⟨g, j1 * 3 + 2, none⟩ := by intro e; injection e with e1 e2; exact HNE.out e2.symm
    rw [hW4, World.cell?_setCell_other (h := hne)]
    exact hS0.2.2
  have HS4 : Hid (StL w W4 base g cap n 3 (j : Int) s (D.set j ((x.1.1, x.1.2.1, sy), x.2))) := hS4
  clear hS4 hW4 HSY HPU HS2 HS3
  refine wpAnyH_ready (rs := [14]) (by kernel_rfl) (by simp) ?_
  refine AllReadyH.cons rfl (fun K hK => ?_) AllReadyH.nil
  rw [if_pos (by rfl)]
  go_simp
  rw [HW4.out]
  refine hK.out _ _ hSE (fun hSS6 => ?_)
  clear hK hSS6 hSE hS0 m0 mf HW4
  refine wpAnyH_done (by kernel_rfl) ?_ _
  refine NoPanic.normal ?_
  clear hHeld
  obtain ⟨k0, ⟨k1, k2, k3⟩, k4, l4⟩ := HS4.out.2.2.2.2.1.cells
  go_wp2_with fail
  (try simp only [Exit.inBlock, Exit.then])
  refine bodyPost_ret (results_row_tmp rfl _ _ (w.heap.size + 1 + 1) 31 #[.slice (some ⟨g, 0, none⟩) n cap] (0, 0) _ (.bool true) rfl rfl ?_ Try.underlying31 rfl (by kernel_rfl)) rfl ⟨g, cap, _, (D.set j ((x.1.1, x.1.2.1, sy), x.2)), rfl, (HS4.out.fin HBS.out _).1, HRES.out, (HS4.out.fin HBS.out _).2⟩
  exact put1_heap HS4.out.2.2.2.2.1.2.2
end Go.Proofs.Ytacmipcjhbkdcaa

namespace Go.Proofs.Ytacmipcjhbkdcaa
open Go.RowKit

set_option linter.unusedSimpArgs false in
set_option maxRecDepth 20000 in
set_option maxHeartbeats 4000000 in
theorem l15Step_pass_last (base g cap n : Nat) (D : List (LkT × Value)) (kd k : Int) (s : List UInt8) (w : World) (h : LBld w base (.slice (some ⟨g, 0, none⟩) n cap) D) (hn : n = D.length) (h16 : 1 ≤ n ∧ n ≤ 6) (hb : base ≤ w.heap.size) (hj : k = (n : Int) - 1) (h3 : kd = 2) :
    Calls Try.prog 25 #[ChV (.slice (some ⟨g, 0, none⟩) n cap), .agg #[.int .i64 kd, .int .i64 k, .string ⟨s.toArray⟩]] w fun e w' => SpAns w w' base e (lkf D) false := by
  unfold ChV
  obtain ⟨t, ht⟩ : ∃ t, n = t + 1 := ⟨n - 1, by omega⟩
  obtain ⟨W0, hW0⟩ : ∃ W0, W0 = w3 w (.slice (some ⟨g, 0, none⟩) n cap) kd k s := ⟨_, rfl⟩
  have HW0 : Hid (((w.alloc (.cells #[.slice (some ⟨g, 0, none⟩) n cap] 31)).alloc (.cells #[.int .i64 kd, .int .i64 k, .string ⟨s.toArray⟩] 35)).alloc (.cells #[.slice none 0 0] 31) = W0) := by show _ = _; rw [hW0]; rfl
  have HST : Hid (StL w W0 base g cap n kd k s D) := by show StL _ _ _ _ _ _ _ _ _ _; rw [hW0]; exact st_new kd k s h hb
  have HZ : Hid (W0.heap.size = w.heap.size + 3) := by show _ = _; rw [hW0]; exact w3_size _ _ _ _ _
  obtain ⟨c0, ⟨c1, c2, c3⟩, c4, f4⟩ := HST.out.2.2.2.2.1.cells
  have hnt : (n : Int) - 1 = (t : Int) := by omega
  have wt : IntKind.i64.wrap ((n : Int) - 1) = (t : Int) := by rw [i64_wrapC (by omega) (by omega)]; omega
  have HWI : Hid (∀ W, Calls Try.prog 40 #[.int .i64 k, .int .i64 0, .int .i64 (t : Int)] W fun e w' => e = .returned (.bool (decide (0 ≤ k) && decide (k ≤ (t : Int)))) ∧ w' = W) := fun W => l1In_any _ _ _ W
  subst h3
  rw [hnt] at hj
  subst hj
  have e1 : ((t : Int) == (t : Int)) = true := by simp
  have HBS : Hid (base ≤ w.heap.size) := hb
  rw [show (decide ((0 : Int) ≤ (t : Int)) && decide ((t : Int) ≤ (t : Int))) = true by simp] at HWI
  clear h hn hW0 ht
  go_enter Try.func25, Try.ntmps25
  go_wp2_with (rw [HW0.out])
  refine (HWI.out _).mono ?_
  rintro e w1 ⟨rfl, rfl⟩
  go_wp2_with fail
  go_quiet (fail)
  rename_i nq
  obtain ⟨W2, hW2⟩ : ∃ W2, W2 = w1.drewN nq := ⟨_, rfl⟩
  have HS2 : Hid (StL w W2 base g cap n 2 (t : Int) s D) := by show StL _ _ _ _ _ _ _ _ _ _; rw [hW2]; exact HST.out.drewN HBS.out nq
  rw [← hW2]
  clear c0 c1 c2 c3 c4 f4 hW2
  obtain ⟨k0, ⟨k1, k2, k3⟩, k4, l4⟩ := HS2.out.2.2.2.2.1.cells
  go_wp2_with fail
  (try simp only [Exit.inBlock, Exit.then])
  refine bodyPost_ret (results_row_tmp rfl _ _ (w.heap.size + 1 + 1) 31 #[.slice (some ⟨g, 0, none⟩) n cap] (0, 0) _ (.bool false) rfl rfl ?_ Try.underlying31 rfl (by kernel_rfl)) rfl ⟨g, cap, _, D, rfl, (HS2.out.fin HBS.out _).1, rfl, (HS2.out.fin HBS.out _).2⟩
  exact put1_heap HS2.out.2.2.2.2.1.2.2
set_option linter.unusedSimpArgs false in
set_option maxRecDepth 20000 in
set_option maxHeartbeats 4000000 in
theorem l15Step_pass_no (base g cap n : Nat) (D : List (LkT × Value)) (kd k : Int) (s : List UInt8) (w : World) (h : LBld w base (.slice (some ⟨g, 0, none⟩) n cap) D) (hn : n = D.length) (h16 : 1 ≤ n ∧ n ≤ 6) (hb : base ≤ w.heap.size) (hk : 0 ≤ k ∧ k < (n : Int) - 1) (h3 : kd = 2) (hle : ((lkf D).getD k.toNat zLk).1.length ≤ ((lkf D).getD (k.toNat + 1) zLk).1.length) :
    Calls Try.prog 25 #[ChV (.slice (some ⟨g, 0, none⟩) n cap), .agg #[.int .i64 kd, .int .i64 k, .string ⟨s.toArray⟩]] w fun e w' => SpAns w w' base e (lkf D) false := by
  unfold ChV
  obtain ⟨t, ht⟩ : ∃ t, n = t + 1 := ⟨n - 1, by omega⟩
  obtain ⟨W0, hW0⟩ : ∃ W0, W0 = w3 w (.slice (some ⟨g, 0, none⟩) n cap) kd k s := ⟨_, rfl⟩
  have HW0 : Hid (((w.alloc (.cells #[.slice (some ⟨g, 0, none⟩) n cap] 31)).alloc (.cells #[.int .i64 kd, .int .i64 k, .string ⟨s.toArray⟩] 35)).alloc (.cells #[.slice none 0 0] 31) = W0) := by show _ = _; rw [hW0]; rfl
  have HST : Hid (StL w W0 base g cap n kd k s D) := by show StL _ _ _ _ _ _ _ _ _ _; rw [hW0]; exact st_new kd k s h hb
  have HZ : Hid (W0.heap.size = w.heap.size + 3) := by show _ = _; rw [hW0]; exact w3_size _ _ _ _ _
  obtain ⟨c0, ⟨c1, c2, c3⟩, c4, f4⟩ := HST.out.2.2.2.2.1.cells
  have hnt : (n : Int) - 1 = (t : Int) := by omega
  have wt : IntKind.i64.wrap ((n : Int) - 1) = (t : Int) := by rw [i64_wrapC (by omega) (by omega)]; omega
  have HWI : Hid (∀ W, Calls Try.prog 40 #[.int .i64 k, .int .i64 0, .int .i64 (t : Int)] W fun e w' => e = .returned (.bool (decide (0 ≤ k) && decide (k ≤ (t : Int)))) ∧ w' = W) := fun W => l1In_any _ _ _ W
  subst h3
  obtain ⟨j, rfl⟩ : ∃ j : Nat, k = (j : Int) := ⟨k.toNat, by omega⟩
  have hjt : j < t := by omega
  have hjD : j < D.length := by omega
  have hjD1 : j + 1 < D.length := by omega
  rw [show (decide ((0 : Int) ≤ (j : Int)) && decide ((j : Int) ≤ (t : Int))) = true by simp; omega] at HWI
  have e1 : ((j : Int) == (t : Int)) = false := by rw [beq_eq_false_iff_ne]; omega
  obtain ⟨⟨a0, a1, a2⟩, _, _⟩ := HST.out.1.atI hjD
  obtain ⟨⟨b0, b1, b2⟩, _, _⟩ := HST.out.1.atI hjD1
  obtain ⟨j1, hj1⟩ : ∃ j1, j1 = j + 1 := ⟨_, rfl⟩
  have wj : IntKind.i64.wrap ((j : Int) + 1) = (j1 : Int) := by rw [i64_wrapC (by omega) (by omega)]; omega
  have hjn : (j : Int) < (n : Int) := by omega
  have hj1n : (j1 : Int) < (n : Int) := by omega
  have ej : ((j : Int)).toNat = j := by omega
  have hown := HST.out.1.logI hjD
  have hown1 := HST.out.1.logI hjD1
  rw [ej, lkf_get hjD, lkf_get hjD1] at hle
  obtain ⟨x, hx⟩ : ∃ x, x = D[j]'hjD := ⟨_, rfl⟩
  obtain ⟨y, hy⟩ : ∃ y, y = D[j + 1]'hjD1 := ⟨_, rfl⟩
  rw [← hx] at a0 hown hle
  rw [← hy] at b0 hown1 hle
  have HX : Hid (x = D[j]'hjD) := hx
  have HY : Hid (y = D[j + 1]'hjD1) := hy
  obtain ⟨⟨xd, xs, xu⟩, dv⟩ := x
  obtain ⟨⟨yd, ys, yu⟩, ev⟩ := y
  obtain ⟨ad, cd, hdv, _, _, hau⟩ := own_sliceC hown
  obtain ⟨ae, ce, hev, _, _, _⟩ := own_sliceC hown1
  simp only at hdv hev a0 b0 hown hown1 hle
  subst hdv hev
  rw [← hj1] at b0
  have HBS : Hid (base ≤ w.heap.size) := hb
  have hde : decide (xd.length ≤ yd.length) = true := by simp; omega
  clear h hn hW0 ht hk a1 a2 b1 b2 ej hx hy hown hown1 hau hj1 hjt
  go_enter Try.func25, Try.ntmps25
  go_wp2_with (rw [HW0.out])
  refine (HWI.out _).mono ?_
  rintro e w1 ⟨rfl, rfl⟩
  go_wp2_with fail
  go_quiet (fail)
  rename_i nq
  obtain ⟨W2, hW2⟩ : ∃ W2, W2 = w1.drewN nq := ⟨_, rfl⟩
  have HS2 : Hid (StL w W2 base g cap n 2 (j : Int) s D) := by show StL _ _ _ _ _ _ _ _ _ _; rw [hW2]; exact HST.out.drewN HBS.out nq
  rw [← hW2]
  clear c0 c1 c2 c3 c4 f4 hW2 a0 b0
  obtain ⟨k0, ⟨k1, k2, k3⟩, k4, l4⟩ := HS2.out.2.2.2.2.1.cells
  go_wp2_with fail
  (try simp only [Exit.inBlock, Exit.then])
  refine bodyPost_ret (results_row_tmp rfl _ _ (w.heap.size + 1 + 1) 31 #[.slice (some ⟨g, 0, none⟩) n cap] (0, 0) _ (.bool false) rfl rfl ?_ Try.underlying31 rfl (by kernel_rfl)) rfl ⟨g, cap, _, D, rfl, (HS2.out.fin HBS.out _).1, rfl, (HS2.out.fin HBS.out _).2⟩
  exact put1_heap HS2.out.2.2.2.2.1.2.2
end Go.Proofs.Ytacmipcjhbkdcaa

namespace Go.Proofs.Ytacmipcjhbkdcaa
open Go.RowKit

set_option linter.unusedSimpArgs false in
set_option maxRecDepth 20000 in
set_option maxHeartbeats 4000000 in
theorem l15Step_pass_yes (base g cap n : Nat) (D : List (LkT × Value)) (kd k : Int) (s : List UInt8) (w : World) (h : LBld w base (.slice (some ⟨g, 0, none⟩) n cap) D) (hn : n = D.length) (h16 : 1 ≤ n ∧ n ≤ 6) (hb : base ≤ w.heap.size) (hk : 0 ≤ k ∧ k < (n : Int) - 1) (h3 : kd = 2) (hlt : ((lkf D).getD (k.toNat + 1) zLk).1.length < ((lkf D).getD k.toNat zLk).1.length) (hsm : ((lkf D).getD k.toNat zLk).1.length ≤ 1000) :
    Calls Try.prog 25 #[ChV (.slice (some ⟨g, 0, none⟩) n cap), .agg #[.int .i64 kd, .int .i64 k, .string ⟨s.toArray⟩]] w fun e w' => SpAns w w' base e (tailT (((lkf D).set (k.toNat + 1) (((lkf D).getD (k.toNat + 1) zLk).1 ++ [((lkf D).getD k.toNat zLk).1.getD ((lkf D).getD (k.toNat + 1) zLk).1.length []], ((lkf D).getD (k.toNat + 1) zLk).2.1, ((lkf D).getD (k.toNat + 1) zLk).2.2)).set k.toNat (((lkf D).getD k.toNat zLk).1, (((lkf D).getD (k.toNat + 1) zLk).1.length : Int) + 1, ((lkf D).getD k.toNat zLk).2.2))) true := by
  unfold ChV
  obtain ⟨t, ht⟩ : ∃ t, n = t + 1 := ⟨n - 1, by omega⟩
  obtain ⟨W0, hW0⟩ : ∃ W0, W0 = w3 w (.slice (some ⟨g, 0, none⟩) n cap) kd k s := ⟨_, rfl⟩
  have HW0 : Hid (((w.alloc (.cells #[.slice (some ⟨g, 0, none⟩) n cap] 31)).alloc (.cells #[.int .i64 kd, .int .i64 k, .string ⟨s.toArray⟩] 35)).alloc (.cells #[.slice none 0 0] 31) = W0) := by show _ = _; rw [hW0]; rfl
  have HST : Hid (StL w W0 base g cap n kd k s D) := by show StL _ _ _ _ _ _ _ _ _ _; rw [hW0]; exact st_new kd k s h hb
  have HZ : Hid (W0.heap.size = w.heap.size + 3) := by show _ = _; rw [hW0]; exact w3_size _ _ _ _ _
  obtain ⟨c0, ⟨c1, c2, c3⟩, c4, f4⟩ := HST.out.2.2.2.2.1.cells
  have hnt : (n : Int) - 1 = (t : Int) := by omega
  have wt : IntKind.i64.wrap ((n : Int) - 1) = (t : Int) := by rw [i64_wrapC (by omega) (by omega)]; omega
  have HWI : Hid (∀ W, Calls Try.prog 40 #[.int .i64 k, .int .i64 0, .int .i64 (t : Int)] W fun e w' => e = .returned (.bool (decide (0 ≤ k) && decide (k ≤ (t : Int)))) ∧ w' = W) := fun W => l1In_any _ _ _ W
  subst h3
  obtain ⟨j, rfl⟩ : ∃ j : Nat, k = (j : Int) := ⟨k.toNat, by omega⟩
  have hjt : j < t := by omega
  have hjD : j < D.length := by omega
  have hjD1 : j + 1 < D.length := by omega
  rw [show (decide ((0 : Int) ≤ (j : Int)) && decide ((j : Int) ≤ (t : Int))) = true by simp; omega] at HWI
  have e1 : ((j : Int) == (t : Int)) = false := by rw [beq_eq_false_iff_ne]; omega
  obtain ⟨⟨a0, a1, a2⟩, _, _⟩ := HST.out.1.atI hjD
  obtain ⟨⟨b0, b1, b2⟩, _, _⟩ := HST.out.1.atI hjD1
  obtain ⟨j1, hj1⟩ : ∃ j1, j1 = j + 1 := ⟨_, rfl⟩
  have wj : IntKind.i64.wrap ((j : Int) + 1) = (j1 : Int) := by rw [i64_wrapC (by omega) (by omega)]; omega
  have hjn : (j : Int) < (n : Int) := by omega
  have hj1n : (j1 : Int) < (n : Int) := by omega
  have ej : ((j : Int)).toNat = j := by omega
  have hown := HST.out.1.logI hjD
  have hown1 := HST.out.1.logI hjD1
  rw [ej, lkf_get hjD, lkf_get hjD1] at hlt ⊢
  rw [ej, lkf_get hjD] at hsm
  obtain ⟨x, hx⟩ : ∃ x, x = D[j]'hjD := ⟨_, rfl⟩
  obtain ⟨y, hy⟩ : ∃ y, y = D[j + 1]'hjD1 := ⟨_, rfl⟩
  rw [← hx] at a0 hown hlt hsm ⊢
  rw [← hy] at b0 hown1 hlt ⊢
  have HX : Hid (x = D[j]'hjD) := hx
  have HY : Hid (y = D[j + 1]'hjD1) := hy
  obtain ⟨⟨xd, xs, xu⟩, dv⟩ := x
  obtain ⟨⟨yd, ys, yu⟩, ev⟩ := y
  obtain ⟨ad, cd, hdv, _, _, hau⟩ := own_sliceC hown
  obtain ⟨ae, ce, hev, _, _, _⟩ := own_sliceC hown1
  simp only at hdv hev a0 b0 hown hown1 hlt hsm ⊢
  subst hdv hev
  rw [← hj1] at b0
  have HBS : Hid (base ≤ w.heap.size) := hb
  have hde : decide (xd.length ≤ yd.length) = false := by simp; omega
  have hnl : ¬ xd.length ≤ yd.length := by omega
  obtain ⟨bj, haj, hbj⟩ := hau (show 0 < xd.length by omega)
  subst haj
  obtain ⟨i, hi⟩ : ∃ i, i = yd.length := ⟨_, rfl⟩
  obtain ⟨sx, hsx⟩ : ∃ sx, sx = xd.getD yd.length [] := ⟨_, rfl⟩
  rw [← hsx]
  have hix : (i : Int) < (xd.length : Int) := by omega
  have hi1 : i < xd.length := by omega
  have HTX : Hid (∀ W : World, W.ownsRow base 9 1 (.slice (some ⟨bj, 0, none⟩) xd.length cd) xd.length (xd.map S) → W.cell? ⟨bj, i, none⟩ = some (.string ⟨sx.toArray⟩)) := fun W h => by
    rw [h.cellAt i (by omega), List.getElem?_map, List.getElem?_eq_getElem hi1, hsx, ← hi, List.getD_eq_getElem?_getD, List.getElem?_eq_getElem hi1]; rfl
  have HTL : Hid (∀ W D', LBld W base (.slice (some ⟨g, 0, none⟩) n cap) D' → n = D'.length → base ≤ W.heap.size → Calls Try.prog 42 #[ChV (.slice (some ⟨g, 0, none⟩) n cap)] W fun e w' => e = .returned (ChV (.slice (some ⟨g, 0, none⟩) n cap)) ∧ (∃ D2, LBld w' base (.slice (some ⟨g, 0, none⟩) n cap) D2 ∧ lkf D2 = tailT (lkf D')) ∧ Below base W w' ∧ W.grownBy w' (some g)) := fun W D' h1 h2 h3 => l15Tail_any base g cap n D' W h1 h2 (by omega) (by omega) h3
  unfold ChV at HTL
  have HN : Hid (n = D.length) := hn
  have HZ0 : Hid (w.heap.size + 3 ≤ W0.heap.size) := by show _ ≤ W0.heap.size; have := HZ.out; omega
  have HAP : Hid (ApartK (D[j]'hjD) (D[j + 1]'hjD1)) := (List.pairwise_iff_getElem.1 h.2.2) j (j + 1) hjD hjD1 (by omega)
  have HJ1 : Hid (j1 = j + 1) := hj1
  have HI : Hid (i = yd.length) := hi
  have HAG : Hid (∀ W, StL w W base g cap n 2 (j : Int) s D → (W.cell? ⟨g, j * 3, none⟩ = some (.slice (some ⟨bj, 0, none⟩) xd.length cd) ∧ W.ownsRow base 9 1 (.slice (some ⟨bj, 0, none⟩) xd.length cd) xd.length (xd.map S)) ∧ W.cell? ⟨g, j1 * 3, none⟩ = some (.slice ae yd.length ce) ∧ W.ownsRow base 9 1 (.slice ae yd.length ce) yd.length (yd.map S)) := fun W h => by
    obtain ⟨⟨q0, _, _⟩, _, _⟩ := h.1.atI hjD
    obtain ⟨⟨q1, _, _⟩, _, _⟩ := h.1.atI hjD1
    have q5 := h.1.logI hjD
    have q6 := h.1.logI hjD1
    rw [← HX.out] at q0 q5
    rw [← HY.out] at q1 q6
    rw [HJ1.out]
    exact ⟨⟨q0, q5⟩, q1, q6⟩
  have wi : IntKind.i64.wrap ((i : Int) + 1) = (i : Int) + 1 := i64_wrapC (by omega) (by omega)
  have hyl : yd.length ≤ 1000 := by omega
  clear h hn hW0 ht hk a1 a2 b1 b2 ej hx hy hown hown1 hau hj1 hjt hlt hsm hi hsx hi1
  go_enter Try.func25, Try.ntmps25
  go_wp2_with (rw [HW0.out])
  refine (HWI.out _).mono ?_
  rintro e w1 ⟨rfl, rfl⟩
  go_wp2_with fail
  go_quiet (fail)
  rename_i nq
  obtain ⟨W2, hW2⟩ : ∃ W2, W2 = w1.drewN nq := ⟨_, rfl⟩
  have HS2 : Hid (StL w W2 base g cap n 2 (j : Int) s D) := by show StL _ _ _ _ _ _ _ _ _ _; rw [hW2]; exact HST.out.drewN HBS.out nq
  rw [← hW2]
  have HZ2 : Hid (w.heap.size + 3 ≤ W2.heap.size) := by show _ ≤ W2.heap.size; rw [hW2]; exact HZ0.out
  clear hW2 c0 c1 c2 c3 c4 f4 a0 b0 HZ HZ0 HST
  obtain ⟨⟨k5, k6⟩, k7, k8⟩ := HAG.out _ HS2.out
  obtain ⟨k0, ⟨k1, k2, k3⟩, k4, l4⟩ := HS2.out.2.2.2.2.1.cells
  clear k6 k8
  rw [← HI.out] at k7
  go_wp2_with fail
  clear k0 k1 k2 k3 k4 l4 k5 k7
  have HS3 : Hid (StL w W2.drew base g cap n 2 (j : Int) s D) := HS2.out.kept (Nat.le_trans HBS.out HS2.out.2.2.2.1.size) (Below.refl _ _).drew
  have HZ3 : Hid (w.heap.size + 3 ≤ W2.drew.heap.size) := HZ2.out
  have HSB : Hid (∀ W, StB w W (.slice (some ⟨g, 0, none⟩) n cap) 2 (j : Int) s → W.cell? ⟨g, j * 3, none⟩ = some (.slice (some ⟨bj, 0, none⟩) xd.length cd) → W.cell? ⟨bj, i, none⟩ = some (.string ⟨sx.toArray⟩) → (W.cell? ⟨w.heap.size, 0, none⟩ = some (.slice (some ⟨g, 0, none⟩) n cap) ∧ W.cell? ⟨w.heap.size + 1, 1, none⟩ = some (.int .i64 (j : Int)) ∧ W.cell? ⟨g, j * 3, none⟩ = some (.slice (some ⟨bj, 0, none⟩) xd.length cd) ∧ W.cell? ⟨bj, i, none⟩ = some (.string ⟨sx.toArray⟩))) := fun W h h1 h2 => by
    obtain ⟨k0, ⟨k1, k2, k3⟩, k4, l4⟩ := h.cells
    exact ⟨k0, k2, h1, h2⟩
  have HSL : Hid (∀ W, StL w W base g cap n 2 (j : Int) s D → (W.cell? ⟨w.heap.size, 0, none⟩ = some (.slice (some ⟨g, 0, none⟩) n cap) ∧ W.cell? ⟨w.heap.size + 1, 1, none⟩ = some (.int .i64 (j : Int)) ∧ W.cell? ⟨g, j * 3, none⟩ = some (.slice (some ⟨bj, 0, none⟩) xd.length cd) ∧ W.cell? ⟨bj, i, none⟩ = some (.string ⟨sx.toArray⟩))) := fun W h => HSB.out W h.2.2.2.2.1 (HAG.out W h).1.1 (HTX.out W (HAG.out W h).1.2)
  refine wp_region_noPanic ?_
  refine wp_region_held_drew (S := fun W : World => W.cell? ⟨w.heap.size, 0, none⟩ = some (.slice (some ⟨g, 0, none⟩) n cap) ∧ W.cell? ⟨w.heap.size + 1, 1, none⟩ = some (.int .i64 (j : Int)) ∧ W.cell? ⟨g, j * 3, none⟩ = some (.slice (some ⟨bj, 0, none⟩) xd.length cd) ∧ W.cell? ⟨bj, i, none⟩ = some (.string ⟨sx.toArray⟩)) (by kernel_rfl) (HSL.out _ HS3.out) (fun hHeld => ?_)
  generalize W2.drew = wv at HS3 HZ3 hHeld ⊢
  clear HZ2 HS2
  refine wpAnyH_take (i := 0) (v := .pointer (some ⟨w.heap.size, 0, none⟩)) rfl (by kernel_rfl) (by kernel_rfl) (by kernel_rfl) (fun _ _ _ h => h) (Or.inl ⟨by rfl, ?_⟩) (by assumption) ?_
  · intro W hSW
    go_simp
    all_goals (try omega)
  simp only [Act.put, List.getElem_toArray, List.getElem_cons_succ, List.getElem_cons_zero, List.setIfInBounds_toArray, List.set_cons_succ, List.set_cons_zero]
  refine wpAnyH_take (i := 1) (v := .slice (some ⟨g, 0, none⟩) n cap) rfl (by kernel_rfl) (by kernel_rfl) (by kernel_rfl) (fun _ _ _ h => h) (Or.inl ⟨by rfl, ?_⟩) (by assumption) ?_
  · intro W hSW
    obtain ⟨z0, z1, z2, z3⟩ := hSW
    go_simp
    all_goals (try omega)
  simp only [Act.put, List.getElem_toArray, List.getElem_cons_succ, List.getElem_cons_zero, List.setIfInBounds_toArray, List.set_cons_succ, List.set_cons_zero]
  refine wpAnyH_take (i := 2) (v := .pointer (some ⟨w.heap.size + 1, 1, none⟩)) rfl (by kernel_rfl) (by kernel_rfl) (by kernel_rfl) (fun _ _ _ h => h) (Or.inl ⟨by rfl, ?_⟩) (by assumption) ?_
  · intro W hSW
    go_simp
    all_goals (try omega)
  simp only [Act.put, List.getElem_toArray, List.getElem_cons_succ, List.getElem_cons_zero, List.setIfInBounds_toArray, List.set_cons_succ, List.set_cons_zero]
  refine wpAnyH_take (i := 3) (v := .int .i64 (j : Int)) rfl (by kernel_rfl) (by kernel_rfl) (by kernel_rfl) (fun _ _ _ h => h) (Or.inl ⟨by rfl, ?_⟩) (by assumption) ?_
  · intro W hSW
    obtain ⟨z0, z1, z2, z3⟩ := hSW
    go_simp
    all_goals (try omega)
  simp only [Act.put, List.getElem_toArray, List.getElem_cons_succ, List.getElem_cons_zero, List.setIfInBounds_toArray, List.set_cons_succ, List.set_cons_zero]
  refine wpAnyH_take (i := 4) (v := .int .i64 (j1 : Int)) rfl (by kernel_rfl) (by kernel_rfl) (by kernel_rfl) (fun _ _ _ h => h) (Or.inl ⟨by rfl, ?_⟩) (by assumption) ?_
  · intro W hSW
    go_simp
    all_goals (try omega)
  simp only [Act.put, List.getElem_toArray, List.getElem_cons_succ, List.getElem_cons_zero, List.setIfInBounds_toArray, List.set_cons_succ, List.set_cons_zero]
  refine wpAnyH_take (i := 5) (v := .pointer (some ⟨w.heap.size, 0, none⟩)) rfl (by kernel_rfl) (by kernel_rfl) (by kernel_rfl) (fun _ _ _ h => h) (Or.inl ⟨by rfl, ?_⟩) (by assumption) ?_
  · intro W hSW
    go_simp
    all_goals (try omega)
  simp only [Act.put, List.getElem_toArray, List.getElem_cons_succ, List.getElem_cons_zero, List.setIfInBounds_toArray, List.set_cons_succ, List.set_cons_zero]
  refine wpAnyH_take (i := 6) (v := .slice (some ⟨g, 0, none⟩) n cap) rfl (by kernel_rfl) (by kernel_rfl) (by kernel_rfl) (fun _ _ _ h => h) (Or.inl ⟨by rfl, ?_⟩) (by assumption) ?_
  · intro W hSW
    obtain ⟨z0, z1, z2, z3⟩ := hSW
    go_simp
    all_goals (try omega)
  simp only [Act.put, List.getElem_toArray, List.getElem_cons_succ, List.getElem_cons_zero, List.setIfInBounds_toArray, List.set_cons_succ, List.set_cons_zero]
  refine wpAnyH_take (i := 7) (v := .pointer (some ⟨w.heap.size + 1, 1, none⟩)) rfl (by kernel_rfl) (by kernel_rfl) (by kernel_rfl) (fun _ _ _ h => h) (Or.inl ⟨by rfl, ?_⟩) (by assumption) ?_
  · intro W hSW
    go_simp
    all_goals (try omega)
  simp only [Act.put, List.getElem_toArray, List.getElem_cons_succ, List.getElem_cons_zero, List.setIfInBounds_toArray, List.set_cons_succ, List.set_cons_zero]
  refine wpAnyH_take (i := 8) (v := .int .i64 (j : Int)) rfl (by kernel_rfl) (by kernel_rfl) (by kernel_rfl) (fun _ _ _ h => h) (Or.inl ⟨by rfl, ?_⟩) (by assumption) ?_
  · intro W hSW
    obtain ⟨z0, z1, z2, z3⟩ := hSW
    go_simp
    all_goals (try omega)
  simp only [Act.put, List.getElem_toArray, List.getElem_cons_succ, List.getElem_cons_zero, List.setIfInBounds_toArray, List.set_cons_succ, List.set_cons_zero]
  refine wpAnyH_take (i := 9) (v := .int .i64 (j1 : Int)) rfl (by kernel_rfl) (by kernel_rfl) (by kernel_rfl) (fun _ _ _ h => h) (Or.inl ⟨by rfl, ?_⟩) (by assumption) ?_
  · intro W hSW
    go_simp
    all_goals (try omega)
  simp only [Act.put, List.getElem_toArray, List.getElem_cons_succ, List.getElem_cons_zero, List.setIfInBounds_toArray, List.set_cons_succ, List.set_cons_zero]
  refine wpAnyH_take (i := 10) (v := .pointer (some ⟨g, j1 * 3, none⟩)) rfl (by kernel_rfl) (by kernel_rfl) (by kernel_rfl) (fun _ _ _ h => h) (Or.inl ⟨by rfl, ?_⟩) (by assumption) ?_
  · intro W hSW
    go_simp
    all_goals (try omega)
  simp only [Act.put, List.getElem_toArray, List.getElem_cons_succ, List.getElem_cons_zero, List.setIfInBounds_toArray, List.set_cons_succ, List.set_cons_zero]
  refine wpAnyH_take (i := 11) (v := .pointer (some ⟨g, j1 * 3, none⟩)) rfl (by kernel_rfl) (by kernel_rfl) (by kernel_rfl) (fun _ _ _ h => h) (Or.inl ⟨by rfl, ?_⟩) (by assumption) ?_
  · intro W hSW
    go_simp
    all_goals (try omega)
  simp only [Act.put, List.getElem_toArray, List.getElem_cons_succ, List.getElem_cons_zero, List.setIfInBounds_toArray, List.set_cons_succ, List.set_cons_zero]
  refine wpAnyH_take (i := 13) (v := .pointer (some ⟨w.heap.size, 0, none⟩)) rfl (by kernel_rfl) (by kernel_rfl) (by kernel_rfl) (fun _ _ _ h => h) (Or.inl ⟨by rfl, ?_⟩) (by assumption) ?_
  · intro W hSW
    go_simp
    all_goals (try omega)
  simp only [Act.put, List.getElem_toArray, List.getElem_cons_succ, List.getElem_cons_zero, List.setIfInBounds_toArray, List.set_cons_succ, List.set_cons_zero]
  refine wpAnyH_take (i := 14) (v := .slice (some ⟨g, 0, none⟩) n cap) rfl (by kernel_rfl) (by kernel_rfl) (by kernel_rfl) (fun _ _ _ h => h) (Or.inl ⟨by rfl, ?_⟩) (by assumption) ?_
  · intro W hSW
    obtain ⟨z0, z1, z2, z3⟩ := hSW
    go_simp
    all_goals (try omega)
  simp only [Act.put, List.getElem_toArray, List.getElem_cons_succ, List.getElem_cons_zero, List.setIfInBounds_toArray, List.set_cons_succ, List.set_cons_zero]
  refine wpAnyH_take (i := 15) (v := .pointer (some ⟨w.heap.size + 1, 1, none⟩)) rfl (by kernel_rfl) (by kernel_rfl) (by kernel_rfl) (fun _ _ _ h => h) (Or.inl ⟨by rfl, ?_⟩) (by assumption) ?_
  · intro W hSW
    go_simp
    all_goals (try omega)
  simp only [Act.put, List.getElem_toArray, List.getElem_cons_succ, List.getElem_cons_zero, List.setIfInBounds_toArray, List.set_cons_succ, List.set_cons_zero]
  refine wpAnyH_take (i := 16) (v := .int .i64 (j : Int)) rfl (by kernel_rfl) (by kernel_rfl) (by kernel_rfl) (fun _ _ _ h => h) (Or.inl ⟨by rfl, ?_⟩) (by assumption) ?_
  · intro W hSW
    obtain ⟨z0, z1, z2, z3⟩ := hSW
    go_simp
    all_goals (try omega)
  simp only [Act.put, List.getElem_toArray, List.getElem_cons_succ, List.getElem_cons_zero, List.setIfInBounds_toArray, List.set_cons_succ, List.set_cons_zero]
  refine wpAnyH_take (i := 17) (v := .pointer (some ⟨g, j * 3, none⟩)) rfl (by kernel_rfl) (by kernel_rfl) (by kernel_rfl) (fun _ _ _ h => h) (Or.inl ⟨by rfl, ?_⟩) (by assumption) ?_
  · intro W hSW
    go_simp
    all_goals (try omega)
  simp only [Act.put, List.getElem_toArray, List.getElem_cons_succ, List.getElem_cons_zero, List.setIfInBounds_toArray, List.set_cons_succ, List.set_cons_zero]
  refine wpAnyH_take (i := 18) (v := .pointer (some ⟨g, j * 3, none⟩)) rfl (by kernel_rfl) (by kernel_rfl) (by kernel_rfl) (fun _ _ _ h => h) (Or.inl ⟨by rfl, ?_⟩) (by assumption) ?_
  · intro W hSW
    go_simp
    all_goals (try omega)
  simp only [Act.put, List.getElem_toArray, List.getElem_cons_succ, List.getElem_cons_zero, List.setIfInBounds_toArray, List.set_cons_succ, List.set_cons_zero]
  refine wpAnyH_take (i := 19) (v := .slice (some ⟨bj, 0, none⟩) xd.length cd) rfl (by kernel_rfl) (by kernel_rfl) (by kernel_rfl) (fun _ _ _ h => h) (Or.inl ⟨by rfl, ?_⟩) (by assumption) ?_
  · intro W hSW
    obtain ⟨z0, z1, z2, z3⟩ := hSW
    go_simp
    all_goals (try omega)
  simp only [Act.put, List.getElem_toArray, List.getElem_cons_succ, List.getElem_cons_zero, List.setIfInBounds_toArray, List.set_cons_succ, List.set_cons_zero]
  refine wpAnyH_take (i := 20) (v := .int .i64 (i : Int)) rfl (by kernel_rfl) (by kernel_rfl) (by kernel_rfl) (fun _ _ _ h => h) (Or.inl ⟨by rfl, ?_⟩) (by assumption) ?_
  · intro W hSW
    go_simp
    all_goals (try omega)
  simp only [Act.put, List.getElem_toArray, List.getElem_cons_succ, List.getElem_cons_zero, List.setIfInBounds_toArray, List.set_cons_succ, List.set_cons_zero]
  refine wpAnyH_take (i := 21) (v := .pointer (some ⟨bj, i, none⟩)) rfl (by kernel_rfl) (by kernel_rfl) (by kernel_rfl) (fun _ _ _ h => h) (Or.inl ⟨by rfl, ?_⟩) (by assumption) ?_
  · intro W hSW
    go_simp
    all_goals (try omega)
  simp only [Act.put, List.getElem_toArray, List.getElem_cons_succ, List.getElem_cons_zero, List.setIfInBounds_toArray, List.set_cons_succ, List.set_cons_zero]
  refine wpAnyH_take (i := 22) (v := .string ⟨sx.toArray⟩) rfl (by kernel_rfl) (by kernel_rfl) (by kernel_rfl) (fun _ _ _ h => h) (Or.inl ⟨by rfl, ?_⟩) (by assumption) ?_
  · intro W hSW
    obtain ⟨z0, z1, z2, z3⟩ := hSW
    go_simp
    all_goals (try omega)
  simp only [Act.put, List.getElem_toArray, List.getElem_cons_succ, List.getElem_cons_zero, List.setIfInBounds_toArray, List.set_cons_succ, List.set_cons_zero]
  obtain ⟨wA, hwA⟩ : ∃ wA, wA = wv.alloc (.cells #[.string ⟨sx.toArray⟩] 9) := ⟨_, rfl⟩
  have HWA : Hid (wv.alloc (.cells #[.string ⟨sx.toArray⟩] 9) = wA) := hwA.symm
  have hbA : Below wv.heap.size wv wA := by rw [hwA]; exact (Below.refl _ _).alloc (Nat.le_refl _) _
  have hbv : base ≤ wv.heap.size := by have := HZ3.out; omega
  have HSA : Hid (StL w wA base g cap n 2 (j : Int) s D) := HS3.out.kept hbv hbA
  have HZA : Hid (w.heap.size + 3 ≤ wA.heap.size) := Nat.le_trans HZ3.out hbA.size
  have HRO : Hid (Row wA (.slice (some ⟨wv.heap.size, 0, none⟩) 1 1) [sx]) := by show Row _ _ _; rw [hwA]; exact row_one sx
  clear hwA hbA hbv
  refine wpAnyH_ready (rs := [12, 23]) (by kernel_rfl) (by simp) ?_
  refine AllReadyH.cons rfl (fun K hK => ?_) (AllReadyH.cons rfl (fun K hK => ?_) AllReadyH.nil)
  · rw [if_pos (by rfl)]
    obtain ⟨_, q0, _⟩ := HAG.out _ HS3.out
    go_simp
    refine hK.out _ _ (HSL.out _ HS3.out) (fun hSS => ?_)
    clear hK hSS q0
    refine wpAnyH_ready (rs := [23]) (by kernel_rfl) (by simp) ?_
    refine AllReadyH.cons rfl (fun K hK => ?_) AllReadyH.nil
    rw [if_pos (by rfl)]
    go_simp
    rw [HWA.out]
    refine hK.out _ _ (HSL.out _ HSA.out) (fun hSS => ?_)
    clear hK hSS
    refine wpAnyH_ready (rs := [24]) (by kernel_rfl) (by simp) ?_
    refine AllReadyH.cons rfl (fun K hK => ?_) AllReadyH.nil
    refine step_append_row rfl (.tmp 135) (.tmp 146) rfl base _ yd.length (yd.map S) rfl (HAG.out _ HSA.out).2.2 _ rfl [sx] HRO.out (by simp; omega) (by have := HZA.out; omega) ?_
    intro v2 w2 hown2 hgrow2 hfr2
    have ho2 : w2.ownsRow base 9 1 v2 (yd ++ [sx]).length ((yd ++ [sx]).map S) := by rw [List.length_append, List.map_append]; exact hown2
    obtain ⟨a2, c2', hv2, _, _, _⟩ := own_sliceC ho2
    subst hv2
    have hS5 := HSA.out.relog hjD1 (d := yd ++ [sx]) ho2 (by rw [← HY.out]; exact hgrow2) (by rw [← HY.out]; exact hfr2) HZA.out (by have := HZA.out; omega)
    have e9 : (D[j + 1]'hjD1).1.2 = (ys, yu) := by rw [← HY.out]
    rw [e9] at hS5
    rw [← HJ1.out] at hS5
    obtain ⟨hS5, ⟨u0, m0⟩, mf, hB2⟩ := hS5
    have hoj : w2.ownsRow base 9 1 (.slice (some ⟨bj, 0, none⟩) xd.length cd) xd.length (xd.map S) := by
      refine (HAG.out _ HSA.out).1.2.kept hgrow2 ?_
      refine .inr (fun e => ?_)
      have q1 : (D[j]'hjD).2.ownBlock = some bj := by rw [← HX.out]; rfl
      have q2 := HAP.out bj q1
      rw [← HY.out] at q2
      exact q2 e.symm
    have hcj2 : w2.cell? ⟨g, j * 3, none⟩ = some (.slice (some ⟨bj, 0, none⟩) xd.length cd) := by
      have q1 := (HAG.out _ HSA.out).1.1
      have q2 := World.block_lt_of_cell? _ _ q1
      have q3 : w2.heap[g]? = wA.heap[g]? := hgrow2.block g q2 (fun e => by
        have q4 := own_types (HAG.out _ HSA.out).2.2 HSA.out.1.1 (by decide)
        rcases q4 with q4 | q4
        · exact absurd (e.trans q4) (by simp)
        · exact q4 e.symm)
      unfold World.cell? at q1 ⊢
      rw [q3]; exact q1
    have HTW : Hid (w2.cell? ⟨bj, i, none⟩ = some (.string ⟨sx.toArray⟩)) := HTX.out _ hoj
    have mf0 := mf (j1 * 3)
    obtain ⟨y2, hy2⟩ : ∃ y2 : LkT × Value, y2 = ((yd ++ [sx], ys, yu), Value.slice a2 (yd ++ [sx]).length c2') := ⟨_, rfl⟩
    obtain ⟨D5, hD5⟩ : ∃ D5, D5 = D.set j1 y2 := ⟨_, rfl⟩
    have hS5b : StL w (w2.setCell ⟨g, j1 * 3, none⟩ (.slice a2 (yd ++ [sx]).length c2')) base g cap n 2 (j : Int) s D5 := by
      rw [hD5, hy2]
      exact hS5
    have HL5 : Hid (lkf D5 = (lkf D).set (j + 1) (yd ++ [sx], ys, yu)) := by show _ = _; rw [hD5, lkf_set, hy2, HJ1.out]
    have HN5 : Hid (n = D5.length) := by show _ = _; rw [hD5, List.length_set]; exact HN.out
    have hjD5 : j < D5.length := by rw [hD5, List.length_set]; exact hjD
    have HX5 : Hid (D5[j]'hjD5 = ((xd, xs, xu), Value.slice (some ⟨bj, 0, none⟩) xd.length cd)) := by
      show _ = _
      rw [HX.out]
      simp only [hD5]
      rw [List.getElem_set_ne (by rw [HJ1.out]; omega)]
    obtain ⟨W5, hW5⟩ : ∃ W5, W5 = w2.setCell ⟨g, j1 * 3, none⟩ (.slice a2 (yd ++ [sx]).length c2') := ⟨_, rfl⟩
    have HW5 : Hid (w2.setCell ⟨g, j1 * 3, none⟩ (.slice a2 (yd ++ [sx]).length c2') = W5) := hW5.symm
    have hcj5 : W5.cell? ⟨g, j * 3, none⟩ = some (.slice (some ⟨bj, 0, none⟩) xd.length cd) := by
      have hne : (⟨g, j1 * 3, none⟩ : Addr) ≠ ⟨g, j * 3, none⟩ := by intro e; injection e with e1 e2; have := HJ1.out; omega
      rw [hW5, World.cell?_setCell_other (h := hne)]; exact hcj2
    have htx5 : W5.cell? ⟨bj, i, none⟩ = some (.string ⟨sx.toArray⟩) := by
      have q4 := own_types (HAG.out _ HSA.out).1.2 HSA.out.1.1 (by decide)
      rw [hW5, World.cell?_setCell_far _ _ _ _ (show g ≠ bj from fun e => by
        rcases q4 with q4 | q4
        · cases q4
        · exact q4 (by rw [e]; rfl))]
      exact HTW.out
    rw [← hW5] at hS5b
    have HS5 : Hid (StL w W5 base g cap n 2 (j : Int) s D5) := hS5b
    have HZ5 : Hid (base ≤ W5.heap.size) := Nat.le_trans hb hS5b.2.2.2.1.size
    have HSE2 := HSB.out _ hB2 hcj2 HTW.out
    have HSE5 := HSB.out _ hS5b.2.2.2.2.1 hcj5 htx5
    have HQ2 : Hid _ := HSE2
    have HQ5 : Hid _ := HSE5
    clear hown2 hgrow2 hfr2 ho2 mf hD5 hW5 hS5 hS5b hB2 hoj hcj2 hcj5 htx5 HSE2 HSE5 hy2 e9
    obtain ⟨m, hm⟩ : ∃ m, m = (yd ++ [sx]).length := ⟨_, rfl⟩
    rw [← hm] at HW5
    simp only [Act.put, List.getElem_toArray, List.getElem_cons_succ, List.getElem_cons_zero, List.setIfInBounds_toArray, List.set_cons_succ, List.set_cons_zero]
    rw [← hm]
    refine hK.out _ _ HQ2.out (fun hSS => ?_)
    clear hK hm
    refine wpAnyH_take (i := 25) (v := .pointer (some ⟨g, j1 * 3, none⟩)) rfl (by kernel_rfl) (by kernel_rfl) (by kernel_rfl) (fun _ _ _ h => h) (Or.inl ⟨by rfl, ?_⟩) (by assumption) ?_
    · intro W hSW
      go_simp
      all_goals (try omega)
    simp only [Act.put, List.getElem_toArray, List.getElem_cons_succ, List.getElem_cons_zero, List.setIfInBounds_toArray, List.set_cons_succ, List.set_cons_zero]
    refine wpAnyH_take (i := 26) (v := .pointer (some ⟨g, j1 * 3, none⟩)) rfl (by kernel_rfl) (by kernel_rfl) (by kernel_rfl) (fun _ _ _ h => h) (Or.inl ⟨by rfl, ?_⟩) (by assumption) ?_
    · intro W hSW
      go_simp
      all_goals (try omega)
    simp only [Act.put, List.getElem_toArray, List.getElem_cons_succ, List.getElem_cons_zero, List.setIfInBounds_toArray, List.set_cons_succ, List.set_cons_zero]
    refine wpAnyH_ready (rs := [27]) (by kernel_rfl) (by simp) ?_
    refine AllReadyH.cons rfl (fun K hK => ?_) AllReadyH.nil
    rw [if_pos (by rfl)]
    go_simp
    rw [HW5.out]
    refine hK.out _ _ HQ5.out (fun hSS6 => ?_)
    clear hK hSS6 hSS m0 mf0 HW5 HQ2 HQ5
    refine wpAnyH_done (by kernel_rfl) ?_ _
    refine NoPanic.normal ?_
    clear hHeld
    obtain ⟨k0, ⟨k1, k2, k3⟩, k4, l4⟩ := HS5.out.2.2.2.2.1.cells
    obtain ⟨⟨_, r1, _⟩, rf, rb⟩ := HS5.out.1.atI hjD5
    have rf1 := rf (j * 3 + 1)
    have hP6 := HS5.out.1.putI hjD5 ((xd, (i : Int) + 1, xu), .slice (some ⟨bj, 0, none⟩) xd.length cd) 1 (.int .i64 ((i : Int) + 1)) (by omega) (by rw [HX5.out]; rfl) (by rw [HX5.out]) (by rw [HX5.out])
    obtain ⟨D6, hD6⟩ : ∃ D6, D6 = D5.set j ((xd, (i : Int) + 1, xu), Value.slice (some ⟨bj, 0, none⟩) xd.length cd) := ⟨_, rfl⟩
    rw [← hD6] at hP6
    have HL6 : Hid (lkf D6 = ((lkf D).set (j + 1) (yd ++ [sx], ys, yu)).set j (xd, (yd.length : Int) + 1, xu)) := by show _ = _; rw [hD6, lkf_set, HL5.out, HI.out]
    have HN6 : Hid (n = D6.length) := by show _ = _; rw [hD6, List.length_set]; exact HN5.out
    obtain ⟨W6, hW6⟩ : ∃ W6, W6 = W5.setCell ⟨g, j * 3 + 1, none⟩ (.int .i64 ((i : Int) + 1)) := ⟨_, rfl⟩
    have HW6 : Hid (W5.setCell ⟨g, j * 3 + 1, none⟩ (.int .i64 ((i : Int) + 1)) = W6) := hW6.symm
    have hB6 : StB w W6 (.slice (some ⟨g, 0, none⟩) n cap) 2 (j : Int) s := by rw [hW6]; exact HS5.out.2.2.2.2.1.far HS5.out.2.2.1 _
    have HOW6 : Hid (Oth w W6) := by show Oth _ _; rw [hW6]; exact HS5.out.2.2.2.2.2.set (own_kind HS5.out.1.1 (.inr rfl) g (by simp [Value.ownBlock])) _ _
    have hbw6 : Below base w W6 := by rw [hW6]; exact HS5.out.2.2.2.1.setCell (p := ⟨g, j * 3 + 1, none⟩) rb _
    rw [← hW6] at hP6
    have HP6 : Hid (LBld W6 base (.slice (some ⟨g, 0, none⟩) n cap) D6) := hP6
    have HB6 : Hid (StB w W6 (.slice (some ⟨g, 0, none⟩) n cap) 2 (j : Int) s) := hB6
    have HBW6 : Hid (Below base w W6) := hbw6
    have HGO : Hid (g < w.heap.size ∨ w.heap.size + 3 ≤ g) := HS5.out.2.2.1
    obtain ⟨e0, ⟨e1', e2, e3⟩, e4, e5⟩ := hB6.cells
    clear hP6 hD6 hW6 hB6 hbw6 rf
    go_wp2_with (rw [HW6.out])
    refine (HTL.out W6 D6 HP6.out HN6.out (Nat.le_trans hb HBW6.out.size)).mono ?_
    rintro e w8 ⟨rfl, ⟨D8, hd8, hl8⟩, hb8, hg8⟩
    have hB8 : StB w w8 (.slice (some ⟨g, 0, none⟩) n cap) 2 (j : Int) s := HB6.out.grown hg8 (fun j hj => by have q : g = j := Option.some.inj hj; rw [← q]; exact HGO.out)
    have HB8 : Hid (StB w w8 (.slice (some ⟨g, 0, none⟩) n cap) 2 (j : Int) s) := hB8
    have HF8 : Hid (∀ u, LBld (w8.setCell ⟨w.heap.size + 1 + 1, 0, none⟩ u) base (.slice (some ⟨g, 0, none⟩) n cap) D8) := fun u => lbld_far2 hd8 (lbld_type hd8 hB8.2.2 (by decide) (by decide)) u
    have HO8 : Hid (Oth w w8) := HOW6.out.grown HBW6.out.size hg8 (fun j hj => .inl (own_kind HP6.out.1 (.inr rfl) j hj))
    have HW8 : Hid (Below base w w8) := HBW6.out.trans hb8
    have HL8 : Hid (lkf D8 = tailT (((lkf D).set (j + 1) (yd ++ [sx], ys, yu)).set j (xd, (yd.length : Int) + 1, xu))) := by show _ = _; rw [hl8, HL6.out]
    clear k0 k1 k2 k3 k4 l4 hd8 hl8 hb8 hg8 hB8 e0 e1' e2 e3 e4 e5 r1 rf1 rb HW6
    obtain ⟨_, _, k4, l4⟩ := HB8.out.cells
    go_wp2_with fail
    (try simp only [Exit.inBlock, Exit.then])
    refine bodyPost_ret (results_row_tmp rfl _ _ (w.heap.size + 1 + 1) 31 #[.slice (some ⟨g, 0, none⟩) n cap] (0, 0) _ (.bool true) rfl rfl ?_ Try.underlying31 rfl (by kernel_rfl)) rfl ⟨g, cap, n, D8, rfl, HF8.out _, HL8.out, HW8.out.setCell (p := ⟨w.heap.size + 1 + 1, 0, none⟩) (by show base ≤ w.heap.size + 1 + 1; have := HBS.out; omega) _, HO8.out.new (by omega) _ _⟩
    exact put1_heap HB8.out.2.2
  · rw [if_pos (by rfl)]
    go_simp
    rw [HWA.out]
    refine hK.out _ _ (HSL.out _ HSA.out) (fun hSS => ?_)
    clear hK hSS
    refine wpAnyH_ready (rs := [12]) (by kernel_rfl) (by simp) ?_
    refine AllReadyH.cons rfl (fun K hK => ?_) AllReadyH.nil
    rw [if_pos (by rfl)]
    obtain ⟨_, q0, _⟩ := HAG.out _ HSA.out
    go_simp
    refine hK.out _ _ (HSL.out _ HSA.out) (fun hSS => ?_)
    clear hK hSS q0
    refine wpAnyH_ready (rs := [24]) (by kernel_rfl) (by simp) ?_
    refine AllReadyH.cons rfl (fun K hK => ?_) AllReadyH.nil
    refine step_append_row rfl (.tmp 135) (.tmp 146) rfl base _ yd.length (yd.map S) rfl (HAG.out _ HSA.out).2.2 _ rfl [sx] HRO.out (by simp; omega) (by have := HZA.out; omega) ?_
    intro v2 w2 hown2 hgrow2 hfr2
    have ho2 : w2.ownsRow base 9 1 v2 (yd ++ [sx]).length ((yd ++ [sx]).map S) := by rw [List.length_append, List.map_append]; exact hown2
    obtain ⟨a2, c2', hv2, _, _, _⟩ := own_sliceC ho2
    subst hv2
    have hS5 := HSA.out.relog hjD1 (d := yd ++ [sx]) ho2 (by rw [← HY.out]; exact hgrow2) (by rw [← HY.out]; exact hfr2) HZA.out (by have := HZA.out; omega)
    have e9 : (D[j + 1]'hjD1).1.2 = (ys, yu) := by rw [← HY.out]
    rw [e9] at hS5
    rw [← HJ1.out] at hS5
    obtain ⟨hS5, ⟨u0, m0⟩, mf, hB2⟩ := hS5
    have hoj : w2.ownsRow base 9 1 (.slice (some ⟨bj, 0, none⟩) xd.length cd) xd.length (xd.map S) := by
      refine (HAG.out _ HSA.out).1.2.kept hgrow2 ?_
      refine .inr (fun e => ?_)
      have q1 : (D[j]'hjD).2.ownBlock = some bj := by rw [← HX.out]; rfl
      have q2 := HAP.out bj q1
      rw [← HY.out] at q2
      exact q2 e.symm
    have hcj2 : w2.cell? ⟨g, j * 3, none⟩ = some (.slice (some ⟨bj, 0, none⟩) xd.length cd) := by
      have q1 := (HAG.out _ HSA.out).1.1
      have q2 := World.block_lt_of_cell? _ _ q1
      have q3 : w2.heap[g]? = wA.heap[g]? := hgrow2.block g q2 (fun e => by
        have q4 := own_types (HAG.out _ HSA.out).2.2 HSA.out.1.1 (by decide)
        rcases q4 with q4 | q4
        · exact absurd (e.trans q4) (by simp)
        · exact q4 e.symm)
      unfold World.cell? at q1 ⊢
      rw [q3]; exact q1
    have HTW : Hid (w2.cell? ⟨bj, i, none⟩ = some (.string ⟨sx.toArray⟩)) := HTX.out _ hoj
    have mf0 := mf (j1 * 3)
    obtain ⟨y2, hy2⟩ : ∃ y2 : LkT × Value, y2 = ((yd ++ [sx], ys, yu), Value.slice a2 (yd ++ [sx]).length c2') := ⟨_, rfl⟩
    obtain ⟨D5, hD5⟩ : ∃ D5, D5 = D.set j1 y2 := ⟨_, rfl⟩
    have hS5b : StL w (w2.setCell ⟨g, j1 * 3, none⟩ (.slice a2 (yd ++ [sx]).length c2')) base g cap n 2 (j : Int) s D5 := by
      rw [hD5, hy2]
      exact hS5
    have HL5 : Hid (lkf D5 = (lkf D).set (j + 1) (yd ++ [sx], ys, yu)) := by show _ = _; rw [hD5, lkf_set, hy2, HJ1.out]
    have HN5 : Hid (n = D5.length) := by show _ = _; rw [hD5, List.length_set]; exact HN.out
    have hjD5 : j < D5.length := by rw [hD5, List.length_set]; exact hjD
    have HX5 : Hid (D5[j]'hjD5 = ((xd, xs, xu), Value.slice (some ⟨bj, 0, none⟩) xd.length cd)) := by
      show _ = _
      rw [HX.out]
      simp only [hD5]
      rw [List.getElem_set_ne (by rw [HJ1.out]; omega)]
    obtain ⟨W5, hW5⟩ : ∃ W5, W5 = w2.setCell ⟨g, j1 * 3, none⟩ (.slice a2 (yd ++ [sx]).length c2') := ⟨_, rfl⟩
    have HW5 : Hid (w2.setCell ⟨g, j1 * 3, none⟩ (.slice a2 (yd ++ [sx]).length c2') = W5) := hW5.symm
    have hcj5 : W5.cell? ⟨g, j * 3, none⟩ = some (.slice (some ⟨bj, 0, none⟩) xd.length cd) := by
      have hne : (⟨g, j1 * 3, none⟩ : Addr) ≠ ⟨g, j * 3, none⟩ := by intro e; injection e with e1 e2; have := HJ1.out; omega
      rw [hW5, World.cell?_setCell_other (h := hne)]; exact hcj2
    have htx5 : W5.cell? ⟨bj, i, none⟩ = some (.string ⟨sx.toArray⟩) := by
      have q4 := own_types (HAG.out _ HSA.out).1.2 HSA.out.1.1 (by decide)
      rw [hW5, World.cell?_setCell_far _ _ _ _ (show g ≠ bj from fun e => by
        rcases q4 with q4 | q4
        · cases q4
        · exact q4 (by rw [e]; rfl))]
      exact HTW.out
    rw [← hW5] at hS5b
    have HS5 : Hid (StL w W5 base g cap n 2 (j : Int) s D5) := hS5b
    have HZ5 : Hid (base ≤ W5.heap.size) := Nat.le_trans hb hS5b.2.2.2.1.size
    have HSE2 := HSB.out _ hB2 hcj2 HTW.out
    have HSE5 := HSB.out _ hS5b.2.2.2.2.1 hcj5 htx5
    have HQ2 : Hid _ := HSE2
    have HQ5 : Hid _ := HSE5
    clear hown2 hgrow2 hfr2 ho2 mf hD5 hW5 hS5 hS5b hB2 hoj hcj2 hcj5 htx5 HSE2 HSE5 hy2 e9
    obtain ⟨m, hm⟩ : ∃ m, m = (yd ++ [sx]).length := ⟨_, rfl⟩
    rw [← hm] at HW5
    simp only [Act.put, List.getElem_toArray, List.getElem_cons_succ, List.getElem_cons_zero, List.setIfInBounds_toArray, List.set_cons_succ, List.set_cons_zero]
    rw [← hm]
    refine hK.out _ _ HQ2.out (fun hSS => ?_)
    clear hK hm
    refine wpAnyH_take (i := 25) (v := .pointer (some ⟨g, j1 * 3, none⟩)) rfl (by kernel_rfl) (by kernel_rfl) (by kernel_rfl) (fun _ _ _ h => h) (Or.inl ⟨by rfl, ?_⟩) (by assumption) ?_
    · intro W hSW
      go_simp
      all_goals (try omega)
    simp only [Act.put, List.getElem_toArray, List.getElem_cons_succ, List.getElem_cons_zero, List.setIfInBounds_toArray, List.set_cons_succ, List.set_cons_zero]
    refine wpAnyH_take (i := 26) (v := .pointer (some ⟨g, j1 * 3, none⟩)) rfl (by kernel_rfl) (by kernel_rfl) (by kernel_rfl) (fun _ _ _ h => h) (Or.inl ⟨by rfl, ?_⟩) (by assumption) ?_
    · intro W hSW
      go_simp
      all_goals (try omega)
    simp only [Act.put, List.getElem_toArray, List.getElem_cons_succ, List.getElem_cons_zero, List.setIfInBounds_toArray, List.set_cons_succ, List.set_cons_zero]
    refine wpAnyH_ready (rs := [27]) (by kernel_rfl) (by simp) ?_
    refine AllReadyH.cons rfl (fun K hK => ?_) AllReadyH.nil
    rw [if_pos (by rfl)]
    go_simp
    rw [HW5.out]
    refine hK.out _ _ HQ5.out (fun hSS6 => ?_)
    clear hK hSS6 hSS m0 mf0 HW5 HQ2 HQ5
    refine wpAnyH_done (by kernel_rfl) ?_ _
    refine NoPanic.normal ?_
    clear hHeld
    obtain ⟨k0, ⟨k1, k2, k3⟩, k4, l4⟩ := HS5.out.2.2.2.2.1.cells
    obtain ⟨⟨_, r1, _⟩, rf, rb⟩ := HS5.out.1.atI hjD5
    have rf1 := rf (j * 3 + 1)
    have hP6 := HS5.out.1.putI hjD5 ((xd, (i : Int) + 1, xu), .slice (some ⟨bj, 0, none⟩) xd.length cd) 1 (.int .i64 ((i : Int) + 1)) (by omega) (by rw [HX5.out]; rfl) (by rw [HX5.out]) (by rw [HX5.out])
    obtain ⟨D6, hD6⟩ : ∃ D6, D6 = D5.set j ((xd, (i : Int) + 1, xu), Value.slice (some ⟨bj, 0, none⟩) xd.length cd) := ⟨_, rfl⟩
    rw [← hD6] at hP6
    have HL6 : Hid (lkf D6 = ((lkf D).set (j + 1) (yd ++ [sx], ys, yu)).set j (xd, (yd.length : Int) + 1, xu)) := by show _ = _; rw [hD6, lkf_set, HL5.out, HI.out]
    have HN6 : Hid (n = D6.length) := by show _ = _; rw [hD6, List.length_set]; exact HN5.out
    obtain ⟨W6, hW6⟩ : ∃ W6, W6 = W5.setCell ⟨g, j * 3 + 1, none⟩ (.int .i64 ((i : Int) + 1)) := ⟨_, rfl⟩
    have HW6 : Hid (W5.setCell ⟨g, j * 3 + 1, none⟩ (.int .i64 ((i : Int) + 1)) = W6) := hW6.symm
    have hB6 : StB w W6 (.slice (some ⟨g, 0, none⟩) n cap) 2 (j : Int) s := by rw [hW6]; exact HS5.out.2.2.2.2.1.far HS5.out.2.2.1 _
    have HOW6 : Hid (Oth w W6) := by show Oth _ _; rw [hW6]; exact HS5.out.2.2.2.2.2.set (own_kind HS5.out.1.1 (.inr rfl) g (by simp [Value.ownBlock])) _ _
    have hbw6 : Below base w W6 := by rw [hW6]; exact HS5.out.2.2.2.1.setCell (p := ⟨g, j * 3 + 1, none⟩) rb _
    rw [← hW6] at hP6
    have HP6 : Hid (LBld W6 base (.slice (some ⟨g, 0, none⟩) n cap) D6) := hP6
    have HB6 : Hid (StB w W6 (.slice (some ⟨g, 0, none⟩) n cap) 2 (j : Int) s) := hB6
    have HBW6 : Hid (Below base w W6) := hbw6
    have HGO : Hid (g < w.heap.size ∨ w.heap.size + 3 ≤ g) := HS5.out.2.2.1
    obtain ⟨e0, ⟨e1', e2, e3⟩, e4, e5⟩ := hB6.cells
    clear hP6 hD6 hW6 hB6 hbw6 rf
    go_wp2_with (rw [HW6.out])
    refine (HTL.out W6 D6 HP6.out HN6.out (Nat.le_trans hb HBW6.out.size)).mono ?_
    rintro e w8 ⟨rfl, ⟨D8, hd8, hl8⟩, hb8, hg8⟩
    have hB8 : StB w w8 (.slice (some ⟨g, 0, none⟩) n cap) 2 (j : Int) s := HB6.out.grown hg8 (fun j hj => by have q : g = j := Option.some.inj hj; rw [← q]; exact HGO.out)
    have HB8 : Hid (StB w w8 (.slice (some ⟨g, 0, none⟩) n cap) 2 (j : Int) s) := hB8
    have HF8 : Hid (∀ u, LBld (w8.setCell ⟨w.heap.size + 1 + 1, 0, none⟩ u) base (.slice (some ⟨g, 0, none⟩) n cap) D8) := fun u => lbld_far2 hd8 (lbld_type hd8 hB8.2.2 (by decide) (by decide)) u
    have HO8 : Hid (Oth w w8) := HOW6.out.grown HBW6.out.size hg8 (fun j hj => .inl (own_kind HP6.out.1 (.inr rfl) j hj))
    have HW8 : Hid (Below base w w8) := HBW6.out.trans hb8
    have HL8 : Hid (lkf D8 = tailT (((lkf D).set (j + 1) (yd ++ [sx], ys, yu)).set j (xd, (yd.length : Int) + 1, xu))) := by show _ = _; rw [hl8, HL6.out]
    clear k0 k1 k2 k3 k4 l4 hd8 hl8 hb8 hg8 hB8 e0 e1' e2 e3 e4 e5 r1 rf1 rb HW6
    obtain ⟨_, _, k4, l4⟩ := HB8.out.cells
    go_wp2_with fail
    (try simp only [Exit.inBlock, Exit.then])
    refine bodyPost_ret (results_row_tmp rfl _ _ (w.heap.size + 1 + 1) 31 #[.slice (some ⟨g, 0, none⟩) n cap] (0, 0) _ (.bool true) rfl rfl ?_ Try.underlying31 rfl (by kernel_rfl)) rfl ⟨g, cap, n, D8, rfl, HF8.out _, HL8.out, HW8.out.setCell (p := ⟨w.heap.size + 1 + 1, 0, none⟩) (by show base ≤ w.heap.size + 1 + 1; have := HBS.out; omega) _, HO8.out.new (by omega) _ _⟩
    exact put1_heap HB8.out.2.2
end Go.Proofs.Ytacmipcjhbkdcaa

namespace Go.Proofs.Ytacmipcjhbkdcaa
open Go.RowKit

theorem StB.box {w W : World} {v : Value} {kd k : Int} {s : List UInt8} (h : StB w W v kd k s) (u : Value) : StB w (W.setCell ⟨w.heap.size, 0, none⟩ u) u kd k s := by
  refine ⟨put1_heap h.1, ?_, ?_⟩
  · rw [heap_setCell_other _ _ _ _ (show w.heap.size + 1 ≠ w.heap.size by omega)]; exact h.2.1
  · rw [heap_setCell_other _ _ _ _ (show w.heap.size + 1 + 1 ≠ w.heap.size by omega)]; exact h.2.2
theorem step_append_link {w : World} {ops : Array Oper} {o : Oper} {a : Act} {Q : Exit → Act → World → Prop} {K : Act → World → Prop} {E : Prop} (hgd : o.guard = none) (s x : Operand)
    (ho : o.op = .call { callee := .builtin .append, args := #[s, x], argTypes := #[29, 29] })
    (base : Nat) (v : Value) (n : Nat) (xs : List Value) (hs : a.eval s = v) (hown : w.ownsRow base 71 3 v n xs) (g m c : Nat) (hx : a.eval x = .slice (some ⟨g, 0, none⟩) m c) (news : List Value) (hl : news.length = m * 3)
    (hnews : ∀ j u, news[j]? = some u → w.cell? ((⟨g, 0, none⟩ : Addr).add j) = some u) (h1 : ∀ u ∈ news, u.oneCell' = true) (hn : n + m ≤ 1000000) (hbase : base ≤ w.heap.size)
    (h : ∀ v' w', w'.ownsRow base 71 3 v' (n + m) (xs ++ news) → w.grownBy w' v.ownBlock → (∀ k, v'.ownBlock = some k → v.ownBlock = some k ∨ w.heap.size ≤ k) → K (a.put o.dst v') w') :
    if Region.wanted o (yielded ops a.tmps) = true then Oper.wp Try.prog o a w K Q else E := by
  have hw : Region.wanted o (yielded ops a.tmps) = true := by simp [Region.wanted, hgd]
  rw [if_pos hw]
  obtain ⟨i0, hi, hz0, hz1, hz2⟩ := info_parts info_link
  obtain ⟨v', w', hr2, h2, h3, h4⟩ := Go.Proofs.Ytacmipcjhbkdcaa.run_append_own_at (P := Try.prog) w base 29 o.type 71 i0 (.agg #[.slice none 0 0, .int .i64 0, .int .i64 0]) 3 40 Try.underlying29 hi hz0 hz1 hz2 rfl (by decide) v n xs hown ⟨g, 0, none⟩ m c news hl hnews h1 (by unfold maxLen; omega) (by omega) hbase
  unfold Oper.wp execOp
  simp only [ho, resolve, invoke, builtin, Sem.run_bind, Sem.run_pure, Result.andThen_ok, List.map_toArray, List.map_cons, List.map_nil, hs, hx, hr2]
  exact h v' w' h2 h3 h4
set_option linter.unusedSimpArgs false in
set_option maxRecDepth 20000 in
set_option maxHeartbeats 4000000 in
theorem l15Step_join_no (base g cap n : Nat) (D : List (LkT × Value)) (kd k : Int) (s : List UInt8) (w : World) (h : LBld w base (.slice (some ⟨g, 0, none⟩) n cap) D) (hn : n = D.length) (h16 : 1 ≤ n ∧ n ≤ 6) (hb : base ≤ w.heap.size) (h5 : kd = 5) (h6 : n = 6) :
    Calls Try.prog 25 #[ChV (.slice (some ⟨g, 0, none⟩) n cap), .agg #[.int .i64 kd, .int .i64 k, .string ⟨s.toArray⟩]] w fun e w' => SpAns w w' base e (lkf D) false := by
  unfold ChV
  obtain ⟨t, ht⟩ : ∃ t, n = t + 1 := ⟨n - 1, by omega⟩
  obtain ⟨W0, hW0⟩ : ∃ W0, W0 = w3 w (.slice (some ⟨g, 0, none⟩) n cap) kd k s := ⟨_, rfl⟩
  have HW0 : Hid (((w.alloc (.cells #[.slice (some ⟨g, 0, none⟩) n cap] 31)).alloc (.cells #[.int .i64 kd, .int .i64 k, .string ⟨s.toArray⟩] 35)).alloc (.cells #[.slice none 0 0] 31) = W0) := by show _ = _; rw [hW0]; rfl
  have HST : Hid (StL w W0 base g cap n kd k s D) := by show StL _ _ _ _ _ _ _ _ _ _; rw [hW0]; exact st_new kd k s h hb
  have HZ : Hid (W0.heap.size = w.heap.size + 3) := by show _ = _; rw [hW0]; exact w3_size _ _ _ _ _
  obtain ⟨c0, ⟨c1, c2, c3⟩, c4, f4⟩ := HST.out.2.2.2.2.1.cells
  have hnt : (n : Int) - 1 = (t : Int) := by omega
  have wt : IntKind.i64.wrap ((n : Int) - 1) = (t : Int) := by rw [i64_wrapC (by omega) (by omega)]; omega
  have HWI : Hid (∀ W, Calls Try.prog 40 #[.int .i64 k, .int .i64 0, .int .i64 (t : Int)] W fun e w' => e = .returned (.bool (decide (0 ≤ k) && decide (k ≤ (t : Int)))) ∧ w' = W) := fun W => l1In_any _ _ _ W
  subst h5
  have HBS : Hid (base ≤ w.heap.size) := hb
  have e6 : ((n : Int) == 6) = true := by simp [h6]
  have hx6 := h16
  clear hx6
  clear h hn hW0 ht h6
  go_enter Try.func25, Try.ntmps25
  go_wp2_with (rw [HW0.out])
  (try simp only [Exit.inBlock, Exit.then])
  refine bodyPost_ret (results_row_tmp rfl _ _ (w.heap.size + 1 + 1) 31 #[.slice (some ⟨g, 0, none⟩) n cap] (0, 0) _ (.bool false) rfl rfl ?_ Try.underlying31 rfl (by kernel_rfl)) rfl ⟨g, cap, _, D, rfl, (HST.out.fin HBS.out _).1, rfl, (HST.out.fin HBS.out _).2⟩
  exact put1_heap HST.out.2.2.2.2.1.2.2
set_option linter.unusedSimpArgs false in
set_option maxRecDepth 20000 in
set_option maxHeartbeats 4000000 in
theorem l15Step_join_yes (base g cap n : Nat) (D : List (LkT × Value)) (kd k : Int) (s : List UInt8) (w : World) (h : LBld w base (.slice (some ⟨g, 0, none⟩) n cap) D) (hn : n = D.length) (h16 : 1 ≤ n ∧ n ≤ 6) (hb : base ≤ w.heap.size) (h5 : kd = 5) (h6 : n ≠ 6) (hsm : ((lkf D).getD (n - 1) zLk).1.length ≤ 1000) :
    Calls Try.prog 25 #[ChV (.slice (some ⟨g, 0, none⟩) n cap), .agg #[.int .i64 kd, .int .i64 k, .string ⟨s.toArray⟩]] w fun e w' => SpAns w w' base e (tailT ((lkf D).set (n - 1) (((lkf D).getD (n - 1) zLk).1, (((lkf D).getD (n - 1) zLk).1.length : Int), ((lkf D).getD (n - 1) zLk).2.2) ++ [(((lkf D).getD (n - 1) zLk).1, 0, 0)])) true := by
  unfold ChV
  obtain ⟨t, ht⟩ : ∃ t, n = t + 1 := ⟨n - 1, by omega⟩
  obtain ⟨W0, hW0⟩ : ∃ W0, W0 = w3 w (.slice (some ⟨g, 0, none⟩) n cap) kd k s := ⟨_, rfl⟩
  have HW0 : Hid (((w.alloc (.cells #[.slice (some ⟨g, 0, none⟩) n cap] 31)).alloc (.cells #[.int .i64 kd, .int .i64 k, .string ⟨s.toArray⟩] 35)).alloc (.cells #[.slice none 0 0] 31) = W0) := by show _ = _; rw [hW0]; rfl
  have HST : Hid (StL w W0 base g cap n kd k s D) := by show StL _ _ _ _ _ _ _ _ _ _; rw [hW0]; exact st_new kd k s h hb
  have HZ : Hid (W0.heap.size = w.heap.size + 3) := by show _ = _; rw [hW0]; exact w3_size _ _ _ _ _
  obtain ⟨c0, ⟨c1, c2, c3⟩, c4, f4⟩ := HST.out.2.2.2.2.1.cells
  have hnt : (n : Int) - 1 = (t : Int) := by omega
  have wt : IntKind.i64.wrap ((n : Int) - 1) = (t : Int) := by rw [i64_wrapC (by omega) (by omega)]; omega
  have HWI : Hid (∀ W, Calls Try.prog 40 #[.int .i64 k, .int .i64 0, .int .i64 (t : Int)] W fun e w' => e = .returned (.bool (decide (0 ≤ k) && decide (k ≤ (t : Int)))) ∧ w' = W) := fun W => l1In_any _ _ _ W
  subst h5
  have HBS : Hid (base ≤ w.heap.size) := hb
  have e6 : ((n : Int) == 6) = false := by rw [beq_eq_false_iff_ne]; omega
  have htD : t < D.length := by omega
  have htn : (t : Int) < (n : Int) := by omega
  rw [show n - 1 = t by omega, lkf_get htD] at hsm ⊢
  obtain ⟨⟨a0, a1, a2⟩, af, ab⟩ := HST.out.1.atI htD
  have hown := HST.out.1.logI htD
  obtain ⟨x, hx⟩ : ∃ x, x = D[t]'htD := ⟨_, rfl⟩
  rw [← hx] at a0 a1 a2 hown hsm ⊢
  have HX : Hid (x = D[t]'htD) := hx
  obtain ⟨⟨xd, xs, xu⟩, dv⟩ := x
  obtain ⟨ad, cd, hdv, _, _, _⟩ := own_sliceC hown
  simp only at hdv a0 a1 a2 hown hsm ⊢
  subst hdv
  obtain ⟨m, hm⟩ : ∃ m, m = xd.length := ⟨_, rfl⟩
  have HM : Hid (m = xd.length) := hm
  rw [← hm] at a0 hown hsm ⊢
  obtain ⟨WX, hWX⟩ : ∃ WX, WX = W0.alloc (.cells #[.slice ad m cd, .int .i64 xs, .int .i64 xu] 71) := ⟨_, rfl⟩
  have HWX : Hid (W0.alloc (.cells #[.slice ad m cd, .int .i64 xs, .int .i64 xu] 71) = WX) := hWX.symm
  have hbX : Below W0.heap.size W0 WX := by rw [hWX]; exact (Below.refl _ _).alloc (Nat.le_refl _) _
  have hz0 := HZ.out
  have hSX : StL w WX base g cap n 5 k s D := HST.out.kept (by omega) hbX
  have hXb : WX.heap[W0.heap.size]? = some (.cells #[.slice ad m cd, .int .i64 xs, .int .i64 xu] 71) := by rw [hWX]; exact heap_alloc_new _ _
  have hgX : g < W0.heap.size := (HST.out.1.lt.1 g (by simp [Value.ownBlock])).2
  obtain ⟨⟨_, b1, _⟩, bf, _⟩ := hSX.1.atI htD
  have bf1 := bf (t * 3 + 1)
  obtain ⟨d0, _, _, _⟩ := hSX.2.2.2.2.1.cells
  have x0 := cells_at hXb 0
  simp only [List.getElem?_toArray, List.getElem?_cons_zero] at x0
  have hP := hSX.1.putI htD ((xd, (m : Int), xu), .slice ad m cd) 1 (.int .i64 (m : Int)) (by omega) (by rw [← HX.out]; simp only [hm]; rfl) (by rw [← HX.out]) (by rw [← HX.out, hm])
  obtain ⟨D4, hD4⟩ : ∃ D4, D4 = D.set t ((xd, (m : Int), xu), Value.slice ad m cd) := ⟨_, rfl⟩
  rw [← hD4] at hP
  obtain ⟨W4, hW4⟩ : ∃ W4, W4 = WX.setCell ⟨g, t * 3 + 1, none⟩ (.int .i64 (m : Int)) := ⟨_, rfl⟩
  have HW4 : Hid (WX.setCell ⟨g, t * 3 + 1, none⟩ (.int .i64 (m : Int)) = W4) := hW4.symm
  have hS4 : StL w W4 base g cap n 5 k s D4 := by
    rw [← hW4] at hP
    refine ⟨hP, fun z hz j hj => ?_, hSX.2.2.1, by rw [hW4]; exact hSX.2.2.2.1.setCell (p := ⟨g, t * 3 + 1, none⟩) ab _, by rw [hW4]; exact hSX.2.2.2.2.1.far hSX.2.2.1 _, by rw [hW4]; exact hSX.2.2.2.2.2.set (own_kind hSX.1.1 (.inr rfl) g (by simp [Value.ownBlock])) _ _⟩
    rw [hD4] at hz
    rcases List.mem_or_eq_of_mem_set hz with hz | hz
    · exact hSX.2.1 z hz j hj
    · rw [hz] at hj
      refine hSX.2.1 _ (List.getElem_mem htD) j ?_
      rw [← HX.out, ← hm]; exact hj
  have hz4 : W4.heap.size = W0.heap.size + 1 := by rw [hW4, hWX]; simp
  have hX4 : W4.heap[W0.heap.size]? = some (.cells #[.slice ad m cd, .int .i64 xs, .int .i64 xu] 71) := by
    rw [hW4, heap_setCell_other _ _ _ _ (show W0.heap.size ≠ g by omega)]; exact hXb
  obtain ⟨y, hy⟩ : ∃ y : LkT, y = (xd, 0, 0) := ⟨_, rfl⟩
  have HD4 : Hid (lkf D4 = (lkf D).set t (xd, (m : Int), xu)) := by show _ = _; rw [hD4, lkf_set]
  have HN4 : Hid (D4.length = n) := by show _ = _; rw [hD4, List.length_set]; exact hn.symm
  have HR4 : Hid (∀ W, StL w W base g cap n 5 k s D4 → Row W (.slice ad m cd) xd) := fun W h => by
    have ht4 : t < D4.length := by rw [hD4, List.length_set]; exact htD
    have h9 := h.1.text (List.getElem_mem ht4)
    simpa [hD4] using h9
  have HCX : Hid (∀ W, Below W4.heap.size W4 W → W.cell? ⟨W0.heap.size, 0, none⟩ = some (.slice ad m cd)) := fun W hW => by
    have e := cells_at ((hW.block _ (by omega)).trans hX4) 0
    exact e
  have HS4 : Hid (StL w W4 base g cap n 5 k s D4) := hS4
  have HGX : Hid (¬ W0.heap.size = g) := by show ¬ _; omega
  have HWW : Hid (w.heap.size ≠ W0.heap.size) := by show w.heap.size ≠ W0.heap.size; omega
  have HTL : Hid (∀ g cap n W D', LBld W base (.slice (some ⟨g, 0, none⟩) n cap) D' → n = D'.length → (1 ≤ n ∧ n ≤ 1000) → base ≤ W.heap.size → Calls Try.prog 42 #[ChV (.slice (some ⟨g, 0, none⟩) n cap)] W fun e w' => e = .returned (ChV (.slice (some ⟨g, 0, none⟩) n cap)) ∧ (∃ D2, LBld w' base (.slice (some ⟨g, 0, none⟩) n cap) D2 ∧ lkf D2 = tailT (lkf D')) ∧ Below base W w' ∧ W.grownBy w' (some g)) := fun g cap n W D' h1 h2 h4 h3 => l15Tail_any base g cap n D' W h1 h2 h4.1 h4.2 h3
  unfold ChV at HTL
  have HZ4 : Hid (w.heap.size + 3 ≤ W4.heap.size ∧ W0.heap.size < W4.heap.size) := by constructor <;> omega
  have hno : n + 1 ≤ 7 := by omega
  clear h hn hW0 ht hx hown hm hWX hbX hSX hXb hgX hP hD4 hW4 hS4 hX4 hz4 af ab h6 hz0 bf
  go_enter Try.func25, Try.ntmps25
  go_wp2_with (first | rw [HW0.out] | rw [HWX.out] | rw [HW4.out])
  clear a0 a1 a2 b1 bf1 d0 x0 c0 c1 c2 c3 c4 f4 e6
  have HSd : Hid (StL w W4.drew base g cap n 5 k s D4) := HS4.out.kept (by have := HZ4.out.1; omega) (Below.refl _ _).drew
  have hbd : Below W4.heap.size W4 W4.drew := (Below.refl _ _).drew
  have HZd : Hid (w.heap.size + 3 ≤ W4.drew.heap.size) := HZ4.out.1
  refine wp_region_noPanic ?_
  refine wp_region_held_drew (S := fun W : World => W.cell? ⟨W0.heap.size, 0, none⟩ = some (.slice ad m cd)) (by kernel_rfl) (HCX.out _ hbd) (fun hHeld => ?_)
  generalize W4.drew = wv at HSd HZd hbd hHeld ⊢
  refine wpAnyH_take (i := 0) (v := .pointer (some ⟨w.heap.size, 0, none⟩)) rfl (by kernel_rfl) (by kernel_rfl) (by kernel_rfl) (fun _ _ _ h => h) (Or.inl ⟨by rfl, ?_⟩) (by assumption) ?_
  · intro W hSW
    go_simp
    all_goals (try omega)
  simp only [Act.put, List.getElem_toArray, List.getElem_cons_succ, List.getElem_cons_zero, List.setIfInBounds_toArray, List.set_cons_succ, List.set_cons_zero]
  refine wpAnyH_take (i := 3) (v := .pointer (some ⟨W0.heap.size, 0, none⟩)) rfl (by kernel_rfl) (by kernel_rfl) (by kernel_rfl) (fun _ _ _ h => h) (Or.inl ⟨by rfl, ?_⟩) (by assumption) ?_
  · intro W hSW
    go_simp
    all_goals (try omega)
  simp only [Act.put, List.getElem_toArray, List.getElem_cons_succ, List.getElem_cons_zero, List.setIfInBounds_toArray, List.set_cons_succ, List.set_cons_zero]
  refine wpAnyH_take (i := 4) (v := .slice ad m cd) rfl (by kernel_rfl) (by kernel_rfl) (by kernel_rfl) (fun _ _ _ h => h) (Or.inl ⟨by rfl, ?_⟩) (by assumption) ?_
  · intro W hSW
    have z0 := hSW
    go_simp
    all_goals (try omega)
  simp only [Act.put, List.getElem_toArray, List.getElem_cons_succ, List.getElem_cons_zero, List.setIfInBounds_toArray, List.set_cons_succ, List.set_cons_zero]
  obtain ⟨wE, hwE⟩ : ∃ wE, wE = wv.alloc (.cells #[] 9) := ⟨_, rfl⟩
  have HWE : Hid (wv.alloc (.cells #[] 9) = wE) := hwE.symm
  have hbE : Below wv.heap.size wv wE := by rw [hwE]; exact (Below.refl _ _).alloc (Nat.le_refl _) _
  have HOE : Hid (wE.ownsRow wv.heap.size 9 1 (.slice (some ⟨wv.heap.size, 0, none⟩) 0 0) 0 []) := by rw [hwE]; exact own_emptyC wv 9 1
  have hbv : base ≤ wv.heap.size := by have := HZd.out; omega
  have HSE : Hid (StL w wE base g cap n 5 k s D4) := HSd.out.kept hbv hbE
  have HBE : Hid (Below wv.heap.size wv wE) := hbE
  have HBV : Hid (Below W4.heap.size W4 wv) := hbd
  have HSC : Hid (∀ W, Below wv.heap.size wv W → W.cell? ⟨W0.heap.size, 0, none⟩ = some (.slice ad m cd)) := fun W hW => HCX.out W (HBV.out.trans (hW.mono HBV.out.size))
  clear hwE hbE hbd
  refine wpAnyH_ready (rs := [1, 2]) (by kernel_rfl) (by simp) ?_
  refine AllReadyH.cons rfl (fun K hK => ?_) (AllReadyH.cons rfl (fun K hK => ?_) AllReadyH.nil)
  · rw [if_pos (by rfl)]
    obtain ⟨q0, _, _, _⟩ := HSd.out.2.2.2.2.1.cells
    go_simp
    refine hK.out _ _ (HSC.out _ (Below.refl _ _)) (fun hSS => ?_)
    clear hK hSS q0
    refine wpAnyH_ready (rs := [2]) (by kernel_rfl) (by simp) ?_
    refine AllReadyH.cons rfl (fun K hK => ?_) AllReadyH.nil
    rw [if_pos (by rfl)]
    go_simp
    rw [HWE.out]
    refine hK.out _ _ (HSC.out _ HBE.out) (fun hSS => ?_)
    clear hK hSS
    refine wpAnyH_ready (rs := [5]) (by kernel_rfl) (by simp) ?_
    refine AllReadyH.cons rfl (fun K hK => ?_) AllReadyH.nil
    refine step_append_row rfl (.tmp 67) (.tmp 69) rfl wv.heap.size _ 0 [] rfl HOE.out _ rfl xd (HR4.out _ HSE.out) (by rw [← HM.out]; omega) HBE.out.size ?_
    intro v2 w2 hown2 hgrow2 _
    have ho2 : w2.ownsRow wv.heap.size 9 1 v2 xd.length (xd.map S) := by simpa using hown2
    obtain ⟨a2, c2', hv2, _, _, _⟩ := own_sliceC ho2
    subst hv2
    rw [← HM.out] at ho2 ⊢
    have hb2 : Below wv.heap.size wv w2 := HBE.out.grown hgrow2 HBE.out.size (fun j e => by have q : wv.heap.size = j := Option.some.inj e; omega)
    have HB2 : Hid (Below wv.heap.size wv w2) := hb2
    have HS2 : Hid (StL w w2 base g cap n 5 k s D4) := HSd.out.kept hbv hb2
    have HO2 : Hid (w2.ownsRow wv.heap.size 9 1 (.slice a2 m c2') m (xd.map S)) := ho2
    clear hown2 hgrow2 ho2 hb2
    simp only [Act.put, List.getElem_toArray, List.getElem_cons_succ, List.getElem_cons_zero, List.setIfInBounds_toArray, List.set_cons_succ, List.set_cons_zero]
    refine hK.out _ _ (HSC.out _ HB2.out) (fun hSS => ?_)
    clear hK hSS
    refine wpAnyH_take (i := 6) (v := .agg #[.slice a2 m c2', .int .i64 0, .int .i64 0]) rfl (by kernel_rfl) (by kernel_rfl) (by kernel_rfl) (fun _ _ _ h => h) (Or.inl ⟨by rfl, ?_⟩) (HSC.out _ HB2.out) ?_
    · intro W hSW
      go_simp
      all_goals (try omega)
    simp only [Act.put, List.getElem_toArray, List.getElem_cons_succ, List.getElem_cons_zero, List.setIfInBounds_toArray, List.set_cons_succ, List.set_cons_zero]
    obtain ⟨wC, hwC⟩ : ∃ wC, wC = w2.alloc (.cells #[.slice a2 m c2', .int .i64 0, .int .i64 0] 71) := ⟨_, rfl⟩
    have HWC : Hid (w2.alloc (.cells #[.slice a2 m c2', .int .i64 0, .int .i64 0] 71) = wC) := hwC.symm
    have hbC : Below w2.heap.size w2 wC := by rw [hwC]; exact (Below.refl _ _).alloc (Nat.le_refl _) _
    have HBC : Hid (Below wv.heap.size wv wC) := HB2.out.trans (hbC.mono HB2.out.size)
    have HSCc : Hid (StL w wC base g cap n 5 k s D4) := HSd.out.kept hbv HBC.out
    have HOC : Hid (wC.ownsRow wv.heap.size 9 1 (.slice a2 m c2') m (xd.map S)) := own_below HO2.out hbC
    have HNW : Hid (∀ j q, (lkcs [((xd, 0, 0), Value.slice a2 m c2')])[j]? = some q → wC.cell? ((⟨w2.heap.size, 0, none⟩ : Addr).add j) = some q) := fun j q hq => by
      rw [lkcs_one, lkc] at hq
      rw [add_0C, hwC]
      unfold World.cell?
      rw [blk_new]
      match j, hq with
      | 0, hq => simpa using hq
      | 1, hq => simpa using hq
      | 2, hq => simpa using hq
    clear hwC hbC
    refine wpAnyH_ready (rs := [7]) (by kernel_rfl) (by simp) ?_
    refine AllReadyH.cons rfl (fun K hK => ?_) AllReadyH.nil
    rw [if_pos (by rfl)]
    go_simp
    rw [HWC.out]
    refine hK.out _ _ (HSC.out _ HBC.out) (fun hSS => ?_)
    clear hK hSS
    refine wpAnyH_ready (rs := [8]) (by kernel_rfl) (by simp) ?_
    refine AllReadyH.cons rfl (fun K hK => ?_) AllReadyH.nil
    have hone : ∀ q ∈ lkcs [(((xd, 0, 0) : LkT), Value.slice a2 m c2')], q.oneCell' = true := fun q hq => lk_cells_one (fun z hz => ⟨a2, m, c2', by rw [List.mem_singleton.1 hz]⟩) hq
    have hownq := HSCc.out.1.1
    rw [HN4.out] at hownq
    refine step_append_link rfl (.tmp 66) (.tmp 72) rfl base _ n (lkcs D4) rfl hownq w2.heap.size 1 1 rfl (lkcs [((xd, 0, 0), Value.slice a2 m c2')]) (lkcs_length _) HNW.out hone (by omega) (Nat.le_trans hbv HBC.out.size) ?_
    intro v6 w6 hown6 hgrow6 hfr6
    have hL6 : LBld w6 base v6 (D4 ++ [((xd, 0, 0), Value.slice a2 m c2')]) := HSCc.out.1.more (by rw [HM.out]; have h9 := HOC.out; rw [HM.out] at h9; exact h9) hbv (fun z hz j hj => (HSd.out.1.lt.2 z hz j hj).2) (by rw [HN4.out]; exact hown6) hgrow6
    have hBB6 : StB w w6 (.slice (some ⟨g, 0, none⟩) n cap) 5 k s := HSCc.out.2.2.2.2.1.grown hgrow6 (fun j hj => by have q : g = j := Option.some.inj hj; rw [← q]; exact HSCc.out.2.2.1)
    have hbw6 : Below base w w6 := HSCc.out.2.2.2.1.grown hgrow6 (Nat.le_trans hbv HBC.out.size) (fun j hj => (HSCc.out.1.lt.1 j hj).1)
    obtain ⟨g6, cap6, hv6, _, _, _⟩ := hL6.form (by simp)
    have hlen : (D4 ++ [(((xd, 0, 0) : LkT), Value.slice a2 m c2')]).length = n + 1 := by rw [List.length_append, HN4.out]; rfl
    have HG6 : Hid (g6 < w.heap.size ∨ w.heap.size + 3 ≤ g6) := by
      show _ ∨ _
      rcases hfr6 g6 (by rw [hv6]; rfl) with h9 | h9
      · have q : g = g6 := Option.some.inj h9
        rw [← q]; exact HSCc.out.2.2.1
      · have := HBC.out.size
        have := HZd.out
        exact .inr (by omega)
    rw [hlen] at hv6
    subst hv6
    obtain ⟨D6, hD6⟩ : ∃ D6, D6 = D4 ++ [(((xd, 0, 0) : LkT), Value.slice a2 m c2')] := ⟨_, rfl⟩
    rw [← hD6] at hL6 hlen
    have HL6 : Hid (lkf D6 = (lkf D).set t (xd, (m : Int), xu) ++ [(xd, 0, 0)]) := by
      show _ = _
      have h9 := HD4.out
      unfold lkf at h9 ⊢
      rw [hD6, List.map_append, h9]; rfl
    have hcx6 : w6.cell? ⟨W0.heap.size, 0, none⟩ = some (.slice ad m cd) := by
      have q1 := HSC.out _ HBC.out
      have q2 := World.block_lt_of_cell? _ _ q1
      have q3 : w6.heap[W0.heap.size]? = wC.heap[W0.heap.size]? := hgrow6.block _ q2 (fun e => by
        have q : W0.heap.size = g := Option.some.inj e
        exact absurd q HGX.out)
      unfold World.cell? at q1 ⊢
      rw [q3]; exact q1
    obtain ⟨W7, hW7⟩ : ∃ W7, W7 = w6.setCell ⟨w.heap.size, 0, none⟩ (.slice (some ⟨g6, 0, none⟩) (n + 1) cap6) := ⟨_, rfl⟩
    have HW7 : Hid (w6.setCell ⟨w.heap.size, 0, none⟩ (.slice (some ⟨g6, 0, none⟩) (n + 1) cap6) = W7) := hW7.symm
    have hB7 : StB w W7 (.slice (some ⟨g6, 0, none⟩) (n + 1) cap6) 5 k s := by rw [hW7]; exact hBB6.box _
    have HL7 : Hid (LBld W7 base (.slice (some ⟨g6, 0, none⟩) (n + 1) cap6) D6) := by show LBld _ _ _ _; rw [hW7]; exact lbld_far2 hL6 (lbld_type hL6 hBB6.1 (by decide) (by decide)) _
    have HBW7 : Hid (Below base w W7) := by show Below _ _ _; rw [hW7]; exact hbw6.setCell (p := ⟨w.heap.size, 0, none⟩) hb _
    have HOW7 : Hid (Oth w W7) := by show Oth _ _; rw [hW7]; exact (HSCc.out.2.2.2.2.2.grown HSCc.out.2.2.2.1.size hgrow6 (fun j hj => .inl (own_kind HSCc.out.1.1 (.inr rfl) j hj))).new (Nat.le_refl _) _ _
    have HX7 : Hid (W7.cell? ⟨W0.heap.size, 0, none⟩ = some (.slice ad m cd)) := by
      show _ = _
      rw [hW7, World.cell?_setCell_far _ _ _ _ (show w.heap.size ≠ W0.heap.size from HWW.out)]; exact hcx6
    have HB7 : Hid (StB w W7 (.slice (some ⟨g6, 0, none⟩) (n + 1) cap6) 5 k s) := hB7
    have HN7 : Hid (n + 1 = D6.length) := hlen.symm
    have HCX6 : Hid (w6.cell? ⟨W0.heap.size, 0, none⟩ = some (.slice ad m cd)) := hcx6
    obtain ⟨s0, _, _, _⟩ := hBB6.cells
    have sf : w6.frozen? ⟨w.heap.size, 0, none⟩ = false := by unfold World.frozen?; rw [hBB6.1]; simp
    clear hone hownq hown6 hgrow6 hfr6 hL6 hBB6 hbw6 hlen hD6 hcx6 hW7 hB7
    obtain ⟨n7, hn7⟩ : ∃ n7, n7 = n + 1 := ⟨_, rfl⟩
    rw [← hn7] at HW7 HL7 HB7 HN7 ⊢
    have hn7b : 1 ≤ n7 ∧ n7 ≤ 1000 := by omega
    clear hn7 hno
    simp only [Act.put, List.getElem_toArray, List.getElem_cons_succ, List.getElem_cons_zero, List.setIfInBounds_toArray, List.set_cons_succ, List.set_cons_zero]
    refine hK.out _ _ HCX6.out (fun hSS => ?_)
    clear hK
    refine wpAnyH_take (i := 9) (v := .pointer (some ⟨w.heap.size, 0, none⟩)) rfl (by kernel_rfl) (by kernel_rfl) (by kernel_rfl) (fun _ _ _ h => h) (Or.inl ⟨by rfl, ?_⟩) (by assumption) ?_
    · intro W hSW
      go_simp
      all_goals (try omega)
    simp only [Act.put, List.getElem_toArray, List.getElem_cons_succ, List.getElem_cons_zero, List.setIfInBounds_toArray, List.set_cons_succ, List.set_cons_zero]
    refine wpAnyH_ready (rs := [10]) (by kernel_rfl) (by simp) ?_
    refine AllReadyH.cons rfl (fun K hK => ?_) AllReadyH.nil
    rw [if_pos (by rfl)]
    go_simp
    rw [HW7.out]
    refine hK.out _ _ HX7.out (fun hSS6 => ?_)
    clear hK hSS6 hSS s0 sf HW7 HCX6 HX7
    refine wpAnyH_done (by kernel_rfl) ?_ _
    refine NoPanic.normal ?_
    clear hHeld
    obtain ⟨k0, _, k4, l4⟩ := HB7.out.cells
    go_wp2_with fail
    refine (HTL.out g6 cap6 n7 W7 D6 HL7.out HN7.out hn7b (Nat.le_trans hb HBW7.out.size)).mono ?_
    rintro e w8 ⟨rfl, ⟨D8, hd8, hl8⟩, hb8, hg8⟩
    have hB8 : StB w w8 (.slice (some ⟨g6, 0, none⟩) n7 cap6) 5 k s := HB7.out.grown hg8 (fun j hj => by have q : g6 = j := Option.some.inj hj; rw [← q]; exact HG6.out)
    have HB8 : Hid (StB w w8 (.slice (some ⟨g6, 0, none⟩) n7 cap6) 5 k s) := hB8
    have HF8 : Hid (∀ u, LBld (w8.setCell ⟨w.heap.size + 1 + 1, 0, none⟩ u) base (.slice (some ⟨g6, 0, none⟩) n7 cap6) D8) := fun u => lbld_far2 hd8 (lbld_type hd8 hB8.2.2 (by decide) (by decide)) u
    have HO8 : Hid (Oth w w8) := HOW7.out.grown HBW7.out.size hg8 (fun j hj => .inl (own_kind HL7.out.1 (.inr rfl) j hj))
    have HW8 : Hid (Below base w w8) := HBW7.out.trans hb8
    have HL8 : Hid (lkf D8 = tailT ((lkf D).set t (xd, (m : Int), xu) ++ [(xd, 0, 0)])) := by show _ = _; rw [hl8, HL6.out]
    clear k0 k4 l4 hd8 hl8 hb8 hg8 hB8
    obtain ⟨_, _, k4, l4⟩ := HB8.out.cells
    go_wp2_with fail
    (try simp only [Exit.inBlock, Exit.then])
    refine bodyPost_ret (results_row_tmp rfl _ _ (w.heap.size + 1 + 1) 31 #[.slice (some ⟨g6, 0, none⟩) n7 cap6] (0, 0) _ (.bool true) rfl rfl ?_ Try.underlying31 rfl (by kernel_rfl)) rfl ⟨g6, cap6, n7, D8, rfl, HF8.out _, HL8.out, HW8.out.setCell (p := ⟨w.heap.size + 1 + 1, 0, none⟩) (by show base ≤ w.heap.size + 1 + 1; have := HBS.out; omega) _, HO8.out.new (by omega) _ _⟩
    exact put1_heap HB8.out.2.2
  · rw [if_pos (by rfl)]
    go_simp
    rw [HWE.out]
    refine hK.out _ _ (HSC.out _ HBE.out) (fun hSS => ?_)
    clear hK hSS
    refine wpAnyH_ready (rs := [1, 5]) (by kernel_rfl) (by simp) ?_
    refine AllReadyH.cons rfl (fun K hK => ?_) (AllReadyH.cons rfl (fun K hK => ?_) AllReadyH.nil)
    · rw [if_pos (by rfl)]
      obtain ⟨q0, _, _, _⟩ := HSE.out.2.2.2.2.1.cells
      go_simp
      refine hK.out _ _ (HSC.out _ HBE.out) (fun hSS => ?_)
      clear hK hSS q0
      refine wpAnyH_ready (rs := [5]) (by kernel_rfl) (by simp) ?_
      refine AllReadyH.cons rfl (fun K hK => ?_) AllReadyH.nil
      refine step_append_row rfl (.tmp 67) (.tmp 69) rfl wv.heap.size _ 0 [] rfl HOE.out _ rfl xd (HR4.out _ HSE.out) (by rw [← HM.out]; omega) HBE.out.size ?_
      intro v2 w2 hown2 hgrow2 _
      have ho2 : w2.ownsRow wv.heap.size 9 1 v2 xd.length (xd.map S) := by simpa using hown2
      obtain ⟨a2, c2', hv2, _, _, _⟩ := own_sliceC ho2
      subst hv2
      rw [← HM.out] at ho2 ⊢
      have hb2 : Below wv.heap.size wv w2 := HBE.out.grown hgrow2 HBE.out.size (fun j e => by have q : wv.heap.size = j := Option.some.inj e; omega)
      have HB2 : Hid (Below wv.heap.size wv w2) := hb2
      have HS2 : Hid (StL w w2 base g cap n 5 k s D4) := HSd.out.kept hbv hb2
      have HO2 : Hid (w2.ownsRow wv.heap.size 9 1 (.slice a2 m c2') m (xd.map S)) := ho2
      clear hown2 hgrow2 ho2 hb2
      simp only [Act.put, List.getElem_toArray, List.getElem_cons_succ, List.getElem_cons_zero, List.setIfInBounds_toArray, List.set_cons_succ, List.set_cons_zero]
      refine hK.out _ _ (HSC.out _ HB2.out) (fun hSS => ?_)
      clear hK hSS
      refine wpAnyH_take (i := 6) (v := .agg #[.slice a2 m c2', .int .i64 0, .int .i64 0]) rfl (by kernel_rfl) (by kernel_rfl) (by kernel_rfl) (fun _ _ _ h => h) (Or.inl ⟨by rfl, ?_⟩) (HSC.out _ HB2.out) ?_
      · intro W hSW
        go_simp
        all_goals (try omega)
      simp only [Act.put, List.getElem_toArray, List.getElem_cons_succ, List.getElem_cons_zero, List.setIfInBounds_toArray, List.set_cons_succ, List.set_cons_zero]
      obtain ⟨wC, hwC⟩ : ∃ wC, wC = w2.alloc (.cells #[.slice a2 m c2', .int .i64 0, .int .i64 0] 71) := ⟨_, rfl⟩
      have HWC : Hid (w2.alloc (.cells #[.slice a2 m c2', .int .i64 0, .int .i64 0] 71) = wC) := hwC.symm
      have hbC : Below w2.heap.size w2 wC := by rw [hwC]; exact (Below.refl _ _).alloc (Nat.le_refl _) _
      have HBC : Hid (Below wv.heap.size wv wC) := HB2.out.trans (hbC.mono HB2.out.size)
      have HSCc : Hid (StL w wC base g cap n 5 k s D4) := HSd.out.kept hbv HBC.out
      have HOC : Hid (wC.ownsRow wv.heap.size 9 1 (.slice a2 m c2') m (xd.map S)) := own_below HO2.out hbC
      have HNW : Hid (∀ j q, (lkcs [((xd, 0, 0), Value.slice a2 m c2')])[j]? = some q → wC.cell? ((⟨w2.heap.size, 0, none⟩ : Addr).add j) = some q) := fun j q hq => by
        rw [lkcs_one, lkc] at hq
        rw [add_0C, hwC]
        unfold World.cell?
        rw [blk_new]
        match j, hq with
        | 0, hq => simpa using hq
        | 1, hq => simpa using hq
        | 2, hq => simpa using hq
      clear hwC hbC
      refine wpAnyH_ready (rs := [7]) (by kernel_rfl) (by simp) ?_
      refine AllReadyH.cons rfl (fun K hK => ?_) AllReadyH.nil
      rw [if_pos (by rfl)]
      go_simp
      rw [HWC.out]
      refine hK.out _ _ (HSC.out _ HBC.out) (fun hSS => ?_)
      clear hK hSS
      refine wpAnyH_ready (rs := [8]) (by kernel_rfl) (by simp) ?_
      refine AllReadyH.cons rfl (fun K hK => ?_) AllReadyH.nil
      have hone : ∀ q ∈ lkcs [(((xd, 0, 0) : LkT), Value.slice a2 m c2')], q.oneCell' = true := fun q hq => lk_cells_one (fun z hz => ⟨a2, m, c2', by rw [List.mem_singleton.1 hz]⟩) hq
      have hownq := HSCc.out.1.1
      rw [HN4.out] at hownq
      refine step_append_link rfl (.tmp 66) (.tmp 72) rfl base _ n (lkcs D4) rfl hownq w2.heap.size 1 1 rfl (lkcs [((xd, 0, 0), Value.slice a2 m c2')]) (lkcs_length _) HNW.out hone (by omega) (Nat.le_trans hbv HBC.out.size) ?_
      intro v6 w6 hown6 hgrow6 hfr6
      have hL6 : LBld w6 base v6 (D4 ++ [((xd, 0, 0), Value.slice a2 m c2')]) := HSCc.out.1.more (by rw [HM.out]; have h9 := HOC.out; rw [HM.out] at h9; exact h9) hbv (fun z hz j hj => (HSd.out.1.lt.2 z hz j hj).2) (by rw [HN4.out]; exact hown6) hgrow6
      have hBB6 : StB w w6 (.slice (some ⟨g, 0, none⟩) n cap) 5 k s := HSCc.out.2.2.2.2.1.grown hgrow6 (fun j hj => by have q : g = j := Option.some.inj hj; rw [← q]; exact HSCc.out.2.2.1)
      have hbw6 : Below base w w6 := HSCc.out.2.2.2.1.grown hgrow6 (Nat.le_trans hbv HBC.out.size) (fun j hj => (HSCc.out.1.lt.1 j hj).1)
      obtain ⟨g6, cap6, hv6, _, _, _⟩ := hL6.form (by simp)
      have hlen : (D4 ++ [(((xd, 0, 0) : LkT), Value.slice a2 m c2')]).length = n + 1 := by rw [List.length_append, HN4.out]; rfl
      have HG6 : Hid (g6 < w.heap.size ∨ w.heap.size + 3 ≤ g6) := by
        show _ ∨ _
        rcases hfr6 g6 (by rw [hv6]; rfl) with h9 | h9
        · have q : g = g6 := Option.some.inj h9
          rw [← q]; exact HSCc.out.2.2.1
        · have := HBC.out.size
          have := HZd.out
          exact .inr (by omega)
      rw [hlen] at hv6
      subst hv6
      obtain ⟨D6, hD6⟩ : ∃ D6, D6 = D4 ++ [(((xd, 0, 0) : LkT), Value.slice a2 m c2')] := ⟨_, rfl⟩
      rw [← hD6] at hL6 hlen
      have HL6 : Hid (lkf D6 = (lkf D).set t (xd, (m : Int), xu) ++ [(xd, 0, 0)]) := by
        show _ = _
        have h9 := HD4.out
        unfold lkf at h9 ⊢
        rw [hD6, List.map_append, h9]; rfl
      have hcx6 : w6.cell? ⟨W0.heap.size, 0, none⟩ = some (.slice ad m cd) := by
        have q1 := HSC.out _ HBC.out
        have q2 := World.block_lt_of_cell? _ _ q1
        have q3 : w6.heap[W0.heap.size]? = wC.heap[W0.heap.size]? := hgrow6.block _ q2 (fun e => by
          have q : W0.heap.size = g := Option.some.inj e
          exact absurd q HGX.out)
        unfold World.cell? at q1 ⊢
        rw [q3]; exact q1
      obtain ⟨W7, hW7⟩ : ∃ W7, W7 = w6.setCell ⟨w.heap.size, 0, none⟩ (.slice (some ⟨g6, 0, none⟩) (n + 1) cap6) := ⟨_, rfl⟩
      have HW7 : Hid (w6.setCell ⟨w.heap.size, 0, none⟩ (.slice (some ⟨g6, 0, none⟩) (n + 1) cap6) = W7) := hW7.symm
      have hB7 : StB w W7 (.slice (some ⟨g6, 0, none⟩) (n + 1) cap6) 5 k s := by rw [hW7]; exact hBB6.box _
      have HL7 : Hid (LBld W7 base (.slice (some ⟨g6, 0, none⟩) (n + 1) cap6) D6) := by show LBld _ _ _ _; rw [hW7]; exact lbld_far2 hL6 (lbld_type hL6 hBB6.1 (by decide) (by decide)) _
      have HBW7 : Hid (Below base w W7) := by show Below _ _ _; rw [hW7]; exact hbw6.setCell (p := ⟨w.heap.size, 0, none⟩) hb _
      have HOW7 : Hid (Oth w W7) := by show Oth _ _; rw [hW7]; exact (HSCc.out.2.2.2.2.2.grown HSCc.out.2.2.2.1.size hgrow6 (fun j hj => .inl (own_kind HSCc.out.1.1 (.inr rfl) j hj))).new (Nat.le_refl _) _ _
      have HX7 : Hid (W7.cell? ⟨W0.heap.size, 0, none⟩ = some (.slice ad m cd)) := by
        show _ = _
        rw [hW7, World.cell?_setCell_far _ _ _ _ (show w.heap.size ≠ W0.heap.size from HWW.out)]; exact hcx6
      have HB7 : Hid (StB w W7 (.slice (some ⟨g6, 0, none⟩) (n + 1) cap6) 5 k s) := hB7
      have HN7 : Hid (n + 1 = D6.length) := hlen.symm
      have HCX6 : Hid (w6.cell? ⟨W0.heap.size, 0, none⟩ = some (.slice ad m cd)) := hcx6
      obtain ⟨s0, _, _, _⟩ := hBB6.cells
      have sf : w6.frozen? ⟨w.heap.size, 0, none⟩ = false := by unfold World.frozen?; rw [hBB6.1]; simp
      clear hone hownq hown6 hgrow6 hfr6 hL6 hBB6 hbw6 hlen hD6 hcx6 hW7 hB7
      obtain ⟨n7, hn7⟩ : ∃ n7, n7 = n + 1 := ⟨_, rfl⟩
      rw [← hn7] at HW7 HL7 HB7 HN7 ⊢
      have hn7b : 1 ≤ n7 ∧ n7 ≤ 1000 := by omega
      clear hn7 hno
      simp only [Act.put, List.getElem_toArray, List.getElem_cons_succ, List.getElem_cons_zero, List.setIfInBounds_toArray, List.set_cons_succ, List.set_cons_zero]
      refine hK.out _ _ HCX6.out (fun hSS => ?_)
      clear hK
      refine wpAnyH_take (i := 9) (v := .pointer (some ⟨w.heap.size, 0, none⟩)) rfl (by kernel_rfl) (by kernel_rfl) (by kernel_rfl) (fun _ _ _ h => h) (Or.inl ⟨by rfl, ?_⟩) (by assumption) ?_
      · intro W hSW
        go_simp
        all_goals (try omega)
      simp only [Act.put, List.getElem_toArray, List.getElem_cons_succ, List.getElem_cons_zero, List.setIfInBounds_toArray, List.set_cons_succ, List.set_cons_zero]
      refine wpAnyH_ready (rs := [10]) (by kernel_rfl) (by simp) ?_
      refine AllReadyH.cons rfl (fun K hK => ?_) AllReadyH.nil
      rw [if_pos (by rfl)]
      go_simp
      rw [HW7.out]
      refine hK.out _ _ HX7.out (fun hSS6 => ?_)
      clear hK hSS6 hSS s0 sf HW7 HCX6 HX7
      refine wpAnyH_done (by kernel_rfl) ?_ _
      refine NoPanic.normal ?_
      clear hHeld
      obtain ⟨k0, _, k4, l4⟩ := HB7.out.cells
      go_wp2_with fail
      refine (HTL.out g6 cap6 n7 W7 D6 HL7.out HN7.out hn7b (Nat.le_trans hb HBW7.out.size)).mono ?_
      rintro e w8 ⟨rfl, ⟨D8, hd8, hl8⟩, hb8, hg8⟩
      have hB8 : StB w w8 (.slice (some ⟨g6, 0, none⟩) n7 cap6) 5 k s := HB7.out.grown hg8 (fun j hj => by have q : g6 = j := Option.some.inj hj; rw [← q]; exact HG6.out)
      have HB8 : Hid (StB w w8 (.slice (some ⟨g6, 0, none⟩) n7 cap6) 5 k s) := hB8
      have HF8 : Hid (∀ u, LBld (w8.setCell ⟨w.heap.size + 1 + 1, 0, none⟩ u) base (.slice (some ⟨g6, 0, none⟩) n7 cap6) D8) := fun u => lbld_far2 hd8 (lbld_type hd8 hB8.2.2 (by decide) (by decide)) u
      have HO8 : Hid (Oth w w8) := HOW7.out.grown HBW7.out.size hg8 (fun j hj => .inl (own_kind HL7.out.1 (.inr rfl) j hj))
      have HW8 : Hid (Below base w w8) := HBW7.out.trans hb8
      have HL8 : Hid (lkf D8 = tailT ((lkf D).set t (xd, (m : Int), xu) ++ [(xd, 0, 0)])) := by show _ = _; rw [hl8, HL6.out]
      clear k0 k4 l4 hd8 hl8 hb8 hg8 hB8
      obtain ⟨_, _, k4, l4⟩ := HB8.out.cells
      go_wp2_with fail
      (try simp only [Exit.inBlock, Exit.then])
      refine bodyPost_ret (results_row_tmp rfl _ _ (w.heap.size + 1 + 1) 31 #[.slice (some ⟨g6, 0, none⟩) n7 cap6] (0, 0) _ (.bool true) rfl rfl ?_ Try.underlying31 rfl (by kernel_rfl)) rfl ⟨g6, cap6, n7, D8, rfl, HF8.out _, HL8.out, HW8.out.setCell (p := ⟨w.heap.size + 1 + 1, 0, none⟩) (by show base ≤ w.heap.size + 1 + 1; have := HBS.out; omega) _, HO8.out.new (by omega) _ _⟩
      exact put1_heap HB8.out.2.2
    · refine step_append_row rfl (.tmp 67) (.tmp 69) rfl wv.heap.size _ 0 [] rfl HOE.out _ rfl xd (HR4.out _ HSE.out) (by rw [← HM.out]; omega) HBE.out.size ?_
      intro v2 w2 hown2 hgrow2 _
      have ho2 : w2.ownsRow wv.heap.size 9 1 v2 xd.length (xd.map S) := by simpa using hown2
      obtain ⟨a2, c2', hv2, _, _, _⟩ := own_sliceC ho2
      subst hv2
      rw [← HM.out] at ho2 ⊢
      have hb2 : Below wv.heap.size wv w2 := HBE.out.grown hgrow2 HBE.out.size (fun j e => by have q : wv.heap.size = j := Option.some.inj e; omega)
      have HB2 : Hid (Below wv.heap.size wv w2) := hb2
      have HS2 : Hid (StL w w2 base g cap n 5 k s D4) := HSd.out.kept hbv hb2
      have HO2 : Hid (w2.ownsRow wv.heap.size 9 1 (.slice a2 m c2') m (xd.map S)) := ho2
      clear hown2 hgrow2 ho2 hb2
      simp only [Act.put, List.getElem_toArray, List.getElem_cons_succ, List.getElem_cons_zero, List.setIfInBounds_toArray, List.set_cons_succ, List.set_cons_zero]
      refine hK.out _ _ (HSC.out _ HB2.out) (fun hSS => ?_)
      clear hK hSS
      refine wpAnyH_take (i := 6) (v := .agg #[.slice a2 m c2', .int .i64 0, .int .i64 0]) rfl (by kernel_rfl) (by kernel_rfl) (by kernel_rfl) (fun _ _ _ h => h) (Or.inl ⟨by rfl, ?_⟩) (HSC.out _ HB2.out) ?_
      · intro W hSW
        go_simp
        all_goals (try omega)
      simp only [Act.put, List.getElem_toArray, List.getElem_cons_succ, List.getElem_cons_zero, List.setIfInBounds_toArray, List.set_cons_succ, List.set_cons_zero]
      obtain ⟨wC, hwC⟩ : ∃ wC, wC = w2.alloc (.cells #[.slice a2 m c2', .int .i64 0, .int .i64 0] 71) := ⟨_, rfl⟩
      have HWC : Hid (w2.alloc (.cells #[.slice a2 m c2', .int .i64 0, .int .i64 0] 71) = wC) := hwC.symm
      have hbC : Below w2.heap.size w2 wC := by rw [hwC]; exact (Below.refl _ _).alloc (Nat.le_refl _) _
      have HBC : Hid (Below wv.heap.size wv wC) := HB2.out.trans (hbC.mono HB2.out.size)
      have HSCc : Hid (StL w wC base g cap n 5 k s D4) := HSd.out.kept hbv HBC.out
      have HOC : Hid (wC.ownsRow wv.heap.size 9 1 (.slice a2 m c2') m (xd.map S)) := own_below HO2.out hbC
      have HNW : Hid (∀ j q, (lkcs [((xd, 0, 0), Value.slice a2 m c2')])[j]? = some q → wC.cell? ((⟨w2.heap.size, 0, none⟩ : Addr).add j) = some q) := fun j q hq => by
        rw [lkcs_one, lkc] at hq
        rw [add_0C, hwC]
        unfold World.cell?
        rw [blk_new]
        match j, hq with
        | 0, hq => simpa using hq
        | 1, hq => simpa using hq
        | 2, hq => simpa using hq
      clear hwC hbC
      refine wpAnyH_ready (rs := [1, 7]) (by kernel_rfl) (by simp) ?_
      refine AllReadyH.cons rfl (fun K hK => ?_) (AllReadyH.cons rfl (fun K hK => ?_) AllReadyH.nil)
      · rw [if_pos (by rfl)]
        obtain ⟨q0, _, _, _⟩ := HS2.out.2.2.2.2.1.cells
        go_simp
        refine hK.out _ _ (HSC.out _ HB2.out) (fun hSS => ?_)
        clear hK hSS q0
        refine wpAnyH_ready (rs := [7]) (by kernel_rfl) (by simp) ?_
        refine AllReadyH.cons rfl (fun K hK => ?_) AllReadyH.nil
        rw [if_pos (by rfl)]
        go_simp
        rw [HWC.out]
        refine hK.out _ _ (HSC.out _ HBC.out) (fun hSS => ?_)
        clear hK hSS
        refine wpAnyH_ready (rs := [8]) (by kernel_rfl) (by simp) ?_
        refine AllReadyH.cons rfl (fun K hK => ?_) AllReadyH.nil
        have hone : ∀ q ∈ lkcs [(((xd, 0, 0) : LkT), Value.slice a2 m c2')], q.oneCell' = true := fun q hq => lk_cells_one (fun z hz => ⟨a2, m, c2', by rw [List.mem_singleton.1 hz]⟩) hq
        have hownq := HSCc.out.1.1
        rw [HN4.out] at hownq
        refine step_append_link rfl (.tmp 66) (.tmp 72) rfl base _ n (lkcs D4) rfl hownq w2.heap.size 1 1 rfl (lkcs [((xd, 0, 0), Value.slice a2 m c2')]) (lkcs_length _) HNW.out hone (by omega) (Nat.le_trans hbv HBC.out.size) ?_
        intro v6 w6 hown6 hgrow6 hfr6
        have hL6 : LBld w6 base v6 (D4 ++ [((xd, 0, 0), Value.slice a2 m c2')]) := HSCc.out.1.more (by rw [HM.out]; have h9 := HOC.out; rw [HM.out] at h9; exact h9) hbv (fun z hz j hj => (HSd.out.1.lt.2 z hz j hj).2) (by rw [HN4.out]; exact hown6) hgrow6
        have hBB6 : StB w w6 (.slice (some ⟨g, 0, none⟩) n cap) 5 k s := HSCc.out.2.2.2.2.1.grown hgrow6 (fun j hj => by have q : g = j := Option.some.inj hj; rw [← q]; exact HSCc.out.2.2.1)
        have hbw6 : Below base w w6 := HSCc.out.2.2.2.1.grown hgrow6 (Nat.le_trans hbv HBC.out.size) (fun j hj => (HSCc.out.1.lt.1 j hj).1)
        obtain ⟨g6, cap6, hv6, _, _, _⟩ := hL6.form (by simp)
        have hlen : (D4 ++ [(((xd, 0, 0) : LkT), Value.slice a2 m c2')]).length = n + 1 := by rw [List.length_append, HN4.out]; rfl
        have HG6 : Hid (g6 < w.heap.size ∨ w.heap.size + 3 ≤ g6) := by
          show _ ∨ _
          rcases hfr6 g6 (by rw [hv6]; rfl) with h9 | h9
          · have q : g = g6 := Option.some.inj h9
            rw [← q]; exact HSCc.out.2.2.1
          · have := HBC.out.size
            have := HZd.out
            exact .inr (by omega)
        rw [hlen] at hv6
        subst hv6
        obtain ⟨D6, hD6⟩ : ∃ D6, D6 = D4 ++ [(((xd, 0, 0) : LkT), Value.slice a2 m c2')] := ⟨_, rfl⟩
        rw [← hD6] at hL6 hlen
        have HL6 : Hid (lkf D6 = (lkf D).set t (xd, (m : Int), xu) ++ [(xd, 0, 0)]) := by
          show _ = _
          have h9 := HD4.out
          unfold lkf at h9 ⊢
          rw [hD6, List.map_append, h9]; rfl
        have hcx6 : w6.cell? ⟨W0.heap.size, 0, none⟩ = some (.slice ad m cd) := by
          have q1 := HSC.out _ HBC.out
          have q2 := World.block_lt_of_cell? _ _ q1
          have q3 : w6.heap[W0.heap.size]? = wC.heap[W0.heap.size]? := hgrow6.block _ q2 (fun e => by
            have q : W0.heap.size = g := Option.some.inj e
            exact absurd q HGX.out)
          unfold World.cell? at q1 ⊢
          rw [q3]; exact q1
        obtain ⟨W7, hW7⟩ : ∃ W7, W7 = w6.setCell ⟨w.heap.size, 0, none⟩ (.slice (some ⟨g6, 0, none⟩) (n + 1) cap6) := ⟨_, rfl⟩
        have HW7 : Hid (w6.setCell ⟨w.heap.size, 0, none⟩ (.slice (some ⟨g6, 0, none⟩) (n + 1) cap6) = W7) := hW7.symm
        have hB7 : StB w W7 (.slice (some ⟨g6, 0, none⟩) (n + 1) cap6) 5 k s := by rw [hW7]; exact hBB6.box _
        have HL7 : Hid (LBld W7 base (.slice (some ⟨g6, 0, none⟩) (n + 1) cap6) D6) := by show LBld _ _ _ _; rw [hW7]; exact lbld_far2 hL6 (lbld_type hL6 hBB6.1 (by decide) (by decide)) _
        have HBW7 : Hid (Below base w W7) := by show Below _ _ _; rw [hW7]; exact hbw6.setCell (p := ⟨w.heap.size, 0, none⟩) hb _
        have HOW7 : Hid (Oth w W7) := by show Oth _ _; rw [hW7]; exact (HSCc.out.2.2.2.2.2.grown HSCc.out.2.2.2.1.size hgrow6 (fun j hj => .inl (own_kind HSCc.out.1.1 (.inr rfl) j hj))).new (Nat.le_refl _) _ _
        have HX7 : Hid (W7.cell? ⟨W0.heap.size, 0, none⟩ = some (.slice ad m cd)) := by
          show _ = _
          rw [hW7, World.cell?_setCell_far _ _ _ _ (show w.heap.size ≠ W0.heap.size from HWW.out)]; exact hcx6
        have HB7 : Hid (StB w W7 (.slice (some ⟨g6, 0, none⟩) (n + 1) cap6) 5 k s) := hB7
        have HN7 : Hid (n + 1 = D6.length) := hlen.symm
        have HCX6 : Hid (w6.cell? ⟨W0.heap.size, 0, none⟩ = some (.slice ad m cd)) := hcx6
        obtain ⟨s0, _, _, _⟩ := hBB6.cells
        have sf : w6.frozen? ⟨w.heap.size, 0, none⟩ = false := by unfold World.frozen?; rw [hBB6.1]; simp
        clear hone hownq hown6 hgrow6 hfr6 hL6 hBB6 hbw6 hlen hD6 hcx6 hW7 hB7
        obtain ⟨n7, hn7⟩ : ∃ n7, n7 = n + 1 := ⟨_, rfl⟩
        rw [← hn7] at HW7 HL7 HB7 HN7 ⊢
        have hn7b : 1 ≤ n7 ∧ n7 ≤ 1000 := by omega
        clear hn7 hno
        simp only [Act.put, List.getElem_toArray, List.getElem_cons_succ, List.getElem_cons_zero, List.setIfInBounds_toArray, List.set_cons_succ, List.set_cons_zero]
        refine hK.out _ _ HCX6.out (fun hSS => ?_)
        clear hK
        refine wpAnyH_take (i := 9) (v := .pointer (some ⟨w.heap.size, 0, none⟩)) rfl (by kernel_rfl) (by kernel_rfl) (by kernel_rfl) (fun _ _ _ h => h) (Or.inl ⟨by rfl, ?_⟩) (by assumption) ?_
        · intro W hSW
          go_simp
          all_goals (try omega)
        simp only [Act.put, List.getElem_toArray, List.getElem_cons_succ, List.getElem_cons_zero, List.setIfInBounds_toArray, List.set_cons_succ, List.set_cons_zero]
        refine wpAnyH_ready (rs := [10]) (by kernel_rfl) (by simp) ?_
        refine AllReadyH.cons rfl (fun K hK => ?_) AllReadyH.nil
        rw [if_pos (by rfl)]
        go_simp
        rw [HW7.out]
        refine hK.out _ _ HX7.out (fun hSS6 => ?_)
        clear hK hSS6 hSS s0 sf HW7 HCX6 HX7
        refine wpAnyH_done (by kernel_rfl) ?_ _
        refine NoPanic.normal ?_
        clear hHeld
        obtain ⟨k0, _, k4, l4⟩ := HB7.out.cells
        go_wp2_with fail
        refine (HTL.out g6 cap6 n7 W7 D6 HL7.out HN7.out hn7b (Nat.le_trans hb HBW7.out.size)).mono ?_
        rintro e w8 ⟨rfl, ⟨D8, hd8, hl8⟩, hb8, hg8⟩
        have hB8 : StB w w8 (.slice (some ⟨g6, 0, none⟩) n7 cap6) 5 k s := HB7.out.grown hg8 (fun j hj => by have q : g6 = j := Option.some.inj hj; rw [← q]; exact HG6.out)
        have HB8 : Hid (StB w w8 (.slice (some ⟨g6, 0, none⟩) n7 cap6) 5 k s) := hB8
        have HF8 : Hid (∀ u, LBld (w8.setCell ⟨w.heap.size + 1 + 1, 0, none⟩ u) base (.slice (some ⟨g6, 0, none⟩) n7 cap6) D8) := fun u => lbld_far2 hd8 (lbld_type hd8 hB8.2.2 (by decide) (by decide)) u
        have HO8 : Hid (Oth w w8) := HOW7.out.grown HBW7.out.size hg8 (fun j hj => .inl (own_kind HL7.out.1 (.inr rfl) j hj))
        have HW8 : Hid (Below base w w8) := HBW7.out.trans hb8
        have HL8 : Hid (lkf D8 = tailT ((lkf D).set t (xd, (m : Int), xu) ++ [(xd, 0, 0)])) := by show _ = _; rw [hl8, HL6.out]
        clear k0 k4 l4 hd8 hl8 hb8 hg8 hB8
        obtain ⟨_, _, k4, l4⟩ := HB8.out.cells
        go_wp2_with fail
        (try simp only [Exit.inBlock, Exit.then])
        refine bodyPost_ret (results_row_tmp rfl _ _ (w.heap.size + 1 + 1) 31 #[.slice (some ⟨g6, 0, none⟩) n7 cap6] (0, 0) _ (.bool true) rfl rfl ?_ Try.underlying31 rfl (by kernel_rfl)) rfl ⟨g6, cap6, n7, D8, rfl, HF8.out _, HL8.out, HW8.out.setCell (p := ⟨w.heap.size + 1 + 1, 0, none⟩) (by show base ≤ w.heap.size + 1 + 1; have := HBS.out; omega) _, HO8.out.new (by omega) _ _⟩
        exact put1_heap HB8.out.2.2
      · rw [if_pos (by rfl)]
        go_simp
        rw [HWC.out]
        refine hK.out _ _ (HSC.out _ HBC.out) (fun hSS => ?_)
        clear hK hSS
        refine wpAnyH_ready (rs := [1]) (by kernel_rfl) (by simp) ?_
        refine AllReadyH.cons rfl (fun K hK => ?_) AllReadyH.nil
        rw [if_pos (by rfl)]
        obtain ⟨q0, _, _, _⟩ := HSCc.out.2.2.2.2.1.cells
        go_simp
        refine hK.out _ _ (HSC.out _ HBC.out) (fun hSS => ?_)
        clear hK hSS q0
        refine wpAnyH_ready (rs := [8]) (by kernel_rfl) (by simp) ?_
        refine AllReadyH.cons rfl (fun K hK => ?_) AllReadyH.nil
        have hone : ∀ q ∈ lkcs [(((xd, 0, 0) : LkT), Value.slice a2 m c2')], q.oneCell' = true := fun q hq => lk_cells_one (fun z hz => ⟨a2, m, c2', by rw [List.mem_singleton.1 hz]⟩) hq
        have hownq := HSCc.out.1.1
        rw [HN4.out] at hownq
        refine step_append_link rfl (.tmp 66) (.tmp 72) rfl base _ n (lkcs D4) rfl hownq w2.heap.size 1 1 rfl (lkcs [((xd, 0, 0), Value.slice a2 m c2')]) (lkcs_length _) HNW.out hone (by omega) (Nat.le_trans hbv HBC.out.size) ?_
        intro v6 w6 hown6 hgrow6 hfr6
        have hL6 : LBld w6 base v6 (D4 ++ [((xd, 0, 0), Value.slice a2 m c2')]) := HSCc.out.1.more (by rw [HM.out]; have h9 := HOC.out; rw [HM.out] at h9; exact h9) hbv (fun z hz j hj => (HSd.out.1.lt.2 z hz j hj).2) (by rw [HN4.out]; exact hown6) hgrow6
        have hBB6 : StB w w6 (.slice (some ⟨g, 0, none⟩) n cap) 5 k s := HSCc.out.2.2.2.2.1.grown hgrow6 (fun j hj => by have q : g = j := Option.some.inj hj; rw [← q]; exact HSCc.out.2.2.1)
        have hbw6 : Below base w w6 := HSCc.out.2.2.2.1.grown hgrow6 (Nat.le_trans hbv HBC.out.size) (fun j hj => (HSCc.out.1.lt.1 j hj).1)
        obtain ⟨g6, cap6, hv6, _, _, _⟩ := hL6.form (by simp)
        have hlen : (D4 ++ [(((xd, 0, 0) : LkT), Value.slice a2 m c2')]).length = n + 1 := by rw [List.length_append, HN4.out]; rfl
        have HG6 : Hid (g6 < w.heap.size ∨ w.heap.size + 3 ≤ g6) := by
          show _ ∨ _
          rcases hfr6 g6 (by rw [hv6]; rfl) with h9 | h9
          · have q : g = g6 := Option.some.inj h9
            rw [← q]; exact HSCc.out.2.2.1
          · have := HBC.out.size
            have := HZd.out
            exact .inr (by omega)
        rw [hlen] at hv6
        subst hv6
        obtain ⟨D6, hD6⟩ : ∃ D6, D6 = D4 ++ [(((xd, 0, 0) : LkT), Value.slice a2 m c2')] := ⟨_, rfl⟩
        rw [← hD6] at hL6 hlen
        have HL6 : Hid (lkf D6 = (lkf D).set t (xd, (m : Int), xu) ++ [(xd, 0, 0)]) := by
          show _ = _
          have h9 := HD4.out
          unfold lkf at h9 ⊢
          rw [hD6, List.map_append, h9]; rfl
        have hcx6 : w6.cell? ⟨W0.heap.size, 0, none⟩ = some (.slice ad m cd) := by
          have q1 := HSC.out _ HBC.out
          have q2 := World.block_lt_of_cell? _ _ q1
          have q3 : w6.heap[W0.heap.size]? = wC.heap[W0.heap.size]? := hgrow6.block _ q2 (fun e => by
            have q : W0.heap.size = g := Option.some.inj e
            exact absurd q HGX.out)
          unfold World.cell? at q1 ⊢
          rw [q3]; exact q1
        obtain ⟨W7, hW7⟩ : ∃ W7, W7 = w6.setCell ⟨w.heap.size, 0, none⟩ (.slice (some ⟨g6, 0, none⟩) (n + 1) cap6) := ⟨_, rfl⟩
        have HW7 : Hid (w6.setCell ⟨w.heap.size, 0, none⟩ (.slice (some ⟨g6, 0, none⟩) (n + 1) cap6) = W7) := hW7.symm
        have hB7 : StB w W7 (.slice (some ⟨g6, 0, none⟩) (n + 1) cap6) 5 k s := by rw [hW7]; exact hBB6.box _
        have HL7 : Hid (LBld W7 base (.slice (some ⟨g6, 0, none⟩) (n + 1) cap6) D6) := by show LBld _ _ _ _; rw [hW7]; exact lbld_far2 hL6 (lbld_type hL6 hBB6.1 (by decide) (by decide)) _
        have HBW7 : Hid (Below base w W7) := by show Below _ _ _; rw [hW7]; exact hbw6.setCell (p := ⟨w.heap.size, 0, none⟩) hb _
        have HOW7 : Hid (Oth w W7) := by show Oth _ _; rw [hW7]; exact (HSCc.out.2.2.2.2.2.grown HSCc.out.2.2.2.1.size hgrow6 (fun j hj => .inl (own_kind HSCc.out.1.1 (.inr rfl) j hj))).new (Nat.le_refl _) _ _
        have HX7 : Hid (W7.cell? ⟨W0.heap.size, 0, none⟩ = some (.slice ad m cd)) := by
          show _ = _
          rw [hW7, World.cell?_setCell_far _ _ _ _ (show w.heap.size ≠ W0.heap.size from HWW.out)]; exact hcx6
        have HB7 : Hid (StB w W7 (.slice (some ⟨g6, 0, none⟩) (n + 1) cap6) 5 k s) := hB7
        have HN7 : Hid (n + 1 = D6.length) := hlen.symm
        have HCX6 : Hid (w6.cell? ⟨W0.heap.size, 0, none⟩ = some (.slice ad m cd)) := hcx6
        obtain ⟨s0, _, _, _⟩ := hBB6.cells
        have sf : w6.frozen? ⟨w.heap.size, 0, none⟩ = false := by unfold World.frozen?; rw [hBB6.1]; simp
        clear hone hownq hown6 hgrow6 hfr6 hL6 hBB6 hbw6 hlen hD6 hcx6 hW7 hB7
        obtain ⟨n7, hn7⟩ : ∃ n7, n7 = n + 1 := ⟨_, rfl⟩
        rw [← hn7] at HW7 HL7 HB7 HN7 ⊢
        have hn7b : 1 ≤ n7 ∧ n7 ≤ 1000 := by omega
        clear hn7 hno
        simp only [Act.put, List.getElem_toArray, List.getElem_cons_succ, List.getElem_cons_zero, List.setIfInBounds_toArray, List.set_cons_succ, List.set_cons_zero]
        refine hK.out _ _ HCX6.out (fun hSS => ?_)
        clear hK
        refine wpAnyH_take (i := 9) (v := .pointer (some ⟨w.heap.size, 0, none⟩)) rfl (by kernel_rfl) (by kernel_rfl) (by kernel_rfl) (fun _ _ _ h => h) (Or.inl ⟨by rfl, ?_⟩) (by assumption) ?_
        · intro W hSW
          go_simp
          all_goals (try omega)
        simp only [Act.put, List.getElem_toArray, List.getElem_cons_succ, List.getElem_cons_zero, List.setIfInBounds_toArray, List.set_cons_succ, List.set_cons_zero]
        refine wpAnyH_ready (rs := [10]) (by kernel_rfl) (by simp) ?_
        refine AllReadyH.cons rfl (fun K hK => ?_) AllReadyH.nil
        rw [if_pos (by rfl)]
        go_simp
        rw [HW7.out]
        refine hK.out _ _ HX7.out (fun hSS6 => ?_)
        clear hK hSS6 hSS s0 sf HW7 HCX6 HX7
        refine wpAnyH_done (by kernel_rfl) ?_ _
        refine NoPanic.normal ?_
        clear hHeld
        obtain ⟨k0, _, k4, l4⟩ := HB7.out.cells
        go_wp2_with fail
        refine (HTL.out g6 cap6 n7 W7 D6 HL7.out HN7.out hn7b (Nat.le_trans hb HBW7.out.size)).mono ?_
        rintro e w8 ⟨rfl, ⟨D8, hd8, hl8⟩, hb8, hg8⟩
        have hB8 : StB w w8 (.slice (some ⟨g6, 0, none⟩) n7 cap6) 5 k s := HB7.out.grown hg8 (fun j hj => by have q : g6 = j := Option.some.inj hj; rw [← q]; exact HG6.out)
        have HB8 : Hid (StB w w8 (.slice (some ⟨g6, 0, none⟩) n7 cap6) 5 k s) := hB8
        have HF8 : Hid (∀ u, LBld (w8.setCell ⟨w.heap.size + 1 + 1, 0, none⟩ u) base (.slice (some ⟨g6, 0, none⟩) n7 cap6) D8) := fun u => lbld_far2 hd8 (lbld_type hd8 hB8.2.2 (by decide) (by decide)) u
        have HO8 : Hid (Oth w w8) := HOW7.out.grown HBW7.out.size hg8 (fun j hj => .inl (own_kind HL7.out.1 (.inr rfl) j hj))
        have HW8 : Hid (Below base w w8) := HBW7.out.trans hb8
        have HL8 : Hid (lkf D8 = tailT ((lkf D).set t (xd, (m : Int), xu) ++ [(xd, 0, 0)])) := by show _ = _; rw [hl8, HL6.out]
        clear k0 k4 l4 hd8 hl8 hb8 hg8 hB8
        obtain ⟨_, _, k4, l4⟩ := HB8.out.cells
        go_wp2_with fail
        (try simp only [Exit.inBlock, Exit.then])
        refine bodyPost_ret (results_row_tmp rfl _ _ (w.heap.size + 1 + 1) 31 #[.slice (some ⟨g6, 0, none⟩) n7 cap6] (0, 0) _ (.bool true) rfl rfl ?_ Try.underlying31 rfl (by kernel_rfl)) rfl ⟨g6, cap6, n7, D8, rfl, HF8.out _, HL8.out, HW8.out.setCell (p := ⟨w.heap.size + 1 + 1, 0, none⟩) (by show base ≤ w.heap.size + 1 + 1; have := HBS.out; omega) _, HO8.out.new (by omega) _ _⟩
        exact put1_heap HB8.out.2.2
end Go.Proofs.Ytacmipcjhbkdcaa

namespace Go.Proofs.Ytacmipcjhbkdcaa
open Go.RowKit

/-! What the specification makes of a good chain is what the program makes of it. -/
theorem getD_tail {M : List LkT} {j : Nat} (hM : 0 < M.length) : (tailT M).getD j zLk = if j + 1 = M.length then ((M.getD j zLk).1, 0, ((M.getD j zLk).1.length : Int)) else M.getD j zLk := by
  unfold tailT
  rw [getD_set (by omega)]
  by_cases e : j + 1 = M.length
  · have e2 : M.length - 1 = j := by omega
    rw [if_pos e, if_pos e2, e2]
  · rw [if_neg e, if_neg (by omega)]
theorem tail_len (M : List LkT) : (tailT M).length = M.length := by unfold tailT; rw [List.length_set]
theorem keep_len (L : List LkT) (k : Nat) (s : List UInt8) : (keepL L k s).length = L.length := by
  unfold keepL
  by_cases h0 : 0 < k
  · simp only [if_pos h0, List.length_set]
  · simp only [if_neg h0, List.length_set]
theorem getD_keep {L : List LkT} {k j : Nat} {s : List UInt8} (hk : k < L.length) : (keepL L k s).getD j zLk = if j = k then ((L.getD k zLk).1 ++ [s], (L.getD k zLk).2.1, if k + 1 = L.length then ((L.getD k zLk).1.length : Int) + 1 else (L.getD k zLk).2.2) else if j + 1 = k then ((L.getD j zLk).1, ((L.getD k zLk).1.length : Int) + 1, (L.getD j zLk).2.2) else L.getD j zLk := by
  unfold keepL
  by_cases h0 : 0 < k
  · simp only [if_pos h0]
    rw [getD_set (by rw [List.length_set]; omega), getD_set hk]
    by_cases e1 : j = k
    · rw [if_neg (by omega), if_pos e1.symm, if_pos e1]
    · by_cases e2 : j + 1 = k
      · have e3 : k - 1 = j := by omega
        rw [if_pos e3, if_neg e1, if_pos e2, e3]
      · rw [if_neg (by omega), if_neg (by omega), if_neg e1, if_neg e2]
  · simp only [if_neg h0]
    rw [getD_set hk]
    by_cases e1 : j = k
    · rw [if_pos e1.symm, if_pos e1]
    · rw [if_neg (by omega), if_neg e1, if_neg (by omega)]
theorem tail_at {L : List LkT} (h : chB L = true) {j : Nat} (hj : j + 1 = L.length) : (L.getD j zLk).2.1 = 0 ∧ (L.getD j zLk).2.2 = ((L.getD j zLk).1.length : Int) := by
  have h1 := tail_iff.1 ((chB_iff.1 h).2.1 j hj)
  exact h1.2
theorem put_spec {L : List LkT} {s : List UInt8} (h : chB L = true) (hb : putB L s = true) : tailT (L.set 0 ((L.getD 0 zLk).1 ++ [s], (L.getD 0 zLk).2.1, (L.getD 0 zLk).2.2)) = putL L s := by
  have h16 := chB_len h
  unfold putL
  rw [if_pos hb]
  refine list_same (by rw [tail_len, List.length_set, keep_len]) fun j hj => ?_
  rw [tail_len, List.length_set] at hj
  rw [getD_tail (by rw [List.length_set]; omega), getD_keep (by omega), List.length_set, getD_set (by omega)]
  by_cases e0 : j = 0
  · subst e0
    rw [if_pos rfl, if_pos rfl]
    by_cases e1 : 0 + 1 = L.length
    · rw [if_pos e1, if_pos e1, (tail_at h e1).1, List.length_append]
      simp
    · rw [if_neg e1, if_neg e1]
  · rw [if_neg (show ¬ 0 = j by omega), if_neg e0, if_neg (show ¬ j + 1 = 0 by omega)]
    by_cases e1 : j + 1 = L.length
    · rw [if_pos e1]
      have h1 := tail_at h e1
      exact Prod.ext rfl (Prod.ext h1.1.symm h1.2.symm)
    · rw [if_neg e1]
theorem pass_spec {L : List LkT} {j : Nat} (h : chB L = true) (hj1 : j + 1 < L.length) (hb : passB L (j : Int) = true) :
    tailT ((L.set (j + 1) ((L.getD (j + 1) zLk).1 ++ [(L.getD j zLk).1.getD (L.getD (j + 1) zLk).1.length []], (L.getD (j + 1) zLk).2.1, (L.getD (j + 1) zLk).2.2)).set j ((L.getD j zLk).1, ((L.getD (j + 1) zLk).1.length : Int) + 1, (L.getD j zLk).2.2)) = passL L (j : Int) := by
  unfold passL
  rw [if_pos hb, show ((j : Int)).toNat = j by omega]
  refine list_same (by rw [tail_len, List.length_set, List.length_set, keep_len]) fun i hi => ?_
  rw [tail_len, List.length_set, List.length_set] at hi
  rw [getD_tail (by rw [List.length_set, List.length_set]; omega), getD_keep hj1, List.length_set, List.length_set, getD_set (by rw [List.length_set]; omega), getD_set hj1]
  by_cases e0 : i = j
  · subst e0
    rw [if_pos rfl, if_neg (by omega), if_neg (by omega), if_pos rfl]
  · rw [if_neg (show ¬ j = i by omega)]
    by_cases e1 : i = j + 1
    · subst e1
      rw [if_pos rfl, if_pos rfl]
      by_cases e2 : j + 1 + 1 = L.length
      · rw [if_pos e2, if_pos e2, (tail_at h e2).1, List.length_append]
        simp
      · rw [if_neg e2, if_neg e2]
    · rw [if_neg (show ¬ j + 1 = i by omega), if_neg e1, if_neg (show ¬ i + 1 = j + 1 by omega)]
      by_cases e2 : i + 1 = L.length
      · rw [if_pos e2]
        have h1 := tail_at h e2
        exact Prod.ext rfl (Prod.ext h1.1.symm h1.2.symm)
      · rw [if_neg e2]
theorem back_spec {L : List LkT} {j : Nat} (hb : backB L (j : Int) = true) : L.set j ((L.getD j zLk).1, (L.getD j zLk).2.1, (L.getD (j + 1) zLk).2.2) = backL L (j : Int) := by
  have hb2 := hb
  unfold backB at hb2
  simp only [Bool.and_eq_true, show ((j : Int)).toNat = j by omega] at hb2
  unfold backL learnL
  rw [if_pos hb, show ((j : Int)).toNat = j by omega, if_pos hb2.2]
theorem join_spec {L : List LkT} (hb : joinB L = true) : tailT (L.set (L.length - 1) ((L.getD (L.length - 1) zLk).1, ((L.getD (L.length - 1) zLk).1.length : Int), (L.getD (L.length - 1) zLk).2.2) ++ [((L.getD (L.length - 1) zLk).1, 0, 0)]) = joinL L := by
  unfold joinL
  rw [if_pos hb]
  refine tail_seal ?_
  have e : ∀ (A : List LkT) (x : LkT), ((A ++ [x]).getD ((A ++ [x]).length - 1) zLk) = x := fun A x => by
    rw [List.length_append, List.length_singleton, Nat.add_sub_cancel, List.getD_eq_getElem?_getD, List.getElem?_append_right (Nat.le_refl _), Nat.sub_self]; rfl
  rw [e]
theorem fail_spec {L : List LkT} {i : Nat} (h : chB L = true) (hi : i < L.length) (hb : failB L (i : Int) = true) : tailT (sent0L (L.eraseIdx i) i) = failL L (i : Int) := by
  have hb2 := hb
  unfold failB at hb2
  simp only [Bool.and_eq_true, decide_eq_true_eq, Bool.not_eq_true', decide_eq_false_iff_not] at hb2
  unfold failL
  rw [if_pos hb, show ((i : Int)).toNat = i by omega]
  have hMl : (L.eraseIdx i).length = L.length - 1 := by rw [List.length_eraseIdx, if_pos hi]
  refine tail_seal ?_
  rw [sent0_len, hMl, getD_sent0 (by omega), getD_erase]
  by_cases e : L.length - 1 - 1 + 1 = i
  · rw [if_pos e]
  · rw [if_neg e, if_neg (by omega)]
    exact (tail_at h (by omega)).1
end Go.Proofs.Ytacmipcjhbkdcaa

namespace Go.Proofs.Ytacmipcjhbkdcaa
open Go.RowKit

/-- l15Step, all kinds, over what is known of the one that takes a link away. -/
theorem l15Step_of (base g cap n : Nat) (D : List (LkT × Value)) (kd k : Int) (s : List UInt8) (w : World) (h : LBld w base (.slice (some ⟨g, 0, none⟩) n cap) D) (hn : n = D.length) (hg : chB (lkf D) = true) (hb : base ≤ w.heap.size)
    (HF : kd = 4 → 0 ≤ k ∧ k ≤ (n : Int) - 1 → Calls Try.prog 25 #[ChV (.slice (some ⟨g, 0, none⟩) n cap), .agg #[.int .i64 kd, .int .i64 k, .string ⟨s.toArray⟩]] w fun e w' => SpAns w w' base e (failL (lkf D) k) (failB (lkf D) k)) :
    Calls Try.prog 25 #[ChV (.slice (some ⟨g, 0, none⟩) n cap), .agg #[.int .i64 kd, .int .i64 k, .string ⟨s.toArray⟩]] w fun e w' => SpAns w w' base e (stepL (lkf D) (kd, k, s)) (stepB (lkf D) (kd, k, s)) := by
  have h16 := chB_len hg
  rw [lkf_len, ← hn] at h16
  have hlen : (lkf D).length = n := by rw [lkf_len, hn]
  have hlog : ∀ j, j < n → ((lkf D).getD j zLk).1.length ≤ 40 := fun j hj => logB_len (log_of hg (by rw [hlen]; exact hj))
  have hL : stepL (lkf D) (kd, k, s) = if kd = 1 then putL (lkf D) s else if kd = 2 then passL (lkf D) k else if kd = 3 then backL (lkf D) k else if kd = 4 then failL (lkf D) k else if kd = 5 then joinL (lkf D) else lkf D := rfl
  have hB : stepB (lkf D) (kd, k, s) = if kd = 1 then putB (lkf D) s else if kd = 2 then passB (lkf D) k else if kd = 3 then backB (lkf D) k else if kd = 4 then failB (lkf D) k else if kd = 5 then joinB (lkf D) else false := rfl
  rw [hL, hB]
  clear hL hB
  by_cases h1 : kd = 1
  · rw [if_pos h1, if_pos h1]
    cases hp : putB (lkf D) s with
    | false =>
      have e : putL (lkf D) s = lkf D := by unfold putL; rw [hp]; rfl
      rw [e]
      refine l15Step_put_no base g cap n D kd k s w h hn h16 hb h1 ?_
      unfold putB at hp
      simp only [Bool.not_eq_false', Bool.or_eq_true, decide_eq_true_eq] at hp
      exact hp.symm
    | true =>
      rw [← put_spec hg hp]
      refine l15Step_put_yes base g cap n D kd k s w h hn h16 hb h1 ?_
      have h40 := hlog 0 (by omega)
      unfold putB at hp
      simp only [Bool.not_eq_true', Bool.or_eq_false_iff, decide_eq_false_iff_not] at hp
      exact ⟨hp.2, by omega⟩
  · rw [if_neg h1, if_neg h1]
    by_cases h5 : kd = 5
    · rw [if_neg (show ¬ kd = 2 by omega), if_neg (show ¬ kd = 2 by omega), if_neg (show ¬ kd = 3 by omega), if_neg (show ¬ kd = 3 by omega), if_neg (show ¬ kd = 4 by omega), if_neg (show ¬ kd = 4 by omega), if_pos h5, if_pos h5]
      cases hp : joinB (lkf D) with
      | false =>
        have e : joinL (lkf D) = lkf D := by unfold joinL; rw [hp]; rfl
        rw [e]
        refine l15Step_join_no base g cap n D kd k s w h hn h16 hb h5 ?_
        unfold joinB at hp
        simp only [Bool.not_eq_false', decide_eq_true_eq] at hp
        omega
      | true =>
        have h9 := join_spec hp
        rw [hlen] at h9
        rw [← h9]
        refine l15Step_join_yes base g cap n D kd k s w h hn h16 hb h5 ?_ (by have := hlog (n - 1) (by omega); omega)
        unfold joinB at hp
        simp only [Bool.not_eq_true', decide_eq_false_iff_not] at hp
        omega
    · cases hw : (decide (0 ≤ k) && decide (k ≤ (n : Int) - 1)) with
      | false =>
        have hno := l15Step_out base g cap n D kd k s w h hn h16 hb h1 h5 hw
        have hkk : ¬ (0 ≤ k ∧ k ≤ (n : Int) - 1) := by simpa using hw
        have b2 : passB (lkf D) k = false := by unfold passB nextB; rw [hlen]; simp; omega
        have b3 : backB (lkf D) k = false := by unfold backB nextB; rw [hlen]; simp; omega
        have b4 : failB (lkf D) k = false := by unfold failB; rw [hlen]; simp; omega
        have l2 : passL (lkf D) k = lkf D := by unfold passL; rw [b2]; rfl
        have l3 : backL (lkf D) k = lkf D := by unfold backL; rw [b3]; rfl
        have l4 : failL (lkf D) k = lkf D := by unfold failL; rw [b4]; rfl
        rw [if_neg h5, if_neg h5, b2, b3, b4, l2, l3, l4]
        simpa using hno
      | true =>
        have hkk : 0 ≤ k ∧ k ≤ (n : Int) - 1 := by simpa using hw
        obtain ⟨j, rfl⟩ : ∃ j : Nat, k = (j : Int) := ⟨k.toNat, by omega⟩
        have ej : ((j : Int)).toNat = j := by omega
        by_cases h2 : kd = 2
        · rw [if_pos h2, if_pos h2]
          by_cases hlast : (j : Int) = (n : Int) - 1
          · have b2 : passB (lkf D) (j : Int) = false := by unfold passB nextB; rw [hlen]; simp; omega
            have l2 : passL (lkf D) (j : Int) = lkf D := by unfold passL; rw [b2]; rfl
            rw [b2, l2]
            exact l15Step_pass_last base g cap n D kd (j : Int) s w h hn h16 hb hlast h2
          · cases hp : passB (lkf D) (j : Int) with
            | false =>
              have l2 : passL (lkf D) (j : Int) = lkf D := by unfold passL; rw [hp]; rfl
              rw [l2]
              refine l15Step_pass_no base g cap n D kd (j : Int) s w h hn h16 hb ⟨by omega, by omega⟩ h2 ?_
              unfold passB nextB at hp
              rw [hlen, ej] at hp
              rw [ej]
              have hx : (decide (0 ≤ (j : Int)) && decide ((j : Int) ≤ (n : Int) - 2)) = true := by simp; omega
              rw [hx, Bool.true_and, decide_eq_false_iff_not] at hp
              omega
            | true =>
              have hp2 := hp
              unfold passB nextB at hp2
              rw [ej, Bool.and_eq_true, decide_eq_true_eq] at hp2
              rw [← pass_spec hg (by rw [hlen]; omega) hp]
              have h9 := l15Step_pass_yes base g cap n D kd (j : Int) s w h hn h16 hb ⟨by omega, by omega⟩ h2 (by rw [ej]; exact hp2.2) (by rw [ej]; have := hlog j (by omega); omega)
              rw [ej] at h9
              exact h9
        · rw [if_neg h2, if_neg h2]
          by_cases h3 : kd = 3
          · rw [if_pos h3, if_pos h3]
            by_cases hlast : (j : Int) = (n : Int) - 1
            · have b2 : backB (lkf D) (j : Int) = false := by unfold backB nextB; rw [hlen]; simp; omega
              have l2 : backL (lkf D) (j : Int) = lkf D := by unfold backL; rw [b2]; rfl
              rw [b2, l2]
              exact l15Step_back_last base g cap n D kd (j : Int) s w h hn h16 hb hlast h3
            · have hx : nextB (lkf D) (j : Int) = true := by unfold nextB; rw [hlen]; simp; omega
              cases hp : backB (lkf D) (j : Int) with
              | false =>
                have l2 : backL (lkf D) (j : Int) = lkf D := by unfold backL; rw [hp]; rfl
                rw [l2]
                refine l15Step_back_no base g cap n D kd (j : Int) s w h hn h16 hb ⟨by omega, by omega⟩ h3 ?_
                unfold backB learnB at hp
                rw [hx, ej, Bool.true_and, decide_eq_false_iff_not] at hp
                rw [ej]
                omega
              | true =>
                rw [← back_spec hp]
                have hp2 := hp
                unfold backB learnB at hp2
                rw [hx, ej, Bool.true_and, decide_eq_true_eq] at hp2
                have h9 := l15Step_back_yes base g cap n D kd (j : Int) s w h hn h16 hb ⟨by omega, by omega⟩ h3 (by rw [ej]; exact hp2)
                rw [ej] at h9
                exact h9
          · rw [if_neg h3, if_neg h3]
            by_cases h4 : kd = 4
            · rw [if_pos h4, if_pos h4]
              exact HF h4 hkk
            · rw [if_neg h4, if_neg h4, if_neg h5, if_neg h5]
              exact l15Step_none base g cap n D kd (j : Int) s w h hn h16 hb h1 h2 h3 h4 h5 hw
end Go.Proofs.Ytacmipcjhbkdcaa

namespace Go.Proofs.Ytacmipcjhbkdcaa
open Go.RowKit

set_option linter.unusedSimpArgs false in
set_option maxRecDepth 20000 in
set_option maxHeartbeats 4000000 in
theorem sStepChain_of (v : Value) (L : List LkT) (kd k : Int) (s : List UInt8) (w : World) (hr : LkRow w v L)
    (HL15 : Hid (∀ W base g cap n D, n = D.length → chB (lkf D) = true → base ≤ W.heap.size → LBld W base (.slice (some ⟨g, 0, none⟩) n cap) D → Calls Try.prog 25 #[ChV (.slice (some ⟨g, 0, none⟩) n cap), .agg #[.int .i64 kd, .int .i64 k, .string ⟨s.toArray⟩]] W fun e w' => SpAns W w' base e (stepL (lkf D) (kd, k, s)) (stepB (lkf D) (kd, k, s)))) :
    Calls Try.prog 7 #[ChV v, .agg #[.int .i64 kd, .int .i64 k, .string ⟨s.toArray⟩]] w fun e w' => ChAns w' w.heap.size (schB L (kd, k, s)) (schL L (kd, k, s)) e ∧ Below w.heap.size w w' := by
  unfold ChV
  have HR : Hid (∀ W, Below w.heap.size w W → LkRow W v L) := fun W hW => hr.kept hW
  obtain ⟨a, cap, rfl, _, _, _⟩ := lkrow_value hr
  obtain ⟨W0, hW0⟩ : ∃ W0, W0 = ((w.alloc (.cells #[.slice a L.length cap] 31)).alloc (.cells #[.int .i64 kd, .int .i64 k, .string ⟨s.toArray⟩] 35)).alloc (.cells #[.slice none 0 0] 31) := ⟨_, rfl⟩
  have HW0 : Hid (((w.alloc (.cells #[.slice a L.length cap] 31)).alloc (.cells #[.int .i64 kd, .int .i64 k, .string ⟨s.toArray⟩] 35)).alloc (.cells #[.slice none 0 0] 31) = W0) := hW0.symm
  have hs1 : (w.alloc (.cells #[.slice a L.length cap] 31)).heap.size = w.heap.size + 1 := by simp
  have hs2 : ((w.alloc (.cells #[.slice a L.length cap] 31)).alloc (.cells #[.int .i64 kd, .int .i64 k, .string ⟨s.toArray⟩] 35)).heap.size = w.heap.size + 1 + 1 := by simp
  have hs3 : W0.heap.size = w.heap.size + 1 + 1 + 1 := by rw [hW0]; simp
  have hb0 : Below w.heap.size w W0 := by rw [hW0]; exact (((Below.refl _ _).alloc (Nat.le_refl _) _).alloc (by simp) _).alloc (by simp; omega) _
  have hA : W0.heap[w.heap.size]? = some (.cells #[.slice a L.length cap] 31) := by
    rw [hW0, heap_alloc_old _ _ (by omega), heap_alloc_old _ _ (by omega)]; exact heap_alloc_new _ _
  have hBb : W0.heap[w.heap.size + 1]? = some (.cells #[.int .i64 kd, .int .i64 k, .string ⟨s.toArray⟩] 35) := by
    rw [hW0, heap_alloc_old _ _ (by omega), ← hs1]; exact heap_alloc_new _ _
  have hC : W0.heap[w.heap.size + 1 + 1]? = some (.cells #[.slice none 0 0] 31) := by
    rw [hW0, ← hs2]; exact heap_alloc_new _ _
  have HCL : Hid (∀ W, Below W0.heap.size W0 W → W.cell? ⟨w.heap.size, 0, none⟩ = some (.slice a L.length cap) ∧ W.cell? ⟨w.heap.size + 1, 0, none⟩ = some (.int .i64 kd) ∧ W.cell? ⟨w.heap.size + 1, 1, none⟩ = some (.int .i64 k) ∧ W.cell? ⟨w.heap.size + 1, 2, none⟩ = some (.string ⟨s.toArray⟩)) := fun W hW => by
    have e1 := cells_at hA 0
    have e2 := cells_at hBb 0
    have e3 := cells_at hBb 1
    have e4 := cells_at hBb 2
    rw [hW.cell (p := ⟨w.heap.size, 0, none⟩) (by show w.heap.size < _; omega), hW.cell (p := ⟨w.heap.size + 1, 0, none⟩) (by show w.heap.size + 1 < _; omega), hW.cell (p := ⟨w.heap.size + 1, 1, none⟩) (by show w.heap.size + 1 < _; omega), hW.cell (p := ⟨w.heap.size + 1, 2, none⟩) (by show w.heap.size + 1 < _; omega)]
    exact ⟨e1, e2, e3, e4⟩
  have HCR : Hid (∀ W, Below W0.heap.size W0 W → W.heap[w.heap.size + 1 + 1]? = some (.cells #[.slice none 0 0] 31) ∧ W.cell? ⟨w.heap.size + 1 + 1, 0, none⟩ = some (.slice none 0 0) ∧ W.frozen? ⟨w.heap.size + 1 + 1, 0, none⟩ = false) := fun W hW => by
    have e1 : W.heap[w.heap.size + 1 + 1]? = some (.cells #[.slice none 0 0] 31) := (hW.block _ (by omega)).trans hC
    refine ⟨e1, cells_at e1 0, ?_⟩
    unfold World.frozen?; rw [e1]; simp
  have HB0 : Hid (Below w.heap.size w W0) := hb0
  have HZ0 : Hid (w.heap.size + 1 + 1 < W0.heap.size) := by show _ < W0.heap.size; omega
  have HG : Hid (∀ W, Below w.heap.size w W → Calls Try.prog 24 #[.agg #[.slice a L.length cap]] W fun e w' => e = .returned (.bool (chB L)) ∧ Below W.heap.size W w') := fun W hW => sGoodChain_any _ L W (HR.out W hW)
  obtain ⟨B, hB⟩ : ∃ B, B = schB L (kd, k, s) := ⟨_, rfl⟩
  obtain ⟨M, hM⟩ : ∃ M, M = schL L (kd, k, s) := ⟨_, rfl⟩
  rw [← hB, ← hM]
  clear hr hW0 hs1 hs2 hs3 hb0 hA hBb hC
  cases hg : chB L with
  | false =>
    have hB2 : B = false := by rw [hB]; unfold schB; rw [hg]; rfl
    have hM2 : M = [] := by rw [hM]; unfold schL; rw [← hB, hB2]; rfl
    subst hB2 hM2
    rw [hg] at HG
    clear hB hM hg
    go_enter Try.func7, Try.ntmps7
    go_wp2_with fail
    rw [HW0.out]
    obtain ⟨q0, _, _, _⟩ := HCL.out W0 (Below.refl _ _)
    go_wp2_with fail
    refine (HG.out _ HB0.out).mono ?_
    rintro e w1 ⟨rfl, hb1⟩
    obtain ⟨r1, r2, r3⟩ := HCR.out w1 hb1
    have HR1 : Hid (w1.heap[w.heap.size + 1 + 1]? = some (.cells #[.slice none 0 0] 31)) := r1
    have HB1 : Hid (Below w.heap.size w w1) := HB0.out.trans (hb1.mono HB0.out.size)
    clear q0 r1 hb1
    go_wp2_with fail
    (try simp only [Exit.inBlock, Exit.then])
    refine bodyPost_ret (results_row_tmp rfl _ _ (w.heap.size + 1 + 1) 31 #[.slice none 0 0] (0, 0) _ (.bool false) rfl rfl ?_ Try.underlying31 rfl (by kernel_rfl)) rfl ⟨ChAns.no _ _, ?_⟩
    · exact put1_heap HR1.out
    · exact HB1.out.setCell (p := ⟨w.heap.size + 1 + 1, 0, none⟩) (by show w.heap.size ≤ w.heap.size + 1 + 1; omega) _
  | true =>
    have h16 := chB_len hg
    have HLO : Hid (∀ W, Below w.heap.size w W → Calls Try.prog 26 #[.agg #[.slice a L.length cap]] W fun e w' => (∃ v' D, e = .returned (ChV v') ∧ lkf D = L ∧ LBld w' W.heap.size v' D) ∧ Below W.heap.size W w') := fun W hW => l15Own_any _ L W (HR.out W hW) (by omega) (good_big hg)
    have HST : Hid (∀ W base g cap n D, lkf D = L → n = D.length → base ≤ W.heap.size → LBld W base (.slice (some ⟨g, 0, none⟩) n cap) D → Calls Try.prog 25 #[.agg #[.slice (some ⟨g, 0, none⟩) n cap], .agg #[.int .i64 kd, .int .i64 k, .string ⟨s.toArray⟩]] W fun e w' => SpAns W w' base e (stepL L (kd, k, s)) (stepB L (kd, k, s))) := fun W base g cap n D hD hn hb hL => by
      have h1 := HL15.out W base g cap n D hn (by rw [hD]; exact hg) hb hL
      rw [hD] at h1; exact h1
    have h1L : 1 ≤ L.length := h16.1
    have HBE : Hid (B = stepB L (kd, k, s)) := by show _ = _; rw [hB]; unfold schB; rw [hg]; rfl
    have HME : Hid (M = if stepB L (kd, k, s) = true then stepL L (kd, k, s) else []) := by show _ = _; rw [hM]; unfold schL schB; rw [hg]; rfl
    obtain ⟨sb, hsb⟩ : ∃ sb, sb = stepB L (kd, k, s) := ⟨_, rfl⟩
    obtain ⟨sl, hsl2⟩ : ∃ sl, sl = stepL L (kd, k, s) := ⟨_, rfl⟩
    rw [← hsb] at HST HBE HME
    rw [← hsl2] at HST HME
    rw [hg] at HG
    clear hB hM hg hsb hsl2 h16 HL15
    go_enter Try.func7, Try.ntmps7
    go_wp2_with fail
    rw [HW0.out]
    obtain ⟨q0, _, _, _⟩ := HCL.out W0 (Below.refl _ _)
    go_wp2_with fail
    refine (HG.out _ HB0.out).mono ?_
    rintro e w1 ⟨rfl, hb1⟩
    clear q0
    go_wp2_with fail
    have hbd : Below W0.heap.size W0 w1.drew := hb1.trans (((Below.refl w1.heap.size w1).drew).mono hb1.size)
    refine wp_region_noPanic ?_
    refine wp_region_held_drew (S := fun W : World => Below W0.heap.size W0 W) (by kernel_rfl) hbd (fun hHeld => ?_)
    generalize w1.drew = wv at hbd hHeld ⊢
    clear hb1 HG
    refine wpAnyH_take (i := 0) (v := .agg #[.slice a L.length cap]) rfl (by kernel_rfl) (by kernel_rfl) (by kernel_rfl) (fun _ _ _ h => h) (Or.inl ⟨by rfl, ?_⟩) (by assumption) ?_
    · intro W hSW
      obtain ⟨z0, z1, z2, z3⟩ := HCL.out W hSW
      go_simp
      all_goals (try omega)
    simp only [Act.put, List.getElem_toArray, List.getElem_cons_succ, List.getElem_cons_zero, List.setIfInBounds_toArray, List.set_cons_succ, List.set_cons_zero]
    refine wpAnyH_take (i := 2) (v := .agg #[.int .i64 kd, .int .i64 k, .string ⟨s.toArray⟩]) rfl (by kernel_rfl) (by kernel_rfl) (by kernel_rfl) (fun _ _ _ h => h) (Or.inl ⟨by rfl, ?_⟩) (by assumption) ?_
    · intro W hSW
      obtain ⟨z0, z1, z2, z3⟩ := HCL.out W hSW
      go_simp
      all_goals (try omega)
    simp only [Act.put, List.getElem_toArray, List.getElem_cons_succ, List.getElem_cons_zero, List.setIfInBounds_toArray, List.set_cons_succ, List.set_cons_zero]
    have HBS : Hid (W0.heap.size ≤ wv.heap.size) := hbd.size
    refine wpAnyH_ready (rs := [1, 7]) (by kernel_rfl) (by simp) ?_
    refine AllReadyH.cons rfl (fun K hK => ?_) (AllReadyH.cons rfl (fun K hK => ?_) AllReadyH.nil)
    · rw [if_pos (by rfl)]
      go_simp
      refine (HLO.out wv (HB0.out.trans (hbd.mono HB0.out.size))).mono ?_
      rintro e w2 ⟨⟨v2, D, rfl, hD, hL2⟩, hb2⟩
      obtain ⟨g, cap2, hv2, _, _, _⟩ := hL2.form (by rw [← lkf_len, hD]; omega)
      subst hv2
      obtain ⟨n2, hn2⟩ : ∃ n2, n2 = D.length := ⟨_, rfl⟩
      rw [← hn2] at hL2
      unfold ChV
      rw [← hn2]
      have HN2 : Hid (n2 = D.length) := hn2
      have HL2 : Hid (LBld w2 wv.heap.size (.slice (some ⟨g, 0, none⟩) n2 cap2) D) := hL2
      have HD : Hid (lkf D = L) := hD
      have HZ2 : Hid (wv.heap.size ≤ w2.heap.size) := hb2.size
      have hS2 : Below W0.heap.size W0 w2 := hbd.trans (hb2.mono hbd.size)
      clear hL2 hD hb2 hn2
      go_simp
      refine hK.out _ _ hS2 (fun hSS => ?_)
      clear hK hSS
      refine wpAnyH_ready (rs := [3, 7]) (by kernel_rfl) (by simp) ?_
      refine AllReadyH.cons rfl (fun K hK => ?_) (AllReadyH.cons rfl (fun K hK => ?_) AllReadyH.nil)
      · rw [if_pos (by rfl)]
        go_simp
        refine (HST.out w2 wv.heap.size g cap2 n2 D HD.out HN2.out HZ2.out HL2.out).mono ?_
        rintro e w3 ⟨g3, cap3, n3, D3, rfl, hL3, hD3, hb3, ho3⟩
        have HO3 : Hid (Oth w2 w3) := ho3
        have hS3 : Below W0.heap.size W0 w3 := hS2.trans (hb3.mono HBS.out)
        have HL3 : Hid (LBld w3 wv.heap.size (.slice (some ⟨g3, 0, none⟩) n3 cap3) D3) := hL3
        have HD3 : Hid (lkf D3 = sl) := hD3
        clear hL3 hD3 hb3 ho3
        unfold ChV
        go_simp
        refine hK.out _ _ hS3 (fun hSS3 => ?_)
        clear hK hSS3
        refine wpAnyH_take (i := 4) (v := .tuple #[.agg #[.slice (some ⟨g3, 0, none⟩) n3 cap3], .bool sb]) rfl (by kernel_rfl) (by kernel_rfl) (by kernel_rfl) (fun _ _ _ h => h) (Or.inl ⟨by rfl, ?_⟩) (hS3) ?_
        · intro W hSW
          go_simp
          all_goals (try omega)
        simp only [Act.put, List.getElem_toArray, List.getElem_cons_succ, List.getElem_cons_zero, List.setIfInBounds_toArray, List.set_cons_succ, List.set_cons_zero]
        refine wpAnyH_take (i := 5) (v := .agg #[.slice (some ⟨g3, 0, none⟩) n3 cap3]) rfl (by kernel_rfl) (by kernel_rfl) (by kernel_rfl) (fun _ _ _ h => h) (Or.inl ⟨by rfl, ?_⟩) (hS3) ?_
        · intro W hSW
          go_simp
          all_goals (try omega)
        simp only [Act.put, List.getElem_toArray, List.getElem_cons_succ, List.getElem_cons_zero, List.setIfInBounds_toArray, List.set_cons_succ, List.set_cons_zero]
        refine wpAnyH_take (i := 6) (v := .bool sb) rfl (by kernel_rfl) (by kernel_rfl) (by kernel_rfl) (fun _ _ _ h => h) (Or.inl ⟨by rfl, ?_⟩) (hS3) ?_
        · intro W hSW
          go_simp
          all_goals (try omega)
        simp only [Act.put, List.getElem_toArray, List.getElem_cons_succ, List.getElem_cons_zero, List.setIfInBounds_toArray, List.set_cons_succ, List.set_cons_zero]
        refine wpAnyH_ready (rs := [7]) (by kernel_rfl) (by simp) ?_
        refine AllReadyH.cons rfl (fun K hK => ?_) AllReadyH.nil
        rw [if_pos (by rfl)]
        obtain ⟨wn, hwn⟩ : ∃ x, x = w3.alloc (.cells #[.slice none 0 0] 31) := ⟨_, rfl⟩
        have HWN : Hid (w3.alloc (.cells #[.slice none 0 0] 31) = wn) := hwn.symm
        have hbn : Below w3.heap.size w3 wn := by rw [hwn]; exact (Below.refl _ _).alloc (Nat.le_refl _) _
        have HN7 : Hid (wn.heap[w3.heap.size]? = some (.cells #[.slice none 0 0] 31)) := by show _ = _; rw [hwn]; exact heap_alloc_new _ _
        have HBN : Hid (Below w3.heap.size w3 wn) := hbn
        have hSn : Below W0.heap.size W0 wn := hS3.trans (hbn.mono hS3.size)
        have HBW : Hid (W0.heap.size ≤ w3.heap.size) := hS3.size
        go_simp
        rw [HWN.out]
        clear hwn hbn
        refine hK.out _ _ hSn (fun hSSn => ?_)
        clear hK hSSn HWN
        have HB7 : Hid (wn.heap[w3.heap.size]? = some (.cells #[.slice none 0 0] 31)) := HN7.out
        have HLs : Hid (LBld wn wv.heap.size (.slice (some ⟨g3, 0, none⟩) n3 cap3) D3) := HL3.out.kept HBN.out
        have hSs := hSn
        have HBB : Hid (W0.heap.size ≤ wv.heap.size) := HBS.out
        have r0 := cells_at HB7.out 0
        simp only [List.getElem?_toArray, List.getElem?_cons_zero] at r0
        have rf : wn.frozen? ⟨w3.heap.size, 0, none⟩ = false := by unfold World.frozen?; rw [HB7.out]; simp
        obtain ⟨W9, hW9⟩ : ∃ W9, W9 = wn.setCell ⟨w3.heap.size, 0, none⟩ (.slice (some ⟨g3, 0, none⟩) n3 cap3) := ⟨_, rfl⟩
        have HW9 : Hid (wn.setCell ⟨w3.heap.size, 0, none⟩ (.slice (some ⟨g3, 0, none⟩) n3 cap3) = W9) := hW9.symm
        have hB9 : W9.heap[w3.heap.size]? = some (.cells #[.slice (some ⟨g3, 0, none⟩) n3 cap3] 31) := by rw [hW9]; exact put1_heap HB7.out
        have HL9 : Hid (LBld W9 wv.heap.size (.slice (some ⟨g3, 0, none⟩) n3 cap3) D3) := by show LBld _ _ _ _; rw [hW9]; exact lbld_far2 HLs.out (lbld_type HLs.out HB7.out (by decide) (by decide)) _
        have hS9 : Below W0.heap.size W0 W9 := by rw [hW9]; exact hSs.setCell (p := ⟨w3.heap.size, 0, none⟩) HBW.out _
        have HS9 : Hid (Below W0.heap.size W0 W9) := hS9
        have x9 := cells_at hB9 0
        simp only [List.getElem?_toArray, List.getElem?_cons_zero] at x9
        clear hW9 hB9 hS9
        refine wpAnyH_ready (rs := [8]) (by kernel_rfl) (by simp) ?_
        refine AllReadyH.cons rfl (fun K hK => ?_) AllReadyH.nil
        rw [if_pos (by rfl)]
        go_simp
        rw [HW9.out]
        refine hK.out _ _ HS9.out (fun hSS9 => ?_)
        clear hK r0 rf HW9
        refine wpAnyH_take (i := 9) (v := .bool sb) rfl (by kernel_rfl) (by kernel_rfl) (by kernel_rfl) (fun _ _ _ h => h) (Or.inl ⟨by rfl, ?_⟩) (by assumption) ?_
        · intro W hSW
          go_simp
          all_goals (try omega)
        simp only [Act.put, List.getElem_toArray, List.getElem_cons_succ, List.getElem_cons_zero, List.setIfInBounds_toArray, List.set_cons_succ, List.set_cons_zero]
        refine wpAnyH_done (by kernel_rfl) ?_ _
        refine NoPanic.normal ?_
        clear hHeld
        obtain ⟨r1, r2, r3⟩ := HCR.out W9 HS9.out
        have HR3 : Hid (W9.heap[w.heap.size + 1 + 1]? = some (.cells #[.slice none 0 0] 31)) := r1
        have HB3 : Hid (Below w.heap.size w W9) := HB0.out.trans (HS9.out.mono HB0.out.size)
        clear r1 hSS9
        cases sb with
        | false =>
          have hM2 : M = [] := by rw [HME.out]; rfl
          have hB2 : B = false := HBE.out
          subst hM2 hB2
          clear HME HBE
          go_wp2_with fail
          (try simp only [Exit.inBlock, Exit.then])
          refine bodyPost_ret (results_row_tmp rfl _ _ (w.heap.size + 1 + 1) 31 #[.slice none 0 0] (0, 0) _ (.bool false) rfl rfl ?_ Try.underlying31 rfl (by kernel_rfl)) rfl ⟨ChAns.no _ _, ?_⟩
          · exact put1_heap HR3.out
          · exact HB3.out.setCell (p := ⟨w.heap.size + 1 + 1, 0, none⟩) (by show w.heap.size ≤ w.heap.size + 1 + 1; omega) _
        | true =>
          have hM2 : M = sl := by rw [HME.out]; rfl
          have hB2 : B = true := HBE.out
          subst hM2 hB2
          clear HME HBE
          go_wp2_with fail
          (try simp only [Exit.inBlock, Exit.then])
          refine bodyPost_ret (results_row_tmp rfl _ _ (w.heap.size + 1 + 1) 31 #[.slice (some ⟨g3, 0, none⟩) n3 cap3] (0, 0) _ (.bool true) rfl rfl ?_ Try.underlying31 rfl (by kernel_rfl)) rfl ⟨⟨_, D3, rfl, HD3.out, (HL9.out.far (g := w.heap.size + 1 + 1) (Nat.lt_of_lt_of_le HZ0.out HBB.out) _).mono (by have := HZ0.out; have := HBB.out; omega)⟩, ?_⟩
          · exact put1_heap HR3.out
          · exact HB3.out.setCell (p := ⟨w.heap.size + 1 + 1, 0, none⟩) (by show w.heap.size ≤ w.heap.size + 1 + 1; omega) _
      · rw [if_pos (by rfl)]
        obtain ⟨wn, hwn⟩ : ∃ x, x = w2.alloc (.cells #[.slice none 0 0] 31) := ⟨_, rfl⟩
        have HWN : Hid (w2.alloc (.cells #[.slice none 0 0] 31) = wn) := hwn.symm
        have hbn : Below w2.heap.size w2 wn := by rw [hwn]; exact (Below.refl _ _).alloc (Nat.le_refl _) _
        have HN7 : Hid (wn.heap[w2.heap.size]? = some (.cells #[.slice none 0 0] 31)) := by show _ = _; rw [hwn]; exact heap_alloc_new _ _
        have HBN : Hid (Below w2.heap.size w2 wn) := hbn
        have hSn : Below W0.heap.size W0 wn := hS2.trans (hbn.mono hS2.size)
        have HBW : Hid (W0.heap.size ≤ w2.heap.size) := hS2.size
        go_simp
        rw [HWN.out]
        clear hwn hbn
        refine hK.out _ _ hSn (fun hSSn => ?_)
        clear hK hSSn HWN
        refine wpAnyH_ready (rs := [3]) (by kernel_rfl) (by simp) ?_
        refine AllReadyH.cons rfl (fun K hK => ?_) AllReadyH.nil
        rw [if_pos (by rfl)]
        go_simp
        refine (HST.out wn wv.heap.size g cap2 n2 D HD.out HN2.out (Nat.le_trans HZ2.out HBN.out.size) (HL2.out.kept HBN.out)).mono ?_
        rintro e w3 ⟨g3, cap3, n3, D3, rfl, hL3, hD3, hb3, ho3⟩
        have HO3 : Hid (Oth wn w3) := ho3
        have hS3 : Below W0.heap.size W0 w3 := hSn.trans (hb3.mono HBS.out)
        have HL3 : Hid (LBld w3 wv.heap.size (.slice (some ⟨g3, 0, none⟩) n3 cap3) D3) := hL3
        have HD3 : Hid (lkf D3 = sl) := hD3
        clear hL3 hD3 hb3 ho3
        unfold ChV
        go_simp
        refine hK.out _ _ hS3 (fun hSS3 => ?_)
        clear hK hSS3
        refine wpAnyH_take (i := 4) (v := .tuple #[.agg #[.slice (some ⟨g3, 0, none⟩) n3 cap3], .bool sb]) rfl (by kernel_rfl) (by kernel_rfl) (by kernel_rfl) (fun _ _ _ h => h) (Or.inl ⟨by rfl, ?_⟩) (hS3) ?_
        · intro W hSW
          go_simp
          all_goals (try omega)
        simp only [Act.put, List.getElem_toArray, List.getElem_cons_succ, List.getElem_cons_zero, List.setIfInBounds_toArray, List.set_cons_succ, List.set_cons_zero]
        refine wpAnyH_take (i := 5) (v := .agg #[.slice (some ⟨g3, 0, none⟩) n3 cap3]) rfl (by kernel_rfl) (by kernel_rfl) (by kernel_rfl) (fun _ _ _ h => h) (Or.inl ⟨by rfl, ?_⟩) (hS3) ?_
        · intro W hSW
          go_simp
          all_goals (try omega)
        simp only [Act.put, List.getElem_toArray, List.getElem_cons_succ, List.getElem_cons_zero, List.setIfInBounds_toArray, List.set_cons_succ, List.set_cons_zero]
        refine wpAnyH_take (i := 6) (v := .bool sb) rfl (by kernel_rfl) (by kernel_rfl) (by kernel_rfl) (fun _ _ _ h => h) (Or.inl ⟨by rfl, ?_⟩) (hS3) ?_
        · intro W hSW
          go_simp
          all_goals (try omega)
        simp only [Act.put, List.getElem_toArray, List.getElem_cons_succ, List.getElem_cons_zero, List.setIfInBounds_toArray, List.set_cons_succ, List.set_cons_zero]
        have HB7 : Hid (w3.heap[w2.heap.size]? = some (.cells #[.slice none 0 0] 31)) := (HO3.out _ _ _ HN7.out (by decide) (by decide)).trans HN7.out
        have HLs : Hid (LBld w3 wv.heap.size (.slice (some ⟨g3, 0, none⟩) n3 cap3) D3) := HL3.out
        have hSs := hS3
        have HBB : Hid (W0.heap.size ≤ wv.heap.size) := HBS.out
        have r0 := cells_at HB7.out 0
        simp only [List.getElem?_toArray, List.getElem?_cons_zero] at r0
        have rf : w3.frozen? ⟨w2.heap.size, 0, none⟩ = false := by unfold World.frozen?; rw [HB7.out]; simp
        obtain ⟨W9, hW9⟩ : ∃ W9, W9 = w3.setCell ⟨w2.heap.size, 0, none⟩ (.slice (some ⟨g3, 0, none⟩) n3 cap3) := ⟨_, rfl⟩
        have HW9 : Hid (w3.setCell ⟨w2.heap.size, 0, none⟩ (.slice (some ⟨g3, 0, none⟩) n3 cap3) = W9) := hW9.symm
        have hB9 : W9.heap[w2.heap.size]? = some (.cells #[.slice (some ⟨g3, 0, none⟩) n3 cap3] 31) := by rw [hW9]; exact put1_heap HB7.out
        have HL9 : Hid (LBld W9 wv.heap.size (.slice (some ⟨g3, 0, none⟩) n3 cap3) D3) := by show LBld _ _ _ _; rw [hW9]; exact lbld_far2 HLs.out (lbld_type HLs.out HB7.out (by decide) (by decide)) _
        have hS9 : Below W0.heap.size W0 W9 := by rw [hW9]; exact hSs.setCell (p := ⟨w2.heap.size, 0, none⟩) HBW.out _
        have HS9 : Hid (Below W0.heap.size W0 W9) := hS9
        have x9 := cells_at hB9 0
        simp only [List.getElem?_toArray, List.getElem?_cons_zero] at x9
        clear hW9 hB9 hS9
        refine wpAnyH_ready (rs := [8]) (by kernel_rfl) (by simp) ?_
        refine AllReadyH.cons rfl (fun K hK => ?_) AllReadyH.nil
        rw [if_pos (by rfl)]
        go_simp
        rw [HW9.out]
        refine hK.out _ _ HS9.out (fun hSS9 => ?_)
        clear hK r0 rf HW9
        refine wpAnyH_take (i := 9) (v := .bool sb) rfl (by kernel_rfl) (by kernel_rfl) (by kernel_rfl) (fun _ _ _ h => h) (Or.inl ⟨by rfl, ?_⟩) (by assumption) ?_
        · intro W hSW
          go_simp
          all_goals (try omega)
        simp only [Act.put, List.getElem_toArray, List.getElem_cons_succ, List.getElem_cons_zero, List.setIfInBounds_toArray, List.set_cons_succ, List.set_cons_zero]
        refine wpAnyH_done (by kernel_rfl) ?_ _
        refine NoPanic.normal ?_
        clear hHeld
        obtain ⟨r1, r2, r3⟩ := HCR.out W9 HS9.out
        have HR3 : Hid (W9.heap[w.heap.size + 1 + 1]? = some (.cells #[.slice none 0 0] 31)) := r1
        have HB3 : Hid (Below w.heap.size w W9) := HB0.out.trans (HS9.out.mono HB0.out.size)
        clear r1 hSS9
        cases sb with
        | false =>
          have hM2 : M = [] := by rw [HME.out]; rfl
          have hB2 : B = false := HBE.out
          subst hM2 hB2
          clear HME HBE
          go_wp2_with fail
          (try simp only [Exit.inBlock, Exit.then])
          refine bodyPost_ret (results_row_tmp rfl _ _ (w.heap.size + 1 + 1) 31 #[.slice none 0 0] (0, 0) _ (.bool false) rfl rfl ?_ Try.underlying31 rfl (by kernel_rfl)) rfl ⟨ChAns.no _ _, ?_⟩
          · exact put1_heap HR3.out
          · exact HB3.out.setCell (p := ⟨w.heap.size + 1 + 1, 0, none⟩) (by show w.heap.size ≤ w.heap.size + 1 + 1; omega) _
        | true =>
          have hM2 : M = sl := by rw [HME.out]; rfl
          have hB2 : B = true := HBE.out
          subst hM2 hB2
          clear HME HBE
          go_wp2_with fail
          (try simp only [Exit.inBlock, Exit.then])
          refine bodyPost_ret (results_row_tmp rfl _ _ (w.heap.size + 1 + 1) 31 #[.slice (some ⟨g3, 0, none⟩) n3 cap3] (0, 0) _ (.bool true) rfl rfl ?_ Try.underlying31 rfl (by kernel_rfl)) rfl ⟨⟨_, D3, rfl, HD3.out, (HL9.out.far (g := w.heap.size + 1 + 1) (Nat.lt_of_lt_of_le HZ0.out HBB.out) _).mono (by have := HZ0.out; have := HBB.out; omega)⟩, ?_⟩
          · exact put1_heap HR3.out
          · exact HB3.out.setCell (p := ⟨w.heap.size + 1 + 1, 0, none⟩) (by show w.heap.size ≤ w.heap.size + 1 + 1; omega) _
    · rw [if_pos (by rfl)]
      obtain ⟨wn, hwn⟩ : ∃ x, x = wv.alloc (.cells #[.slice none 0 0] 31) := ⟨_, rfl⟩
      have HWN : Hid (wv.alloc (.cells #[.slice none 0 0] 31) = wn) := hwn.symm
      have hbn : Below wv.heap.size wv wn := by rw [hwn]; exact (Below.refl _ _).alloc (Nat.le_refl _) _
      have HN7 : Hid (wn.heap[wv.heap.size]? = some (.cells #[.slice none 0 0] 31)) := by show _ = _; rw [hwn]; exact heap_alloc_new _ _
      have HBN : Hid (Below wv.heap.size wv wn) := hbn
      have hSn : Below W0.heap.size W0 wn := hbd.trans (hbn.mono hbd.size)
      have HBW : Hid (W0.heap.size ≤ wv.heap.size) := hbd.size
      go_simp
      rw [HWN.out]
      clear hwn hbn
      refine hK.out _ _ hSn (fun hSSn => ?_)
      clear hK hSSn HWN
      refine wpAnyH_ready (rs := [1]) (by kernel_rfl) (by simp) ?_
      refine AllReadyH.cons rfl (fun K hK => ?_) AllReadyH.nil
      rw [if_pos (by rfl)]
      go_simp
      refine (HLO.out wn (HB0.out.trans (hSn.mono HB0.out.size))).mono ?_
      rintro e w2 ⟨⟨v2, D, rfl, hD, hL2⟩, hb2⟩
      obtain ⟨g, cap2, hv2, _, _, _⟩ := hL2.form (by rw [← lkf_len, hD]; omega)
      subst hv2
      obtain ⟨n2, hn2⟩ : ∃ n2, n2 = D.length := ⟨_, rfl⟩
      rw [← hn2] at hL2
      unfold ChV
      rw [← hn2]
      have HN2 : Hid (n2 = D.length) := hn2
      have HL2 : Hid (LBld w2 wn.heap.size (.slice (some ⟨g, 0, none⟩) n2 cap2) D) := hL2
      have HD : Hid (lkf D = L) := hD
      have HZ2 : Hid (wn.heap.size ≤ w2.heap.size) := hb2.size
      have hS2 : Below W0.heap.size W0 w2 := hSn.trans (hb2.mono hSn.size)
      have HM7 : Hid (w2.heap[wv.heap.size]? = some (.cells #[.slice none 0 0] 31)) := (hb2.block _ (oth_ltC HN7.out)).trans HN7.out
      have HBS2 : Hid (W0.heap.size ≤ wn.heap.size) := hSn.size
      clear hL2 hD hb2 hn2
      go_simp
      refine hK.out _ _ hS2 (fun hSS => ?_)
      clear hK hSS
      refine wpAnyH_ready (rs := [3]) (by kernel_rfl) (by simp) ?_
      refine AllReadyH.cons rfl (fun K hK => ?_) AllReadyH.nil
      rw [if_pos (by rfl)]
      go_simp
      refine (HST.out w2 wn.heap.size g cap2 n2 D HD.out HN2.out HZ2.out HL2.out).mono ?_
      rintro e w3 ⟨g3, cap3, n3, D3, rfl, hL3, hD3, hb3, ho3⟩
      have HO3 : Hid (Oth w2 w3) := ho3
      have hS3 : Below W0.heap.size W0 w3 := hS2.trans (hb3.mono HBS2.out)
      have HL3 : Hid (LBld w3 wn.heap.size (.slice (some ⟨g3, 0, none⟩) n3 cap3) D3) := hL3
      have HD3 : Hid (lkf D3 = sl) := hD3
      clear hL3 hD3 hb3 ho3
      unfold ChV
      go_simp
      refine hK.out _ _ hS3 (fun hSS3 => ?_)
      clear hK hSS3
      refine wpAnyH_take (i := 4) (v := .tuple #[.agg #[.slice (some ⟨g3, 0, none⟩) n3 cap3], .bool sb]) rfl (by kernel_rfl) (by kernel_rfl) (by kernel_rfl) (fun _ _ _ h => h) (Or.inl ⟨by rfl, ?_⟩) (hS3) ?_
      · intro W hSW
        go_simp
        all_goals (try omega)
      simp only [Act.put, List.getElem_toArray, List.getElem_cons_succ, List.getElem_cons_zero, List.setIfInBounds_toArray, List.set_cons_succ, List.set_cons_zero]
      refine wpAnyH_take (i := 5) (v := .agg #[.slice (some ⟨g3, 0, none⟩) n3 cap3]) rfl (by kernel_rfl) (by kernel_rfl) (by kernel_rfl) (fun _ _ _ h => h) (Or.inl ⟨by rfl, ?_⟩) (hS3) ?_
      · intro W hSW
        go_simp
        all_goals (try omega)
      simp only [Act.put, List.getElem_toArray, List.getElem_cons_succ, List.getElem_cons_zero, List.setIfInBounds_toArray, List.set_cons_succ, List.set_cons_zero]
      refine wpAnyH_take (i := 6) (v := .bool sb) rfl (by kernel_rfl) (by kernel_rfl) (by kernel_rfl) (fun _ _ _ h => h) (Or.inl ⟨by rfl, ?_⟩) (hS3) ?_
      · intro W hSW
        go_simp
        all_goals (try omega)
      simp only [Act.put, List.getElem_toArray, List.getElem_cons_succ, List.getElem_cons_zero, List.setIfInBounds_toArray, List.set_cons_succ, List.set_cons_zero]
      have HB7 : Hid (w3.heap[wv.heap.size]? = some (.cells #[.slice none 0 0] 31)) := (HO3.out _ _ _ HM7.out (by decide) (by decide)).trans HM7.out
      have HLs : Hid (LBld w3 wn.heap.size (.slice (some ⟨g3, 0, none⟩) n3 cap3) D3) := HL3.out
      have hSs := hS3
      have HBB : Hid (W0.heap.size ≤ wn.heap.size) := HBS2.out
      have r0 := cells_at HB7.out 0
      simp only [List.getElem?_toArray, List.getElem?_cons_zero] at r0
      have rf : w3.frozen? ⟨wv.heap.size, 0, none⟩ = false := by unfold World.frozen?; rw [HB7.out]; simp
      obtain ⟨W9, hW9⟩ : ∃ W9, W9 = w3.setCell ⟨wv.heap.size, 0, none⟩ (.slice (some ⟨g3, 0, none⟩) n3 cap3) := ⟨_, rfl⟩
      have HW9 : Hid (w3.setCell ⟨wv.heap.size, 0, none⟩ (.slice (some ⟨g3, 0, none⟩) n3 cap3) = W9) := hW9.symm
      have hB9 : W9.heap[wv.heap.size]? = some (.cells #[.slice (some ⟨g3, 0, none⟩) n3 cap3] 31) := by rw [hW9]; exact put1_heap HB7.out
      have HL9 : Hid (LBld W9 wn.heap.size (.slice (some ⟨g3, 0, none⟩) n3 cap3) D3) := by show LBld _ _ _ _; rw [hW9]; exact lbld_far2 HLs.out (lbld_type HLs.out HB7.out (by decide) (by decide)) _
      have hS9 : Below W0.heap.size W0 W9 := by rw [hW9]; exact hSs.setCell (p := ⟨wv.heap.size, 0, none⟩) HBW.out _
      have HS9 : Hid (Below W0.heap.size W0 W9) := hS9
      have x9 := cells_at hB9 0
      simp only [List.getElem?_toArray, List.getElem?_cons_zero] at x9
      clear hW9 hB9 hS9
      refine wpAnyH_ready (rs := [8]) (by kernel_rfl) (by simp) ?_
      refine AllReadyH.cons rfl (fun K hK => ?_) AllReadyH.nil
      rw [if_pos (by rfl)]
      go_simp
      rw [HW9.out]
      refine hK.out _ _ HS9.out (fun hSS9 => ?_)
      clear hK r0 rf HW9
      refine wpAnyH_take (i := 9) (v := .bool sb) rfl (by kernel_rfl) (by kernel_rfl) (by kernel_rfl) (fun _ _ _ h => h) (Or.inl ⟨by rfl, ?_⟩) (by assumption) ?_
      · intro W hSW
        go_simp
        all_goals (try omega)
      simp only [Act.put, List.getElem_toArray, List.getElem_cons_succ, List.getElem_cons_zero, List.setIfInBounds_toArray, List.set_cons_succ, List.set_cons_zero]
      refine wpAnyH_done (by kernel_rfl) ?_ _
      refine NoPanic.normal ?_
      clear hHeld
      obtain ⟨r1, r2, r3⟩ := HCR.out W9 HS9.out
      have HR3 : Hid (W9.heap[w.heap.size + 1 + 1]? = some (.cells #[.slice none 0 0] 31)) := r1
      have HB3 : Hid (Below w.heap.size w W9) := HB0.out.trans (HS9.out.mono HB0.out.size)
      clear r1 hSS9
      cases sb with
      | false =>
        have hM2 : M = [] := by rw [HME.out]; rfl
        have hB2 : B = false := HBE.out
        subst hM2 hB2
        clear HME HBE
        go_wp2_with fail
        (try simp only [Exit.inBlock, Exit.then])
        refine bodyPost_ret (results_row_tmp rfl _ _ (w.heap.size + 1 + 1) 31 #[.slice none 0 0] (0, 0) _ (.bool false) rfl rfl ?_ Try.underlying31 rfl (by kernel_rfl)) rfl ⟨ChAns.no _ _, ?_⟩
        · exact put1_heap HR3.out
        · exact HB3.out.setCell (p := ⟨w.heap.size + 1 + 1, 0, none⟩) (by show w.heap.size ≤ w.heap.size + 1 + 1; omega) _
      | true =>
        have hM2 : M = sl := by rw [HME.out]; rfl
        have hB2 : B = true := HBE.out
        subst hM2 hB2
        clear HME HBE
        go_wp2_with fail
        (try simp only [Exit.inBlock, Exit.then])
        refine bodyPost_ret (results_row_tmp rfl _ _ (w.heap.size + 1 + 1) 31 #[.slice (some ⟨g3, 0, none⟩) n3 cap3] (0, 0) _ (.bool true) rfl rfl ?_ Try.underlying31 rfl (by kernel_rfl)) rfl ⟨⟨_, D3, rfl, HD3.out, (HL9.out.far (g := w.heap.size + 1 + 1) (Nat.lt_of_lt_of_le HZ0.out HBB.out) _).mono (by have := HZ0.out; have := HBB.out; omega)⟩, ?_⟩
        · exact put1_heap HR3.out
        · exact HB3.out.setCell (p := ⟨w.heap.size + 1 + 1, 0, none⟩) (by show w.heap.size ≤ w.heap.size + 1 + 1; omega) _
end Go.Proofs.Ytacmipcjhbkdcaa

namespace Go.Proofs.Ytacmipcjhbkdcaa
open Go.RowKit

theorem step_append_linkA {w : World} {ops : Array Oper} {o : Oper} {a : Act} {Q : Exit → Act → World → Prop} {K : Act → World → Prop} {E : Prop} (hgd : o.guard = none) (s x : Operand)
    (ho : o.op = .call { callee := .builtin .append, args := #[s, x], argTypes := #[29, 29] })
    (base : Nat) (v : Value) (n : Nat) (xs : List Value) (hs : a.eval s = v) (hown : w.ownsRow base 71 3 v n xs) (ad : Addr) (m c : Nat) (hx : a.eval x = .slice (some ad) m c) (news : List Value) (hl : news.length = m * 3)
    (hnews : ∀ j u, news[j]? = some u → w.cell? (ad.add j) = some u) (h1 : ∀ u ∈ news, u.oneCell' = true) (hn : n + m ≤ 1000000) (hbase : base ≤ w.heap.size)
    (h : ∀ v' w', w'.ownsRow base 71 3 v' (n + m) (xs ++ news) → w.grownBy w' v.ownBlock → (∀ k, v'.ownBlock = some k → v.ownBlock = some k ∨ w.heap.size ≤ k) → K (a.put o.dst v') w') :
    if Region.wanted o (yielded ops a.tmps) = true then Oper.wp Try.prog o a w K Q else E := by
  have hw : Region.wanted o (yielded ops a.tmps) = true := by simp [Region.wanted, hgd]
  rw [if_pos hw]
  obtain ⟨i0, hi, hz0, hz1, hz2⟩ := info_parts info_link
  obtain ⟨v', w', hr2, h2, h3, h4⟩ := Go.Proofs.Ytacmipcjhbkdcaa.run_append_own_at (P := Try.prog) w base 29 o.type 71 i0 (.agg #[.slice none 0 0, .int .i64 0, .int .i64 0]) 3 40 Try.underlying29 hi hz0 hz1 hz2 rfl (by decide) v n xs hown ad m c news hl hnews h1 (by unfold maxLen; omega) (by omega) hbase
  unfold Oper.wp execOp
  simp only [ho, resolve, invoke, builtin, Sem.run_bind, Sem.run_pure, Result.andThen_ok, List.map_toArray, List.map_cons, List.map_nil, hs, hx, hr2]
  exact h v' w' h2 h3 h4
/-- What lies in memory behind the region that takes a link away. -/
def StF (w W : World) (base : Nat) (kd k : Int) (s : List UInt8) (L : List LkT) (n6 : Nat) : Prop :=
  ∃ g6 cap6 D6, StB w W (.slice (some ⟨g6, 0, none⟩) n6 cap6) kd k s ∧ LBld W base (.slice (some ⟨g6, 0, none⟩) n6 cap6) D6 ∧ lkf D6 = L ∧ n6 = D6.length ∧ Below base w W ∧ Oth w W ∧ (g6 < w.heap.size ∨ w.heap.size + 3 ≤ g6) ∧ OffL w D6
set_option linter.unusedSimpArgs false in
set_option maxRecDepth 20000 in
set_option maxHeartbeats 4000000 in
theorem l15Step_fail_no (base g cap n : Nat) (D : List (LkT × Value)) (kd k : Int) (s : List UInt8) (w : World) (h : LBld w base (.slice (some ⟨g, 0, none⟩) n cap) D) (hn : n = D.length) (h16 : 1 ≤ n ∧ n ≤ 6) (hb : base ≤ w.heap.size) (h4 : kd = 4) (hk : 0 ≤ k ∧ k ≤ (n : Int) - 1) (h2 : n < 2) :
    Calls Try.prog 25 #[ChV (.slice (some ⟨g, 0, none⟩) n cap), .agg #[.int .i64 kd, .int .i64 k, .string ⟨s.toArray⟩]] w fun e w' => SpAns w w' base e (lkf D) false := by
  unfold ChV
  obtain ⟨t, ht⟩ : ∃ t, n = t + 1 := ⟨n - 1, by omega⟩
  obtain ⟨W0, hW0⟩ : ∃ W0, W0 = w3 w (.slice (some ⟨g, 0, none⟩) n cap) kd k s := ⟨_, rfl⟩
  have HW0 : Hid (((w.alloc (.cells #[.slice (some ⟨g, 0, none⟩) n cap] 31)).alloc (.cells #[.int .i64 kd, .int .i64 k, .string ⟨s.toArray⟩] 35)).alloc (.cells #[.slice none 0 0] 31) = W0) := by show _ = _; rw [hW0]; rfl
  have HST : Hid (StL w W0 base g cap n kd k s D) := by show StL _ _ _ _ _ _ _ _ _ _; rw [hW0]; exact st_new kd k s h hb
  have HZ : Hid (W0.heap.size = w.heap.size + 3) := by show _ = _; rw [hW0]; exact w3_size _ _ _ _ _
  obtain ⟨c0, ⟨c1, c2, c3⟩, c4, f4⟩ := HST.out.2.2.2.2.1.cells
  have hnt : (n : Int) - 1 = (t : Int) := by omega
  have wt : IntKind.i64.wrap ((n : Int) - 1) = (t : Int) := by rw [i64_wrapC (by omega) (by omega)]; omega
  have HWI : Hid (∀ W, Calls Try.prog 40 #[.int .i64 k, .int .i64 0, .int .i64 (t : Int)] W fun e w' => e = .returned (.bool (decide (0 ≤ k) && decide (k ≤ (t : Int)))) ∧ w' = W) := fun W => l1In_any _ _ _ W
  subst h4
  have HBS : Hid (base ≤ w.heap.size) := hb
  have hx6 := h16
  clear hx6
  rw [show (decide (0 ≤ k) && decide (k ≤ (t : Int))) = true by simp; omega] at HWI
  have e2 : decide ((n : Int) < 2) = true := by simp; omega
  have e3 : (n : Int) < 2 := by omega
  clear h hn hW0 ht hk h2
  go_enter Try.func25, Try.ntmps25
  go_wp2_with (rw [HW0.out])
  refine (HWI.out _).mono ?_
  rintro e w1 ⟨rfl, rfl⟩
  go_wp2_with fail
  (try simp only [Exit.inBlock, Exit.then])
  refine bodyPost_ret (results_row_tmp rfl _ _ (w.heap.size + 1 + 1) 31 #[.slice (some ⟨g, 0, none⟩) n cap] (0, 0) _ (.bool false) rfl rfl ?_ Try.underlying31 rfl (by kernel_rfl)) rfl ⟨g, cap, _, D, rfl, (HST.out.fin HBS.out _).1, rfl, (HST.out.fin HBS.out _).2⟩
  exact put1_heap HST.out.2.2.2.2.1.2.2
end Go.Proofs.Ytacmipcjhbkdcaa

namespace Go.Proofs.Ytacmipcjhbkdcaa
open Go.RowKit

set_option linter.unusedSimpArgs false in
set_option maxRecDepth 20000 in
set_option maxHeartbeats 4000000 in
theorem iStepChain_any (v : Value) (L : List LkT) (kd k : Int) (s : List UInt8) (w : World) (hr : LkRow w v L) (hsl : s.length ≤ maxLen) :
    Calls Try.prog 10 #[ChV v, .agg #[.int .i64 kd, .int .i64 k, .string ⟨s.toArray⟩]] w fun e w' => ChAns w' w.heap.size (schB L (kd, k, s)) (schL L (kd, k, s)) e ∧ Below w.heap.size w w' := by
  unfold ChV
  have HR : Hid (∀ W, Below w.heap.size w W → LkRow W v L) := fun W hW => hr.kept hW
  obtain ⟨a, cap, rfl, _, _, _⟩ := lkrow_value hr
  obtain ⟨W0, hW0⟩ : ∃ W0, W0 = ((w.alloc (.cells #[.slice a L.length cap] 31)).alloc (.cells #[.int .i64 kd, .int .i64 k, .string ⟨s.toArray⟩] 35)).alloc (.cells #[.slice none 0 0] 31) := ⟨_, rfl⟩
  have HW0 : Hid (((w.alloc (.cells #[.slice a L.length cap] 31)).alloc (.cells #[.int .i64 kd, .int .i64 k, .string ⟨s.toArray⟩] 35)).alloc (.cells #[.slice none 0 0] 31) = W0) := hW0.symm
  have hs1 : (w.alloc (.cells #[.slice a L.length cap] 31)).heap.size = w.heap.size + 1 := by simp
  have hs2 : ((w.alloc (.cells #[.slice a L.length cap] 31)).alloc (.cells #[.int .i64 kd, .int .i64 k, .string ⟨s.toArray⟩] 35)).heap.size = w.heap.size + 1 + 1 := by simp
  have hs3 : W0.heap.size = w.heap.size + 1 + 1 + 1 := by rw [hW0]; simp
  have hb0 : Below w.heap.size w W0 := by rw [hW0]; exact (((Below.refl _ _).alloc (Nat.le_refl _) _).alloc (by simp) _).alloc (by simp; omega) _
  have hA : W0.heap[w.heap.size]? = some (.cells #[.slice a L.length cap] 31) := by
    rw [hW0, heap_alloc_old _ _ (by omega), heap_alloc_old _ _ (by omega)]; exact heap_alloc_new _ _
  have hBb : W0.heap[w.heap.size + 1]? = some (.cells #[.int .i64 kd, .int .i64 k, .string ⟨s.toArray⟩] 35) := by
    rw [hW0, heap_alloc_old _ _ (by omega), ← hs1]; exact heap_alloc_new _ _
  have hC : W0.heap[w.heap.size + 1 + 1]? = some (.cells #[.slice none 0 0] 31) := by
    rw [hW0, ← hs2]; exact heap_alloc_new _ _
  have HCL : Hid (∀ W, Below W0.heap.size W0 W → W.cell? ⟨w.heap.size, 0, none⟩ = some (.slice a L.length cap) ∧ W.cell? ⟨w.heap.size + 1, 0, none⟩ = some (.int .i64 kd) ∧ W.cell? ⟨w.heap.size + 1, 1, none⟩ = some (.int .i64 k) ∧ W.cell? ⟨w.heap.size + 1, 2, none⟩ = some (.string ⟨s.toArray⟩)) := fun W hW => by
    have e1 := cells_at hA 0
    have e2 := cells_at hBb 0
    have e3 := cells_at hBb 1
    have e4 := cells_at hBb 2
    rw [hW.cell (p := ⟨w.heap.size, 0, none⟩) (by show w.heap.size < _; omega), hW.cell (p := ⟨w.heap.size + 1, 0, none⟩) (by show w.heap.size + 1 < _; omega), hW.cell (p := ⟨w.heap.size + 1, 1, none⟩) (by show w.heap.size + 1 < _; omega), hW.cell (p := ⟨w.heap.size + 1, 2, none⟩) (by show w.heap.size + 1 < _; omega)]
    exact ⟨e1, e2, e3, e4⟩
  have HCR : Hid (∀ W, Below W0.heap.size W0 W → W.heap[w.heap.size + 1 + 1]? = some (.cells #[.slice none 0 0] 31) ∧ W.cell? ⟨w.heap.size + 1 + 1, 0, none⟩ = some (.slice none 0 0) ∧ W.frozen? ⟨w.heap.size + 1 + 1, 0, none⟩ = false) := fun W hW => by
    have e1 : W.heap[w.heap.size + 1 + 1]? = some (.cells #[.slice none 0 0] 31) := (hW.block _ (by omega)).trans hC
    refine ⟨e1, cells_at e1 0, ?_⟩
    unfold World.frozen?; rw [e1]; simp
  have HB0 : Hid (Below w.heap.size w W0) := hb0
  have HZ0 : Hid (w.heap.size + 1 + 1 < W0.heap.size) := by show _ < W0.heap.size; omega
  have HG : Hid (∀ W, Below w.heap.size w W → Calls Try.prog 28 #[.agg #[.slice a L.length cap]] W fun e w' => e = .returned (.bool (chB L)) ∧ Below W.heap.size W w') := fun W hW => iGoodChain_any _ L W (HR.out W hW)
  obtain ⟨B, hB⟩ : ∃ B, B = schB L (kd, k, s) := ⟨_, rfl⟩
  obtain ⟨M, hM⟩ : ∃ M, M = schL L (kd, k, s) := ⟨_, rfl⟩
  rw [← hB, ← hM]
  clear hr hW0 hs1 hs2 hs3 hb0 hA hBb hC
  cases hg : chB L with
  | false =>
    have hB2 : B = false := by rw [hB]; unfold schB; rw [hg]; rfl
    have hM2 : M = [] := by rw [hM]; unfold schL; rw [← hB, hB2]; rfl
    subst hB2 hM2
    rw [hg] at HG
    clear hB hM hg
    go_enter Try.func10, Try.ntmps10
    go_wp2_with fail
    rw [HW0.out]
    obtain ⟨q0, _, _, _⟩ := HCL.out W0 (Below.refl _ _)
    go_wp2_with fail
    refine (HG.out _ HB0.out).mono ?_
    rintro e w1 ⟨rfl, hb1⟩
    obtain ⟨r1, r2, r3⟩ := HCR.out w1 hb1
    have HR1 : Hid (w1.heap[w.heap.size + 1 + 1]? = some (.cells #[.slice none 0 0] 31)) := r1
    have HB1 : Hid (Below w.heap.size w w1) := HB0.out.trans (hb1.mono HB0.out.size)
    clear q0 r1 hb1
    go_wp2_with fail
    (try simp only [Exit.inBlock, Exit.then])
    refine bodyPost_ret (results_row_tmp rfl _ _ (w.heap.size + 1 + 1) 31 #[.slice none 0 0] (0, 0) _ (.bool false) rfl rfl ?_ Try.underlying31 rfl (by kernel_rfl)) rfl ⟨ChAns.no _ _, ?_⟩
    · exact put1_heap HR1.out
    · exact HB1.out.setCell (p := ⟨w.heap.size + 1 + 1, 0, none⟩) (by show w.heap.size ≤ w.heap.size + 1 + 1; omega) _
  | true =>
    have hshape := good_shape hg
    have h16 := chB_len hg
    have HLO : Hid (∀ W, Below w.heap.size w W → Calls Try.prog 29 #[.agg #[.slice a L.length cap]] W fun e w' => ∃ g D, lkf D = L ∧ e = .returned (.slice (some ⟨g, 0, none⟩) L.length L.length) ∧ LBld w' W.heap.size (.slice (some ⟨g, 0, none⟩) L.length L.length) D ∧ Below W.heap.size W w') := fun W hW => linksOf_any _ L W (HR.out W hW) (by omega) (good_big hg)
    have HST : Hid (∀ W base g D, lkf D = L → base ≤ W.heap.size → LBld W base (.slice (some ⟨g, 0, none⟩) L.length L.length) D → Calls Try.prog 30 #[.slice (some ⟨g, 0, none⟩) L.length L.length, .agg #[.int .i64 kd, .int .i64 k, .string ⟨s.toArray⟩]] W fun e w' => LkAns W w' base e (stepL L (kd, k, s)) (stepB L (kd, k, s))) := fun W base g D hD hb hL => by
      have h1 := step_any base g L.length L.length D kd k s W hL (by rw [← hD, lkf_len]) (by rw [hD]; exact hshape) hb hsl
      rw [hD] at h1; exact h1
    have hgood := step_good (t := (kd, k, s)) hg
    have HCH : Hid (∀ W v, LkRow W v (stepL L (kd, k, s)) → Calls Try.prog 31 #[v] W fun e w' => (∃ v' D, e = .returned (ChV v') ∧ lkf D = stepL L (kd, k, s) ∧ LBld w' W.heap.size v' D) ∧ Below W.heap.size W w') := fun W v h => chain_any v _ W h (by have := chB_len hgood; omega) (good_big hgood)
    have HBE : Hid (B = stepB L (kd, k, s)) := by show _ = _; rw [hB]; unfold schB; rw [hg]; rfl
    have HME : Hid (M = if stepB L (kd, k, s) = true then stepL L (kd, k, s) else []) := by show _ = _; rw [hM]; unfold schL schB; rw [hg]; rfl
    obtain ⟨sb, hsb⟩ : ∃ sb, sb = stepB L (kd, k, s) := ⟨_, rfl⟩
    obtain ⟨sl, hsl2⟩ : ∃ sl, sl = stepL L (kd, k, s) := ⟨_, rfl⟩
    rw [← hsb] at HST HBE HME
    rw [← hsl2] at HST HCH HME
    rw [hg] at HG
    clear hB hM hg hshape hgood hsb hsl2 hsl
    go_enter Try.func10, Try.ntmps10
    go_wp2_with fail
    rw [HW0.out]
    obtain ⟨q0, _, _, _⟩ := HCL.out W0 (Below.refl _ _)
    go_wp2_with fail
    refine (HG.out _ HB0.out).mono ?_
    rintro e w1 ⟨rfl, hb1⟩
    clear q0
    go_wp2_with fail
    have hbd : Below W0.heap.size W0 w1.drew := hb1.trans (((Below.refl w1.heap.size w1).drew).mono hb1.size)
    refine wp_region_noPanic ?_
    refine wp_region_held_drew (S := fun W : World => Below W0.heap.size W0 W) (by kernel_rfl) hbd (fun hHeld => ?_)
    generalize w1.drew = wv at hbd hHeld ⊢
    clear hb1 HG
    refine wpAnyH_take (i := 0) (v := .agg #[.slice a L.length cap]) rfl (by kernel_rfl) (by kernel_rfl) (by kernel_rfl) (fun _ _ _ h => h) (Or.inl ⟨by rfl, ?_⟩) (by assumption) ?_
    · intro W hSW
      obtain ⟨z0, z1, z2, z3⟩ := HCL.out W hSW
      go_simp
      all_goals (try omega)
    simp only [Act.put, List.getElem_toArray, List.getElem_cons_succ, List.getElem_cons_zero, List.setIfInBounds_toArray, List.set_cons_succ, List.set_cons_zero]
    refine wpAnyH_take (i := 2) (v := .agg #[.int .i64 kd, .int .i64 k, .string ⟨s.toArray⟩]) rfl (by kernel_rfl) (by kernel_rfl) (by kernel_rfl) (fun _ _ _ h => h) (Or.inl ⟨by rfl, ?_⟩) (by assumption) ?_
    · intro W hSW
      obtain ⟨z0, z1, z2, z3⟩ := HCL.out W hSW
      go_simp
      all_goals (try omega)
    simp only [Act.put, List.getElem_toArray, List.getElem_cons_succ, List.getElem_cons_zero, List.setIfInBounds_toArray, List.set_cons_succ, List.set_cons_zero]
    refine wpAnyH_ready (rs := [1]) (by kernel_rfl) (by simp) ?_
    refine AllReadyH.cons rfl (fun K hK => ?_) AllReadyH.nil
    rw [if_pos (by rfl)]
    go_simp
    refine (HLO.out wv (HB0.out.trans (hbd.mono HB0.out.size))).mono ?_
    rintro e w2 ⟨g, D, hD, rfl, hL2, hb2⟩
    have HL2 : Hid (LBld w2 wv.heap.size (.slice (some ⟨g, 0, none⟩) L.length L.length) D) := hL2
    have HD : Hid (lkf D = L) := hD
    have HZ2 : Hid (wv.heap.size ≤ w2.heap.size) := hb2.size
    have hS2 : Below W0.heap.size W0 w2 := hbd.trans (hb2.mono hbd.size)
    clear hL2 hD hb2
    go_simp
    refine hK.out _ _ hS2 (fun hSS => ?_)
    clear hK
    refine wpAnyH_ready (rs := [3]) (by kernel_rfl) (by simp) ?_
    refine AllReadyH.cons rfl (fun K hK => ?_) AllReadyH.nil
    rw [if_pos (by rfl)]
    go_simp
    refine (HST.out w2 wv.heap.size g D HD.out HZ2.out HL2.out).mono ?_
    rintro e w3 ⟨g3, cap3, n3, D3, rfl, hn3, hL3, hD3, hb3⟩
    have hS3 : Below W0.heap.size W0 w3 := hS2.trans (hb3.mono hbd.size)
    have HROW : Hid (LkRow w3 (.slice (some ⟨g3, 0, none⟩) n3 cap3) sl) := by
      have h1 := hL3.row
      unfold lkf at hD3
      rw [hD3] at h1; exact h1
    clear hL3 hD3 hb3 hn3
    go_simp
    refine hK.out _ _ hS3 (fun hSS3 => ?_)
    clear hK hSS
    refine wpAnyH_take (i := 4) (v := .tuple #[.slice (some ⟨g3, 0, none⟩) n3 cap3, .bool sb]) rfl (by kernel_rfl) (by kernel_rfl) (by kernel_rfl) (fun _ _ _ h => h) (Or.inl ⟨by rfl, ?_⟩) (by assumption) ?_
    · intro W hSW
      go_simp
      all_goals (try omega)
    simp only [Act.put, List.getElem_toArray, List.getElem_cons_succ, List.getElem_cons_zero, List.setIfInBounds_toArray, List.set_cons_succ, List.set_cons_zero]
    refine wpAnyH_take (i := 5) (v := .slice (some ⟨g3, 0, none⟩) n3 cap3) rfl (by kernel_rfl) (by kernel_rfl) (by kernel_rfl) (fun _ _ _ h => h) (Or.inl ⟨by rfl, ?_⟩) (by assumption) ?_
    · intro W hSW
      go_simp
      all_goals (try omega)
    simp only [Act.put, List.getElem_toArray, List.getElem_cons_succ, List.getElem_cons_zero, List.setIfInBounds_toArray, List.set_cons_succ, List.set_cons_zero]
    refine wpAnyH_take (i := 6) (v := .bool sb) rfl (by kernel_rfl) (by kernel_rfl) (by kernel_rfl) (fun _ _ _ h => h) (Or.inl ⟨by rfl, ?_⟩) (by assumption) ?_
    · intro W hSW
      go_simp
      all_goals (try omega)
    simp only [Act.put, List.getElem_toArray, List.getElem_cons_succ, List.getElem_cons_zero, List.setIfInBounds_toArray, List.set_cons_succ, List.set_cons_zero]
    refine wpAnyH_take (i := 7) (v := .slice (some ⟨g3, 0, none⟩) n3 cap3) rfl (by kernel_rfl) (by kernel_rfl) (by kernel_rfl) (fun _ _ _ h => h) (Or.inl ⟨by rfl, ?_⟩) (by assumption) ?_
    · intro W hSW
      go_simp
      all_goals (try omega)
    simp only [Act.put, List.getElem_toArray, List.getElem_cons_succ, List.getElem_cons_zero, List.setIfInBounds_toArray, List.set_cons_succ, List.set_cons_zero]
    refine wpAnyH_take (i := 8) (v := .bool sb) rfl (by kernel_rfl) (by kernel_rfl) (by kernel_rfl) (fun _ _ _ h => h) (Or.inl ⟨by rfl, ?_⟩) (by assumption) ?_
    · intro W hSW
      go_simp
      all_goals (try omega)
    simp only [Act.put, List.getElem_toArray, List.getElem_cons_succ, List.getElem_cons_zero, List.setIfInBounds_toArray, List.set_cons_succ, List.set_cons_zero]
    refine wpAnyH_done (by kernel_rfl) ?_ _
    refine NoPanic.normal ?_
    clear hHeld hS2 hbd
    obtain ⟨r1, r2, r3⟩ := HCR.out w3 hS3
    have HR3 : Hid (w3.heap[w.heap.size + 1 + 1]? = some (.cells #[.slice none 0 0] 31)) := r1
    have HS3 : Hid (Below W0.heap.size W0 w3) := hS3
    have HB3 : Hid (Below w.heap.size w w3) := HB0.out.trans (hS3.mono HB0.out.size)
    clear r1 hS3 hSS3
    cases sb with
    | false =>
      have hM2 : M = [] := by rw [HME.out]; rfl
      have hB2 : B = false := HBE.out
      subst hM2 hB2
      clear HME HBE
      go_wp2_with fail
      (try simp only [Exit.inBlock, Exit.then])
      refine bodyPost_ret (results_row_tmp rfl _ _ (w.heap.size + 1 + 1) 31 #[.slice none 0 0] (0, 0) _ (.bool false) rfl rfl ?_ Try.underlying31 rfl (by kernel_rfl)) rfl ⟨ChAns.no _ _, ?_⟩
      · exact put1_heap HR3.out
      · exact HB3.out.setCell (p := ⟨w.heap.size + 1 + 1, 0, none⟩) (by show w.heap.size ≤ w.heap.size + 1 + 1; omega) _
    | true =>
      have hM2 : M = sl := by rw [HME.out]; rfl
      have hB2 : B = true := HBE.out
      subst hM2 hB2
      clear HME HBE r2 r3
      go_wp2_with fail
      refine (HCH.out _ _ HROW.out).mono ?_
      rintro e w4 ⟨⟨v4, D4, rfl, hD4, hL4⟩, hb4⟩
      have hS4 : Below W0.heap.size W0 w4 := HS3.out.trans (hb4.mono HS3.out.size)
      obtain ⟨r1, r2, r3⟩ := HCR.out w4 hS4
      have HR4 : Hid (w4.heap[w.heap.size + 1 + 1]? = some (.cells #[.slice none 0 0] 31)) := r1
      have HB4 : Hid (Below w.heap.size w w4) := HB0.out.trans (hS4.mono HB0.out.size)
      have HL4 : Hid (LBld w4 w3.heap.size v4 D4) := hL4
      have HD4 : Hid (D4.map (fun x : LkT × Value => x.1) = M) := hD4
      have HZ3 : Hid (w.heap.size + 1 + 1 < w3.heap.size) := Nat.lt_of_lt_of_le HZ0.out HS3.out.size
      obtain ⟨a4, c4, hv4, _, _⟩ := hL4.shape
      subst hv4
      unfold ChV
      clear r1 hS4 hb4 hL4 hD4
      go_wp2_with fail
      (try simp only [Exit.inBlock, Exit.then])
      refine bodyPost_ret (results_row_tmp rfl _ _ (w.heap.size + 1 + 1) 31 #[.slice a4 D4.length c4] (0, 0) _ (.bool true) rfl rfl ?_ Try.underlying31 rfl (by kernel_rfl)) rfl ⟨⟨_, _, rfl, HD4.out, (HL4.out.far (g := w.heap.size + 1 + 1) HZ3.out _).mono (by have := HZ3.out; omega)⟩, ?_⟩
      · exact put1_heap HR4.out
      · exact HB4.out.setCell (p := ⟨w.heap.size + 1 + 1, 0, none⟩) (by show w.heap.size ≤ w.heap.size + 1 + 1; omega) _
end Go.Proofs.Ytacmipcjhbkdcaa
