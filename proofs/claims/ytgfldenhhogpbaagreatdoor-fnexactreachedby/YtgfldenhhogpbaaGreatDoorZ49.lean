import Derived.Test.YtgfldenhhogpbaaGreatDoorZ42
import Derived.Test.YtgfldenhhogpbaaGreatDoorZ40
import Derived.Test.YtgfldenhhogpbaaGreatDoorZ39
import Derived.Test.YtgfldenhhogpbaaGreatDoorZ06
namespace Go.Proofs.YtgfldenhhogpbaaGreatDoor
open Go.RowKit

/-- A box that holds a zone. -/
def ZBox (W : World) (g : Nat) (z : ZonT) (va : Value) : Prop := W.heap[g]? = some (.cells #[.string ⟨z.1.toArray⟩, .int .i64 z.2.1, va] 52)
theorem ZBox.lt {W : World} {g : Nat} {z : ZonT} {va : Value} (h : ZBox W g z va) : g < W.heap.size := (Array.getElem?_eq_some_iff.1 h).1
theorem ZBox.kept {W W' : World} {g : Nat} {z : ZonT} {va : Value} (h : ZBox W g z va) (hb : Below W.heap.size W W') : ZBox W' g z va := (hb.block g h.lt).trans h
theorem ZBox.below {W W' : World} {g B : Nat} {z : ZonT} {va : Value} (h : ZBox W g z va) (hb : Below B W W') (hB : g < B) : ZBox W' g z va := (hb.block g hB).trans h

/-- A zone, told, and whether there is one. -/
def ZTold (w : World) (L : List ZonT) (q : Option Nat) (e : Ending) : Prop := ∃ (z : ZonT) (aa : Option Addr) (ca : Nat), e = .returned (.tuple #[.agg #[.string ⟨z.1.toArray⟩, .int .i64 z.2.1, .slice aa z.2.2.length ca], .bool q.isSome]) ∧ (∀ j, q = some j → z = zO L j) ∧ RRow w (.slice aa z.2.2.length ca) z.2.2

set_option maxRecDepth 20000 in
set_option maxHeartbeats 2000000 in
theorem zoneOf_any (v : Value) (L : List ZonT) (c : List UInt8) (w0 w : World) (hr : ZnRow w0 v L) (hb0 : Below w0.heap.size w0 w) (hl : L.length ≤ 1048576) :
    Calls Tryz.prog 48 #[.agg #[v], .string ⟨c.toArray⟩] w fun e w' => ZTold w0 L (atI L c) e ∧ Below w.heap.size w w' := by
  obtain ⟨a, cap, rfl, hcap, hmax, HROW⟩ := znrow_value hr
  clear hr
  obtain ⟨q, hq⟩ : ∃ q, q = atI L c := ⟨_, rfl⟩
  have HYES : Hid (∀ k, (hk : k < L.length) → (L[k]'hk).1 = c → (∀ j, j < k → (zO L j).1 ≠ c) → q = some k) := fun k hk h1 h2 => hq.trans (atI_of hk h1 h2)
  have HNO : Hid ((∀ j, j < L.length → (zO L j).1 ≠ c) → q = none) := fun h => hq.trans (atI_no h)
  rw [← hq]
  clear hq
  obtain ⟨WB, hWB⟩ : ∃ W, W = (w.alloc (.cells #[.slice a L.length cap] 29)).alloc (.cells #[.string ⟨#[]⟩, .int .i64 0, .slice none 0 0] 52) := ⟨_, rfl⟩
  have HWB : Hid ((w.alloc (.cells #[.slice a L.length cap] 29)).alloc (.cells #[.string ⟨#[]⟩, .int .i64 0, .slice none 0 0] 52) = WB) := hWB.symm
  have HZ : Hid (WB.heap[w.heap.size + 1]? = some (.cells #[.string ⟨#[]⟩, .int .i64 0, .slice none 0 0] 52) ∧ WB.heap.size = w.heap.size + 1 + 1) := by
    rw [hWB]
    have h := blk_new (w.alloc (.cells #[.slice a L.length cap] 29)) (.cells #[.string ⟨#[]⟩, .int .i64 0, .slice none 0 0] 52)
    have e : (w.alloc (.cells #[.slice a L.length cap] 29)).heap.size = w.heap.size + 1 := (by simp)
    rw [e] at h
    exact ⟨h, by simp⟩
  have HBB : Hid (Below w.heap.size w WB) := by rw [hWB]; exact ((Below.refl _ _).alloc (Nat.le_refl _) _).alloc (by simp) _
  clear hWB
  go_enter Tryz.func48, Tryz.ntmps48
  go_wp2_with fail
  rw [HWB.out]
  go_loopw [11] (fun i wr => ∃ k : Nat, k ≤ L.length ∧ i = .int .i64 (k : Int) ∧ Hid (∀ j, j < k → (zO L j).1 ≠ c) ∧ Below WB.heap.size WB wr) (fun i _ => L.length - (intOf i).toNat)
  case atStart => exact ⟨0, Nat.zero_le _, rfl, fun j h => absurd h (Nat.not_lt_zero _), Below.refl _ _⟩
  case round =>
    obtain ⟨k, hk, rfl, HA, hbB⟩ := hrel
    have hb : Below w.heap.size w wr := HBB.out.trans (hbB.mono HBB.out.size)
    have HZR : Hid (wr.heap[w.heap.size + 1]? = some (.cells #[.string ⟨#[]⟩, .int .i64 0, .slice none 0 0] 52)) := (hbB.block _ (by rw [HZ.out.2]; omega)).trans HZ.out.1
    have hzl : w.heap.size + 1 < wr.heap.size := by have h1 := hbB.size; rw [HZ.out.2] at h1; omega
    obtain ⟨⟨z0, z1, z2⟩, ⟨s0, s1, s2⟩⟩ := zon_cells HZR.out
    by_cases hlt : k < L.length
    · obtain ⟨b, o, ha, hbl, hcel⟩ := HROW.out (by omega)
      subst ha
      obtain ⟨va, hcx0⟩ := hcel k hlt
      have hcx := hcx0.kept (hb0.trans (hb.mono hb0.size))
      have HY1 : Hid ((L[k]'hlt).1 = c → q = some k) := fun h => HYES.out k hlt h HA.out
      have HN1 : Hid ((L[k]'hlt).1 ≠ c → ∀ j, j < k + 1 → (zO L j).1 ≠ c) := fun h j hj => by
        by_cases e : j = k
        · subst e; rw [zO_at hlt]; exact h
        · exact HA.out j (by omega)
      have HZK : Hid (zO L k = L[k]'hlt) := zO_at hlt
      have hzw : RRow w0 va (L[k]'hlt).2.2 := hcx0.2.2.2
      obtain ⟨x, hxe⟩ : ∃ x, x = L[k]'hlt := ⟨_, rfl⟩
      rw [← hxe] at hcx HY1 HN1 HZK hzw
      clear hxe hcx0 hcel HYES HNO HA
      obtain ⟨nm, ct, R⟩ := x
      simp only at HY1 HN1 hzw
      unfold ZonAt at hcx
      obtain ⟨c0, c1, c2, _⟩ := hcx
      obtain ⟨aa, ca, rfl, hca1, hca, _⟩ := id hzw
      have HZW : Hid (RRow w0 (.slice aa R.length ca) R) := hzw
      have hlk : (k : Int) < (L.length : Int) := by omega
      have hbA : Below WB.heap.size WB (wr.alloc (.cells #[.string ⟨nm.toArray⟩, .int .i64 ct, .slice aa R.length ca] 52)) := hbB.alloc hbB.size _
      clear hzw
      by_cases ge : nm = c
      · have HF : Hid (q = some k) := HY1.out ge
        have eq : (nm == c) = true := by simpa using ge
        clear HY1 HN1 ge
        go_wp2_with fail
        (try simp only [Exit.inBlock, Exit.then])
        refine bodyPost_ret (results_row_tmp rfl _ _ (w.heap.size + 1) 52 #[.string ⟨nm.toArray⟩, .int .i64 ct, .slice aa R.length ca] (0, 0) _ (.bool true) rfl rfl ?_ Tryz.underlying52 rfl (by kernel_rfl)) rfl ⟨⟨(nm, ct, R), aa, ca, by rw [HF.out]; rfl, fun j hj => ?_, HZW.out⟩, ?_⟩
        · exact (((Below.refl (put3 wr (w.heap.size + 1) (.string ⟨nm.toArray⟩) (.int .i64 ct) (.slice aa R.length ca)).heap.size _).alloc (Nat.le_refl _) _).block _ (by unfold put3; simpa using hzl)).trans (put3_heap HZR.out)
        · rw [HF.out] at hj
          have e := Option.some.inj hj
          rw [← e, HZK.out]
        · exact (put3_below hb (show w.heap.size ≤ w.heap.size + 1 by omega) (.string ⟨nm.toArray⟩) (.int .i64 ct) (.slice aa R.length ca)).alloc (by unfold put3; have := hb.size; simp; omega) _
      · have HU := HN1.out ge
        have HU2 : Hid (∀ j, j < k + 1 → (zO L j).1 ≠ c) := HU
        have eq : (nm == c) = false := by simpa using ge
        clear HY1 HN1 ge HU
        go_wp2_with fail
        go_roundw
        case rel => exact ⟨k + 1, by omega, by go_num, HU2, hbA⟩
        case measure => simp [intOf]; omega
    · have HF : Hid (q = none) := HNO.out (fun j hj => HA.out j (by omega))
      have hbE : Below w.heap.size w wr := hb
      go_wp2_with fail
      (try simp only [Exit.inBlock, Exit.then])
      refine bodyPost_ret (results_row_tmp rfl _ _ (w.heap.size + 1) 52 #[.string ⟨#[]⟩, .int .i64 0, .slice none 0 0] (0, 0) _ (.bool false) rfl rfl ?_ Tryz.underlying52 rfl (by kernel_rfl)) rfl ⟨⟨([], 0, []), none, 0, by rw [HF.out]; rfl, fun j hj => ?_, rrow_nil w0⟩, ?_⟩
      · exact put3_heap HZR.out
      · rw [HF.out] at hj; cases hj
      · exact put3_below hbE (by omega) _ _ _
end Go.Proofs.YtgfldenhhogpbaaGreatDoor

namespace Go.Proofs.YtgfldenhhogpbaaGreatDoor
open Go.RowKit

set_option maxRecDepth 20000 in
set_option maxHeartbeats 8000000 in
theorem reachedIn_any (v : Value) (L : List ZonT) (n : List UInt8) (w : World) (hr : ZnRow w v L) (hx : Hid (∀ x ∈ L, ZBig x)) (hn : n.length ≤ 1048576) (hw : Hid (worldB L = true)) :
    Calls Tryz.prog 44 #[.agg #[v], .string ⟨n.toArray⟩] w fun e w' => (∃ u, e = .returned u ∧ OwnS w' w.heap.size u (reach L n)) ∧ Below w.heap.size w w' := by
  obtain ⟨hpos, hroot⟩ := root_at hw.out
  have hl6 : L.length ≤ 6 := (world_facts hw.out).1.2
  have HZO : Hid (∀ c W, Below w.heap.size w W → Calls Tryz.prog 48 #[.agg #[v], .string ⟨c.toArray⟩] W fun e w' => ZTold w L (atI L c) e ∧ Below W.heap.size W w') := fun c W hW => zoneOf_any v L c w W hr hW (by omega)
  have HCI : Hid (∀ k va W, k < L.length → RRow W va (zO L k).2.2 → Calls Tryz.prog 68 #[.agg #[.string ⟨(zO L k).1.toArray⟩, .int .i64 (zO L k).2.1, va], .string ⟨n.toArray⟩] W fun e w' => e = .returned (.tuple #[.string ⟨(cutT (zO L k).1 (zO L k).2.2 n).1.toArray⟩, .bool (cutT (zO L k).1 (zO L k).2.2 n).2]) ∧ Below W.heap.size W w') := fun k va W hk h => by
    have hb := hx.out _ (List.getElem_mem hk)
    rw [← zO_at hk] at hb
    exact cutIn_any ⟨(zO L k).1.toArray⟩ (zO L k).2.1 va (zO L k).2.2 ⟨n.toArray⟩ W h (by rw [size_list]; exact hn) hb.2.2
  obtain ⟨a, cap, rfl, hcap, hmax, HROW⟩ := znrow_value hr
  obtain ⟨b, o, ha, hbl, hcel⟩ := HROW.out hpos
  subst ha
  obtain ⟨v0, h00⟩ := hcel 0 hpos
  rw [Nat.zero_mul, Nat.add_zero, ← zO_at hpos] at h00
  have hLn : ¬ L = [] := fun e => by rw [e] at hpos; simp at hpos
  have hposi : (0 : Int) < (L.length : Int) := by omega
  have hr0 : RRow w v0 (zO L 0).2.2 := h00.2.2.2
  unfold ZonAt at h00
  obtain ⟨c0, c1, c2, _⟩ := h00
  have HB0 : Hid (belowB n (zO L 0).1 = true) := by show _ = true; rw [hroot]; exact below_root n
  obtain ⟨z, hz⟩ : ∃ z, z = zO L 0 := ⟨_, rfl⟩
  have HZ0 : Hid (z = zO L 0) := hz
  rw [← hz] at c0 c1 hr0
  obtain ⟨aa, ca, hva, hca1, hca, _⟩ := id hr0
  subst hva
  have HR0 : Hid (RRow w (.slice aa z.2.2.length ca) z.2.2) := hr0
  obtain ⟨W1, hW1⟩ : ∃ W, W = ((w.alloc (.cells #[.slice (some ⟨b, o, none⟩) L.length cap] 29)).alloc (.cells #[.string ⟨#[]⟩] 9)).alloc (.cells #[.string ⟨z.1.toArray⟩, .int .i64 z.2.1, .slice aa z.2.2.length ca] 52) := ⟨_, rfl⟩
  have HW1 : Hid (((w.alloc (.cells #[.slice (some ⟨b, o, none⟩) L.length cap] 29)).alloc (.cells #[.string ⟨#[]⟩] 9)).alloc (.cells #[.string ⟨z.1.toArray⟩, .int .i64 z.2.1, .slice aa z.2.2.length ca] 52) = W1) := hW1.symm
  obtain ⟨WB, hWB⟩ : ∃ W, W = w.alloc (.cells #[.slice (some ⟨b, o, none⟩) L.length cap] 29) := ⟨_, rfl⟩
  have HSB : Hid (WB.heap.size = w.heap.size + 1) := by rw [hWB]; show _ = _; simp
  have HCB : Hid (∀ W, Below WB.heap.size WB W → W.cell? ⟨w.heap.size, 0, none⟩ = some (.slice (some ⟨b, o, none⟩) L.length cap) ∧ Below w.heap.size w W) := fun W hW => by rw [hWB] at hW; exact box1w hW
  rw [← hWB] at hW1
  have HB1 : Hid (Below WB.heap.size WB W1) := by rw [hW1]; exact ((Below.refl _ _).alloc (Nat.le_refl _) _).alloc (by simp) _
  have e2 : (WB.alloc (.cells #[.string ⟨#[]⟩] 9)).heap.size = w.heap.size + 1 + 1 := by simp [HSB.out]
  have HZB : Hid (ZBox W1 (w.heap.size + 1 + 1) z (.slice aa z.2.2.length ca)) := by
    rw [hW1]
    have h := blk_new (WB.alloc (.cells #[.string ⟨#[]⟩] 9)) (.cells #[.string ⟨z.1.toArray⟩, .int .i64 z.2.1, .slice aa z.2.2.length ca] 52)
    rw [e2] at h
    exact h
  have HOW : Hid (W1.ownsRow WB.heap.size 9 1 (.slice (some ⟨w.heap.size + 1, 0, none⟩) 1 1) ([[]] : List (List UInt8)).length (([[]] : List (List UInt8)).map S)) := by
    rw [hW1]
    have h : (WB.alloc (.cells #[.string ⟨#[]⟩] 9)).ownsRow WB.heap.size 9 1 (.slice (some ⟨WB.heap.size, 0, none⟩) 1 1) 1 [.string ⟨#[]⟩] := World.ownsRow_lit WB #[.string ⟨#[]⟩] 1 (Nat.le_refl _) (by unfold maxLen; omega) rfl
    rw [show (Value.slice (some ⟨w.heap.size + 1, 0, none⟩) 1 1) = .slice (some ⟨WB.heap.size, 0, none⟩) 1 1 by rw [HSB.out]]
    exact h.alloc _
  have hneT : (9 : TypeId) ≠ 52 := by decide
  obtain ⟨i0, hi, hz0, hz1, hzs2⟩ := info_parts info_string
  clear hz hW1 hWB e2 hr hr0 hcel
  go_enter Tryz.func44, Tryz.ntmps44
  go_wp2_with fail
  rw [HW1.out]
  clear c0 c1 c2
  go_loopw [5] (fun q wr => ∃ (k f : Nat) (D : List (List UInt8)) (vo : Value) (ab : Option Addr) (cb : Nat), k < L.length ∧ L.length ≤ f + k ∧ D.length ≤ k + 1 ∧ q = vo ∧ Hid (reach L n = D ++ reachL f L n k) ∧ Hid (ZBox wr (w.heap.size + 1 + 1) (zO L k) (.slice ab (zO L k).2.2.length cb)) ∧ Hid (RRow w (.slice ab (zO L k).2.2.length cb) (zO L k).2.2) ∧ Hid (wr.ownsRow WB.heap.size 9 1 vo D.length (D.map S)) ∧ Below WB.heap.size WB wr) (fun q _ => 8 - lenS q)
  case atStart =>
    rw [HZ0.out] at HZB HR0
    have hz2 : z.2.2.length = (zO L 0).2.2.length := by rw [HZ0.out]
    exact ⟨0, L.length, [[]], _, aa, ca, hpos, by omega, by simp, rfl, rfl, HZB.out, HR0.out, HOW.out, HB1.out⟩
  case round =>
    obtain ⟨k, f, D, vo, ab, cb, hk, hf, hD, rfl, HT, HZK, HRK, HO, hbB⟩ := hrel
    clear HZB HR0 HOW HB1 HW1 HZ0
    obtain ⟨k1, hb⟩ := HCB.out wr hbB
    obtain ⟨ao, co, hvo⟩ := own1_slice HO.out
    subst hvo
    have hgz : w.heap.size + 1 + 1 < wr.heap.size := HZK.out.lt
    have HCC : Hid (∀ W, Below w.heap.size w W → Calls Tryz.prog 68 #[.agg #[.string ⟨(zO L k).1.toArray⟩, .int .i64 (zO L k).2.1, .slice ab (zO L k).2.2.length cb], .string ⟨n.toArray⟩] W fun e w' => e = .returned (.tuple #[.string ⟨(cutT (zO L k).1 (zO L k).2.2 n).1.toArray⟩, .bool (cutT (zO L k).1 (zO L k).2.2 n).2]) ∧ Below W.heap.size W w') := fun W hW => HCI.out k _ W hk (HRK.out.kept hW)
    have HNO : Hid (nextZ L n k = none → (cutT (zO L k).1 (zO L k).2.2 n).2 = false ∨ atI L (cutT (zO L k).1 (zO L k).2.2 n).1 = none) := next_no
    have HNF : Hid (∀ j, nextZ L n k = some j → j < L.length ∧ k < j ∧ (cutT (zO L k).1 (zO L k).2.2 n).2 = true ∧ atI L (cutT (zO L k).1 (zO L k).2.2 n).1 = some j ∧ (zO L j).1 = (cutT (zO L k).1 (zO L k).2.2 n).1) := fun j h => by
      obtain ⟨h1, h2, _, h4, h5, h6⟩ := next_facts hw.out hk h
      exact ⟨h1, h2, h4, h5, h6⟩
    have HZK2 : Hid (∃ z : ZonT, ZBox wr (w.heap.size + 1 + 1) z (.slice ab (zO L k).2.2.length cb)) := ⟨_, HZK.out⟩
    obtain ⟨zk, hzk⟩ : ∃ z, z = zO L k := ⟨_, rfl⟩
    rw [← hzk] at HCC HNO HNF HZK HRK
    obtain ⟨q, hq⟩ : ∃ q, q = cutT zk.1 zk.2.2 n := ⟨_, rfl⟩
    rw [← hq] at HCC HNO HNF
    obtain ⟨cu, cx⟩ := q
    simp only at HCC HNO HNF
    have HZU : Hid (∀ W, Below w.heap.size w W → Calls Tryz.prog 48 #[.agg #[.slice (some ⟨b, o, none⟩) L.length cap], .string ⟨cu.toArray⟩] W fun e w' => ZTold w L (atI L cu) e ∧ Below W.heap.size W w') := fun W hW => HZO.out cu W hW
    obtain ⟨⟨d0, d1, d2⟩, _⟩ := zon_cells HZK.out
    clear hzk hq HZK2
    go_wp2_with fail
    refine (HCC.out _ hb).mono ?_
    rintro e w1 ⟨rfl, hb1⟩
    have hB1 : Below WB.heap.size WB w1 := hbB.trans (hb1.mono hbB.size)
    obtain ⟨k2, hbw1⟩ := HCB.out w1 hB1
    have HZ1 : Hid (ZBox w1 (w.heap.size + 1 + 1) zk (.slice ab zk.2.2.length cb)) := HZK.out.kept hb1
    have HO1 : Hid (w1.ownsRow WB.heap.size 9 1 (.slice ao D.length co) D.length (D.map S)) := own_below HO.out hb1
    clear d0 d1 d2 k1 hb1 HCC HCI HO HZK
    go_wp2_with fail
    refine (HZU.out _ hbw1).mono ?_
    rintro e w2 ⟨⟨z2, a2, c2, rfl, hz2, hr2⟩, hb2⟩
    have hB2 : Below WB.heap.size WB w2 := hB1.trans (hb2.mono hB1.size)
    obtain ⟨k3, hbw2⟩ := HCB.out w2 hB2
    have HZ2 : Hid (ZBox w2 (w.heap.size + 1 + 1) zk (.slice ab zk.2.2.length cb)) := HZ1.out.kept hb2
    have HO2 : Hid (w2.ownsRow WB.heap.size 9 1 (.slice ao D.length co) D.length (D.map S)) := own_below HO1.out hb2
    have HE2 : Hid (∀ j, atI L cu = some j → z2 = zO L j) := hz2
    have HR2 : Hid (RRow w (.slice a2 z2.2.2.length c2) z2.2.2) := hr2
    have hgz2 : w.heap.size + 1 + 1 < w2.heap.size := HZ2.out.lt
    have hbA : Below WB.heap.size WB (w2.alloc (.cells #[.string ⟨z2.1.toArray⟩, .int .i64 z2.2.1, .slice a2 z2.2.2.length c2] 52)) := hB2.alloc hB2.size _
    have hbA2 := (HCB.out _ hbA).2
    clear k2 hb2 HZU HO1 HZ1 hz2 hr2 hB1 hbw1
    cases hX : nextZ L n k with
    | none =>
      have HE : Hid (reach L n = D) := by show _ = _; rw [HT.out, reachL_none hX, List.append_nil]
      have HR : Hid (OwnS (w2.alloc (.cells #[.string ⟨z2.1.toArray⟩, .int .i64 z2.2.1, .slice a2 z2.2.2.length c2] 52)) w.heap.size (.slice ao D.length co) D) := rch_base (owns_S (HO2.out.alloc _)) (by rw [HSB.out]; omega)
      have HC2 := HNO.out hX
      clear HT HO2 hX HNO HNF
      cases cx with
      | false =>
        clear HC2
        go_wp2_with fail
        go_ret
        exact ⟨⟨_, rfl, by rw [HE.out]; exact HR.out⟩, hbA2⟩
      | true =>
        have hqn : atI L cu = none := by rcases HC2 with h | h; cases h; exact h
        rw [hqn]
        clear HC2 hqn
        simp only [Option.isSome_none]
        go_wp2_with fail
        go_ret
        exact ⟨⟨_, rfl, by rw [HE.out]; exact HR.out⟩, hbA2⟩
    | some j =>
      obtain ⟨hj, hkj, hcx, hqj, hej⟩ := HNF.out j hX
      subst hcx
      rw [hqj]
      simp only [Option.isSome_some]
      obtain ⟨f', rfl⟩ : ∃ f', f = f' + 1 := ⟨f - 1, by omega⟩
      have HT2 : Hid (reach L n = (D ++ [cu]) ++ reachL f' L n j) := by show _ = _; rw [HT.out, reachL_some hX, hej, List.append_assoc]; rfl
      have HEJ : Hid (z2 = zO L j) := HE2.out j hqj
      have hown := HO2.out.alloc (.cells #[.string ⟨z2.1.toArray⟩, .int .i64 z2.2.1, .slice a2 z2.2.2.length c2] 52)
      have HZA : Hid (ZBox (w2.alloc (.cells #[.string ⟨z2.1.toArray⟩, .int .i64 z2.2.1, .slice a2 z2.2.2.length c2] 52)) (w.heap.size + 1 + 1) zk (.slice ab zk.2.2.length cb)) := HZ2.out.kept ((Below.refl _ _).alloc (Nat.le_refl _) _)
      have HZN : Hid (ZBox (w2.alloc (.cells #[.string ⟨z2.1.toArray⟩, .int .i64 z2.2.1, .slice a2 z2.2.2.length c2] 52)) w2.heap.size z2 (.slice a2 z2.2.2.length c2)) := blk_new _ _
      have hzw := hbA.size
      have hD6 : D.length ≤ 6 := by omega
      clear HT hX HNO HNF hqj hej HE2
      go_wp2_with (at_builtin; refine wpList_append_own _ rfl (.tmp 35) (.tmp 37) 36 rfl WB.heap.size 9 i0 (.string ByteArray.empty) 1 16 Tryz.underlying36 hi hz0 hz1 hzs2 rfl (by decide) _ _ _ rfl (hown.alloc _) ⟨w2.heap.size + 1, 0, none⟩ 1 1 [.string ⟨cu.toArray⟩] rfl rfl ?c1 ?c2 ?c3 ?c4 ?c5 ?_)
      case c1 => exact (by have h := cell_new_one (w2.alloc (.cells #[.string ⟨z2.1.toArray⟩, .int .i64 z2.2.1, .slice a2 z2.2.2.length c2] 52)) (.string ⟨cu.toArray⟩) 9; simpa using h)
      case c2 => exact one_string _
      case c3 => unfold maxLen; omega
      case c4 => omega
      case c5 => simp at hzw ⊢; omega
      intro v4 w4 hown4 hgrow4 _
      have hB4 : Below WB.heap.size WB w4 := below_append hbA hown hgrow4
      have hk4 := grown_kpt hgrow4
      have HZ4 : Hid (ZBox w4 (w.heap.size + 1 + 1) zk (.slice ab zk.2.2.length cb)) := (hk4.block _ (by simp; omega) (own_box hown HZA.out hneT)).trans (HZA.out.kept ((Below.refl _ _).alloc (Nat.le_refl _) _))
      have HZN4 : Hid (ZBox w4 w2.heap.size z2 (.slice a2 z2.2.2.length c2)) := (hk4.block _ (by simp; omega) (own_box hown HZN.out hneT)).trans (HZN.out.kept ((Below.refl _ _).alloc (Nat.le_refl _) _))
      have e1 : (D ++ [cu]).length = D.length + 1 := by simp
      have hown5 : w4.ownsRow WB.heap.size 9 1 v4 (D ++ [cu]).length ((D ++ [cu]).map S) := by
        rw [List.length_append, List.map_append]
        exact hown4
      obtain ⟨a4, c4, hv4⟩ := own1_slice hown5
      rw [e1] at hv4
      subst hv4
      have HO4 : Hid (w4.ownsRow WB.heap.size 9 1 (.slice a4 (D.length + 1) c4) (D ++ [cu]).length ((D ++ [cu]).map S)) := hown5
      obtain ⟨⟨d0, d1, d2⟩, ⟨s0, s1, s2⟩⟩ := zon_cells HZ4.out
      obtain ⟨⟨g0, g1, g2⟩, _⟩ := zon_cells HZN4.out
      have HP5 : Hid (ZBox (put3 w4 (w.heap.size + 1 + 1) (.string ⟨z2.1.toArray⟩) (.int .i64 z2.2.1) (.slice a2 z2.2.2.length c2)) (w.heap.size + 1 + 1) z2 (.slice a2 z2.2.2.length c2)) := put3_heap HZ4.out
      have HO5 : Hid ((put3 w4 (w.heap.size + 1 + 1) (.string ⟨z2.1.toArray⟩) (.int .i64 z2.2.1) (.slice a2 z2.2.2.length c2)).ownsRow WB.heap.size 9 1 (.slice a4 (D.length + 1) c4) (D ++ [cu]).length ((D ++ [cu]).map S)) := own_kpt HO4.out (kpt_put3 w4 (w.heap.size + 1 + 1) _ _ _ (S := fun k => k = w.heap.size + 1 + 1) rfl) (fun g hg e => own_box HO4.out HZ4.out hneT (by rw [hg, e]))
      have hB5 : Below WB.heap.size WB (put3 w4 (w.heap.size + 1 + 1) (.string ⟨z2.1.toArray⟩) (.int .i64 z2.2.1) (.slice a2 z2.2.2.length c2)) := put3_below hB4 (by rw [HSB.out]; omega) _ _ _
      rw [HEJ.out] at HP5 HR2
      have HP6 : Hid (ZBox (put3 w4 (w.heap.size + 1 + 1) (.string ⟨z2.1.toArray⟩) (.int .i64 z2.2.1) (.slice a2 z2.2.2.length c2)) (w.heap.size + 1 + 1) (zO L j) (.slice a2 (zO L j).2.2.length c2)) := by rw [HEJ.out]; exact HP5.out
      unfold put3 at HP6 HO5 hB5
      clear hown hown4 hown5 hgrow4 hk4 HZA HZN HZ4 HZN4 HO4 HP5 hB4 HO2 HZ2
      go_wp2_with fail
      go_roundw
      case rel => exact ⟨j, f', D ++ [cu], _, a2, c2, hj, by omega, by rw [e1]; omega, rfl, HT2, HP6, HR2, HO5, hB5⟩
      case measure => simp [lenS]; omega
end Go.Proofs.YtgfldenhhogpbaaGreatDoor

namespace Go.Proofs.YtgfldenhhogpbaaGreatDoor
open Go.RowKit

set_option maxRecDepth 20000 in
set_option maxHeartbeats 4000000 in
theorem iReachedBy_any (v : Value) (L : List ZonT) (n : ByteArray) (w : World) (hr : ZnRow w v L) (hx : Hid (∀ x ∈ L, ZBig x)) (hn : n.size ≤ 1048576) (hE : EnvZ w) :
    Calls Tryz.prog 16 #[WldV v, .string n] w fun e w' => (∃ u, e = .returned (.tuple #[u, .bool (rchO L n.data.toList)]) ∧ OwnS w' w.heap.size u (rchL L n.data.toList)) ∧ Below w.heap.size w w' := by
  have HG : Hid (∀ W, Below w.heap.size w W → Calls Tryz.prog 11 #[WldV v] W fun e w' => e = .returned (.bool (worldB L)) ∧ Below W.heap.size W w') := fun W hW => iGoodWorld_any v L W (hr.kept hW) hx (hE.below hW)
  obtain ⟨nl, hnl⟩ : ∃ nl, nl = n.data.toList := ⟨_, rfl⟩
  obtain rfl : n = ⟨nl.toArray⟩ := data_eq hnl.symm
  clear hnl
  rw [size_list] at hn
  have HN : Hid (∀ W, Below w.heap.size w W → Calls Tryz.prog 41 #[.string ⟨nl.toArray⟩] W fun e w' => e = .returned (.bool (nameB nl)) ∧ Below W.heap.size W w') := fun W hW => iGoodName_any ⟨nl.toArray⟩ W (hE.below hW).1.1
  have HRI : Hid (worldB L = true → ∀ W, Below w.heap.size w W → Calls Tryz.prog 44 #[.agg #[v], .string ⟨nl.toArray⟩] W fun e w' => (∃ u, e = .returned u ∧ OwnS w' w.heap.size u (reach L nl)) ∧ Below W.heap.size W w') := fun h W hW => (reachedIn_any v L nl W (hr.kept hW) hx hn h).mono fun e w' ⟨⟨u, h1, h2⟩, h3⟩ => ⟨⟨u, h1, rch_base h2 hW.size⟩, h3⟩
  show Calls Tryz.prog 16 _ w fun e w' => (∃ u, e = .returned (.tuple #[u, .bool (rchO L nl)]) ∧ OwnS w' w.heap.size u (rchL L nl)) ∧ Below w.heap.size w w'
  unfold WldV at HG ⊢
  obtain ⟨a, cap, rfl, hcap, hmax, _⟩ := znrow_value hr
  clear hr
  obtain ⟨ro, hro⟩ : ∃ r, r = rchO L nl := ⟨_, rfl⟩
  obtain ⟨rl, hrl⟩ : ∃ r, r = rchL L nl := ⟨_, rfl⟩
  have HOFF : Hid (rchO L nl = false → ro = false ∧ rl = []) := fun h => ⟨hro.trans h, hrl.trans (by unfold rchL; rw [h]; rfl)⟩
  have HON : Hid (nameB nl = true → worldB L = true → ro = true ∧ rl = reach L nl) := fun h1 h2 => by
    have e : rchO L nl = true := by unfold rchO; rw [h1, h2]; rfl
    exact ⟨hro.trans e, hrl.trans (by unfold rchL; rw [e]; rfl)⟩
  rw [← hro, ← hrl]
  clear hro hrl
  obtain ⟨WB, hWB⟩ : ∃ W, W = w.alloc (.cells #[.slice a L.length cap] 29) := ⟨_, rfl⟩
  have HWB : Hid (w.alloc (.cells #[.slice a L.length cap] 29) = WB) := hWB.symm
  have HCB : Hid (∀ W, Below WB.heap.size WB W → W.cell? ⟨w.heap.size, 0, none⟩ = some (.slice a L.length cap) ∧ Below w.heap.size w W) := fun W hW => by rw [hWB] at hW; exact box1w hW
  clear hWB
  have hB0 : Below WB.heap.size WB WB := Below.refl _ _
  obtain ⟨k0, hbw⟩ := HCB.out _ hB0
  cases hN : nameB nl with
  | false =>
    have HF : Hid (ro = false ∧ rl = []) := HOFF.out (by unfold rchO; rw [hN]; rfl)
    rw [hN] at HN
    clear HOFF HON hN HRI
    go_enter Tryz.func16, Tryz.ntmps16
    go_wp2_with fail
    rw [HWB.out]
    refine (HN.out _ hbw).mono ?_
    rintro e w1 ⟨rfl, hb1⟩
    have hbw1 := hbw.trans (hb1.mono hbw.size)
    go_wp2_with fail
    go_ret2
    exact ⟨⟨_, by rw [HF.out.1]; rfl, by rw [HF.out.2]; exact .inl ⟨rfl, rfl⟩⟩, hbw1⟩
  | true =>
  rw [hN] at HN
  cases hG : worldB L with
  | false =>
    have HF : Hid (ro = false ∧ rl = []) := HOFF.out (by unfold rchO; rw [hG]; simp)
    rw [hG] at HG
    clear HOFF HON hG HRI hN
    go_enter Tryz.func16, Tryz.ntmps16
    go_wp2_with fail
    rw [HWB.out]
    refine (HN.out _ hbw).mono ?_
    rintro e w1 ⟨rfl, hb1⟩
    have hbw1 := hbw.trans (hb1.mono hbw.size)
    obtain ⟨k1, _⟩ := HCB.out w1 hb1
    clear k0
    go_wp2_with fail
    refine (HG.out _ hbw1).mono ?_
    rintro e w2 ⟨rfl, hb2⟩
    have hbw2 := hbw1.trans (hb2.mono hbw1.size)
    go_wp2_with fail
    go_ret2
    exact ⟨⟨_, by rw [HF.out.1]; rfl, by rw [HF.out.2]; exact .inl ⟨rfl, rfl⟩⟩, hbw2⟩
  | true =>
  rw [hG] at HG
  have HF : Hid (ro = true ∧ rl = reach L nl) := HON.out hN hG
  have HRI2 : Hid (∀ W, Below w.heap.size w W → Calls Tryz.prog 44 #[.agg #[.slice a L.length cap], .string ⟨nl.toArray⟩] W fun e w' => (∃ u, e = .returned u ∧ OwnS w' w.heap.size u (reach L nl)) ∧ Below W.heap.size W w') := HRI.out hG
  clear HOFF HON hG HRI hN
  go_enter Tryz.func16, Tryz.ntmps16
  go_wp2_with fail
  rw [HWB.out]
  refine (HN.out _ hbw).mono ?_
  rintro e w1 ⟨rfl, hb1⟩
  have hB1 : Below WB.heap.size WB w1 := hb1
  have hbw1 := hbw.trans (hb1.mono hbw.size)
  obtain ⟨k1, _⟩ := HCB.out w1 hB1
  clear k0
  go_wp2_with fail
  refine (HG.out _ hbw1).mono ?_
  rintro e w2 ⟨rfl, hb2⟩
  have hB2 : Below WB.heap.size WB w2 := hB1.trans (hb2.mono hB1.size)
  obtain ⟨k2, hbw2⟩ := HCB.out w2 hB2
  clear k1
  go_wp2_with fail
  refine (HRI2.out _ hbw2).mono ?_
  rintro e w3 ⟨⟨u, rfl, hu⟩, hb3⟩
  have hbw3 := hbw2.trans (hb3.mono hbw2.size)
  have HU : Hid (OwnS w3 w.heap.size u (reach L nl)) := hu
  obtain ⟨ua, un, uc, hue⟩ : ∃ a n c, u = .slice a n c := by
    rcases hu with ⟨h, _⟩ | ⟨g, cp, h, _⟩
    · exact ⟨_, _, _, h⟩
    · exact ⟨_, _, _, h⟩
  subst hue
  clear hu
  go_wp2_with fail
  go_ret2
  exact ⟨⟨_, by rw [HF.out.1]; rfl, by rw [HF.out.2]; exact HU.out⟩, hbw3⟩

set_option maxRecDepth 20000 in
set_option maxHeartbeats 4000000 in
theorem iIsDelegated_any (v : Value) (L : List ZonT) (n : ByteArray) (w : World) (hr : ZnRow w v L) (hx : Hid (∀ x ∈ L, ZBig x)) (hn : n.size ≤ 1048576) (hE : EnvZ w) (hl : L.length ≤ 1048576) :
    Calls Tryz.prog 22 #[WldV v, .string n] w fun e w' => e = .returned (.tuple #[.bool (delB L n.data.toList), .bool (delO L n.data.toList)]) ∧ Below w.heap.size w w' := by
  have HG : Hid (∀ W, Below w.heap.size w W → Calls Tryz.prog 11 #[WldV v] W fun e w' => e = .returned (.bool (worldB L)) ∧ Below W.heap.size W w') := fun W hW => iGoodWorld_any v L W (hr.kept hW) hx (hE.below hW)
  obtain ⟨nl, hnl⟩ : ∃ nl, nl = n.data.toList := ⟨_, rfl⟩
  obtain rfl : n = ⟨nl.toArray⟩ := data_eq hnl.symm
  clear hnl
  rw [size_list] at hn
  have HRI : Hid (worldB L = true → ∀ W, Below w.heap.size w W → Calls Tryz.prog 44 #[.agg #[v], .string ⟨nl.toArray⟩] W fun e w' => (∃ u, e = .returned u ∧ OwnS w' w.heap.size u (reach L nl)) ∧ Below W.heap.size W w') := fun h W hW => (reachedIn_any v L nl W (hr.kept hW) hx hn h).mono fun e w' ⟨⟨u, h1, h2⟩, h3⟩ => ⟨⟨u, h1, rch_base h2 hW.size⟩, h3⟩
  have HZO : Hid (L.length ≤ 1048576 → ∀ W, Below w.heap.size w W → Calls Tryz.prog 48 #[.agg #[v], .string ⟨nl.toArray⟩] W fun e w' => ZTold w L (atI L nl) e ∧ Below W.heap.size W w') := fun h W hW => zoneOf_any v L nl w W hr hW h
  show Calls Tryz.prog 22 _ w fun e w' => e = .returned (.tuple #[.bool (delB L nl), .bool (delO L nl)]) ∧ Below w.heap.size w w'
  unfold WldV at HG ⊢
  obtain ⟨a, cap, rfl, hcap, hmax, _⟩ := znrow_value hr
  clear hr
  have HZO2 : Hid (∀ W, Below w.heap.size w W → Calls Tryz.prog 48 #[.agg #[.slice a L.length cap], .string ⟨nl.toArray⟩] W fun e w' => ZTold w L (atI L nl) e ∧ Below W.heap.size W w') := HZO.out hl
  obtain ⟨ro, hro⟩ : ∃ r, r = delO L nl := ⟨_, rfl⟩
  obtain ⟨rb, hrb⟩ : ∃ r, r = delB L nl := ⟨_, rfl⟩
  have HOFF : Hid (delO L nl = false → ro = false ∧ rb = false) := fun h => ⟨hro.trans h, hrb.trans (by unfold delB; rw [h]; rfl)⟩
  have HON : Hid (∀ m t, delO L nl = true → (reach L nl).length = m + 1 → (reach L nl)[m]? = some t → ro = true ∧ rb = (t == nl)) := fun m t h h1 h2 => ⟨hro.trans h, hrb.trans (by
    unfold delB
    rw [h, List.getLast?_eq_getElem?, h1, Nat.add_sub_cancel, h2]
    simp)⟩
  rw [← hro, ← hrb]
  clear hro hrb
  obtain ⟨WB, hWB⟩ : ∃ W, W = w.alloc (.cells #[.slice a L.length cap] 29) := ⟨_, rfl⟩
  have HWB : Hid (w.alloc (.cells #[.slice a L.length cap] 29) = WB) := hWB.symm
  have HCB : Hid (∀ W, Below WB.heap.size WB W → W.cell? ⟨w.heap.size, 0, none⟩ = some (.slice a L.length cap) ∧ Below w.heap.size w W) := fun W hW => by rw [hWB] at hW; exact box1w hW
  clear hWB
  have hB0 : Below WB.heap.size WB WB := Below.refl _ _
  obtain ⟨k0, hbw⟩ := HCB.out _ hB0
  obtain ⟨q, hq⟩ : ∃ q, q = atI L nl := ⟨_, rfl⟩
  rw [← hq] at HZO2
  have HQ : Hid (atI L nl = q) := hq.symm
  clear hq HZO
  cases q with
  | none =>
    have HF : Hid (ro = false ∧ rb = false) := HOFF.out (by unfold delO; rw [HQ.out]; simp)
    clear HOFF HON HRI HG
    go_enter Tryz.func22, Tryz.ntmps22
    go_wp2_with fail
    rw [HWB.out]
    refine (HZO2.out _ hbw).mono ?_
    rintro e w1 ⟨⟨z, az, cz, rfl, hz9, hr9⟩, hb1⟩
    clear hz9 hr9
    have hbw1 := hbw.trans (hb1.mono hbw.size)
    have hbA : Below w.heap.size w (w1.alloc (.cells #[.string ⟨z.1.toArray⟩, .int .i64 z.2.1, .slice az z.2.2.length cz] 52)) := hbw1.alloc hbw1.size _
    simp only [Option.isSome_none]
    go_wp2_with fail
    go_ret2
    exact ⟨by rw [HF.out.1, HF.out.2]; rfl, hbA⟩
  | some j =>
  cases hG : worldB L with
  | false =>
    have HF : Hid (ro = false ∧ rb = false) := HOFF.out (by unfold delO; rw [hG]; rfl)
    rw [hG] at HG
    clear HOFF HON HRI hG
    go_enter Tryz.func22, Tryz.ntmps22
    go_wp2_with fail
    rw [HWB.out]
    refine (HZO2.out _ hbw).mono ?_
    rintro e w1 ⟨⟨z, az, cz, rfl, hz9, hr9⟩, hb1⟩
    clear hz9 hr9
    have hB1 : Below WB.heap.size WB (w1.alloc (.cells #[.string ⟨z.1.toArray⟩, .int .i64 z.2.1, .slice az z.2.2.length cz] 52)) := Below.alloc hb1 hb1.size _
    obtain ⟨k1, hbw1⟩ := HCB.out _ hB1
    simp only [Option.isSome_some]
    go_wp2_with fail
    refine (HG.out _ hbw1).mono ?_
    rintro e w2 ⟨rfl, hb2⟩
    have hbw2 := hbw1.trans (hb2.mono hbw1.size)
    go_wp2_with fail
    go_ret2
    exact ⟨by rw [HF.out.1, HF.out.2]; rfl, hbw2⟩
  | true =>
  have hdo : delO L nl = true := by unfold delO; rw [hG, HQ.out]; rfl
  obtain ⟨m, hm⟩ : ∃ m, (reach L nl).length = m + 1 := ⟨(reach L nl).length - 1, by have := (reach_len (n := nl) hG).1; omega⟩
  have hm6 : m ≤ 5 := by have := (reach_len (n := nl) hG).2; omega
  obtain ⟨t, ht⟩ : ∃ t, (reach L nl)[m]? = some t := ⟨_, List.getElem?_eq_getElem (by omega)⟩
  have HF : Hid (ro = true ∧ rb = (t == nl)) := HON.out m t hdo hm ht
  have HLAST : Hid (∀ W u, OwnS W w.heap.size u (reach L nl) → ∃ g cp, u = .slice (some ⟨g, 0, none⟩) (m + 1) cp ∧ m + 1 ≤ cp ∧ cp ≤ 9223372036854775807 ∧ W.cell? ⟨g, m, none⟩ = some (.string ⟨t.toArray⟩)) := fun W u h => by
    rcases h with ⟨_, h2⟩ | ⟨g, cp, h1, h2, h3, _, h5⟩
    · rw [h2] at hm; cases hm
    · rw [hm] at h1 h2
      refine ⟨g, cp, h1, h2, by unfold maxLen at h3; omega, ?_⟩
      have h6 := (h5.2 m (by omega)).1
      rw [h6]
      have h7 := List.getElem?_eq_some_iff.1 ht
      obtain ⟨h8, h9⟩ := h7
      rw [h9]
      rfl
  have wm : IntKind.i64.wrap (((m + 1 : Nat) : Int) - 1) = (m : Int) := by rw [wrap_small _ (by omega) (by omega)]; omega
  have wm1 : IntKind.i64.wrap ((m : Int) + 1 - 1) = (m : Int) := by rw [wrap_small _ (by omega) (by omega)]; omega
  have wm2 : ((m + 1 : Nat) : Int) - 1 = (m : Int) := by omega
  have wm3 : (m : Int) + 1 - 1 = (m : Int) := by omega
  have wj : IntKind.i64.wrap (m : Int) = (m : Int) := wrap_small _ (by omega) (by omega)
  have hml : (m : Int) < ((m + 1 : Nat) : Int) := by omega
  have hml2 : (m : Int) < (m : Int) + 1 := by omega
  have HRI2 : Hid (∀ W, Below w.heap.size w W → Calls Tryz.prog 44 #[.agg #[.slice a L.length cap], .string ⟨nl.toArray⟩] W fun e w' => (∃ u, e = .returned u ∧ OwnS w' w.heap.size u (reach L nl)) ∧ Below W.heap.size W w') := HRI.out hG
  rw [hG] at HG
  clear HOFF HON HRI hG hdo hm ht
  go_enter Tryz.func22, Tryz.ntmps22
  go_wp2_with fail
  rw [HWB.out]
  refine (HZO2.out _ hbw).mono ?_
  rintro e w1 ⟨⟨z, az, cz, rfl, hz9, hr9⟩, hb1⟩
  clear hz9 hr9
  have hB1 : Below WB.heap.size WB (w1.alloc (.cells #[.string ⟨z.1.toArray⟩, .int .i64 z.2.1, .slice az z.2.2.length cz] 52)) := Below.alloc hb1 hb1.size _
  obtain ⟨k1, hbw1⟩ := HCB.out _ hB1
  simp only [Option.isSome_some]
  go_wp2_with fail
  refine (HG.out _ hbw1).mono ?_
  rintro e w2 ⟨rfl, hb2⟩
  have hB2 : Below WB.heap.size WB w2 := hB1.trans (hb2.mono hB1.size)
  obtain ⟨k2, hbw2⟩ := HCB.out w2 hB2
  clear k1 k0
  go_wp2_with fail
  refine (HRI2.out _ hbw2).mono ?_
  rintro e w3 ⟨⟨u, rfl, hu⟩, hb3⟩
  have hbw3 := hbw2.trans (hb3.mono hbw2.size)
  obtain ⟨g, cp, hue, hcp, hcm, hcell⟩ := HLAST.out w3 u hu
  subst hue
  clear hu HLAST
  go_wp2_with fail
  go_ret2
  exact ⟨by rw [HF.out.1, HF.out.2]; rfl, hbw3⟩
end Go.Proofs.YtgfldenhhogpbaaGreatDoor
