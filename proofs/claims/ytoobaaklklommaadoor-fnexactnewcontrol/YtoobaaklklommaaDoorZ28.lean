import Derived.Test.YtoobaaklklommaaDoorZ21
import Derived.Test.YtoobaaklklommaaDoorZ15
import Derived.Test.YtoobaaklklommaaDoorZ25
import Derived.Test.YtoobaaklklommaaDoorZ27
namespace Go.Proofs.YtoobaaklklommaaDoor
open Go.RowKit

/-- A counter's serial, as a text. -/
def serT (ct : Int) : List UInt8 := numL (ct % 4294967296).toNat

set_option maxRecDepth 20000 in
set_option maxHeartbeats 400000 in
theorem serialText_any (ct : Int) (w : World) (hc : inB ct 0 1152921504606846976 = true) (hE : EnvT w) :
    Calls Tryd.prog 36 #[.int .i64 ct] w fun e w' => e = .returned (.string ⟨(serT ct).toArray⟩) ∧ Below w.heap.size w w' := by
  have HC : Hid (∀ W, EnvT W → Calls Tryd.prog 43 #[.int .i64 (ct % 4294967296)] W fun e w' => e = .returned (.string ⟨(serT ct).toArray⟩) ∧ Below W.heap.size W w') := fun W hW => by
    have h := itoaT_nat (ct % 4294967296).toNat W (by omega) hW
    rw [show (((ct % 4294967296).toNat : Nat) : Int) = ct % 4294967296 by omega] at h
    exact h
  go_enter Tryd.func36, Tryd.ntmps36
  go_wp2_with fail
  refine (iSerialOf_any ct w).mono ?_
  rintro e w1 ⟨rfl, rfl⟩
  unfold ofV
  rw [if_pos hc]
  go_wp2_with fail
  refine (HC.out _ hE).mono ?_
  rintro e w2 ⟨rfl, hb⟩
  go_wp2_with fail
  go_ret
  exact ⟨rfl, hb⟩

set_option maxRecDepth 20000 in
set_option maxHeartbeats 1000000 in
theorem copyZone_any (nm : ByteArray) (ct : Int) (v : Value) (L : List (List UInt8 × Int × Int × List UInt8)) (w : World) (hn : nm.size ≤ 1048576) (hr : RRow w v L) (hl : L.length ≤ 1048576)
    (hx : Hid (∀ x ∈ L, x.1.length ≤ 1048576 ∧ x.2.2.2.length ≤ 1048576)) :
    Calls Tryd.prog 35 #[ZonV nm ct v] w fun e w' => (∃ u, e = .returned (ZonV nm ct u) ∧ OwnQ w' w.heap.size u L) ∧ Below w.heap.size w w' := by
  unfold ZonV
  obtain ⟨aa, ca, rfl, _, hca, _⟩ := id hr
  have HRA : Hid (∀ W, Below w.heap.size w W → RRow W (.slice aa L.length ca) L) := fun W hW => hr.kept hW
  clear hr
  go_enter Tryd.func35, Tryd.ntmps35
  go_wp2_with fail
  refine (cloneR_any nm _ (by omega)).mono ?_
  rintro e w1 ⟨rfl, hb1⟩
  obtain ⟨hm, hr, hbw1⟩ := heaps2 hb1
  have hz1 : w.heap.size + 2 ≤ w1.heap.size := by have h := hb1.size; simpa using h
  have HM1 : Hid (w1.heap[w.heap.size]? = some (.cells #[.string nm, .int .i64 ct, .slice aa L.length ca] 24)) := hm
  have HR1 : Hid (w1.heap[w.heap.size + 1]? = some (.cells #[.string ⟨#[]⟩, .int .i64 0, .slice none 0 0] 24)) := hr
  obtain ⟨⟨c0, c1, c2⟩, ⟨f0, f1, f2⟩⟩ := zon_cells hm
  clear hb1 hm hr
  have hbw1s : Below w.heap.size w (w1.setCell ⟨w.heap.size, 0, none⟩ (.string nm)) := hbw1.setCell (p := ⟨w.heap.size, 0, none⟩) (Nat.le_refl _) _
  go_wp2_with fail
  refine (copyRecords_any _ L _ (HRA.out _ hbw1s) hl hx).mono ?_
  rintro e w2 ⟨u1, rfl, ho1, hb2⟩
  obtain ⟨a1, k1, hu1, hk1⟩ := ho1.shape
  subst hu1
  clear c0 c1 c2 f0 f1 f2
  have HO1 : Hid (OwnQ w2 (w.heap.size + 2) (.slice a1 L.length k1) L) := by
    have h : OwnQ w2 w1.heap.size (.slice a1 L.length k1) L := by simpa using ho1
    exact h.base hz1
  have HM2 : Hid (w2.heap[w.heap.size]? = some (.cells #[.string nm, .int .i64 ct, .slice aa L.length ca] 24)) := by
    have e1 := heap_setCell_same _ _ 0 _ _ (.string nm) HM1.out
    exact ((hb2.block w.heap.size (by simp; omega)).trans e1).trans (by rfl)
  have HR2 : Hid (w2.heap[w.heap.size + 1]? = some (.cells #[.string ⟨#[]⟩, .int .i64 0, .slice none 0 0] 24)) := by
    show w2.heap[w.heap.size + 1]? = _
    rw [hb2.block (w.heap.size + 1) (by simp; omega), heap_setCell_other _ _ _ _ (show w.heap.size + 1 ≠ w.heap.size by omega)]; exact HR1.out
  have hbw2 : Below w.heap.size w w2 := hbw1s.trans (hb2.mono (by simpa using hbw1.size))
  have hbw2s : Below w.heap.size w (w2.setCell ⟨w.heap.size, 2, none⟩ (.slice a1 L.length k1)) := hbw2.setCell (p := ⟨w.heap.size, 2, none⟩) (Nat.le_refl _) _
  have HR3 : Hid ((w2.setCell ⟨w.heap.size, 2, none⟩ (.slice a1 L.length k1)).heap[w.heap.size + 1]? = some (.cells #[.string ⟨#[]⟩, .int .i64 0, .slice none 0 0] 24)) := by
    show (w2.setCell ⟨w.heap.size, 2, none⟩ (.slice a1 L.length k1)).heap[w.heap.size + 1]? = _
    rw [heap_setCell_other _ _ _ _ (show w.heap.size + 1 ≠ w.heap.size by omega)]; exact HR2.out
  obtain ⟨⟨c0, c1, c2⟩, ⟨f0, f1, f2⟩⟩ := zon_cells HM2.out
  obtain ⟨⟨d0, d1, d2⟩, ⟨g0, g1, g2⟩⟩ := zon_cells HR2.out
  clear ho1 hb2 HM1 HR1
  go_wp2_with fail
  (try simp only [Exit.inBlock, Exit.then])
  refine bodyPost_ret (results_cell_row rfl _ _ (w.heap.size + 1) 24 #[.string nm, .int .i64 ct, .slice a1 L.length k1] (0, 0) _ rfl ?_ Tryd.underlying24 rfl (by kernel_rfl)) rfl ⟨⟨_, rfl, ?_⟩, ?_⟩
  · exact put3_heap HR3.out
  · exact ((HO1.out.kpt (kpt_set w2 w.heap.size 2 (.slice a1 L.length k1) (S := fun k => k = w.heap.size) rfl) (fun g hg h => by have h1 := HO1.out.lt g hg; omega)).kpt (kpt_put3 _ (w.heap.size + 1) _ _ _ (S := fun k => k = w.heap.size + 1) rfl) (fun g hg h => by have h1 := HO1.out.lt g hg; omega)).base (by omega)
  · exact put3_below hbw2s (Nat.le_succ _) _ _ _
end Go.Proofs.YtoobaaklklommaaDoor

namespace Go.Proofs.YtoobaaklklommaaDoor
open Go.RowKit

/-- A record, with the serial of a counter where it is of type 6. -/
def soaD (ct : Int) (x : (List UInt8 × Int × Int × List UInt8)) : (List UInt8 × Int × Int × List UInt8) := if x.2.1 = 6 then (x.1, x.2.1, x.2.2.1, serT ct) else x

/-- The first ones with their serial, the others as they were. -/
def soaM (ct : Int) (L : List (List UInt8 × Int × Int × List UInt8)) (k : Nat) : List (List UInt8 × Int × Int × List UInt8) := (L.take k).map (soaD ct) ++ L.drop k
theorem soaM_length (ct : Int) (L : List (List UInt8 × Int × Int × List UInt8)) (k : Nat) : (soaM ct L k).length = L.length := by
  unfold soaM; simp; omega
theorem soaM_zero (ct : Int) (L : List (List UInt8 × Int × Int × List UInt8)) : soaM ct L 0 = L := by unfold soaM; simp
theorem soaM_end (ct : Int) (L : List (List UInt8 × Int × Int × List UInt8)) {k : Nat} (h : L.length ≤ k) : soaM ct L k = L.map (soaD ct) := by
  unfold soaM; rw [List.take_of_length_le h, List.drop_eq_nil_of_le h, List.append_nil]
theorem soaM_get (ct : Int) (L : List (List UInt8 × Int × Int × List UInt8)) {k : Nat} (h : k < L.length) : (soaM ct L k)[k]'(by rw [soaM_length]; exact h) = L[k] := by
  unfold soaM
  rw [List.getElem_append_right (by simp; omega)]
  simp [Nat.min_eq_left (Nat.le_of_lt h)]
theorem soaM_next (ct : Int) (L : List (List UInt8 × Int × Int × List UInt8)) {k : Nat} (h : k < L.length) : soaM ct L (k + 1) = (soaM ct L k).set k (soaD ct L[k]) := by
  unfold soaM
  rw [List.take_succ_eq_append_getElem h, List.map_append, List.set_append_right _ _ (by simp [Nat.min_eq_left (Nat.le_of_lt h)])]
  have e : L.drop k = L[k] :: L.drop (k + 1) := List.drop_eq_getElem_cons h
  simp [Nat.min_eq_left (Nat.le_of_lt h)]
  rw [e]; rfl
theorem soaM_same (ct : Int) (L : List (List UInt8 × Int × Int × List UInt8)) {k : Nat} (h : k < L.length) (h6 : ¬ L[k].2.1 = 6) : soaM ct L (k + 1) = soaM ct L k := by
  rw [soaM_next ct L h]
  have e : soaD ct L[k] = (soaM ct L k)[k]'(by rw [soaM_length]; exact h) := by rw [soaM_get ct L h]; exact if_neg h6
  rw [e, List.set_getElem_self]
theorem soaM_put (ct : Int) (L : List (List UInt8 × Int × Int × List UInt8)) {k : Nat} (h : k < L.length) (h6 : L[k].2.1 = 6) : soaM ct L (k + 1) = (soaM ct L k).set k (L[k].1, L[k].2.1, L[k].2.2.1, serT ct) := by
  rw [soaM_next ct L h]; exact congrArg _ (if_pos h6)

set_option maxRecDepth 20000 in
set_option maxHeartbeats 2000000 in
theorem zoneAt_any (nm : ByteArray) (ct : Int) (v : Value) (L : List (List UInt8 × Int × Int × List UInt8)) (w : World) (hn : nm.size ≤ 1048576) (hr : RRow w v L) (hl : L.length ≤ 1048576)
    (hx : Hid (∀ x ∈ L, x.1.length ≤ 1048576 ∧ x.2.2.2.length ≤ 1048576)) (hc : inB ct 0 1152921504606846976 = true) (hE : EnvT w) :
    Calls Tryd.prog 29 #[.string nm, .int .i64 ct, v] w fun e w' => (∃ u, e = .returned (ZonV nm ct u) ∧ OwnQ w' w.heap.size u (L.map (soaD ct))) ∧ Below w.heap.size w w' := by
  obtain ⟨aa, ca, rfl, _, hca, _⟩ := id hr
  have HRA : Hid (∀ W, Below w.heap.size w W → RRow W (.slice aa L.length ca) L) := fun W hW => hr.kept hW
  clear hr
  go_enter Tryd.func29, Tryd.ntmps29
  go_wp2_with fail
  refine (copyZone_any nm ct _ L _ hn (HRA.out _ ((Below.refl w.heap.size w).alloc (Nat.le_refl _) _)) hl hx).mono ?_
  rintro e w1 ⟨⟨u1, rfl, ho1⟩, hb1⟩
  obtain ⟨a1, k1, hu1, hk1⟩ := ho1.shape
  subst hu1
  unfold ZonV
  have HZ1 : Hid ((w1.alloc (.cells #[.string nm, .int .i64 ct, .slice a1 L.length k1] 24)).heap[w1.heap.size]? = some (.cells #[.string nm, .int .i64 ct, .slice a1 L.length k1] 24)) := blk_new _ _
  have HR1 : Hid ((w1.alloc (.cells #[.string nm, .int .i64 ct, .slice a1 L.length k1] 24)).heap[w.heap.size]? = some (.cells #[.string ⟨#[]⟩, .int .i64 0, .slice none 0 0] 24)) := by
    have h1 : w1.heap[w.heap.size]? = _ := (hb1.block w.heap.size (by simp)).trans (blk_new _ _)
    have h2 := ((Below.refl w1.heap.size w1).alloc (Nat.le_refl _) (.cells #[.string nm, .int .i64 ct, .slice a1 L.length k1] 24)).block w.heap.size (Nat.lt_of_lt_of_le (by simp) hb1.size)
    exact h2.trans h1
  have hbw1 : Below w.heap.size w w1 := ((Below.refl w.heap.size w).alloc (Nat.le_refl _) _).trans (hb1.mono (by simp))
  have hz1 : w.heap.size < w1.heap.size := Nat.lt_of_lt_of_le (by simp) hb1.size
  have HO1 : Hid (OwnQ (w1.alloc (.cells #[.string nm, .int .i64 ct, .slice a1 L.length k1] 24)) (w.heap.size + 1) (.slice a1 L.length k1) (soaM ct L 0)) := by
    have h : OwnQ w1 (w.heap.size + 1) (.slice a1 L.length k1) L := by simpa using ho1
    show OwnQ _ _ _ _
    rw [soaM_zero]; exact h.kept ((Below.refl w1.heap.size w1).alloc (Nat.le_refl _) _)
  have HLT : Hid (∀ g, (Value.slice a1 L.length k1).ownBlock = some g → w.heap.size < g ∧ g < w1.heap.size) := fun g hg => by
    have h := ho1.lt g hg
    have h1 : w.heap.size + 1 ≤ g := by simpa using h.1
    exact ⟨by omega, h.2⟩
  have hbW : Below w.heap.size w (w1.alloc (.cells #[.string nm, .int .i64 ct, .slice a1 L.length k1] 24)) := hbw1.alloc hbw1.size _
  have hzs : w1.heap.size < (w1.alloc (.cells #[.string nm, .int .i64 ct, .slice a1 L.length k1] 24)).heap.size := by simp
  clear ho1 hb1 HRA
  unfold maxLen at hk1
  go_wp2_with fail
  obtain ⟨W1, hW1⟩ : ∃ W1, W1 = w1.alloc (.cells #[.string nm, .int .i64 ct, .slice a1 L.length k1] 24) := ⟨_, rfl⟩
  rw [← hW1] at HZ1 HR1 HO1 hbW hzs ⊢
  clear hW1
  go_loopw [18] (fun i wr => ∃ k : Nat, k ≤ L.length ∧ i = .int .i64 (k : Int) ∧ Hid (OwnQ wr (w.heap.size + 1) (.slice a1 L.length k1) (soaM ct L k)) ∧ Hid (wr.heap[w1.heap.size]? = some (.cells #[.string nm, .int .i64 ct, .slice a1 L.length k1] 24)) ∧ Hid (wr.heap[w.heap.size]? = some (.cells #[.string ⟨#[]⟩, .int .i64 0, .slice none 0 0] 24)) ∧ Below w.heap.size w wr ∧ w1.heap.size < wr.heap.size) (fun i _ => L.length - (intOf i).toNat)
  case atStart => exact ⟨0, Nat.zero_le _, rfl, HO1, HZ1, HR1, hbW, hzs⟩
  case round =>
    obtain ⟨k, hk, rfl, HO, HZ, HR, hb, hzr⟩ := hrel
    by_cases hlt : k < L.length
    · have hl0 : (soaM ct L k).length = L.length := soaM_length ct L k
      rcases HO.out with ⟨_, h0⟩ | ⟨g, cap, hv, hc1, hc2, hbase, hq⟩
      · rw [h0] at hl0; simp at hl0; omega
      · injection hv with hva hvb hvc
        subst hva
        subst hvc
        clear hvb
        have hcx := (hq.2 k (by omega)).1
        have hfz := (hq.2 k (by omega)).2
        rw [soaM_get ct L hlt] at hcx
        have HQ : Hid (QRow wr g (soaM ct L k)) := hq
        have hgl : g < w1.heap.size := (HLT.out g rfl).2
        have hgw : w.heap.size < g := (HLT.out g rfl).1
        have HSAME : Hid (¬ (L[k]'hlt).2.1 = 6 → soaM ct L (k + 1) = soaM ct L k) := fun h => soaM_same ct L hlt h
        have HPUT : Hid ((L[k]'hlt).2.1 = 6 → soaM ct L (k + 1) = (soaM ct L k).set k ((L[k]'hlt).1, (L[k]'hlt).2.1, (L[k]'hlt).2.2.1, serT ct)) := fun h => soaM_put ct L hlt h
        have HGET : Hid ((soaM ct L k)[k]'(by rw [soaM_length]; exact hlt) = L[k]'hlt) := soaM_get ct L hlt
        obtain ⟨x, hxe⟩ : ∃ x, x = L[k]'hlt := ⟨_, rfl⟩
        rw [← hxe] at hcx HSAME HPUT HGET
        unfold RecAt at hcx
        obtain ⟨q0, q1, q2, q3⟩ := hcx
        obtain ⟨xn, xt, xl, xd⟩ := x
        simp only at q0 q1 q2 q3
        clear hq hxe hl0
        obtain ⟨z0, z1, z2⟩ := (zon_cells HZ.out).1
        by_cases h6 : xt = 6
        · subst h6
          have HN : Hid (soaM ct L (k + 1) = (soaM ct L k).set k (xn, 6, xl, serT ct)) := HPUT.out rfl
          have HST : Hid (∀ W, Below wr.heap.size wr W → Calls Tryd.prog 36 #[.int .i64 ct] W fun e w' => e = .returned (.string ⟨(serT ct).toArray⟩) ∧ Below W.heap.size W w') := fun W hW => serialText_any ct W hc (hE.below (hb.trans (hW.mono hb.size)))
          have HX : Hid (∀ W, Below wr.heap.size wr W → W.cell? ⟨w1.heap.size, 2, none⟩ = some (.slice (some ⟨g, 0, none⟩) L.length k1) ∧ W.cell? ⟨g, k * 4 + 3, none⟩ = some (.string ⟨xd.toArray⟩) ∧ W.frozen? ⟨g, k * 4 + 3, none⟩ = false ∧ Below wr.heap.size wr W) := fun W hW => by
            have hq := (HQ.out.kept hW).2 k (by rw [soaM_length]; exact hlt)
            have h3 := hq.1.2.2.2
            rw [HGET.out] at h3
            exact ⟨(zon_cells ((hW.block _ hzr).trans HZ.out)).1.2.2, h3, hq.2.2.2.2, hW⟩
          have HTR : Hid (∀ W W', Below wr.heap.size wr W → Below W.heap.size W W' → Below wr.heap.size wr W') := fun W W' h1 h2 => h1.trans (h2.mono h1.size)
          have KEY : Hid (∀ W, Below wr.heap.size wr W → Hid (OwnQ (W.setCell ⟨g, k * 4 + 3, none⟩ (.string ⟨(serT ct).toArray⟩)) (w.heap.size + 1) (.slice (some ⟨g, 0, none⟩) L.length k1) (soaM ct L (k + 1))) ∧ Hid ((W.setCell ⟨g, k * 4 + 3, none⟩ (.string ⟨(serT ct).toArray⟩)).heap[w1.heap.size]? = some (.cells #[.string nm, .int .i64 ct, .slice (some ⟨g, 0, none⟩) L.length k1] 24)) ∧ Hid ((W.setCell ⟨g, k * 4 + 3, none⟩ (.string ⟨(serT ct).toArray⟩)).heap[w.heap.size]? = some (.cells #[.string ⟨#[]⟩, .int .i64 0, .slice none 0 0] 24)) ∧ Below w.heap.size w (W.setCell ⟨g, k * 4 + 3, none⟩ (.string ⟨(serT ct).toArray⟩)) ∧ w1.heap.size < (W.setCell ⟨g, k * 4 + 3, none⟩ (.string ⟨(serT ct).toArray⟩)).heap.size) := fun W hW => by
            have hq := (HQ.out.kept hW).set3 k (by rw [soaM_length]; exact hlt) (serT ct)
            rw [HGET.out, ← HN.out] at hq
            refine ⟨?_, ?_, ?_, ?_, ?_⟩
            · show OwnQ _ _ _ _
              exact .inr ⟨g, k1, by rw [soaM_length], by rw [soaM_length]; rw [soaM_length] at hc1; exact hc1, hk1, by omega, hq⟩
            · show (W.setCell ⟨g, k * 4 + 3, none⟩ (.string ⟨(serT ct).toArray⟩)).heap[w1.heap.size]? = _
              rw [heap_setCell_other _ _ _ _ (show w1.heap.size ≠ g by omega)]; exact (hW.block _ hzr).trans HZ.out
            · show (W.setCell ⟨g, k * 4 + 3, none⟩ (.string ⟨(serT ct).toArray⟩)).heap[w.heap.size]? = _
              rw [heap_setCell_other _ _ _ _ (show w.heap.size ≠ g by omega)]; exact (hW.block _ (by omega)).trans HR.out
            · exact (hb.trans (hW.mono hb.size)).setCell (p := ⟨g, k * 4 + 3, none⟩) (by show w.heap.size ≤ g; omega) _
            · have := hW.size; simp; omega
          obtain ⟨sd, hsd⟩ : ∃ sd, sd = serT ct := ⟨_, rfl⟩
          rw [← hsd] at HST KEY
          clear hsd HPUT HSAME HN hc1
          have hbk : Below wr.heap.size wr (wr.alloc (.cells #[.string ⟨xn.toArray⟩, .int .i64 6, .int .i64 xl, .string ⟨xd.toArray⟩] 42)) := (Below.refl _ _).alloc (Nat.le_refl _) _
          go_wp2_with fail
          obtain ⟨WA, hWA⟩ : ∃ WA, WA = wr.alloc (.cells #[.string ⟨xn.toArray⟩, .int .i64 6, .int .i64 xl, .string ⟨xd.toArray⟩] 42) := ⟨_, rfl⟩
          rw [← hWA] at hbk ⊢
          obtain ⟨y2, y3, yf, _⟩ := HX.out _ hbk
          have hbd := hbk.drew
          clear hWA
          go_region_with (go_at_call 36; refine (HST.out _ hbd).mono ?_; rintro e w2 ⟨rfl, hb2⟩; obtain ⟨t2, t3, tf, hbw2⟩ := HX.out _ (HTR.out _ _ hbd hb2))
          all_goals
            have KW := KEY.out _ hbw2
            go_wp2_with fail
            go_roundw
            case rel => exact ⟨k + 1, by omega, by go_num, KW.1, KW.2.1, KW.2.2.1, KW.2.2.2.1, KW.2.2.2.2⟩
            case measure => simp [intOf]; omega
        · have HN := HSAME.out h6
          have hbk : Below wr.heap.size wr (wr.alloc (.cells #[.string ⟨xn.toArray⟩, .int .i64 xt, .int .i64 xl, .string ⟨xd.toArray⟩] 42)) := (Below.refl _ _).alloc (Nat.le_refl _) _
          go_wp2_with fail
          go_roundw
          case rel => exact ⟨k + 1, by omega, by go_num, by rw [HN]; exact HO.out.kept hbk, (hbk.block _ hzr).trans HZ.out, (hbk.block _ (by omega)).trans HR.out, hb.alloc hb.size _, by simp; omega⟩
          case measure => simp [intOf]; omega
    · obtain ⟨⟨c0, c1, c2⟩, ⟨f0, f1, f2⟩⟩ := zon_cells HZ.out
      obtain ⟨⟨d0, d1, d2⟩, ⟨g0, g1, g2⟩⟩ := zon_cells HR.out
      have HOE : Hid (OwnQ wr (w.heap.size + 1) (.slice a1 L.length k1) (L.map (soaD ct))) := by
        have h := HO.out
        rw [soaM_end ct L (by omega)] at h
        exact h
      go_wp2_with fail
      (try simp only [Exit.inBlock, Exit.then])
      refine bodyPost_ret (results_cell_row rfl _ _ w.heap.size 24 #[.string nm, .int .i64 ct, .slice a1 L.length k1] (0, 0) _ rfl ?_ Tryd.underlying24 rfl (by kernel_rfl)) rfl ⟨⟨_, rfl, ?_⟩, ?_⟩
      · exact put3_heap HR.out
      · exact (HOE.out.kpt (kpt_put3 _ w.heap.size _ _ _ (S := fun k => k = w.heap.size) rfl) (fun g hg h => by have h1 := HLT.out g hg; omega)).base (by omega)
      · exact put3_below hb (Nat.le_refl _) _ _ _
end Go.Proofs.YtoobaaklklommaaDoor

namespace Go.Proofs.YtoobaaklklommaaDoor
open Go.RowKit

/-- What NewZone tells. -/
def newN (s : ByteArray) : ByteArray := if apexB s.data.toList = true then s else ⟨#[]⟩
def newR (s : ByteArray) : List (List UInt8 × Int × Int × List UInt8) := if apexB s.data.toList = true then [(s.data.toList, 6, 60, [48])] else []
theorem box3z {w W : World} {o : Obj} (hb : Below (w.alloc o).heap.size (w.alloc o) W) : W.heap[w.heap.size]? = some o ∧ Below w.heap.size w W ∧ w.heap.size < W.heap.size :=
  ⟨(hb.block w.heap.size (by simp)).trans (blk_new _ _), ((Below.refl w.heap.size w).alloc (Nat.le_refl _) _).trans (hb.mono (by simp)), Nat.lt_of_lt_of_le (by simp) hb.size⟩

set_option maxRecDepth 20000 in
set_option maxHeartbeats 2000000 in
theorem iNewZone_any (s : ByteArray) (w : World) (hs : s.size ≤ 1048576) (hE : EnvT w) :
    Calls Tryd.prog 21 #[.string s] w fun e w' => ZOwn w' w.heap.size (apexB s.data.toList) (newN s) 0 (newR s) e ∧ Below w.heap.size w w' := by
  cases hA : apexB s.data.toList with
  | false =>
    have HN : Hid (newN s = ⟨#[]⟩ ∧ newR s = []) := ⟨if_neg (by rw [hA]; simp), if_neg (by rw [hA]; simp)⟩
    go_enter Tryd.func21, Tryd.ntmps21
    go_wp2_with fail
    refine (isApex_any s _ (hE.1.below ((Below.refl _ _).alloc (Nat.le_refl _) _))).mono ?_
    rintro e w1 ⟨rfl, hb1⟩
    rw [hA]
    obtain ⟨hr, hbw, hz⟩ := box3z hb1
    have HR : Hid (w1.heap[w.heap.size]? = some (.cells #[.string ⟨#[]⟩, .int .i64 0, .slice none 0 0] 24)) := hr
    obtain ⟨⟨c0, c1, c2⟩, ⟨f0, f1, f2⟩⟩ := zon_cells hr
    clear hr hb1
    go_wp2_with fail
    (try simp only [Exit.inBlock, Exit.then])
    refine bodyPost_ret (results_row_tmp rfl _ _ w.heap.size 24 #[.string ⟨#[]⟩, .int .i64 0, .slice none 0 0] (0, 0) _ (.bool false) rfl rfl ?_ Tryd.underlying24 rfl (by kernel_rfl)) rfl ⟨⟨.slice none 0 0, ?_, ?_⟩, ?_⟩
    · exact put3_heap HR.out
    · rw [HN.out.1]; rfl
    · rw [HN.out.2]; exact .inl ⟨rfl, rfl⟩
    · exact put3_below hbw (Nat.le_refl _) _ _ _
  | true =>
    have HN : Hid (newN s = s ∧ newR s = [(s.data.toList, 6, 60, [48])]) := ⟨if_pos hA, if_pos hA⟩
    go_enter Tryd.func21, Tryd.ntmps21
    go_wp2_with fail
    refine (isApex_any s _ (hE.1.below ((Below.refl _ _).alloc (Nat.le_refl _) _))).mono ?_
    rintro e w1 ⟨rfl, hb1⟩
    rw [hA]
    obtain ⟨hr, hbw, hz⟩ := box3z hb1
    have HR : Hid (w1.heap[w.heap.size]? = some (.cells #[.string ⟨#[]⟩, .int .i64 0, .slice none 0 0] 24)) := hr
    clear hr hb1
    go_wp2_with fail
    have hs2 : (⟨s.data.toList.toArray⟩ : ByteArray) = s := (data_eq (s := s) rfl).symm
    have HRW : Hid (RRow (w1.alloc (.cells #[.string s, .int .i64 6, .int .i64 60, .string ⟨#[]⟩] 42)) (.slice (some ⟨w1.heap.size, 0, none⟩) 1 1) [(s.data.toList, 6, 60, [])]) := by
      have h := rrow_one w1 (s.data.toList, 6, 60, []) 42 w1.heap.size rfl
      simp only [hs2] at h
      exact h
    have hbA : Below w.heap.size w (w1.alloc (.cells #[.string s, .int .i64 6, .int .i64 60, .string ⟨#[]⟩] 42)) := hbw.alloc hbw.size _
    have HRA : Hid ((w1.alloc (.cells #[.string s, .int .i64 6, .int .i64 60, .string ⟨#[]⟩] 42)).heap[w.heap.size]? = some (.cells #[.string ⟨#[]⟩, .int .i64 0, .slice none 0 0] 24)) := (((Below.refl w1.heap.size w1).alloc (Nat.le_refl _) _).block _ hz).trans HR.out
    refine (zoneAt_any s 0 _ [(s.data.toList, 6, 60, [])] _ hs HRW.out (by simp) (fun x hx => by
      obtain rfl : x = (s.data.toList, 6, 60, []) := by simpa using hx
      have : s.data.toList.length = s.size := by simp
      exact ⟨by show s.data.toList.length ≤ 1048576; omega, by simp⟩) (by decide) (hE.below hbA)).mono ?_
    rintro e w2 ⟨⟨u, rfl, ho⟩, hb2⟩
    obtain ⟨a1, k1, hu, hk1⟩ := ho.shape
    subst hu
    unfold ZonV
    have HO : Hid (OwnQ w2 (w.heap.size + 1) (.slice a1 1 k1) [(s.data.toList, 6, 60, [48])]) := by
      have em : List.map (soaD 0) [(s.data.toList, 6, 60, [])] = [(s.data.toList, (6 : Int), (60 : Int), [(48 : UInt8)])] := by
        have e0 : serT 0 = [48] := by unfold serT; exact numL_small (by decide)
        simp [soaD, e0]
      rw [em] at ho
      exact ho.base (by simp; omega)
    have HR2 : Hid (w2.heap[w.heap.size]? = some (.cells #[.string ⟨#[]⟩, .int .i64 0, .slice none 0 0] 24)) := (hb2.block _ (by simp; omega)).trans HRA.out
    have hbw2 : Below w.heap.size w w2 := hbA.trans (hb2.mono hbA.size)
    obtain ⟨⟨c0, c1, c2⟩, ⟨f0, f1, f2⟩⟩ := zon_cells HR2.out
    clear ho hb2 HRW HRA HR
    simp only [List.length_map, List.length_cons, List.length_nil]
    go_wp2_with fail
    (try simp only [Exit.inBlock, Exit.then])
    refine bodyPost_ret (results_row_tmp rfl _ _ w.heap.size 24 #[.string s, .int .i64 0, .slice a1 1 k1] (0, 0) _ (.bool true) rfl rfl ?_ Tryd.underlying24 rfl (by kernel_rfl)) rfl ⟨⟨.slice a1 1 k1, ?_, ?_⟩, ?_⟩
    · exact put3_heap HR2.out
    · rw [HN.out.1]; rfl
    · rw [HN.out.2]; exact (HO.out.kpt (kpt_put3 _ w.heap.size _ _ _ (S := fun k => k = w.heap.size) rfl) (fun g hg h => by have h1 := HO.out.lt g hg; omega)).base (by omega)
    · exact put3_below hbw2 (Nat.le_refl _) _ _ _

set_option maxRecDepth 20000 in
set_option maxHeartbeats 2000000 in
theorem sNewZone_any (s : ByteArray) (w : World) (hs : s.size ≤ 1048576) :
    Calls Tryd.prog 9 #[.string s] w fun e w' => ZRes w' (apexB s.data.toList) (newN s) 0 (newR s) e ∧ Below w.heap.size w w' := by
  cases hA : apexB s.data.toList with
  | false =>
    have HN : Hid (newN s = ⟨#[]⟩ ∧ newR s = []) := ⟨if_neg (by rw [hA]; simp), if_neg (by rw [hA]; simp)⟩
    go_enter Tryd.func9, Tryd.ntmps9
    go_wp2_with fail
    refine (l6Apex_any s _ (by omega)).mono ?_
    rintro e w1 ⟨rfl, hb1⟩
    rw [hA]
    obtain ⟨hr, hbw, hz⟩ := box3z hb1
    have HR : Hid (w1.heap[w.heap.size]? = some (.cells #[.string ⟨#[]⟩, .int .i64 0, .slice none 0 0] 24)) := hr
    obtain ⟨⟨c0, c1, c2⟩, ⟨f0, f1, f2⟩⟩ := zon_cells hr
    clear hr hb1
    go_wp2_with fail
    (try simp only [Exit.inBlock, Exit.then])
    refine bodyPost_ret (results_row_tmp rfl _ _ w.heap.size 24 #[.string ⟨#[]⟩, .int .i64 0, .slice none 0 0] (0, 0) _ (.bool false) rfl rfl ?_ Tryd.underlying24 rfl (by kernel_rfl)) rfl ⟨⟨.slice none 0 0, ?_, ?_⟩, ?_⟩
    · exact put3_heap HR.out
    · rw [HN.out.1]; rfl
    · rw [HN.out.2]; exact rrow_nil _
    · exact put3_below hbw (Nat.le_refl _) _ _ _
  | true =>
    have HN : Hid (newN s = s ∧ newR s = [(s.data.toList, 6, 60, [48])]) := ⟨if_pos hA, if_pos hA⟩
    go_enter Tryd.func9, Tryd.ntmps9
    go_wp2_with fail
    refine (l6Apex_any s _ (by omega)).mono ?_
    rintro e w1 ⟨rfl, hb1⟩
    rw [hA]
    obtain ⟨hr, hbw, hz⟩ := box3z hb1
    have HR : Hid (w1.heap[w.heap.size]? = some (.cells #[.string ⟨#[]⟩, .int .i64 0, .slice none 0 0] 24)) := hr
    obtain ⟨⟨c0, c1, c2⟩, ⟨f0, f1, f2⟩⟩ := zon_cells hr
    clear hr hb1
    go_wp2_with fail
    have hs2 : (⟨s.data.toList.toArray⟩ : ByteArray) = s := (data_eq (s := s) rfl).symm
    (try simp only [Exit.inBlock, Exit.then])
    refine bodyPost_ret (results_row_tmp rfl _ _ w.heap.size 24 #[.string s, .int .i64 0, .slice (some ⟨w1.heap.size, 0, none⟩) 1 1] (0, 0) _ (.bool true) rfl rfl ?_ Tryd.underlying24 rfl (by kernel_rfl)) rfl ⟨⟨.slice (some ⟨w1.heap.size, 0, none⟩) 1 1, ?_, ?_⟩, ?_⟩
    · have h : (put3 w1 w.heap.size (.string s) (.int .i64 0) (.slice (some ⟨w1.heap.size, 0, none⟩) 1 1)).heap[w.heap.size]? = _ := put3_heap HR.out
      exact (((Below.refl _ _).alloc (Nat.le_refl _) _).block w.heap.size (by simpa using hz)).trans h
    · rw [HN.out.1]; rfl
    · rw [HN.out.2]
      have h := rrow_one (put3 w1 w.heap.size (.string s) (.int .i64 0) (.slice (some ⟨w1.heap.size, 0, none⟩) 1 1)) (s.data.toList, 6, 60, [48]) 42 w1.heap.size (by simp [put3])
      simp only [hs2] at h
      exact h
    · exact (put3_below hbw (Nat.le_refl _) _ _ _).alloc (by simp [put3]; omega) _
end Go.Proofs.YtoobaaklklommaaDoor
