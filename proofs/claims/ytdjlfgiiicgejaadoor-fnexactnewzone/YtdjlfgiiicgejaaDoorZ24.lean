import Derived.Test.YtdjlfgiiicgejaaDoorZ21
import Derived.Test.YtdjlfgiiicgejaaDoorZ15
import Derived.Test.YtdjlfgiiicgejaaDoorZ23
import Derived.Test.YtdjlfgiiicgejaaDoorZ08
namespace Go.Proofs.YtdjlfgiiicgejaaDoor
open Go.RowKit

/-- A counter's serial, as a text. -/
def serT (ct : Int) : List UInt8 := numL (ct % 4294967296).toNat

set_option maxRecDepth 20000 in
set_option maxHeartbeats 400000 in
theorem serialText_any (ct : Int) (w : World) (hc : inB ct 0 1152921504606846976 = true) (hE : EnvT w) :
    Calls Tryd.prog 18 #[.int .i64 ct] w fun e w' => e = .returned (.string ⟨(serT ct).toArray⟩) ∧ Below w.heap.size w w' := by
  have HC : Hid (∀ W, EnvT W → Calls Tryd.prog 28 #[.int .i64 (ct % 4294967296)] W fun e w' => e = .returned (.string ⟨(serT ct).toArray⟩) ∧ Below W.heap.size W w') := fun W hW => by
    have h := itoaT_nat (ct % 4294967296).toNat W (by omega) hW
    rw [show (((ct % 4294967296).toNat : Nat) : Int) = ct % 4294967296 by omega] at h
    exact h
  go_enter Tryd.func18, Tryd.ntmps18
  go_wp2_with fail
  refine (iSerialOf_any ct w).mono ?_
  rintro e w1 ⟨rfl, rfl⟩
  unfold ofV
  rw [if_pos hc]
  go_wp2_with fail
  refine (HC.out _ hE).mono ?_
  rintro e w2 ⟨rfl, hb⟩
  go_wp2_with fail
  go_ret
  exact ⟨rfl, hb⟩

set_option maxRecDepth 20000 in
set_option maxHeartbeats 1000000 in
theorem copyZone_any (nm : ByteArray) (ct : Int) (v : Value) (L : List (List UInt8 × Int × Int × List UInt8)) (w : World) (hn : nm.size ≤ 1048576) (hr : RRow w v L) (hl : L.length ≤ 1048576)
    (hx : Hid (∀ x ∈ L, x.1.length ≤ 1048576 ∧ x.2.2.2.length ≤ 1048576)) :
    Calls Tryd.prog 17 #[ZonV nm ct v] w fun e w' => (∃ u, e = .returned (ZonV nm ct u) ∧ OwnQ w' w.heap.size u L) ∧ Below w.heap.size w w' := by
  unfold ZonV
  obtain ⟨aa, ca, rfl, _, hca, _⟩ := id hr
  have HRA : Hid (∀ W, Below w.heap.size w W → RRow W (.slice aa L.length ca) L) := fun W hW => hr.kept hW
  clear hr
  go_enter Tryd.func17, Tryd.ntmps17
  go_wp2_with fail
  refine (cloneR_any nm _ (by omega)).mono ?_
  rintro e w1 ⟨rfl, hb1⟩
  obtain ⟨hm, hr, hbw1⟩ := heaps2 hb1
  have hz1 : w.heap.size + 2 ≤ w1.heap.size := by have h := hb1.size; simpa using h
  have HM1 : Hid (w1.heap[w.heap.size]? = some (.cells #[.string nm, .int .i64 ct, .slice aa L.length ca] 24)) := hm
  have HR1 : Hid (w1.heap[w.heap.size + 1]? = some (.cells #[.string ⟨#[]⟩, .int .i64 0, .slice none 0 0] 24)) := hr
  obtain ⟨⟨c0, c1, c2⟩, ⟨f0, f1, f2⟩⟩ := zon_cells hm
  clear hb1 hm hr
  have hbw1s : Below w.heap.size w (w1.setCell ⟨w.heap.size, 0, none⟩ (.string nm)) := hbw1.setCell (p := ⟨w.heap.size, 0, none⟩) (Nat.le_refl _) _
  go_wp2_with fail
  refine (copyRecords_any _ L _ (HRA.out _ hbw1s) hl hx).mono ?_
  rintro e w2 ⟨u1, rfl, ho1, hb2⟩
  obtain ⟨a1, k1, hu1, hk1⟩ := ho1.shape
  subst hu1
  clear c0 c1 c2 f0 f1 f2
  have HO1 : Hid (OwnQ w2 (w.heap.size + 2) (.slice a1 L.length k1) L) := by
    have h : OwnQ w2 w1.heap.size (.slice a1 L.length k1) L := by simpa using ho1
    exact h.base hz1
  have HM2 : Hid (w2.heap[w.heap.size]? = some (.cells #[.string nm, .int .i64 ct, .slice aa L.length ca] 24)) := by
    have e1 := heap_setCell_same _ _ 0 _ _ (.string nm) HM1.out
    exact ((hb2.block w.heap.size (by simp; omega)).trans e1).trans (by rfl)
  have HR2 : Hid (w2.heap[w.heap.size + 1]? = some (.cells #[.string ⟨#[]⟩, .int .i64 0, .slice none 0 0] 24)) := by
    show w2.heap[w.heap.size + 1]? = _
    rw [hb2.block (w.heap.size + 1) (by simp; omega), heap_setCell_other _ _ _ _ (show w.heap.size + 1 ≠ w.heap.size by omega)]; exact HR1.out
  have hbw2 : Below w.heap.size w w2 := hbw1s.trans (hb2.mono (by simpa using hbw1.size))
  have hbw2s : Below w.heap.size w (w2.setCell ⟨w.heap.size, 2, none⟩ (.slice a1 L.length k1)) := hbw2.setCell (p := ⟨w.heap.size, 2, none⟩) (Nat.le_refl _) _
  have HR3 : Hid ((w2.setCell ⟨w.heap.size, 2, none⟩ (.slice a1 L.length k1)).heap[w.heap.size + 1]? = some (.cells #[.string ⟨#[]⟩, .int .i64 0, .slice none 0 0] 24)) := by
    show (w2.setCell ⟨w.heap.size, 2, none⟩ (.slice a1 L.length k1)).heap[w.heap.size + 1]? = _
    rw [heap_setCell_other _ _ _ _ (show w.heap.size + 1 ≠ w.heap.size by omega)]; exact HR2.out
  obtain ⟨⟨c0, c1, c2⟩, ⟨f0, f1, f2⟩⟩ := zon_cells HM2.out
  obtain ⟨⟨d0, d1, d2⟩, ⟨g0, g1, g2⟩⟩ := zon_cells HR2.out
  clear ho1 hb2 HM1 HR1
  go_wp2_with fail
  (try simp only [Exit.inBlock, Exit.then])
  refine bodyPost_ret (results_cell_row rfl _ _ (w.heap.size + 1) 24 #[.string nm, .int .i64 ct, .slice a1 L.length k1] (0, 0) _ rfl ?_ Tryd.underlying24 rfl (by kernel_rfl)) rfl ⟨⟨_, rfl, ?_⟩, ?_⟩
  · exact put3_heap HR3.out
  · exact ((HO1.out.kpt (kpt_set w2 w.heap.size 2 (.slice a1 L.length k1) (S := fun k => k = w.heap.size) rfl) (fun g hg h => by have h1 := HO1.out.lt g hg; omega)).kpt (kpt_put3 _ (w.heap.size + 1) _ _ _ (S := fun k => k = w.heap.size + 1) rfl) (fun g hg h => by have h1 := HO1.out.lt g hg; omega)).base (by omega)
  · exact put3_below hbw2s (Nat.le_succ _) _ _ _
end Go.Proofs.YtdjlfgiiicgejaaDoor

namespace Go.Proofs.YtdjlfgiiicgejaaDoor
open Go.RowKit

/-- A record, with the serial of a counter where it is of type 6. -/
def soaD (ct : Int) (x : (List UInt8 × Int × Int × List UInt8)) : (List UInt8 × Int × Int × List UInt8) := if x.2.1 = 6 then (x.1, x.2.1, x.2.2.1, serT ct) else x

/-- The first ones with their serial, the others as they were. -/
def soaM (ct : Int) (L : List (List UInt8 × Int × Int × List UInt8)) (k : Nat) : List (List UInt8 × Int × Int × List UInt8) := (L.take k).map (soaD ct) ++ L.drop k
theorem soaM_length (ct : Int) (L : List (List UInt8 × Int × Int × List UInt8)) (k : Nat) : (soaM ct L k).length = L.length := by
  unfold soaM; simp; omega
theorem soaM_zero (ct : Int) (L : List (List UInt8 × Int × Int × List UInt8)) : soaM ct L 0 = L := by unfold soaM; simp
theorem soaM_end (ct : Int) (L : List (List UInt8 × Int × Int × List UInt8)) {k : Nat} (h : L.length ≤ k) : soaM ct L k = L.map (soaD ct) := by
  unfold soaM; rw [List.take_of_length_le h, List.drop_eq_nil_of_le h, List.append_nil]
theorem soaM_get (ct : Int) (L : List (List UInt8 × Int × Int × List UInt8)) {k : Nat} (h : k < L.length) : (soaM ct L k)[k]'(by rw [soaM_length]; exact h) = L[k] := by
  unfold soaM
  rw [List.getElem_append_right (by simp; omega)]
  simp [Nat.min_eq_left (Nat.le_of_lt h)]
theorem soaM_next (ct : Int) (L : List (List UInt8 × Int × Int × List UInt8)) {k : Nat} (h : k < L.length) : soaM ct L (k + 1) = (soaM ct L k).set k (soaD ct L[k]) := by
  unfold soaM
  rw [List.take_succ_eq_append_getElem h, List.map_append, List.set_append_right _ _ (by simp [Nat.min_eq_left (Nat.le_of_lt h)])]
  have e : L.drop k = L[k] :: L.drop (k + 1) := List.drop_eq_getElem_cons h
  simp [Nat.min_eq_left (Nat.le_of_lt h)]
  rw [e]; rfl
theorem soaM_same (ct : Int) (L : List (List UInt8 × Int × Int × List UInt8)) {k : Nat} (h : k < L.length) (h6 : ¬ L[k].2.1 = 6) : soaM ct L (k + 1) = soaM ct L k := by
  rw [soaM_next ct L h]
  have e : soaD ct L[k] = (soaM ct L k)[k]'(by rw [soaM_length]; exact h) := by rw [soaM_get ct L h]; exact if_neg h6
  rw [e, List.set_getElem_self]
theorem soaM_put (ct : Int) (L : List (List UInt8 × Int × Int × List UInt8)) {k : Nat} (h : k < L.length) (h6 : L[k].2.1 = 6) : soaM ct L (k + 1) = (soaM ct L k).set k (L[k].1, L[k].2.1, L[k].2.2.1, serT ct) := by
  rw [soaM_next ct L h]; exact congrArg _ (if_pos h6)

set_option maxRecDepth 20000 in
set_option maxHeartbeats 2000000 in
theorem zoneAt_any (nm : ByteArray) (ct : Int) (v : Value) (L : List (List UInt8 × Int × Int × List UInt8)) (w : World) (hn : nm.size ≤ 1048576) (hr : RRow w v L) (hl : L.length ≤ 1048576)
    (hx : Hid (∀ x ∈ L, x.1.length ≤ 1048576 ∧ x.2.2.2.length ≤ 1048576)) (hc : inB ct 0 1152921504606846976 = true) (hE : EnvT w) :
    Calls Tryd.prog 11 #[.string nm, .int .i64 ct, v] w fun e w' => (∃ u, e = .returned (ZonV nm ct u) ∧ OwnQ w' w.heap.size u (L.map (soaD ct))) ∧ Below w.heap.size w w' := by
  obtain ⟨aa, ca, rfl, _, hca, _⟩ := id hr
  have HRA : Hid (∀ W, Below w.heap.size w W → RRow W (.slice aa L.length ca) L) := fun W hW => hr.kept hW
  clear hr
  go_enter Tryd.func11, Tryd.ntmps11
  go_wp2_with fail
  refine (copyZone_any nm ct _ L _ hn (HRA.out _ ((Below.refl w.heap.size w).alloc (Nat.le_refl _) _)) hl hx).mono ?_
  rintro e w1 ⟨⟨u1, rfl, ho1⟩, hb1⟩
  obtain ⟨a1, k1, hu1, hk1⟩ := ho1.shape
  subst hu1
  unfold ZonV
  have HZ1 : Hid ((w1.alloc (.cells #[.string nm, .int .i64 ct, .slice a1 L.length k1] 24)).heap[w1.heap.size]? = some (.cells #[.string nm, .int .i64 ct, .slice a1 L.length k1] 24)) := blk_new _ _
  have HR1 : Hid ((w1.alloc (.cells #[.string nm, .int .i64 ct, .slice a1 L.length k1] 24)).heap[w.heap.size]? = some (.cells #[.string ⟨#[]⟩, .int .i64 0, .slice none 0 0] 24)) := by
    have h1 : w1.heap[w.heap.size]? = _ := (hb1.block w.heap.size (by simp)).trans (blk_new _ _)
    have h2 := ((Below.refl w1.heap.size w1).alloc (Nat.le_refl _) (.cells #[.string nm, .int .i64 ct, .slice a1 L.length k1] 24)).block w.heap.size (Nat.lt_of_lt_of_le (by simp) hb1.size)
    exact h2.trans h1
  have hbw1 : Below w.heap.size w w1 := ((Below.refl w.heap.size w).alloc (Nat.le_refl _) _).trans (hb1.mono (by simp))
  have hz1 : w.heap.size < w1.heap.size := Nat.lt_of_lt_of_le (by simp) hb1.size
  have HO1 : Hid (OwnQ (w1.alloc (.cells #[.string nm, .int .i64 ct, .slice a1 L.length k1] 24)) (w.heap.size + 1) (.slice a1 L.length k1) (soaM ct L 0)) := by
    have h : OwnQ w1 (w.heap.size + 1) (.slice a1 L.length k1) L := by simpa using ho1
    show OwnQ _ _ _ _
    rw [soaM_zero]; exact h.kept ((Below.refl w1.heap.size w1).alloc (Nat.le_refl _) _)
  have HLT : Hid (∀ g, (Value.slice a1 L.length k1).ownBlock = some g → w.heap.size < g ∧ g < w1.heap.size) := fun g hg => by
    have h := ho1.lt g hg
    have h1 : w.heap.size + 1 ≤ g := by simpa using h.1
    exact ⟨by omega, h.2⟩
  have hbW : Below w.heap.size w (w1.alloc (.cells #[.string nm, .int .i64 ct, .slice a1 L.length k1] 24)) := hbw1.alloc hbw1.size _
  have hzs : w1.heap.size < (w1.alloc (.cells #[.string nm, .int .i64 ct, .slice a1 L.length k1] 24)).heap.size := by simp
  clear ho1 hb1 HRA
  unfold maxLen at hk1
  go_wp2_with fail
  obtain ⟨W1, hW1⟩ : ∃ W1, W1 = w1.alloc (.cells #[.string nm, .int .i64 ct, .slice a1 L.length k1] 24) := ⟨_, rfl⟩
  rw [← hW1] at HZ1 HR1 HO1 hbW hzs ⊢
  clear hW1
  go_loopw [18] (fun i wr => ∃ k : Nat, k ≤ L.length ∧ i = .int .i64 (k : Int) ∧ Hid (OwnQ wr (w.heap.size + 1) (.slice a1 L.length k1) (soaM ct L k)) ∧ Hid (wr.heap[w1.heap.size]? = some (.cells #[.string nm, .int .i64 ct, .slice a1 L.length k1] 24)) ∧ Hid (wr.heap[w.heap.size]? = some (.cells #[.string ⟨#[]⟩, .int .i64 0, .slice none 0 0] 24)) ∧ Below w.heap.size w wr ∧ w1.heap.size < wr.heap.size) (fun i _ => L.length - (intOf i).toNat)
  case atStart => exact ⟨0, Nat.zero_le _, rfl, HO1, HZ1, HR1, hbW, hzs⟩
  case round =>
    obtain ⟨k, hk, rfl, HO, HZ, HR, hb, hzr⟩ := hrel
    by_cases hlt : k < L.length
    · have hl0 : (soaM ct L k).length = L.length := soaM_length ct L k
      rcases HO.out with ⟨_, h0⟩ | ⟨g, cap, hv, hc1, hc2, hbase, hq⟩
      · rw [h0] at hl0; simp at hl0; omega
      · injection hv with hva hvb hvc
        subst hva
        subst hvc
        clear hvb
        have hcx := (hq.2 k (by omega)).1
        have hfz := (hq.2 k (by omega)).2
        rw [soaM_get ct L hlt] at hcx
        have HQ : Hid (QRow wr g (soaM ct L k)) := hq
        have hgl : g < w1.heap.size := (HLT.out g rfl).2
        have hgw : w.heap.size < g := (HLT.out g rfl).1
        have HSAME : Hid (¬ (L[k]'hlt).2.1 = 6 → soaM ct L (k + 1) = soaM ct L k) := fun h => soaM_same ct L hlt h
        have HPUT : Hid ((L[k]'hlt).2.1 = 6 → soaM ct L (k + 1) = (soaM ct L k).set k ((L[k]'hlt).1, (L[k]'hlt).2.1, (L[k]'hlt).2.2.1, serT ct)) := fun h => soaM_put ct L hlt h
        have HGET : Hid ((soaM ct L k)[k]'(by rw [soaM_length]; exact hlt) = L[k]'hlt) := soaM_get ct L hlt
        obtain ⟨x, hxe⟩ : ∃ x, x = L[k]'hlt := ⟨_, rfl⟩
        rw [← hxe] at hcx HSAME HPUT HGET
        unfold RecAt at hcx
        obtain ⟨q0, q1, q2, q3⟩ := hcx
        obtain ⟨xn, xt, xl, xd⟩ := x
        simp only at q0 q1 q2 q3
        clear hq hxe hl0
        obtain ⟨z0, z1, z2⟩ := (zon_cells HZ.out).1
        by_cases h6 : xt = 6
        · subst h6
          have HN : Hid (soaM ct L (k + 1) = (soaM ct L k).set k (xn, 6, xl, serT ct)) := HPUT.out rfl
          have HST : Hid (∀ W, Below wr.heap.size wr W → Calls Tryd.prog 18 #[.int .i64 ct] W fun e w' => e = .returned (.string ⟨(serT ct).toArray⟩) ∧ Below W.heap.size W w') := fun W hW => serialText_any ct W hc (hE.below (hb.trans (hW.mono hb.size)))
          have HX : Hid (∀ W, Below wr.heap.size wr W → W.cell? ⟨w1.heap.size, 2, none⟩ = some (.slice (some ⟨g, 0, none⟩) L.length k1) ∧ W.cell? ⟨g, k * 4 + 3, none⟩ = some (.string ⟨xd.toArray⟩) ∧ W.frozen? ⟨g, k * 4 + 3, none⟩ = false ∧ Below wr.heap.size wr W) := fun W hW => by
            have hq := (HQ.out.kept hW).2 k (by rw [soaM_length]; exact hlt)
            have h3 := hq.1.2.2.2
            rw [HGET.out] at h3
            exact ⟨(zon_cells ((hW.block _ hzr).trans HZ.out)).1.2.2, h3, hq.2.2.2.2, hW⟩
          have HTR : Hid (∀ W W', Below wr.heap.size wr W → Below W.heap.size W W' → Below wr.heap.size wr W') := fun W W' h1 h2 => h1.trans (h2.mono h1.size)
          have KEY : Hid (∀ W, Below wr.heap.size wr W → Hid (OwnQ (W.setCell ⟨g, k * 4 + 3, none⟩ (.string ⟨(serT ct).toArray⟩)) (w.heap.size + 1) (.slice (some ⟨g, 0, none⟩) L.length k1) (soaM ct L (k + 1))) ∧ Hid ((W.setCell ⟨g, k * 4 + 3, none⟩ (.string ⟨(serT ct).toArray⟩)).heap[w1.heap.size]? = some (.cells #[.string nm, .int .i64 ct, .slice (some ⟨g, 0, none⟩) L.length k1] 24)) ∧ Hid ((W.setCell ⟨g, k * 4 + 3, none⟩ (.string ⟨(serT ct).toArray⟩)).heap[w.heap.size]? = some (.cells #[.string ⟨#[]⟩, .int .i64 0, .slice none 0 0] 24)) ∧ Below w.heap.size w (W.setCell ⟨g, k * 4 + 3, none⟩ (.string ⟨(serT ct).toArray⟩)) ∧ w1.heap.size < (W.setCell ⟨g, k * 4 + 3, none⟩ (.string ⟨(serT ct).toArray⟩)).heap.size) := fun W hW => by
            have hq := (HQ.out.kept hW).set3 k (by rw [soaM_length]; exact hlt) (serT ct)
            rw [HGET.out, ← HN.out] at hq
            refine ⟨?_, ?_, ?_, ?_, ?_⟩
            · show OwnQ _ _ _ _
              exact .inr ⟨g, k1, by rw [soaM_length], by rw [soaM_length]; rw [soaM_length] at hc1; exact hc1, hk1, by omega, hq⟩
            · show (W.setCell ⟨g, k * 4 + 3, none⟩ (.string ⟨(serT ct).toArray⟩)).heap[w1.heap.size]? = _
              rw [heap_setCell_other _ _ _ _ (show w1.heap.size ≠ g by omega)]; exact (hW.block _ hzr).trans HZ.out
            · show (W.setCell ⟨g, k * 4 + 3, none⟩ (.string ⟨(serT ct).toArray⟩)).heap[w.heap.size]? = _
              rw [heap_setCell_other _ _ _ _ (show w.heap.size ≠ g by omega)]; exact (hW.block _ (by omega)).trans HR.out
            · exact (hb.trans (hW.mono hb.size)).setCell (p := ⟨g, k * 4 + 3, none⟩) (by show w.heap.size ≤ g; omega) _
            · have := hW.size; simp; omega
          obtain ⟨sd, hsd⟩ : ∃ sd, sd = serT ct := ⟨_, rfl⟩
          rw [← hsd] at HST KEY
          clear hsd HPUT HSAME HN hc1
          have hbk : Below wr.heap.size wr (wr.alloc (.cells #[.string ⟨xn.toArray⟩, .int .i64 6, .int .i64 xl, .string ⟨xd.toArray⟩] 31)) := (Below.refl _ _).alloc (Nat.le_refl _) _
          go_wp2_with fail
          obtain ⟨WA, hWA⟩ : ∃ WA, WA = wr.alloc (.cells #[.string ⟨xn.toArray⟩, .int .i64 6, .int .i64 xl, .string ⟨xd.toArray⟩] 31) := ⟨_, rfl⟩
          rw [← hWA] at hbk ⊢
          obtain ⟨y2, y3, yf, _⟩ := HX.out _ hbk
          have hbd := hbk.drew
          clear hWA
          go_region_with (go_at_call 18; refine (HST.out _ hbd).mono ?_; rintro e w2 ⟨rfl, hb2⟩; obtain ⟨t2, t3, tf, hbw2⟩ := HX.out _ (HTR.out _ _ hbd hb2))
          all_goals
            have KW := KEY.out _ hbw2
            go_wp2_with fail
            go_roundw
            case rel => exact ⟨k + 1, by omega, by go_num, KW.1, KW.2.1, KW.2.2.1, KW.2.2.2.1, KW.2.2.2.2⟩
            case measure => simp [intOf]; omega
        · have HN := HSAME.out h6
          have hbk : Below wr.heap.size wr (wr.alloc (.cells #[.string ⟨xn.toArray⟩, .int .i64 xt, .int .i64 xl, .string ⟨xd.toArray⟩] 31)) := (Below.refl _ _).alloc (Nat.le_refl _) _
          go_wp2_with fail
          go_roundw
          case rel => exact ⟨k + 1, by omega, by go_num, by rw [HN]; exact HO.out.kept hbk, (hbk.block _ hzr).trans HZ.out, (hbk.block _ (by omega)).trans HR.out, hb.alloc hb.size _, by simp; omega⟩
          case measure => simp [intOf]; omega
    · obtain ⟨⟨c0, c1, c2⟩, ⟨f0, f1, f2⟩⟩ := zon_cells HZ.out
      obtain ⟨⟨d0, d1, d2⟩, ⟨g0, g1, g2⟩⟩ := zon_cells HR.out
      have HOE : Hid (OwnQ wr (w.heap.size + 1) (.slice a1 L.length k1) (L.map (soaD ct))) := by
        have h := HO.out
        rw [soaM_end ct L (by omega)] at h
        exact h
      go_wp2_with fail
      (try simp only [Exit.inBlock, Exit.then])
      refine bodyPost_ret (results_cell_row rfl _ _ w.heap.size 24 #[.string nm, .int .i64 ct, .slice a1 L.length k1] (0, 0) _ rfl ?_ Tryd.underlying24 rfl (by kernel_rfl)) rfl ⟨⟨_, rfl, ?_⟩, ?_⟩
      · exact put3_heap HR.out
      · exact (HOE.out.kpt (kpt_put3 _ w.heap.size _ _ _ (S := fun k => k = w.heap.size) rfl) (fun g hg h => by have h1 := HLT.out g hg; omega)).base (by omega)
      · exact put3_below hb (Nat.le_refl _) _ _ _
end Go.Proofs.YtdjlfgiiicgejaaDoor

namespace Go.Proofs.YtdjlfgiiicgejaaDoor
open Go.RowKit

/-- What NewZone tells. -/
def newN (s : ByteArray) : ByteArray := if apexB s.data.toList = true then s else ⟨#[]⟩
def newR (s : ByteArray) : List (List UInt8 × Int × Int × List UInt8) := if apexB s.data.toList = true then [(s.data.toList, 6, 60, [48])] else []
theorem box3z {w W : World} {o : Obj} (hb : Below (w.alloc o).heap.size (w.alloc o) W) : W.heap[w.heap.size]? = some o ∧ Below w.heap.size w W ∧ w.heap.size < W.heap.size :=
  ⟨(hb.block w.heap.size (by simp)).trans (blk_new _ _), ((Below.refl w.heap.size w).alloc (Nat.le_refl _) _).trans (hb.mono (by simp)), Nat.lt_of_lt_of_le (by simp) hb.size⟩

set_option maxRecDepth 20000 in
set_option maxHeartbeats 2000000 in
theorem iNewZone_any (s : ByteArray) (w : World) (hs : s.size ≤ 1048576) (hE : EnvT w) :
    Calls Tryd.prog 5 #[.string s] w fun e w' => ZOwn w' w.heap.size (apexB s.data.toList) (newN s) 0 (newR s) e ∧ Below w.heap.size w w' := by
  cases hA : apexB s.data.toList with
  | false =>
    have HN : Hid (newN s = ⟨#[]⟩ ∧ newR s = []) := ⟨if_neg (by rw [hA]; simp), if_neg (by rw [hA]; simp)⟩
    go_enter Tryd.func5, Tryd.ntmps5
    go_wp2_with fail
    refine (isApex_any s _ (hE.1.below ((Below.refl _ _).alloc (Nat.le_refl _) _))).mono ?_
    rintro e w1 ⟨rfl, hb1⟩
    rw [hA]
    obtain ⟨hr, hbw, hz⟩ := box3z hb1
    have HR : Hid (w1.heap[w.heap.size]? = some (.cells #[.string ⟨#[]⟩, .int .i64 0, .slice none 0 0] 24)) := hr
    obtain ⟨⟨c0, c1, c2⟩, ⟨f0, f1, f2⟩⟩ := zon_cells hr
    clear hr hb1
    go_wp2_with fail
    (try simp only [Exit.inBlock, Exit.then])
    refine bodyPost_ret (results_row_tmp rfl _ _ w.heap.size 24 #[.string ⟨#[]⟩, .int .i64 0, .slice none 0 0] (0, 0) _ (.bool false) rfl rfl ?_ Tryd.underlying24 rfl (by kernel_rfl)) rfl ⟨⟨.slice none 0 0, ?_, ?_⟩, ?_⟩
    · exact put3_heap HR.out
    · rw [HN.out.1]; rfl
    · rw [HN.out.2]; exact .inl ⟨rfl, rfl⟩
    · exact put3_below hbw (Nat.le_refl _) _ _ _
  | true =>
    have HN : Hid (newN s = s ∧ newR s = [(s.data.toList, 6, 60, [48])]) := ⟨if_pos hA, if_pos hA⟩
    go_enter Tryd.func5, Tryd.ntmps5
    go_wp2_with fail
    refine (isApex_any s _ (hE.1.below ((Below.refl _ _).alloc (Nat.le_refl _) _))).mono ?_
    rintro e w1 ⟨rfl, hb1⟩
    rw [hA]
    obtain ⟨hr, hbw, hz⟩ := box3z hb1
    have HR : Hid (w1.heap[w.heap.size]? = some (.cells #[.string ⟨#[]⟩, .int .i64 0, .slice none 0 0] 24)) := hr
    clear hr hb1
    go_wp2_with fail
    have hs2 : (⟨s.data.toList.toArray⟩ : ByteArray) = s := (data_eq (s := s) rfl).symm
    have HRW : Hid (RRow (w1.alloc (.cells #[.string s, .int .i64 6, .int .i64 60, .string ⟨#[]⟩] 31)) (.slice (some ⟨w1.heap.size, 0, none⟩) 1 1) [(s.data.toList, 6, 60, [])]) := by
      have h := rrow_one w1 (s.data.toList, 6, 60, []) 31 w1.heap.size rfl
      simp only [hs2] at h
      exact h
    have hbA : Below w.heap.size w (w1.alloc (.cells #[.string s, .int .i64 6, .int .i64 60, .string ⟨#[]⟩] 31)) := hbw.alloc hbw.size _
    have HRA : Hid ((w1.alloc (.cells #[.string s, .int .i64 6, .int .i64 60, .string ⟨#[]⟩] 31)).heap[w.heap.size]? = some (.cells #[.string ⟨#[]⟩, .int .i64 0, .slice none 0 0] 24)) := (((Below.refl w1.heap.size w1).alloc (Nat.le_refl _) _).block _ hz).trans HR.out
    refine (zoneAt_any s 0 _ [(s.data.toList, 6, 60, [])] _ hs HRW.out (by simp) (fun x hx => by
      obtain rfl : x = (s.data.toList, 6, 60, []) := by simpa using hx
      have : s.data.toList.length = s.size := by simp
      exact ⟨by show s.data.toList.length ≤ 1048576; omega, by simp⟩) (by decide) (hE.below hbA)).mono ?_
    rintro e w2 ⟨⟨u, rfl, ho⟩, hb2⟩
    obtain ⟨a1, k1, hu, hk1⟩ := ho.shape
    subst hu
    unfold ZonV
    have HO : Hid (OwnQ w2 (w.heap.size + 1) (.slice a1 1 k1) [(s.data.toList, 6, 60, [48])]) := by
      have em : List.map (soaD 0) [(s.data.toList, 6, 60, [])] = [(s.data.toList, (6 : Int), (60 : Int), [(48 : UInt8)])] := by
        have e0 : serT 0 = [48] := by unfold serT; exact numL_small (by decide)
        simp [soaD, e0]
      rw [em] at ho
      exact ho.base (by simp; omega)
    have HR2 : Hid (w2.heap[w.heap.size]? = some (.cells #[.string ⟨#[]⟩, .int .i64 0, .slice none 0 0] 24)) := (hb2.block _ (by simp; omega)).trans HRA.out
    have hbw2 : Below w.heap.size w w2 := hbA.trans (hb2.mono hbA.size)
    obtain ⟨⟨c0, c1, c2⟩, ⟨f0, f1, f2⟩⟩ := zon_cells HR2.out
    clear ho hb2 HRW HRA HR
    simp only [List.length_map, List.length_cons, List.length_nil]
    go_wp2_with fail
    (try simp only [Exit.inBlock, Exit.then])
    refine bodyPost_ret (results_row_tmp rfl _ _ w.heap.size 24 #[.string s, .int .i64 0, .slice a1 1 k1] (0, 0) _ (.bool true) rfl rfl ?_ Tryd.underlying24 rfl (by kernel_rfl)) rfl ⟨⟨.slice a1 1 k1, ?_, ?_⟩, ?_⟩
    · exact put3_heap HR2.out
    · rw [HN.out.1]; rfl
    · rw [HN.out.2]; exact (HO.out.kpt (kpt_put3 _ w.heap.size _ _ _ (S := fun k => k = w.heap.size) rfl) (fun g hg h => by have h1 := HO.out.lt g hg; omega)).base (by omega)
    · exact put3_below hbw2 (Nat.le_refl _) _ _ _

set_option maxRecDepth 20000 in
set_option maxHeartbeats 2000000 in
theorem sNewZone_any (s : ByteArray) (w : World) (hs : s.size ≤ 1048576) :
    Calls Tryd.prog 4 #[.string s] w fun e w' => ZRes w' (apexB s.data.toList) (newN s) 0 (newR s) e ∧ Below w.heap.size w w' := by
  cases hA : apexB s.data.toList with
  | false =>
    have HN : Hid (newN s = ⟨#[]⟩ ∧ newR s = []) := ⟨if_neg (by rw [hA]; simp), if_neg (by rw [hA]; simp)⟩
    go_enter Tryd.func4, Tryd.ntmps4
    go_wp2_with fail
    refine (l6Apex_any s _ (by omega)).mono ?_
    rintro e w1 ⟨rfl, hb1⟩
    rw [hA]
    obtain ⟨hr, hbw, hz⟩ := box3z hb1
    have HR : Hid (w1.heap[w.heap.size]? = some (.cells #[.string ⟨#[]⟩, .int .i64 0, .slice none 0 0] 24)) := hr
    obtain ⟨⟨c0, c1, c2⟩, ⟨f0, f1, f2⟩⟩ := zon_cells hr
    clear hr hb1
    go_wp2_with fail
    (try simp only [Exit.inBlock, Exit.then])
    refine bodyPost_ret (results_row_tmp rfl _ _ w.heap.size 24 #[.string ⟨#[]⟩, .int .i64 0, .slice none 0 0] (0, 0) _ (.bool false) rfl rfl ?_ Tryd.underlying24 rfl (by kernel_rfl)) rfl ⟨⟨.slice none 0 0, ?_, ?_⟩, ?_⟩
    · exact put3_heap HR.out
    · rw [HN.out.1]; rfl
    · rw [HN.out.2]; exact rrow_nil _
    · exact put3_below hbw (Nat.le_refl _) _ _ _
  | true =>
    have HN : Hid (newN s = s ∧ newR s = [(s.data.toList, 6, 60, [48])]) := ⟨if_pos hA, if_pos hA⟩
    go_enter Tryd.func4, Tryd.ntmps4
    go_wp2_with fail
    refine (l6Apex_any s _ (by omega)).mono ?_
    rintro e w1 ⟨rfl, hb1⟩
    rw [hA]
    obtain ⟨hr, hbw, hz⟩ := box3z hb1
    have HR : Hid (w1.heap[w.heap.size]? = some (.cells #[.string ⟨#[]⟩, .int .i64 0, .slice none 0 0] 24)) := hr
    obtain ⟨⟨c0, c1, c2⟩, ⟨f0, f1, f2⟩⟩ := zon_cells hr
    clear hr hb1
    go_wp2_with fail
    have hs2 : (⟨s.data.toList.toArray⟩ : ByteArray) = s := (data_eq (s := s) rfl).symm
    (try simp only [Exit.inBlock, Exit.then])
    refine bodyPost_ret (results_row_tmp rfl _ _ w.heap.size 24 #[.string s, .int .i64 0, .slice (some ⟨w1.heap.size, 0, none⟩) 1 1] (0, 0) _ (.bool true) rfl rfl ?_ Tryd.underlying24 rfl (by kernel_rfl)) rfl ⟨⟨.slice (some ⟨w1.heap.size, 0, none⟩) 1 1, ?_, ?_⟩, ?_⟩
    · have h : (put3 w1 w.heap.size (.string s) (.int .i64 0) (.slice (some ⟨w1.heap.size, 0, none⟩) 1 1)).heap[w.heap.size]? = _ := put3_heap HR.out
      exact (((Below.refl _ _).alloc (Nat.le_refl _) _).block w.heap.size (by simpa using hz)).trans h
    · rw [HN.out.1]; rfl
    · rw [HN.out.2]
      have h := rrow_one (put3 w1 w.heap.size (.string s) (.int .i64 0) (.slice (some ⟨w1.heap.size, 0, none⟩) 1 1)) (s.data.toList, 6, 60, [48]) 31 w1.heap.size (by simp [put3])
      simp only [hs2] at h
      exact h
    · exact (put3_below hbw (Nat.le_refl _) _ _ _).alloc (by simp [put3]; omega) _
end Go.Proofs.YtdjlfgiiicgejaaDoor

namespace Go.Proofs.YtdjlfgiiicgejaaDoor.newZone
open Go.RowKit

set_option maxRecDepth 20000 in
set_option maxHeartbeats 4000000 in
theorem core (b0 : ByteArray) (ok : Bool) (nm : ByteArray) (ct : Int) (L : List (List UInt8 × Int × Int × List UInt8)) (w : World) (hs0 : b0.size ≤ 1048576) (hE : EnvT w) (hL : L.length ≤ 1048576)
    (HS : Hid (∀ W, Calls Tryd.prog 4 #[.string b0] W fun e w' => ZRes w' ok nm ct L e ∧ Below W.heap.size W w'))
    (HI : Hid (∀ W, EnvT W → Calls Tryd.prog 5 #[.string b0] W fun e w' => ZOwn w' W.heap.size ok nm ct L e ∧ Below W.heap.size W w')) :
    Calls Tryd.prog 3 #[.string b0] w fun e w' => e = .returned (.bool true) ∧ Below w.heap.size w w' := by
  have g : ¬ (1048576 : Int) < (b0.size : Int) := by omega
  have e2 : (ok != ok) = false := by simp
  have HMK : Hid (∀ v base W, OwnQ W base v L → Calls Tryd.prog 7 #[ZonV nm ct v, .int .i64 1] W fun e w' => e = .returned (.int .i64 (1 + 4 * (L.length : Int))) ∧ OwnQ w' base v (mrks 1 L.length) ∧ Kpt W w' (fun k => v.ownBlock = some k)) := fun v base W h1 => markZone_any nm ct v L base 1 W h1 hL (by omega) (by omega)
  have HHD : Hid (∀ v base W, OwnQ W base v (mrks 1 L.length) → Calls Tryd.prog 8 #[ZonV nm ct v, .int .i64 1] W fun e w' => e = .returned (.int .i64 (1 + 4 * (L.length : Int))) ∧ Below W.heap.size W w') := fun v base W h1 => heldZone_any nm ct v L.length 1 W h1.row hL (by omega) (by omega)
  obtain ⟨q, hq⟩ : ∃ q : Int, q = 1 + 4 * (L.length : Int) := ⟨_, rfl⟩
  rw [← hq] at HMK HHD
  have hq0 : decide (q < 0) = false := by simp; omega
  have hqq : (q != q) = false := by simp
  clear hq
  unfold ZonV at HMK HHD
  go_enter Tryd.func3, Tryd.ntmps3
  go_wp2_with fail
  refine (HS.out _).mono ?_
  rintro e w1 ⟨⟨v1, rfl, hra⟩, hb1⟩
  obtain ⟨aa1, ca1, hva1, _, hca1, _⟩ := id hra
  have HRA : Hid (∀ W, Below w1.heap.size w1 W → RRow W v1 L) := fun W hW => hra.kept hW
  subst hva1
  clear hra
  unfold ZonV
  go_wp2_with fail
  refine (HI.out _ (hE.below (hb1.trans (((Below.refl w1.heap.size w1).alloc (Nat.le_refl _) _).mono hb1.size)))).mono ?_
  rintro e w2 ⟨⟨v2, rfl, hoa⟩, hb2⟩
  obtain ⟨aa2, ca2, hva2, hca2⟩ := hoa.shape
  subst hva2
  unfold ZonV
  have hb12 : Below w1.heap.size w1 w2 := ((Below.refl w1.heap.size w1).alloc (Nat.le_refl _) _).trans (hb2.mono (by simp))
  have HW2 : Hid (w2.heap[w1.heap.size]? = some (.cells #[.string nm, .int .i64 ct, .slice aa1 L.length ca1] 24)) := (hb2.block w1.heap.size (by simp)).trans (blk_new _ _)
  have hz2 : w1.heap.size < w2.heap.size := Nat.lt_of_lt_of_le (by simp) hb2.size
  have HOA : Hid (OwnQ w2 (w1.heap.size + 1) (.slice aa2 L.length ca2) L) := by
    have h : OwnQ w2 (w1.heap.size + 1) (.slice aa2 L.length ca2) L := by simpa using hoa
    exact h
  obtain ⟨⟨c0, c1, c2⟩, _⟩ := zon_cells HW2.out
  clear hoa hb2
  go_wp2_with fail
  refine (eqZone_same nm ct _ _ L _ (HOA.out.row.kept ((Below.refl w2.heap.size w2).alloc (Nat.le_refl _) _)) (HRA.out _ (hb12.alloc hb12.size _))).mono ?_
  rintro e w3 ⟨rfl, hb3⟩
  clear c0 c1 c2
  have hb23 : Below w2.heap.size w2 w3 := ((Below.refl w2.heap.size w2).alloc (Nat.le_refl _) _).trans (hb3.mono (by simp))
  have HW3 : Hid (w3.heap[w1.heap.size]? = some (.cells #[.string nm, .int .i64 ct, .slice aa1 L.length ca1] 24)) := (hb23.block w1.heap.size hz2).trans HW2.out
  have HG3 : Hid (w3.heap[w2.heap.size]? = some (.cells #[.string nm, .int .i64 ct, .slice aa2 L.length ca2] 24)) := (hb3.block w2.heap.size (by simp)).trans (blk_new _ _)
  have hz3 : w2.heap.size < w3.heap.size := Nat.lt_of_lt_of_le (by simp) hb3.size
  have hb13 : Below w1.heap.size w1 w3 := hb12.trans (hb23.mono hb12.size)
  obtain ⟨⟨d0, d1, d2⟩, _⟩ := zon_cells HG3.out
  clear hb3 HW2
  go_wp2_with fail
  refine (HMK.out _ (w1.heap.size + 1) _ (HOA.out.kept hb23)).mono ?_
  rintro e w4 ⟨rfl, ho4, hk4⟩
  clear d0 d1 d2
  have HLA : Hid (∀ k, (Value.slice aa2 L.length ca2).ownBlock = some k → w1.heap.size + 1 ≤ k ∧ k < w2.heap.size) := fun k h => HOA.out.lt k h
  have HW4 : Hid (w4.heap[w1.heap.size]? = some (.cells #[.string nm, .int .i64 ct, .slice aa1 L.length ca1] 24)) := (hk4.block w1.heap.size (by omega) (fun h => by have h1 := HLA.out _ h; omega)).trans HW3.out
  have HG4 : Hid (w4.heap[w2.heap.size]? = some (.cells #[.string nm, .int .i64 ct, .slice aa2 L.length ca2] 24)) := (hk4.block w2.heap.size (by omega) (fun h => by have h1 := HLA.out _ h; omega)).trans HG3.out
  have hb14 : Below w1.heap.size w1 w4 := hb13.trans (hk4.below hb13.size (fun k hk h => by have h1 := HLA.out _ h; omega))
  have hz4 : w3.heap.size ≤ w4.heap.size := hk4.size
  have HO4 : Hid (OwnQ w4 (w1.heap.size + 1) (.slice aa2 L.length ca2) (mrks 1 L.length)) := ho4
  obtain ⟨⟨d0, d1, d2⟩, _⟩ := zon_cells HG4.out
  clear ho4 hk4 HW3 HG3 hb13 hb23 HLA
  go_wp2_with fail
  refine (HHD.out _ _ _ HO4.out).mono ?_
  rintro e w5 ⟨rfl, hb5⟩
  clear d0 d1 d2
  have hb15 : Below w1.heap.size w1 w5 := hb14.trans (hb5.mono hb14.size)
  have hbw5 : Below w.heap.size w w5 := hb1.trans (hb15.mono hb1.size)
  have HW5 : Hid (w5.heap[w1.heap.size]? = some (.cells #[.string nm, .int .i64 ct, .slice aa1 L.length ca1] 24)) := (hb5.block w1.heap.size (by omega)).trans HW4.out
  have HG5 : Hid (w5.heap[w2.heap.size]? = some (.cells #[.string nm, .int .i64 ct, .slice aa2 L.length ca2] 24)) := (hb5.block w2.heap.size (by omega)).trans HG4.out
  have hz5 : w4.heap.size ≤ w5.heap.size := hb5.size
  have HO5 : Hid (OwnQ w5 (w1.heap.size + 1) (.slice aa2 L.length ca2) (mrks 1 L.length)) := HO4.out.kept hb5
  have HE5 : Hid (EnvT w5) := hE.below hbw5
  clear hb5 HW4 HG4 HO4 hb14
  go_wp2_with fail
  refine (HI.out _ HE5.out).mono ?_
  rintro e w6 ⟨⟨v3, rfl, hoa3⟩, hb6⟩
  obtain ⟨aa3, ca3, hva3, hca3⟩ := hoa3.shape
  subst hva3
  unfold ZonV
  have HRA3 : Hid (RRow w6 (.slice aa3 L.length ca3) L) := hoa3.row
  have hz6 : w5.heap.size ≤ w6.heap.size := hb6.size
  have hb16 : Below w1.heap.size w1 w6 := hb15.trans (hb6.mono hb15.size)
  have HW6 : Hid (w6.heap[w1.heap.size]? = some (.cells #[.string nm, .int .i64 ct, .slice aa1 L.length ca1] 24)) := (hb6.block w1.heap.size (by omega)).trans HW5.out
  have HG6 : Hid (w6.heap[w2.heap.size]? = some (.cells #[.string nm, .int .i64 ct, .slice aa2 L.length ca2] 24)) := (hb6.block w2.heap.size (by omega)).trans HG5.out
  have HO6 : Hid (OwnQ w6 (w1.heap.size + 1) (.slice aa2 L.length ca2) (mrks 1 L.length)) := HO5.out.kept hb6
  obtain ⟨⟨c0, c1, c2⟩, _⟩ := zon_cells HW6.out
  have hlt6 : w1.heap.size < w6.heap.size := by omega
  clear hoa3 hb6 hb15 hbw5 HO5 HW5 HG5
  go_wp2_with fail
  refine (eqZone_same nm ct _ _ L _ (HRA3.out.kept ((Below.refl w6.heap.size w6).alloc (Nat.le_refl _) _)) (HRA.out _ (hb16.alloc hb16.size _))).mono ?_
  rintro e w7 ⟨rfl, hb7⟩
  clear c0 c1 c2
  have hb67 : Below w6.heap.size w6 w7 := ((Below.refl w6.heap.size w6).alloc (Nat.le_refl _) _).trans (hb7.mono (by simp))
  have HG7 : Hid (w7.heap[w2.heap.size]? = some (.cells #[.string nm, .int .i64 ct, .slice aa2 L.length ca2] 24)) := (hb67.block w2.heap.size (by omega)).trans HG6.out
  have HO7 : Hid (OwnQ w7 (w1.heap.size + 1) (.slice aa2 L.length ca2) (mrks 1 L.length)) := HO6.out.kept hb67
  have hb17 : Below w1.heap.size w1 w7 := hb16.trans (hb67.mono hb16.size)
  obtain ⟨⟨d0, d1, d2⟩, _⟩ := zon_cells HG7.out
  clear hb7 hb67 hb16 HO6 HW6 HG6
  go_wp2_with fail
  refine (HHD.out _ _ _ HO7.out).mono ?_
  rintro e w8 ⟨rfl, hb8⟩
  have hb18 : Below w1.heap.size w1 w8 := hb17.trans (hb8.mono hb17.size)
  have hbw8 : Below w.heap.size w w8 := hb1.trans (hb18.mono hb1.size)
  clear d0 d1 d2 hb8 hb17
  go_wp2_with fail
  go_ret
  exact ⟨rfl, hbw8⟩

set_option maxRecDepth 20000 in
set_option maxHeartbeats 1000000 in
theorem walk (b0 : ByteArray) (w : World) (hs0 : b0.size ≤ maxLen) (hE : EnvT w) :
    Calls Tryd.prog 3 #[.string b0] w fun e w' => e = .returned (.bool true) ∧ Below w.heap.size w w' := by
  have hs := hs0
  unfold maxLen at hs
  by_cases h : (1048576 : Int) < (b0.size : Int)
  · go_enter Tryd.func3, Tryd.ntmps3
    go_wp2_with fail
    go_ret
    exact ⟨rfl, Below.refl _ _⟩
  · have hsz : b0.size ≤ 1048576 := by omega
    exact core b0 _ _ 0 _ w hsz hE (by unfold newR; split <;> simp) (fun W => sNewZone_any b0 W hsz) (fun W hW => iNewZone_any b0 W hsz hW)
end Go.Proofs.YtdjlfgiiicgejaaDoor.newZone
