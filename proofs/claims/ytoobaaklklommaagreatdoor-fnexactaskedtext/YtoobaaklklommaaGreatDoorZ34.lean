import Derived.Test.YtoobaaklklommaaGreatDoorZ14
import Derived.Test.YtoobaaklklommaaGreatDoorZ33
import Derived.Test.YtoobaaklklommaaGreatDoorZ04
import Derived.Test.YtoobaaklklommaaGreatDoorZ21
import Derived.Test.YtoobaaklklommaaGreatDoorZ07
import Derived.Test.YtoobaaklklommaaGreatDoorZ16
import Derived.Test.YtoobaaklklommaaGreatDoorZ10
namespace Go.Proofs.YtoobaaklklommaaGreatDoor
open Go.RowKit

theorem rrow_one (w : World) (x : List UInt8 × Int × Int × List UInt8) (t : TypeId) (b : Nat) (hb : b = w.heap.size) : RRow (w.alloc (.cells #[.string ⟨x.1.toArray⟩, .int .i64 x.2.1, .int .i64 x.2.2.1, .string ⟨x.2.2.2.toArray⟩] t)) (.slice (some ⟨b, 0, none⟩) 1 1) [x] := by
  subst hb
  refine ⟨_, 1, rfl, Nat.le_refl _, by unfold maxLen; omega, .inr ⟨w.heap.size, 0, rfl, by simp, fun j hj => ?_⟩⟩
  obtain rfl : j = 0 := by simpa using hj
  unfold RecAt
  simp

theorem rec4_cells {W : World} {b : Nat} {v0 v1 v2 v3 : Value} {t : TypeId} (h : W.heap[b]? = some (.cells #[v0, v1, v2, v3] t)) :
    W.cell? ⟨b, 0, none⟩ = some v0 ∧ W.cell? ⟨b, 1, none⟩ = some v1 ∧ W.cell? ⟨b, 2, none⟩ = some v2 ∧ W.cell? ⟨b, 3, none⟩ = some v3 := by
  refine ⟨?_, ?_, ?_, ?_⟩ <;> (unfold World.cell?; rw [h]; rfl)
theorem rec4_frozen {W : World} {b : Nat} {cs : Array Value} {t : TypeId} (h : W.heap[b]? = some (.cells cs t)) :
    W.frozen? ⟨b, 0, none⟩ = false ∧ W.frozen? ⟨b, 1, none⟩ = false ∧ W.frozen? ⟨b, 2, none⟩ = false ∧ W.frozen? ⟨b, 3, none⟩ = false := by
  refine ⟨?_, ?_, ?_, ?_⟩ <;> (unfold World.frozen?; rw [h]; simp)
theorem own_setN {W : World} {base g k n s : Nat} {e : TypeId} {v u : Value} {xs : List Value} (h : W.ownsRow base e s v n xs) (hg : v.ownBlock ≠ some g) : (W.setCell ⟨g, k, none⟩ u).ownsRow base e s v n xs :=
  h.kept (grown_set (grown_refl W _)) (.inr (fun hc => hg hc))

theorem OwnQ.base {w : World} {a b : Nat} {v : Value} {L : List (List UInt8 × Int × Int × List UInt8)} (h : OwnQ w b v L) (hab : a ≤ b) : OwnQ w a v L := by
  rcases h with h | ⟨g, cap, h0, h1, h2, h3, hs⟩
  · exact .inl h
  · exact .inr ⟨g, cap, h0, h1, h2, Nat.le_trans hab h3, hs⟩

set_option maxRecDepth 20000 in
set_option maxHeartbeats 1000000 in
theorem copyRecords_any (v : Value) (L : List (List UInt8 × Int × Int × List UInt8)) (w : World) (hr : RRow w v L) (hl : L.length ≤ 1048576) (hx : Hid (∀ x ∈ L, x.1.length ≤ 1048576 ∧ x.2.2.2.length ≤ 1048576)) :
    Calls Tryz.prog 171 #[v] w fun e w' => ∃ u, e = .returned u ∧ OwnQ w' w.heap.size u L ∧ Below w.heap.size w w' := by
  obtain ⟨a, cap, rfl, hcap, hmax, hrow⟩ := hr
  have HROW : Hid (L = [] ∨ ∃ b o, a = some ⟨b, o, none⟩ ∧ b < w.heap.size ∧ ∀ j, (hj : j < L.length) → RecAt w b (o + j * 4) L[j]) := hrow
  unfold maxLen at hmax
  clear hrow
  have HO0 : Hid (w.ownsRow w.heap.size 108 4 (.slice none 0 0) (L.take 0).length (rcells (L.take 0))) := by
    have h : w.ownsRow w.heap.size 108 4 (.slice none 0 0) (L.take 0).length (rcells (L.take 0)) := by simpa [rcells] using World.ownsRow_nil _ _ _ _
    exact h
  go_enter Tryz.func171, Tryz.ntmps171
  go_wp2_with fail
  go_loopw [3, 8] (fun vv i wr => ∃ (k : Nat) (v : Value), k ≤ L.length ∧ i = .int .i64 (k : Int) ∧ v = vv ∧ Hid (wr.ownsRow w.heap.size 108 4 v (L.take k).length (rcells (L.take k))) ∧ Below w.heap.size w wr) (fun _ i _ => L.length - (intOf i).toNat)
  case atStart => exact ⟨0, _, Nat.zero_le _, rfl, rfl, HO0, Below.refl _ _⟩
  case round =>
    obtain ⟨k, v, hk, rfl, rfl, HO, hb⟩ := hrel
    by_cases hlt : k < L.length
    · rcases HROW.out with hr | ⟨b, o, ha, hbl, hcel⟩
      · rw [hr] at hlt; simp at hlt
      · rw [ha]
        have hcx := (hcel k hlt).kept hb
        unfold RecAt at hcx
        obtain ⟨c0, c1, c2, c3⟩ := hcx
        have hxl := hx.out _ (List.getElem_mem hlt)
        have HN : Hid (L.take (k + 1) = L.take k ++ [L[k]'hlt]) := List.take_succ_eq_append_getElem hlt
        have HK : Hid ((L.take k).length = k) := by rw [List.length_take]; exact Nat.min_eq_left hk
        obtain ⟨x, hxe⟩ : ∃ x, x = L[k]'hlt := ⟨_, rfl⟩
        rw [← hxe] at c0 c1 c2 c3 hxl HN
        obtain ⟨xn, xt, xl, xd⟩ := x
        simp only at c0 c1 c2 c3 hxl
        have HNB : Hid (v.ownBlock ≠ some wr.heap.size) := fun h => Nat.lt_irrefl _ (HO.out.lt _ h).2
        clear hcel hxe
        go_wp2_with fail
        refine (cloneR_any ⟨xn.toArray⟩ _ (by rw [size_list]; omega)).mono ?_
        rintro e w1 ⟨rfl, hb1⟩
        have HB1 : Hid (w1.heap[wr.heap.size]? = some (.cells #[.string ⟨xn.toArray⟩, .int .i64 xt, .int .i64 xl, .string ⟨xd.toArray⟩] 108)) := (hb1.block wr.heap.size (by simp)).trans (blk_new _ _)
        have HO1 : Hid (w1.ownsRow w.heap.size 108 4 v (L.take k).length (rcells (L.take k))) := own_below (HO.out.alloc _) hb1
        have hz1 : wr.heap.size < w1.heap.size := Nat.lt_of_lt_of_le (by simp) hb1.size
        have hbw1 : Below w.heap.size w w1 := hb.trans ((((Below.refl wr.heap.size wr).alloc (Nat.le_refl _) _).trans (hb1.mono (by simp))).mono hb.size)
        obtain ⟨d0, d1, d2, d3⟩ := rec4_cells HB1.out
        obtain ⟨f0, f1, f2, f3⟩ := rec4_frozen HB1.out
        clear hb1 c0 c1 c2 c3
        go_wp2_with fail
        refine (cloneR_any ⟨xd.toArray⟩ _ (by rw [size_list]; omega)).mono ?_
        rintro e w2 ⟨rfl, hb2⟩
        have HB2 : Hid (w2.heap[wr.heap.size]? = some (.cells #[.string ⟨xn.toArray⟩, .int .i64 xt, .int .i64 xl, .string ⟨xd.toArray⟩] 108)) := by
          have e1 := heap_setCell_same _ _ 0 _ _ (.string ⟨xn.toArray⟩) HB1.out
          exact ((hb2.block wr.heap.size (by simpa using hz1)).trans e1).trans (by rfl)
        have HO2 : Hid (w2.ownsRow w.heap.size 108 4 v (L.take k).length (rcells (L.take k))) := own_below (own_setN HO1.out HNB.out) hb2
        have hz2 : wr.heap.size < w2.heap.size := Nat.lt_of_lt_of_le (by simpa using hz1) hb2.size
        have hbw2 : Below w.heap.size w w2 := (hbw1.setCell (p := ⟨wr.heap.size, 0, none⟩) hb.size _).trans (hb2.mono (by simpa using hbw1.size))
        clear d0 d1 d2 d3 f0 f1 f2 f3 HB1 HO1 hb2
        obtain ⟨d0, d1, d2, d3⟩ := rec4_cells HB2.out
        obtain ⟨f0, f1, f2, f3⟩ := rec4_frozen HB2.out
        go_wp2_with (first | (at_builtin; refine wpList_append_rows rfl (.tmp 20) (.tmp 22) 30 rfl Tryz.underlying30 w.heap.size v _ (L.take k) rfl rfl ?b0 _ [(xn, xt, xl, xd)] rfl ?b1 ?b2 ?b3 ?b4 ?_))
        case b0 => exact (own_setN HO2.out HNB.out).alloc _
        case b1 => exact rrow_one _ (xn, xt, xl, xd) _ _ (by simp)
        case b2 => intro n c h; cases h
        case b3 => rw [HK.out]; simp; omega
        case b4 => simp; have := hbw2.size; omega
        intro v2 w4 hown hgrow
        have HO4 : Hid (w4.ownsRow w.heap.size 108 4 v2 (L.take (k + 1)).length (rcells (L.take (k + 1)))) := by
          have e : (L.take k ++ [(xn, xt, xl, xd)]).length = k + 1 := by rw [List.length_append, HK.out]; rfl
          rw [HN.out, e]; exact hown
        have hbw3 := (hbw2.setCell (p := ⟨wr.heap.size, 3, none⟩) hb.size (.string ⟨xd.toArray⟩))
        have hbw4 : Below w.heap.size w w4 := (hbw3.alloc (by simpa using hbw2.size) _).grown hgrow (by simp; have := hbw2.size; omega) (fun j hj => (HO2.out.lt j hj).1)
        clear hown hgrow
        go_wp2_with fail
        go_roundw
        case rel => exact ⟨k + 1, v2, by omega, by go_num, rfl, HO4, hbw4⟩
        case measure => simp [intOf]; omega
    · have HOL : Hid (OwnQ wr w.heap.size v L) := by
        have h := HO.out
        rw [List.take_of_length_le (by omega)] at h
        exact own_q h
      go_wp2_with fail
      go_ret
      exact ⟨_, rfl, HOL.out, hb⟩

end Go.Proofs.YtoobaaklklommaaGreatDoor

namespace Go.Proofs.YtoobaaklklommaaGreatDoor
open Go.RowKit

theorem iWithin_any (n lo hi : Int) (w : World) : Calls Tryz.prog 49 #[.int .i64 n, .int .i64 lo, .int .i64 hi] w fun e w' => e = .returned (.bool (inB n lo hi)) ∧ w' = w := by
  by_cases h1 : lo ≤ n
  · go_enter Tryz.func49, Tryz.ntmps49
    go_wp2
    go_ret
    exact ⟨ret_bool (by simp [inB, h1]), rfl⟩
  · go_enter Tryz.func49, Tryz.ntmps49
    go_wp2
    go_ret
    exact ⟨ret_bool (by simp [inB]; omega), rfl⟩
theorem isCounter_any (n : Int) (w : World) : Calls Tryz.prog 84 #[.int .i64 n] w fun e w' => e = .returned (.bool (inB n 0 1152921504606846976)) ∧ w' = w := by
  go_enter Tryz.func84, Tryz.ntmps84
  go_wp2_with fail
  refine (iWithin_any _ _ _ _).mono ?_
  rintro e w1 ⟨rfl, rfl⟩
  go_wp2_with fail
  go_ret
  exact ⟨rfl, rfl⟩

def ofV (n : Int) : Value := .tuple #[.int .i64 (if inB n 0 1152921504606846976 then n % 4294967296 else 0), .bool (inB n 0 1152921504606846976)]
theorem iSerialOf_any (n : Int) (w : World) : Calls Tryz.prog 164 #[.int .i64 n] w fun e w' => e = .returned (ofV n) ∧ w' = w := by
  cases h1 : inB n 0 1152921504606846976 with
  | false =>
    go_enter Tryz.func164, Tryz.ntmps164
    go_wp2_with fail
    refine (isCounter_any _ _).mono ?_
    rintro e w1 ⟨rfl, rfl⟩
    rw [h1]
    go_wp2_with fail
    go_ret2
    exact ⟨by unfold ofV; rw [h1]; rfl, rfl⟩
  | true =>
    have hn : 0 ≤ n ∧ n ≤ 1152921504606846976 := by simpa [inB] using h1
    go_enter Tryz.func164, Tryz.ntmps164
    go_wp2_with fail
    refine (isCounter_any _ _).mono ?_
    rintro e w1 ⟨rfl, rfl⟩
    rw [h1]
    go_wp2_with fail
    go_ret2
    exact ⟨by unfold ofV; rw [h1]; rfl, rfl⟩
end Go.Proofs.YtoobaaklklommaaGreatDoor

namespace Go.Proofs.YtoobaaklklommaaGreatDoor
open Go.RowKit

/-- A counter's serial, as a text. -/
def serT (ct : Int) : List UInt8 := numL (ct % 4294967296).toNat

set_option maxRecDepth 20000 in
set_option maxHeartbeats 400000 in
theorem serialText_any (ct : Int) (w : World) (hc : inB ct 0 1152921504606846976 = true) (hE : EnvT w) :
    Calls Tryz.prog 124 #[.int .i64 ct] w fun e w' => e = .returned (.string ⟨(serT ct).toArray⟩) ∧ Below w.heap.size w w' := by
  have HC : Hid (∀ W, EnvT W → Calls Tryz.prog 110 #[.int .i64 (ct % 4294967296)] W fun e w' => e = .returned (.string ⟨(serT ct).toArray⟩) ∧ Below W.heap.size W w') := fun W hW => by
    have h := itoaT_nat (ct % 4294967296).toNat W (by omega) hW
    rw [show (((ct % 4294967296).toNat : Nat) : Int) = ct % 4294967296 by omega] at h
    exact h
  go_enter Tryz.func124, Tryz.ntmps124
  go_wp2_with fail
  refine (iSerialOf_any ct w).mono ?_
  rintro e w1 ⟨rfl, rfl⟩
  unfold ofV
  rw [if_pos hc]
  go_wp2_with fail
  refine (HC.out _ hE).mono ?_
  rintro e w2 ⟨rfl, hb⟩
  go_wp2_with fail
  go_ret
  exact ⟨rfl, hb⟩

set_option maxRecDepth 20000 in
set_option maxHeartbeats 1000000 in
theorem copyZone_any (nm : ByteArray) (ct : Int) (v : Value) (L : List (List UInt8 × Int × Int × List UInt8)) (w : World) (hn : nm.size ≤ 1048576) (hr : RRow w v L) (hl : L.length ≤ 1048576)
    (hx : Hid (∀ x ∈ L, x.1.length ≤ 1048576 ∧ x.2.2.2.length ≤ 1048576)) :
    Calls Tryz.prog 138 #[ZonV nm ct v] w fun e w' => (∃ u, e = .returned (ZonV nm ct u) ∧ OwnQ w' w.heap.size u L) ∧ Below w.heap.size w w' := by
  unfold ZonV
  obtain ⟨aa, ca, rfl, _, hca, _⟩ := id hr
  have HRA : Hid (∀ W, Below w.heap.size w W → RRow W (.slice aa L.length ca) L) := fun W hW => hr.kept hW
  clear hr
  go_enter Tryz.func138, Tryz.ntmps138
  go_wp2_with fail
  refine (cloneR_any nm _ (by omega)).mono ?_
  rintro e w1 ⟨rfl, hb1⟩
  obtain ⟨hm, hr, hbw1⟩ := heaps2 hb1
  have hz1 : w.heap.size + 2 ≤ w1.heap.size := by have h := hb1.size; simpa using h
  have HM1 : Hid (w1.heap[w.heap.size]? = some (.cells #[.string nm, .int .i64 ct, .slice aa L.length ca] 32)) := hm
  have HR1 : Hid (w1.heap[w.heap.size + 1]? = some (.cells #[.string ⟨#[]⟩, .int .i64 0, .slice none 0 0] 32)) := hr
  obtain ⟨⟨c0, c1, c2⟩, ⟨f0, f1, f2⟩⟩ := zon_cells hm
  clear hb1 hm hr
  have hbw1s : Below w.heap.size w (w1.setCell ⟨w.heap.size, 0, none⟩ (.string nm)) := hbw1.setCell (p := ⟨w.heap.size, 0, none⟩) (Nat.le_refl _) _
  go_wp2_with fail
  refine (copyRecords_any _ L _ (HRA.out _ hbw1s) hl hx).mono ?_
  rintro e w2 ⟨u1, rfl, ho1, hb2⟩
  obtain ⟨a1, k1, hu1, hk1⟩ := ho1.shape
  subst hu1
  clear c0 c1 c2 f0 f1 f2
  have HO1 : Hid (OwnQ w2 (w.heap.size + 2) (.slice a1 L.length k1) L) := by
    have h : OwnQ w2 w1.heap.size (.slice a1 L.length k1) L := by simpa using ho1
    exact h.base hz1
  have HM2 : Hid (w2.heap[w.heap.size]? = some (.cells #[.string nm, .int .i64 ct, .slice aa L.length ca] 32)) := by
    have e1 := heap_setCell_same _ _ 0 _ _ (.string nm) HM1.out
    exact ((hb2.block w.heap.size (by simp; omega)).trans e1).trans (by rfl)
  have HR2 : Hid (w2.heap[w.heap.size + 1]? = some (.cells #[.string ⟨#[]⟩, .int .i64 0, .slice none 0 0] 32)) := by
    show w2.heap[w.heap.size + 1]? = _
    rw [hb2.block (w.heap.size + 1) (by simp; omega), heap_setCell_other _ _ _ _ (show w.heap.size + 1 ≠ w.heap.size by omega)]; exact HR1.out
  have hbw2 : Below w.heap.size w w2 := hbw1s.trans (hb2.mono (by simpa using hbw1.size))
  have hbw2s : Below w.heap.size w (w2.setCell ⟨w.heap.size, 2, none⟩ (.slice a1 L.length k1)) := hbw2.setCell (p := ⟨w.heap.size, 2, none⟩) (Nat.le_refl _) _
  have HR3 : Hid ((w2.setCell ⟨w.heap.size, 2, none⟩ (.slice a1 L.length k1)).heap[w.heap.size + 1]? = some (.cells #[.string ⟨#[]⟩, .int .i64 0, .slice none 0 0] 32)) := by
    show (w2.setCell ⟨w.heap.size, 2, none⟩ (.slice a1 L.length k1)).heap[w.heap.size + 1]? = _
    rw [heap_setCell_other _ _ _ _ (show w.heap.size + 1 ≠ w.heap.size by omega)]; exact HR2.out
  obtain ⟨⟨c0, c1, c2⟩, ⟨f0, f1, f2⟩⟩ := zon_cells HM2.out
  obtain ⟨⟨d0, d1, d2⟩, ⟨g0, g1, g2⟩⟩ := zon_cells HR2.out
  clear ho1 hb2 HM1 HR1
  go_wp2_with fail
  (try simp only [Exit.inBlock, Exit.then])
  refine bodyPost_ret (results_cell_row rfl _ _ (w.heap.size + 1) 32 #[.string nm, .int .i64 ct, .slice a1 L.length k1] (0, 0) _ rfl ?_ Tryz.underlying32 rfl (by kernel_rfl)) rfl ⟨⟨_, rfl, ?_⟩, ?_⟩
  · exact put3_heap HR3.out
  · exact ((HO1.out.kpt (kpt_set w2 w.heap.size 2 (.slice a1 L.length k1) (S := fun k => k = w.heap.size) rfl) (fun g hg h => by have h1 := HO1.out.lt g hg; omega)).kpt (kpt_put3 _ (w.heap.size + 1) _ _ _ (S := fun k => k = w.heap.size + 1) rfl) (fun g hg h => by have h1 := HO1.out.lt g hg; omega)).base (by omega)
  · exact put3_below hbw2s (Nat.le_succ _) _ _ _
end Go.Proofs.YtoobaaklklommaaGreatDoor
