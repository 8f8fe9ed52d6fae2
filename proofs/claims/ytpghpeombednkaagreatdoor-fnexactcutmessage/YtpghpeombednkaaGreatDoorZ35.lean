import Derived.Test.YtpghpeombednkaaGreatDoorZ28
import Derived.Test.YtpghpeombednkaaGreatDoorZ26
import Derived.Test.YtpghpeombednkaaGreatDoorZ34
namespace Go.Proofs.YtpghpeombednkaaGreatDoor
open Go.RowKit

theorem rrow_one (w : World) (x : List UInt8 × Int × Int × List UInt8) (t : TypeId) (b : Nat) (hb : b = w.heap.size) : RRow (w.alloc (.cells #[.string ⟨x.1.toArray⟩, .int .i64 x.2.1, .int .i64 x.2.2.1, .string ⟨x.2.2.2.toArray⟩] t)) (.slice (some ⟨b, 0, none⟩) 1 1) [x] := by
  subst hb
  refine ⟨_, 1, rfl, Nat.le_refl _, by unfold maxLen; omega, .inr ⟨w.heap.size, 0, rfl, by simp, fun j hj => ?_⟩⟩
  obtain rfl : j = 0 := by simpa using hj
  unfold RecAt
  simp

theorem rec4_cells {W : World} {b : Nat} {v0 v1 v2 v3 : Value} {t : TypeId} (h : W.heap[b]? = some (.cells #[v0, v1, v2, v3] t)) :
    W.cell? ⟨b, 0, none⟩ = some v0 ∧ W.cell? ⟨b, 1, none⟩ = some v1 ∧ W.cell? ⟨b, 2, none⟩ = some v2 ∧ W.cell? ⟨b, 3, none⟩ = some v3 := by
  refine ⟨?_, ?_, ?_, ?_⟩ <;> (unfold World.cell?; rw [h]; rfl)
theorem rec4_frozen {W : World} {b : Nat} {cs : Array Value} {t : TypeId} (h : W.heap[b]? = some (.cells cs t)) :
    W.frozen? ⟨b, 0, none⟩ = false ∧ W.frozen? ⟨b, 1, none⟩ = false ∧ W.frozen? ⟨b, 2, none⟩ = false ∧ W.frozen? ⟨b, 3, none⟩ = false := by
  refine ⟨?_, ?_, ?_, ?_⟩ <;> (unfold World.frozen?; rw [h]; simp)
theorem own_setN {W : World} {base g k n s : Nat} {e : TypeId} {v u : Value} {xs : List Value} (h : W.ownsRow base e s v n xs) (hg : v.ownBlock ≠ some g) : (W.setCell ⟨g, k, none⟩ u).ownsRow base e s v n xs :=
  h.kept (grown_set (grown_refl W _)) (.inr (fun hc => hg hc))

theorem OwnQ.base {w : World} {a b : Nat} {v : Value} {L : List (List UInt8 × Int × Int × List UInt8)} (h : OwnQ w b v L) (hab : a ≤ b) : OwnQ w a v L := by
  rcases h with h | ⟨g, cap, h0, h1, h2, h3, hs⟩
  · exact .inl h
  · exact .inr ⟨g, cap, h0, h1, h2, Nat.le_trans hab h3, hs⟩

set_option maxRecDepth 20000 in
set_option maxHeartbeats 1000000 in
theorem copyRecords_any (v : Value) (L : List (List UInt8 × Int × Int × List UInt8)) (w : World) (hr : RRow w v L) (hl : L.length ≤ 1048576) (hx : Hid (∀ x ∈ L, x.1.length ≤ 1048576 ∧ x.2.2.2.length ≤ 1048576)) :
    Calls Tryz.prog 69 #[v] w fun e w' => ∃ u, e = .returned u ∧ OwnQ w' w.heap.size u L ∧ Below w.heap.size w w' := by
  obtain ⟨a, cap, rfl, hcap, hmax, hrow⟩ := hr
  have HROW : Hid (L = [] ∨ ∃ b o, a = some ⟨b, o, none⟩ ∧ b < w.heap.size ∧ ∀ j, (hj : j < L.length) → RecAt w b (o + j * 4) L[j]) := hrow
  unfold maxLen at hmax
  clear hrow
  have HO0 : Hid (w.ownsRow w.heap.size 35 4 (.slice none 0 0) (L.take 0).length (rcells (L.take 0))) := by
    have h : w.ownsRow w.heap.size 35 4 (.slice none 0 0) (L.take 0).length (rcells (L.take 0)) := by simpa [rcells] using World.ownsRow_nil _ _ _ _
    exact h
  go_enter Tryz.func69, Tryz.ntmps69
  go_wp2_with fail
  go_loopw [3, 8] (fun vv i wr => ∃ (k : Nat) (v : Value), k ≤ L.length ∧ i = .int .i64 (k : Int) ∧ v = vv ∧ Hid (wr.ownsRow w.heap.size 35 4 v (L.take k).length (rcells (L.take k))) ∧ Below w.heap.size w wr) (fun _ i _ => L.length - (intOf i).toNat)
  case atStart => exact ⟨0, _, Nat.zero_le _, rfl, rfl, HO0, Below.refl _ _⟩
  case round =>
    obtain ⟨k, v, hk, rfl, rfl, HO, hb⟩ := hrel
    by_cases hlt : k < L.length
    · rcases HROW.out with hr | ⟨b, o, ha, hbl, hcel⟩
      · rw [hr] at hlt; simp at hlt
      · rw [ha]
        have hcx := (hcel k hlt).kept hb
        unfold RecAt at hcx
        obtain ⟨c0, c1, c2, c3⟩ := hcx
        have hxl := hx.out _ (List.getElem_mem hlt)
        have HN : Hid (L.take (k + 1) = L.take k ++ [L[k]'hlt]) := List.take_succ_eq_append_getElem hlt
        have HK : Hid ((L.take k).length = k) := by rw [List.length_take]; exact Nat.min_eq_left hk
        obtain ⟨x, hxe⟩ : ∃ x, x = L[k]'hlt := ⟨_, rfl⟩
        rw [← hxe] at c0 c1 c2 c3 hxl HN
        obtain ⟨xn, xt, xl, xd⟩ := x
        simp only at c0 c1 c2 c3 hxl
        have HNB : Hid (v.ownBlock ≠ some wr.heap.size) := fun h => Nat.lt_irrefl _ (HO.out.lt _ h).2
        clear hcel hxe
        go_wp2_with fail
        refine (cloneR_any ⟨xn.toArray⟩ _ (by rw [size_list]; omega)).mono ?_
        rintro e w1 ⟨rfl, hb1⟩
        have HB1 : Hid (w1.heap[wr.heap.size]? = some (.cells #[.string ⟨xn.toArray⟩, .int .i64 xt, .int .i64 xl, .string ⟨xd.toArray⟩] 35)) := (hb1.block wr.heap.size (by simp)).trans (blk_new _ _)
        have HO1 : Hid (w1.ownsRow w.heap.size 35 4 v (L.take k).length (rcells (L.take k))) := own_below (HO.out.alloc _) hb1
        have hz1 : wr.heap.size < w1.heap.size := Nat.lt_of_lt_of_le (by simp) hb1.size
        have hbw1 : Below w.heap.size w w1 := hb.trans ((((Below.refl wr.heap.size wr).alloc (Nat.le_refl _) _).trans (hb1.mono (by simp))).mono hb.size)
        obtain ⟨d0, d1, d2, d3⟩ := rec4_cells HB1.out
        obtain ⟨f0, f1, f2, f3⟩ := rec4_frozen HB1.out
        clear hb1 c0 c1 c2 c3
        go_wp2_with fail
        refine (cloneR_any ⟨xd.toArray⟩ _ (by rw [size_list]; omega)).mono ?_
        rintro e w2 ⟨rfl, hb2⟩
        have HB2 : Hid (w2.heap[wr.heap.size]? = some (.cells #[.string ⟨xn.toArray⟩, .int .i64 xt, .int .i64 xl, .string ⟨xd.toArray⟩] 35)) := by
          have e1 := heap_setCell_same _ _ 0 _ _ (.string ⟨xn.toArray⟩) HB1.out
          exact ((hb2.block wr.heap.size (by simpa using hz1)).trans e1).trans (by rfl)
        have HO2 : Hid (w2.ownsRow w.heap.size 35 4 v (L.take k).length (rcells (L.take k))) := own_below (own_setN HO1.out HNB.out) hb2
        have hz2 : wr.heap.size < w2.heap.size := Nat.lt_of_lt_of_le (by simpa using hz1) hb2.size
        have hbw2 : Below w.heap.size w w2 := (hbw1.setCell (p := ⟨wr.heap.size, 0, none⟩) hb.size _).trans (hb2.mono (by simpa using hbw1.size))
        clear d0 d1 d2 d3 f0 f1 f2 f3 HB1 HO1 hb2
        obtain ⟨d0, d1, d2, d3⟩ := rec4_cells HB2.out
        obtain ⟨f0, f1, f2, f3⟩ := rec4_frozen HB2.out
        go_wp2_with (first | (at_builtin; refine wpList_append_rows rfl (.tmp 20) (.tmp 22) 23 rfl Tryz.underlying23 w.heap.size v _ (L.take k) rfl rfl ?b0 _ [(xn, xt, xl, xd)] rfl ?b1 ?b2 ?b3 ?b4 ?_))
        case b0 => exact (own_setN HO2.out HNB.out).alloc _
        case b1 => exact rrow_one _ (xn, xt, xl, xd) _ _ (by simp)
        case b2 => intro n c h; cases h
        case b3 => rw [HK.out]; simp; omega
        case b4 => simp; have := hbw2.size; omega
        intro v2 w4 hown hgrow
        have HO4 : Hid (w4.ownsRow w.heap.size 35 4 v2 (L.take (k + 1)).length (rcells (L.take (k + 1)))) := by
          have e : (L.take k ++ [(xn, xt, xl, xd)]).length = k + 1 := by rw [List.length_append, HK.out]; rfl
          rw [HN.out, e]; exact hown
        have hbw3 := (hbw2.setCell (p := ⟨wr.heap.size, 3, none⟩) hb.size (.string ⟨xd.toArray⟩))
        have hbw4 : Below w.heap.size w w4 := (hbw3.alloc (by simpa using hbw2.size) _).grown hgrow (by simp; have := hbw2.size; omega) (fun j hj => (HO2.out.lt j hj).1)
        clear hown hgrow
        go_wp2_with fail
        go_roundw
        case rel => exact ⟨k + 1, v2, by omega, by go_num, rfl, HO4, hbw4⟩
        case measure => simp [intOf]; omega
    · have HOL : Hid (OwnQ wr w.heap.size v L) := by
        have h := HO.out
        rw [List.take_of_length_le (by omega)] at h
        exact own_q h
      go_wp2_with fail
      go_ret
      exact ⟨_, rfl, HOL.out, hb⟩

set_option maxRecDepth 20000 in
set_option maxHeartbeats 1000000 in
theorem copyMessage_any (mi : Int) (reply cutm : Bool) (code : Int) (nm : ByteArray) (ty : Int) (va vu : Value) (A U : List (List UInt8 × Int × Int × List UInt8)) (w : World) (hn : nm.size ≤ 1048576) (ha : RRow w va A) (hu : RRow w vu U) (hla : A.length ≤ 1048576) (hlu : U.length ≤ 1048576)
    (hxa : Hid (∀ x ∈ A, x.1.length ≤ 1048576 ∧ x.2.2.2.length ≤ 1048576)) (hxu : Hid (∀ x ∈ U, x.1.length ≤ 1048576 ∧ x.2.2.2.length ≤ 1048576)) :
    Calls Tryz.prog 29 #[MsgV mi reply cutm code nm ty va vu] w fun e w' => (∃ va' vu', e = .returned (MsgV mi reply cutm code nm ty va' vu') ∧ OwnQ w' w.heap.size va' A ∧ OwnQ w' w.heap.size vu' U ∧ ∀ g, va'.ownBlock = some g → vu'.ownBlock ≠ some g) ∧ Below w.heap.size w w' := by
  unfold MsgV
  obtain ⟨aa, ca, rfl, _, hca, _⟩ := id ha
  obtain ⟨au, cu, rfl, _, hcu, _⟩ := id hu
  have HRA : Hid (∀ W, Below w.heap.size w W → RRow W (.slice aa A.length ca) A) := fun W hW => ha.kept hW
  have HRU : Hid (∀ W, Below w.heap.size w W → RRow W (.slice au U.length cu) U) := fun W hW => hu.kept hW
  clear ha hu
  go_enter Tryz.func29, Tryz.ntmps29
  go_wp2_with fail
  refine (cloneR_any nm _ (by omega)).mono ?_
  rintro e w1 ⟨rfl, hb1⟩
  obtain ⟨hm, hr, hbw1⟩ := heaps2 hb1
  have hz1 : w.heap.size + 2 ≤ w1.heap.size := by have h := hb1.size; simpa using h
  have HM1 : Hid (w1.heap[w.heap.size]? = some (.cells #[.int .i64 mi, .bool reply, .bool cutm, .int .i64 code, .string nm, .int .i64 ty, .slice aa A.length ca, .slice au U.length cu] 25)) := hm
  have HR1 : Hid (w1.heap[w.heap.size + 1]? = some (.cells #[.int .i64 0, .bool false, .bool false, .int .i64 0, .string ⟨#[]⟩, .int .i64 0, .slice none 0 0, .slice none 0 0] 25)) := hr
  obtain ⟨c0, c1, c2, c3, c4, c5, c6, c7⟩ := msg_cells hm
  obtain ⟨f0, f1, f2, f3, f4, f5, f6, f7⟩ := msg_frozen hm
  clear hb1 hm hr
  have hbw1s : Below w.heap.size w (w1.setCell ⟨w.heap.size, 4, none⟩ (.string nm)) := hbw1.setCell (p := ⟨w.heap.size, 4, none⟩) (Nat.le_refl _) _
  go_wp2_with fail
  refine (copyRecords_any _ A _ (HRA.out _ hbw1s) hla hxa).mono ?_
  rintro e w2 ⟨u1, rfl, ho1, hb2⟩
  obtain ⟨a1, k1, hu1, hk1⟩ := ho1.shape
  subst hu1
  clear c0 c1 c2 c3 c4 c5 c6 c7 f0 f1 f2 f3 f4 f5 f6 f7
  have hz12 : w1.heap.size ≤ w2.heap.size := by simpa using hb2.size
  have HO1 : Hid (OwnQ w2 (w.heap.size + 2) (.slice a1 A.length k1) A) := by
    have h : OwnQ w2 w1.heap.size (.slice a1 A.length k1) A := by simpa using ho1
    exact h.base hz1
  have HL1 : Hid (∀ g, (Value.slice a1 A.length k1).ownBlock = some g → g < w2.heap.size) := fun g hg => (ho1.lt g hg).2
  have HM2 : Hid (w2.heap[w.heap.size]? = some (.cells #[.int .i64 mi, .bool reply, .bool cutm, .int .i64 code, .string nm, .int .i64 ty, .slice aa A.length ca, .slice au U.length cu] 25)) := by
    have e1 := heap_setCell_same _ _ 4 _ _ (.string nm) HM1.out
    exact ((hb2.block w.heap.size (by simp; omega)).trans e1).trans (by rfl)
  have HR2 : Hid (w2.heap[w.heap.size + 1]? = some (.cells #[.int .i64 0, .bool false, .bool false, .int .i64 0, .string ⟨#[]⟩, .int .i64 0, .slice none 0 0, .slice none 0 0] 25)) := by
    show w2.heap[w.heap.size + 1]? = _
    rw [hb2.block (w.heap.size + 1) (by simp; omega), heap_setCell_other _ _ _ _ (show w.heap.size + 1 ≠ w.heap.size by omega)]; exact HR1.out
  have hbw2 : Below w.heap.size w w2 := hbw1s.trans (hb2.mono (by simpa using hbw1.size))
  have hbw2s : Below w.heap.size w (w2.setCell ⟨w.heap.size, 6, none⟩ (.slice a1 A.length k1)) := hbw2.setCell (p := ⟨w.heap.size, 6, none⟩) (Nat.le_refl _) _
  obtain ⟨c0, c1, c2, c3, c4, c5, c6, c7⟩ := msg_cells HM2.out
  obtain ⟨f0, f1, f2, f3, f4, f5, f6, f7⟩ := msg_frozen HM2.out
  clear ho1 hb2 HM1 HR1
  go_wp2_with fail
  refine (copyRecords_any _ U _ (HRU.out _ hbw2s) hlu hxu).mono ?_
  rintro e w3 ⟨u2, rfl, ho2, hb3⟩
  obtain ⟨a2, k2, hu2, hk2⟩ := ho2.shape
  subst hu2
  clear c0 c1 c2 c3 c4 c5 c6 c7 f0 f1 f2 f3 f4 f5 f6 f7
  have hz23 : w2.heap.size ≤ w3.heap.size := by simpa using hb3.size
  have HO2 : Hid (OwnQ w3 w2.heap.size (.slice a2 U.length k2) U) := by
    have h : OwnQ w3 w2.heap.size (.slice a2 U.length k2) U := by simpa using ho2
    exact h
  have HO3 : Hid (OwnQ w3 (w.heap.size + 2) (.slice a1 A.length k1) A) := (HO1.out.kpt (kpt_set w2 w.heap.size 6 (.slice a1 A.length k1) (S := fun k => k = w.heap.size) rfl) (fun g hg h => by have h1 := HO1.out.lt g hg; omega)).kept hb3
  have HM3 : Hid (w3.heap[w.heap.size]? = some (.cells #[.int .i64 mi, .bool reply, .bool cutm, .int .i64 code, .string nm, .int .i64 ty, .slice a1 A.length k1, .slice au U.length cu] 25)) := by
    have e1 := heap_setCell_same _ _ 6 _ _ (.slice a1 A.length k1) HM2.out
    exact ((hb3.block w.heap.size (by simp; omega)).trans e1).trans (by rfl)
  have HR3 : Hid (w3.heap[w.heap.size + 1]? = some (.cells #[.int .i64 0, .bool false, .bool false, .int .i64 0, .string ⟨#[]⟩, .int .i64 0, .slice none 0 0, .slice none 0 0] 25)) := by
    show w3.heap[w.heap.size + 1]? = _
    rw [hb3.block (w.heap.size + 1) (by simp; omega), heap_setCell_other _ _ _ _ (show w.heap.size + 1 ≠ w.heap.size by omega)]; exact HR2.out
  have hbw3 : Below w.heap.size w w3 := hbw2s.trans (hb3.mono (by simpa using hbw2.size))
  have HM4 : Hid ((w3.setCell ⟨w.heap.size, 7, none⟩ (.slice a2 U.length k2)).heap[w.heap.size]? = some (.cells #[.int .i64 mi, .bool reply, .bool cutm, .int .i64 code, .string nm, .int .i64 ty, .slice a1 A.length k1, .slice a2 U.length k2] 25)) := by
    have e1 := heap_setCell_same _ _ 7 _ _ (.slice a2 U.length k2) HM3.out
    exact e1.trans (by rfl)
  have HR4 : Hid ((w3.setCell ⟨w.heap.size, 7, none⟩ (.slice a2 U.length k2)).heap[w.heap.size + 1]? = some (.cells #[.int .i64 0, .bool false, .bool false, .int .i64 0, .string ⟨#[]⟩, .int .i64 0, .slice none 0 0, .slice none 0 0] 25)) := by
    show (w3.setCell ⟨w.heap.size, 7, none⟩ (.slice a2 U.length k2)).heap[w.heap.size + 1]? = _
    rw [heap_setCell_other _ _ _ _ (show w.heap.size + 1 ≠ w.heap.size by omega)]; exact HR3.out
  have hbw4 : Below w.heap.size w (w3.setCell ⟨w.heap.size, 7, none⟩ (.slice a2 U.length k2)) := hbw3.setCell (p := ⟨w.heap.size, 7, none⟩) (Nat.le_refl _) _
  obtain ⟨c0, c1, c2, c3, c4, c5, c6, c7⟩ := msg_cells HM3.out
  obtain ⟨f0, f1, f2, f3, f4, f5, f6, f7⟩ := msg_frozen HM3.out
  obtain ⟨d0, d1, d2, d3, d4, d5, d6, d7⟩ := msg_cells HR3.out
  obtain ⟨g0, g1, g2, g3, g4, g5, g6, g7⟩ := msg_frozen HR3.out
  clear ho2 hb3
  go_wp2_with fail
  (try simp only [Exit.inBlock, Exit.then])
  refine bodyPost_ret (results_cell_row rfl _ _ (w.heap.size + 1) 25 #[.int .i64 mi, .bool reply, .bool cutm, .int .i64 code, .string nm, .int .i64 ty, .slice a1 A.length k1, .slice a2 U.length k2] (0, 0) _ rfl ?_ Tryz.underlying25 rfl (by kernel_rfl)) rfl ⟨⟨_, _, rfl, ?_, ?_, ?_⟩, ?_⟩
  · exact put8_heap HR4.out
  · exact ((HO3.out.kpt (kpt_set w3 w.heap.size 7 (.slice a2 U.length k2) (S := fun k => k = w.heap.size) rfl) (fun g hg h => by have h1 := HO3.out.lt g hg; omega)).kpt (kpt_put8 _ (w.heap.size + 1) _ _ _ _ _ _ _ _ (S := fun k => k = w.heap.size + 1) rfl) (fun g hg h => by have h1 := HO3.out.lt g hg; omega)).base (by omega)
  · exact ((HO2.out.kpt (kpt_set w3 w.heap.size 7 (.slice a2 U.length k2) (S := fun k => k = w.heap.size) rfl) (fun g hg h => by have h1 := HO2.out.lt g hg; omega)).kpt (kpt_put8 _ (w.heap.size + 1) _ _ _ _ _ _ _ _ (S := fun k => k = w.heap.size + 1) rfl) (fun g hg h => by have h1 := HO2.out.lt g hg; omega)).base (by omega)
  · exact fun g hg hh => by have h1 := HL1.out g hg; have h2 := HO2.out.lt g hh; omega
  · exact put8_below hbw4 (Nat.le_succ _) _ _ _ _ _ _ _ _
end Go.Proofs.YtpghpeombednkaaGreatDoor

namespace Go.Proofs.YtpghpeombednkaaGreatDoor
open Go.RowKit

theorem mown_no (w : World) (base : Nat) : MOwn w base false 0 false false 0 ⟨#[]⟩ 0 [] [] (.returned (.tuple #[noMsg, .bool false])) := ⟨_, _, rfl, .inl ⟨rfl, rfl⟩, .inl ⟨rfl, rfl⟩, fun g h => by cases h⟩
theorem heaps3 {w W : World} {a b c : Array Value} {t1 t2 t3 : TypeId} (hb : Below (((w.alloc (.cells a t1)).alloc (.cells b t2)).alloc (.cells c t3)).heap.size (((w.alloc (.cells a t1)).alloc (.cells b t2)).alloc (.cells c t3)) W) :
    W.heap[w.heap.size]? = some (.cells a t1) ∧ W.heap[w.heap.size + 1]? = some (.cells b t2) ∧ W.heap[w.heap.size + 2]? = some (.cells c t3) ∧ Below w.heap.size w W := by
  have hA : Below ((w.alloc (.cells a t1)).alloc (.cells b t2)).heap.size ((w.alloc (.cells a t1)).alloc (.cells b t2)) W := ((Below.refl _ _).alloc (Nat.le_refl _) _).trans (hb.mono (by simp))
  obtain ⟨h1, h2, h3⟩ := heaps2 hA
  refine ⟨h1, h2, ?_, h3⟩
  rw [hb.block _ (by simp)]
  exact heap3_new w _ _ _


end Go.Proofs.YtpghpeombednkaaGreatDoor
