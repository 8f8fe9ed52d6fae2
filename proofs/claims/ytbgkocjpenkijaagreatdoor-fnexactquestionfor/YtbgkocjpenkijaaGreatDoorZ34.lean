import Derived.Test.YtbgkocjpenkijaaGreatDoorZ27
import Derived.Test.YtbgkocjpenkijaaGreatDoorZ25
import Derived.Test.YtbgkocjpenkijaaGreatDoorZ33
import Derived.Deep.RegionHeld3
import Derived.Test.YtbgkocjpenkijaaGreatDoorZ09
namespace Go.Proofs.YtbgkocjpenkijaaGreatDoor
open Go.RowKit

theorem rrow_one (w : World) (x : List UInt8 × Int × Int × List UInt8) (t : TypeId) (b : Nat) (hb : b = w.heap.size) : RRow (w.alloc (.cells #[.string ⟨x.1.toArray⟩, .int .i64 x.2.1, .int .i64 x.2.2.1, .string ⟨x.2.2.2.toArray⟩] t)) (.slice (some ⟨b, 0, none⟩) 1 1) [x] := by
  subst hb
  refine ⟨_, 1, rfl, Nat.le_refl _, by unfold maxLen; omega, .inr ⟨w.heap.size, 0, rfl, by simp, fun j hj => ?_⟩⟩
  obtain rfl : j = 0 := by simpa using hj
  unfold RecAt
  simp

theorem rec4_cells {W : World} {b : Nat} {v0 v1 v2 v3 : Value} {t : TypeId} (h : W.heap[b]? = some (.cells #[v0, v1, v2, v3] t)) :
    W.cell? ⟨b, 0, none⟩ = some v0 ∧ W.cell? ⟨b, 1, none⟩ = some v1 ∧ W.cell? ⟨b, 2, none⟩ = some v2 ∧ W.cell? ⟨b, 3, none⟩ = some v3 := by
  refine ⟨?_, ?_, ?_, ?_⟩ <;> (unfold World.cell?; rw [h]; rfl)
theorem rec4_frozen {W : World} {b : Nat} {cs : Array Value} {t : TypeId} (h : W.heap[b]? = some (.cells cs t)) :
    W.frozen? ⟨b, 0, none⟩ = false ∧ W.frozen? ⟨b, 1, none⟩ = false ∧ W.frozen? ⟨b, 2, none⟩ = false ∧ W.frozen? ⟨b, 3, none⟩ = false := by
  refine ⟨?_, ?_, ?_, ?_⟩ <;> (unfold World.frozen?; rw [h]; simp)
theorem own_setN {W : World} {base g k n s : Nat} {e : TypeId} {v u : Value} {xs : List Value} (h : W.ownsRow base e s v n xs) (hg : v.ownBlock ≠ some g) : (W.setCell ⟨g, k, none⟩ u).ownsRow base e s v n xs :=
  h.kept (grown_set (grown_refl W _)) (.inr (fun hc => hg hc))

theorem OwnQ.base {w : World} {a b : Nat} {v : Value} {L : List (List UInt8 × Int × Int × List UInt8)} (h : OwnQ w b v L) (hab : a ≤ b) : OwnQ w a v L := by
  rcases h with h | ⟨g, cap, h0, h1, h2, h3, hs⟩
  · exact .inl h
  · exact .inr ⟨g, cap, h0, h1, h2, Nat.le_trans hab h3, hs⟩

set_option maxRecDepth 20000 in
set_option maxHeartbeats 1000000 in
theorem copyRecords_any (v : Value) (L : List (List UInt8 × Int × Int × List UInt8)) (w : World) (hr : RRow w v L) (hl : L.length ≤ 1048576) (hx : Hid (∀ x ∈ L, x.1.length ≤ 1048576 ∧ x.2.2.2.length ≤ 1048576)) :
    Calls Tryz.prog 74 #[v] w fun e w' => ∃ u, e = .returned u ∧ OwnQ w' w.heap.size u L ∧ Below w.heap.size w w' := by
  obtain ⟨a, cap, rfl, hcap, hmax, hrow⟩ := hr
  have HROW : Hid (L = [] ∨ ∃ b o, a = some ⟨b, o, none⟩ ∧ b < w.heap.size ∧ ∀ j, (hj : j < L.length) → RecAt w b (o + j * 4) L[j]) := hrow
  unfold maxLen at hmax
  clear hrow
  have HO0 : Hid (w.ownsRow w.heap.size 35 4 (.slice none 0 0) (L.take 0).length (rcells (L.take 0))) := by
    have h : w.ownsRow w.heap.size 35 4 (.slice none 0 0) (L.take 0).length (rcells (L.take 0)) := by simpa [rcells] using World.ownsRow_nil _ _ _ _
    exact h
  go_enter Tryz.func74, Tryz.ntmps74
  go_wp2_with fail
  go_loopw [3, 8] (fun vv i wr => ∃ (k : Nat) (v : Value), k ≤ L.length ∧ i = .int .i64 (k : Int) ∧ v = vv ∧ Hid (wr.ownsRow w.heap.size 35 4 v (L.take k).length (rcells (L.take k))) ∧ Below w.heap.size w wr) (fun _ i _ => L.length - (intOf i).toNat)
  case atStart => exact ⟨0, _, Nat.zero_le _, rfl, rfl, HO0, Below.refl _ _⟩
  case round =>
    obtain ⟨k, v, hk, rfl, rfl, HO, hb⟩ := hrel
    by_cases hlt : k < L.length
    · rcases HROW.out with hr | ⟨b, o, ha, hbl, hcel⟩
      · rw [hr] at hlt; simp at hlt
      · rw [ha]
        have hcx := (hcel k hlt).kept hb
        unfold RecAt at hcx
        obtain ⟨c0, c1, c2, c3⟩ := hcx
        have hxl := hx.out _ (List.getElem_mem hlt)
        have HN : Hid (L.take (k + 1) = L.take k ++ [L[k]'hlt]) := List.take_succ_eq_append_getElem hlt
        have HK : Hid ((L.take k).length = k) := by rw [List.length_take]; exact Nat.min_eq_left hk
        obtain ⟨x, hxe⟩ : ∃ x, x = L[k]'hlt := ⟨_, rfl⟩
        rw [← hxe] at c0 c1 c2 c3 hxl HN
        obtain ⟨xn, xt, xl, xd⟩ := x
        simp only at c0 c1 c2 c3 hxl
        have HNB : Hid (v.ownBlock ≠ some wr.heap.size) := fun h => Nat.lt_irrefl _ (HO.out.lt _ h).2
        clear hcel hxe
        go_wp2_with fail
        refine (cloneR_any ⟨xn.toArray⟩ _ (by rw [size_list]; omega)).mono ?_
        rintro e w1 ⟨rfl, hb1⟩
        have HB1 : Hid (w1.heap[wr.heap.size]? = some (.cells #[.string ⟨xn.toArray⟩, .int .i64 xt, .int .i64 xl, .string ⟨xd.toArray⟩] 35)) := (hb1.block wr.heap.size (by simp)).trans (blk_new _ _)
        have HO1 : Hid (w1.ownsRow w.heap.size 35 4 v (L.take k).length (rcells (L.take k))) := own_below (HO.out.alloc _) hb1
        have hz1 : wr.heap.size < w1.heap.size := Nat.lt_of_lt_of_le (by simp) hb1.size
        have hbw1 : Below w.heap.size w w1 := hb.trans ((((Below.refl wr.heap.size wr).alloc (Nat.le_refl _) _).trans (hb1.mono (by simp))).mono hb.size)
        obtain ⟨d0, d1, d2, d3⟩ := rec4_cells HB1.out
        obtain ⟨f0, f1, f2, f3⟩ := rec4_frozen HB1.out
        clear hb1 c0 c1 c2 c3
        go_wp2_with fail
        refine (cloneR_any ⟨xd.toArray⟩ _ (by rw [size_list]; omega)).mono ?_
        rintro e w2 ⟨rfl, hb2⟩
        have HB2 : Hid (w2.heap[wr.heap.size]? = some (.cells #[.string ⟨xn.toArray⟩, .int .i64 xt, .int .i64 xl, .string ⟨xd.toArray⟩] 35)) := by
          have e1 := heap_setCell_same _ _ 0 _ _ (.string ⟨xn.toArray⟩) HB1.out
          exact ((hb2.block wr.heap.size (by simpa using hz1)).trans e1).trans (by rfl)
        have HO2 : Hid (w2.ownsRow w.heap.size 35 4 v (L.take k).length (rcells (L.take k))) := own_below (own_setN HO1.out HNB.out) hb2
        have hz2 : wr.heap.size < w2.heap.size := Nat.lt_of_lt_of_le (by simpa using hz1) hb2.size
        have hbw2 : Below w.heap.size w w2 := (hbw1.setCell (p := ⟨wr.heap.size, 0, none⟩) hb.size _).trans (hb2.mono (by simpa using hbw1.size))
        clear d0 d1 d2 d3 f0 f1 f2 f3 HB1 HO1 hb2
        obtain ⟨d0, d1, d2, d3⟩ := rec4_cells HB2.out
        obtain ⟨f0, f1, f2, f3⟩ := rec4_frozen HB2.out
        go_wp2_with (first | (at_builtin; refine wpList_append_rows rfl (.tmp 20) (.tmp 22) 23 rfl Tryz.underlying23 w.heap.size v _ (L.take k) rfl rfl ?b0 _ [(xn, xt, xl, xd)] rfl ?b1 ?b2 ?b3 ?b4 ?_))
        case b0 => exact (own_setN HO2.out HNB.out).alloc _
        case b1 => exact rrow_one _ (xn, xt, xl, xd) _ _ (by simp)
        case b2 => intro n c h; cases h
        case b3 => rw [HK.out]; simp; omega
        case b4 => simp; have := hbw2.size; omega
        intro v2 w4 hown hgrow
        have HO4 : Hid (w4.ownsRow w.heap.size 35 4 v2 (L.take (k + 1)).length (rcells (L.take (k + 1)))) := by
          have e : (L.take k ++ [(xn, xt, xl, xd)]).length = k + 1 := by rw [List.length_append, HK.out]; rfl
          rw [HN.out, e]; exact hown
        have hbw3 := (hbw2.setCell (p := ⟨wr.heap.size, 3, none⟩) hb.size (.string ⟨xd.toArray⟩))
        have hbw4 : Below w.heap.size w w4 := (hbw3.alloc (by simpa using hbw2.size) _).grown hgrow (by simp; have := hbw2.size; omega) (fun j hj => (HO2.out.lt j hj).1)
        clear hown hgrow
        go_wp2_with fail
        go_roundw
        case rel => exact ⟨k + 1, v2, by omega, by go_num, rfl, HO4, hbw4⟩
        case measure => simp [intOf]; omega
    · have HOL : Hid (OwnQ wr w.heap.size v L) := by
        have h := HO.out
        rw [List.take_of_length_le (by omega)] at h
        exact own_q h
      go_wp2_with fail
      go_ret
      exact ⟨_, rfl, HOL.out, hb⟩

set_option maxRecDepth 20000 in
set_option maxHeartbeats 1000000 in
theorem copyMessage_any (mi : Int) (reply cutm : Bool) (code : Int) (nm : ByteArray) (ty : Int) (va vu : Value) (A U : List (List UInt8 × Int × Int × List UInt8)) (w : World) (hn : nm.size ≤ 1048576) (ha : RRow w va A) (hu : RRow w vu U) (hla : A.length ≤ 1048576) (hlu : U.length ≤ 1048576)
    (hxa : Hid (∀ x ∈ A, x.1.length ≤ 1048576 ∧ x.2.2.2.length ≤ 1048576)) (hxu : Hid (∀ x ∈ U, x.1.length ≤ 1048576 ∧ x.2.2.2.length ≤ 1048576)) :
    Calls Tryz.prog 38 #[MsgV mi reply cutm code nm ty va vu] w fun e w' => (∃ va' vu', e = .returned (MsgV mi reply cutm code nm ty va' vu') ∧ OwnQ w' w.heap.size va' A ∧ OwnQ w' w.heap.size vu' U ∧ ∀ g, va'.ownBlock = some g → vu'.ownBlock ≠ some g) ∧ Below w.heap.size w w' := by
  unfold MsgV
  obtain ⟨aa, ca, rfl, _, hca, _⟩ := id ha
  obtain ⟨au, cu, rfl, _, hcu, _⟩ := id hu
  have HRA : Hid (∀ W, Below w.heap.size w W → RRow W (.slice aa A.length ca) A) := fun W hW => ha.kept hW
  have HRU : Hid (∀ W, Below w.heap.size w W → RRow W (.slice au U.length cu) U) := fun W hW => hu.kept hW
  clear ha hu
  go_enter Tryz.func38, Tryz.ntmps38
  go_wp2_with fail
  refine (cloneR_any nm _ (by omega)).mono ?_
  rintro e w1 ⟨rfl, hb1⟩
  obtain ⟨hm, hr, hbw1⟩ := heaps2 hb1
  have hz1 : w.heap.size + 2 ≤ w1.heap.size := by have h := hb1.size; simpa using h
  have HM1 : Hid (w1.heap[w.heap.size]? = some (.cells #[.int .i64 mi, .bool reply, .bool cutm, .int .i64 code, .string nm, .int .i64 ty, .slice aa A.length ca, .slice au U.length cu] 25)) := hm
  have HR1 : Hid (w1.heap[w.heap.size + 1]? = some (.cells #[.int .i64 0, .bool false, .bool false, .int .i64 0, .string ⟨#[]⟩, .int .i64 0, .slice none 0 0, .slice none 0 0] 25)) := hr
  obtain ⟨c0, c1, c2, c3, c4, c5, c6, c7⟩ := msg_cells hm
  obtain ⟨f0, f1, f2, f3, f4, f5, f6, f7⟩ := msg_frozen hm
  clear hb1 hm hr
  have hbw1s : Below w.heap.size w (w1.setCell ⟨w.heap.size, 4, none⟩ (.string nm)) := hbw1.setCell (p := ⟨w.heap.size, 4, none⟩) (Nat.le_refl _) _
  go_wp2_with fail
  refine (copyRecords_any _ A _ (HRA.out _ hbw1s) hla hxa).mono ?_
  rintro e w2 ⟨u1, rfl, ho1, hb2⟩
  obtain ⟨a1, k1, hu1, hk1⟩ := ho1.shape
  subst hu1
  clear c0 c1 c2 c3 c4 c5 c6 c7 f0 f1 f2 f3 f4 f5 f6 f7
  have hz12 : w1.heap.size ≤ w2.heap.size := by simpa using hb2.size
  have HO1 : Hid (OwnQ w2 (w.heap.size + 2) (.slice a1 A.length k1) A) := by
    have h : OwnQ w2 w1.heap.size (.slice a1 A.length k1) A := by simpa using ho1
    exact h.base hz1
  have HL1 : Hid (∀ g, (Value.slice a1 A.length k1).ownBlock = some g → g < w2.heap.size) := fun g hg => (ho1.lt g hg).2
  have HM2 : Hid (w2.heap[w.heap.size]? = some (.cells #[.int .i64 mi, .bool reply, .bool cutm, .int .i64 code, .string nm, .int .i64 ty, .slice aa A.length ca, .slice au U.length cu] 25)) := by
    have e1 := heap_setCell_same _ _ 4 _ _ (.string nm) HM1.out
    exact ((hb2.block w.heap.size (by simp; omega)).trans e1).trans (by rfl)
  have HR2 : Hid (w2.heap[w.heap.size + 1]? = some (.cells #[.int .i64 0, .bool false, .bool false, .int .i64 0, .string ⟨#[]⟩, .int .i64 0, .slice none 0 0, .slice none 0 0] 25)) := by
    show w2.heap[w.heap.size + 1]? = _
    rw [hb2.block (w.heap.size + 1) (by simp; omega), heap_setCell_other _ _ _ _ (show w.heap.size + 1 ≠ w.heap.size by omega)]; exact HR1.out
  have hbw2 : Below w.heap.size w w2 := hbw1s.trans (hb2.mono (by simpa using hbw1.size))
  have hbw2s : Below w.heap.size w (w2.setCell ⟨w.heap.size, 6, none⟩ (.slice a1 A.length k1)) := hbw2.setCell (p := ⟨w.heap.size, 6, none⟩) (Nat.le_refl _) _
  obtain ⟨c0, c1, c2, c3, c4, c5, c6, c7⟩ := msg_cells HM2.out
  obtain ⟨f0, f1, f2, f3, f4, f5, f6, f7⟩ := msg_frozen HM2.out
  clear ho1 hb2 HM1 HR1
  go_wp2_with fail
  refine (copyRecords_any _ U _ (HRU.out _ hbw2s) hlu hxu).mono ?_
  rintro e w3 ⟨u2, rfl, ho2, hb3⟩
  obtain ⟨a2, k2, hu2, hk2⟩ := ho2.shape
  subst hu2
  clear c0 c1 c2 c3 c4 c5 c6 c7 f0 f1 f2 f3 f4 f5 f6 f7
  have hz23 : w2.heap.size ≤ w3.heap.size := by simpa using hb3.size
  have HO2 : Hid (OwnQ w3 w2.heap.size (.slice a2 U.length k2) U) := by
    have h : OwnQ w3 w2.heap.size (.slice a2 U.length k2) U := by simpa using ho2
    exact h
  have HO3 : Hid (OwnQ w3 (w.heap.size + 2) (.slice a1 A.length k1) A) := (HO1.out.kpt (kpt_set w2 w.heap.size 6 (.slice a1 A.length k1) (S := fun k => k = w.heap.size) rfl) (fun g hg h => by have h1 := HO1.out.lt g hg; omega)).kept hb3
  have HM3 : Hid (w3.heap[w.heap.size]? = some (.cells #[.int .i64 mi, .bool reply, .bool cutm, .int .i64 code, .string nm, .int .i64 ty, .slice a1 A.length k1, .slice au U.length cu] 25)) := by
    have e1 := heap_setCell_same _ _ 6 _ _ (.slice a1 A.length k1) HM2.out
    exact ((hb3.block w.heap.size (by simp; omega)).trans e1).trans (by rfl)
  have HR3 : Hid (w3.heap[w.heap.size + 1]? = some (.cells #[.int .i64 0, .bool false, .bool false, .int .i64 0, .string ⟨#[]⟩, .int .i64 0, .slice none 0 0, .slice none 0 0] 25)) := by
    show w3.heap[w.heap.size + 1]? = _
    rw [hb3.block (w.heap.size + 1) (by simp; omega), heap_setCell_other _ _ _ _ (show w.heap.size + 1 ≠ w.heap.size by omega)]; exact HR2.out
  have hbw3 : Below w.heap.size w w3 := hbw2s.trans (hb3.mono (by simpa using hbw2.size))
  have HM4 : Hid ((w3.setCell ⟨w.heap.size, 7, none⟩ (.slice a2 U.length k2)).heap[w.heap.size]? = some (.cells #[.int .i64 mi, .bool reply, .bool cutm, .int .i64 code, .string nm, .int .i64 ty, .slice a1 A.length k1, .slice a2 U.length k2] 25)) := by
    have e1 := heap_setCell_same _ _ 7 _ _ (.slice a2 U.length k2) HM3.out
    exact e1.trans (by rfl)
  have HR4 : Hid ((w3.setCell ⟨w.heap.size, 7, none⟩ (.slice a2 U.length k2)).heap[w.heap.size + 1]? = some (.cells #[.int .i64 0, .bool false, .bool false, .int .i64 0, .string ⟨#[]⟩, .int .i64 0, .slice none 0 0, .slice none 0 0] 25)) := by
    show (w3.setCell ⟨w.heap.size, 7, none⟩ (.slice a2 U.length k2)).heap[w.heap.size + 1]? = _
    rw [heap_setCell_other _ _ _ _ (show w.heap.size + 1 ≠ w.heap.size by omega)]; exact HR3.out
  have hbw4 : Below w.heap.size w (w3.setCell ⟨w.heap.size, 7, none⟩ (.slice a2 U.length k2)) := hbw3.setCell (p := ⟨w.heap.size, 7, none⟩) (Nat.le_refl _) _
  obtain ⟨c0, c1, c2, c3, c4, c5, c6, c7⟩ := msg_cells HM3.out
  obtain ⟨f0, f1, f2, f3, f4, f5, f6, f7⟩ := msg_frozen HM3.out
  obtain ⟨d0, d1, d2, d3, d4, d5, d6, d7⟩ := msg_cells HR3.out
  obtain ⟨g0, g1, g2, g3, g4, g5, g6, g7⟩ := msg_frozen HR3.out
  clear ho2 hb3
  go_wp2_with fail
  (try simp only [Exit.inBlock, Exit.then])
  refine bodyPost_ret (results_cell_row rfl _ _ (w.heap.size + 1) 25 #[.int .i64 mi, .bool reply, .bool cutm, .int .i64 code, .string nm, .int .i64 ty, .slice a1 A.length k1, .slice a2 U.length k2] (0, 0) _ rfl ?_ Tryz.underlying25 rfl (by kernel_rfl)) rfl ⟨⟨_, _, rfl, ?_, ?_, ?_⟩, ?_⟩
  · exact put8_heap HR4.out
  · exact ((HO3.out.kpt (kpt_set w3 w.heap.size 7 (.slice a2 U.length k2) (S := fun k => k = w.heap.size) rfl) (fun g hg h => by have h1 := HO3.out.lt g hg; omega)).kpt (kpt_put8 _ (w.heap.size + 1) _ _ _ _ _ _ _ _ (S := fun k => k = w.heap.size + 1) rfl) (fun g hg h => by have h1 := HO3.out.lt g hg; omega)).base (by omega)
  · exact ((HO2.out.kpt (kpt_set w3 w.heap.size 7 (.slice a2 U.length k2) (S := fun k => k = w.heap.size) rfl) (fun g hg h => by have h1 := HO2.out.lt g hg; omega)).kpt (kpt_put8 _ (w.heap.size + 1) _ _ _ _ _ _ _ _ (S := fun k => k = w.heap.size + 1) rfl) (fun g hg h => by have h1 := HO2.out.lt g hg; omega)).base (by omega)
  · exact fun g hg hh => by have h1 := HL1.out g hg; have h2 := HO2.out.lt g hh; omega
  · exact put8_below hbw4 (Nat.le_succ _) _ _ _ _ _ _ _ _
end Go.Proofs.YtbgkocjpenkijaaGreatDoor

namespace Go.Proofs.YtbgkocjpenkijaaGreatDoor
open Go.RowKit

theorem mown_no (w : World) (base : Nat) : MOwn w base false 0 false false 0 ⟨#[]⟩ 0 [] [] (.returned (.tuple #[noMsg, .bool false])) := ⟨_, _, rfl, .inl ⟨rfl, rfl⟩, .inl ⟨rfl, rfl⟩, fun g h => by cases h⟩
theorem heaps3 {w W : World} {a b c : Array Value} {t1 t2 t3 : TypeId} (hb : Below (((w.alloc (.cells a t1)).alloc (.cells b t2)).alloc (.cells c t3)).heap.size (((w.alloc (.cells a t1)).alloc (.cells b t2)).alloc (.cells c t3)) W) :
    W.heap[w.heap.size]? = some (.cells a t1) ∧ W.heap[w.heap.size + 1]? = some (.cells b t2) ∧ W.heap[w.heap.size + 2]? = some (.cells c t3) ∧ Below w.heap.size w W := by
  have hA : Below ((w.alloc (.cells a t1)).alloc (.cells b t2)).heap.size ((w.alloc (.cells a t1)).alloc (.cells b t2)) W := ((Below.refl _ _).alloc (Nat.le_refl _) _).trans (hb.mono (by simp))
  obtain ⟨h1, h2, h3⟩ := heaps2 hA
  refine ⟨h1, h2, ?_, h3⟩
  rw [hb.block _ (by simp)]
  exact heap3_new w _ _ _

set_option maxRecDepth 20000 in
set_option maxHeartbeats 2000000 in
theorem iQuestionFor_any (mi : Int) (nm : ByteArray) (ty : Int) (w : World) (hn : nm.size ≤ 1048576) (hE : EnvR w) :
    Calls Tryz.prog 27 #[.int .i64 mi, .string nm, .int .i64 ty] w fun e w' =>
      (msgB mi false false 0 nm.data.toList ty [] [] = false → MOwn w' w.heap.size false 0 false false 0 ⟨#[]⟩ 0 [] [] e) ∧
      (msgB mi false false 0 nm.data.toList ty [] [] = true → MOwn w' w.heap.size true mi false false 0 nm ty [] [] e) ∧ Below w.heap.size w w' := by
  have HG : Hid (∀ W, EnvR W → Calls Tryz.prog 19 #[MsgV mi false false 0 nm ty (.slice none 0 0) (.slice none 0 0)] W fun e w' => e = .returned (.bool (msgB mi false false 0 nm.data.toList ty [] [])) ∧ Below W.heap.size W w') := fun W hW => iGoodMessage_any mi false false 0 nm ty _ _ [] [] W (rrow_nil _) (rrow_nil _) (fun x hx => by cases hx) (fun x hx => by cases hx) hW
  have HC : Hid (∀ W, Calls Tryz.prog 38 #[MsgV mi false false 0 nm ty (.slice none 0 0) (.slice none 0 0)] W fun e w' => (∃ va' vu', e = .returned (MsgV mi false false 0 nm ty va' vu') ∧ OwnQ w' W.heap.size va' [] ∧ OwnQ w' W.heap.size vu' [] ∧ ∀ g, va'.ownBlock = some g → vu'.ownBlock ≠ some g) ∧ Below W.heap.size W w') := fun W => copyMessage_any mi false false 0 nm ty _ _ [] [] W hn (rrow_nil _) (rrow_nil _) (by simp) (by simp) (fun x hx => by cases hx) (fun x hx => by cases hx)
  obtain ⟨ok, hok⟩ : ∃ ok, ok = msgB mi false false 0 nm.data.toList ty [] [] := ⟨_, rfl⟩
  rw [← hok] at HG ⊢
  clear hok
  obtain ⟨R, hR⟩ : ∃ R, R = ok := ⟨_, rfl⟩
  have HRR : Hid (R = ok) := hR
  rw [← hR]
  clear hR
  unfold MsgV at HG HC
  go_enter Tryz.func27, Tryz.ntmps27
  go_wp2_with fail
  refine (HG.out _ (hE.below (((Below.refl w.heap.size w).alloc (Nat.le_refl _) _).alloc (by simp) _))).mono ?_
  rintro e w1 ⟨rfl, hb1⟩
  obtain ⟨hr, hm, hbw⟩ := heaps2 hb1
  have hz1 : w.heap.size + 2 ≤ w1.heap.size := by have h := hb1.size; simpa using h
  have HR : Hid (w1.heap[w.heap.size]? = some (.cells #[.int .i64 0, .bool false, .bool false, .int .i64 0, .string ⟨#[]⟩, .int .i64 0, .slice none 0 0, .slice none 0 0] 25)) := hr
  obtain ⟨c0, c1, c2, c3, c4, c5, c6, c7⟩ := msg_cells hr
  obtain ⟨d0, d1, d2, d3, d4, d5, d6, d7⟩ := msg_cells hm
  obtain ⟨f0, f1, f2, f3, f4, f5, f6, f7⟩ := msg_frozen hr
  clear hr hm hb1
  cases ok with
  | false =>
    go_wp2_with fail
    (try simp only [Exit.inBlock, Exit.then])
    refine bodyPost_ret (results_row_tmp rfl _ _ w.heap.size 25 #[.int .i64 0, .bool false, .bool false, .int .i64 0, .string ⟨#[]⟩, .int .i64 0, .slice none 0 0, .slice none 0 0] (0, 0) _ (.bool false) rfl rfl ?_ Tryz.underlying25 rfl (by kernel_rfl)) rfl ⟨fun _ => mown_no _ _, fun h => (by rw [HRR.out] at h; cases h), ?_⟩
    · exact put8_heap HR.out
    · exact put8_below hbw (Nat.le_refl _) _ _ _ _ _ _ _ _
  | true =>
    go_wp2_with fail
    refine (HC.out _).mono ?_
    rintro e w2 ⟨⟨va, vu, rfl, hoa, hou, hap⟩, hb2⟩
    obtain ⟨a1, k1, hva, _⟩ := hoa.shape
    obtain ⟨a2, k2, hvu, _⟩ := hou.shape
    subst hva hvu
    have HR2 : Hid (w2.heap[w.heap.size]? = some (.cells #[.int .i64 0, .bool false, .bool false, .int .i64 0, .string ⟨#[]⟩, .int .i64 0, .slice none 0 0, .slice none 0 0] 25)) := (hb2.block w.heap.size (by omega)).trans HR.out
    have HOA : Hid (OwnQ w2 w1.heap.size (.slice a1 ([] : List (List UInt8 × Int × Int × List UInt8)).length k1) []) := hoa
    have HOU : Hid (OwnQ w2 w1.heap.size (.slice a2 ([] : List (List UInt8 × Int × Int × List UInt8)).length k2) []) := hou
    have HAP : Hid (∀ g, (Value.slice a1 ([] : List (List UInt8 × Int × Int × List UInt8)).length k1).ownBlock = some g → (Value.slice a2 ([] : List (List UInt8 × Int × Int × List UInt8)).length k2).ownBlock ≠ some g) := hap
    have hbw2 : Below w.heap.size w w2 := hbw.trans (hb2.mono hbw.size)
    clear hoa hou hap hb2 c0 c1 c2 c3 c4 c5 c6 c7 d0 d1 d2 d3 d4 d5 d6 d7 f0 f1 f2 f3 f4 f5 f6 f7
    obtain ⟨c0, c1, c2, c3, c4, c5, c6, c7⟩ := msg_cells HR2.out
    obtain ⟨f0, f1, f2, f3, f4, f5, f6, f7⟩ := msg_frozen HR2.out
    go_wp2_with fail
    (try simp only [Exit.inBlock, Exit.then])
    refine bodyPost_ret (results_row_tmp rfl _ _ w.heap.size 25 #[.int .i64 mi, .bool false, .bool false, .int .i64 0, .string nm, .int .i64 ty, .slice a1 ([] : List (List UInt8 × Int × Int × List UInt8)).length k1, .slice a2 ([] : List (List UInt8 × Int × Int × List UInt8)).length k2] (0, 0) _ (.bool true) rfl rfl ?_ Tryz.underlying25 rfl (by kernel_rfl)) rfl ⟨fun h => (by rw [HRR.out] at h; cases h), fun _ => ⟨_, _, rfl, ?_, ?_, HAP.out⟩, ?_⟩
    · exact put8_heap HR2.out
    · exact (HOA.out.kpt (kpt_put8 _ w.heap.size _ _ _ _ _ _ _ _ (S := fun k => k = w.heap.size) rfl) (fun g hg h => by have h1 := HOA.out.lt g hg; omega)).base (by omega)
    · exact (HOU.out.kpt (kpt_put8 _ w.heap.size _ _ _ _ _ _ _ _ (S := fun k => k = w.heap.size) rfl) (fun g hg h => by have h1 := HOU.out.lt g hg; omega)).base (by omega)
    · exact put8_below hbw2 (Nat.le_refl _) _ _ _ _ _ _ _ _

set_option maxRecDepth 20000 in
set_option maxHeartbeats 2000000 in
theorem iReplyTo_any (mi : Int) (reply cutm : Bool) (code0 : Int) (nm : ByteArray) (ty : Int) (va vu : Value) (A0 U0 : List (List UInt8 × Int × Int × List UInt8)) (code : Int) (vx vy : Value) (X Y : List (List UInt8 × Int × Int × List UInt8)) (w : World) (hn : nm.size ≤ 1048576) (ha : RRow w va A0) (hu : RRow w vu U0)
    (hxa : Hid (∀ x ∈ A0, x.1.length ≤ 1048576 ∧ x.2.2.2.length ≤ 1048576)) (hxu : Hid (∀ x ∈ U0, x.1.length ≤ 1048576 ∧ x.2.2.2.length ≤ 1048576))
    (hx : RRow w vx X) (hy : RRow w vy Y) (hlx : X.length ≤ 1048576) (hly : Y.length ≤ 1048576)
    (hxx : Hid (∀ x ∈ X, x.1.length ≤ 1048576 ∧ x.2.2.2.length ≤ 1048576)) (hxy : Hid (∀ x ∈ Y, x.1.length ≤ 1048576 ∧ x.2.2.2.length ≤ 1048576)) (hE : EnvR w) :
    Calls Tryz.prog 31 #[MsgV mi reply cutm code0 nm ty va vu, .int .i64 code, vx, vy] w fun e w' =>
      ((msgB mi reply cutm code0 nm.data.toList ty A0 U0 && (!reply && msgB mi true false code nm.data.toList ty X Y)) = false → MOwn w' w.heap.size false 0 false false 0 ⟨#[]⟩ 0 [] [] e) ∧
      ((msgB mi reply cutm code0 nm.data.toList ty A0 U0 && (!reply && msgB mi true false code nm.data.toList ty X Y)) = true → MOwn w' w.heap.size true mi true false code nm ty X Y e) ∧ Below w.heap.size w w' := by
  have HG : Hid (∀ W, Below w.heap.size w W → Calls Tryz.prog 19 #[MsgV mi reply cutm code0 nm ty va vu] W fun e w' => e = .returned (.bool (msgB mi reply cutm code0 nm.data.toList ty A0 U0)) ∧ Below W.heap.size W w') := fun W hW => iGoodMessage_any mi reply cutm code0 nm ty va vu A0 U0 W (ha.kept hW) (hu.kept hW) hxa hxu (hE.below hW)
  have HG2 : Hid (∀ W, Below w.heap.size w W → Calls Tryz.prog 19 #[MsgV mi true false code nm ty vx vy] W fun e w' => e = .returned (.bool (msgB mi true false code nm.data.toList ty X Y)) ∧ Below W.heap.size W w') := fun W hW => iGoodMessage_any mi true false code nm ty vx vy X Y W (hx.kept hW) (hy.kept hW) hxx hxy (hE.below hW)
  have HC : Hid (∀ W, Below w.heap.size w W → Calls Tryz.prog 38 #[MsgV mi true false code nm ty vx vy] W fun e w' => (∃ va' vu', e = .returned (MsgV mi true false code nm ty va' vu') ∧ OwnQ w' W.heap.size va' X ∧ OwnQ w' W.heap.size vu' Y ∧ ∀ g, va'.ownBlock = some g → vu'.ownBlock ≠ some g) ∧ Below W.heap.size W w') := fun W hW => copyMessage_any mi true false code nm ty vx vy X Y W hn (hx.kept hW) (hy.kept hW) hlx hly hxx hxy
  obtain ⟨ok, hok⟩ : ∃ ok, ok = msgB mi reply cutm code0 nm.data.toList ty A0 U0 := ⟨_, rfl⟩
  obtain ⟨ok2, hok2⟩ : ∃ ok2, ok2 = msgB mi true false code nm.data.toList ty X Y := ⟨_, rfl⟩
  rw [← hok, ← hok2]
  rw [← hok] at HG
  rw [← hok2] at HG2
  obtain ⟨aa, ca, hva, _, hca, _⟩ := id ha
  obtain ⟨au, cu, hvu, _, hcu, _⟩ := id hu
  obtain ⟨ax, cx, hvx, hcx1, hcx, _⟩ := id hx
  obtain ⟨ay, cy, hvy, hcy1, hcy, _⟩ := id hy
  subst hva hvu hvx hvy
  obtain ⟨R, hR⟩ : ∃ R, R = (ok && (!reply && ok2)) := ⟨_, rfl⟩
  have HRR : Hid (R = (ok && (!reply && ok2))) := hR
  rw [← hR]
  clear hok hok2 ha hu hx hy hR
  unfold MsgV at HG HG2 HC ⊢
  go_enter Tryz.func31, Tryz.ntmps31
  cases reply with
  | true =>
    go_wp2_with fail
    (try simp only [Exit.inBlock, Exit.then])
    refine bodyPost_ret (results_row_tmp rfl _ _ (w.heap.size + 1) 25 #[.int .i64 0, .bool false, .bool false, .int .i64 0, .string ⟨#[]⟩, .int .i64 0, .slice none 0 0, .slice none 0 0] (0, 0) _ (.bool false) rfl rfl ?_ Tryz.underlying25 rfl (by kernel_rfl)) rfl ⟨fun _ => mown_no _ _, fun h => (by rw [HRR.out] at h; simp at h), ?_⟩
    · rw [Below.heap_alloc _ _ _ (by simp), heap_alloc2_new]
    · exact (((Below.refl _ _).alloc (Nat.le_refl _) _).alloc (by simp) _).alloc (by simp; omega) _
  | false =>
    go_wp2_with fail
    refine (HG.out _ ((((Below.refl _ _).alloc (Nat.le_refl _) _).alloc (by simp) _).alloc (by simp; omega) _)).mono ?_
    rintro e w1 ⟨rfl, hb1⟩
    obtain ⟨hm, hr, hp, hbw⟩ := heaps3 hb1
    have hz1 : w.heap.size + 3 ≤ w1.heap.size := by have h := hb1.size; simpa using h
    have HR : Hid (w1.heap[w.heap.size + 1]? = some (.cells #[.int .i64 0, .bool false, .bool false, .int .i64 0, .string ⟨#[]⟩, .int .i64 0, .slice none 0 0, .slice none 0 0] 25)) := hr
    have HP : Hid (w1.heap[w.heap.size + 2]? = some (.cells #[.int .i64 mi, .bool true, .bool false, .int .i64 code, .string nm, .int .i64 ty, .slice ax X.length cx, .slice ay Y.length cy] 25)) := hp
    obtain ⟨c0, c1, c2, c3, c4, c5, c6, c7⟩ := msg_cells hr
    obtain ⟨d0, d1, d2, d3, d4, d5, d6, d7⟩ := msg_cells hp
    obtain ⟨f0, f1, f2, f3, f4, f5, f6, f7⟩ := msg_frozen hr
    clear hr hm hp hb1
    cases ok with
    | false =>
      go_wp2_with fail
      (try simp only [Exit.inBlock, Exit.then])
      refine bodyPost_ret (results_row_tmp rfl _ _ (w.heap.size + 1) 25 #[.int .i64 0, .bool false, .bool false, .int .i64 0, .string ⟨#[]⟩, .int .i64 0, .slice none 0 0, .slice none 0 0] (0, 0) _ (.bool false) rfl rfl ?_ Tryz.underlying25 rfl (by kernel_rfl)) rfl ⟨fun _ => mown_no _ _, fun h => (by rw [HRR.out] at h; simp at h), ?_⟩
      · exact put8_heap HR.out
      · exact put8_below hbw (Nat.le_succ _) _ _ _ _ _ _ _ _
    | true =>
      go_wp2_with fail
      refine (HG2.out _ hbw).mono ?_
      rintro e w2 ⟨rfl, hb2⟩
      have hbw2 : Below w.heap.size w w2 := hbw.trans (hb2.mono hbw.size)
      have hz2 : w1.heap.size ≤ w2.heap.size := hb2.size
      have HR2 : Hid (w2.heap[w.heap.size + 1]? = some (.cells #[.int .i64 0, .bool false, .bool false, .int .i64 0, .string ⟨#[]⟩, .int .i64 0, .slice none 0 0, .slice none 0 0] 25)) := (hb2.block (w.heap.size + 1) (by omega)).trans HR.out
      have HP2 : Hid (w2.heap[w.heap.size + 2]? = some (.cells #[.int .i64 mi, .bool true, .bool false, .int .i64 code, .string nm, .int .i64 ty, .slice ax X.length cx, .slice ay Y.length cy] 25)) := (hb2.block (w.heap.size + 2) (by omega)).trans HP.out
      clear c0 c1 c2 c3 c4 c5 c6 c7 d0 d1 d2 d3 d4 d5 d6 d7 f0 f1 f2 f3 f4 f5 f6 f7 hb2
      obtain ⟨c0, c1, c2, c3, c4, c5, c6, c7⟩ := msg_cells HR2.out
      obtain ⟨d0, d1, d2, d3, d4, d5, d6, d7⟩ := msg_cells HP2.out
      obtain ⟨f0, f1, f2, f3, f4, f5, f6, f7⟩ := msg_frozen HR2.out
      cases ok2 with
      | false =>
        go_wp2_with fail
        (try simp only [Exit.inBlock, Exit.then])
        refine bodyPost_ret (results_row_tmp rfl _ _ (w.heap.size + 1) 25 #[.int .i64 0, .bool false, .bool false, .int .i64 0, .string ⟨#[]⟩, .int .i64 0, .slice none 0 0, .slice none 0 0] (0, 0) _ (.bool false) rfl rfl ?_ Tryz.underlying25 rfl (by kernel_rfl)) rfl ⟨fun _ => mown_no _ _, fun h => (by rw [HRR.out] at h; simp at h), ?_⟩
        · exact put8_heap HR2.out
        · exact put8_below hbw2 (Nat.le_succ _) _ _ _ _ _ _ _ _
      | true =>
        go_wp2_with fail
        refine (HC.out _ hbw2).mono ?_
        rintro e w3 ⟨⟨va, vu, rfl, hoa, hou, hap⟩, hb3⟩
        obtain ⟨a1, k1, hva, _⟩ := hoa.shape
        obtain ⟨a2, k2, hvu, _⟩ := hou.shape
        subst hva hvu
        have HR3 : Hid (w3.heap[w.heap.size + 1]? = some (.cells #[.int .i64 0, .bool false, .bool false, .int .i64 0, .string ⟨#[]⟩, .int .i64 0, .slice none 0 0, .slice none 0 0] 25)) := (hb3.block (w.heap.size + 1) (by omega)).trans HR2.out
        have HOA : Hid (OwnQ w3 w2.heap.size (.slice a1 X.length k1) X) := hoa
        have HOU : Hid (OwnQ w3 w2.heap.size (.slice a2 Y.length k2) Y) := hou
        have HAP : Hid (∀ g, (Value.slice a1 X.length k1).ownBlock = some g → (Value.slice a2 Y.length k2).ownBlock ≠ some g) := hap
        have hbw3 : Below w.heap.size w w3 := hbw2.trans (hb3.mono hbw2.size)
        clear hoa hou hap hb3 c0 c1 c2 c3 c4 c5 c6 c7 d0 d1 d2 d3 d4 d5 d6 d7 f0 f1 f2 f3 f4 f5 f6 f7
        obtain ⟨c0, c1, c2, c3, c4, c5, c6, c7⟩ := msg_cells HR3.out
        obtain ⟨f0, f1, f2, f3, f4, f5, f6, f7⟩ := msg_frozen HR3.out
        go_wp2_with fail
        (try simp only [Exit.inBlock, Exit.then])
        refine bodyPost_ret (results_row_tmp rfl _ _ (w.heap.size + 1) 25 #[.int .i64 mi, .bool true, .bool false, .int .i64 code, .string nm, .int .i64 ty, .slice a1 X.length k1, .slice a2 Y.length k2] (0, 0) _ (.bool true) rfl rfl ?_ Tryz.underlying25 rfl (by kernel_rfl)) rfl ⟨fun h => (by rw [HRR.out] at h; simp at h), fun _ => ⟨_, _, rfl, ?_, ?_, HAP.out⟩, ?_⟩
        · exact put8_heap HR3.out
        · exact (HOA.out.kpt (kpt_put8 _ (w.heap.size + 1) _ _ _ _ _ _ _ _ (S := fun k => k = w.heap.size + 1) rfl) (fun g hg h => by have h1 := HOA.out.lt g hg; omega)).base (by omega)
        · exact (HOU.out.kpt (kpt_put8 _ (w.heap.size + 1) _ _ _ _ _ _ _ _ (S := fun k => k = w.heap.size + 1) rfl) (fun g hg h => by have h1 := HOU.out.lt g hg; omega)).base (by omega)
        · exact put8_below hbw3 (Nat.le_succ _) _ _ _ _ _ _ _ _
end Go.Proofs.YtbgkocjpenkijaaGreatDoor

namespace Go.Proofs.YtbgkocjpenkijaaGreatDoor.replyTo
open Go.RowKit

theorem own_of {w : World} {base g : Nat} {L : List (List UInt8 × Int × Int × List UInt8)} (h : QRow w g L) (hb : base ≤ g) (hl : L.length ≤ 1048576) : OwnQ w base (.slice (some ⟨g, 0, none⟩) L.length L.length) L :=
  .inr ⟨g, L.length, rfl, Nat.le_refl _, by unfold maxLen; omega, hb, h⟩

set_option maxRecDepth 20000 in
set_option maxHeartbeats 16000000 in
theorem core (mi : Int) (reply cutm : Bool) (code : Int) (nm : ByteArray) (ty : Int) (va vu : Value) (A U : List (List UInt8 × Int × Int × List UInt8)) (newc : Int) (vx vy : Value) (X Y : List (List UInt8 × Int × Int × List UInt8)) (w : World) (ok : Bool) (mi2 : Int) (reply2 cutm2 : Bool) (code2 : Int) (nm2 : ByteArray) (ty2 : Int) (A2 U2 : List (List UInt8 × Int × Int × List UInt8))
    (hn : nm.size ≤ maxLen) (ha : RRow w va A) (hxa : Hid (∀ x ∈ A, x.1.length ≤ maxLen ∧ x.2.2.2.length ≤ maxLen)) (hu : RRow w vu U) (hxu : Hid (∀ x ∈ U, x.1.length ≤ maxLen ∧ x.2.2.2.length ≤ maxLen)) (hx : RRow w vx X) (hxx : Hid (∀ x ∈ X, x.1.length ≤ maxLen ∧ x.2.2.2.length ≤ maxLen)) (hy : RRow w vy Y) (hxy : Hid (∀ x ∈ Y, x.1.length ≤ maxLen ∧ x.2.2.2.length ≤ maxLen)) (hA2 : A2.length ≤ 1048576) (hU2 : U2.length ≤ 1048576) (hE : EnvR w)
    (HS0 : Hid (nm.size ≤ 1048576 → Hid (∀ x ∈ A, x.1.length ≤ 1048576 ∧ x.2.2.2.length ≤ 1048576) → Hid (∀ x ∈ U, x.1.length ≤ 1048576 ∧ x.2.2.2.length ≤ 1048576) → Hid (∀ x ∈ X, x.1.length ≤ 1048576 ∧ x.2.2.2.length ≤ 1048576) → Hid (∀ x ∈ Y, x.1.length ≤ 1048576 ∧ x.2.2.2.length ≤ 1048576) → X.length ≤ 1048576 → Y.length ≤ 1048576 → ∀ g1 g2 g3 g4 W, QRow W g1 A → QRow W g2 U → QRow W g3 X → QRow W g4 Y → Calls Tryz.prog 29 #[MsgV mi reply cutm code nm ty (.slice (some ⟨g1, 0, none⟩) A.length A.length) (.slice (some ⟨g2, 0, none⟩) U.length U.length), .int .i64 newc, .slice (some ⟨g3, 0, none⟩) X.length X.length, .slice (some ⟨g4, 0, none⟩) Y.length Y.length] W fun e w' => MRes w' ok mi2 reply2 cutm2 code2 nm2 ty2 A2 U2 e ∧ Below W.heap.size W w'))
    (HI0 : Hid (nm.size ≤ 1048576 → Hid (∀ x ∈ A, x.1.length ≤ 1048576 ∧ x.2.2.2.length ≤ 1048576) → Hid (∀ x ∈ U, x.1.length ≤ 1048576 ∧ x.2.2.2.length ≤ 1048576) → Hid (∀ x ∈ X, x.1.length ≤ 1048576 ∧ x.2.2.2.length ≤ 1048576) → Hid (∀ x ∈ Y, x.1.length ≤ 1048576 ∧ x.2.2.2.length ≤ 1048576) → X.length ≤ 1048576 → Y.length ≤ 1048576 → ∀ g1 g2 g3 g4 W, EnvR W → QRow W g1 A → QRow W g2 U → QRow W g3 X → QRow W g4 Y → Calls Tryz.prog 31 #[MsgV mi reply cutm code nm ty (.slice (some ⟨g1, 0, none⟩) A.length A.length) (.slice (some ⟨g2, 0, none⟩) U.length U.length), .int .i64 newc, .slice (some ⟨g3, 0, none⟩) X.length X.length, .slice (some ⟨g4, 0, none⟩) Y.length Y.length] W fun e w' => MOwn w' W.heap.size ok mi2 reply2 cutm2 code2 nm2 ty2 A2 U2 e ∧ Below W.heap.size W w')) :
    Calls Tryz.prog 9 #[MsgV mi reply cutm code nm ty va vu, .int .i64 newc, vx, vy] w fun e w' => e = .returned (.bool true) ∧ Below w.heap.size w w' := by
  obtain ⟨aa, ca, hva, _, hca, _⟩ := id ha
  obtain ⟨au, cu, hvu, _, hcu, _⟩ := id hu
  have HSZ : Hid (∀ W, Below w.heap.size w W → Calls Tryz.prog 16 #[MsgV mi reply cutm code nm ty va vu, .int .i64 1048576] W fun e w' => (∃ q : Int, e = .returned (.int .i64 q) ∧ (q = -1 ∨ (0 ≤ q ∧ q = 1048576 - (nm.size : Int) - (A.length : Int) - (wtR A : Int) - (U.length : Int) - (wtR U : Int)))) ∧ Below W.heap.size W w') := fun W hW => szMessage_any mi reply cutm code nm ty va vu A U 1048576 W hn (ha.kept hW) (hu.kept hW) hxa hxu (by omega) (by omega)
  have HTO : Hid (A.length ≤ 1048576 → U.length ≤ 1048576 → ∀ W, Below w.heap.size w W → Calls Tryz.prog 18 #[MsgV mi reply cutm code nm ty va vu] W fun e w' => (∃ g1 g2, e = .returned (MsgV mi reply cutm code nm ty (.slice (some ⟨g1, 0, none⟩) A.length A.length) (.slice (some ⟨g2, 0, none⟩) U.length U.length)) ∧ W.heap.size ≤ g1 ∧ g1 < g2 ∧ QRow w' g1 A ∧ QRow w' g2 U) ∧ Below W.heap.size W w') := fun h1 h2 W hW => toMessage_any mi reply cutm code nm ty va vu A U W (ha.kept hW) (hu.kept hW) h1 h2
  obtain ⟨ax, cx, hvx, _, hcx, _⟩ := id hx
  obtain ⟨ay, cy, hvy, _, hcy, _⟩ := id hy
  have HZX : Hid (∀ (left : Int) W, 0 ≤ left → left ≤ 1048576 → Below w.heap.size w W → Calls Tryz.prog 28 #[vx, .int .i64 left] W fun e w' => (∃ q : Int, e = .returned (.int .i64 q) ∧ ((q = -1 ∧ left < (X.length : Int) + (wtR X : Int)) ∨ (q = left - (X.length : Int) - (wtR X : Int) ∧ 0 ≤ q))) ∧ Below W.heap.size W w') := fun left W h0 h1 hW => szRecordS_any vx X left W (hx.kept hW) hxx h0 h1
  have HZY : Hid (∀ (left : Int) W, 0 ≤ left → left ≤ 1048576 → Below w.heap.size w W → Calls Tryz.prog 28 #[vy, .int .i64 left] W fun e w' => (∃ q : Int, e = .returned (.int .i64 q) ∧ ((q = -1 ∧ left < (Y.length : Int) + (wtR Y : Int)) ∨ (q = left - (Y.length : Int) - (wtR Y : Int) ∧ 0 ≤ q))) ∧ Below W.heap.size W w') := fun left W h0 h1 hW => szRecordS_any vy Y left W (hy.kept hW) hxy h0 h1
  have HTX0 : Hid (X.length ≤ 1048576 → ∀ W, Below w.heap.size w W → Calls Tryz.prog 30 #[vx] W fun e w' => e = .returned (.slice (some ⟨W.heap.size, 0, none⟩) X.length X.length) ∧ QRow w' W.heap.size X ∧ Below W.heap.size W w') := fun h W hW => toRecordS_any vx X W (hx.kept hW) h
  have HTY0 : Hid (Y.length ≤ 1048576 → ∀ W, Below w.heap.size w W → Calls Tryz.prog 30 #[vy] W fun e w' => e = .returned (.slice (some ⟨W.heap.size, 0, none⟩) Y.length Y.length) ∧ QRow w' W.heap.size Y ∧ Below W.heap.size W w') := fun h W hW => toRecordS_any vy Y W (hy.kept hW) h
  have HEQX : Hid (∀ g1 g2 W, X.length ≤ 1048576 → QRow W g1 X → QRow W g2 X → Calls Tryz.prog 32 #[.slice (some ⟨g1, 0, none⟩) X.length X.length, .slice (some ⟨g2, 0, none⟩) X.length X.length] W fun e w' => e = .returned (.bool true) ∧ Below W.heap.size W w') := fun g1 g2 W hl h1 h2 => eqRecordS_same _ _ X W (h1.row (Nat.le_refl _) (by unfold maxLen; omega)) (h2.row (Nat.le_refl _) (by unfold maxLen; omega))
  have HEQY : Hid (∀ g1 g2 W, Y.length ≤ 1048576 → QRow W g1 Y → QRow W g2 Y → Calls Tryz.prog 32 #[.slice (some ⟨g1, 0, none⟩) Y.length Y.length, .slice (some ⟨g2, 0, none⟩) Y.length Y.length] W fun e w' => e = .returned (.bool true) ∧ Below W.heap.size W w') := fun g1 g2 W hl h1 h2 => eqRecordS_same _ _ Y W (h1.row (Nat.le_refl _) (by unfold maxLen; omega)) (h2.row (Nat.le_refl _) (by unfold maxLen; omega))
  have e2 : (ok != ok) = false := by simp
  subst hvx
  subst hvy
  subst hva
  subst hvu
  clear ha hu hx hy
  unfold MsgV at HSZ ⊢
  go_enter Tryz.func9, Tryz.ntmps9
  go_wp2_with fail
  refine (HSZ.out _ ((Below.refl w.heap.size w).alloc (Nat.le_refl _) _)).mono ?_
  rintro e w1 ⟨⟨q, rfl, hq⟩, hb1⟩
  have hbw1 : Below w.heap.size w w1 := ((Below.refl w.heap.size w).alloc (Nat.le_refl _) _).trans (hb1.mono (by simp))
  have HP1 : Hid (w1.heap[w.heap.size]? = some (.cells #[.int .i64 mi, .bool reply, .bool cutm, .int .i64 code, .string nm, .int .i64 ty, .slice aa A.length ca, .slice au U.length cu] 39)) := (hb1.block w.heap.size (by simp)).trans (blk_new _ _)
  have hz1 : w.heap.size < w1.heap.size := Nat.lt_of_lt_of_le (by simp) hb1.size
  clear hb1 HSZ
  by_cases hq1 : q = -1
  · subst hq1
    clear hq
    go_wp2_with fail
    go_ret
    exact ⟨rfl, hbw1⟩
  rcases hq with rfl | ⟨hq0, hqe⟩
  · exact absurd rfl hq1
  obtain ⟨hn', hA, hU, _, hAs, hUs⟩ := sz_small hq0 hqe
  have hq2 : q ≤ 1048576 := by omega
  have HQE : Hid (q = 1048576 - (nm.size : Int) - (A.length : Int) - (wtR A : Int) - (U.length : Int) - (wtR U : Int)) := hqe
  clear hqe
  go_wp2_with fail
  refine (HZX.out q _ hq0 hq2 hbw1).mono ?_
  rintro e w1x ⟨⟨qa, rfl, hqa1⟩, hb1x⟩
  have hbw1x : Below w.heap.size w w1x := hbw1.trans (hb1x.mono hbw1.size)
  have HP1x : Hid (w1x.heap[w.heap.size]? = some (.cells #[.int .i64 mi, .bool reply, .bool cutm, .int .i64 code, .string nm, .int .i64 ty, .slice aa A.length ca, .slice au U.length cu] 39)) := (hb1x.block w.heap.size hz1).trans HP1.out
  have hz1x : w.heap.size < w1x.heap.size := Nat.lt_of_lt_of_le hz1 hb1x.size
  clear hb1x HP1 hbw1 hz1
  rcases hqa1 with ⟨rfl, _⟩ | ⟨hqa1, hqa0⟩
  · go_wp2_with fail
    go_ret
    exact ⟨rfl, hbw1x⟩
  have hqa2 : qa ≤ 1048576 := by omega
  have HQA0 : Hid (qa = q - (X.length : Int) - (wtR X : Int)) := hqa1
  clear hqa1
  go_wp2_with fail
  refine (HZY.out qa _ hqa0 hqa2 hbw1x).mono ?_
  rintro e w1 ⟨⟨qb, rfl, hqb1⟩, hb1y⟩
  have hbw1 : Below w.heap.size w w1 := hbw1x.trans (hb1y.mono hbw1x.size)
  have HP1 : Hid (w1.heap[w.heap.size]? = some (.cells #[.int .i64 mi, .bool reply, .bool cutm, .int .i64 code, .string nm, .int .i64 ty, .slice aa A.length ca, .slice au U.length cu] 39)) := (hb1y.block w.heap.size hz1x).trans HP1x.out
  have hz1 : w.heap.size < w1.heap.size := Nat.lt_of_lt_of_le hz1x hb1y.size
  clear hb1y HP1x hbw1x hz1x
  rcases hqb1 with ⟨rfl, _⟩ | ⟨hqb1, hqb0⟩
  · go_wp2_with fail
    go_ret
    exact ⟨rfl, hbw1⟩
  have HXS : Hid (∀ x ∈ X, x.1.length ≤ 1048576 ∧ x.2.2.2.length ≤ 1048576) := fun x hx => by have h := wtR_mem hx; have h1 := HQA0.out; omega
  have HYS : Hid (∀ x ∈ Y, x.1.length ≤ 1048576 ∧ x.2.2.2.length ≤ 1048576) := fun x hx => by have h := wtR_mem hx; omega
  have hX : X.length ≤ 1048576 := by have h1 := HQA0.out; omega
  have hY : Y.length ≤ 1048576 := by omega
  have HTX : Hid (∀ W, Below w.heap.size w W → Calls Tryz.prog 30 #[.slice ax X.length cx] W fun e w' => e = .returned (.slice (some ⟨W.heap.size, 0, none⟩) X.length X.length) ∧ QRow w' W.heap.size X ∧ Below W.heap.size W w') := HTX0.out hX
  have HTY : Hid (∀ W, Below w.heap.size w W → Calls Tryz.prog 30 #[.slice ay Y.length cy] W fun e w' => e = .returned (.slice (some ⟨W.heap.size, 0, none⟩) Y.length Y.length) ∧ QRow w' W.heap.size Y ∧ Below W.heap.size W w') := HTY0.out hY
  have hqbi : decide (qb < 0) = false := by simp; omega
  have HT : Hid (∀ W, Below w.heap.size w W → Calls Tryz.prog 18 #[MsgV mi reply cutm code nm ty (.slice aa A.length ca) (.slice au U.length cu)] W fun e w' => (∃ g1 g2, e = .returned (MsgV mi reply cutm code nm ty (.slice (some ⟨g1, 0, none⟩) A.length A.length) (.slice (some ⟨g2, 0, none⟩) U.length U.length)) ∧ W.heap.size ≤ g1 ∧ g1 < g2 ∧ QRow w' g1 A ∧ QRow w' g2 U) ∧ Below W.heap.size W w') := HTO.out hA hU
  have HS : Hid (∀ g1 g2 g3 g4 W, QRow W g1 A → QRow W g2 U → QRow W g3 X → QRow W g4 Y → Calls Tryz.prog 29 #[MsgV mi reply cutm code nm ty (.slice (some ⟨g1, 0, none⟩) A.length A.length) (.slice (some ⟨g2, 0, none⟩) U.length U.length), .int .i64 newc, .slice (some ⟨g3, 0, none⟩) X.length X.length, .slice (some ⟨g4, 0, none⟩) Y.length Y.length] W fun e w' => MRes w' ok mi2 reply2 cutm2 code2 nm2 ty2 A2 U2 e ∧ Below W.heap.size W w') := HS0.out hn' hAs hUs HXS HYS hX hY
  have HI : Hid (∀ g1 g2 g3 g4 W, EnvR W → QRow W g1 A → QRow W g2 U → QRow W g3 X → QRow W g4 Y → Calls Tryz.prog 31 #[MsgV mi reply cutm code nm ty (.slice (some ⟨g1, 0, none⟩) A.length A.length) (.slice (some ⟨g2, 0, none⟩) U.length U.length), .int .i64 newc, .slice (some ⟨g3, 0, none⟩) X.length X.length, .slice (some ⟨g4, 0, none⟩) Y.length Y.length] W fun e w' => MOwn w' W.heap.size ok mi2 reply2 cutm2 code2 nm2 ty2 A2 U2 e ∧ Below W.heap.size W w') := HI0.out hn' hAs hUs HXS HYS hX hY
  have HEX : Hid (∀ g1 g2 g3 g4 W, QRow W g1 A → QRow W g2 U → QRow W g3 A → QRow W g4 U → Calls Tryz.prog 20 #[MsgV mi reply cutm code nm ty (.slice (some ⟨g1, 0, none⟩) A.length A.length) (.slice (some ⟨g2, 0, none⟩) U.length U.length), MsgV mi reply cutm code nm ty (.slice (some ⟨g3, 0, none⟩) A.length A.length) (.slice (some ⟨g4, 0, none⟩) U.length U.length)] W fun e w' => e = .returned (.bool true) ∧ Below W.heap.size W w') := fun g1 g2 g3 g4 W h1 h2 h3 h4 => eqMessage_same mi reply cutm code nm ty _ _ _ _ A U W (h1.row (Nat.le_refl _) (by unfold maxLen; omega)) (h2.row (Nat.le_refl _) (by unfold maxLen; omega)) (h3.row (Nat.le_refl _) (by unfold maxLen; omega)) (h4.row (Nat.le_refl _) (by unfold maxLen; omega))
  have HEG : Hid (∀ va vu vb vc W, RRow W va A2 → RRow W vu U2 → RRow W vb A2 → RRow W vc U2 → Calls Tryz.prog 20 #[MsgV mi2 reply2 cutm2 code2 nm2 ty2 va vu, MsgV mi2 reply2 cutm2 code2 nm2 ty2 vb vc] W fun e w' => e = .returned (.bool true) ∧ Below W.heap.size W w') := fun va vu vb vc W h1 h2 h3 h4 => eqMessage_same mi2 reply2 cutm2 code2 nm2 ty2 va vu vb vc A2 U2 W h1 h2 h3 h4
  have HMX : Hid (∀ va vu base W, OwnQ W base va A → OwnQ W base vu U → (∀ g, va.ownBlock = some g → vu.ownBlock ≠ some g) → Calls Tryz.prog 24 #[MsgV mi reply cutm code nm ty va vu, .int .i64 1] W fun e w' => e = .returned (.int .i64 (1 + 4 * (A.length : Int) + 4 * (U.length : Int))) ∧ OwnQ w' base va (mrks 1 A.length) ∧ OwnQ w' base vu (mrks (1 + 4 * A.length) U.length) ∧ Kpt W w' (fun k => va.ownBlock = some k ∨ vu.ownBlock = some k)) := fun va vu base W h1 h2 h3 => markMessage_any mi reply cutm code nm ty va vu A U base 1 W h1 h2 h3 hA hU (by omega) (by omega)
  have HMG : Hid (∀ va vu base W, OwnQ W base va A2 → OwnQ W base vu U2 → (∀ g, va.ownBlock = some g → vu.ownBlock ≠ some g) → Calls Tryz.prog 24 #[MsgV mi2 reply2 cutm2 code2 nm2 ty2 va vu, .int .i64 1] W fun e w' => e = .returned (.int .i64 (1 + 4 * (A2.length : Int) + 4 * (U2.length : Int))) ∧ OwnQ w' base va (mrks 1 A2.length) ∧ OwnQ w' base vu (mrks (1 + 4 * A2.length) U2.length) ∧ Kpt W w' (fun k => va.ownBlock = some k ∨ vu.ownBlock = some k)) := fun va vu base W h1 h2 h3 => markMessage_any mi2 reply2 cutm2 code2 nm2 ty2 va vu A2 U2 base 1 W h1 h2 h3 hA2 hU2 (by omega) (by omega)
  have HHG : Hid (∀ va vu base W, OwnQ W base va (mrks 1 A2.length) → OwnQ W base vu (mrks (1 + 4 * A2.length) U2.length) → Calls Tryz.prog 25 #[MsgV mi2 reply2 cutm2 code2 nm2 ty2 va vu, .int .i64 1] W fun e w' => e = .returned (.int .i64 (1 + 4 * (A2.length : Int) + 4 * (U2.length : Int))) ∧ Below W.heap.size W w') := fun va vu base W h1 h2 => heldMessage_any mi2 reply2 cutm2 code2 nm2 ty2 va vu A2.length U2.length 1 W h1.row h2.row hA2 hU2 (by omega) (by omega)
  obtain ⟨qx, hqx⟩ : ∃ q : Int, q = 1 + 4 * (A.length : Int) + 4 * (U.length : Int) := ⟨_, rfl⟩
  have HMRX0 : ∀ g W, QRow W g X → Calls Tryz.prog 33 #[.slice (some ⟨g, 0, none⟩) X.length X.length, .int .i64 (1 + 4 * (A.length : Int) + 4 * (U.length : Int))] W fun e w' => e = .returned (.int .i64 (1 + 4 * (A.length : Int) + 4 * (U.length : Int) + 4 * (X.length : Int))) ∧ Kpt W w' (fun k => k = g) := fun g W h => by
    have e1 : (1 + 4 * (A.length : Int) + 4 * (U.length : Int)) = ((1 + 4 * A.length + 4 * U.length : Nat) : Int) := by omega
    rw [e1]
    exact (markRecordS_any _ X g (1 + 4 * A.length + 4 * U.length) W (own_of h (Nat.le_refl _) hX) hX (by omega) (by omega)).mono (fun e w' ⟨h1, _, h3⟩ => ⟨h1, (grown_kpt h3).mono (fun k _ hk => by simp [Value.ownBlock] at hk; omega)⟩)
  have HMRY0 : ∀ g W, QRow W g Y → Calls Tryz.prog 33 #[.slice (some ⟨g, 0, none⟩) Y.length Y.length, .int .i64 (1 + 4 * (A.length : Int) + 4 * (U.length : Int) + 4 * (X.length : Int))] W fun e w' => e = .returned (.int .i64 (1 + 4 * (A.length : Int) + 4 * (U.length : Int) + 4 * (X.length : Int) + 4 * (Y.length : Int))) ∧ Kpt W w' (fun k => k = g) := fun g W h => by
    have e1 : (1 + 4 * (A.length : Int) + 4 * (U.length : Int) + 4 * (X.length : Int)) = ((1 + 4 * A.length + 4 * U.length + 4 * X.length : Nat) : Int) := by omega
    rw [e1]
    exact (markRecordS_any _ Y g (1 + 4 * A.length + 4 * U.length + 4 * X.length) W (own_of h (Nat.le_refl _) hY) hY (by omega) (by omega)).mono (fun e w' ⟨h1, _, h3⟩ => ⟨h1, (grown_kpt h3).mono (fun k _ hk => by simp [Value.ownBlock] at hk; omega)⟩)
  obtain ⟨qr, hqr⟩ : ∃ q : Int, q = 1 + 4 * (A.length : Int) + 4 * (U.length : Int) + 4 * (X.length : Int) := ⟨_, rfl⟩
  obtain ⟨qs, hqs⟩ : ∃ q : Int, q = qr + 4 * (Y.length : Int) := ⟨_, rfl⟩
  rw [← hqx] at HMRX0
  have HMRX : Hid (∀ g W, QRow W g X → Calls Tryz.prog 33 #[.slice (some ⟨g, 0, none⟩) X.length X.length, .int .i64 qx] W fun e w' => e = .returned (.int .i64 qr) ∧ Kpt W w' (fun k => k = g)) := by rw [hqr, ← hqx]; exact HMRX0
  have HMRY : Hid (∀ g W, QRow W g Y → Calls Tryz.prog 33 #[.slice (some ⟨g, 0, none⟩) Y.length Y.length, .int .i64 qr] W fun e w' => e = .returned (.int .i64 qs) ∧ Kpt W w' (fun k => k = g)) := by rw [hqs, hqr]; exact HMRY0
  have hqs0 : decide (qs < 0) = false := by simp; omega
  have hqs1 : ¬ qs < 0 := by omega
  clear HMRX0 HMRY0
  obtain ⟨qg, hqg⟩ : ∃ q : Int, q = 1 + 4 * (A2.length : Int) + 4 * (U2.length : Int) := ⟨_, rfl⟩
  rw [← hqx] at HMX
  rw [← hqg] at HMG HHG
  have hqx0 : decide (qx < 0) = false := by simp; omega
  have hqg0 : decide (qg < 0) = false := by simp; omega
  have hqq : (qg != qg) = false := by simp
  have hq10 : ¬ qx < 0 := by omega
  clear hqr hqs hqx hqg hqb1 hAs hUs HS0 HI0 HTO hn hn' HZX HZY HTX0 HTY0 HXS HYS
  unfold MsgV at HS HI HT HEX HEG HMX HMG HHG
  obtain ⟨p0, p1, p2, p3, p4, p5, p6, p7⟩ := msg_cells HP1.out
  go_wp2_with fail
  refine (HT.out _ hbw1).mono ?_
  rintro e w2 ⟨⟨g1, g2, rfl, hg1, hg12, hqa, hqu⟩, hb2⟩
  clear p0 p1 p2 p3 p4 p5 p6 p7
  have hbw2 : Below w.heap.size w w2 := hbw1.trans (hb2.mono hbw1.size)
  have HP2 : Hid (w2.heap[w.heap.size]? = some (.cells #[.int .i64 mi, .bool reply, .bool cutm, .int .i64 code, .string nm, .int .i64 ty, .slice aa A.length ca, .slice au U.length cu] 39)) := (hb2.block w.heap.size hz1).trans HP1.out
  have hz2 : w.heap.size < w2.heap.size := Nat.lt_of_lt_of_le hz1 hb2.size
  have HQA : Hid (QRow w2 g1 A) := hqa
  have HQU : Hid (QRow w2 g2 U) := hqu
  clear hqa hqu hg1 hg12 hb2 HP1 hbw1
  go_wp2_with fail
  refine (HTX.out _ hbw2).mono ?_
  rintro e w2x ⟨rfl, hqx2, hb2x⟩
  have hbw2x : Below w.heap.size w w2x := hbw2.trans (hb2x.mono hbw2.size)
  have HQX : Hid (QRow w2x w2.heap.size X) := hqx2
  have HQAx : Hid (QRow w2x g1 A) := HQA.out.kept hb2x
  have HQUx : Hid (QRow w2x g2 U) := HQU.out.kept hb2x
  have HP2x : Hid (w2x.heap[w.heap.size]? = some (.cells #[.int .i64 mi, .bool reply, .bool cutm, .int .i64 code, .string nm, .int .i64 ty, .slice aa A.length ca, .slice au U.length cu] 39)) := (hb2x.block w.heap.size hz2).trans HP2.out
  have hz2x : w.heap.size < w2x.heap.size := Nat.lt_of_lt_of_le hz2 hb2x.size
  clear hqx2 hb2x HQA HQU HP2
  go_wp2_with fail
  refine (HTY.out _ hbw2x).mono ?_
  rintro e w2y ⟨rfl, hqy2, hb2y⟩
  have hbw2y : Below w.heap.size w w2y := hbw2x.trans (hb2y.mono hbw2x.size)
  have HQY : Hid (QRow w2y w2x.heap.size Y) := hqy2
  have HQXy : Hid (QRow w2y w2.heap.size X) := HQX.out.kept hb2y
  have HQAy : Hid (QRow w2y g1 A) := HQAx.out.kept hb2y
  have HQUy : Hid (QRow w2y g2 U) := HQUx.out.kept hb2y
  have HP2y : Hid (w2y.heap[w.heap.size]? = some (.cells #[.int .i64 mi, .bool reply, .bool cutm, .int .i64 code, .string nm, .int .i64 ty, .slice aa A.length ca, .slice au U.length cu] 39)) := (hb2y.block w.heap.size hz2x).trans HP2x.out
  have hz2y : w.heap.size < w2y.heap.size := Nat.lt_of_lt_of_le hz2x hb2y.size
  clear hqy2 hb2y HQX HQAx HQUx HP2x
  go_wp2_with fail
  refine (HS.out g1 g2 _ _ _ HQAy.out HQUy.out HQXy.out HQY.out).mono ?_
  rintro e w3 ⟨⟨vw6, vw7, rfl, hra, hru⟩, hb3⟩
  obtain ⟨aw6, cw6, hvw6, _, hcw6, _⟩ := id hra
  obtain ⟨aw7, cw7, hvw7, _, hcw7, _⟩ := id hru
  have HRA : Hid (∀ W, Below w3.heap.size w3 W → RRow W vw6 A2) := fun W hW => hra.kept hW
  have HRU : Hid (∀ W, Below w3.heap.size w3 W → RRow W vw7 U2) := fun W hW => hru.kept hW
  subst hvw6
  subst hvw7
  unfold MsgV
  have hbw3 : Below w.heap.size w w3 := hbw2y.trans (hb3.mono hbw2y.size)
  have HP3 : Hid (w3.heap[w.heap.size]? = some (.cells #[.int .i64 mi, .bool reply, .bool cutm, .int .i64 code, .string nm, .int .i64 ty, .slice aa A.length ca, .slice au U.length cu] 39)) := (hb3.block w.heap.size hz2y).trans HP2y.out
  have hz3 : w.heap.size < w3.heap.size := Nat.lt_of_lt_of_le hz2y hb3.size
  obtain ⟨p0, p1, p2, p3, p4, p5, p6, p7⟩ := msg_cells HP3.out
  clear HQAy HQUy HQXy HQY hb3 HP2y hbw2 hbw2x hbw2y hra hru HS hz2 hz2x hz2y
  go_wp2_with fail
  refine (HT.out _ (hbw3.alloc hbw3.size _)).mono ?_
  rintro e w4 ⟨⟨g3, g4, rfl, hg3, hg34, hqa, hqu⟩, hb4⟩
  clear p0 p1 p2 p3 p4 p5 p6 p7
  have hb34 : Below w3.heap.size w3 w4 := ((Below.refl w3.heap.size w3).alloc (Nat.le_refl _) _).trans (hb4.mono (by simp))
  have hbw4 : Below w.heap.size w w4 := hbw3.trans (hb34.mono hbw3.size)
  have HP4 : Hid (w4.heap[w.heap.size]? = some (.cells #[.int .i64 mi, .bool reply, .bool cutm, .int .i64 code, .string nm, .int .i64 ty, .slice aa A.length ca, .slice au U.length cu] 39)) := (hb34.block w.heap.size hz3).trans HP3.out
  have HW4 : Hid (w4.heap[w3.heap.size]? = some (.cells #[.int .i64 mi2, .bool reply2, .bool cutm2, .int .i64 code2, .string nm2, .int .i64 ty2, .slice aw6 A2.length cw6, .slice aw7 U2.length cw7] 25)) := (hb4.block w3.heap.size (by simp)).trans (blk_new _ _)
  have hz34 : w3.heap.size < w4.heap.size := Nat.lt_of_lt_of_le (by simp) hb4.size
  have hg3' : w3.heap.size + 1 ≤ g3 := by simpa using hg3
  have HQA : Hid (QRow w4 g3 A) := hqa
  have HQU : Hid (QRow w4 g4 U) := hqu
  have hg4 : g4 < w4.heap.size := hqu.1
  clear hqa hqu hg3 hb4 HP3 hbw3
  go_wp2_with fail
  refine (HTX.out _ (hbw4.alloc hbw4.size _)).mono ?_
  rintro e w5 ⟨rfl, hqx5, hb5⟩
  have hb45 : Below w4.heap.size w4 w5 := ((Below.refl w4.heap.size w4).alloc (Nat.le_refl _) _).trans (hb5.mono (by simp))
  have hz45 : w4.heap.size + 1 < w5.heap.size := by have h := hqx5.1; simpa using h
  have HX5 : Hid (w5.heap[w4.heap.size]? = some (.cells #[.int .i64 mi, .bool reply, .bool cutm, .int .i64 code, .string nm, .int .i64 ty, .slice (some ⟨g3, 0, none⟩) A.length A.length, .slice (some ⟨g4, 0, none⟩) U.length U.length] 25)) := (hb5.block w4.heap.size (by simp)).trans (blk_new _ _)
  have HQX5 : Hid (QRow w5 (w4.heap.size + 1) X) := by
    have h : QRow w5 (w4.heap.size + 1) X := by simpa using hqx5
    exact h
  have hbw5 : Below w.heap.size w w5 := hbw4.trans (hb45.mono hbw4.size)
  clear hqx5 hb5
  go_wp2_with fail
  refine (HTY.out _ hbw5).mono ?_
  rintro e w5b ⟨rfl, hqy5, hb5b⟩
  have hb45b : Below w4.heap.size w4 w5b := hb45.trans (hb5b.mono hb45.size)
  have hz5b : w5.heap.size < w5b.heap.size := hqy5.1
  have HX5b : Hid (w5b.heap[w4.heap.size]? = some (.cells #[.int .i64 mi, .bool reply, .bool cutm, .int .i64 code, .string nm, .int .i64 ty, .slice (some ⟨g3, 0, none⟩) A.length A.length, .slice (some ⟨g4, 0, none⟩) U.length U.length] 25)) := (hb5b.block w4.heap.size (by omega)).trans HX5.out
  have HQX5b : Hid (QRow w5b (w4.heap.size + 1) X) := HQX5.out.kept hb5b
  have HQY5b : Hid (QRow w5b w5.heap.size Y) := hqy5
  have hbw5b : Below w.heap.size w w5b := hbw5.trans (hb5b.mono hbw5.size)
  have HQA5 : Hid (QRow w5b g3 A) := HQA.out.kept hb45b
  have HQU5 : Hid (QRow w5b g4 U) := HQU.out.kept hb45b
  obtain ⟨x0, x1, x2, x3, x4, x5, x6, x7⟩ := msg_cells HX5b.out
  clear hqy5 hb5b HX5 HQX5 hbw5
  go_wp2_with fail
  refine (HI.out g3 g4 _ _ _ (hE.below hbw5b) HQA5.out HQU5.out HQX5b.out HQY5b.out).mono ?_
  rintro e w6 ⟨⟨vg6, vg7, rfl, hoa, hou, hap⟩, hb6⟩
  clear x0 x1 x2 x3 x4 x5 x6 x7
  obtain ⟨ag6, cg6, hvg6, hcg6⟩ := hoa.shape
  obtain ⟨ag7, cg7, hvg7, hcg7⟩ := hou.shape
  subst hvg6
  subst hvg7
  unfold MsgV
  have hb46 : Below w4.heap.size w4 w6 := hb45b.trans (hb6.mono hb45b.size)
  have hz46 : w5b.heap.size ≤ w6.heap.size := hb6.size
  have HOA : Hid (OwnQ w6 w5b.heap.size (.slice ag6 A2.length cg6) A2) := hoa
  have HOU : Hid (OwnQ w6 w5b.heap.size (.slice ag7 U2.length cg7) U2) := hou
  have HAP : Hid (∀ g, (Value.slice ag6 A2.length cg6).ownBlock = some g → (Value.slice ag7 U2.length cg7).ownBlock ≠ some g) := hap
  have HP6 : Hid (w6.heap[w.heap.size]? = some (.cells #[.int .i64 mi, .bool reply, .bool cutm, .int .i64 code, .string nm, .int .i64 ty, .slice aa A.length ca, .slice au U.length cu] 39)) := (hb46.block w.heap.size (by omega)).trans HP4.out
  have HW6 : Hid (w6.heap[w3.heap.size]? = some (.cells #[.int .i64 mi2, .bool reply2, .bool cutm2, .int .i64 code2, .string nm2, .int .i64 ty2, .slice aw6 A2.length cw6, .slice aw7 U2.length cw7] 25)) := (hb46.block w3.heap.size hz34).trans HW4.out
  have HX6 : Hid (w6.heap[w4.heap.size]? = some (.cells #[.int .i64 mi, .bool reply, .bool cutm, .int .i64 code, .string nm, .int .i64 ty, .slice (some ⟨g3, 0, none⟩) A.length A.length, .slice (some ⟨g4, 0, none⟩) U.length U.length] 25)) := (hb6.block w4.heap.size (by omega)).trans HX5b.out
  have HQX6 : Hid (QRow w6 (w4.heap.size + 1) X) := HQX5b.out.kept hb6
  have HQY6 : Hid (QRow w6 w5.heap.size Y) := HQY5b.out.kept hb6
  have HQA6 : Hid (QRow w6 g3 A) := HQA.out.kept hb46
  have HQU6 : Hid (QRow w6 g4 U) := HQU.out.kept hb46
  have hb36 : Below w3.heap.size w3 w6 := hb34.trans (hb46.mono hb34.size)
  have hbw6 : Below w.heap.size w w6 := hbw4.trans (hb46.mono hbw4.size)
  obtain ⟨c0, c1, c2, c3, c4, c5, c6, c7⟩ := msg_cells HW6.out
  have hlt36 : w3.heap.size < w6.heap.size := by omega
  clear hoa hou hap hb6 HQA HQU HP4 HW4 hb34 hb46 hbw4 hb45 hb45b HX5b HQX5b HQY5b hbw5b HQA5 HQU5
  go_wp2_with fail
  refine (HEG.out _ _ _ _ _ (HOA.out.row.kept ((Below.refl w6.heap.size w6).alloc (Nat.le_refl _) _)) (HOU.out.row.kept ((Below.refl w6.heap.size w6).alloc (Nat.le_refl _) _)) (HRA.out _ (hb36.alloc hb36.size _)) (HRU.out _ (hb36.alloc hb36.size _))).mono ?_
  rintro e w7 ⟨rfl, hb7⟩
  clear c0 c1 c2 c3 c4 c5 c6 c7
  have hb67 : Below w6.heap.size w6 w7 := ((Below.refl w6.heap.size w6).alloc (Nat.le_refl _) _).trans (hb7.mono (by simp))
  have hz67 : w6.heap.size < w7.heap.size := Nat.lt_of_lt_of_le (by simp) hb7.size
  have HP7 : Hid (w7.heap[w.heap.size]? = some (.cells #[.int .i64 mi, .bool reply, .bool cutm, .int .i64 code, .string nm, .int .i64 ty, .slice aa A.length ca, .slice au U.length cu] 39)) := (hb67.block w.heap.size (by omega)).trans HP6.out
  have HW7 : Hid (w7.heap[w3.heap.size]? = some (.cells #[.int .i64 mi2, .bool reply2, .bool cutm2, .int .i64 code2, .string nm2, .int .i64 ty2, .slice aw6 A2.length cw6, .slice aw7 U2.length cw7] 25)) := (hb67.block w3.heap.size (by omega)).trans HW6.out
  have HX7 : Hid (w7.heap[w4.heap.size]? = some (.cells #[.int .i64 mi, .bool reply, .bool cutm, .int .i64 code, .string nm, .int .i64 ty, .slice (some ⟨g3, 0, none⟩) A.length A.length, .slice (some ⟨g4, 0, none⟩) U.length U.length] 25)) := (hb67.block w4.heap.size (by omega)).trans HX6.out
  have HG7 : Hid (w7.heap[w6.heap.size]? = some (.cells #[.int .i64 mi2, .bool reply2, .bool cutm2, .int .i64 code2, .string nm2, .int .i64 ty2, .slice ag6 A2.length cg6, .slice ag7 U2.length cg7] 25)) := (hb7.block w6.heap.size (by simp)).trans (blk_new _ _)
  have hb37 : Below w3.heap.size w3 w7 := hb36.trans (hb67.mono hb36.size)
  have hbw7 : Below w.heap.size w w7 := hbw6.trans (hb67.mono hbw6.size)
  have HC : Hid (∀ W, Below w7.heap.size w7 W → (W.cell? ⟨w.heap.size, 0, none⟩ = some (.int .i64 mi) ∧ W.cell? ⟨w.heap.size, 1, none⟩ = some (.bool reply) ∧ W.cell? ⟨w.heap.size, 2, none⟩ = some (.bool cutm) ∧ W.cell? ⟨w.heap.size, 3, none⟩ = some (.int .i64 code) ∧ W.cell? ⟨w.heap.size, 4, none⟩ = some (.string nm) ∧ W.cell? ⟨w.heap.size, 5, none⟩ = some (.int .i64 ty) ∧ W.cell? ⟨w.heap.size, 6, none⟩ = some (.slice aa A.length ca) ∧ W.cell? ⟨w.heap.size, 7, none⟩ = some (.slice au U.length cu)) ∧ (W.cell? ⟨w4.heap.size, 0, none⟩ = some (.int .i64 mi) ∧ W.cell? ⟨w4.heap.size, 1, none⟩ = some (.bool reply) ∧ W.cell? ⟨w4.heap.size, 2, none⟩ = some (.bool cutm) ∧ W.cell? ⟨w4.heap.size, 3, none⟩ = some (.int .i64 code) ∧ W.cell? ⟨w4.heap.size, 4, none⟩ = some (.string nm) ∧ W.cell? ⟨w4.heap.size, 5, none⟩ = some (.int .i64 ty) ∧ W.cell? ⟨w4.heap.size, 6, none⟩ = some (.slice (some ⟨g3, 0, none⟩) A.length A.length) ∧ W.cell? ⟨w4.heap.size, 7, none⟩ = some (.slice (some ⟨g4, 0, none⟩) U.length U.length)) ∧ Below w7.heap.size w7 W) := fun W hW =>
    ⟨msg_cells ((hW.block w.heap.size (by omega)).trans HP7.out), msg_cells ((hW.block w4.heap.size (by omega)).trans HX7.out), hW⟩
  have HT7 : Hid (∀ W, Below w7.heap.size w7 W → Calls Tryz.prog 18 #[.agg #[.int .i64 mi, .bool reply, .bool cutm, .int .i64 code, .string nm, .int .i64 ty, .slice aa A.length ca, .slice au U.length cu]] W fun e w' => (∃ g1 g2, e = .returned (.agg #[.int .i64 mi, .bool reply, .bool cutm, .int .i64 code, .string nm, .int .i64 ty, .slice (some ⟨g1, 0, none⟩) A.length A.length, .slice (some ⟨g2, 0, none⟩) U.length U.length]) ∧ W.heap.size ≤ g1 ∧ g1 < g2 ∧ QRow w' g1 A ∧ QRow w' g2 U) ∧ Below W.heap.size W w') := fun W hW => HT.out W (hbw7.trans (hW.mono hbw7.size))
  have HEX7 : Hid (∀ g1 g2 W, Below w7.heap.size w7 W → QRow W g1 A → QRow W g2 U → Calls Tryz.prog 20 #[.agg #[.int .i64 mi, .bool reply, .bool cutm, .int .i64 code, .string nm, .int .i64 ty, .slice (some ⟨g3, 0, none⟩) A.length A.length, .slice (some ⟨g4, 0, none⟩) U.length U.length], .agg #[.int .i64 mi, .bool reply, .bool cutm, .int .i64 code, .string nm, .int .i64 ty, .slice (some ⟨g1, 0, none⟩) A.length A.length, .slice (some ⟨g2, 0, none⟩) U.length U.length]] W fun e w' => e = .returned (.bool true) ∧ Below W.heap.size W w') := fun g1 g2 W hW h1 h2 => HEX.out g3 g4 g1 g2 W ((HQA6.out.kept hb67).kept hW) ((HQU6.out.kept hb67).kept hW) h1 h2
  have HTR : Hid (∀ W W', Below w7.heap.size w7 W → Below W.heap.size W W' → Below w7.heap.size w7 W') := fun W W' h1 h2 => h1.trans (h2.mono h1.size)
  have hbz : Below w7.heap.size w7 w7 := Below.refl _ _
  have hbd : Below w7.heap.size w7 w7.drew := (Below.refl _ _).drew
  have HQA7 : Hid (QRow w7 g3 A) := HQA6.out.kept hb67
  have HQU7 : Hid (QRow w7 g4 U) := HQU6.out.kept hb67
  have HQX7 : Hid (QRow w7 (w4.heap.size + 1) X) := HQX6.out.kept hb67
  have HQY7 : Hid (QRow w7 w5.heap.size Y) := HQY6.out.kept hb67
  have HOA7 : Hid (OwnQ w7 w5b.heap.size (.slice ag6 A2.length cg6) A2) := HOA.out.kept hb67
  have HOU7 : Hid (OwnQ w7 w5b.heap.size (.slice ag7 U2.length cg7) U2) := HOU.out.kept hb67
  have HLG : Hid (∀ k, (Value.slice ag6 A2.length cg6).ownBlock = some k ∨ (Value.slice ag7 U2.length cg7).ownBlock = some k → w5b.heap.size ≤ k ∧ k < w6.heap.size) := fun k h => by
    rcases h with h | h
    · exact HOA.out.lt k h
    · exact HOU.out.lt k h
  clear hb7 hb67 hb36 hbw6 HP6 HW6 HX6 HQA6 HQU6 HQX6 HQY6 HOA HOU
  go_wp2_with fail
  go_region_held3 (fun W => (W.cell? ⟨w.heap.size, 0, none⟩ = some (.int .i64 mi) ∧ W.cell? ⟨w.heap.size, 1, none⟩ = some (.bool reply) ∧ W.cell? ⟨w.heap.size, 2, none⟩ = some (.bool cutm) ∧ W.cell? ⟨w.heap.size, 3, none⟩ = some (.int .i64 code) ∧ W.cell? ⟨w.heap.size, 4, none⟩ = some (.string nm) ∧ W.cell? ⟨w.heap.size, 5, none⟩ = some (.int .i64 ty) ∧ W.cell? ⟨w.heap.size, 6, none⟩ = some (.slice aa A.length ca) ∧ W.cell? ⟨w.heap.size, 7, none⟩ = some (.slice au U.length cu)) ∧ (W.cell? ⟨w4.heap.size, 0, none⟩ = some (.int .i64 mi) ∧ W.cell? ⟨w4.heap.size, 1, none⟩ = some (.bool reply) ∧ W.cell? ⟨w4.heap.size, 2, none⟩ = some (.bool cutm) ∧ W.cell? ⟨w4.heap.size, 3, none⟩ = some (.int .i64 code) ∧ W.cell? ⟨w4.heap.size, 4, none⟩ = some (.string nm) ∧ W.cell? ⟨w4.heap.size, 5, none⟩ = some (.int .i64 ty) ∧ W.cell? ⟨w4.heap.size, 6, none⟩ = some (.slice (some ⟨g3, 0, none⟩) A.length A.length) ∧ W.cell? ⟨w4.heap.size, 7, none⟩ = some (.slice (some ⟨g4, 0, none⟩) U.length U.length)) ∧ Below w7.heap.size w7 W) (first | exact HC.out _ (by assumption) | exact HC.out _ (Below.drew (by assumption)))
    (first
    | (go_at_call 18; refine (HT7.out _ (by assumption)).mono ?_; rintro e w8 ⟨⟨g5, g6, rfl, _, _, hqa8, hqu8⟩, hb8⟩; have hb78 := HTR.out _ _ (by assumption) hb8)
    | (go_at_call 20; refine (HEX7.out _ _ _ (by assumption) (by assumption) (by assumption)).mono ?_; rintro e w9 ⟨rfl, hb9⟩; have hb79 := HTR.out _ _ (by assumption) hb9))
  obtain ⟨W9, hW9⟩ : ∃ W9, W9 = w9 := ⟨_, rfl⟩
  have HP9 : Hid (w9.heap[w.heap.size]? = some (.cells #[.int .i64 mi, .bool reply, .bool cutm, .int .i64 code, .string nm, .int .i64 ty, .slice aa A.length ca, .slice au U.length cu] 39)) := (hb79.block w.heap.size (by omega)).trans HP7.out
  have HW9 : Hid (w9.heap[w3.heap.size]? = some (.cells #[.int .i64 mi2, .bool reply2, .bool cutm2, .int .i64 code2, .string nm2, .int .i64 ty2, .slice aw6 A2.length cw6, .slice aw7 U2.length cw7] 25)) := (hb79.block w3.heap.size (by omega)).trans HW7.out
  have HX9 : Hid (w9.heap[w4.heap.size]? = some (.cells #[.int .i64 mi, .bool reply, .bool cutm, .int .i64 code, .string nm, .int .i64 ty, .slice (some ⟨g3, 0, none⟩) A.length A.length, .slice (some ⟨g4, 0, none⟩) U.length U.length] 25)) := (hb79.block w4.heap.size (by omega)).trans HX7.out
  have HG9 : Hid (w9.heap[w6.heap.size]? = some (.cells #[.int .i64 mi2, .bool reply2, .bool cutm2, .int .i64 code2, .string nm2, .int .i64 ty2, .slice ag6 A2.length cg6, .slice ag7 U2.length cg7] 25)) := (hb79.block w6.heap.size (by omega)).trans HG7.out
  have HQA9 : Hid (QRow w9 g3 A) := HQA7.out.kept hb79
  have HQU9 : Hid (QRow w9 g4 U) := HQU7.out.kept hb79
  have HOA9 : Hid (OwnQ w9 w5b.heap.size (.slice ag6 A2.length cg6) A2) := HOA7.out.kept hb79
  have HOU9 : Hid (OwnQ w9 w5b.heap.size (.slice ag7 U2.length cg7) U2) := HOU7.out.kept hb79
  have hb39 : Below w3.heap.size w3 w9 := hb37.trans (hb79.mono hb37.size)
  have hbw9 : Below w.heap.size w w9 := hbw7.trans (hb79.mono hbw7.size)
  have hz79 : w7.heap.size ≤ w9.heap.size := hb79.size
  have HQX9 : Hid (QRow w9 (w4.heap.size + 1) X) := HQX7.out.kept hb79
  have HQY9 : Hid (QRow w9 w5.heap.size Y) := HQY7.out.kept hb79
  clear hW9 W9 HP7 HW7 HX7 HG7 HQA7 HQU7 HOA7 HOU7 HC HT7 HEX7 HTR hb79 hbw7 hb37 hbz hbd
  go_wp2_with fail
  refine (HTX.out _ hbw9).mono ?_
  rintro e w9a ⟨rfl, hq9a, hb9a⟩
  have HN9a : Hid (QRow w9a w9.heap.size X) := hq9a
  have hbw9a : Below w.heap.size w w9a := hbw9.trans (hb9a.mono hbw9.size)
  have HL9a : Hid (Below w9.heap.size w9 w9a) := hb9a
  clear hq9a hb9a
  go_wp2_with fail
  refine (HEQX.out _ _ _ hX (HQX9.out.kept HL9a.out) HN9a.out).mono ?_
  rintro e w9b ⟨rfl, hb9b⟩
  have hbw9b : Below w.heap.size w w9b := hbw9a.trans (hb9b.mono hbw9a.size)
  have HL9b : Hid (Below w9.heap.size w9 w9b) := HL9a.out.trans (hb9b.mono HL9a.out.size)
  clear hb9b hbw9a HN9a HL9a
  go_wp2_with fail
  refine (HTY.out _ hbw9b).mono ?_
  rintro e w9c ⟨rfl, hq9c, hb9c⟩
  have HN9c : Hid (QRow w9c w9b.heap.size Y) := hq9c
  have HL9c : Hid (Below w9.heap.size w9 w9c) := HL9b.out.trans (hb9c.mono HL9b.out.size)
  clear hq9c hb9c hbw9b HL9b
  go_wp2_with fail
  refine (HEQY.out _ _ _ hY (HQY9.out.kept HL9c.out) HN9c.out).mono ?_
  rintro e w9d ⟨rfl, hb9d⟩
  have HL9d : Hid (Below w9.heap.size w9 w9d) := HL9c.out.trans (hb9d.mono HL9c.out.size)
  have HX9d : Hid (w9d.heap[w4.heap.size]? = some (.cells #[.int .i64 mi, .bool reply, .bool cutm, .int .i64 code, .string nm, .int .i64 ty, .slice (some ⟨g3, 0, none⟩) A.length A.length, .slice (some ⟨g4, 0, none⟩) U.length U.length] 25)) := (HL9d.out.block w4.heap.size (by omega)).trans HX9.out
  have HQA9d : Hid (QRow w9d g3 A) := HQA9.out.kept HL9d.out
  have HQU9d : Hid (QRow w9d g4 U) := HQU9.out.kept HL9d.out
  have HQX9d : Hid (QRow w9d (w4.heap.size + 1) X) := HQX9.out.kept HL9d.out
  have HQY9d : Hid (QRow w9d w5.heap.size Y) := HQY9.out.kept HL9d.out
  have hz9d : w9.heap.size ≤ w9d.heap.size := HL9d.out.size
  obtain ⟨x0, x1, x2, x3, x4, x5, x6, x7⟩ := msg_cells HX9d.out
  clear hb9d HL9c HN9c
  go_wp2_with fail
  refine (HMX.out _ _ (w3.heap.size + 1) _ (own_of HQA9d.out hg3' hA) (own_of HQU9d.out (by omega) hU) (fun g h1 h2 => by simp [Value.ownBlock] at h1 h2; omega)).mono ?_
  rintro e w10a ⟨rfl, _, _, hk10a⟩
  clear x0 x1 x2 x3 x4 x5 x6 x7
  have HK10a : Hid (Kpt w9d w10a (fun k => w3.heap.size + 1 ≤ k ∧ k < w5b.heap.size)) := hk10a.mono (fun k _ h => by
    rcases h with h | h
    · simp [Value.ownBlock] at h; omega
    · simp [Value.ownBlock] at h; omega)
  have HQX10 : Hid (QRow w10a (w4.heap.size + 1) X) := HQX9d.out.kpt hk10a (fun h => by simp [Value.ownBlock] at h; omega)
  have HQY10 : Hid (QRow w10a w5.heap.size Y) := HQY9d.out.kpt hk10a (fun h => by simp [Value.ownBlock] at h; omega)
  clear hk10a HX9d HQA9d HQU9d HQX9d HQY9d
  go_wp2_with fail
  refine (HMRX.out _ _ HQX10.out).mono ?_
  rintro e w10b ⟨rfl, hk10b⟩
  have HK10b : Hid (Kpt w9d w10b (fun k => w3.heap.size + 1 ≤ k ∧ k < w5b.heap.size)) := HK10a.out.trans (hk10b.mono (fun k _ h => by omega))
  have HQY10b : Hid (QRow w10b w5.heap.size Y) := HQY10.out.kpt hk10b (fun h => by omega)
  clear hk10b HK10a HQX10 HQY10
  go_wp2_with fail
  refine (HMRY.out _ _ HQY10b.out).mono ?_
  rintro e w10 ⟨rfl, hk10c⟩
  have hk10 : Kpt w9 w10 (fun k => w3.heap.size + 1 ≤ k ∧ k < w5b.heap.size) := (below_kpt0 HL9d.out _).trans (HK10b.out.trans (hk10c.mono (fun k _ h => by omega)))
  have HLX : Hid (∀ k, (w3.heap.size + 1 ≤ k ∧ k < w5b.heap.size) → w3.heap.size + 1 ≤ k ∧ k < w5b.heap.size) := fun k h => h
  clear hk10c HK10b HQY10b HL9d
  have HP10 : Hid (w10.heap[w.heap.size]? = some (.cells #[.int .i64 mi, .bool reply, .bool cutm, .int .i64 code, .string nm, .int .i64 ty, .slice aa A.length ca, .slice au U.length cu] 39)) := (hk10.block w.heap.size (by omega) (fun h => by have h1 := HLX.out _ h; omega)).trans HP9.out
  have HW10 : Hid (w10.heap[w3.heap.size]? = some (.cells #[.int .i64 mi2, .bool reply2, .bool cutm2, .int .i64 code2, .string nm2, .int .i64 ty2, .slice aw6 A2.length cw6, .slice aw7 U2.length cw7] 25)) := (hk10.block w3.heap.size (by omega) (fun h => by have h1 := HLX.out _ h; omega)).trans HW9.out
  have HG10 : Hid (w10.heap[w6.heap.size]? = some (.cells #[.int .i64 mi2, .bool reply2, .bool cutm2, .int .i64 code2, .string nm2, .int .i64 ty2, .slice ag6 A2.length cg6, .slice ag7 U2.length cg7] 25)) := (hk10.block w6.heap.size (by omega) (fun h => by have h1 := HLX.out _ h; omega)).trans HG9.out
  have HOA10 : Hid (OwnQ w10 w5b.heap.size (.slice ag6 A2.length cg6) A2) := HOA9.out.kpt hk10 (fun g hg h => by have h1 := HLX.out _ h; have h2 := HLG.out g (.inl hg); omega)
  have HOU10 : Hid (OwnQ w10 w5b.heap.size (.slice ag7 U2.length cg7) U2) := HOU9.out.kpt hk10 (fun g hg h => by have h1 := HLX.out _ h; have h2 := HLG.out g (.inr hg); omega)
  have hb310 : Below w3.heap.size w3 w10 := hb39.trans (hk10.below hb39.size (fun k hk h => by have h1 := HLX.out _ h; omega))
  have hbw10 : Below w.heap.size w w10 := hbw9.trans (hk10.below hbw9.size (fun k hk h => by have h1 := HLX.out _ h; omega))
  have hz910 : w9.heap.size ≤ w10.heap.size := hk10.size
  obtain ⟨c0, c1, c2, c3, c4, c5, c6, c7⟩ := msg_cells HW10.out
  obtain ⟨d0, d1, d2, d3, d4, d5, d6, d7⟩ := msg_cells HG10.out
  clear hk10 HP9 HW9 HX9 HG9 HQA9 HQU9 HOA9 HOU9 hb39 hbw9 HLX
  go_wp2_with fail
  refine (HEG.out _ _ _ _ _ HOA10.out.row HOU10.out.row (HRA.out _ hb310) (HRU.out _ hb310)).mono ?_
  rintro e w11 ⟨rfl, hb11⟩
  clear c0 c1 c2 c3 c4 c5 c6 c7 d0 d1 d2 d3 d4 d5 d6 d7
  have HP11 : Hid (w11.heap[w.heap.size]? = some (.cells #[.int .i64 mi, .bool reply, .bool cutm, .int .i64 code, .string nm, .int .i64 ty, .slice aa A.length ca, .slice au U.length cu] 39)) := (hb11.block w.heap.size (by omega)).trans HP10.out
  have HW11 : Hid (w11.heap[w3.heap.size]? = some (.cells #[.int .i64 mi2, .bool reply2, .bool cutm2, .int .i64 code2, .string nm2, .int .i64 ty2, .slice aw6 A2.length cw6, .slice aw7 U2.length cw7] 25)) := (hb11.block w3.heap.size (by omega)).trans HW10.out
  have HG11 : Hid (w11.heap[w6.heap.size]? = some (.cells #[.int .i64 mi2, .bool reply2, .bool cutm2, .int .i64 code2, .string nm2, .int .i64 ty2, .slice ag6 A2.length cg6, .slice ag7 U2.length cg7] 25)) := (hb11.block w6.heap.size (by omega)).trans HG10.out
  have HOA11 : Hid (OwnQ w11 w5b.heap.size (.slice ag6 A2.length cg6) A2) := HOA10.out.kept hb11
  have HOU11 : Hid (OwnQ w11 w5b.heap.size (.slice ag7 U2.length cg7) U2) := HOU10.out.kept hb11
  have hb311 : Below w3.heap.size w3 w11 := hb310.trans (hb11.mono hb310.size)
  have hbw11 : Below w.heap.size w w11 := hbw10.trans (hb11.mono hbw10.size)
  have hz1011 : w10.heap.size ≤ w11.heap.size := hb11.size
  obtain ⟨d0, d1, d2, d3, d4, d5, d6, d7⟩ := msg_cells HG11.out
  clear hb11 HP10 HW10 HG10 HOA10 HOU10 hb310 hbw10
  go_wp2_with fail
  refine (HMG.out _ _ w5b.heap.size _ HOA11.out HOU11.out HAP.out).mono ?_
  rintro e w12 ⟨rfl, ho12, hu12, hk12⟩
  clear d0 d1 d2 d3 d4 d5 d6 d7
  have HP12 : Hid (w12.heap[w.heap.size]? = some (.cells #[.int .i64 mi, .bool reply, .bool cutm, .int .i64 code, .string nm, .int .i64 ty, .slice aa A.length ca, .slice au U.length cu] 39)) := (hk12.block w.heap.size (by omega) (fun h => by have h1 := HLG.out _ h; omega)).trans HP11.out
  have HW12 : Hid (w12.heap[w3.heap.size]? = some (.cells #[.int .i64 mi2, .bool reply2, .bool cutm2, .int .i64 code2, .string nm2, .int .i64 ty2, .slice aw6 A2.length cw6, .slice aw7 U2.length cw7] 25)) := (hk12.block w3.heap.size (by omega) (fun h => by have h1 := HLG.out _ h; omega)).trans HW11.out
  have HG12 : Hid (w12.heap[w6.heap.size]? = some (.cells #[.int .i64 mi2, .bool reply2, .bool cutm2, .int .i64 code2, .string nm2, .int .i64 ty2, .slice ag6 A2.length cg6, .slice ag7 U2.length cg7] 25)) := (hk12.block w6.heap.size (by omega) (fun h => by have h1 := HLG.out _ h; omega)).trans HG11.out
  have hb312 : Below w3.heap.size w3 w12 := hb311.trans (hk12.below hb311.size (fun k hk h => by have h1 := HLG.out _ h; omega))
  have hbw12 : Below w.heap.size w w12 := hbw11.trans (hk12.below hbw11.size (fun k hk h => by have h1 := HLG.out _ h; omega))
  have hz1112 : w11.heap.size ≤ w12.heap.size := hk12.size
  have HO12 : Hid (OwnQ w12 w5b.heap.size (.slice ag6 A2.length cg6) (mrks 1 A2.length)) := ho12
  have HU12 : Hid (OwnQ w12 w5b.heap.size (.slice ag7 U2.length cg7) (mrks (1 + 4 * A2.length) U2.length)) := hu12
  obtain ⟨d0, d1, d2, d3, d4, d5, d6, d7⟩ := msg_cells HG12.out
  clear ho12 hu12 hk12 HP11 HW11 HG11 HOA11 HOU11 hb311 hbw11
  go_wp2_with fail
  refine (HHG.out _ _ _ _ HO12.out HU12.out).mono ?_
  rintro e w13 ⟨rfl, hb13⟩
  clear d0 d1 d2 d3 d4 d5 d6 d7
  have HP13 : Hid (w13.heap[w.heap.size]? = some (.cells #[.int .i64 mi, .bool reply, .bool cutm, .int .i64 code, .string nm, .int .i64 ty, .slice aa A.length ca, .slice au U.length cu] 39)) := (hb13.block w.heap.size (by omega)).trans HP12.out
  have HW13 : Hid (w13.heap[w3.heap.size]? = some (.cells #[.int .i64 mi2, .bool reply2, .bool cutm2, .int .i64 code2, .string nm2, .int .i64 ty2, .slice aw6 A2.length cw6, .slice aw7 U2.length cw7] 25)) := (hb13.block w3.heap.size (by omega)).trans HW12.out
  have HG13 : Hid (w13.heap[w6.heap.size]? = some (.cells #[.int .i64 mi2, .bool reply2, .bool cutm2, .int .i64 code2, .string nm2, .int .i64 ty2, .slice ag6 A2.length cg6, .slice ag7 U2.length cg7] 25)) := (hb13.block w6.heap.size (by omega)).trans HG12.out
  have HO13 : Hid (OwnQ w13 w5b.heap.size (.slice ag6 A2.length cg6) (mrks 1 A2.length)) := HO12.out.kept hb13
  have HU13 : Hid (OwnQ w13 w5b.heap.size (.slice ag7 U2.length cg7) (mrks (1 + 4 * A2.length) U2.length)) := HU12.out.kept hb13
  have hb313 : Below w3.heap.size w3 w13 := hb312.trans (hb13.mono hb312.size)
  have hbw13 : Below w.heap.size w w13 := hbw12.trans (hb13.mono hbw12.size)
  have hz1213 : w12.heap.size ≤ w13.heap.size := hb13.size
  obtain ⟨p0, p1, p2, p3, p4, p5, p6, p7⟩ := msg_cells HP13.out
  clear hb13 HP12 HW12 HG12 HO12 HU12 hb312 hbw12
  go_wp2_with fail
  refine (HT.out _ hbw13).mono ?_
  rintro e w14 ⟨⟨g7, g8, rfl, _, _, hqa14, hqu14⟩, hb14⟩
  clear p0 p1 p2 p3 p4 p5 p6 p7
  have HQA14 : Hid (QRow w14 g7 A) := hqa14
  have HQU14 : Hid (QRow w14 g8 U) := hqu14
  have hbw14 : Below w.heap.size w w14 := hbw13.trans (hb14.mono hbw13.size)
  have HK14 : Hid (Below w13.heap.size w13 w14) := hb14
  clear hqa14 hqu14 hb14
  go_wp2_with fail
  refine (HTX.out _ hbw14).mono ?_
  rintro e w14a ⟨rfl, hq14a, hb14a⟩
  have HQX14 : Hid (QRow w14a w14.heap.size X) := hq14a
  have hbw14a : Below w.heap.size w w14a := hbw14.trans (hb14a.mono hbw14.size)
  have HM14a : Hid (Below w14.heap.size w14 w14a) := hb14a
  clear hq14a hb14a
  go_wp2_with fail
  refine (HTY.out _ hbw14a).mono ?_
  rintro e w14b ⟨rfl, hq14b, hb14b⟩
  have HQY14 : Hid (QRow w14b w14a.heap.size Y) := hq14b
  have hbw14b : Below w.heap.size w w14b := hbw14a.trans (hb14b.mono hbw14a.size)
  have HM14b : Hid (Below w14.heap.size w14 w14b) := HM14a.out.trans (hb14b.mono HM14a.out.size)
  have HQX14b : Hid (QRow w14b w14.heap.size X) := HQX14.out.kept hb14b
  have HK14b : Hid (Below w13.heap.size w13 w14b) := HK14.out.trans (HM14b.out.mono HK14.out.size)
  clear hq14b hb14b
  go_wp2_with fail
  refine (HI.out g7 g8 _ _ _ (hE.below hbw14b) (HQA14.out.kept HM14b.out) (HQU14.out.kept HM14b.out) HQX14b.out HQY14.out).mono ?_
  rintro e w15 ⟨⟨vh6, vh7, rfl, hoa15, hou15, _⟩, hb15⟩
  obtain ⟨ah6, ch6, hvh6, hch6⟩ := hoa15.shape
  obtain ⟨ah7, ch7, hvh7, hch7⟩ := hou15.shape
  subst hvh6
  subst hvh7
  unfold MsgV
  have HRA15 : Hid (RRow w15 (.slice ah6 A2.length ch6) A2) := hoa15.row
  have HRU15 : Hid (RRow w15 (.slice ah7 U2.length ch7) U2) := hou15.row
  have hb1315 : Below w13.heap.size w13 w15 := HK14b.out.trans (hb15.mono HK14b.out.size)
  have HW15 : Hid (w15.heap[w3.heap.size]? = some (.cells #[.int .i64 mi2, .bool reply2, .bool cutm2, .int .i64 code2, .string nm2, .int .i64 ty2, .slice aw6 A2.length cw6, .slice aw7 U2.length cw7] 25)) := (hb1315.block w3.heap.size (by omega)).trans HW13.out
  have HG15 : Hid (w15.heap[w6.heap.size]? = some (.cells #[.int .i64 mi2, .bool reply2, .bool cutm2, .int .i64 code2, .string nm2, .int .i64 ty2, .slice ag6 A2.length cg6, .slice ag7 U2.length cg7] 25)) := (hb1315.block w6.heap.size (by omega)).trans HG13.out
  have HO15 : Hid (OwnQ w15 w5b.heap.size (.slice ag6 A2.length cg6) (mrks 1 A2.length)) := HO13.out.kept hb1315
  have HU15 : Hid (OwnQ w15 w5b.heap.size (.slice ag7 U2.length cg7) (mrks (1 + 4 * A2.length) U2.length)) := HU13.out.kept hb1315
  have hb315 : Below w3.heap.size w3 w15 := hb313.trans (hb1315.mono hb313.size)
  have hbw15 : Below w.heap.size w w15 := hbw13.trans (hb1315.mono hbw13.size)
  have hz1315 : w13.heap.size ≤ w15.heap.size := hb1315.size
  have hlt315 : w3.heap.size < w15.heap.size := by omega
  obtain ⟨c0, c1, c2, c3, c4, c5, c6, c7⟩ := msg_cells HW15.out
  clear hoa15 hou15 hb15 hb1315 HK14 HP13 HW13 HG13 HO13 HU13 hb313 hbw13 hbw14 HQA14 HQU14
  go_wp2_with fail
  refine (HEG.out _ _ _ _ _ (HRA15.out.kept ((Below.refl w15.heap.size w15).alloc (Nat.le_refl _) _)) (HRU15.out.kept ((Below.refl w15.heap.size w15).alloc (Nat.le_refl _) _)) (HRA.out _ (hb315.alloc hb315.size _)) (HRU.out _ (hb315.alloc hb315.size _))).mono ?_
  rintro e w16 ⟨rfl, hb16⟩
  clear c0 c1 c2 c3 c4 c5 c6 c7
  have hb1516 : Below w15.heap.size w15 w16 := ((Below.refl w15.heap.size w15).alloc (Nat.le_refl _) _).trans (hb16.mono (by simp))
  have HG16 : Hid (w16.heap[w6.heap.size]? = some (.cells #[.int .i64 mi2, .bool reply2, .bool cutm2, .int .i64 code2, .string nm2, .int .i64 ty2, .slice ag6 A2.length cg6, .slice ag7 U2.length cg7] 25)) := (hb1516.block w6.heap.size (by omega)).trans HG15.out
  have HO16 : Hid (OwnQ w16 w5b.heap.size (.slice ag6 A2.length cg6) (mrks 1 A2.length)) := HO15.out.kept hb1516
  have HU16 : Hid (OwnQ w16 w5b.heap.size (.slice ag7 U2.length cg7) (mrks (1 + 4 * A2.length) U2.length)) := HU15.out.kept hb1516
  have hbw16 : Below w.heap.size w w16 := hbw15.trans (hb1516.mono hbw15.size)
  obtain ⟨d0, d1, d2, d3, d4, d5, d6, d7⟩ := msg_cells HG16.out
  clear hb16 hb1516 HW15 HG15 HO15 HU15 hb315 hbw15
  go_wp2_with fail
  refine (HHG.out _ _ _ _ HO16.out HU16.out).mono ?_
  rintro e w17 ⟨rfl, hb17⟩
  have hbw17 : Below w.heap.size w w17 := hbw16.trans (hb17.mono hbw16.size)
  clear d0 d1 d2 d3 d4 d5 d6 d7 hb17 hbw16
  go_wp2_with fail
  go_ret
  exact ⟨rfl, hbw17⟩

theorem cut_no {mi : Int} {cutm : Bool} {code : Int} {nm : List UInt8} {ty : Int} {A U : List (List UInt8 × Int × Int × List UInt8)} (h : msgB mi false cutm code nm ty A U = true) : cutm = false := by
  unfold msgB at h
  cases cutm with
  | false => rfl
  | true => simp at h
theorem msgB_lens {mi : Int} {reply cutm : Bool} {code : Int} {nm : List UInt8} {ty : Int} {A U : List (List UInt8 × Int × Int × List UInt8)} (h : msgB mi reply cutm code nm ty A U = true) : A.length ≤ 12 ∧ U.length ≤ 12 := by
  constructor
  · rcases Nat.lt_or_ge 12 A.length with g | g
    · rw [msgB_la (by omega)] at h; cases h
    · exact g
  · rcases Nat.lt_or_ge 12 U.length with g | g
    · rw [msgB_lu (by omega)] at h; cases h
    · exact g
set_option maxRecDepth 20000 in
set_option maxHeartbeats 1000000 in
theorem walk (mi : Int) (reply cutm : Bool) (code : Int) (nm : ByteArray) (ty : Int) (va vu : Value) (A U : List (List UInt8 × Int × Int × List UInt8)) (newc : Int) (vx : Value) (X : List (List UInt8 × Int × Int × List UInt8)) (vy : Value) (Y : List (List UInt8 × Int × Int × List UInt8)) (w : World)
    (hn : nm.size ≤ maxLen) (ha : RRow w va A) (hxa : Hid (∀ x ∈ A, x.1.length ≤ maxLen ∧ x.2.2.2.length ≤ maxLen)) (hu : RRow w vu U) (hxu : Hid (∀ x ∈ U, x.1.length ≤ maxLen ∧ x.2.2.2.length ≤ maxLen)) (_hc : -9223372036854775808 ≤ newc ∧ newc ≤ 9223372036854775807) (hx : RRow w vx X) (hxx : Hid (∀ x ∈ X, x.1.length ≤ maxLen ∧ x.2.2.2.length ≤ maxLen)) (hy : RRow w vy Y) (hxy : Hid (∀ x ∈ Y, x.1.length ≤ maxLen ∧ x.2.2.2.length ≤ maxLen)) (hE : EnvR w) :
    Calls Tryz.prog 9 #[MsgV mi reply cutm code nm ty va vu, .int .i64 newc, vx, vy] w fun e w' => e = .returned (.bool true) ∧ Below w.heap.size w w' := by
  have la : A.length ≤ maxLen := by obtain ⟨_, cap, _, h1, h2, _⟩ := ha; omega
  have lu : U.length ≤ maxLen := by obtain ⟨_, cap, _, h1, h2, _⟩ := hu; omega
  have lx : X.length ≤ maxLen := by obtain ⟨_, cap, _, h1, h2, _⟩ := hx; omega
  have ly : Y.length ≤ maxLen := by obtain ⟨_, cap, _, h1, h2, _⟩ := hy; omega
  have hsome : ∀ (g n c : Nat) (m d : Nat), Value.slice (some ⟨g, 0, none⟩) n c = .slice none m d → d = 0 := fun g n c m d h => by cases h
  cases hB : (msgB mi reply cutm code nm.data.toList ty A U && (!reply && msgB mi true cutm newc nm.data.toList ty X Y)) with
  | false =>
    have hB2 : (msgB mi reply cutm code nm.data.toList ty A U && (!reply && msgB mi true false newc nm.data.toList ty X Y)) = false := by
      cases h1 : msgB mi reply cutm code nm.data.toList ty A U with
      | false => rfl
      | true =>
        cases reply with
        | true => rfl
        | false =>
          have hc := cut_no h1
          subst hc
          rw [h1] at hB; exact hB
    refine core mi reply cutm code nm ty va vu A U newc vx vy X Y w false 0 false false 0 ⟨#[]⟩ 0 [] [] hn ha hxa hu hxu hx hxx hy hxy (by simp) (by simp) hE (fun h0 h1 h2 h3 h4 h5 h6 g1 g2 g3 g4 W q1 q2 q3 q4 => ?_) (fun h0 h1 h2 h3 h4 h5 h6 g1 g2 g3 g4 W hW q1 q2 q3 q4 => ?_)
    · exact (sReplyTo_any mi reply cutm code nm ty _ _ A U newc _ _ X Y W h0 (q1.row (Nat.le_refl _) la) (q2.row (Nat.le_refl _) lu) h1 h2 (q3.row (Nat.le_refl _) lx) (q4.row (Nat.le_refl _) ly) (hsome _ _ _) (hsome _ _ _) h5 h6 h3 h4).mono (fun e w' h' => ⟨h'.1 hB, h'.2.2⟩)
    · exact (iReplyTo_any mi reply cutm code nm ty _ _ A U newc _ _ X Y W h0 (q1.row (Nat.le_refl _) la) (q2.row (Nat.le_refl _) lu) h1 h2 (q3.row (Nat.le_refl _) lx) (q4.row (Nat.le_refl _) ly) h5 h6 h3 h4 hW).mono (fun e w' h' => ⟨h'.1 hB2, h'.2.2⟩)
  | true =>
    obtain ⟨h1, h2, h3⟩ : msgB mi reply cutm code nm.data.toList ty A U = true ∧ reply = false ∧ msgB mi true cutm newc nm.data.toList ty X Y = true := by simpa using hB
    subst h2
    have hc := cut_no h1
    subst hc
    obtain ⟨k1, k2⟩ := msgB_lens h3
    refine core mi false false code nm ty va vu A U newc vx vy X Y w true mi true false newc nm ty X Y hn ha hxa hu hxu hx hxx hy hxy (by omega) (by omega) hE (fun h0 h1 h2 h3 h4 h5 h6 g1 g2 g3 g4 W q1 q2 q3 q4 => ?_) (fun h0 h1 h2 h3 h4 h5 h6 g1 g2 g3 g4 W hW q1 q2 q3 q4 => ?_)
    · exact (sReplyTo_any mi false false code nm ty _ _ A U newc _ _ X Y W h0 (q1.row (Nat.le_refl _) la) (q2.row (Nat.le_refl _) lu) h1 h2 (q3.row (Nat.le_refl _) lx) (q4.row (Nat.le_refl _) ly) (hsome _ _ _) (hsome _ _ _) h5 h6 h3 h4).mono (fun e w' h' => ⟨h'.2.1 hB, h'.2.2⟩)
    · exact (iReplyTo_any mi false false code nm ty _ _ A U newc _ _ X Y W h0 (q1.row (Nat.le_refl _) la) (q2.row (Nat.le_refl _) lu) h1 h2 (q3.row (Nat.le_refl _) lx) (q4.row (Nat.le_refl _) ly) h5 h6 h3 h4 hW).mono (fun e w' h' => ⟨h'.2.1 hB, h'.2.2⟩)
end Go.Proofs.YtbgkocjpenkijaaGreatDoor.replyTo

namespace Go.Proofs.YtbgkocjpenkijaaGreatDoor.questionFor
open Go.RowKit

set_option maxRecDepth 20000 in
set_option maxHeartbeats 4000000 in
theorem core (mi0 : Int) (nm0 : ByteArray) (ty0 : Int) (ok : Bool) (mi : Int) (reply cutm : Bool) (code : Int) (nm : ByteArray) (ty : Int) (A U : List (List UInt8 × Int × Int × List UInt8)) (w : World) (hs0 : nm0.size ≤ 1048576) (hE : EnvR w) (hA : A.length ≤ 1048576) (hU : U.length ≤ 1048576)
    (HS : Hid (∀ W, Calls Tryz.prog 26 #[.int .i64 mi0, .string nm0, .int .i64 ty0] W fun e w' => MRes w' ok mi reply cutm code nm ty A U e ∧ Below W.heap.size W w'))
    (HI : Hid (∀ W, EnvR W → Calls Tryz.prog 27 #[.int .i64 mi0, .string nm0, .int .i64 ty0] W fun e w' => MOwn w' W.heap.size ok mi reply cutm code nm ty A U e ∧ Below W.heap.size W w')) :
    Calls Tryz.prog 8 #[.int .i64 mi0, .string nm0, .int .i64 ty0] w fun e w' => e = .returned (.bool true) ∧ Below w.heap.size w w' := by
  have g : ¬ (1048576 : Int) < (nm0.size : Int) := by omega
  have e2 : (ok != ok) = false := by simp
  have HMK : Hid (∀ va vu base W, OwnQ W base va A → OwnQ W base vu U → (∀ g, va.ownBlock = some g → vu.ownBlock ≠ some g) → Calls Tryz.prog 24 #[MsgV mi reply cutm code nm ty va vu, .int .i64 1] W fun e w' => e = .returned (.int .i64 (1 + 4 * (A.length : Int) + 4 * (U.length : Int))) ∧ OwnQ w' base va (mrks 1 A.length) ∧ OwnQ w' base vu (mrks (1 + 4 * A.length) U.length) ∧ Kpt W w' (fun k => va.ownBlock = some k ∨ vu.ownBlock = some k)) := fun va vu base W h1 h2 h3 => markMessage_any mi reply cutm code nm ty va vu A U base 1 W h1 h2 h3 hA hU (by omega) (by omega)
  have HHD : Hid (∀ va vu base W, OwnQ W base va (mrks 1 A.length) → OwnQ W base vu (mrks (1 + 4 * A.length) U.length) → Calls Tryz.prog 25 #[MsgV mi reply cutm code nm ty va vu, .int .i64 1] W fun e w' => e = .returned (.int .i64 (1 + 4 * (A.length : Int) + 4 * (U.length : Int))) ∧ Below W.heap.size W w') := fun va vu base W h1 h2 => heldMessage_any mi reply cutm code nm ty va vu A.length U.length 1 W h1.row h2.row hA hU (by omega) (by omega)
  obtain ⟨q, hq⟩ : ∃ q : Int, q = 1 + 4 * (A.length : Int) + 4 * (U.length : Int) := ⟨_, rfl⟩
  rw [← hq] at HMK HHD
  have hq0 : decide (q < 0) = false := by simp; omega
  have hqq : (q != q) = false := by simp
  clear hq
  unfold MsgV at HMK HHD
  go_enter Tryz.func8, Tryz.ntmps8
  go_wp2_with fail
  refine (HS.out _).mono ?_
  rintro e w1 ⟨⟨va1, vu1, rfl, hra, hru⟩, hb1⟩
  obtain ⟨aa1, ca1, hva1, _, hca1, _⟩ := id hra
  obtain ⟨au1, cu1, hvu1, _, hcu1, _⟩ := id hru
  have HRA : Hid (∀ W, Below w1.heap.size w1 W → RRow W va1 A) := fun W hW => hra.kept hW
  have HRU : Hid (∀ W, Below w1.heap.size w1 W → RRow W vu1 U) := fun W hW => hru.kept hW
  subst hva1
  subst hvu1
  clear hra hru
  unfold MsgV
  go_wp2_with fail
  refine (HI.out _ (hE.below (hb1.trans (((Below.refl w1.heap.size w1).alloc (Nat.le_refl _) _).mono hb1.size)))).mono ?_
  rintro e w2 ⟨⟨va2, vu2, rfl, hoa, hou, hap⟩, hb2⟩
  obtain ⟨aa2, ca2, hva2, hca2⟩ := hoa.shape
  obtain ⟨au2, cu2, hvu2, hcu2⟩ := hou.shape
  subst hva2
  subst hvu2
  unfold MsgV
  have hb12 : Below w1.heap.size w1 w2 := ((Below.refl w1.heap.size w1).alloc (Nat.le_refl _) _).trans (hb2.mono (by simp))
  have HW2 : Hid (w2.heap[w1.heap.size]? = some (.cells #[.int .i64 mi, .bool reply, .bool cutm, .int .i64 code, .string nm, .int .i64 ty, .slice aa1 A.length ca1, .slice au1 U.length cu1] 25)) := (hb2.block w1.heap.size (by simp)).trans (blk_new _ _)
  have hz2 : w1.heap.size < w2.heap.size := Nat.lt_of_lt_of_le (by simp) hb2.size
  have HOA : Hid (OwnQ w2 (w1.heap.size + 1) (.slice aa2 A.length ca2) A) := by
    have h : OwnQ w2 (w1.heap.size + 1) (.slice aa2 A.length ca2) A := by simpa using hoa
    exact h
  have HOU : Hid (OwnQ w2 (w1.heap.size + 1) (.slice au2 U.length cu2) U) := by
    have h : OwnQ w2 (w1.heap.size + 1) (.slice au2 U.length cu2) U := by simpa using hou
    exact h
  have HAP : Hid (∀ g, (Value.slice aa2 A.length ca2).ownBlock = some g → (Value.slice au2 U.length cu2).ownBlock ≠ some g) := hap
  obtain ⟨c0, c1, c2, c3, c4, c5, c6, c7⟩ := msg_cells HW2.out
  clear hoa hou hap hb2
  go_wp2_with fail
  refine (eqMessage_same mi reply cutm code nm ty _ _ _ _ A U _ (HOA.out.row.kept ((Below.refl w2.heap.size w2).alloc (Nat.le_refl _) _)) (HOU.out.row.kept ((Below.refl w2.heap.size w2).alloc (Nat.le_refl _) _)) (HRA.out _ (hb12.alloc hb12.size _)) (HRU.out _ (hb12.alloc hb12.size _))).mono ?_
  rintro e w3 ⟨rfl, hb3⟩
  clear c0 c1 c2 c3 c4 c5 c6 c7
  have hb23 : Below w2.heap.size w2 w3 := ((Below.refl w2.heap.size w2).alloc (Nat.le_refl _) _).trans (hb3.mono (by simp))
  have HW3 : Hid (w3.heap[w1.heap.size]? = some (.cells #[.int .i64 mi, .bool reply, .bool cutm, .int .i64 code, .string nm, .int .i64 ty, .slice aa1 A.length ca1, .slice au1 U.length cu1] 25)) := (hb23.block w1.heap.size hz2).trans HW2.out
  have HG3 : Hid (w3.heap[w2.heap.size]? = some (.cells #[.int .i64 mi, .bool reply, .bool cutm, .int .i64 code, .string nm, .int .i64 ty, .slice aa2 A.length ca2, .slice au2 U.length cu2] 25)) := (hb3.block w2.heap.size (by simp)).trans (blk_new _ _)
  have hz3 : w2.heap.size < w3.heap.size := Nat.lt_of_lt_of_le (by simp) hb3.size
  have hb13 : Below w1.heap.size w1 w3 := hb12.trans (hb23.mono hb12.size)
  obtain ⟨d0, d1, d2, d3, d4, d5, d6, d7⟩ := msg_cells HG3.out
  clear hb3 HW2
  go_wp2_with fail
  refine (HMK.out _ _ (w1.heap.size + 1) _ (HOA.out.kept hb23) (HOU.out.kept hb23) HAP.out).mono ?_
  rintro e w4 ⟨rfl, ho4, hu4, hk4⟩
  clear d0 d1 d2 d3 d4 d5 d6 d7
  have HLA : Hid (∀ k, (Value.slice aa2 A.length ca2).ownBlock = some k ∨ (Value.slice au2 U.length cu2).ownBlock = some k → w1.heap.size + 1 ≤ k ∧ k < w2.heap.size) := fun k h => by
    rcases h with h | h
    · exact HOA.out.lt k h
    · exact HOU.out.lt k h
  have HW4 : Hid (w4.heap[w1.heap.size]? = some (.cells #[.int .i64 mi, .bool reply, .bool cutm, .int .i64 code, .string nm, .int .i64 ty, .slice aa1 A.length ca1, .slice au1 U.length cu1] 25)) := (hk4.block w1.heap.size (by omega) (fun h => by have h1 := HLA.out _ h; omega)).trans HW3.out
  have HG4 : Hid (w4.heap[w2.heap.size]? = some (.cells #[.int .i64 mi, .bool reply, .bool cutm, .int .i64 code, .string nm, .int .i64 ty, .slice aa2 A.length ca2, .slice au2 U.length cu2] 25)) := (hk4.block w2.heap.size (by omega) (fun h => by have h1 := HLA.out _ h; omega)).trans HG3.out
  have hb14 : Below w1.heap.size w1 w4 := hb13.trans (hk4.below hb13.size (fun k hk h => by have h1 := HLA.out _ h; omega))
  have hz4 : w3.heap.size ≤ w4.heap.size := hk4.size
  have HO4 : Hid (OwnQ w4 (w1.heap.size + 1) (.slice aa2 A.length ca2) (mrks 1 A.length)) := ho4
  have HU4 : Hid (OwnQ w4 (w1.heap.size + 1) (.slice au2 U.length cu2) (mrks (1 + 4 * A.length) U.length)) := hu4
  obtain ⟨d0, d1, d2, d3, d4, d5, d6, d7⟩ := msg_cells HG4.out
  clear ho4 hu4 hk4 HW3 HG3 hb13 hb23 HLA
  go_wp2_with fail
  refine (HHD.out _ _ _ _ HO4.out HU4.out).mono ?_
  rintro e w5 ⟨rfl, hb5⟩
  clear d0 d1 d2 d3 d4 d5 d6 d7
  have hb15 : Below w1.heap.size w1 w5 := hb14.trans (hb5.mono hb14.size)
  have hbw5 : Below w.heap.size w w5 := hb1.trans (hb15.mono hb1.size)
  have HW5 : Hid (w5.heap[w1.heap.size]? = some (.cells #[.int .i64 mi, .bool reply, .bool cutm, .int .i64 code, .string nm, .int .i64 ty, .slice aa1 A.length ca1, .slice au1 U.length cu1] 25)) := (hb5.block w1.heap.size (by omega)).trans HW4.out
  have HG5 : Hid (w5.heap[w2.heap.size]? = some (.cells #[.int .i64 mi, .bool reply, .bool cutm, .int .i64 code, .string nm, .int .i64 ty, .slice aa2 A.length ca2, .slice au2 U.length cu2] 25)) := (hb5.block w2.heap.size (by omega)).trans HG4.out
  have hz5 : w4.heap.size ≤ w5.heap.size := hb5.size
  have HO5 : Hid (OwnQ w5 (w1.heap.size + 1) (.slice aa2 A.length ca2) (mrks 1 A.length)) := HO4.out.kept hb5
  have HU5 : Hid (OwnQ w5 (w1.heap.size + 1) (.slice au2 U.length cu2) (mrks (1 + 4 * A.length) U.length)) := HU4.out.kept hb5
  have HE5 : Hid (EnvR w5) := hE.below hbw5
  clear hb5 HW4 HG4 HO4 HU4 hb14
  go_wp2_with fail
  refine (HI.out _ HE5.out).mono ?_
  rintro e w6 ⟨⟨va3, vu3, rfl, hoa3, hou3, _⟩, hb6⟩
  obtain ⟨aa3, ca3, hva3, hca3⟩ := hoa3.shape
  obtain ⟨au3, cu3, hvu3, hcu3⟩ := hou3.shape
  subst hva3
  subst hvu3
  unfold MsgV
  have HRA3 : Hid (RRow w6 (.slice aa3 A.length ca3) A) := hoa3.row
  have HRU3 : Hid (RRow w6 (.slice au3 U.length cu3) U) := hou3.row
  have hz6 : w5.heap.size ≤ w6.heap.size := hb6.size
  have hb16 : Below w1.heap.size w1 w6 := hb15.trans (hb6.mono hb15.size)
  have HW6 : Hid (w6.heap[w1.heap.size]? = some (.cells #[.int .i64 mi, .bool reply, .bool cutm, .int .i64 code, .string nm, .int .i64 ty, .slice aa1 A.length ca1, .slice au1 U.length cu1] 25)) := (hb6.block w1.heap.size (by omega)).trans HW5.out
  have HG6 : Hid (w6.heap[w2.heap.size]? = some (.cells #[.int .i64 mi, .bool reply, .bool cutm, .int .i64 code, .string nm, .int .i64 ty, .slice aa2 A.length ca2, .slice au2 U.length cu2] 25)) := (hb6.block w2.heap.size (by omega)).trans HG5.out
  have HO6 : Hid (OwnQ w6 (w1.heap.size + 1) (.slice aa2 A.length ca2) (mrks 1 A.length)) := HO5.out.kept hb6
  have HU6 : Hid (OwnQ w6 (w1.heap.size + 1) (.slice au2 U.length cu2) (mrks (1 + 4 * A.length) U.length)) := HU5.out.kept hb6
  obtain ⟨c0, c1, c2, c3, c4, c5, c6, c7⟩ := msg_cells HW6.out
  have hlt6 : w1.heap.size < w6.heap.size := by omega
  clear hoa3 hou3 hb6 hb15 hbw5 HO5 HU5 HW5 HG5
  go_wp2_with fail
  refine (eqMessage_same mi reply cutm code nm ty _ _ _ _ A U _ (HRA3.out.kept ((Below.refl w6.heap.size w6).alloc (Nat.le_refl _) _)) (HRU3.out.kept ((Below.refl w6.heap.size w6).alloc (Nat.le_refl _) _)) (HRA.out _ (hb16.alloc hb16.size _)) (HRU.out _ (hb16.alloc hb16.size _))).mono ?_
  rintro e w7 ⟨rfl, hb7⟩
  clear c0 c1 c2 c3 c4 c5 c6 c7
  have hb67 : Below w6.heap.size w6 w7 := ((Below.refl w6.heap.size w6).alloc (Nat.le_refl _) _).trans (hb7.mono (by simp))
  have HG7 : Hid (w7.heap[w2.heap.size]? = some (.cells #[.int .i64 mi, .bool reply, .bool cutm, .int .i64 code, .string nm, .int .i64 ty, .slice aa2 A.length ca2, .slice au2 U.length cu2] 25)) := (hb67.block w2.heap.size (by omega)).trans HG6.out
  have HO7 : Hid (OwnQ w7 (w1.heap.size + 1) (.slice aa2 A.length ca2) (mrks 1 A.length)) := HO6.out.kept hb67
  have HU7 : Hid (OwnQ w7 (w1.heap.size + 1) (.slice au2 U.length cu2) (mrks (1 + 4 * A.length) U.length)) := HU6.out.kept hb67
  have hb17 : Below w1.heap.size w1 w7 := hb16.trans (hb67.mono hb16.size)
  obtain ⟨d0, d1, d2, d3, d4, d5, d6, d7⟩ := msg_cells HG7.out
  clear hb7 hb67 hb16 HO6 HU6 HW6 HG6
  go_wp2_with fail
  refine (HHD.out _ _ _ _ HO7.out HU7.out).mono ?_
  rintro e w8 ⟨rfl, hb8⟩
  have hb18 : Below w1.heap.size w1 w8 := hb17.trans (hb8.mono hb17.size)
  have hbw8 : Below w.heap.size w w8 := hb1.trans (hb18.mono hb1.size)
  clear d0 d1 d2 d3 d4 d5 d6 d7 hb8 hb17
  go_wp2_with fail
  go_ret
  exact ⟨rfl, hbw8⟩

theorem szCases (nm0 : ByteArray) : nm0.size ≤ 1048576 ∨ (1048576 : Int) < (nm0.size : Int) := by omega
set_option maxRecDepth 20000 in
set_option maxHeartbeats 1000000 in
theorem walk (mi0 : Int) (nm0 : ByteArray) (ty0 : Int) (w : World) (_h1 : -9223372036854775808 ≤ mi0 ∧ mi0 ≤ 9223372036854775807) (hs0 : nm0.size ≤ maxLen) (_h3 : -9223372036854775808 ≤ ty0 ∧ ty0 ≤ 9223372036854775807) (hE : EnvR w) :
    Calls Tryz.prog 8 #[.int .i64 mi0, .string nm0, .int .i64 ty0] w fun e w' => e = .returned (.bool true) ∧ Below w.heap.size w w' := by
  rcases szCases nm0 with h | h
  · cases hB : msgB mi0 false false 0 nm0.data.toList ty0 [] [] with
    | false =>
      refine core mi0 nm0 ty0 false 0 false false 0 ⟨#[]⟩ 0 [] [] w h hE (by simp) (by simp) (fun W => ?_) (fun W hW => ?_)
      · refine (sQuestionFor_any mi0 nm0 ty0 W h).mono ?_
        rintro e w' ⟨rfl, hb⟩
        rw [hB]
        exact ⟨⟨_, _, rfl, rrow_nil _, rrow_nil _⟩, hb⟩
      · exact (iQuestionFor_any mi0 nm0 ty0 W h hW).mono (fun e w' h' => ⟨h'.1 hB, h'.2.2⟩)
    | true =>
      refine core mi0 nm0 ty0 true mi0 false false 0 nm0 ty0 [] [] w h hE (by simp) (by simp) (fun W => ?_) (fun W hW => ?_)
      · refine (sQuestionFor_any mi0 nm0 ty0 W h).mono ?_
        rintro e w' ⟨rfl, hb⟩
        rw [hB]
        exact ⟨⟨_, _, rfl, rrow_nil _, rrow_nil _⟩, hb⟩
      · exact (iQuestionFor_any mi0 nm0 ty0 W h hW).mono (fun e w' h' => ⟨h'.2.1 hB, h'.2.2⟩)
  · have hs := hs0
    unfold maxLen at hs
    go_enter Tryz.func8, Tryz.ntmps8
    go_wp2_with fail
    go_ret
    exact ⟨rfl, Below.refl _ _⟩
end Go.Proofs.YtbgkocjpenkijaaGreatDoor.questionFor
