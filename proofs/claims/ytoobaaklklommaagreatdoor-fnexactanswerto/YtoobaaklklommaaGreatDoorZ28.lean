import Derived.Test.YtoobaaklklommaaGreatDoorZ24
import Derived.Test.YtoobaaklklommaaGreatDoorZ27
import Derived.Test.YtoobaaklklommaaGreatDoorZ05
namespace Go.Proofs.YtoobaaklklommaaGreatDoor
open Go.RowKit

theorem rrow_one (w : World) (x : List UInt8 × Int × Int × List UInt8) (t : TypeId) (b : Nat) (hb : b = w.heap.size) : RRow (w.alloc (.cells #[.string ⟨x.1.toArray⟩, .int .i64 x.2.1, .int .i64 x.2.2.1, .string ⟨x.2.2.2.toArray⟩] t)) (.slice (some ⟨b, 0, none⟩) 1 1) [x] := by
  subst hb
  refine ⟨_, 1, rfl, Nat.le_refl _, by unfold maxLen; omega, .inr ⟨w.heap.size, 0, rfl, by simp, fun j hj => ?_⟩⟩
  obtain rfl : j = 0 := by simpa using hj
  unfold RecAt
  simp

theorem rec4_cells {W : World} {b : Nat} {v0 v1 v2 v3 : Value} {t : TypeId} (h : W.heap[b]? = some (.cells #[v0, v1, v2, v3] t)) :
    W.cell? ⟨b, 0, none⟩ = some v0 ∧ W.cell? ⟨b, 1, none⟩ = some v1 ∧ W.cell? ⟨b, 2, none⟩ = some v2 ∧ W.cell? ⟨b, 3, none⟩ = some v3 := by
  refine ⟨?_, ?_, ?_, ?_⟩ <;> (unfold World.cell?; rw [h]; rfl)
theorem rec4_frozen {W : World} {b : Nat} {cs : Array Value} {t : TypeId} (h : W.heap[b]? = some (.cells cs t)) :
    W.frozen? ⟨b, 0, none⟩ = false ∧ W.frozen? ⟨b, 1, none⟩ = false ∧ W.frozen? ⟨b, 2, none⟩ = false ∧ W.frozen? ⟨b, 3, none⟩ = false := by
  refine ⟨?_, ?_, ?_, ?_⟩ <;> (unfold World.frozen?; rw [h]; simp)
theorem own_setN {W : World} {base g k n s : Nat} {e : TypeId} {v u : Value} {xs : List Value} (h : W.ownsRow base e s v n xs) (hg : v.ownBlock ≠ some g) : (W.setCell ⟨g, k, none⟩ u).ownsRow base e s v n xs :=
  h.kept (grown_set (grown_refl W _)) (.inr (fun hc => hg hc))

theorem OwnQ.base {w : World} {a b : Nat} {v : Value} {L : List (List UInt8 × Int × Int × List UInt8)} (h : OwnQ w b v L) (hab : a ≤ b) : OwnQ w a v L := by
  rcases h with h | ⟨g, cap, h0, h1, h2, h3, hs⟩
  · exact .inl h
  · exact .inr ⟨g, cap, h0, h1, h2, Nat.le_trans hab h3, hs⟩

set_option maxRecDepth 20000 in
set_option maxHeartbeats 1000000 in
theorem copyRecords_any (v : Value) (L : List (List UInt8 × Int × Int × List UInt8)) (w : World) (hr : RRow w v L) (hl : L.length ≤ 1048576) (hx : Hid (∀ x ∈ L, x.1.length ≤ 1048576 ∧ x.2.2.2.length ≤ 1048576)) :
    Calls Tryz.prog 171 #[v] w fun e w' => ∃ u, e = .returned u ∧ OwnQ w' w.heap.size u L ∧ Below w.heap.size w w' := by
  obtain ⟨a, cap, rfl, hcap, hmax, hrow⟩ := hr
  have HROW : Hid (L = [] ∨ ∃ b o, a = some ⟨b, o, none⟩ ∧ b < w.heap.size ∧ ∀ j, (hj : j < L.length) → RecAt w b (o + j * 4) L[j]) := hrow
  unfold maxLen at hmax
  clear hrow
  have HO0 : Hid (w.ownsRow w.heap.size 108 4 (.slice none 0 0) (L.take 0).length (rcells (L.take 0))) := by
    have h : w.ownsRow w.heap.size 108 4 (.slice none 0 0) (L.take 0).length (rcells (L.take 0)) := by simpa [rcells] using World.ownsRow_nil _ _ _ _
    exact h
  go_enter Tryz.func171, Tryz.ntmps171
  go_wp2_with fail
  go_loopw [3, 8] (fun vv i wr => ∃ (k : Nat) (v : Value), k ≤ L.length ∧ i = .int .i64 (k : Int) ∧ v = vv ∧ Hid (wr.ownsRow w.heap.size 108 4 v (L.take k).length (rcells (L.take k))) ∧ Below w.heap.size w wr) (fun _ i _ => L.length - (intOf i).toNat)
  case atStart => exact ⟨0, _, Nat.zero_le _, rfl, rfl, HO0, Below.refl _ _⟩
  case round =>
    obtain ⟨k, v, hk, rfl, rfl, HO, hb⟩ := hrel
    by_cases hlt : k < L.length
    · rcases HROW.out with hr | ⟨b, o, ha, hbl, hcel⟩
      · rw [hr] at hlt; simp at hlt
      · rw [ha]
        have hcx := (hcel k hlt).kept hb
        unfold RecAt at hcx
        obtain ⟨c0, c1, c2, c3⟩ := hcx
        have hxl := hx.out _ (List.getElem_mem hlt)
        have HN : Hid (L.take (k + 1) = L.take k ++ [L[k]'hlt]) := List.take_succ_eq_append_getElem hlt
        have HK : Hid ((L.take k).length = k) := by rw [List.length_take]; exact Nat.min_eq_left hk
        obtain ⟨x, hxe⟩ : ∃ x, x = L[k]'hlt := ⟨_, rfl⟩
        rw [← hxe] at c0 c1 c2 c3 hxl HN
        obtain ⟨xn, xt, xl, xd⟩ := x
        simp only at c0 c1 c2 c3 hxl
        have HNB : Hid (v.ownBlock ≠ some wr.heap.size) := fun h => Nat.lt_irrefl _ (HO.out.lt _ h).2
        clear hcel hxe
        go_wp2_with fail
        refine (cloneR_any ⟨xn.toArray⟩ _ (by rw [size_list]; omega)).mono ?_
        rintro e w1 ⟨rfl, hb1⟩
        have HB1 : Hid (w1.heap[wr.heap.size]? = some (.cells #[.string ⟨xn.toArray⟩, .int .i64 xt, .int .i64 xl, .string ⟨xd.toArray⟩] 108)) := (hb1.block wr.heap.size (by simp)).trans (blk_new _ _)
        have HO1 : Hid (w1.ownsRow w.heap.size 108 4 v (L.take k).length (rcells (L.take k))) := own_below (HO.out.alloc _) hb1
        have hz1 : wr.heap.size < w1.heap.size := Nat.lt_of_lt_of_le (by simp) hb1.size
        have hbw1 : Below w.heap.size w w1 := hb.trans ((((Below.refl wr.heap.size wr).alloc (Nat.le_refl _) _).trans (hb1.mono (by simp))).mono hb.size)
        obtain ⟨d0, d1, d2, d3⟩ := rec4_cells HB1.out
        obtain ⟨f0, f1, f2, f3⟩ := rec4_frozen HB1.out
        clear hb1 c0 c1 c2 c3
        go_wp2_with fail
        refine (cloneR_any ⟨xd.toArray⟩ _ (by rw [size_list]; omega)).mono ?_
        rintro e w2 ⟨rfl, hb2⟩
        have HB2 : Hid (w2.heap[wr.heap.size]? = some (.cells #[.string ⟨xn.toArray⟩, .int .i64 xt, .int .i64 xl, .string ⟨xd.toArray⟩] 108)) := by
          have e1 := heap_setCell_same _ _ 0 _ _ (.string ⟨xn.toArray⟩) HB1.out
          exact ((hb2.block wr.heap.size (by simpa using hz1)).trans e1).trans (by rfl)
        have HO2 : Hid (w2.ownsRow w.heap.size 108 4 v (L.take k).length (rcells (L.take k))) := own_below (own_setN HO1.out HNB.out) hb2
        have hz2 : wr.heap.size < w2.heap.size := Nat.lt_of_lt_of_le (by simpa using hz1) hb2.size
        have hbw2 : Below w.heap.size w w2 := (hbw1.setCell (p := ⟨wr.heap.size, 0, none⟩) hb.size _).trans (hb2.mono (by simpa using hbw1.size))
        clear d0 d1 d2 d3 f0 f1 f2 f3 HB1 HO1 hb2
        obtain ⟨d0, d1, d2, d3⟩ := rec4_cells HB2.out
        obtain ⟨f0, f1, f2, f3⟩ := rec4_frozen HB2.out
        go_wp2_with (first | (at_builtin; refine wpList_append_rows rfl (.tmp 20) (.tmp 22) 30 rfl Tryz.underlying30 w.heap.size v _ (L.take k) rfl rfl ?b0 _ [(xn, xt, xl, xd)] rfl ?b1 ?b2 ?b3 ?b4 ?_))
        case b0 => exact (own_setN HO2.out HNB.out).alloc _
        case b1 => exact rrow_one _ (xn, xt, xl, xd) _ _ (by simp)
        case b2 => intro n c h; cases h
        case b3 => rw [HK.out]; simp; omega
        case b4 => simp; have := hbw2.size; omega
        intro v2 w4 hown hgrow
        have HO4 : Hid (w4.ownsRow w.heap.size 108 4 v2 (L.take (k + 1)).length (rcells (L.take (k + 1)))) := by
          have e : (L.take k ++ [(xn, xt, xl, xd)]).length = k + 1 := by rw [List.length_append, HK.out]; rfl
          rw [HN.out, e]; exact hown
        have hbw3 := (hbw2.setCell (p := ⟨wr.heap.size, 3, none⟩) hb.size (.string ⟨xd.toArray⟩))
        have hbw4 : Below w.heap.size w w4 := (hbw3.alloc (by simpa using hbw2.size) _).grown hgrow (by simp; have := hbw2.size; omega) (fun j hj => (HO2.out.lt j hj).1)
        clear hown hgrow
        go_wp2_with fail
        go_roundw
        case rel => exact ⟨k + 1, v2, by omega, by go_num, rfl, HO4, hbw4⟩
        case measure => simp [intOf]; omega
    · have HOL : Hid (OwnQ wr w.heap.size v L) := by
        have h := HO.out
        rw [List.take_of_length_le (by omega)] at h
        exact own_q h
      go_wp2_with fail
      go_ret
      exact ⟨_, rfl, HOL.out, hb⟩

end Go.Proofs.YtoobaaklklommaaGreatDoor
