import Derived.Test.YtdbbcepjdojdcaaGreatDoorZ24
import Derived.Test.YtdbbcepjdojdcaaGreatDoorZ48
import Derived.Test.YtdbbcepjdojdcaaGreatDoorZ27
import Derived.Deep.RegionHeld3
namespace Go.Proofs.YtdbbcepjdojdcaaGreatDoor
open Go.RowKit

set_option maxRecDepth 20000 in
set_option maxHeartbeats 4000000 in
theorem l9Less_any (v vg : Value) (L G : List (List UInt8 × Int × Int × List UInt8)) (w : World) (hr : RRow w v L) (hg : RRow w vg G) (hl : L.length ≤ 1048576) :
    Calls Tryz.prog 31 #[v, vg] w fun e w' => (∃ u, e = .returned u ∧ OwnQ w' w.heap.size u (wthR L G)) ∧ Below w.heap.size w w' := by
  obtain ⟨a, cap, rfl, hcap, hmax, HROW⟩ := rrow_value hr
  have HCO : Hid (∀ (x : List UInt8 × Int × Int × List UInt8) W, Below w.heap.size w W → Calls Tryz.prog 29 #[vg, .agg #[.string ⟨x.1.toArray⟩, .int .i64 x.2.1, .int .i64 x.2.2.1, .string ⟨x.2.2.2.toArray⟩]] W fun e w' => e = .returned (.bool (hasR G x)) ∧ Below W.heap.size W w') := fun x W hW => l9Has_any vg G x W (hg.kept hW)
  obtain ⟨ag, cg, rfl, hcg1, hcg, _⟩ := rrow_value hg
  clear hr hg
  have HO0 : Hid (w.ownsRow w.heap.size 63 4 (.slice none 0 0) (wthR (L.take 0) G).length (rcells (wthR (L.take 0) G))) := by
    have h : w.ownsRow w.heap.size 63 4 (.slice none 0 0) (wthR (L.take 0) G).length (rcells (wthR (L.take 0) G)) := by simpa [rcells, wthR] using World.ownsRow_nil _ _ _ _
    exact h
  go_enter Tryz.func31, Tryz.ntmps31
  go_wp2_with fail
  go_loopw [5, 10] (fun vv i wr => ∃ (k : Nat) (v : Value), k ≤ L.length ∧ i = .int .i64 (k : Int) ∧ v = vv ∧ Hid (wr.ownsRow w.heap.size 63 4 v (wthR (L.take k) G).length (rcells (wthR (L.take k) G))) ∧ Below w.heap.size w wr) (fun _ i _ => L.length - (intOf i).toNat)
  case atStart => exact ⟨0, _, Nat.zero_le _, rfl, rfl, HO0, Below.refl _ _⟩
  case round =>
    obtain ⟨k, v, hk, rfl, rfl, HO, hb⟩ := hrel
    clear HO0
    by_cases hlt : k < L.length
    · obtain ⟨b, o, ha, hbl, hcel⟩ := HROW.out (by omega)
      rw [ha]
      have hcx := (hcel k hlt).kept hb
      have HN : Hid (wthR (L.take (k + 1)) G = wthR (L.take k) G ++ (if hasR G (L[k]'hlt) then [] else [L[k]'hlt])) := wthR_take k hlt
      have hlen : Hid ((wthR (L.take k) G).length ≤ k) := Nat.le_trans (wthR_le _ _) (by rw [List.length_take]; omega)
      obtain ⟨x, hxe⟩ : ∃ x, x = L[k]'hlt := ⟨_, rfl⟩
      rw [← hxe] at hcx HN
      unfold RecAt at hcx
      obtain ⟨c0, c1, c2, c3⟩ := hcx
      have HCX : Hid (∀ W, Below w.heap.size w W → Calls Tryz.prog 29 #[.slice ag G.length cg, .agg #[.string ⟨x.1.toArray⟩, .int .i64 x.2.1, .int .i64 x.2.2.1, .string ⟨x.2.2.2.toArray⟩]] W fun e w' => e = .returned (.bool (hasR G x)) ∧ Below W.heap.size W w') := HCO.out x
      obtain ⟨P, hP⟩ : ∃ P, P = wthR (L.take k) G := ⟨_, rfl⟩
      rw [← hP] at HO HN hlen
      clear hcel hxe hP
      cases hh : hasR G x with
      | true =>
        rw [hh] at HCX HN
        have HN2 : Hid (wthR (L.take (k + 1)) G = P) := HN.out.trans (by simp)
        clear HN hh
        go_wp2_with fail
        refine (HCX.out _ (hb.alloc hb.size _)).mono ?_
        rintro e w1 ⟨rfl, hb1⟩
        have HO1 : Hid (w1.ownsRow w.heap.size 63 4 v (wthR (L.take (k + 1)) G).length (rcells (wthR (L.take (k + 1)) G))) := by rw [HN2.out]; exact own_below (HO.out.alloc _) hb1
        have hbw1 : Below w.heap.size w w1 := (hb.alloc hb.size _).trans (hb1.mono (hb.alloc hb.size _).size)
        clear c0 c1 c2 c3 hb1
        go_wp2_with fail
        go_roundw
        case rel => exact ⟨k + 1, v, by omega, by go_num, rfl, HO1, hbw1⟩
        case measure => simp [intOf]; omega
      | false =>
        rw [hh] at HCX HN
        have HN2 : Hid (wthR (L.take (k + 1)) G = P ++ [x]) := HN.out.trans (by simp)
        clear HN hh
        have HNB : Hid (v.ownBlock ≠ some wr.heap.size) := fun h => Nat.lt_irrefl _ (HO.out.lt _ h).2
        go_wp2_with fail
        refine (HCX.out _ (hb.alloc hb.size _)).mono ?_
        rintro e w1 ⟨rfl, hb1⟩
        have HO1 : Hid (w1.ownsRow w.heap.size 63 4 v P.length (rcells P)) := own_below (HO.out.alloc _) hb1
        have hbw1 : Below w.heap.size w w1 := (hb.alloc hb.size _).trans (hb1.mono (hb.alloc hb.size _).size)
        have HB1 : Hid (w1.heap[wr.heap.size]? = some (.cells #[.string ⟨x.1.toArray⟩, .int .i64 x.2.1, .int .i64 x.2.2.1, .string ⟨x.2.2.2.toArray⟩] 63)) := (hb1.block wr.heap.size (by simp)).trans (blk_new _ _)
        obtain ⟨d0, d1, d2, d3⟩ := rec4_cells HB1.out
        clear c0 c1 c2 c3 hb1
        go_wp2_with (first | (at_builtin; refine wpList_append_rows rfl (.tmp 18) (.tmp 20) 29 rfl Tryz.underlying29 w.heap.size v _ P rfl rfl ?b0 _ [x] rfl ?b1 ?b2 ?b3 ?b4 ?_))
        case b0 => exact HO1.out.alloc _
        case b1 => exact rrow_one _ x _ _ (by simp)
        case b2 => intro n c h; cases h
        case b3 => have h := hlen.out; simp; omega
        case b4 => simp; have := hbw1.size; omega
        intro v2 w4 hown hgrow
        have HO4 : Hid (w4.ownsRow w.heap.size 63 4 v2 (wthR (L.take (k + 1)) G).length (rcells (wthR (L.take (k + 1)) G))) := by
          have e : (P ++ [x]).length = P.length + 1 := by simp
          rw [HN2.out, e]; exact hown
        have hbw4 : Below w.heap.size w w4 := (hbw1.alloc hbw1.size _).grown hgrow (by simp; have := hbw1.size; omega) (fun j hj => (HO1.out.lt j hj).1)
        clear hown hgrow
        go_wp2_with fail
        go_roundw
        case rel => exact ⟨k + 1, v2, by omega, by go_num, rfl, HO4, hbw4⟩
        case measure => simp [intOf]; omega
    · have HOL : Hid (OwnQ wr w.heap.size v (wthR L G)) := by
        have h := HO.out
        rw [List.take_of_length_le (by omega)] at h
        exact own_q h
      go_wp2_with fail
      go_ret
      exact ⟨⟨_, rfl, HOL.out⟩, hb⟩

end Go.Proofs.YtdbbcepjdojdcaaGreatDoor
