import Derived.Test.YtbgkocjpenkijaaGreatDoorRLaw
import Derived.Test.YtbgkocjpenkijaaGreatDoorListS
namespace Go.Proofs.YtbgkocjpenkijaaGreatDoor
open Go.RowKit

/-- The four cells of a record at a place of a block. -/
def RecAt (w : World) (b o : Nat) (x : List UInt8 × Int × Int × List UInt8) : Prop :=
  w.cell? ⟨b, o, none⟩ = some (.string ⟨x.1.toArray⟩) ∧ w.cell? ⟨b, o + 1, none⟩ = some (.int .i64 x.2.1) ∧ w.cell? ⟨b, o + 2, none⟩ = some (.int .i64 x.2.2.1) ∧ w.cell? ⟨b, o + 3, none⟩ = some (.string ⟨x.2.2.2.toArray⟩)
/-- A list of records as it lies in memory. -/
def RRow (w : World) (v : Value) (L : List (List UInt8 × Int × Int × List UInt8)) : Prop :=
  ∃ a cap, v = .slice a L.length cap ∧ L.length ≤ cap ∧ cap ≤ maxLen ∧ (L = [] ∨ ∃ b o, a = some ⟨b, o, none⟩ ∧ b < w.heap.size ∧ ∀ j, (hj : j < L.length) → RecAt w b (o + j * 4) L[j])
theorem RecAt.kept {w w' : World} {b o : Nat} {x : List UInt8 × Int × Int × List UInt8} (h : RecAt w b o x) (hb : Below w.heap.size w w') : RecAt w' b o x := by
  have hlt := World.block_lt_of_cell? _ _ h.1
  unfold RecAt
  rw [hb.cell (p := ⟨b, o, none⟩) hlt, hb.cell (p := ⟨b, o + 1, none⟩) hlt, hb.cell (p := ⟨b, o + 2, none⟩) hlt, hb.cell (p := ⟨b, o + 3, none⟩) hlt]
  exact h
theorem RRow.kept {w w' : World} {v : Value} {L : List (List UInt8 × Int × Int × List UInt8)} (h : RRow w v L) (hb : Below w.heap.size w w') : RRow w' v L := by
  obtain ⟨a, cap, rfl, h1, h2, h3⟩ := h
  refine ⟨a, cap, rfl, h1, h2, ?_⟩
  rcases h3 with h3 | ⟨b, o, rfl, hb1, hc⟩
  · exact .inl h3
  · exact .inr ⟨b, o, rfl, Nat.lt_of_lt_of_le hb1 hb.size, fun j hj => (hc j hj).kept hb⟩
/-- How much a list of records weighs. -/
def wtR (L : List (List UInt8 × Int × Int × List UInt8)) : Nat := (L.map (fun x => x.1.length + x.2.2.2.length)).sum
theorem wtR_snoc (L : List (List UInt8 × Int × Int × List UInt8)) (k : Nat) (h : k < L.length) : wtR (L.take (k + 1)) = wtR (L.take k) + (L[k].1.length + L[k].2.2.2.length) := by
  unfold wtR; rw [List.take_succ_eq_append_getElem h, List.map_append, List.sum_append]; simp only [List.map_cons, List.map_nil, List.sum_cons, List.sum_nil, Nat.add_zero]
theorem wtR_le (L : List (List UInt8 × Int × Int × List UInt8)) (k : Nat) : wtR (L.take k) ≤ wtR L := by
  have h : wtR L = wtR (L.take k) + wtR (L.drop k) := by unfold wtR; rw [← List.sum_append, ← List.map_append, List.take_append_drop]
  omega

set_option maxRecDepth 20000 in
set_option maxHeartbeats 1000000 in
theorem szRecordS_any (v : Value) (L : List (List UInt8 × Int × Int × List UInt8)) (left : Int) (w : World) (hr : RRow w v L) (hx : Hid (∀ x ∈ L, x.1.length ≤ maxLen ∧ x.2.2.2.length ≤ maxLen)) (h0 : 0 ≤ left) (h1 : left ≤ 1048576) :
    Calls Tryz.prog 28 #[v, .int .i64 left] w fun e w' => (∃ q : Int, e = .returned (.int .i64 q) ∧ ((q = -1 ∧ left < (L.length : Int) + (wtR L : Int)) ∨ (q = left - (L.length : Int) - (wtR L : Int) ∧ 0 ≤ q))) ∧ Below w.heap.size w w' := by
  obtain ⟨a, cap, rfl, hcap, hmax, hrow⟩ := hr
  have HROW : Hid (L = [] ∨ ∃ b o, a = some ⟨b, o, none⟩ ∧ b < w.heap.size ∧ ∀ j, (hj : j < L.length) → RecAt w b (o + j * 4) L[j]) := hrow
  have HSZ : Hid (∀ (x : List UInt8 × Int × Int × List UInt8) (q : Int) W, x.1.length ≤ maxLen → x.2.2.2.length ≤ maxLen → 0 ≤ q → q ≤ 1048576 → Calls Tryz.prog 64 #[.agg #[.string ⟨x.1.toArray⟩, .int .i64 x.2.1, .int .i64 x.2.2.1, .string ⟨x.2.2.2.toArray⟩], .int .i64 q] W fun e w' => e = .returned (.int .i64 (szR (x.1.length : Int) (x.2.2.2.length : Int) q)) ∧ Below W.heap.size W w') := fun x q W g1 g2 g3 g4 => by
    have h := szRecord_any ⟨x.1.toArray⟩ ⟨x.2.2.2.toArray⟩ x.2.1 x.2.2.1 q W (by rw [size_list]; exact g1) (by rw [size_list]; exact g2) g3 g4
    rw [size_list, size_list] at h; exact h
  unfold maxLen at hmax
  clear hrow
  by_cases hneg : left - (L.length : Int) < 0
  · go_enter Tryz.func28, Tryz.ntmps28
    go_wp2_with fail
    go_ret
    exact ⟨⟨-1, rfl, .inl ⟨rfl, by omega⟩⟩, Below.refl _ _⟩
  · have hpos : 0 ≤ left - (L.length : Int) := by omega
    clear hneg
    go_enter Tryz.func28, Tryz.ntmps28
    go_wp2_with fail
    go_loopw [1, 5] (fun q i wr => ∃ k : Nat, k ≤ L.length ∧ i = .int .i64 (k : Int) ∧ q = .int .i64 (left - (L.length : Int) - (wtR (L.take k) : Int)) ∧ 0 ≤ left - (L.length : Int) - (wtR (L.take k) : Int) ∧ Below w.heap.size w wr) (fun _ i _ => L.length - (intOf i).toNat)
    case atStart => exact ⟨0, Nat.zero_le _, rfl, by simp [wtR], by simpa [wtR] using hpos, Below.refl _ _⟩
    case round =>
      obtain ⟨k, hk, rfl, rfl, hq0, hb⟩ := hrel
      have hwl := wtR_le L k
      by_cases hlt : k < L.length
      · rcases HROW.out with hr | ⟨b, o, ha, hbl, hcel⟩
        · rw [hr] at hlt; simp at hlt
        · rw [ha]
          have hcx := (hcel k hlt).kept hb
          unfold RecAt at hcx
          obtain ⟨c0, c1, c2, c3⟩ := hcx
          have hxl := hx.out _ (List.getElem_mem hlt)
          have HST : Hid (wtR (L.take (k + 1)) = wtR (L.take k) + ((L[k]'hlt).1.length + (L[k]'hlt).2.2.2.length)) := wtR_snoc L k hlt
          have hwl2 := wtR_le L (k + 1)
          rw [HST.out] at hwl2
          obtain ⟨x, hxe⟩ : ∃ x, x = L[k]'hlt := ⟨_, rfl⟩
          rw [← hxe] at c0 c1 c2 c3 hxl HST hwl2
          obtain ⟨q, hq⟩ : ∃ q : Int, q = left - (L.length : Int) - (wtR (L.take k) : Int) := ⟨_, rfl⟩
          have HQ : Hid (q = left - (L.length : Int) - (wtR (L.take k) : Int)) := hq
          rw [← hq] at hq0 ⊢
          have hq1 : q ≤ 1048576 := by omega
          have HC := HSZ.out x q
          have HCC : Hid (∀ W, Calls Tryz.prog 64 #[.agg #[.string ⟨x.1.toArray⟩, .int .i64 x.2.1, .int .i64 x.2.2.1, .string ⟨x.2.2.2.toArray⟩], .int .i64 q] W fun e w' => e = .returned (.int .i64 (szR (x.1.length : Int) (x.2.2.2.length : Int) q)) ∧ Below W.heap.size W w') := fun W => HC W hxl.1 hxl.2 hq0 hq1
          clear hcel hxe hq HC
          have hsz : szR (x.1.length : Int) (x.2.2.2.length : Int) q = -1 ∧ q < (x.1.length : Int) + (x.2.2.2.length : Int) ∨ szR (x.1.length : Int) (x.2.2.2.length : Int) q = q - (x.1.length : Int) - (x.2.2.2.length : Int) ∧ 0 ≤ q - (x.1.length : Int) - (x.2.2.2.length : Int) := by
            unfold szR
            split
            · exact .inl ⟨rfl, by omega⟩
            · split
              · exact .inl ⟨rfl, by omega⟩
              · exact .inr ⟨rfl, by omega⟩
          rcases hsz with ⟨hz, hlt2⟩ | ⟨hz, hge⟩
          · rw [hz] at HCC
            have HL : Hid (left < (L.length : Int) + (wtR L : Int)) := by have h1 := HQ.out; show left < _; omega
            clear hz hlt2
            go_wp2_with fail
            refine (HCC.out _).mono ?_
            rintro e w2 ⟨rfl, hb2⟩
            go_wp2_with fail
            go_ret
            exact ⟨⟨-1, rfl, .inl ⟨rfl, HL.out⟩⟩, hb.trans (hb2.mono hb.size)⟩
          · rw [hz] at HCC
            obtain ⟨q2, hq2⟩ : ∃ q2 : Int, q2 = q - (x.1.length : Int) - (x.2.2.2.length : Int) := ⟨_, rfl⟩
            rw [← hq2] at HCC hge
            have HQ2 : Hid (q2 = left - (L.length : Int) - (wtR (L.take (k + 1)) : Int)) := by have h1 := HQ.out; have h2 := HST.out; show q2 = _; omega
            clear hz hq2
            go_wp2_with fail
            refine (HCC.out _).mono ?_
            rintro e w2 ⟨rfl, hb2⟩
            go_wp2_with fail
            go_roundw
            case rel => exact ⟨k + 1, by omega, by go_num, by rw [HQ2.out], by rw [← HQ2.out]; exact hge, hb.trans (hb2.mono hb.size)⟩
            case measure => simp [intOf]; omega
      · have hfull : wtR (L.take k) = wtR L := by rw [List.take_of_length_le (by omega)]
        rw [hfull] at hq0 ⊢
        clear hfull hwl
        go_wp2_with fail
        go_ret
        exact ⟨⟨_, rfl, .inr ⟨rfl, hq0⟩⟩, hb⟩
end Go.Proofs.YtbgkocjpenkijaaGreatDoor
