import Derived.Test.YtjkabglaldkjgaaGreatDoorRRZ23
import Derived.Test.YtjkabglaldkjgaaGreatDoorRRZ05
namespace Go.Proofs.YtjkabglaldkjgaaGreatDoorRR
open Go.RowKit

/-- A good section. -/
def recsB (L : List (List UInt8 × Int × Int × List UInt8)) : Bool := L.all (fun x => recB x.1 x.2.1 x.2.2.1 x.2.2.2) && decide ((L.length : Int) ≤ 12)
theorem recsB_bad {L : List (List UInt8 × Int × Int × List UInt8)} (k : Nat) (hk : k < L.length) (h : recB L[k].1 L[k].2.1 L[k].2.2.1 L[k].2.2.2 = false) : recsB L = false := by
  unfold recsB
  have : L.all (fun x => recB x.1 x.2.1 x.2.2.1 x.2.2.2) = false := by
    rw [List.all_eq_false]; exact ⟨_, List.getElem_mem hk, by simpa using h⟩
  rw [this]; rfl
theorem recsB_all {L : List (List UInt8 × Int × Int × List UInt8)} (h : ∀ j, (hj : j < L.length) → recB L[j].1 L[j].2.1 L[j].2.2.1 L[j].2.2.2 = true) : recsB L = decide ((L.length : Int) ≤ 12) := by
  unfold recsB
  have : L.all (fun x => recB x.1 x.2.1 x.2.2.1 x.2.2.2) = true := by
    rw [List.all_eq_true]; intro x hx
    obtain ⟨j, hj, rfl⟩ := List.getElem_of_mem hx
    exact h j hj
  rw [this]; rfl

set_option maxRecDepth 20000 in
set_option maxHeartbeats 1000000 in
theorem l4Records_any (v : Value) (L : List (List UInt8 × Int × Int × List UInt8)) (w : World) (hr : RRow w v L) (hx : Hid (∀ x ∈ L, x.1.length ≤ 1048576 ∧ x.2.2.2.length ≤ 1048576)) :
    Calls Tryz.prog 17 #[v] w fun e w' => e = .returned (.bool (recsB L)) ∧ Below w.heap.size w w' := by
  obtain ⟨a, cap, rfl, hcap, hmax, hrow⟩ := hr
  have HROW : Hid (L = [] ∨ ∃ b o, a = some ⟨b, o, none⟩ ∧ b < w.heap.size ∧ ∀ j, (hj : j < L.length) → RecAt w b (o + j * 4) L[j]) := hrow
  have HGR : Hid (∀ (x : List UInt8 × Int × Int × List UInt8) W, x.1.length ≤ 1048576 → x.2.2.2.length ≤ 1048576 → Calls Tryz.prog 28 #[.agg #[.string ⟨x.1.toArray⟩, .int .i64 x.2.1, .int .i64 x.2.2.1, .string ⟨x.2.2.2.toArray⟩]] W fun e w' => e = .returned (.bool (recB x.1 x.2.1 x.2.2.1 x.2.2.2)) ∧ Below W.heap.size W w') := fun x W g1 g2 =>
    sGoodRecord_any ⟨x.1.toArray⟩ ⟨x.2.2.2.toArray⟩ x.2.1 x.2.2.1 W (by rw [size_list]; exact g1) (by rw [size_list]; exact g2)
  unfold maxLen at hmax
  clear hrow
  go_enter Tryz.func17, Tryz.ntmps17
  go_wp2_with fail
  go_loopw [7] (fun i wr => ∃ k : Nat, k ≤ L.length ∧ i = .int .i64 (k : Int) ∧ Hid (∀ j, (hj : j < L.length) → j < k → recB L[j].1 L[j].2.1 L[j].2.2.1 L[j].2.2.2 = true) ∧ Below w.heap.size w wr) (fun i _ => L.length - (intOf i).toNat)
  case atStart => exact ⟨0, Nat.zero_le _, rfl, fun j _ h => absurd h (Nat.not_lt_zero _), Below.refl _ _⟩
  case round =>
    obtain ⟨k, hk, rfl, HA, hb⟩ := hrel
    by_cases hlt : k < L.length
    · rcases HROW.out with hr | ⟨b, o, ha, hbl, hcel⟩
      · rw [hr] at hlt; simp at hlt
      · rw [ha]
        have hcx := (hcel k hlt).kept hb
        unfold RecAt at hcx
        obtain ⟨c0, c1, c2, c3⟩ := hcx
        have hxl := hx.out _ (List.getElem_mem hlt)
        have HBAD : Hid (recB (L[k]'hlt).1 (L[k]'hlt).2.1 (L[k]'hlt).2.2.1 (L[k]'hlt).2.2.2 = false → recsB L = false) := recsB_bad k hlt
        have HOK : Hid (recB (L[k]'hlt).1 (L[k]'hlt).2.1 (L[k]'hlt).2.2.1 (L[k]'hlt).2.2.2 = true → ∀ j, (hj : j < L.length) → j < k + 1 → recB L[j].1 L[j].2.1 L[j].2.2.1 L[j].2.2.2 = true) := fun h j hj h1 => by
          rcases Nat.lt_or_ge j k with h' | h'
          · exact HA.out j hj h'
          · obtain rfl : j = k := by omega
            exact h
        obtain ⟨x, hxe⟩ : ∃ x, x = L[k]'hlt := ⟨_, rfl⟩
        rw [← hxe] at c0 c1 c2 c3 hxl HBAD HOK
        have HCC := HGR.out x
        have HC : Hid (∀ W, Calls Tryz.prog 28 #[.agg #[.string ⟨x.1.toArray⟩, .int .i64 x.2.1, .int .i64 x.2.2.1, .string ⟨x.2.2.2.toArray⟩]] W fun e w' => e = .returned (.bool (recB x.1 x.2.1 x.2.2.1 x.2.2.2)) ∧ Below W.heap.size W w') := fun W => HCC W hxl.1 hxl.2
        clear hcel hxe HCC
        cases hR : recB x.1 x.2.1 x.2.2.1 x.2.2.2 with
        | false =>
          have HR : Hid (recsB L = false) := HBAD.out hR
          rw [hR] at HC
          clear hR HBAD HOK
          go_wp2_with fail
          refine (HC.out _).mono ?_
          rintro e w2 ⟨rfl, hb2⟩
          go_wp2_with fail
          go_ret
          exact ⟨ret_bool HR.out.symm, hb.trans ((box4 hb2).2.2.2.2.mono hb.size)⟩
        | true =>
          have HR : Hid (∀ j, (hj : j < L.length) → j < k + 1 → recB L[j].1 L[j].2.1 L[j].2.2.1 L[j].2.2.2 = true) := HOK.out hR
          rw [hR] at HC
          clear hR HBAD HOK
          go_wp2_with fail
          refine (HC.out _).mono ?_
          rintro e w2 ⟨rfl, hb2⟩
          go_wp2_with fail
          go_roundw
          case rel => exact ⟨k + 1, by omega, by go_num, HR, hb.trans ((box4 hb2).2.2.2.2.mono hb.size)⟩
          case measure => simp [intOf]; omega
    · have HR : Hid (recsB L = decide ((L.length : Int) ≤ 12)) := recsB_all (fun j hj => HA.out j hj (by omega))
      go_wp2_with fail
      go_ret
      exact ⟨ret_bool HR.out.symm, hb⟩
end Go.Proofs.YtjkabglaldkjgaaGreatDoorRR
