import Derived.Test.YtbcgalhegkhmbaaGreatDoorZ24
import Derived.Test.YtbcgalhegkhmbaaGreatDoorZ25
import Derived.Test.YtbcgalhegkhmbaaGreatDoorZ27
namespace Go.Proofs.YtbcgalhegkhmbaaGreatDoor
open Go.RowKit

/-- A function value that tells of each record whether it is so. -/
def PredQ (g : Nat) (lb : Array Value) (p : (List UInt8 × Int × Int × List UInt8) → Bool) (L : List (List UInt8 × Int × Int × List UInt8)) (w : World) : Prop :=
  ∀ (W : World) (x : (List UInt8 × Int × Int × List UInt8)), x ∈ L → Below w.heap.size w W → Calls Tryz.prog g (#[.agg #[.string ⟨x.1.toArray⟩, .int .i64 x.2.1, .int .i64 x.2.2.1, .string ⟨x.2.2.2.toArray⟩]] ++ lb) W fun e w' => e = .returned (.bool (p x)) ∧ Below W.heap.size W w'

set_option maxRecDepth 20000 in
set_option maxHeartbeats 1000000 in
theorem indexFunc_any (g : Nat) (lb : Array Value) (p : (List UInt8 × Int × Int × List UInt8) → Bool) (v : Value) (L : List (List UInt8 × Int × Int × List UInt8)) (w : World) (hr : RRow w v L) (hp : Hid (PredQ g lb p L w)) (eg : ∀ args w, (callFunc g args).run Tryz.prog w = .ok (.enter g args) w) :
    Calls Tryz.prog 66 #[v, .func (.func g) #[] lb] w fun e w' => (∃ i : Int, e = .returned (.int .i64 i) ∧ decide (0 ≤ i) = L.any p) ∧ Below w.heap.size w w' := by
  obtain ⟨a, cap, rfl, hcap, hmax, hrow⟩ := hr
  have HROW : Hid (L = [] ∨ ∃ b o, a = some ⟨b, o, none⟩ ∧ b < w.heap.size ∧ ∀ j, (hj : j < L.length) → RecAt w b (o + j * 4) L[j]) := hrow
  unfold maxLen at hmax
  clear hrow
  go_enter Tryz.func66, Tryz.ntmps66
  go_wp2_with fail
  go_loopw [8] (fun i wr => ∃ k : Nat, k ≤ L.length ∧ i = .int .i64 (k : Int) ∧ Hid (∀ j, (hj : j < L.length) → j < k → p L[j] = false) ∧ Below w.heap.size w wr) (fun i _ => L.length - (intOf i).toNat)
  case atStart => exact ⟨0, Nat.zero_le _, rfl, fun j _ h => absurd h (Nat.not_lt_zero _), Below.refl _ _⟩
  case round =>
    obtain ⟨k, hk, rfl, HA, hb⟩ := hrel
    by_cases hlt : k < L.length
    · rcases HROW.out with hr | ⟨b, o, ha, hbl, hcel⟩
      · rw [hr] at hlt; simp at hlt
      · rw [ha]
        have hcx := (hcel k hlt).kept hb
        unfold RecAt at hcx
        obtain ⟨c0, c1, c2, c3⟩ := hcx
        have hcall := hp.out wr _ (List.getElem_mem hlt) hb
        have HHIT : Hid (p (L[k]'hlt) = true → decide ((0 : Int) ≤ (k : Int)) = L.any p) := fun h => by
          have h1 : L.any p = true := List.any_eq_true.2 ⟨_, List.getElem_mem hlt, h⟩
          rw [h1]; simp
        have HOK : Hid (p (L[k]'hlt) = false → ∀ j, (hj : j < L.length) → j < k + 1 → p L[j] = false) := fun h j hj h1 => by
          rcases Nat.lt_or_ge j k with h' | h'
          · exact HA.out j hj h'
          · obtain rfl : j = k := by omega
            exact h
        obtain ⟨x, hxe⟩ : ∃ x, x = L[k]'hlt := ⟨_, rfl⟩
        rw [← hxe] at c0 c1 c2 c3 hcall HHIT HOK
        clear hcel hxe
        cases hR : p x with
        | true =>
          have HR := HHIT.out hR
          rw [hR] at hcall
          go_wp2_with (go_at_fn g; refine hcall.mono ?_; rintro e w' ⟨rfl, hb'⟩)
          go_ret
          exact ⟨⟨(k : Int), rfl, HR⟩, hb.trans (hb'.mono hb.size)⟩
        | false =>
          have HR := HOK.out hR
          rw [hR] at hcall
          go_wp2_with (go_at_fn g; refine hcall.mono ?_; rintro e w' ⟨rfl, hb'⟩)
          go_roundw
          case rel => exact ⟨k + 1, by omega, by go_num, HR, hb.trans (hb'.mono hb.size)⟩
          case measure => simp [intOf]; omega
    · have HR : Hid (L.any p = false) := by
        show L.any p = false
        rw [List.any_eq_false]
        intro x hx
        obtain ⟨j, hj, rfl⟩ := List.getElem_of_mem hx
        rw [HA.out j hj (by omega)]; simp
      go_wp2_with fail
      go_ret
      exact ⟨⟨-1, rfl, by rw [HR.out]; rfl⟩, hb⟩

set_option maxRecDepth 20000 in
set_option maxHeartbeats 400000 in
theorem containsFunc_any (g : Nat) (lb : Array Value) (p : (List UInt8 × Int × Int × List UInt8) → Bool) (v : Value) (L : List (List UInt8 × Int × Int × List UInt8)) (w : World) (hr : RRow w v L) (hp : Hid (PredQ g lb p L w)) (eg : ∀ args w, (callFunc g args).run Tryz.prog w = .ok (.enter g args) w) :
    Calls Tryz.prog 45 #[v, .func (.func g) #[] lb] w fun e w' => e = .returned (.bool (L.any p)) ∧ Below w.heap.size w w' := by
  have HC : Hid (Calls Tryz.prog 66 #[v, .func (.func g) #[] lb] w fun e w' => (∃ i : Int, e = .returned (.int .i64 i) ∧ decide (0 ≤ i) = L.any p) ∧ Below w.heap.size w w') := indexFunc_any g lb p v L w hr hp eg
  obtain ⟨a, cap, rfl, hcap, hmax, hrow⟩ := hr
  clear hrow eg hp
  go_enter Tryz.func45, Tryz.ntmps45
  go_wp2_with fail
  refine HC.out.mono ?_
  rintro e w1 ⟨⟨i, rfl, hi⟩, hb⟩
  have HI : Hid (decide (0 ≤ i) = L.any p) := hi
  clear hi
  go_wp2_with fail
  go_ret
  exact ⟨ret_bool HI.out, hb⟩
end Go.Proofs.YtbcgalhegkhmbaaGreatDoor
