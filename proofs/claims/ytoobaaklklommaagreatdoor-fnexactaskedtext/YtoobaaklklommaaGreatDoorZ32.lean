import Derived.Test.YtoobaaklklommaaGreatDoorZ14
import Derived.Test.YtoobaaklklommaaGreatDoorZ11
import Derived.Test.YtoobaaklklommaaGreatDoorZ04
import Derived.Test.YtoobaaklklommaaGreatDoorZ30
import Derived.Test.YtoobaaklklommaaGreatDoorZ31
namespace Go.Proofs.YtoobaaklklommaaGreatDoor
open Go.RowKit

theorem two_below {w W : World} {a b : Value} {t : TypeId} (hb : Below (w.alloc (.cells #[a, b] t)).heap.size (w.alloc (.cells #[a, b] t)) W) :
    W.cell? ⟨w.heap.size, 0, none⟩ = some a ∧ W.cell? ⟨w.heap.size, 1, none⟩ = some b ∧ Below w.heap.size w W := by
  have hz : w.heap.size < (w.alloc (.cells #[a, b] t)).heap.size := by simp
  refine ⟨?_, ?_, ((Below.refl w.heap.size w).alloc (Nat.le_refl _) _).trans (hb.mono (Nat.le_of_lt hz))⟩
  all_goals (rw [hb.cell (p := ⟨w.heap.size, _, none⟩) hz]; simp)

set_option maxRecDepth 20000 in
set_option maxHeartbeats 400000 in
theorem ownerOf_any (nm d : ByteArray) (ty ttl : Int) (w : World) :
    Calls Tryz.prog 191 #[RecV nm ty ttl d] w fun e w' => e = .returned (.agg #[.string nm, .int .i64 ty]) ∧ Below w.heap.size w w' := by
  unfold RecV
  go_enter Tryz.func191, Tryz.ntmps191
  go_wp2_with fail
  (try simp only [Exit.inBlock, Exit.then])
  refine bodyPost_ret (results_cell_row rfl _ _ (w.heap.size + 1) 180 _ (0, 0) _ rfl ?_ Tryz.underlying180 rfl (by kernel_rfl)) rfl ⟨rfl, ((Below.refl w.heap.size w).alloc (Nat.le_refl _) _).alloc (by simp) _⟩
  rw [heap_alloc2_new]



end Go.Proofs.YtoobaaklklommaaGreatDoor

namespace Go.Proofs.YtoobaaklklommaaGreatDoor
open Go.RowKit

/-- A function value that tells of each record whether it is so. -/
def PredQ (g : Nat) (lb : Array Value) (p : (List UInt8 × Int × Int × List UInt8) → Bool) (L : List (List UInt8 × Int × Int × List UInt8)) (w : World) : Prop :=
  ∀ (W : World) (x : (List UInt8 × Int × Int × List UInt8)), x ∈ L → Below w.heap.size w W → Calls Tryz.prog g (#[.agg #[.string ⟨x.1.toArray⟩, .int .i64 x.2.1, .int .i64 x.2.2.1, .string ⟨x.2.2.2.toArray⟩]] ++ lb) W fun e w' => e = .returned (.bool (p x)) ∧ Below W.heap.size W w'

set_option maxRecDepth 20000 in
set_option maxHeartbeats 1000000 in
theorem indexFunc_any (g : Nat) (lb : Array Value) (p : (List UInt8 × Int × Int × List UInt8) → Bool) (v : Value) (L : List (List UInt8 × Int × Int × List UInt8)) (w : World) (hr : RRow w v L) (hp : Hid (PredQ g lb p L w)) (eg : ∀ args w, (callFunc g args).run Tryz.prog w = .ok (.enter g args) w) :
    Calls Tryz.prog 165 #[v, .func (.func g) #[] lb] w fun e w' => (∃ i : Int, e = .returned (.int .i64 i) ∧ decide (0 ≤ i) = L.any p) ∧ Below w.heap.size w w' := by
  obtain ⟨a, cap, rfl, hcap, hmax, hrow⟩ := hr
  have HROW : Hid (L = [] ∨ ∃ b o, a = some ⟨b, o, none⟩ ∧ b < w.heap.size ∧ ∀ j, (hj : j < L.length) → RecAt w b (o + j * 4) L[j]) := hrow
  unfold maxLen at hmax
  clear hrow
  go_enter Tryz.func165, Tryz.ntmps165
  go_wp2_with fail
  go_loopw [8] (fun i wr => ∃ k : Nat, k ≤ L.length ∧ i = .int .i64 (k : Int) ∧ Hid (∀ j, (hj : j < L.length) → j < k → p L[j] = false) ∧ Below w.heap.size w wr) (fun i _ => L.length - (intOf i).toNat)
  case atStart => exact ⟨0, Nat.zero_le _, rfl, fun j _ h => absurd h (Nat.not_lt_zero _), Below.refl _ _⟩
  case round =>
    obtain ⟨k, hk, rfl, HA, hb⟩ := hrel
    by_cases hlt : k < L.length
    · rcases HROW.out with hr | ⟨b, o, ha, hbl, hcel⟩
      · rw [hr] at hlt; simp at hlt
      · rw [ha]
        have hcx := (hcel k hlt).kept hb
        unfold RecAt at hcx
        obtain ⟨c0, c1, c2, c3⟩ := hcx
        have hcall := hp.out wr _ (List.getElem_mem hlt) hb
        have HHIT : Hid (p (L[k]'hlt) = true → decide ((0 : Int) ≤ (k : Int)) = L.any p) := fun h => by
          have h1 : L.any p = true := List.any_eq_true.2 ⟨_, List.getElem_mem hlt, h⟩
          rw [h1]; simp
        have HOK : Hid (p (L[k]'hlt) = false → ∀ j, (hj : j < L.length) → j < k + 1 → p L[j] = false) := fun h j hj h1 => by
          rcases Nat.lt_or_ge j k with h' | h'
          · exact HA.out j hj h'
          · obtain rfl : j = k := by omega
            exact h
        obtain ⟨x, hxe⟩ : ∃ x, x = L[k]'hlt := ⟨_, rfl⟩
        rw [← hxe] at c0 c1 c2 c3 hcall HHIT HOK
        clear hcel hxe
        cases hR : p x with
        | true =>
          have HR := HHIT.out hR
          rw [hR] at hcall
          go_wp2_with (go_at_fn g; refine hcall.mono ?_; rintro e w' ⟨rfl, hb'⟩)
          go_ret
          exact ⟨⟨(k : Int), rfl, HR⟩, hb.trans (hb'.mono hb.size)⟩
        | false =>
          have HR := HOK.out hR
          rw [hR] at hcall
          go_wp2_with (go_at_fn g; refine hcall.mono ?_; rintro e w' ⟨rfl, hb'⟩)
          go_roundw
          case rel => exact ⟨k + 1, by omega, by go_num, HR, hb.trans (hb'.mono hb.size)⟩
          case measure => simp [intOf]; omega
    · have HR : Hid (L.any p = false) := by
        show L.any p = false
        rw [List.any_eq_false]
        intro x hx
        obtain ⟨j, hj, rfl⟩ := List.getElem_of_mem hx
        rw [HA.out j hj (by omega)]; simp
      go_wp2_with fail
      go_ret
      exact ⟨⟨-1, rfl, by rw [HR.out]; rfl⟩, hb⟩

set_option maxRecDepth 20000 in
set_option maxHeartbeats 400000 in
theorem containsFunc_any (g : Nat) (lb : Array Value) (p : (List UInt8 × Int × Int × List UInt8) → Bool) (v : Value) (L : List (List UInt8 × Int × Int × List UInt8)) (w : World) (hr : RRow w v L) (hp : Hid (PredQ g lb p L w)) (eg : ∀ args w, (callFunc g args).run Tryz.prog w = .ok (.enter g args) w) :
    Calls Tryz.prog 125 #[v, .func (.func g) #[] lb] w fun e w' => e = .returned (.bool (L.any p)) ∧ Below w.heap.size w w' := by
  have HC : Hid (Calls Tryz.prog 165 #[v, .func (.func g) #[] lb] w fun e w' => (∃ i : Int, e = .returned (.int .i64 i) ∧ decide (0 ≤ i) = L.any p) ∧ Below w.heap.size w w') := indexFunc_any g lb p v L w hr hp eg
  obtain ⟨a, cap, rfl, hcap, hmax, hrow⟩ := hr
  clear hrow eg hp
  go_enter Tryz.func125, Tryz.ntmps125
  go_wp2_with fail
  refine HC.out.mono ?_
  rintro e w1 ⟨⟨i, rfl, hi⟩, hb⟩
  have HI : Hid (decide (0 ≤ i) = L.any p) := hi
  clear hi
  go_wp2_with fail
  go_ret
  exact ⟨ret_bool HI.out, hb⟩
end Go.Proofs.YtoobaaklklommaaGreatDoor
