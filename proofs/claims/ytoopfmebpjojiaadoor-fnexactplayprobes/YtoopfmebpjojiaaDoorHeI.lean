import Derived.Test.YtoopfmebpjojiaaDoorHeP
import Derived.Test.YtoopfmebpjojiaaDoorSplit
namespace Go.Proofs.YtoopfmebpjojiaaDoor
open Go.RowKit

set_option maxRecDepth 20000 in
set_option maxHeartbeats 400000 in
theorem named1_any (xn s : List UInt8) (u : Bool) (r : Int) (g : Nat) (w : World) (h0 : w.cell? ⟨g, 0, none⟩ = some (.string ⟨s.toArray⟩)) (hg : g < w.heap.size) :
    Calls Tryd.prog 68 #[.agg #[.string ⟨xn.toArray⟩, .bool u, .int .i64 r], .pointer (some ⟨g, 0, none⟩)] w fun e w' => e = .returned (.bool (xn == s)) ∧ Below w.heap.size w w' := by
  have hb0 : Below w.heap.size w (w.alloc (.cells #[.string ⟨xn.toArray⟩, .bool u, .int .i64 r] 68)) := (Below.refl _ _).alloc (Nat.le_refl _) _
  go_enter Tryd.func68, Tryd.ntmps68
  go_wp2_with fail
  go_ret
  exact ⟨rfl, hb0⟩

/-- A function value that tells of each host whether it is so. -/
def PredH (g : Nat) (lb : Array Value) (p : HosT → Bool) (L : List HosT) (w : World) : Prop :=
  ∀ (W : World) (x : HosT), x ∈ L → Below w.heap.size w W → Calls Tryd.prog g (#[.agg #[.string ⟨x.1.toArray⟩, .bool x.2.1, .int .i64 x.2.2]] ++ lb) W fun e w' => e = .returned (.bool (p x)) ∧ Below W.heap.size W w'

set_option maxRecDepth 20000 in
set_option maxHeartbeats 1000000 in
theorem indexFuncH_any (g : Nat) (lb : Array Value) (p : HosT → Bool) (v : Value) (L : List HosT) (w : World) (hr : HstRow w v L) (hp : Hid (PredH g lb p L w)) (eg : ∀ args w, (callFunc g args).run Tryd.prog w = .ok (.enter g args) w) :
    Calls Tryd.prog 67 #[v, .func (.func g) #[] lb] w fun e w' => (∃ i : Int, e = .returned (.int .i64 i) ∧ FirstI p L i) ∧ Below w.heap.size w w' := by
  obtain ⟨a, cap, rfl, hcap, hmax, HROW⟩ := hst_value hr
  clear hr
  go_enter Tryd.func67, Tryd.ntmps67
  go_wp2_with fail
  go_loopw [8] (fun i wr => ∃ k : Nat, k ≤ L.length ∧ i = .int .i64 (k : Int) ∧ Hid (∀ j, (hj : j < L.length) → j < k → p L[j] = false) ∧ Below w.heap.size w wr) (fun i _ => L.length - (intOf i).toNat)
  case atStart => exact ⟨0, Nat.zero_le _, rfl, fun j _ h => absurd h (Nat.not_lt_zero _), Below.refl _ _⟩
  case round =>
    obtain ⟨k, hk, rfl, HA, hb⟩ := hrel
    by_cases hlt : k < L.length
    · obtain ⟨b, o, ha, hbl, hcel⟩ := HROW.out (by omega)
      rw [ha]
      have hcx := (hcel k hlt).kept hb
      unfold HstAt at hcx
      obtain ⟨c0, c1, c2⟩ := hcx
      have hcall := hp.out wr _ (List.getElem_mem hlt) hb
      have HHIT : Hid (p (L[k]'hlt) = true → FirstI p L (k : Int)) := fun h => .inr ⟨k, hlt, rfl, h, HA.out⟩
      have HOK : Hid (p (L[k]'hlt) = false → ∀ j, (hj : j < L.length) → j < k + 1 → p L[j] = false) := fun h j hj h1 => by
        rcases Nat.lt_or_ge j k with h' | h'
        · exact HA.out j hj h'
        · obtain rfl : j = k := by omega
          exact h
      obtain ⟨x, hxe⟩ : ∃ x, x = L[k]'hlt := ⟨_, rfl⟩
      rw [← hxe] at c0 c1 c2 hcall HHIT HOK
      clear hcel hxe
      cases hR : p x with
      | true =>
        have HR := HHIT.out hR
        rw [hR] at hcall
        go_wp2_with (go_at_fn g; refine hcall.mono ?_; rintro e w' ⟨rfl, hb'⟩)
        go_ret
        exact ⟨⟨(k : Int), rfl, HR⟩, hb.trans (hb'.mono hb.size)⟩
      | false =>
        have HR := HOK.out hR
        rw [hR] at hcall
        go_wp2_with (go_at_fn g; refine hcall.mono ?_; rintro e w' ⟨rfl, hb'⟩)
        go_roundw
        case rel => exact ⟨k + 1, by omega, by go_num, HR, hb.trans (hb'.mono hb.size)⟩
        case measure => simp [intOf]; omega
    · have HR : Hid (FirstI p L (-1)) := .inl ⟨rfl, fun x hx => by
        obtain ⟨j, hj, rfl⟩ := List.getElem_of_mem hx
        exact HA.out j hj (by omega)⟩
      go_wp2_with fail
      go_ret
      exact ⟨⟨-1, rfl, HR.out⟩, hb⟩

set_option maxRecDepth 20000 in
set_option maxHeartbeats 1000000 in
theorem firstNamed_any (ri fa : Int) (v : Value) (L : List HosT) (s : List UInt8) (w : World) (hr : HstRow w v L) :
    Calls Tryd.prog 58 #[HeaV ri fa v, .string ⟨s.toArray⟩] w fun e w' => (∃ i : Int, e = .returned (.int .i64 i) ∧ FirstI (fun x => x.1 == s) L i) ∧ Below w.heap.size w w' := by
  unfold HeaV
  obtain ⟨W0, hW0⟩ : ∃ W0, W0 = (w.alloc (.cells #[.int .i64 ri, .int .i64 fa, v] 26)).alloc (.cells #[.string ⟨s.toArray⟩] 9) := ⟨_, rfl⟩
  have hb0 : Below w.heap.size w W0 := by rw [hW0]; exact ((Below.refl w.heap.size w).alloc (Nat.le_refl _) _).alloc (by simp) _
  have hz0 : w.heap.size + 1 < W0.heap.size := by rw [hW0]; simp
  have HI : Hid (Calls Tryd.prog 67 #[v, .func (.func 68) #[] #[.pointer (some ⟨w.heap.size + 1, 0, none⟩)]] W0 fun e w' => (∃ i : Int, e = .returned (.int .i64 i) ∧ FirstI (fun x => x.1 == s) L i) ∧ Below W0.heap.size W0 w') :=
    indexFuncH_any 68 #[.pointer (some ⟨w.heap.size + 1, 0, none⟩)] (fun x => x.1 == s) v L W0 (hr.kept hb0) (fun W x hx hW => by
      have h0 : W0.cell? ⟨w.heap.size + 1, 0, none⟩ = some (.string ⟨s.toArray⟩) := by
        rw [hW0]; unfold World.cell?; rw [hst_new2]; rfl
      exact named1_any x.1 s x.2.1 x.2.2 (w.heap.size + 1) W ((hW.cell (p := ⟨w.heap.size + 1, 0, none⟩) hz0).trans h0) (Nat.lt_of_lt_of_le hz0 hW.size)) (fun _ _ => by kernel_rfl)
  have HW0 : Hid ((w.alloc (.cells #[.int .i64 ri, .int .i64 fa, v] 26)).alloc (.cells #[.string ⟨s.toArray⟩] 9) = W0) := hW0.symm
  obtain ⟨aa, ca, rfl, _, hca, _⟩ := id hr
  clear hW0 hr
  go_enter Tryd.func58, Tryd.ntmps58
  go_wp2_with fail
  rw [HW0.out]
  refine HI.out.mono ?_
  rintro e w1 ⟨⟨i, rfl, hi⟩, hb1⟩
  have HF : Hid (FirstI (fun x => x.1 == s) L i) := hi
  have hbw := hb0.trans (hb1.mono hb0.size)
  clear hi
  go_wp2_with fail
  go_ret
  exact ⟨⟨i, rfl, HF.out⟩, hbw⟩

set_option maxRecDepth 20000 in
set_option maxHeartbeats 400000 in
theorem rowToTurn_any (ri fa : Int) (v : Value) (L : List HosT) (j : Nat) (hj : j < L.length) (w : World) (hr : HstRow w v L) :
    Calls Tryd.prog 65 #[HeaV ri fa v, .int .i64 (j : Int)] w fun e w' => e = .returned (.int .i64 (mostH ri fa L[j].2.1)) ∧ Below w.heap.size w w' := by
  unfold HeaV
  obtain ⟨a, cap, rfl, hcap, hmax, HROW⟩ := hst_value hr
  obtain ⟨b, o, rfl, hbl, hcel⟩ := HROW.out (by omega)
  have hb0 : Below w.heap.size w (w.alloc (.cells #[.int .i64 ri, .int .i64 fa, .slice (some ⟨b, o, none⟩) L.length cap] 26)) := (Below.refl w.heap.size w).alloc (Nat.le_refl _) _
  have hc := (hcel j hj).kept hb0
  unfold HstAt at hc
  obtain ⟨c0, c1, c2⟩ := hc
  obtain ⟨⟨xn, u, r⟩, hx⟩ : ∃ x, x = L[j] := ⟨_, rfl⟩
  rw [← hx] at c0 c1 c2 ⊢
  simp only at c0 c1 c2 ⊢
  clear hcel hx HROW hr
  cases u
  · go_enter Tryd.func65, Tryd.ntmps65
    go_wp2_with fail
    go_ret
    exact ⟨rfl, hb0⟩
  · go_enter Tryd.func65, Tryd.ntmps65
    go_wp2_with fail
    go_ret
    exact ⟨rfl, hb0⟩
end Go.Proofs.YtoopfmebpjojiaaDoor
