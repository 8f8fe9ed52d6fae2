import Derived.RangeFuncNested
import Derived.RangeFuncBound
import Derived.RangeFuncCalls
import Derived.RangeFuncLeaves
import Derived.Shelf.Abstract
import Derived.Shelf.RegionOpen
import Derived.WalkKit
import Derived.OwnWalkIn
import Derived.TacticsInMore
import Derived.LoopNIn
import Derived.LoopIn
import Derived.Test.YtoeffplfkdogdaaDoorZ17
import Derived.Test.YtoeffplfkdogdaaDoorZ27
namespace Go.Proofs.YtoeffplfkdogdaaDoor
open Go.RowKit Go.Shelf
attribute [local go_sem] Oper.semAt_some

/-- A gap with good names, and where its types lie. -/
def GA : Type := { x : (List UInt8 × List UInt8 × List Int) × Option Addr × Nat // nameB x.1.1 = true ∧ nameB x.1.2.1 = true }
/-- Gaps in memory, with the values of their types. -/
def GARow (n₀ : Nat) (W : World) (sv : Value) (zs : List GA) : Prop :=
  ∃ a cap, sv = .slice a zs.length cap ∧ zs.length ≤ cap ∧ cap ≤ maxLen ∧ (zs = [] ∨ ∃ b o, a = some ⟨b, o, none⟩ ∧ b < n₀ ∧ ∀ j, (hj : j < zs.length) → W.cell? ⟨b, o + j * 3, none⟩ = some (.string ⟨zs[j].1.1.1.toArray⟩) ∧ W.cell? ⟨b, o + j * 3 + 1, none⟩ = some (.string ⟨zs[j].1.1.2.1.toArray⟩) ∧ W.cell? ⟨b, o + j * 3 + 2, none⟩ = some (.slice zs[j].1.2.1 zs[j].1.1.2.2.length zs[j].1.2.2))
theorem GARow.below {n₀ : Nat} {A B : World} (h : Below n₀ A B) {sv : Value} {zs : List GA} (hr : GARow n₀ A sv zs) : GARow n₀ B sv zs := by
  obtain ⟨a, cap, rfl, h1, h2, h3⟩ := hr
  refine ⟨a, cap, rfl, h1, h2, ?_⟩
  rcases h3 with h3 | ⟨b, o, rfl, hb, hc⟩
  · exact .inl h3
  · exact .inr ⟨b, o, rfl, hb, fun j hj => by rw [h.cell (p := ⟨b, o + j * 3, none⟩) hb, h.cell (p := ⟨b, o + j * 3 + 1, none⟩) hb, h.cell (p := ⟨b, o + j * 3 + 2, none⟩) hb]; exact hc j hj⟩

set_option maxRecDepth 100000 in
set_option maxHeartbeats 2000000 in
theorem gvalues1_in (F : Fence) (n : Nat) (h7 : F.fn 52) (hro : F.round = none) (hn : 1 ≤ n) (l Bs n₀ : Nat) (sv : Value) (zs : List GA) (J Jx : List GA → World → Prop) (W : World)
    (hJ : AbidesFrom W.heap.size J) (hn0 : n₀ ≤ W.heap.size)
    (hY : ∀ pre x W, J pre W → pre.length < zs.length → YieldAt F (n - 1) Tryd.prog l #[.agg #[.string ⟨x.1.1.1.toArray⟩, .string ⟨x.1.1.2.1.toArray⟩, .slice x.1.2.1 x.1.1.2.2.length x.1.2.2]] W fun e W' =>
      (e = .returned (.bool true) ∧ J (pre ++ [x]) W' ∧ Below n₀ W W') ∨ (e = .returned (.bool false) ∧ Jx (pre ++ [x]) W'))
    (hBs : W.cell? ⟨Bs, 0, none⟩ = some sv) (hr : GARow n₀ W sv zs) (h0 : J [] W) :
    CallsIn F n Tryd.prog 52 #[.func (.yield l) #[] #[], .pointer (some ⟨Bs, 0, none⟩)] W fun e W' => (∃ v, e = .returned v) ∧
      ((∃ ys, ys = zs ∧ J ys W') ∨ (∃ pre, pre <+: zs ∧ Jx pre W')) := by
  obtain ⟨a, cap, rfl, hc1, hc2, HROW⟩ := id hr
  unfold maxLen at hc2
  have HR : Hid (0 < zs.length → ∃ b o, a = some ⟨b, o, none⟩ ∧ b < n₀ ∧ ∀ j, (hj : j < zs.length) → W.cell? ⟨b, o + j * 3, none⟩ = some (.string ⟨zs[j].1.1.1.toArray⟩) ∧ W.cell? ⟨b, o + j * 3 + 1, none⟩ = some (.string ⟨zs[j].1.1.2.1.toArray⟩) ∧ W.cell? ⟨b, o + j * 3 + 2, none⟩ = some (.slice zs[j].1.2.1 zs[j].1.1.2.2.length zs[j].1.2.2)) := fun hp => by
    rcases HROW with h | h
    · rw [h] at hp; simp at hp
    · exact h
  clear HROW hr
  refine callsIn_of_wp Tryd.func52 rfl h7 ?_ hro
  simp only [Tryd.ntmps52, List.size_toArray, List.length_cons, List.length_nil, Nat.reduceAdd, Nat.reduceSub, Array.replicate_succ, Array.replicate_zero, List.push_toArray, List.append_toArray, List.nil_append, List.cons_append]
  gi_wp2
  gi_loopw [7] (fun i wr => ∃ k : Nat, k ≤ zs.length ∧ i = .int .i64 k ∧ J (zs.take k) wr ∧ Below n₀ W wr ∧ n₀ ≤ wr.heap.size ∧ W.heap.size ≤ wr.heap.size)
    (fun i _ => zs.length - (intOf i).toNat)
  case atStart => exact ⟨0, Nat.zero_le _, rfl, by simpa using h0, Below.refl _ _, hn0, Nat.le_refl _⟩
  case round =>
    obtain ⟨k, hk, rfl, hJs, hnx, hsz, hsw⟩ := hrel
    by_cases hlt : k < zs.length
    · obtain ⟨b, o, ha, hb, hc⟩ := HR.out (by omega)
      rw [ha]
      have hcx := hc k hlt
      rw [← hnx.cell (p := ⟨b, o + k * 3, none⟩) hb, ← hnx.cell (p := ⟨b, o + k * 3 + 1, none⟩) hb, ← hnx.cell (p := ⟨b, o + k * 3 + 2, none⟩) hb] at hcx
      have HTK : Hid (zs.take (k + 1) = zs.take k ++ [zs[k]'hlt] ∧ zs.take (k + 1) <+: zs) := ⟨List.take_succ_eq_append_getElem hlt, List.take_prefix _ _⟩
      obtain ⟨x, hxe⟩ : ∃ x, x = zs[k]'hlt := ⟨_, rfl⟩
      rw [← hxe] at hcx HTK
      obtain ⟨c0, c1, c2⟩ := hcx
      have hJ2 : J (zs.take k) (wr.alloc (.cells #[.string ⟨x.1.1.1.toArray⟩, .string ⟨x.1.1.2.1.toArray⟩, .slice x.1.2.1 x.1.1.2.2.length x.1.2.2] 26)) := hJ _ wr _ none hJs (World.grownBy_alloc wr _ none) (fun r e => by cases e)
      have hb2 : Below n₀ wr (wr.alloc (.cells #[.string ⟨x.1.1.1.toArray⟩, .string ⟨x.1.1.2.1.toArray⟩, .slice x.1.2.1 x.1.1.2.2.length x.1.2.2] 26)) := (Below.refl _ _).alloc hsz _
      obtain ⟨fn, tmps, assign, body, hy, hR⟩ := hY _ x _ hJ2 (by simp; omega)
      clear hc hxe
      gi_wp2
      refine hR.mono ?_
      rintro e W3 (⟨rfl, hJ3, hk3⟩ | ⟨rfl, hJx3⟩)
      · rw [← HTK.out.1] at hJ3
        have hs3 := hk3.size
        gi_wp2
        go_roundw
        case rel => exact ⟨k + 1, by omega, by simp, hJ3, hnx.trans (hb2.trans hk3), by simp at hs3; omega, by simp at hs3; omega⟩
        case measure => simp [intOf]; omega
      · rw [← HTK.out.1] at hJx3
        gi_wp2
        refine bodyPost_ret (results_none rfl _ _ _) rfl ?_
        exact ⟨⟨_, rfl⟩, .inr ⟨_, HTK.out.2, hJx3⟩⟩
    · have HE : Hid (zs.take k = zs) := List.take_of_length_le (by omega)
      rw [HE.out] at hJs
      gi_wp2
      go_end0
      exact ⟨⟨_, rfl⟩, .inl ⟨_, rfl, hJs⟩⟩

set_option maxRecDepth 20000 in
set_option maxHeartbeats 1000000 in
theorem gvalues_any (a : Option Addr) (len cap : Nat) (w : World) :
    Calls Tryd.prog 27 #[.slice a len cap] w fun e w' => e = .returned (.func (.func 52) #[] #[.pointer (some ⟨w.heap.size, 0, none⟩)]) ∧ w' = w.alloc (.cells #[.slice a len cap] 29) := by
  go_enter Tryd.func27, Tryd.ntmps27
  go_wp2_with fail
  go_ret
  exact ⟨rfl, rfl⟩

theorem gvalues_stops (F : Fence) (n : Nat) (h7 : F.fn 52) (hro : F.round = none) (hn : 1 ≤ n) (Bs n₀ : Nat) (sv : Value) (zs : List GA) (w : World) (hBs : Bs < w.heap.size) (hn₀ : n₀ ≤ w.heap.size)
    (hc : w.cell? ⟨Bs, 0, none⟩ = some sv) (hI : GARow n₀ w sv zs) :
    SeqStopsK F n Tryd.prog 52 #[.pointer (some ⟨Bs, 0, none⟩)] (fun x : GA => #[.agg #[.string ⟨x.1.1.1.toArray⟩, .string ⟨x.1.1.2.1.toArray⟩, .slice x.1.2.1 x.1.1.2.2.length x.1.2.2]]) (Below n₀) (fun ys => ys = zs) (fun pre => pre <+: zs) zs.length w := fun l J Jx W hW hJ _ hY h0 =>
  gvalues1_in F n h7 hro hn l Bs n₀ sv zs J Jx W hJ (Nat.le_trans hn₀ hW.size) hY ((hW.cell (p := ⟨Bs, 0, none⟩) hBs).trans hc) (hI.below (hW.mono hn₀)) h0
end Go.Proofs.YtoeffplfkdogdaaDoor
