import Derived.Test.YtoobaaklklommaaGreatDoorZ10
import Derived.Test.YtoobaaklklommaaGreatDoorZ15
import Derived.Test.YtoobaaklklommaaGreatDoorZ13
namespace Go.Proofs.YtoobaaklklommaaGreatDoor
open Go.RowKit

def lessI (b : Bool) : Int := if b = true then -1 else 1
set_option maxRecDepth 20000 in
set_option maxHeartbeats 400000 in
theorem l3Less_any (b : Bool) (w : World) :
    Calls Tryz.prog 185 #[.bool b] w fun e w' => e = .returned (.int .i64 (lessI b)) ∧ w' = w := by
  cases b
  all_goals
    go_enter Tryz.func185, Tryz.ntmps185
    go_wp2_with fail
    go_ret
    exact ⟨rfl, rfl⟩

/-- The order of good records. -/
def cmpRec (n1 : List UInt8) (t1 l1 : Int) (d1 : List UInt8) (n2 : List UInt8) (t2 l2 : Int) (d2 : List UInt8) : Int :=
  if cmpR (labelsOf n1).reverse (labelsOf n2).reverse ≠ 0 then cmpR (labelsOf n1).reverse (labelsOf n2).reverse
  else if t1 ≠ t2 then lessI (decide (t1 < t2))
  else if (dataP t1 d1).getD [] ≠ (dataP t2 d2).getD [] then lessI (Op.bytesLess ((dataP t1 d1).getD []) ((dataP t2 d2).getD []))
  else if l1 ≠ l2 then lessI (decide (l1 < l2)) else 0
theorem recB_name {nm d : List UInt8} {ty ttl : Int} (h : recB nm ty ttl d = true) : nameB nm = true ∧ (dataP ty d).isSome = true := by
  unfold recB at h; simp only [Bool.and_eq_true] at h; exact ⟨h.2.1, h.1⟩
theorem some_of {D : Option (List UInt8)} (h : D.isSome = true) : D = some (D.getD []) := by
  cases D with
  | none => cases h
  | some y => rfl

end Go.Proofs.YtoobaaklklommaaGreatDoor

namespace Go.Proofs.YtoobaaklklommaaGreatDoor
open Go.RowKit

def orI (x y : Int) : Int := if x ≠ 0 then x else y
set_option maxRecDepth 20000 in
set_option maxHeartbeats 1000000 in
theorem or_two (x y : Int) (w : World) (g : Nat) (h0 : w.cell? ⟨g, 0, none⟩ = some (.int .i64 x)) (h1 : w.cell? ⟨g, 1, none⟩ = some (.int .i64 y)) :
    Calls Tryz.prog 218 #[.slice (some ⟨g, 0, none⟩) 2 2] w fun e w' => e = .returned (.int .i64 (orI x y)) ∧ w' = w := by
  by_cases hx : x = 0
  · have HR : Hid (orI x y = y) := if_neg (by rw [hx]; simp)
    subst hx
    go_enter Tryz.func218, Tryz.ntmps218
    go_wp2_with fail
    go_loop [8] (fun i => ∃ k : Nat, k ≤ 2 ∧ i = .int .i64 (k : Int) ∧ Hid (k = 2 → y = 0)) (fun i => 2 - (intOf i).toNat)
    case atStart => exact ⟨0, by omega, rfl, fun h => by omega⟩
    case round =>
      obtain ⟨k, hk, rfl, HK⟩ := hrel
      rcases (show k = 0 ∨ k = 1 ∨ k = 2 by omega) with rfl | rfl | rfl
      · go_wp2_with fail
        go_round
        case rel => exact ⟨1, by omega, rfl, fun h => by omega⟩
        case measure => simp [intOf]
      · by_cases hy : y = 0
        · have HY : Hid (y = 0) := hy
          have ey : (y != 0) = false := by simpa using hy
          clear hy
          go_wp2_with fail
          go_round
          case rel => exact ⟨2, by omega, rfl, fun _ => HY.out⟩
          case measure => simp [intOf]
        · have ey : (y != 0) = true := by simpa using hy
          have ey2 : (y == 0) = false := by simpa using hy
          clear hy
          go_wp2_with fail
          go_ret
          exact ⟨ret_int HR.out.symm, rfl⟩
      · have HY : Hid (y = 0) := HK.out rfl
        go_wp2_with fail
        go_ret
        exact ⟨ret_int (by rw [HR.out, HY.out]), rfl⟩
  · have HR : Hid (orI x y = x) := if_pos hx
    have ex : (x != 0) = true := by simpa using hx
    have ex2 : (x == 0) = false := by simpa using hx
    clear hx
    go_enter Tryz.func218, Tryz.ntmps218
    go_wp2_with fail
    go_loop [8] (fun i => i = .int .i64 0) (fun _ => 0)
    case atStart => rfl
    case round =>
      obtain rfl := hrel
      go_wp2_with fail
      go_ret
      exact ⟨ret_int HR.out.symm, rfl⟩

set_option maxRecDepth 20000 in
set_option maxHeartbeats 400000 in
theorem orderOfNames_any (a b : ByteArray) (w : World) (hE : Env w) :
    Calls Tryz.prog 219 #[.string a, .string b] w fun e w' => e = .returned (.int .i64 (cmpT a.data.toList b.data.toList)) ∧ Below w.heap.size w w' := by
  go_enter Tryz.func219, Tryz.ntmps219
  go_wp2_with fail
  refine (iCompareNames_any a b w hE).mono ?_
  rintro e w1 ⟨rfl, hb⟩
  go_wp2_with fail
  go_ret
  exact ⟨rfl, hb⟩
set_option maxRecDepth 20000 in
set_option maxHeartbeats 400000 in
theorem orderOfData_any (k : Int) (a b : ByteArray) (w : World) (ha : a.size ≤ 1048576) (hb : b.size ≤ 1048576) (hE : EnvR w) :
    Calls Tryz.prog 220 #[.int .i64 k, .string a, .string b] w fun e w' => e = .returned (.int .i64 (Lib.compareBytes ((dataP k a.data.toList).getD []) ((dataP k b.data.toList).getD []))) ∧ Below w.heap.size w w' := by
  have HA : Hid (∀ W, EnvR W → Calls Tryz.prog 246 #[.int .i64 k, .string a] W fun e w' => e = bytesVal (dataP k a.data.toList) ∧ Below W.heap.size W w') := fun W hW => iDataBytes_any k a W ha hW
  have HB : Hid (∀ W, EnvR W → Calls Tryz.prog 246 #[.int .i64 k, .string b] W fun e w' => e = bytesVal (dataP k b.data.toList) ∧ Below W.heap.size W w') := fun W hW => iDataBytes_any k b W hb hW
  unfold bytesVal at HA HB
  obtain ⟨x, hx⟩ : ∃ x, x = (dataP k a.data.toList).getD [] := ⟨_, rfl⟩
  obtain ⟨y, hy⟩ : ∃ y, y = (dataP k b.data.toList).getD [] := ⟨_, rfl⟩
  rw [← hx] at HA
  rw [← hy] at HB
  rw [← hx, ← hy]
  clear hx hy
  go_enter Tryz.func220, Tryz.ntmps220
  go_wp2_with fail
  refine (HA.out w hE).mono ?_
  rintro e w1 ⟨rfl, hb1⟩
  go_wp2_with fail
  refine (HB.out w1 (hE.below hb1)).mono ?_
  rintro e w2 ⟨rfl, hb2⟩
  go_wp2_with fail
  refine (Tryz.strings_Compare _ _ _).mono ?_
  rintro e w3 ⟨rfl, rfl⟩
  rw [show (⟨x.toArray⟩ : ByteArray).data.toList = x from rfl, show (⟨y.toArray⟩ : ByteArray).data.toList = y from rfl]
  go_wp2_with fail
  go_ret
  exact ⟨rfl, hb1.trans (hb2.mono hb1.size)⟩
end Go.Proofs.YtoobaaklklommaaGreatDoor
