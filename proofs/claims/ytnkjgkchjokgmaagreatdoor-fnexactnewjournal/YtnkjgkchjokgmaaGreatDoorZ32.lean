import Derived.Test.YtnkjgkchjokgmaaGreatDoorZ29
import Derived.Test.YtnkjgkchjokgmaaGreatDoorZ11
import Derived.Test.YtnkjgkchjokgmaaGreatDoorZ31
import Derived.Test.YtnkjgkchjokgmaaGreatDoorZ08
namespace Go.Proofs.YtnkjgkchjokgmaaGreatDoor
open Go.RowKit

/-- A counter's serial, as a text. -/
def serT (ct : Int) : List UInt8 := numL (ct % 4294967296).toNat

set_option maxRecDepth 20000 in
set_option maxHeartbeats 400000 in
theorem serialText_any (ct : Int) (w : World) (hc : inB ct 0 1152921504606846976 = true) (hE : EnvT w) :
    Calls Tryz.prog 72 #[.int .i64 ct] w fun e w' => e = .returned (.string ⟨(serT ct).toArray⟩) ∧ Below w.heap.size w w' := by
  have HC : Hid (∀ W, EnvT W → Calls Tryz.prog 98 #[.int .i64 (ct % 4294967296)] W fun e w' => e = .returned (.string ⟨(serT ct).toArray⟩) ∧ Below W.heap.size W w') := fun W hW => by
    have h := itoaT_nat (ct % 4294967296).toNat W (by omega) hW
    rw [show (((ct % 4294967296).toNat : Nat) : Int) = ct % 4294967296 by omega] at h
    exact h
  go_enter Tryz.func72, Tryz.ntmps72
  go_wp2_with fail
  refine (iSerialOf_any ct w).mono ?_
  rintro e w1 ⟨rfl, rfl⟩
  unfold ofV
  rw [if_pos hc]
  go_wp2_with fail
  refine (HC.out _ hE).mono ?_
  rintro e w2 ⟨rfl, hb⟩
  go_wp2_with fail
  go_ret
  exact ⟨rfl, hb⟩

end Go.Proofs.YtnkjgkchjokgmaaGreatDoor

namespace Go.Proofs.YtnkjgkchjokgmaaGreatDoor
open Go.RowKit

/-- A record, with the serial of a counter where it is of type 6. -/
def soaD (ct : Int) (x : (List UInt8 × Int × Int × List UInt8)) : (List UInt8 × Int × Int × List UInt8) := if x.2.1 = 6 then (x.1, x.2.1, x.2.2.1, serT ct) else x

/-- The first ones with their serial, the others as they were. -/
def soaM (ct : Int) (L : List (List UInt8 × Int × Int × List UInt8)) (k : Nat) : List (List UInt8 × Int × Int × List UInt8) := (L.take k).map (soaD ct) ++ L.drop k
theorem soaM_length (ct : Int) (L : List (List UInt8 × Int × Int × List UInt8)) (k : Nat) : (soaM ct L k).length = L.length := by
  unfold soaM; simp; omega
theorem soaM_zero (ct : Int) (L : List (List UInt8 × Int × Int × List UInt8)) : soaM ct L 0 = L := by unfold soaM; simp
theorem soaM_end (ct : Int) (L : List (List UInt8 × Int × Int × List UInt8)) {k : Nat} (h : L.length ≤ k) : soaM ct L k = L.map (soaD ct) := by
  unfold soaM; rw [List.take_of_length_le h, List.drop_eq_nil_of_le h, List.append_nil]
theorem soaM_get (ct : Int) (L : List (List UInt8 × Int × Int × List UInt8)) {k : Nat} (h : k < L.length) : (soaM ct L k)[k]'(by rw [soaM_length]; exact h) = L[k] := by
  unfold soaM
  rw [List.getElem_append_right (by simp; omega)]
  simp [Nat.min_eq_left (Nat.le_of_lt h)]
theorem soaM_next (ct : Int) (L : List (List UInt8 × Int × Int × List UInt8)) {k : Nat} (h : k < L.length) : soaM ct L (k + 1) = (soaM ct L k).set k (soaD ct L[k]) := by
  unfold soaM
  rw [List.take_succ_eq_append_getElem h, List.map_append, List.set_append_right _ _ (by simp [Nat.min_eq_left (Nat.le_of_lt h)])]
  have e : L.drop k = L[k] :: L.drop (k + 1) := List.drop_eq_getElem_cons h
  simp [Nat.min_eq_left (Nat.le_of_lt h)]
  rw [e]; rfl
theorem soaM_same (ct : Int) (L : List (List UInt8 × Int × Int × List UInt8)) {k : Nat} (h : k < L.length) (h6 : ¬ L[k].2.1 = 6) : soaM ct L (k + 1) = soaM ct L k := by
  rw [soaM_next ct L h]
  have e : soaD ct L[k] = (soaM ct L k)[k]'(by rw [soaM_length]; exact h) := by rw [soaM_get ct L h]; exact if_neg h6
  rw [e, List.set_getElem_self]
theorem soaM_put (ct : Int) (L : List (List UInt8 × Int × Int × List UInt8)) {k : Nat} (h : k < L.length) (h6 : L[k].2.1 = 6) : soaM ct L (k + 1) = (soaM ct L k).set k (L[k].1, L[k].2.1, L[k].2.2.1, serT ct) := by
  rw [soaM_next ct L h]; exact congrArg _ (if_pos h6)

end Go.Proofs.YtnkjgkchjokgmaaGreatDoor

namespace Go.Proofs.YtnkjgkchjokgmaaGreatDoor
open Go.RowKit

/-- What NewZone tells. -/
def newN (s : ByteArray) : ByteArray := if apexB s.data.toList = true then s else ⟨#[]⟩
def newR (s : ByteArray) : List (List UInt8 × Int × Int × List UInt8) := if apexB s.data.toList = true then [(s.data.toList, 6, 60, [48])] else []
theorem box3z {w W : World} {o : Obj} (hb : Below (w.alloc o).heap.size (w.alloc o) W) : W.heap[w.heap.size]? = some o ∧ Below w.heap.size w W ∧ w.heap.size < W.heap.size :=
  ⟨(hb.block w.heap.size (by simp)).trans (blk_new _ _), ((Below.refl w.heap.size w).alloc (Nat.le_refl _) _).trans (hb.mono (by simp)), Nat.lt_of_lt_of_le (by simp) hb.size⟩


end Go.Proofs.YtnkjgkchjokgmaaGreatDoor

namespace Go.Proofs.YtnkjgkchjokgmaaGreatDoor
open Go.RowKit

/-- A journal without diffs. -/
def JouV (ap : ByteArray) (fi : Int) : Value := .agg #[.string ap, .int .i64 fi, .slice none 0 0]

set_option maxRecDepth 20000 in
set_option maxHeartbeats 400000 in
theorem eqDiffS_nil (w : World) : Calls Tryz.prog 40 #[.slice none 0 0, .slice none 0 0] w fun e w' => e = .returned (.bool true) ∧ w' = w := by
  go_enter Tryz.func40, Tryz.ntmps40
  go_wp2_with fail
  go_loopw [5] (fun i wr => i = .int .i64 0 ∧ wr = w) (fun _ _ => 0)
  case atStart => exact ⟨rfl, rfl⟩
  case round =>
    obtain ⟨rfl, rfl⟩ := hrel
    go_wp2_with fail
    go_ret
    exact ⟨rfl, rfl⟩
set_option maxRecDepth 20000 in
set_option maxHeartbeats 400000 in
theorem markDiffS_nil (k : Int) (w : World) : Calls Tryz.prog 41 #[.slice none 0 0, .int .i64 k] w fun e w' => e = .returned (.int .i64 k) ∧ w' = w := by
  go_enter Tryz.func41, Tryz.ntmps41
  go_wp2_with fail
  go_loopw [1, 5] (fun kk i wr => (kk = .int .i64 k ∧ i = .int .i64 0) ∧ wr = w) (fun _ _ _ => 0)
  case atStart => exact ⟨⟨rfl, rfl⟩, rfl⟩
  case round =>
    obtain ⟨⟨rfl, rfl⟩, rfl⟩ := hrel
    go_wp2_with fail
    go_ret
    exact ⟨rfl, rfl⟩
set_option maxRecDepth 20000 in
set_option maxHeartbeats 400000 in
theorem heldDiffS_nil (k : Int) (w : World) : Calls Tryz.prog 42 #[.slice none 0 0, .int .i64 k] w fun e w' => e = .returned (.int .i64 k) ∧ w' = w := by
  go_enter Tryz.func42, Tryz.ntmps42
  go_wp2_with fail
  go_loopw [1, 5] (fun kk i wr => (kk = .int .i64 k ∧ i = .int .i64 0) ∧ wr = w) (fun _ _ _ => 0)
  case atStart => exact ⟨⟨rfl, rfl⟩, rfl⟩
  case round =>
    obtain ⟨⟨rfl, rfl⟩, rfl⟩ := hrel
    go_wp2_with fail
    go_ret
    exact ⟨rfl, rfl⟩

set_option maxRecDepth 20000 in
set_option maxHeartbeats 400000 in
theorem eqJournal_nil (ap : ByteArray) (fi : Int) (w : World) : Calls Tryz.prog 19 #[JouV ap fi, JouV ap fi] w fun e w' => e = .returned (.bool true) ∧ Below w.heap.size w w' := by
  unfold JouV
  have e2 : (fi != fi) = false := by simp
  go_enter Tryz.func19, Tryz.ntmps19
  go_wp2_with fail
  refine (eqDiffS_nil _).mono ?_
  rintro e w1 ⟨rfl, rfl⟩
  go_wp2_with fail
  go_ret
  exact ⟨rfl, ((Below.refl w.heap.size w).alloc (Nat.le_refl _) _).alloc (by simp) _⟩
set_option maxRecDepth 20000 in
set_option maxHeartbeats 400000 in
theorem markJournal_nil (ap : ByteArray) (fi k : Int) (w : World) : Calls Tryz.prog 22 #[JouV ap fi, .int .i64 k] w fun e w' => e = .returned (.int .i64 k) ∧ Below w.heap.size w w' := by
  unfold JouV
  go_enter Tryz.func22, Tryz.ntmps22
  go_wp2_with fail
  refine (markDiffS_nil k _).mono ?_
  rintro e w1 ⟨rfl, rfl⟩
  go_wp2_with fail
  go_ret
  exact ⟨rfl, (Below.refl w.heap.size w).alloc (Nat.le_refl _) _⟩
set_option maxRecDepth 20000 in
set_option maxHeartbeats 400000 in
theorem heldJournal_nil (ap : ByteArray) (fi k : Int) (w : World) (hk : 0 ≤ k) : Calls Tryz.prog 23 #[JouV ap fi, .int .i64 k] w fun e w' => e = .returned (.int .i64 k) ∧ Below w.heap.size w w' := by
  unfold JouV
  have h0 : decide (k < 0) = false := by simp; omega
  go_enter Tryz.func23, Tryz.ntmps23
  go_wp2_with fail
  refine (heldDiffS_nil k _).mono ?_
  rintro e w1 ⟨rfl, rfl⟩
  go_wp2_with fail
  go_ret
  exact ⟨rfl, (Below.refl w.heap.size w).alloc (Nat.le_refl _) _⟩
end Go.Proofs.YtnkjgkchjokgmaaGreatDoor
