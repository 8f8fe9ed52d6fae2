import Derived.Test.YtbgkocjpenkijaaGreatDoorLMsg
namespace Go.Proofs.YtbgkocjpenkijaaGreatDoor
open Go.RowKit

theorem box2 {w W : World} {a b : Array Value} {t1 t2 : TypeId} (hb : Below ((w.alloc (.cells a t1)).alloc (.cells b t2)).heap.size ((w.alloc (.cells a t1)).alloc (.cells b t2)) W) :
    (∀ j, W.cell? ⟨w.heap.size, j, none⟩ = a[j]?) ∧ (∀ j, W.cell? ⟨w.heap.size + 1, j, none⟩ = b[j]?) ∧ Below w.heap.size w W := by
  have hA : Below (w.alloc (.cells a t1)).heap.size (w.alloc (.cells a t1)) W := ((Below.refl _ _).alloc (Nat.le_refl _) _).trans (hb.mono (by simp))
  have h2 : ((w.alloc (.cells a t1)).alloc (.cells b t2)).heap[w.heap.size + 1]? = some (.cells b t2) := by
    have h := blk_new (w.alloc (.cells a t1)) (.cells b t2)
    simpa using h
  refine ⟨fun j => ?_, fun j => ?_, ((Below.refl w.heap.size w).alloc (Nat.le_refl _) _).trans (hA.mono (by simp))⟩
  · rw [hA.cell (p := ⟨w.heap.size, j, none⟩) (by simp)]
    unfold World.cell?
    rw [blk_new]; rfl
  · rw [hb.cell (p := ⟨w.heap.size + 1, j, none⟩) (by simp)]
    unfold World.cell?
    rw [h2]; rfl

set_option maxRecDepth 20000 in
set_option maxHeartbeats 2000000 in
theorem eqMessage_same (mi : Int) (reply cutm : Bool) (code : Int) (nm : ByteArray) (ty : Int) (va vu va2 vu2 : Value) (A U : List (List UInt8 × Int × Int × List UInt8)) (w : World) (ha : RRow w va A) (hu : RRow w vu U) (ha2 : RRow w va2 A) (hu2 : RRow w vu2 U) :
    Calls Tryz.prog 20 #[MsgV mi reply cutm code nm ty va vu, MsgV mi reply cutm code nm ty va2 vu2] w fun e w' => e = .returned (.bool true) ∧ Below w.heap.size w w' := by
  unfold MsgV
  obtain ⟨aa, ca, rfl, _, hca, _⟩ := id ha
  obtain ⟨au, cu, rfl, _, hcu, _⟩ := id hu
  obtain ⟨aa2, ca2, rfl, _, hca2, _⟩ := id ha2
  obtain ⟨au2, cu2, rfl, _, hcu2, _⟩ := id hu2
  have HRA : Hid (∀ W, Below w.heap.size w W → RRow W (.slice aa A.length ca) A ∧ RRow W (.slice aa2 A.length ca2) A) := fun W hW => ⟨ha.kept hW, ha2.kept hW⟩
  have HRU : Hid (∀ W, Below w.heap.size w W → RRow W (.slice au U.length cu) U ∧ RRow W (.slice au2 U.length cu2) U) := fun W hW => ⟨hu.kept hW, hu2.kept hW⟩
  clear ha hu ha2 hu2
  go_enter Tryz.func20, Tryz.ntmps20
  go_wp2_with fail
  have hA := HRA.out _ (((Below.refl w.heap.size w).alloc (Nat.le_refl _) (.cells #[.int .i64 mi, .bool reply, .bool cutm, .int .i64 code, .string nm, .int .i64 ty, .slice aa A.length ca, .slice au U.length cu] 25)).alloc (by simp) (.cells #[.int .i64 mi, .bool reply, .bool cutm, .int .i64 code, .string nm, .int .i64 ty, .slice aa2 A.length ca2, .slice au2 U.length cu2] 25))
  refine (eqRecordS_same _ _ A _ hA.1 hA.2).mono ?_
  rintro e w1 ⟨rfl, hb1⟩
  obtain ⟨c, d, hbw⟩ := box2 hb1
  have c7 := c 7
  have d7 := d 7
  simp at c7 d7
  clear c d hA
  have hU := HRU.out _ hbw
  go_wp2_with fail
  refine (eqRecordS_same _ _ U _ hU.1 hU.2).mono ?_
  rintro e w2 ⟨rfl, hb2⟩
  go_wp2_with fail
  go_ret
  exact ⟨rfl, hbw.trans (hb2.mono hbw.size)⟩

set_option maxRecDepth 20000 in
set_option maxHeartbeats 2000000 in
theorem heldMessage_any (mi : Int) (reply cutm : Bool) (code : Int) (nm : ByteArray) (ty : Int) (va vu : Value) (n m K : Nat) (w : World) (ha : RRow w va (mrks K n)) (hu : RRow w vu (mrks (K + 4 * n) m)) (hn : n ≤ 1048576) (hm : m ≤ 1048576) (hK0 : 0 < K) (hK : K ≤ 1048576) :
    Calls Tryz.prog 25 #[MsgV mi reply cutm code nm ty va vu, .int .i64 (K : Int)] w fun e w' => e = .returned (.int .i64 ((K : Int) + 4 * (n : Int) + 4 * (m : Int))) ∧ Below w.heap.size w w' := by
  unfold MsgV
  obtain ⟨aa, ca, rfl, _, hca, _⟩ := id ha
  obtain ⟨au, cu, rfl, _, hcu, _⟩ := id hu
  rw [mrks_length] at ha hu ⊢
  rw [mrks_length]
  have HRA : Hid (∀ W, Below w.heap.size w W → RRow W (.slice aa n ca) (mrks K n)) := fun W hW => ha.kept hW
  have HRU : Hid (∀ W, Below w.heap.size w W → RRow W (.slice au m cu) (mrks (K + 4 * n) m)) := fun W hW => hu.kept hW
  clear ha hu
  go_enter Tryz.func25, Tryz.ntmps25
  go_wp2_with fail
  refine (heldRecordS_any _ n K _ (HRA.out _ ((Below.refl w.heap.size w).alloc (Nat.le_refl _) _)) hn hK0 (by omega)).mono ?_
  rintro e w1 ⟨rfl, hb1⟩
  obtain ⟨⟨_, _, _, _, _, _, _, c7⟩, hbw⟩ := box8 hb1
  obtain ⟨K2, hK2⟩ : ∃ K2 : Nat, K2 = K + 4 * n := ⟨_, rfl⟩
  have hE : (K : Int) + 4 * (n : Int) = (K2 : Int) := by omega
  have HC : Hid (Calls Tryz.prog 63 #[.slice au m cu, .int .i64 (K2 : Int)] w1 fun e w' => e = .returned (.int .i64 ((K2 : Int) + 4 * (m : Int))) ∧ Below w1.heap.size w1 w') := heldRecordS_any (.slice au m cu) m K2 w1 (by rw [hK2]; exact HRU.out _ hbw) hm (by omega) (by omega)
  have hlt : (K2 : Int) ≤ 8388608 := by omega
  rw [hE]
  have HE : Hid ((K : Int) + 4 * (n : Int) = (K2 : Int)) := hE
  clear hE hK2
  go_wp2_with fail
  refine HC.out.mono ?_
  rintro e w2 ⟨rfl, hb2⟩
  go_wp2_with fail
  go_ret
  exact ⟨ret_intI (by have h := HE.out; omega), hbw.trans (hb2.mono hbw.size)⟩
end Go.Proofs.YtbgkocjpenkijaaGreatDoor
