import Derived.Test.YtcjffofoheloeaaDoorSDataM
namespace Go.Proofs.YtcjffofoheloeaaDoor
open Go.RowKit

/-- A record's value. -/
def RecV (nm : ByteArray) (ty ttl : Int) (d : ByteArray) : Value := .agg #[.string nm, .int .i64 ty, .int .i64 ttl, .string d]
/-- A good record. -/
def recB (nm : List UInt8) (ty ttl : Int) (d : List UInt8) : Bool := (dataP ty d).isSome && (nameB nm && (decide (0 ≤ ttl) && decide (ttl ≤ 100000)))

theorem box4 {w W : World} {a b c d : Value} {t : TypeId} (hb : Below (w.alloc (.cells #[a, b, c, d] t)).heap.size (w.alloc (.cells #[a, b, c, d] t)) W) :
    W.cell? ⟨w.heap.size, 0, none⟩ = some a ∧ W.cell? ⟨w.heap.size, 1, none⟩ = some b ∧ W.cell? ⟨w.heap.size, 2, none⟩ = some c ∧ W.cell? ⟨w.heap.size, 3, none⟩ = some d ∧ Below w.heap.size w W := by
  have hz : w.heap.size < (w.alloc (.cells #[a, b, c, d] t)).heap.size := by simp
  refine ⟨?_, ?_, ?_, ?_, ((Below.refl w.heap.size w).alloc (Nat.le_refl _) _).trans (hb.mono (Nat.le_of_lt hz))⟩
  · rw [hb.cell (p := ⟨w.heap.size, 0, none⟩) hz]; simp
  · rw [hb.cell (p := ⟨w.heap.size, 1, none⟩) hz]; simp
  · rw [hb.cell (p := ⟨w.heap.size, 2, none⟩) hz]; simp
  · rw [hb.cell (p := ⟨w.heap.size, 3, none⟩) hz]; simp

set_option maxRecDepth 20000 in
set_option maxHeartbeats 1000000 in
theorem sGoodRecord_any (nm d : ByteArray) (ty ttl : Int) (w : World) (hn : nm.size ≤ 1048576) (hd : d.size ≤ 1048576) :
    Calls Tryd.prog 9 #[RecV nm ty ttl d] w fun e w' => e = .returned (.bool (recB nm.data.toList ty ttl d.data.toList)) ∧ Below w.heap.size w w' := by
  unfold RecV
  go_enter Tryd.func9, Tryd.ntmps9
  go_wp2_with fail
  refine (l3Bytes_any ty d _ hd).mono ?_
  rintro e w1 ⟨⟨x, rfl, _⟩, hb1⟩
  obtain ⟨c0, _, c2, _, hbw⟩ := box4 hb1
  have HB0 : Hid (∀ W, Below w1.heap.size w1 W → W.cell? ⟨w.heap.size, 2, none⟩ = some (.int .i64 ttl) ∧ Below w.heap.size w W) := fun W hW => by
    have hz : w.heap.size < w1.heap.size := Nat.lt_of_lt_of_le (by simp) hb1.size
    rw [hW.cell (p := ⟨w.heap.size, 2, none⟩) hz]
    exact ⟨c2, hbw.trans (hW.mono hbw.size)⟩
  clear hb1
  cases hD : (dataP ty d.data.toList).isSome with
  | false =>
    have HR : Hid (recB nm.data.toList ty ttl d.data.toList = false) := by unfold recB; rw [hD]; exact rfl
    clear hD
    go_wp2_with fail
    go_ret
    exact ⟨ret_bool HR.out.symm, hbw⟩
  | true =>
    have HD : Hid ((dataP ty d.data.toList).isSome = true) := hD
    clear hD
    cases hN : nameB nm.data.toList with
    | false =>
      have HR : Hid (recB nm.data.toList ty ttl d.data.toList = false) := by unfold recB; rw [hN, Bool.false_and, Bool.and_false]; exact rfl
      have HN : Hid (nameB nm.data.toList = false) := hN
      clear hN
      go_wp2_with fail
      refine (sGoodName_any nm _ (by omega)).mono ?_
      rintro e w2 ⟨rfl, hb2⟩
      rw [HN.out]
      go_wp2_with fail
      go_ret
      exact ⟨ret_bool HR.out.symm, (HB0.out w2 hb2).2⟩
    | true =>
      have HR : Hid (recB nm.data.toList ty ttl d.data.toList = (decide ((0 : Int) ≤ ttl) && decide (ttl ≤ 100000))) := by unfold recB; rw [hN, HD.out, Bool.true_and, Bool.true_and]; exact rfl
      have HN : Hid (nameB nm.data.toList = true) := hN
      clear hN
      go_wp2_with fail
      refine (sGoodName_any nm _ (by omega)).mono ?_
      rintro e w2 ⟨rfl, hb2⟩
      rw [HN.out]
      have hc2 := (HB0.out w2 hb2).1
      have hbw2 := (HB0.out w2 hb2).2
      clear c0 c2
      go_wp2_with fail
      refine (l1In_any _ _ _ _).mono ?_
      rintro e w3 ⟨rfl, rfl⟩
      rw [← HR.out]
      go_wp2_with fail
      go_ret
      exact ⟨rfl, hbw2⟩

/-- A record's text. -/
def recT (nm : List UInt8) (ty ttl : Nat) (d : List UInt8) : List UInt8 := (if nm = [] then [46] else nm) ++ (32 :: (numL ttl ++ (32 :: (numL ty ++ (32 :: d)))))
end Go.Proofs.YtcjffofoheloeaaDoor
