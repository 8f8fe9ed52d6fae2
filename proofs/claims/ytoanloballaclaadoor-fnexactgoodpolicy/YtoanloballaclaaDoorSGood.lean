import Derived.Test.YtoanloballaclaaDoorSDataM
namespace Go.Proofs.YtoanloballaclaaDoor
open Go.RowKit

/-- A record's value. -/
def RecV (nm : ByteArray) (ty ttl : Int) (d : ByteArray) : Value := .agg #[.string nm, .int .i64 ty, .int .i64 ttl, .string d]
/-- A good record. -/
def recB (nm : List UInt8) (ty ttl : Int) (d : List UInt8) : Bool := (dataP ty d).isSome && (nameB nm && (decide (0 ≤ ttl) && decide (ttl ≤ 100000)))

theorem box4 {w W : World} {a b c d : Value} {t : TypeId} (hb : Below (w.alloc (.cells #[a, b, c, d] t)).heap.size (w.alloc (.cells #[a, b, c, d] t)) W) :
    W.cell? ⟨w.heap.size, 0, none⟩ = some a ∧ W.cell? ⟨w.heap.size, 1, none⟩ = some b ∧ W.cell? ⟨w.heap.size, 2, none⟩ = some c ∧ W.cell? ⟨w.heap.size, 3, none⟩ = some d ∧ Below w.heap.size w W := by
  have hz : w.heap.size < (w.alloc (.cells #[a, b, c, d] t)).heap.size := by simp
  refine ⟨?_, ?_, ?_, ?_, ((Below.refl w.heap.size w).alloc (Nat.le_refl _) _).trans (hb.mono (Nat.le_of_lt hz))⟩
  · rw [hb.cell (p := ⟨w.heap.size, 0, none⟩) hz]; simp
  · rw [hb.cell (p := ⟨w.heap.size, 1, none⟩) hz]; simp
  · rw [hb.cell (p := ⟨w.heap.size, 2, none⟩) hz]; simp
  · rw [hb.cell (p := ⟨w.heap.size, 3, none⟩) hz]; simp


/-- A record's text. -/
def recT (nm : List UInt8) (ty ttl : Nat) (d : List UInt8) : List UInt8 := (if nm = [] then [46] else nm) ++ (32 :: (numL ttl ++ (32 :: (numL ty ++ (32 :: d)))))
end Go.Proofs.YtoanloballaclaaDoor
