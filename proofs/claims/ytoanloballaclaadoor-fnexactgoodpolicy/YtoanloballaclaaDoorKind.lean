import Derived.Test.YtoanloballaclaaDoorProg
import Derived.WalkKit
import Derived.WalkSpells
import Derived.WalkLawsBesides
import Derived.Handy
namespace Go.Proofs.YtoanloballaclaaDoor
open Go.RowKit

theorem ret_int {k : IntKind} {a b : Int} (h : a = b) : Ending.returned (.int k a) = .returned (.int k b) := by rw [h]

/-- What kindOfByte tells. -/
def kindOf (c : Int) : Int := if c = 45 then 1 else if 48 ≤ c ∧ c ≤ 57 then 1 else if 65 ≤ c ∧ c ≤ 90 then 2 else if c = 95 then 1 else if 97 ≤ c ∧ c ≤ 122 then 1 else 0

/-- The table's cells. -/
def tab : List Value := [.int .u8 45, .int .u8 45, .int .i64 1, .int .u8 48, .int .u8 57, .int .i64 1, .int .u8 65, .int .u8 90, .int .i64 2, .int .u8 95, .int .u8 95, .int .i64 1, .int .u8 97, .int .u8 122, .int .i64 1]
def TabIn (w : World) : Prop := ∀ i, i < 15 → w.cell? ⟨0, i, none⟩ = tab[i]?

theorem ix0 (w : World) : Sem.run Tryd.prog (Instr.index 94 (.agg #[.int .u8 45, .int .u8 45, .int .i64 1, .int .u8 48, .int .u8 57, .int .i64 1, .int .u8 65, .int .u8 90, .int .i64 2, .int .u8 95, .int .u8 95, .int .i64 1, .int .u8 97, .int .u8 122, .int .i64 1]) (.int .i64 0)) w = .ok (.agg #[.int .u8 45, .int .u8 45, .int .i64 1]) w := by kernel_rfl
theorem ix1 (w : World) : Sem.run Tryd.prog (Instr.index 94 (.agg #[.int .u8 45, .int .u8 45, .int .i64 1, .int .u8 48, .int .u8 57, .int .i64 1, .int .u8 65, .int .u8 90, .int .i64 2, .int .u8 95, .int .u8 95, .int .i64 1, .int .u8 97, .int .u8 122, .int .i64 1]) (.int .i64 1)) w = .ok (.agg #[.int .u8 48, .int .u8 57, .int .i64 1]) w := by kernel_rfl
theorem ix2 (w : World) : Sem.run Tryd.prog (Instr.index 94 (.agg #[.int .u8 45, .int .u8 45, .int .i64 1, .int .u8 48, .int .u8 57, .int .i64 1, .int .u8 65, .int .u8 90, .int .i64 2, .int .u8 95, .int .u8 95, .int .i64 1, .int .u8 97, .int .u8 122, .int .i64 1]) (.int .i64 2)) w = .ok (.agg #[.int .u8 65, .int .u8 90, .int .i64 2]) w := by kernel_rfl
theorem ix3 (w : World) : Sem.run Tryd.prog (Instr.index 94 (.agg #[.int .u8 45, .int .u8 45, .int .i64 1, .int .u8 48, .int .u8 57, .int .i64 1, .int .u8 65, .int .u8 90, .int .i64 2, .int .u8 95, .int .u8 95, .int .i64 1, .int .u8 97, .int .u8 122, .int .i64 1]) (.int .i64 3)) w = .ok (.agg #[.int .u8 95, .int .u8 95, .int .i64 1]) w := by kernel_rfl
theorem ix4 (w : World) : Sem.run Tryd.prog (Instr.index 94 (.agg #[.int .u8 45, .int .u8 45, .int .i64 1, .int .u8 48, .int .u8 57, .int .i64 1, .int .u8 65, .int .u8 90, .int .i64 2, .int .u8 95, .int .u8 95, .int .i64 1, .int .u8 97, .int .u8 122, .int .i64 1]) (.int .i64 4)) w = .ok (.agg #[.int .u8 97, .int .u8 122, .int .i64 1]) w := by kernel_rfl
set_option maxRecDepth 20000 in
set_option maxHeartbeats 400000 in
theorem kind_any (c : Int) (w : World) (h0 : 0 ≤ c) (h1 : c ≤ 255) (hT : TabIn w) :
    Calls Tryd.prog 47 #[.int .u8 c] w fun e w' => e = .returned (.int .i64 (kindOf c)) ∧ Below w.heap.size w w' := by
  have t0 : w.cell? ⟨0, 0, none⟩ = some (.int .u8 45) := hT 0 (by decide)
  have t1 : w.cell? ⟨0, 1, none⟩ = some (.int .u8 45) := hT 1 (by decide)
  have t2 : w.cell? ⟨0, 2, none⟩ = some (.int .i64 1) := hT 2 (by decide)
  have t3 : w.cell? ⟨0, 3, none⟩ = some (.int .u8 48) := hT 3 (by decide)
  have t4 : w.cell? ⟨0, 4, none⟩ = some (.int .u8 57) := hT 4 (by decide)
  have t5 : w.cell? ⟨0, 5, none⟩ = some (.int .i64 1) := hT 5 (by decide)
  have t6 : w.cell? ⟨0, 6, none⟩ = some (.int .u8 65) := hT 6 (by decide)
  have t7 : w.cell? ⟨0, 7, none⟩ = some (.int .u8 90) := hT 7 (by decide)
  have t8 : w.cell? ⟨0, 8, none⟩ = some (.int .i64 2) := hT 8 (by decide)
  have t9 : w.cell? ⟨0, 9, none⟩ = some (.int .u8 95) := hT 9 (by decide)
  have t10 : w.cell? ⟨0, 10, none⟩ = some (.int .u8 95) := hT 10 (by decide)
  have t11 : w.cell? ⟨0, 11, none⟩ = some (.int .i64 1) := hT 11 (by decide)
  have t12 : w.cell? ⟨0, 12, none⟩ = some (.int .u8 97) := hT 12 (by decide)
  have t13 : w.cell? ⟨0, 13, none⟩ = some (.int .u8 122) := hT 13 (by decide)
  have t14 : w.cell? ⟨0, 14, none⟩ = some (.int .i64 1) := hT 14 (by decide)
  clear hT
  have x0 := ix0
  have x1 := ix1
  have x2 := ix2
  have x3 := ix3
  have x4 := ix4
  go_enter Tryd.func47, Tryd.ntmps47
  go_wp2
  go_rounds 6
  all_goals go_ret
  all_goals refine ⟨ret_int ?_, by go_grown⟩
  all_goals clear x0 x1 x2 x3 x4 t0 t1 t2 t3 t4 t5 t6 t7 t8 t9 t10 t11 t12 t13 t14
  all_goals (unfold kindOf; (repeat' split) <;> omega)
end Go.Proofs.YtoanloballaclaaDoor
