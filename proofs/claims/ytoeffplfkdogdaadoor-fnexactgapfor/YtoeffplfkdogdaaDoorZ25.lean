import Derived.Test.YtoeffplfkdogdaaDoorZ13
import Derived.Test.YtoeffplfkdogdaaDoorZ21
import Derived.Test.YtoeffplfkdogdaaDoorZ23
import Derived.Test.YtoeffplfkdogdaaDoorZ24
namespace Go.Proofs.YtoeffplfkdogdaaDoor
open Go.RowKit

/-- Whether a name lies in a gap. -/
def covB (o n x : List UInt8) : Bool := decide (cmpN o x < 0) && (decide (cmpN n o ≤ 0) || decide (cmpN x n < 0))
def gapN (o n x : List UInt8) : Bool := nameB o && nameB n && nameB x
def covT (o n x : List UInt8) : Bool := gapN o n x && covB o n x

theorem gap_facts {w W : World} {o n : ByteArray} {v : Value} {t : TypeId} (hb : Below (w.alloc (.cells #[.string o, .string n, v] t)).heap.size (w.alloc (.cells #[.string o, .string n, v] t)) W) :
    W.cell? ⟨w.heap.size, 0, none⟩ = some (.string o) ∧ W.cell? ⟨w.heap.size, 1, none⟩ = some (.string n) ∧ W.cell? ⟨w.heap.size, 2, none⟩ = some v ∧ Below w.heap.size w W :=
  ⟨(gap_cells (gap_below hb).1).1.1, (gap_cells (gap_below hb).1).1.2.1, (gap_cells (gap_below hb).1).1.2.2, (gap_below hb).2⟩

set_option maxRecDepth 20000 in
set_option maxHeartbeats 2000000 in
theorem l8Covers_any (o n x : ByteArray) (v : Value) (w : World) (ho : o.size ≤ 4294967280) (hn : n.size ≤ 4294967280) (hx : x.size ≤ 4294967280) (hN : Hid (nameB o.data.toList = true ∧ nameB n.data.toList = true ∧ nameB x.data.toList = true)) :
    Calls Tryd.prog 35 #[GapV o n v, .string x] w fun e w' => e = .returned (.bool (covB o.data.toList n.data.toList x.data.toList)) ∧ Below w.heap.size w w' := by
  unfold GapV
  have H1 : Hid (∀ W, Calls Tryd.prog 43 #[.string o, .string x] W fun e w' => e = .returned (.int .i64 (cmpN o.data.toList x.data.toList)) ∧ Below W.heap.size W w') := fun W => l1Compare_any o x W ho hx ⟨hN.out.1, hN.out.2.2⟩
  have H2 : Hid (∀ W, Calls Tryd.prog 43 #[.string n, .string o] W fun e w' => e = .returned (.int .i64 (cmpN n.data.toList o.data.toList)) ∧ Below W.heap.size W w') := fun W => l1Compare_any n o W hn ho ⟨hN.out.2.1, hN.out.1⟩
  have H3 : Hid (∀ W, Calls Tryd.prog 43 #[.string x, .string n] W fun e w' => e = .returned (.int .i64 (cmpN x.data.toList n.data.toList)) ∧ Below W.heap.size W w') := fun W => l1Compare_any x n W hx hn ⟨hN.out.2.2, hN.out.2.1⟩
  have HR : Hid (covB o.data.toList n.data.toList x.data.toList = (decide (cmpN o.data.toList x.data.toList < 0) && (decide (cmpN n.data.toList o.data.toList ≤ 0) || decide (cmpN x.data.toList n.data.toList < 0)))) := rfl
  obtain ⟨r, hr⟩ : ∃ r, r = covB o.data.toList n.data.toList x.data.toList := ⟨_, rfl⟩
  rw [← hr] at HR ⊢
  clear hr
  obtain ⟨c1, h1⟩ : ∃ c, c = cmpN o.data.toList x.data.toList := ⟨_, rfl⟩
  obtain ⟨c2, h2⟩ : ∃ c, c = cmpN n.data.toList o.data.toList := ⟨_, rfl⟩
  obtain ⟨c3, h3⟩ : ∃ c, c = cmpN x.data.toList n.data.toList := ⟨_, rfl⟩
  rw [← h1] at H1 HR
  rw [← h2] at H2 HR
  rw [← h3] at H3 HR
  clear h1 h2 h3
  have HX : Hid (∀ W, Below (w.alloc (.cells #[.string o, .string n, v] 26)).heap.size (w.alloc (.cells #[.string o, .string n, v] 26)) W → W.cell? ⟨w.heap.size, 0, none⟩ = some (.string o) ∧ W.cell? ⟨w.heap.size, 1, none⟩ = some (.string n) ∧ W.cell? ⟨w.heap.size, 2, none⟩ = some v ∧ Below w.heap.size w W) := fun W hW => gap_facts hW
  go_enter Tryd.func35, Tryd.ntmps35
  go_wp2_with fail
  refine (H1.out _).mono ?_
  rintro e w1 ⟨rfl, hb1⟩
  obtain ⟨m0, m1, m2, hbw⟩ := HX.out _ hb1
  by_cases g1 : 0 ≤ c1
  · have HF : Hid (r = false) := by rw [HR.out, decide_eq_false (show ¬ c1 < 0 by omega)]; rfl
    clear HR
    go_wp2_with fail
    go_ret
    exact ⟨zret_bool HF.out.symm, hbw⟩
  · have HF : Hid (r = (decide (c2 ≤ 0) || decide (c3 < 0))) := by rw [HR.out, decide_eq_true (show c1 < 0 by omega)]; rfl
    clear HR
    go_wp2_with fail
    refine (H2.out _).mono ?_
    rintro e w2 ⟨rfl, hb2⟩
    have hb02 := hb1.trans (hb2.mono hb1.size)
    obtain ⟨m0, m1, m2, hbw⟩ := HX.out _ hb02
    by_cases g2 : c2 ≤ 0
    · have HF2 : Hid (r = true) := by rw [HF.out, decide_eq_true g2]; rfl
      clear HF
      go_wp2_with fail
      go_ret
      exact ⟨zret_bool HF2.out.symm, hbw⟩
    · go_wp2_with fail
      refine (H3.out _).mono ?_
      rintro e w3 ⟨rfl, hb3⟩
      have hb03 := hb02.trans (hb3.mono hb02.size)
      obtain ⟨m0, m1, m2, hbw⟩ := HX.out _ hb03
      go_wp2_with fail
      go_ret
      exact ⟨zret_bool HF.out.symm, hbw⟩

end Go.Proofs.YtoeffplfkdogdaaDoor
