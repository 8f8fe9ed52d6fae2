import Derived.Test.YtoobaaklklommaaGreatDoorZ29
import Derived.Test.YtoobaaklklommaaGreatDoorZ07
import Derived.Test.YtoobaaklklommaaGreatDoorZ26
import Derived.Test.YtoobaaklklommaaGreatDoorZ10
import Derived.Test.YtoobaaklklommaaGreatDoorZ28
namespace Go.Proofs.YtoobaaklklommaaGreatDoor
open Go.RowKit

theorem iWithin_any (n lo hi : Int) (w : World) : Calls Tryz.prog 49 #[.int .i64 n, .int .i64 lo, .int .i64 hi] w fun e w' => e = .returned (.bool (inB n lo hi)) ∧ w' = w := by
  by_cases h1 : lo ≤ n
  · go_enter Tryz.func49, Tryz.ntmps49
    go_wp2
    go_ret
    exact ⟨ret_bool (by simp [inB, h1]), rfl⟩
  · go_enter Tryz.func49, Tryz.ntmps49
    go_wp2
    go_ret
    exact ⟨ret_bool (by simp [inB]; omega), rfl⟩
theorem isCounter_any (n : Int) (w : World) : Calls Tryz.prog 84 #[.int .i64 n] w fun e w' => e = .returned (.bool (inB n 0 1152921504606846976)) ∧ w' = w := by
  go_enter Tryz.func84, Tryz.ntmps84
  go_wp2_with fail
  refine (iWithin_any _ _ _ _).mono ?_
  rintro e w1 ⟨rfl, rfl⟩
  go_wp2_with fail
  go_ret
  exact ⟨rfl, rfl⟩

def ofV (n : Int) : Value := .tuple #[.int .i64 (if inB n 0 1152921504606846976 then n % 4294967296 else 0), .bool (inB n 0 1152921504606846976)]
theorem iSerialOf_any (n : Int) (w : World) : Calls Tryz.prog 164 #[.int .i64 n] w fun e w' => e = .returned (ofV n) ∧ w' = w := by
  cases h1 : inB n 0 1152921504606846976 with
  | false =>
    go_enter Tryz.func164, Tryz.ntmps164
    go_wp2_with fail
    refine (isCounter_any _ _).mono ?_
    rintro e w1 ⟨rfl, rfl⟩
    rw [h1]
    go_wp2_with fail
    go_ret2
    exact ⟨by unfold ofV; rw [h1]; rfl, rfl⟩
  | true =>
    have hn : 0 ≤ n ∧ n ≤ 1152921504606846976 := by simpa [inB] using h1
    go_enter Tryz.func164, Tryz.ntmps164
    go_wp2_with fail
    refine (isCounter_any _ _).mono ?_
    rintro e w1 ⟨rfl, rfl⟩
    rw [h1]
    go_wp2_with fail
    go_ret2
    exact ⟨by unfold ofV; rw [h1]; rfl, rfl⟩
end Go.Proofs.YtoobaaklklommaaGreatDoor

namespace Go.Proofs.YtoobaaklklommaaGreatDoor
open Go.RowKit

/-- A counter's serial, as a text. -/
def serT (ct : Int) : List UInt8 := numL (ct % 4294967296).toNat

set_option maxRecDepth 20000 in
set_option maxHeartbeats 400000 in
theorem serialText_any (ct : Int) (w : World) (hc : inB ct 0 1152921504606846976 = true) (hE : EnvT w) :
    Calls Tryz.prog 124 #[.int .i64 ct] w fun e w' => e = .returned (.string ⟨(serT ct).toArray⟩) ∧ Below w.heap.size w w' := by
  have HC : Hid (∀ W, EnvT W → Calls Tryz.prog 110 #[.int .i64 (ct % 4294967296)] W fun e w' => e = .returned (.string ⟨(serT ct).toArray⟩) ∧ Below W.heap.size W w') := fun W hW => by
    have h := itoaT_nat (ct % 4294967296).toNat W (by omega) hW
    rw [show (((ct % 4294967296).toNat : Nat) : Int) = ct % 4294967296 by omega] at h
    exact h
  go_enter Tryz.func124, Tryz.ntmps124
  go_wp2_with fail
  refine (iSerialOf_any ct w).mono ?_
  rintro e w1 ⟨rfl, rfl⟩
  unfold ofV
  rw [if_pos hc]
  go_wp2_with fail
  refine (HC.out _ hE).mono ?_
  rintro e w2 ⟨rfl, hb⟩
  go_wp2_with fail
  go_ret
  exact ⟨rfl, hb⟩

set_option maxRecDepth 20000 in
set_option maxHeartbeats 1000000 in
theorem copyZone_any (nm : ByteArray) (ct : Int) (v : Value) (L : List (List UInt8 × Int × Int × List UInt8)) (w : World) (hn : nm.size ≤ 1048576) (hr : RRow w v L) (hl : L.length ≤ 1048576)
    (hx : Hid (∀ x ∈ L, x.1.length ≤ 1048576 ∧ x.2.2.2.length ≤ 1048576)) :
    Calls Tryz.prog 138 #[ZonV nm ct v] w fun e w' => (∃ u, e = .returned (ZonV nm ct u) ∧ OwnQ w' w.heap.size u L) ∧ Below w.heap.size w w' := by
  unfold ZonV
  obtain ⟨aa, ca, rfl, _, hca, _⟩ := id hr
  have HRA : Hid (∀ W, Below w.heap.size w W → RRow W (.slice aa L.length ca) L) := fun W hW => hr.kept hW
  clear hr
  go_enter Tryz.func138, Tryz.ntmps138
  go_wp2_with fail
  refine (cloneR_any nm _ (by omega)).mono ?_
  rintro e w1 ⟨rfl, hb1⟩
  obtain ⟨hm, hr, hbw1⟩ := heaps2 hb1
  have hz1 : w.heap.size + 2 ≤ w1.heap.size := by have h := hb1.size; simpa using h
  have HM1 : Hid (w1.heap[w.heap.size]? = some (.cells #[.string nm, .int .i64 ct, .slice aa L.length ca] 32)) := hm
  have HR1 : Hid (w1.heap[w.heap.size + 1]? = some (.cells #[.string ⟨#[]⟩, .int .i64 0, .slice none 0 0] 32)) := hr
  obtain ⟨⟨c0, c1, c2⟩, ⟨f0, f1, f2⟩⟩ := zon_cells hm
  clear hb1 hm hr
  have hbw1s : Below w.heap.size w (w1.setCell ⟨w.heap.size, 0, none⟩ (.string nm)) := hbw1.setCell (p := ⟨w.heap.size, 0, none⟩) (Nat.le_refl _) _
  go_wp2_with fail
  refine (copyRecords_any _ L _ (HRA.out _ hbw1s) hl hx).mono ?_
  rintro e w2 ⟨u1, rfl, ho1, hb2⟩
  obtain ⟨a1, k1, hu1, hk1⟩ := ho1.shape
  subst hu1
  clear c0 c1 c2 f0 f1 f2
  have HO1 : Hid (OwnQ w2 (w.heap.size + 2) (.slice a1 L.length k1) L) := by
    have h : OwnQ w2 w1.heap.size (.slice a1 L.length k1) L := by simpa using ho1
    exact h.base hz1
  have HM2 : Hid (w2.heap[w.heap.size]? = some (.cells #[.string nm, .int .i64 ct, .slice aa L.length ca] 32)) := by
    have e1 := heap_setCell_same _ _ 0 _ _ (.string nm) HM1.out
    exact ((hb2.block w.heap.size (by simp; omega)).trans e1).trans (by rfl)
  have HR2 : Hid (w2.heap[w.heap.size + 1]? = some (.cells #[.string ⟨#[]⟩, .int .i64 0, .slice none 0 0] 32)) := by
    show w2.heap[w.heap.size + 1]? = _
    rw [hb2.block (w.heap.size + 1) (by simp; omega), heap_setCell_other _ _ _ _ (show w.heap.size + 1 ≠ w.heap.size by omega)]; exact HR1.out
  have hbw2 : Below w.heap.size w w2 := hbw1s.trans (hb2.mono (by simpa using hbw1.size))
  have hbw2s : Below w.heap.size w (w2.setCell ⟨w.heap.size, 2, none⟩ (.slice a1 L.length k1)) := hbw2.setCell (p := ⟨w.heap.size, 2, none⟩) (Nat.le_refl _) _
  have HR3 : Hid ((w2.setCell ⟨w.heap.size, 2, none⟩ (.slice a1 L.length k1)).heap[w.heap.size + 1]? = some (.cells #[.string ⟨#[]⟩, .int .i64 0, .slice none 0 0] 32)) := by
    show (w2.setCell ⟨w.heap.size, 2, none⟩ (.slice a1 L.length k1)).heap[w.heap.size + 1]? = _
    rw [heap_setCell_other _ _ _ _ (show w.heap.size + 1 ≠ w.heap.size by omega)]; exact HR2.out
  obtain ⟨⟨c0, c1, c2⟩, ⟨f0, f1, f2⟩⟩ := zon_cells HM2.out
  obtain ⟨⟨d0, d1, d2⟩, ⟨g0, g1, g2⟩⟩ := zon_cells HR2.out
  clear ho1 hb2 HM1 HR1
  go_wp2_with fail
  (try simp only [Exit.inBlock, Exit.then])
  refine bodyPost_ret (results_cell_row rfl _ _ (w.heap.size + 1) 32 #[.string nm, .int .i64 ct, .slice a1 L.length k1] (0, 0) _ rfl ?_ Tryz.underlying32 rfl (by kernel_rfl)) rfl ⟨⟨_, rfl, ?_⟩, ?_⟩
  · exact put3_heap HR3.out
  · exact ((HO1.out.kpt (kpt_set w2 w.heap.size 2 (.slice a1 L.length k1) (S := fun k => k = w.heap.size) rfl) (fun g hg h => by have h1 := HO1.out.lt g hg; omega)).kpt (kpt_put3 _ (w.heap.size + 1) _ _ _ (S := fun k => k = w.heap.size + 1) rfl) (fun g hg h => by have h1 := HO1.out.lt g hg; omega)).base (by omega)
  · exact put3_below hbw2s (Nat.le_succ _) _ _ _
end Go.Proofs.YtoobaaklklommaaGreatDoor
