import Derived.Test.YtobjmmiebmfobaaGreatDoorZ40
import Derived.Test.YtobjmmiebmfobaaGreatDoorZ37
namespace Go.Proofs.YtobjmmiebmfobaaGreatDoor
open Go.RowKit

/-- The program's errors and the library's handle of the type error, as they were laid. -/
def ErrT (w : World) : Prop := ∃ p, w.cell? ⟨0, 0, none⟩ = some (.iface 171 p)
def EtIn (w : World) : Prop := w.cell? ⟨1, 0, none⟩ = some (.iface 77 (.agg #[.pointer (some ⟨12, 37, none⟩)]))
def EnvA (w : World) : Prop := EnvR w ∧ ErrT w ∧ EtIn w
theorem EnvA.below {w w' : World} (h : EnvA w) (hb : Below w.heap.size w w') : EnvA w' := by
  obtain ⟨p, hc⟩ := h.2.1
  exact ⟨h.1.below hb, ⟨p, (hb.cell (p := ⟨0, 0, none⟩) (World.block_lt_of_cell? _ _ hc)).trans hc⟩, (hb.cell (p := ⟨1, 0, none⟩) (World.block_lt_of_cell? _ _ h.2.2)).trans h.2.2⟩
/-- What faultIn tells. -/
def FaultA (r : Int) (u : Value) : Prop := (r = 0 → u = .nilIface) ∧ (r = 9 → ∃ p, u = .iface 171 p) ∧ (r ≠ 0 → r ≠ 9 → u = .iface 40 (.agg #[.int .i64 r]))
theorem faultA_nil {r : Int} (h : r = 0) : FaultA r .nilIface := ⟨fun _ => rfl, fun h9 => by omega, fun h0 => absurd h h0⟩
theorem faultA_un {r : Int} (h : r = 9) (p : Value) : FaultA r (.iface 171 p) := ⟨fun h0 => by omega, fun _ => ⟨p, rfl⟩, fun _ h9 => absurd h h9⟩
theorem faultA_rule {r : Int} (h : ¬ r = 0) (h6 : r ≤ 6) : FaultA r (.iface 40 (.agg #[.int .i64 r])) := ⟨fun h0 => absurd h0 h, fun h9 => by omega, fun _ _ => rfl⟩

set_option maxRecDepth 20000 in
set_option maxHeartbeats 2000000 in
theorem faultA_any (ap : ByteArray) (v : Value) (L : List (List UInt8 × Int × Int × List UInt8)) (w : World) (hr : RRow w v L) (hap : ap.size ≤ 1048576) (hx : Hid (∀ x ∈ L, x.1.length ≤ 1048576 ∧ x.2.2.2.length ≤ 1048576)) (hE : EnvA w) :
    Calls Tryz.prog 14 #[.string ap, v] w fun e w' => (∃ u, e = .returned u ∧ FaultA (ruleB ap.data.toList L) u) ∧ Below w.heap.size w w' := by
  have HRR : Hid (∀ W, Below w.heap.size w W → RRow W v L) := fun W hW => hr.kept hW
  obtain ⟨a, cap, rfl, _⟩ := hr
  have HRB : Hid (ruleB ap.data.toList L = if (apexB ap.data.toList && listB L) = true then ruleI ap.data.toList L else 9) := rfl
  obtain ⟨r, hr⟩ : ∃ r, r = ruleB ap.data.toList L := ⟨_, rfl⟩
  rw [← hr] at HRB ⊢
  clear hr
  have HLE : Hid (0 ≤ ruleI ap.data.toList L ∧ ruleI ap.data.toList L ≤ 6) := ruleI_le _ _
  cases h1 : apexB ap.data.toList with
  | false =>
    have HR : Hid (r = 9) := by rw [HRB.out, h1]; rfl
    clear HRB
    go_enter Tryz.func14, Tryz.ntmps14
    go_wp2_with fail
    refine (isApex_any ap w hE.1.1).mono ?_
    rintro e w1 ⟨rfl, hb1⟩
    rw [h1]
    obtain ⟨p, hc⟩ := (hE.below hb1).2.1
    go_wp2_with fail
    go_ret
    exact ⟨⟨_, rfl, faultA_un HR.out p⟩, hb1⟩
  | true =>
    rw [h1, Bool.true_and] at HRB
    cases h2 : listB L with
    | false =>
      have HR : Hid (r = 9) := by rw [HRB.out, h2]; rfl
      clear HRB
      go_enter Tryz.func14, Tryz.ntmps14
      go_wp2_with fail
      refine (isApex_any ap w hE.1.1).mono ?_
      rintro e w1 ⟨rfl, hb1⟩
      rw [h1]
      go_wp2_with fail
      refine (areOfZone_any _ L w1 (HRR.out _ hb1) hx (hE.below hb1).1).mono ?_
      rintro e w2 ⟨rfl, hb2⟩
      rw [h2]
      have hbw2 := hb1.trans (hb2.mono hb1.size)
      obtain ⟨p, hc⟩ := (hE.below hbw2).2.1
      go_wp2_with fail
      go_ret
      exact ⟨⟨_, rfl, faultA_un HR.out p⟩, hbw2⟩
    | true =>
      rw [h2] at HRB
      have HR : Hid (r = ruleI ap.data.toList L) := HRB.out
      rw [← HR.out] at HLE
      clear HRB
      go_enter Tryz.func14, Tryz.ntmps14
      go_wp2_with fail
      refine (isApex_any ap w hE.1.1).mono ?_
      rintro e w1 ⟨rfl, hb1⟩
      rw [h1]
      go_wp2_with fail
      refine (areOfZone_any _ L w1 (HRR.out _ hb1) hx (hE.below hb1).1).mono ?_
      rintro e w2 ⟨rfl, hb2⟩
      rw [h2]
      have hbw2 := hb1.trans (hb2.mono hb1.size)
      go_wp2_with fail
      refine (firstBroken_any ap _ L w2 (HRR.out _ hbw2) hap hx).mono ?_
      rintro e w3 ⟨rfl, hb3⟩
      have hbw3 := hbw2.trans (hb3.mono hbw2.size)
      rw [← HR.out]
      by_cases h0 : r = 0
      · have HF : Hid (FaultA r .nilIface) := faultA_nil h0
        rw [h0]
        go_wp2_with fail
        go_ret
        exact ⟨⟨_, rfl, HF.out⟩, hbw3⟩
      · have e0 : (r != 0) = true := by simpa using h0
        go_wp2_with fail
        go_ret
        exact ⟨⟨_, rfl, faultA_rule h0 HLE.out.2⟩, hbw3⟩


set_option maxRecDepth 20000 in
set_option maxHeartbeats 2000000 in
theorem iRuleOf_any (ap : ByteArray) (v : Value) (L : List (List UInt8 × Int × Int × List UInt8)) (w : World) (hr : RRow w v L) (hap : ap.size ≤ 1048576) (hx : Hid (∀ x ∈ L, x.1.length ≤ 1048576 ∧ x.2.2.2.length ≤ 1048576)) (hE : EnvA w) :
    Calls Tryz.prog 7 #[.string ap, v] w fun e w' => e = .returned (.int .i64 (ruleB ap.data.toList L)) ∧ Below w.heap.size w w' := by
  have HF : Hid (Calls Tryz.prog 14 #[.string ap, v] w fun e w' => (∃ u, e = .returned u ∧ FaultA (ruleB ap.data.toList L) u) ∧ Below w.heap.size w w') := faultA_any ap v L w hr hap hx hE
  obtain ⟨a, cap, rfl, _⟩ := hr
  obtain ⟨r, hrr⟩ : ∃ r, r = ruleB ap.data.toList L := ⟨_, rfl⟩
  rw [← hrr] at HF ⊢
  clear hrr
  go_enter Tryz.func7, Tryz.ntmps7
  go_wp2_with fail
  refine HF.out.mono ?_
  rintro e w1 ⟨⟨u, rfl, hu⟩, hb1⟩
  have hE1 := hE.below hb1
  obtain ⟨W1, hW1⟩ : ∃ W1, W1 = w1.alloc (.cells #[.int .i64 0] 40) := ⟨_, rfl⟩
  have HW1 : Hid (w1.alloc (.cells #[.int .i64 0] 40) = W1) := hW1.symm
  have hbA : Below w1.heap.size w1 W1 := by rw [hW1]; exact (Below.refl _ _).alloc (Nat.le_refl _) _
  have hbw1 : Below w.heap.size w W1 := hb1.trans (hbA.mono hb1.size)
  have hEW := hE1.below hbA
  have ht0 : W1.cell? ⟨w1.heap.size, 0, none⟩ = some (.int .i64 0) := by rw [hW1]; simp
  have hf0 : W1.frozen? ⟨w1.heap.size, 0, none⟩ = false := by rw [hW1]; simp
  have hzW : w1.heap.size < W1.heap.size := by rw [hW1]; simp
  have hz1 : w.heap.size ≤ w1.heap.size := hb1.size
  by_cases h0 : r = 0
  · obtain rfl := hu.1 h0
    have HR : Hid (r = 0) := h0
    clear hu h0
    go_wp2_with fail
    rw [HW1.out]
    go_ret
    exact ⟨ret_intI HR.out.symm, hbw1⟩
  · by_cases h9 : r = 9
    · obtain ⟨p, rfl⟩ := hu.2.1 h9
      have HR : Hid (r = 9) := h9
      have HM : Hid (Calls Tryz.prog 15 #[.iface 171 p, .iface 42 (.pointer (some ⟨w1.heap.size, 0, none⟩))] W1 fun ev w' => ev = .returned (.bool false) ∧ Below W1.heap.size W1 w') := as_miss p ⟨w1.heap.size, 0, none⟩ W1 hEW.2.2
      clear hu h0 h9
      go_wp2_with fail
      rw [HW1.out]
      refine HM.out.mono ?_
      rintro e w2 ⟨rfl, hb2⟩
      go_wp2_with fail
      go_ret
      exact ⟨ret_intI HR.out.symm, hbw1.trans (hb2.mono hbw1.size)⟩
    · obtain rfl := hu.2.2 h0 h9
      have HM : Hid (Calls Tryz.prog 15 #[.iface 40 (.agg #[.int .i64 r]), .iface 42 (.pointer (some ⟨w1.heap.size, 0, none⟩))] W1 fun ev w' => ev = .returned (.bool true) ∧ w'.cell? ⟨w1.heap.size, 0, none⟩ = some (.int .i64 r) ∧ Below w1.heap.size W1 w') := (as_hit r 0 ⟨w1.heap.size, 0, none⟩ W1 hEW.2.2 ht0 hf0).mono fun e w' h => by
        obtain ⟨h1, rfl⟩ := h
        refine ⟨h1, World.cell?_setCell_same _ _ _ (u := .int .i64 0) ?_, ?_⟩
        · rw [World.cell?_alloc_lt _ _ _ (by simp; omega), World.cell?_alloc_lt _ _ _ (by simp; omega), World.cell?_alloc_lt _ _ _ (by simp; omega), World.cell?_alloc_lt _ _ _ hzW]; exact ht0
        · exact ((((((Below.refl W1.heap.size W1).alloc (Nat.le_refl _) _).alloc (by simp) _).alloc (by simp; omega) _).alloc (by simp; omega) _).mono (Nat.le_of_lt hzW)).setCell (p := ⟨w1.heap.size, 0, none⟩) (Nat.le_refl _) _
      clear hu h0 h9
      go_wp2_with fail
      rw [HW1.out]
      refine HM.out.mono ?_
      rintro e w2 ⟨rfl, hc2, hb2⟩
      go_wp2_with fail
      go_ret
      exact ⟨rfl, hbw1.trans (hb2.mono hz1)⟩
end Go.Proofs.YtobjmmiebmfobaaGreatDoor
