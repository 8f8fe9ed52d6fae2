import Derived.Test.YtobjmmiebmfobaaGreatDoorZ35
import Derived.Test.YtobjmmiebmfobaaGreatDoorZ36
import Derived.Test.YtobjmmiebmfobaaGreatDoorZ25
import Derived.Test.YtobjmmiebmfobaaGreatDoorZ29
import Derived.Test.YtobjmmiebmfobaaGreatDoorZ32
namespace Go.Proofs.YtobjmmiebmfobaaGreatDoor
open Go.RowKit

/-- What zones ask of the listed variables. -/
def ErrIn (w : World) : Prop := ∃ tp p, w.cell? ⟨0, 0, none⟩ = some (.iface tp p)
def EnvZ (w : World) : Prop := EnvR w ∧ ErrIn w
theorem EnvZ.below {w w' : World} (h : EnvZ w) (hb : Below w.heap.size w w') : EnvZ w' := by
  obtain ⟨tp, p, hc⟩ := h.2
  exact ⟨h.1.below hb, tp, p, (hb.cell (p := ⟨0, 0, none⟩) (World.block_lt_of_cell? _ _ hc)).trans hc⟩
/-- One of the records of type 6 tells the serial. -/
def telB (ct : Int) (L : List (List UInt8 × Int × Int × List UInt8)) : Bool := L.any (fun x => x.2.1 == 6 && x.2.2.2 == serT ct)

theorem ruleI_at {ap : List UInt8} {L : List (List UInt8 × Int × Int × List UInt8)} : ruleI ap L = if allB ap L = false then 1 else if soaB ap L = false then 2 else if adjB ttlP L = false then 3 else if adjB cnP L = false then 4 else if heldB L ap 5 = true then 5 else if cutsB ap L = false then 6 else 0 := rfl

set_option maxRecDepth 20000 in
set_option maxHeartbeats 2000000 in
theorem firstBroken_any (ap : ByteArray) (v : Value) (L : List (List UInt8 × Int × Int × List UInt8)) (w : World) (hr : RRow w v L) (hap : ap.size ≤ 1048576) (hx : Hid (∀ x ∈ L, x.1.length ≤ 1048576 ∧ x.2.2.2.length ≤ 1048576)) :
    Calls Tryz.prog 25 #[.string ap, v] w fun e w' => e = .returned (.int .i64 (ruleI ap.data.toList L)) ∧ Below w.heap.size w w' := by
  have HRR : Hid (∀ W, Below w.heap.size w W → RRow W v L) := fun W hW => hr.kept hW
  have HRI : Hid (ruleI ap.data.toList L = if allB ap.data.toList L = false then 1 else if soaB ap.data.toList L = false then 2 else if adjB ttlP L = false then 3 else if adjB cnP L = false then 4 else if heldB L ap.data.toList 5 = true then 5 else if cutsB ap.data.toList L = false then 6 else 0) := ruleI_at
  have HH : Hid (∀ W, Below w.heap.size w W → Calls Tryz.prog 45 #[v, .agg #[.string ap, .int .i64 5]] W fun e w' => e = .returned (.bool (heldB L ap.data.toList 5)) ∧ Below W.heap.size W w') := fun W hW => by
    have h := isHeld_any v L ap.data.toList 5 W (hr.kept hW)
    rw [← data_eq (s := ap) rfl] at h
    exact h
  obtain ⟨a, cap, rfl, _⟩ := hr
  obtain ⟨r, hr⟩ : ∃ r, r = ruleI ap.data.toList L := ⟨_, rfl⟩
  rw [← hr] at HRI ⊢
  clear hr
  go_enter Tryz.func25, Tryz.ntmps25
  go_wp2_with fail
  refine (allBelow_any ap _ L w (HRR.out _ (Below.refl _ _)) hap hx).mono ?_
  rintro e w1 ⟨rfl, hb1⟩
  cases h1 : allB ap.data.toList L with
  | false =>
    have HR : Hid (r = 1) := by rw [HRI.out, h1]; rfl
    clear HRI h1
    go_wp2_with fail
    go_ret
    exact ⟨ret_intI HR.out.symm, hb1⟩
  | true =>
    rw [h1] at HRI
    clear h1
    go_wp2_with fail
    refine (hasOneSoa_any ap _ L w1 (HRR.out _ hb1)).mono ?_
    rintro e w2 ⟨rfl, hb2⟩
    have hbw2 := hb1.trans (hb2.mono hb1.size)
    cases h2 : soaB ap.data.toList L with
    | false =>
      have HR : Hid (r = 2) := by rw [HRI.out, h2]; rfl
      clear HRI h2
      go_wp2_with fail
      go_ret
      exact ⟨ret_intI HR.out.symm, hbw2⟩
    | true =>
      rw [h2] at HRI
      clear h2
      go_wp2_with fail
      refine (oneTtl_any _ L w2 (HRR.out _ hbw2)).mono ?_
      rintro e w3 ⟨rfl, hb3⟩
      have hbw3 := hbw2.trans (hb3.mono hbw2.size)
      cases h3 : adjB ttlP L with
      | false =>
        have HR : Hid (r = 3) := by rw [HRI.out, h3]; rfl
        clear HRI h3
        go_wp2_with fail
        go_ret
        exact ⟨ret_intI HR.out.symm, hbw3⟩
      | true =>
        rw [h3] at HRI
        clear h3
        go_wp2_with fail
        refine (cnAlone_any _ L w3 (HRR.out _ hbw3)).mono ?_
        rintro e w4 ⟨rfl, hb4⟩
        have hbw4 := hbw3.trans (hb4.mono hbw3.size)
        cases h4 : adjB cnP L with
        | false =>
          have HR : Hid (r = 4) := by rw [HRI.out, h4]; rfl
          clear HRI h4
          go_wp2_with fail
          go_ret
          exact ⟨ret_intI HR.out.symm, hbw4⟩
        | true =>
          rw [h4] at HRI
          clear h4
          go_wp2_with fail
          refine (HH.out _ hbw4).mono ?_
          rintro e w5 ⟨rfl, hb5⟩
          have hbw5 := hbw4.trans (hb5.mono hbw4.size)
          cases h5 : heldB L ap.data.toList 5 with
          | true =>
            have HR : Hid (r = 5) := by rw [HRI.out, h5]; rfl
            clear HRI h5
            go_wp2_with fail
            go_ret
            exact ⟨ret_intI HR.out.symm, hbw5⟩
          | false =>
            rw [h5] at HRI
            clear h5
            go_wp2_with fail
            refine (cutsHold_any ap _ L w5 (HRR.out _ hbw5) hx).mono ?_
            rintro e w6 ⟨rfl, hb6⟩
            have hbw6 := hbw5.trans (hb6.mono hbw5.size)
            cases h6 : cutsB ap.data.toList L with
            | false =>
              have HR : Hid (r = 6) := by rw [HRI.out, h6]; rfl
              clear HRI h6
              go_wp2_with fail
              go_ret
              exact ⟨ret_intI HR.out.symm, hbw6⟩
            | true =>
              have HR : Hid (r = 0) := by rw [HRI.out, h6]; rfl
              clear HRI h6
              go_wp2_with fail
              go_ret
              exact ⟨ret_intI HR.out.symm, hbw6⟩
end Go.Proofs.YtobjmmiebmfobaaGreatDoor

namespace Go.Proofs.YtobjmmiebmfobaaGreatDoor
open Go.RowKit

/-- What faultIn tells. -/
def FaultV (r : Int) (u : Value) : Prop := (r = 0 → u = .nilIface) ∧ (r = 9 → ∃ tp p, u = .iface tp p) ∧ (r ≠ 0 → r ≠ 9 → u = .iface 40 (.agg #[.int .i64 r]))
theorem fault_nil {r : Int} (h : r = 0) : FaultV r .nilIface := ⟨fun _ => rfl, fun h9 => by omega, fun h0 => absurd h h0⟩
theorem fault_un {r : Int} (h : r = 9) (tp : TypeId) (p : Value) : FaultV r (.iface tp p) := ⟨fun h0 => by omega, fun _ => ⟨tp, p, rfl⟩, fun _ h9 => absurd h h9⟩
theorem fault_rule {r : Int} (h : ¬ r = 0) (h6 : r ≤ 6) : FaultV r (.iface 40 (.agg #[.int .i64 r])) := ⟨fun h0 => absurd h0 h, fun h9 => by omega, fun _ _ => rfl⟩
theorem ruleI_le (ap : List UInt8) (L : List (List UInt8 × Int × Int × List UInt8)) : 0 ≤ ruleI ap L ∧ ruleI ap L ≤ 6 := by
  unfold ruleI
  split
  · decide
  · split
    · decide
    · split
      · decide
      · split
        · decide
        · split
          · decide
          · split <;> decide

set_option maxRecDepth 20000 in
set_option maxHeartbeats 2000000 in
theorem faultIn_any (ap : ByteArray) (v : Value) (L : List (List UInt8 × Int × Int × List UInt8)) (w : World) (hr : RRow w v L) (hap : ap.size ≤ 1048576) (hx : Hid (∀ x ∈ L, x.1.length ≤ 1048576 ∧ x.2.2.2.length ≤ 1048576)) (hE : EnvZ w) :
    Calls Tryz.prog 14 #[.string ap, v] w fun e w' => (∃ u, e = .returned u ∧ FaultV (ruleB ap.data.toList L) u) ∧ Below w.heap.size w w' := by
  have HRR : Hid (∀ W, Below w.heap.size w W → RRow W v L) := fun W hW => hr.kept hW
  obtain ⟨a, cap, rfl, _⟩ := hr
  have HRB : Hid (ruleB ap.data.toList L = if (apexB ap.data.toList && listB L) = true then ruleI ap.data.toList L else 9) := rfl
  obtain ⟨r, hr⟩ : ∃ r, r = ruleB ap.data.toList L := ⟨_, rfl⟩
  rw [← hr] at HRB ⊢
  clear hr
  have HLE : Hid (0 ≤ ruleI ap.data.toList L ∧ ruleI ap.data.toList L ≤ 6) := ruleI_le _ _
  cases h1 : apexB ap.data.toList with
  | false =>
    have HR : Hid (r = 9) := by rw [HRB.out, h1]; rfl
    clear HRB
    go_enter Tryz.func14, Tryz.ntmps14
    go_wp2_with fail
    refine (isApex_any ap w hE.1.1).mono ?_
    rintro e w1 ⟨rfl, hb1⟩
    rw [h1]
    obtain ⟨tp, p, hc⟩ := (hE.below hb1).2
    go_wp2_with fail
    go_ret
    exact ⟨⟨_, rfl, fault_un HR.out tp p⟩, hb1⟩
  | true =>
    rw [h1, Bool.true_and] at HRB
    cases h2 : listB L with
    | false =>
      have HR : Hid (r = 9) := by rw [HRB.out, h2]; rfl
      clear HRB
      go_enter Tryz.func14, Tryz.ntmps14
      go_wp2_with fail
      refine (isApex_any ap w hE.1.1).mono ?_
      rintro e w1 ⟨rfl, hb1⟩
      rw [h1]
      go_wp2_with fail
      refine (areOfZone_any _ L w1 (HRR.out _ hb1) hx (hE.below hb1).1).mono ?_
      rintro e w2 ⟨rfl, hb2⟩
      rw [h2]
      have hbw2 := hb1.trans (hb2.mono hb1.size)
      obtain ⟨tp, p, hc⟩ := (hE.below hbw2).2
      go_wp2_with fail
      go_ret
      exact ⟨⟨_, rfl, fault_un HR.out tp p⟩, hbw2⟩
    | true =>
      rw [h2] at HRB
      have HR : Hid (r = ruleI ap.data.toList L) := HRB.out
      rw [← HR.out] at HLE
      clear HRB
      go_enter Tryz.func14, Tryz.ntmps14
      go_wp2_with fail
      refine (isApex_any ap w hE.1.1).mono ?_
      rintro e w1 ⟨rfl, hb1⟩
      rw [h1]
      go_wp2_with fail
      refine (areOfZone_any _ L w1 (HRR.out _ hb1) hx (hE.below hb1).1).mono ?_
      rintro e w2 ⟨rfl, hb2⟩
      rw [h2]
      have hbw2 := hb1.trans (hb2.mono hb1.size)
      go_wp2_with fail
      refine (firstBroken_any ap _ L w2 (HRR.out _ hbw2) hap hx).mono ?_
      rintro e w3 ⟨rfl, hb3⟩
      have hbw3 := hbw2.trans (hb3.mono hbw2.size)
      rw [← HR.out]
      by_cases h0 : r = 0
      · have HF : Hid (FaultV r .nilIface) := fault_nil h0
        rw [h0]
        go_wp2_with fail
        go_ret
        exact ⟨⟨_, rfl, HF.out⟩, hbw3⟩
      · have e0 : (r != 0) = true := by simpa using h0
        go_wp2_with fail
        go_ret
        exact ⟨⟨_, rfl, fault_rule h0 HLE.out.2⟩, hbw3⟩

/-- A good zone, in the program's words. -/
def zoneB (ap : List UInt8) (ct : Int) (L : List (List UInt8 × Int × Int × List UInt8)) : Bool := inB ct 0 1152921504606846976 && (decide (ruleB ap L = 0) && telB ct L)

end Go.Proofs.YtobjmmiebmfobaaGreatDoor
