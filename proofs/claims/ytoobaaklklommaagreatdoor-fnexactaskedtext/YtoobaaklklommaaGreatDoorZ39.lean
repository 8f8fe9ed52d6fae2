import Derived.Test.YtoobaaklklommaaGreatDoorZ37
import Derived.Test.YtoobaaklklommaaGreatDoorZ38
import Derived.Test.YtoobaaklklommaaGreatDoorZ31
import Derived.Test.YtoobaaklklommaaGreatDoorZ16
import Derived.Test.YtoobaaklklommaaGreatDoorZ34
namespace Go.Proofs.YtoobaaklklommaaGreatDoor
open Go.RowKit

/-- What zones ask of the listed variables. -/
def ErrIn (w : World) : Prop := ∃ tp p, w.cell? ⟨0, 0, none⟩ = some (.iface tp p)
def EnvZ (w : World) : Prop := EnvR w ∧ ErrIn w
theorem EnvZ.below {w w' : World} (h : EnvZ w) (hb : Below w.heap.size w w') : EnvZ w' := by
  obtain ⟨tp, p, hc⟩ := h.2
  exact ⟨h.1.below hb, tp, p, (hb.cell (p := ⟨0, 0, none⟩) (World.block_lt_of_cell? _ _ hc)).trans hc⟩
/-- One of the records of type 6 tells the serial. -/
def telB (ct : Int) (L : List (List UInt8 × Int × Int × List UInt8)) : Bool := L.any (fun x => x.2.1 == 6 && x.2.2.2 == serT ct)

set_option maxRecDepth 20000 in
set_option maxHeartbeats 1000000 in
theorem tells_any (nm : ByteArray) (ct : Int) (v : Value) (L : List (List UInt8 × Int × Int × List UInt8)) (w : World) (hr : RRow w v L) (hc : inB ct 0 1152921504606846976 = true) (hE : EnvR w) :
    Calls Tryz.prog 86 #[ZonV nm ct v] w fun e w' => e = .returned (.bool (telB ct L)) ∧ Below w.heap.size w w' := by
  have HRR : Hid (∀ W, Below w.heap.size w W → RRow W v L) := fun W hW => hr.kept hW
  have HST : Hid (∀ W, EnvR W → Calls Tryz.prog 124 #[.int .i64 ct] W fun e w' => e = .returned (.string ⟨(serT ct).toArray⟩) ∧ Below W.heap.size W w') := fun W hW => serialText_any ct W hc hW.tab
  unfold telB
  obtain ⟨sd, hsd⟩ : ∃ sd, sd = serT ct := ⟨_, rfl⟩
  rw [← hsd] at HST ⊢
  clear hsd
  unfold ZonV
  obtain ⟨a, cap, rfl, _⟩ := hr
  go_enter Tryz.func86, Tryz.ntmps86
  go_wp2_with fail
  refine (HST.out _ (hE.below ((Below.refl w.heap.size w).alloc (Nat.le_refl _) _))).mono ?_
  rintro e w1 ⟨rfl, hb1⟩
  obtain ⟨_, _, c2, hbw⟩ := box3c hb1
  have hz1 : w.heap.size < w1.heap.size := Nat.lt_of_lt_of_le (by simp) hb1.size
  clear hb1
  obtain ⟨W0, hW0⟩ : ∃ W0, W0 = w1.alloc (.cells #[.string ⟨sd.toArray⟩] 9) := ⟨_, rfl⟩
  have hb0 : Below w1.heap.size w1 W0 := by rw [hW0]; exact (Below.refl _ _).alloc (Nat.le_refl _) _
  have hz0 : w1.heap.size < W0.heap.size := by rw [hW0]; simp
  have HP : Hid (PredQ 126 #[.pointer (some ⟨w1.heap.size, 0, none⟩)] (fun x => x.2.1 == 6 && x.2.2.2 == sd) L W0) := fun W x _ hW => by
    have h0 : W.cell? ⟨w1.heap.size, 0, none⟩ = some (.string ⟨sd.toArray⟩) := by
      rw [hW.cell (p := ⟨w1.heap.size, 0, none⟩) hz0, hW0]; simp
    exact tells1_any x.1 x.2.2.2 sd x.2.1 x.2.2.1 w1.heap.size W h0 (Nat.lt_of_lt_of_le hz0 hW.size)
  have hbw0 := hbw.trans (hb0.mono hbw.size)
  have HC : Hid (Calls Tryz.prog 125 #[.slice a L.length cap, .func (.func 126) #[] #[.pointer (some ⟨w1.heap.size, 0, none⟩)]] W0 fun e w' => e = .returned (.bool (L.any (fun x => x.2.1 == 6 && x.2.2.2 == sd))) ∧ Below W0.heap.size W0 w') := containsFunc_any _ _ _ _ L W0 (HRR.out _ hbw0) HP call_tells1
  rw [hW0] at HC
  clear HP
  go_wp2_with fail
  refine HC.out.mono ?_
  rintro e w2 ⟨rfl, hb2⟩
  rw [← hW0] at hb2
  go_wp2_with fail
  go_ret
  exact ⟨rfl, hbw0.trans (hb2.mono hbw0.size)⟩

theorem ruleI_at {ap : List UInt8} {L : List (List UInt8 × Int × Int × List UInt8)} : ruleI ap L = if allB ap L = false then 1 else if soaB ap L = false then 2 else if adjB ttlP L = false then 3 else if adjB cnP L = false then 4 else if heldB L ap 5 = true then 5 else if cutsB ap L = false then 6 else 0 := rfl

set_option maxRecDepth 20000 in
set_option maxHeartbeats 2000000 in
theorem firstBroken_any (ap : ByteArray) (v : Value) (L : List (List UInt8 × Int × Int × List UInt8)) (w : World) (hr : RRow w v L) (hap : ap.size ≤ 1048576) (hx : Hid (∀ x ∈ L, x.1.length ≤ 1048576 ∧ x.2.2.2.length ≤ 1048576)) :
    Calls Tryz.prog 123 #[.string ap, v] w fun e w' => e = .returned (.int .i64 (ruleI ap.data.toList L)) ∧ Below w.heap.size w w' := by
  have HRR : Hid (∀ W, Below w.heap.size w W → RRow W v L) := fun W hW => hr.kept hW
  have HRI : Hid (ruleI ap.data.toList L = if allB ap.data.toList L = false then 1 else if soaB ap.data.toList L = false then 2 else if adjB ttlP L = false then 3 else if adjB cnP L = false then 4 else if heldB L ap.data.toList 5 = true then 5 else if cutsB ap.data.toList L = false then 6 else 0) := ruleI_at
  have HH : Hid (∀ W, Below w.heap.size w W → Calls Tryz.prog 162 #[v, .agg #[.string ap, .int .i64 5]] W fun e w' => e = .returned (.bool (heldB L ap.data.toList 5)) ∧ Below W.heap.size W w') := fun W hW => by
    have h := isHeld_any v L ap.data.toList 5 W (hr.kept hW)
    rw [← data_eq (s := ap) rfl] at h
    exact h
  obtain ⟨a, cap, rfl, _⟩ := hr
  obtain ⟨r, hr⟩ : ∃ r, r = ruleI ap.data.toList L := ⟨_, rfl⟩
  rw [← hr] at HRI ⊢
  clear hr
  go_enter Tryz.func123, Tryz.ntmps123
  go_wp2_with fail
  refine (allBelow_any ap _ L w (HRR.out _ (Below.refl _ _)) hap hx).mono ?_
  rintro e w1 ⟨rfl, hb1⟩
  cases h1 : allB ap.data.toList L with
  | false =>
    have HR : Hid (r = 1) := by rw [HRI.out, h1]; rfl
    clear HRI h1
    go_wp2_with fail
    go_ret
    exact ⟨ret_intI HR.out.symm, hb1⟩
  | true =>
    rw [h1] at HRI
    clear h1
    go_wp2_with fail
    refine (hasOneSoa_any ap _ L w1 (HRR.out _ hb1)).mono ?_
    rintro e w2 ⟨rfl, hb2⟩
    have hbw2 := hb1.trans (hb2.mono hb1.size)
    cases h2 : soaB ap.data.toList L with
    | false =>
      have HR : Hid (r = 2) := by rw [HRI.out, h2]; rfl
      clear HRI h2
      go_wp2_with fail
      go_ret
      exact ⟨ret_intI HR.out.symm, hbw2⟩
    | true =>
      rw [h2] at HRI
      clear h2
      go_wp2_with fail
      refine (oneTtl_any _ L w2 (HRR.out _ hbw2)).mono ?_
      rintro e w3 ⟨rfl, hb3⟩
      have hbw3 := hbw2.trans (hb3.mono hbw2.size)
      cases h3 : adjB ttlP L with
      | false =>
        have HR : Hid (r = 3) := by rw [HRI.out, h3]; rfl
        clear HRI h3
        go_wp2_with fail
        go_ret
        exact ⟨ret_intI HR.out.symm, hbw3⟩
      | true =>
        rw [h3] at HRI
        clear h3
        go_wp2_with fail
        refine (cnAlone_any _ L w3 (HRR.out _ hbw3)).mono ?_
        rintro e w4 ⟨rfl, hb4⟩
        have hbw4 := hbw3.trans (hb4.mono hbw3.size)
        cases h4 : adjB cnP L with
        | false =>
          have HR : Hid (r = 4) := by rw [HRI.out, h4]; rfl
          clear HRI h4
          go_wp2_with fail
          go_ret
          exact ⟨ret_intI HR.out.symm, hbw4⟩
        | true =>
          rw [h4] at HRI
          clear h4
          go_wp2_with fail
          refine (HH.out _ hbw4).mono ?_
          rintro e w5 ⟨rfl, hb5⟩
          have hbw5 := hbw4.trans (hb5.mono hbw4.size)
          cases h5 : heldB L ap.data.toList 5 with
          | true =>
            have HR : Hid (r = 5) := by rw [HRI.out, h5]; rfl
            clear HRI h5
            go_wp2_with fail
            go_ret
            exact ⟨ret_intI HR.out.symm, hbw5⟩
          | false =>
            rw [h5] at HRI
            clear h5
            go_wp2_with fail
            refine (cutsHold_any ap _ L w5 (HRR.out _ hbw5) hx).mono ?_
            rintro e w6 ⟨rfl, hb6⟩
            have hbw6 := hbw5.trans (hb6.mono hbw5.size)
            cases h6 : cutsB ap.data.toList L with
            | false =>
              have HR : Hid (r = 6) := by rw [HRI.out, h6]; rfl
              clear HRI h6
              go_wp2_with fail
              go_ret
              exact ⟨ret_intI HR.out.symm, hbw6⟩
            | true =>
              have HR : Hid (r = 0) := by rw [HRI.out, h6]; rfl
              clear HRI h6
              go_wp2_with fail
              go_ret
              exact ⟨ret_intI HR.out.symm, hbw6⟩
end Go.Proofs.YtoobaaklklommaaGreatDoor

namespace Go.Proofs.YtoobaaklklommaaGreatDoor
open Go.RowKit

/-- What faultIn tells. -/
def FaultV (r : Int) (u : Value) : Prop := (r = 0 → u = .nilIface) ∧ (r = 9 → ∃ tp p, u = .iface tp p) ∧ (r ≠ 0 → r ≠ 9 → u = .iface 154 (.agg #[.int .i64 r]))
theorem fault_nil {r : Int} (h : r = 0) : FaultV r .nilIface := ⟨fun _ => rfl, fun h9 => by omega, fun h0 => absurd h h0⟩
theorem fault_un {r : Int} (h : r = 9) (tp : TypeId) (p : Value) : FaultV r (.iface tp p) := ⟨fun h0 => by omega, fun _ => ⟨tp, p, rfl⟩, fun _ h9 => absurd h h9⟩
theorem fault_rule {r : Int} (h : ¬ r = 0) (h6 : r ≤ 6) : FaultV r (.iface 154 (.agg #[.int .i64 r])) := ⟨fun h0 => absurd h0 h, fun h9 => by omega, fun _ _ => rfl⟩
theorem ruleI_le (ap : List UInt8) (L : List (List UInt8 × Int × Int × List UInt8)) : 0 ≤ ruleI ap L ∧ ruleI ap L ≤ 6 := by
  unfold ruleI
  split
  · decide
  · split
    · decide
    · split
      · decide
      · split
        · decide
        · split
          · decide
          · split <;> decide

set_option maxRecDepth 20000 in
set_option maxHeartbeats 2000000 in
theorem faultIn_any (ap : ByteArray) (v : Value) (L : List (List UInt8 × Int × Int × List UInt8)) (w : World) (hr : RRow w v L) (hap : ap.size ≤ 1048576) (hx : Hid (∀ x ∈ L, x.1.length ≤ 1048576 ∧ x.2.2.2.length ≤ 1048576)) (hE : EnvZ w) :
    Calls Tryz.prog 85 #[.string ap, v] w fun e w' => (∃ u, e = .returned u ∧ FaultV (ruleB ap.data.toList L) u) ∧ Below w.heap.size w w' := by
  have HRR : Hid (∀ W, Below w.heap.size w W → RRow W v L) := fun W hW => hr.kept hW
  obtain ⟨a, cap, rfl, _⟩ := hr
  have HRB : Hid (ruleB ap.data.toList L = if (apexB ap.data.toList && listB L) = true then ruleI ap.data.toList L else 9) := rfl
  obtain ⟨r, hr⟩ : ∃ r, r = ruleB ap.data.toList L := ⟨_, rfl⟩
  rw [← hr] at HRB ⊢
  clear hr
  have HLE : Hid (0 ≤ ruleI ap.data.toList L ∧ ruleI ap.data.toList L ≤ 6) := ruleI_le _ _
  cases h1 : apexB ap.data.toList with
  | false =>
    have HR : Hid (r = 9) := by rw [HRB.out, h1]; rfl
    clear HRB
    go_enter Tryz.func85, Tryz.ntmps85
    go_wp2_with fail
    refine (isApex_any ap w hE.1.1).mono ?_
    rintro e w1 ⟨rfl, hb1⟩
    rw [h1]
    obtain ⟨tp, p, hc⟩ := (hE.below hb1).2
    go_wp2_with fail
    go_ret
    exact ⟨⟨_, rfl, fault_un HR.out tp p⟩, hb1⟩
  | true =>
    rw [h1, Bool.true_and] at HRB
    cases h2 : listB L with
    | false =>
      have HR : Hid (r = 9) := by rw [HRB.out, h2]; rfl
      clear HRB
      go_enter Tryz.func85, Tryz.ntmps85
      go_wp2_with fail
      refine (isApex_any ap w hE.1.1).mono ?_
      rintro e w1 ⟨rfl, hb1⟩
      rw [h1]
      go_wp2_with fail
      refine (areOfZone_any _ L w1 (HRR.out _ hb1) hx (hE.below hb1).1).mono ?_
      rintro e w2 ⟨rfl, hb2⟩
      rw [h2]
      have hbw2 := hb1.trans (hb2.mono hb1.size)
      obtain ⟨tp, p, hc⟩ := (hE.below hbw2).2
      go_wp2_with fail
      go_ret
      exact ⟨⟨_, rfl, fault_un HR.out tp p⟩, hbw2⟩
    | true =>
      rw [h2] at HRB
      have HR : Hid (r = ruleI ap.data.toList L) := HRB.out
      rw [← HR.out] at HLE
      clear HRB
      go_enter Tryz.func85, Tryz.ntmps85
      go_wp2_with fail
      refine (isApex_any ap w hE.1.1).mono ?_
      rintro e w1 ⟨rfl, hb1⟩
      rw [h1]
      go_wp2_with fail
      refine (areOfZone_any _ L w1 (HRR.out _ hb1) hx (hE.below hb1).1).mono ?_
      rintro e w2 ⟨rfl, hb2⟩
      rw [h2]
      have hbw2 := hb1.trans (hb2.mono hb1.size)
      go_wp2_with fail
      refine (firstBroken_any ap _ L w2 (HRR.out _ hbw2) hap hx).mono ?_
      rintro e w3 ⟨rfl, hb3⟩
      have hbw3 := hbw2.trans (hb3.mono hbw2.size)
      rw [← HR.out]
      by_cases h0 : r = 0
      · have HF : Hid (FaultV r .nilIface) := fault_nil h0
        rw [h0]
        go_wp2_with fail
        go_ret
        exact ⟨⟨_, rfl, HF.out⟩, hbw3⟩
      · have e0 : (r != 0) = true := by simpa using h0
        go_wp2_with fail
        go_ret
        exact ⟨⟨_, rfl, fault_rule h0 HLE.out.2⟩, hbw3⟩

/-- A good zone, in the program's words. -/
def zoneB (ap : List UInt8) (ct : Int) (L : List (List UInt8 × Int × Int × List UInt8)) : Bool := inB ct 0 1152921504606846976 && (decide (ruleB ap L = 0) && telB ct L)

set_option maxRecDepth 20000 in
set_option maxHeartbeats 2000000 in
theorem iGoodZone_any (nm : ByteArray) (ct : Int) (v : Value) (L : List (List UInt8 × Int × Int × List UInt8)) (w : World) (hr : RRow w v L) (hap : nm.size ≤ 1048576) (hx : Hid (∀ x ∈ L, x.1.length ≤ 1048576 ∧ x.2.2.2.length ≤ 1048576)) (hE : EnvZ w) :
    Calls Tryz.prog 47 #[ZonV nm ct v] w fun e w' => e = .returned (.bool (zoneB nm.data.toList ct L)) ∧ Below w.heap.size w w' := by
  have HRR : Hid (∀ W, Below w.heap.size w W → RRow W v L) := fun W hW => hr.kept hW
  have HT : Hid (∀ W, Below w.heap.size w W → inB ct 0 1152921504606846976 = true → Calls Tryz.prog 86 #[ZonV nm ct v] W fun e w' => e = .returned (.bool (telB ct L)) ∧ Below W.heap.size W w') := fun W hW hc => tells_any nm ct v L W (hr.kept hW) hc (hE.below hW).1
  unfold ZonV at HT ⊢
  obtain ⟨a, cap, rfl, _⟩ := hr
  have HZ : Hid (zoneB nm.data.toList ct L = (inB ct 0 1152921504606846976 && (decide (ruleB nm.data.toList L = 0) && telB ct L))) := rfl
  obtain ⟨z, hz⟩ : ∃ z, z = zoneB nm.data.toList ct L := ⟨_, rfl⟩
  rw [← hz] at HZ ⊢
  clear hz
  have hb0 : Below w.heap.size w (w.alloc (.cells #[.string nm, .int .i64 ct, .slice a L.length cap] 32)) := (Below.refl _ _).alloc (Nat.le_refl _) _
  have HFI : Hid (∀ W, Below w.heap.size w W → Calls Tryz.prog 85 #[.string nm, .slice a L.length cap] W fun e w' => (∃ u, e = .returned u ∧ FaultV (ruleB nm.data.toList L) u) ∧ Below W.heap.size W w') := fun W hW => faultIn_any nm _ L W (HRR.out _ hW) hap hx (hE.below hW)
  cases h1 : inB ct 0 1152921504606846976 with
  | false =>
    have HR : Hid (z = false) := by rw [HZ.out, h1]; rfl
    go_enter Tryz.func47, Tryz.ntmps47
    go_wp2_with fail
    refine (isCounter_any ct _).mono ?_
    rintro e w1 ⟨rfl, rfl⟩
    rw [h1]
    go_wp2_with fail
    go_ret
    exact ⟨ret_bool HR.out.symm, hb0⟩
  | true =>
    rw [h1, Bool.true_and] at HZ
    have HT2 : Hid (∀ W, Below w.heap.size w W → Calls Tryz.prog 86 #[.agg #[.string nm, .int .i64 ct, .slice a L.length cap]] W fun e w' => e = .returned (.bool (telB ct L)) ∧ Below W.heap.size W w') := fun W hW => HT.out W hW h1
    clear HT
    go_enter Tryz.func47, Tryz.ntmps47
    go_wp2_with fail
    refine (isCounter_any ct _).mono ?_
    rintro e w1 ⟨rfl, rfl⟩
    rw [h1]
    go_wp2_with fail
    refine (HFI.out _ hb0).mono ?_
    rintro e w2 ⟨⟨u, rfl, hu⟩, hb2⟩
    obtain ⟨c0, c1, c2, hbw2⟩ := box3c hb2
    by_cases h0 : ruleB nm.data.toList L = 0
    · obtain rfl := hu.1 h0
      have HR : Hid (z = telB ct L) := by rw [HZ.out, h0]; rfl
      clear HZ hu h0
      go_wp2_with fail
      refine (HT2.out _ hbw2).mono ?_
      rintro e w3 ⟨rfl, hb3⟩
      go_wp2_with fail
      go_ret
      exact ⟨ret_bool HR.out.symm, hbw2.trans (hb3.mono hbw2.size)⟩
    · have HR : Hid (z = false) := by rw [HZ.out, decide_eq_false h0]; rfl
      obtain ⟨tp, p, rfl⟩ : ∃ tp p, u = .iface tp p := by
        by_cases h9 : ruleB nm.data.toList L = 9
        · exact hu.2.1 h9
        · exact ⟨_, _, hu.2.2 h0 h9⟩
      clear HZ hu h0
      go_wp2_with fail
      go_ret
      exact ⟨ret_bool HR.out.symm, hbw2⟩
end Go.Proofs.YtoobaaklklommaaGreatDoor
