import Derived.Test.YtoobaaklklommaaGreatDoorZ44
import Derived.Test.YtoobaaklklommaaGreatDoorZ45
namespace Go.Proofs.YtoobaaklklommaaGreatDoor
open Go.RowKit

set_option maxRecDepth 20000 in
set_option maxHeartbeats 1000000 in
theorem sRuleOf_any (ap : ByteArray) (v : Value) (L : List (List UInt8 × Int × Int × List UInt8)) (w : World) (hr : RRow w v L) (hap : ap.size ≤ 1048576) (hl : L.length ≤ 1048576) (hx : Hid (∀ x ∈ L, x.1.length ≤ 1048576 ∧ x.2.2.2.length ≤ 1048576)) :
    Calls Tryz.prog 80 #[.string ap, v] w fun e w' => e = .returned (.int .i64 (ruleB ap.data.toList L)) ∧ Below w.heap.size w w' := by
  have HRR : Hid (∀ W, Below w.heap.size w W → RRow W v L) := fun W hW => hr.kept hW
  obtain ⟨a, cap, rfl, _⟩ := hr
  have HRB : Hid (ruleB ap.data.toList L = if (apexB ap.data.toList && listB L) = true then ruleS ap.data.toList L else 9) := ruleB_spec _ _
  obtain ⟨r, hr⟩ : ∃ r, r = ruleB ap.data.toList L := ⟨_, rfl⟩
  rw [← hr] at HRB ⊢
  clear hr
  cases h1 : apexB ap.data.toList with
  | false =>
    have HR : Hid (r = 9) := by rw [HRB.out, h1]; rfl
    clear HRB
    go_enter Tryz.func80, Tryz.ntmps80
    go_wp2_with fail
    refine (l6Apex_any ap w (by omega)).mono ?_
    rintro e w1 ⟨rfl, hb1⟩
    rw [h1]
    go_wp2_with fail
    go_ret
    exact ⟨ret_intI HR.out.symm, hb1⟩
  | true =>
    rw [h1, Bool.true_and] at HRB
    have hname : Hid (nameB ap.data.toList = true) := apex_name h1
    cases h2 : listB L with
    | false =>
      have HR : Hid (r = 9) := by rw [HRB.out, h2]; rfl
      clear HRB
      go_enter Tryz.func80, Tryz.ntmps80
      go_wp2_with fail
      refine (l6Apex_any ap w (by omega)).mono ?_
      rintro e w1 ⟨rfl, hb1⟩
      rw [h1]
      go_wp2_with fail
      refine (l6List_any _ L w1 (HRR.out _ hb1) hx).mono ?_
      rintro e w2 ⟨rfl, hb2⟩
      rw [h2]
      go_wp2_with fail
      go_ret
      exact ⟨ret_intI HR.out.symm, hb1.trans (hb2.mono hb1.size)⟩
    | true =>
      have HR : Hid (r = ruleS ap.data.toList L) := by rw [HRB.out, h2]; rfl
      have hgood : Hid (∀ x ∈ L, nameB x.1 = true) := fun x hxm => by
        unfold listB at h2
        simp only [Bool.and_eq_true] at h2
        exact ares_name h2.2.1 hxm
      clear HRB
      go_enter Tryz.func80, Tryz.ntmps80
      go_wp2_with fail
      refine (l6Apex_any ap w (by omega)).mono ?_
      rintro e w1 ⟨rfl, hb1⟩
      rw [h1]
      go_wp2_with fail
      refine (l6List_any _ L w1 (HRR.out _ hb1) hx).mono ?_
      rintro e w2 ⟨rfl, hb2⟩
      rw [h2]
      have hbw2 := hb1.trans (hb2.mono hb1.size)
      go_wp2_with fail
      refine (l6Rule_any ap _ L w2 (HRR.out _ hbw2) hx hname hgood hl).mono ?_
      rintro e w3 ⟨rfl, hb3⟩
      rw [← HR.out]
      go_wp2_with fail
      go_ret
      exact ⟨rfl, hbw2.trans (hb3.mono hbw2.size)⟩

theorem sGoodZone_any (nm : ByteArray) (ct : Int) (v : Value) (L : List (List UInt8 × Int × Int × List UInt8)) (w : World) (hr : RRow w v L) (hap : nm.size ≤ 1048576) (hl : L.length ≤ 1048576) (hx : Hid (∀ x ∈ L, x.1.length ≤ 1048576 ∧ x.2.2.2.length ≤ 1048576)) :
    Calls Tryz.prog 44 #[ZonV nm ct v] w fun e w' => e = .returned (.bool (zoneB nm.data.toList ct L)) ∧ Below w.heap.size w w' :=
  sGoodZone_of nm ct v L w hr (fun W hW => sRuleOf_any nm v L W (hr.kept hW) hap hl hx)
end Go.Proofs.YtoobaaklklommaaGreatDoor
