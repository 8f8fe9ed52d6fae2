import Derived.Test.YtoeffplfkdogdaaDoorIsBelow
namespace Go.Proofs.YtoeffplfkdogdaaDoor
open Go.RowKit

set_option maxRecDepth 20000 in
set_option maxHeartbeats 1000000 in
theorem iIsBl_any (a b : ByteArray) (w : World) (ha : a.size ≤ 4294967280) (hb : b.size ≤ 4294967280) (hE : Env w) :
    Calls Tryd.prog 38 #[.string a, .string b] w fun e w' => e = .returned (.tuple #[.bool (belowT a.data.toList b.data.toList), .bool (bothB a.data.toList b.data.toList)]) ∧ Below w.heap.size w w' := by
  cases h1 : nameB a.data.toList with
  | false =>
    have H1 : Hid (nameB a.data.toList = false) := h1
    have HP : Hid (belowT a.data.toList b.data.toList = false ∧ bothB a.data.toList b.data.toList = false) := by unfold belowT bothB; rw [h1]; exact ⟨rfl, rfl⟩
    clear h1
    go_enter Tryd.func38, Tryd.ntmps38
    go_wp2_with fail
    refine (iGoodName_any a w hE).mono ?_
    rintro e w1 ⟨rfl, hb1⟩
    rw [H1.out]
    go_wp2_with fail
    go_ret2
    exact ⟨ret_two (val_bool HP.out.1.symm) (val_bool HP.out.2.symm), hb1⟩
  | true =>
    have H1 : Hid (nameB a.data.toList = true) := h1
    cases h2 : nameB b.data.toList with
    | false =>
      have H2 : Hid (nameB b.data.toList = false) := h2
      have HP : Hid (belowT a.data.toList b.data.toList = false ∧ bothB a.data.toList b.data.toList = false) := by unfold belowT bothB; rw [h1, h2]; exact ⟨rfl, rfl⟩
      clear h1 h2
      go_enter Tryd.func38, Tryd.ntmps38
      go_wp2_with fail
      refine (iGoodName_any a w hE).mono ?_
      rintro e w1 ⟨rfl, hb1⟩
      rw [H1.out]
      have hE1 := hE.below hb1
      go_wp2_with fail
      refine (iGoodName_any b w1 hE1).mono ?_
      rintro e w2 ⟨rfl, hb2⟩
      rw [H2.out]
      go_wp2_with fail
      go_ret2
      exact ⟨ret_two (val_bool HP.out.1.symm) (val_bool HP.out.2.symm), hb1.trans (hb2.mono hb1.size)⟩
    | true =>
      have H2 : Hid (nameB b.data.toList = true) := h2
      have HP : Hid (belowT a.data.toList b.data.toList = belowB a.data.toList b.data.toList ∧ bothB a.data.toList b.data.toList = true) := by unfold belowT bothB; rw [h1, h2]; exact ⟨rfl, rfl⟩
      clear h1 h2
      go_enter Tryd.func38, Tryd.ntmps38
      go_wp2_with fail
      refine (iGoodName_any a w hE).mono ?_
      rintro e w1 ⟨rfl, hb1⟩
      rw [H1.out]
      have hE1 := hE.below hb1
      go_wp2_with fail
      refine (iGoodName_any b w1 hE1).mono ?_
      rintro e w2 ⟨rfl, hb2⟩
      rw [H2.out]
      go_wp2_with fail
      refine (liesBelow_any a b w2 ha hb).mono ?_
      rintro e w3 ⟨rfl, rfl⟩
      go_wp2_with fail
      go_ret2
      exact ⟨ret_two (val_bool HP.out.1.symm) (val_bool HP.out.2.symm), hb1.trans (hb2.mono hb1.size)⟩
end Go.Proofs.YtoeffplfkdogdaaDoor
