import Derived.Test.YtdjhpoogbgknkacDoorPutW
namespace Go.Proofs.YtdjhpoogbgknkacDoor
open Go.RowKit

set_option maxRecDepth 20000 in
set_option maxHeartbeats 1000000 in
theorem sPutName_any (b s : ByteArray) (w : World) (hss : s.size ≤ 4294967280) :
    Calls Tryd.prog 17 #[.string b, .string s] w fun e w' => e = putVal (putR b.data.toList s.data.toList) ∧ Below w.heap.size w w' := by
  by_cases hs : b.size ≤ 600
  · cases hN : nameB s.data.toList with
    | false =>
      have HN : Hid (nameB s.data.toList = false) := hN
      have HR : Hid (putR b.data.toList s.data.toList = none) := if_neg (by rw [hN]; simp)
      clear hN
      go_enter Tryd.func17, Tryd.ntmps17
      go_wp2_with fail
      refine (sGoodName_any s w hss).mono ?_
      rintro e w1 ⟨rfl, hb⟩
      rw [HN.out]
      go_wp2_with fail
      go_ret2
      exact ⟨put_none HR.out, hb⟩
    | true =>
      have HN : Hid (nameB s.data.toList = true) := hN
      clear hN
      go_enter Tryd.func17, Tryd.ntmps17
      go_wp2_with fail
      refine (sGoodName_any s w hss).mono ?_
      rintro e w1 ⟨rfl, hb⟩
      rw [HN.out]
      go_wp2_with fail
      refine (l2Put_any b s w1 hs HN).mono ?_
      rintro e w2 ⟨rfl, hb2⟩
      have hb02 := hb.trans (hb2.mono hb.size)
      have hpl := packL_small (putT b.data.toList (sufs b.data.toList)) (sufs b.data.toList) (labelsOf s.data.toList) (fun p hp => ((name_labels HN.out).1 p hp).1)
      have h8 := (name_labels HN.out).2
      have hpl2 : (b.data.toList ++ packed b.data.toList s.data.toList).length ≤ 100000 := by
        rw [List.length_append, data_len]
        have : (packed b.data.toList s.data.toList).length ≤ 21 * (labelsOf s.data.toList).length + 2 := hpl
        omega
      have HLL : Hid ((b.data.toList ++ packed b.data.toList s.data.toList).length = b.data.toList.length + (packed b.data.toList s.data.toList).length) := List.length_append
      obtain ⟨y, hy⟩ : ∃ y, y = b.data.toList ++ packed b.data.toList s.data.toList := ⟨_, rfl⟩
      rw [← hy] at hpl2 HLL ⊢
      have HY : Hid (y = b.data.toList ++ packed b.data.toList s.data.toList) := hy
      clear hy hpl h8
      by_cases hfit : y.length ≤ 600
      · have HR : Hid (putR b.data.toList s.data.toList = some y) := by
          rw [HY.out]
          exact if_pos ⟨by rw [data_len]; exact hs, HN.out, by rw [← HLL.out]; exact hfit⟩
        go_wp2_with fail
        go_ret2
        exact ⟨put_some HR.out rfl, hb02⟩
      · have HR : Hid (putR b.data.toList s.data.toList = none) := if_neg (fun h => hfit (by rw [HLL.out]; exact h.2.2))
        go_wp2_with fail
        go_ret2
        exact ⟨put_none HR.out, hb02⟩
  · have HR : Hid (putR b.data.toList s.data.toList = none) := if_neg (fun h => hs (by have := h.1; rw [data_len] at this; exact this))
    have g : (600 : Int) < (b.size : Int) := by omega
    go_enter Tryd.func17, Tryd.ntmps17
    go_wp2_with fail
    go_ret2
    exact ⟨put_none HR.out, Below.refl _ _⟩
end Go.Proofs.YtdjhpoogbgknkacDoor
