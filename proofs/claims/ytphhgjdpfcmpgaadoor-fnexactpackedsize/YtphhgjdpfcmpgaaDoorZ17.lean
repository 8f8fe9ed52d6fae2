import Derived.Test.YtphhgjdpfcmpgaaDoorZ16
import Derived.Test.YtphhgjdpfcmpgaaDoorZ08
namespace Go.Proofs.YtphhgjdpfcmpgaaDoor.packedSize
open Go.RowKit

set_option maxRecDepth 20000 in
set_option maxHeartbeats 1000000 in
theorem walk (v : Value) (P : List (List UInt8)) (w : World) (hr : Row w v P) (hp : Hid (∀ x ∈ P, x.length ≤ maxLen)) (hE : Env w) :
    Calls Tryd.prog 9 #[v] w fun e w' => e = .returned (.bool true) ∧ Below w.heap.size w w' := by
  go_enter Tryd.func9, Tryd.ntmps9
  go_wp2_with fail
  refine (szStringS_any v P w hr hp).mono ?_
  rintro e w0 ⟨r, rfl, hsz, rfl⟩
  by_cases hneg : r < 0
  · clear hsz
    go_wp2_with fail
    go_ret
    exact ⟨rfl, Below.refl _ _⟩
  · have HSZ : Hid (P.length + tot P ≤ 1048576) := hsz (by omega)
    have hl : P.length ≤ 1048576 := by have := HSZ.out; omega
    clear hsz
    obtain ⟨na, nb, nc, hsv⟩ := sizeVal_shape P
    have HSV : Hid (sizeVal P = .tuple #[.int .i64 na, .int .i64 nb, .bool nc]) := hsv
    clear hsv
    go_wp2_with fail
    refine (toStringS_any v P w0 hr hl).mono ?_
    rintro e w1 ⟨rfl, hs1, hb1⟩
    have hr1 := hs1.row (Nat.le_refl _) (by unfold maxLen; omega)
    have HS1 : Hid (SRow w1 w0.heap.size P) := hs1
    clear hs1
    go_wp2_with fail
    refine (sPackedSize_any _ P w1 hr1 HSZ).mono ?_
    rintro e w2 ⟨rfl, hb2⟩
    rw [HSV.out]
    have hb02 := hb1.trans (hb2.mono hb1.size)
    have hr2 := hr.kept hb02
    clear hr1 hb1 hb2 hr
    go_wp2_with fail
    refine (toStringS_any v P w2 hr2 hl).mono ?_
    rintro e w3 ⟨rfl, hs3, hb3⟩
    have hb03 := hb02.trans (hb3.mono hb02.size)
    have hr3 := hs3.row (Nat.le_refl _) (by unfold maxLen; omega)
    have hE3 := hE.below hb03
    have hrv3 := hr2.kept hb3
    have HS3 : Hid (SRow w3 w2.heap.size P) := hs3
    clear hs3 hr2
    go_wp2_with fail
    refine (iPackedSize_any _ P w3 hr3 HSZ hE3).mono ?_
    rintro e w4 ⟨rfl, hb4⟩
    rw [HSV.out]
    have hb04 := hb03.trans (hb4.mono hb03.size)
    have hr34 := hr3.kept hb4
    have hrv4 := hrv3.kept hb4
    have e1 : (na != na) = false := by simp
    have e2 : (nb != nb) = false := by simp
    have e3 : (nc != nc) = false := by simp
    clear hr3 hrv3 hE3 hb3 hb4
    go_wp2_with fail
    refine (toStringS_any v P w4 hrv4 hl).mono ?_
    rintro e w5 ⟨rfl, hs5, hb5⟩
    have hr5 := hs5.row (Nat.le_refl _) (by unfold maxLen; omega)
    have hr35 := hr34.kept hb5
    have hb05 := hb04.trans (hb5.mono hb04.size)
    clear hs5 hr34 hrv4 hb5
    go_wp2_with fail
    refine (eqStringS_any _ _ P P w5 hr35 hr5).mono ?_
    rintro e w6 ⟨rfl, hb6⟩
    have hb06 := hb05.trans (hb6.mono hb05.size)
    rw [show (P == P) = true by simp]
    clear hr5 hr35
    go_wp2_with fail
    go_ret
    exact ⟨rfl, hb06⟩
end Go.Proofs.YtphhgjdpfcmpgaaDoor.packedSize
