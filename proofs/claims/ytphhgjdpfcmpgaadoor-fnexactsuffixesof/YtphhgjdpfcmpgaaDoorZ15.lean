import Derived.Test.YtphhgjdpfcmpgaaDoorZ13
import Derived.Test.YtphhgjdpfcmpgaaDoorZ14
namespace Go.Proofs.YtphhgjdpfcmpgaaDoor.suffixesOf
open Go.RowKit

set_option maxRecDepth 20000 in
set_option maxHeartbeats 1000000 in
theorem walk (s : ByteArray) (w : World) (hs0 : s.size ≤ maxLen) (hE : Env w) :
    Calls Tryd.prog 8 #[.string s] w fun e w' => e = .returned (.bool true) ∧ Below w.heap.size w w' := by
  have hs := hs0
  unfold maxLen at hs
  by_cases h : (1048576 : Int) < (s.size : Int)
  · go_enter Tryd.func8, Tryd.ntmps8
    go_wp2_with fail
    go_ret
    exact ⟨rfl, Below.refl _ _⟩
  · have h8 := sufsT_length s.data.toList
    go_enter Tryd.func8, Tryd.ntmps8
    go_wp2_with fail
    refine (sSuffixesOf_any s w).mono ?_
    rintro e w1 ⟨va, rfl, hoa, hb1⟩
    have hra1 := irow_own hoa
    have hE1 := hE.below hb1
    obtain ⟨b, hbb⟩ : ∃ b : Bool, b = decide (s.data.toList.length ≤ 600) := ⟨_, rfl⟩
    rw [← hbb]
    have HBB : Hid (b = decide (s.data.toList.length ≤ 600)) := hbb
    clear hoa hbb
    go_wp2_with fail
    refine (iSuffixesOf_any s w1 hE1).mono ?_
    rintro e w2 ⟨vg, rfl, hog, hb2⟩
    rw [← HBB.out]
    obtain ⟨L, hL⟩ : ∃ L, L = sufsT s.data.toList := ⟨_, rfl⟩
    rw [← hL] at hog h8 hra1
    have HL : Hid (L = sufsT s.data.toList) := hL
    have hra2 := hra1.kept hb2
    have hogI := owni_own hog
    have hrg2 := hogI.row
    have hblk := hogI.block
    have HBLK : Hid (∀ k, vg.ownBlock = some k → w1.heap.size ≤ k) := hblk
    clear hL hE1 hblk hog
    go_wp2_with fail
    refine (eqIntS_any vg va L L w2 hrg2 hra2).mono ?_
    rintro e w3 ⟨rfl, hb3⟩
    rw [show (L == L) = true by simp]
    have e2 : (b != b) = false := by simp
    have hog3 := hogI.kept hb3
    have hb13 : Below w1.heap.size w1 w3 := hb2.trans (hb3.mono hb2.size)
    clear hra2 hrg2 hogI hb2 hb3
    go_wp2_with fail
    refine (markIntS_any vg L _ w3 hog3 (by omega)).mono ?_
    rintro e w4 ⟨rfl, hog4, hgr⟩
    have hb14 : Below w1.heap.size w1 w4 := hb13.grown hgr hb13.size HBLK.out
    have hrg4 := hog4.row
    clear hog3 hgr hb13
    go_wp2_with fail
    refine (heldIntS_any vg L.length w4 hrg4 (by omega)).mono ?_
    rintro e w5 ⟨rfl, rfl⟩
    have hb05 := hb1.trans (hb14.mono hb1.size)
    have hE5 := hE.below hb05
    have hn0 : decide (((L.length : Int) + 1) < 0) = false := by simp; omega
    have hnn : (((L.length : Int) + 1) != ((L.length : Int) + 1)) = false := by simp
    clear hog4 hb05
    go_wp2_with fail
    refine (iSuffixesOf_any s _ hE5).mono ?_
    rintro e w6 ⟨vh, rfl, hoh, hb6⟩
    rw [← HBB.out]
    rw [← HL.out] at hoh
    have hb16 := hb14.trans (hb6.mono hb14.size)
    have hra6 := hra1.kept hb16
    have hrh6 := irow_own hoh
    have hrg6 := hrg4.kept hb6
    clear hoh hrg4 hE5 hb14 hb6 hra1
    go_wp2_with fail
    refine (eqIntS_any vh va L L w6 hrh6 hra6).mono ?_
    rintro e w7 ⟨rfl, hb7⟩
    rw [show (L == L) = true by simp]
    have hb17 := hb16.trans (hb7.mono hb16.size)
    have hrg7 := hrg6.kept hb7
    clear hra6 hrh6 hrg6 hb7 hb16
    go_wp2_with fail
    refine (heldIntS_any vg L.length w7 hrg7 (by omega)).mono ?_
    rintro e w8 ⟨rfl, rfl⟩
    have hb08 := hb1.trans (hb17.mono hb1.size)
    clear hrg7 hb17
    go_wp2_with fail
    go_ret
    exact ⟨rfl, hb08⟩
end Go.Proofs.YtphhgjdpfcmpgaaDoor.suffixesOf
