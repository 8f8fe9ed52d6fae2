import Derived.Test.YtdjhpoogbgknkacDoorUnp
namespace Go.Proofs.YtdjhpoogbgknkacDoor.unpackNames
open Go.RowKit

theorem own_block {w : World} {base : Nat} {v : Value} {L : List (List UInt8)} (h : OwnS w base v L) : ∀ k, v.ownBlock = some k → base ≤ k := by
  rcases h with ⟨rfl, _⟩ | ⟨g, cap, rfl, _, _, hb, _⟩
  · intro k hk; cases hk
  · intro k hk; cases hk; exact hb

set_option maxRecDepth 20000 in
set_option maxHeartbeats 1000000 in
theorem walk (s : ByteArray) (many : Int) (w : World) (hs0 : s.size ≤ maxLen) (hm : -9223372036854775808 ≤ many ∧ many ≤ 9223372036854775807) (hE : Env w) :
    Calls Tryd.prog 4 #[.string s, .int .i64 many] w fun e w' => e = .returned (.bool true) ∧ Below w.heap.size w w' := by
  have hs := hs0
  unfold maxLen at hs
  by_cases h : (1048576 : Int) < (s.size : Int)
  · go_enter Tryd.func4, Tryd.ntmps4
    go_wp2_with fail
    go_ret
    exact ⟨rfl, Below.refl _ _⟩
  · have h8 := unpI_length s.data.toList many
    go_enter Tryd.func4, Tryd.ntmps4
    go_wp2_with fail
    refine (sUnpackNames_any s many w hm.1 hm.2).mono ?_
    rintro e w1 ⟨va, rfl, hoa, hb1⟩
    unfold unpVal
    have hra1 := hoa.row
    have hE1 := hE.below hb1
    obtain ⟨b, hbb⟩ : ∃ b : Bool, b = (unpI s.data.toList many).isSome := ⟨_, rfl⟩
    rw [← hbb]
    have HBB : Hid (b = (unpI s.data.toList many).isSome) := hbb
    clear hoa hbb
    go_wp2_with fail
    refine (iUnpackNames_any s many w1 hm.1 hm.2 hE1).mono ?_
    rintro e w2 ⟨vg, rfl, hog, hb2⟩
    unfold unpVal
    rw [← HBB.out]
    obtain ⟨L, hL⟩ : ∃ L, L = (unpI s.data.toList many).getD [] := ⟨_, rfl⟩
    rw [← hL] at hog h8 hra1
    have HL : Hid (L = (unpI s.data.toList many).getD []) := hL
    have hra2 := hra1.kept hb2
    have hrg2 := hog.row
    have hblk := own_block hog
    have HBLK : Hid (∀ k, vg.ownBlock = some k → w1.heap.size ≤ k) := hblk
    clear hL hE1 hblk
    go_wp2_with fail
    refine (eqStringS_any vg va L L w2 hrg2 hra2).mono ?_
    rintro e w3 ⟨rfl, hb3⟩
    rw [show (L == L) = true by simp]
    have e2 : (b != b) = false := by simp
    have hog3 := hog.kept hb3
    have hb13 : Below w1.heap.size w1 w3 := hb2.trans (hb3.mono hb2.size)
    clear hra2 hrg2 hog hb2 hb3
    go_wp2_with fail
    refine (markStringS_any vg L _ w3 hog3 (by omega)).mono ?_
    rintro e w4 ⟨rfl, hog4, hgr⟩
    have hb14 : Below w1.heap.size w1 w4 := hb13.grown hgr hb13.size HBLK.out
    have hrg4 := hog4.row
    clear hog3 hgr hb13
    go_wp2_with fail
    refine (heldStringS_any vg L.length w4 hrg4 (by omega)).mono ?_
    rintro e w5 ⟨rfl, hb5⟩
    have hb15 := hb14.trans (hb5.mono hb14.size)
    have hb05 := hb1.trans (hb15.mono hb1.size)
    have hE5 := hE.below hb05
    have hrg5 := hrg4.kept hb5
    have hn0 : decide (((L.length : Int) + 1) < 0) = false := by simp; omega
    have hnn : (((L.length : Int) + 1) != ((L.length : Int) + 1)) = false := by simp
    clear hrg4 hb5 hb14 hog4 hb05
    go_wp2_with fail
    refine (iUnpackNames_any s many w5 hm.1 hm.2 hE5).mono ?_
    rintro e w6 ⟨vh, rfl, hoh, hb6⟩
    unfold unpVal
    rw [← HBB.out]
    rw [← HL.out] at hoh
    have hb16 := hb15.trans (hb6.mono hb15.size)
    have hra6 := hra1.kept hb16
    have hrh6 := hoh.row
    have hrg6 := hrg5.kept hb6
    clear hoh hrg5 hE5 hb15 hb6 hra1
    go_wp2_with fail
    refine (eqStringS_any vh va L L w6 hrh6 hra6).mono ?_
    rintro e w7 ⟨rfl, hb7⟩
    rw [show (L == L) = true by simp]
    have hb17 := hb16.trans (hb7.mono hb16.size)
    have hrg7 := hrg6.kept hb7
    clear hra6 hrh6 hrg6 hb7 hb16
    go_wp2_with fail
    refine (heldStringS_any vg L.length w7 hrg7 (by omega)).mono ?_
    rintro e w8 ⟨rfl, hb8⟩
    have hb18 := hb17.trans (hb8.mono hb17.size)
    have hb08 := hb1.trans (hb18.mono hb1.size)
    clear hrg7 hb8 hb17
    go_wp2_with fail
    go_ret
    exact ⟨rfl, hb08⟩
end Go.Proofs.YtdjhpoogbgknkacDoor.unpackNames
