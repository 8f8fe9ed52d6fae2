import Derived.Test.YtpghpeombednkaaGreatDoorZ33
import Derived.Test.YtpghpeombednkaaGreatDoorZ28
import Derived.Test.YtpghpeombednkaaGreatDoorZ35
namespace Go.Proofs.YtpghpeombednkaaGreatDoor
open Go.RowKit

/-- slices.Grow of nil. -/
theorem grow_nil (n : Nat) (w : World) (hn : n ≤ 1048576) :
    Calls Tryz.prog 76 #[.slice none 0 0, .int .i64 (n : Int)] w fun e w' => ∃ v, e = .returned v ∧ w'.ownsRow w.heap.size 35 4 v 0 [] ∧ Below w.heap.size w w' := by
  obtain ⟨i0, hi, hz0, hz1, hz2⟩ := info_parts info_rec
  rcases Nat.eq_zero_or_pos n with h0 | h0
  · subst h0
    refine (Any8.slices_Grow_room Tryz.growR none 0 0 0 w (Nat.le_refl _) (by omega) (by omega) (by omega)).mono ?_
    rintro e w' ⟨rfl, rfl⟩
    exact ⟨_, rfl, World.ownsRow_nil _ _ _ _, Below.refl _ _⟩
  · refine (Any8.slices_Grow_grow Tryz.growR i0 (.agg #[.string ByteArray.empty, .int .i64 0, .int .i64 0, .string ByteArray.empty]) hi hz0 (by rw [hz1]; omega) none 0 0 n [] w (Nat.le_refl _) (by omega) (by rw [hz2]; omega) (by omega) (by simp) (fun _ => rfl) (fun a h => by cases h)).mono ?_
    rintro e w' ⟨rfl, rfl⟩
    refine ⟨_, rfl, ⟨by simp, .inr ⟨w.heap.size, _, _, rfl, Nat.le_refl _, blk_new w.drew _, Nat.zero_le _, grownCap_le_maxLen _ _ _ _ (by unfold maxLen; omega), ?_, by simp⟩⟩, ((Below.refl w.heap.size w).drew).alloc (Nat.le_refl _) _⟩
    have hg := grownCap_ge w (0 + n) 0 (Tryz.growR_ren.t 25)
    have e4 : (Value.cells (.agg #[.string ByteArray.empty, .int .i64 0, .int .i64 0, .string ByteArray.empty])).size = 4 := rfl
    rw [Array.size_append, Array.size_append, size_zeroCells, size_zeroCells, e4]
    simp only [List.size_toArray, List.length_nil]
    omega

set_option maxRecDepth 20000 in
set_option maxHeartbeats 2000000 in
theorem concat_any (va vu : Value) (A U : List (List UInt8 × Int × Int × List UInt8)) (b : Nat) (w : World) (ha : RRow w va A) (hu : RRow w vu U) (hna : ∀ n c, va = .slice none n c → c = 0) (hnu : ∀ n c, vu = .slice none n c → c = 0) (hA : A.length ≤ 12) (hU : U.length ≤ 12)
    (h0 : w.cell? ⟨b, 0, none⟩ = some va) (h1 : w.cell? ⟨b, 1, none⟩ = some vu) (hbl : b < w.heap.size) :
    Calls Tryz.prog 36 #[.slice (some ⟨b, 0, none⟩) 2 2] w fun e w' => ∃ v, e = .returned v ∧ OwnQ w' w.heap.size v (A ++ U) ∧ Below w.heap.size w w' := by
  have HRA : Hid (∀ W, Below w.heap.size w W → RRow W va A) := fun W hW => ha.kept hW
  have HRU : Hid (∀ W, Below w.heap.size w W → RRow W vu U) := fun W hW => hu.kept hW
  have HC : Hid (∀ W, Below w.heap.size w W → W.cell? ⟨b, 0, none⟩ = some va ∧ W.cell? ⟨b, 1, none⟩ = some vu) := fun W hW => ⟨(hW.cell (p := ⟨b, 0, none⟩) hbl).trans h0, (hW.cell (p := ⟨b, 1, none⟩) hbl).trans h1⟩
  have HNA : Hid (∀ n c, va = .slice none n c → c = 0) := hna
  have HNU : Hid (∀ n c, vu = .slice none n c → c = 0) := hnu
  obtain ⟨aa, ca, hva, _, hca, _⟩ := ha
  obtain ⟨au, cu, hvu, _, hcu, _⟩ := hu
  subst hva
  subst hvu
  clear hna hnu
  have g1 : ¬ (A.length : Int) < 0 := by omega
  have g2 : ¬ (A.length : Int) + (U.length : Int) < 0 := by omega
  go_enter Tryz.func36, Tryz.ntmps36
  go_wp2_with fail
  go_loop [3, 11] (fun vs i => ∃ (k : Nat) (n : Int), k ≤ 2 ∧ i = .int .i64 (k : Int) ∧ vs = .int .i64 n ∧ Hid ((k = 0 → n = 0) ∧ (k = 1 → n = (A.length : Int)) ∧ (k = 2 → n = (A.length : Int) + (U.length : Int)))) (fun _ i => 2 - (intOf i).toNat)
  case atStart => exact ⟨0, 0, by omega, rfl, rfl, ⟨fun _ => rfl, fun h => by omega, fun h => by omega⟩⟩
  case round =>
    obtain ⟨k, n, hk, rfl, rfl, HN⟩ := hrel
    obtain rfl | rfl | rfl : k = 0 ∨ k = 1 ∨ k = 2 := by omega
    · have hn := HN.out.1 rfl
      subst hn
      go_wp2_with fail
      go_round
      case rel => exact ⟨1, _, by omega, by go_num, rfl, ⟨fun h => by omega, fun _ => by omega, fun h => by omega⟩⟩
      case measure => simp [intOf]
    · have hn := HN.out.2.1 rfl
      subst hn
      go_wp2_with fail
      go_round
      case rel => exact ⟨2, _, by omega, by go_num, rfl, ⟨fun h => by omega, fun h => by omega, fun _ => by omega⟩⟩
      case measure => simp [intOf]
    · have hn : n = ((A.length + U.length : Nat) : Int) := by rw [HN.out.2.2 rfl]; omega
      subst hn
      clear HN
      go_wp2_with fail
      refine (grow_nil (A.length + U.length) _ (by omega)).mono ?_
      rintro e w1 ⟨v0, rfl, hown0, hb0⟩
      have HO0 : Hid (w1.ownsRow w.heap.size 35 4 v0 ([] : List (List UInt8 × Int × Int × List UInt8)).length (rcells [])) := hown0
      clear hown0
      go_wp2_with fail
      go_loopw [6, 27] (fun vv i wr => ∃ (k : Nat) (v : Value) (Q : List (List UInt8 × Int × Int × List UInt8)), k ≤ 2 ∧ i = .int .i64 (k : Int) ∧ v = vv ∧ Hid ((k = 0 → Q = []) ∧ (k = 1 → Q = A) ∧ (k = 2 → Q = A ++ U)) ∧ Hid (wr.ownsRow w.heap.size 35 4 v Q.length (rcells Q)) ∧ Below w.heap.size w wr) (fun _ i _ => 2 - (intOf i).toNat)
      case atStart => exact ⟨0, _, [], by omega, rfl, rfl, ⟨fun _ => rfl, fun h => by omega, fun h => by omega⟩, HO0, hb0⟩
      case round =>
        obtain ⟨k, v, Q, hk, rfl, rfl, HQ, HO, hb⟩ := hrel
        obtain ⟨c0, c1⟩ := HC.out wr hb
        have hzr := hb.size
        obtain rfl | rfl | rfl : k = 0 ∨ k = 1 ∨ k = 2 := by omega
        · have hq := HQ.out.1 rfl
          subst hq
          go_wp2_with (first | (at_builtin; refine wpList_append_rows rfl (.tmp 31) (.tmp 32) 23 rfl Tryz.underlying23 w.heap.size v _ [] rfl rfl HO.out _ A rfl (HRA.out _ hb) HNA.out ?b3 hzr ?_))
          case b3 => omega
          intro v2 w4 hown hgrow
          have HO4 : Hid (w4.ownsRow w.heap.size 35 4 v2 A.length (rcells A)) := hown
          have hbw4 : Below w.heap.size w w4 := hb.grown hgrow hzr (fun j hj => (HO.out.lt j hj).1)
          clear hown hgrow
          go_wp2_with fail
          go_roundw
          case rel => exact ⟨1, v2, A, by omega, by go_num, rfl, ⟨fun h => by omega, fun _ => rfl, fun h => by omega⟩, HO4, hbw4⟩
          case measure => simp [intOf]
        · have hq := HQ.out.2.1 rfl
          subst hq
          go_wp2_with (first | (at_builtin; refine wpList_append_rows rfl (.tmp 31) (.tmp 32) 23 rfl Tryz.underlying23 w.heap.size v _ Q rfl rfl HO.out _ U rfl (HRU.out _ hb) HNU.out ?b4 hzr ?_))
          case b4 => omega
          intro v2 w4 hown hgrow
          have HO4 : Hid (w4.ownsRow w.heap.size 35 4 v2 (Q ++ U).length (rcells (Q ++ U))) := by rw [List.length_append]; exact hown
          have hbw4 : Below w.heap.size w w4 := hb.grown hgrow hzr (fun j hj => (HO.out.lt j hj).1)
          clear hown hgrow
          go_wp2_with fail
          go_roundw
          case rel => exact ⟨2, v2, Q ++ U, by omega, by go_num, rfl, ⟨fun h => by omega, fun h => by omega, fun _ => rfl⟩, HO4, hbw4⟩
          case measure => simp [intOf]
        · have HOL : Hid (OwnQ wr w.heap.size v (A ++ U)) := by
            have h := HO.out
            rw [HQ.out.2.2 rfl] at h
            exact own_q h
          go_wp2_with fail
          go_ret
          exact ⟨_, rfl, HOL.out, hb⟩
end Go.Proofs.YtpghpeombednkaaGreatDoor
