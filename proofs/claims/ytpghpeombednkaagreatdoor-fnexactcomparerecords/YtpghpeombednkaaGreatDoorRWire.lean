import Derived.Test.YtpghpeombednkaaGreatDoorRGood
import Derived.Test.YtpghpeombednkaaGreatDoorSText
import Derived.BigRegion
import Derived.Deep.QuietTactic
namespace Go.Proofs.YtpghpeombednkaaGreatDoor
open Go.RowKit



theorem box1 {w W : World} {a : Value} {t : TypeId} (hb : Below (w.alloc (.cells #[a] t)).heap.size (w.alloc (.cells #[a] t)) W) :
    W.cell? ⟨w.heap.size, 0, none⟩ = some a ∧ Below w.heap.size w W := by
  have hz : w.heap.size < (w.alloc (.cells #[a] t)).heap.size := by simp
  refine ⟨?_, ((Below.refl w.heap.size w).alloc (Nat.le_refl _) _).trans (hb.mono (Nat.le_of_lt hz))⟩
  rw [hb.cell (p := ⟨w.heap.size, 0, none⟩) hz]; simp
theorem boxW2 {w W : World} {a b : Value} {t : TypeId} (hb : Below (w.alloc (.cells #[a, b] t)).heap.size (w.alloc (.cells #[a, b] t)) W) :
    W.cell? ⟨w.heap.size, 0, none⟩ = some a ∧ W.cell? ⟨w.heap.size, 1, none⟩ = some b ∧ Below w.heap.size w W := by
  have hz : w.heap.size < (w.alloc (.cells #[a, b] t)).heap.size := by simp
  refine ⟨?_, ?_, ((Below.refl w.heap.size w).alloc (Nat.le_refl _) _).trans (hb.mono (Nat.le_of_lt hz))⟩
  · rw [hb.cell (p := ⟨w.heap.size, 0, none⟩) hz]; simp
  · rw [hb.cell (p := ⟨w.heap.size, 1, none⟩) hz]; simp

set_option maxRecDepth 20000 in
set_option maxHeartbeats 400000 in
theorem hostWire (s : ByteArray) (w : World) (hE : EnvR w) :
    Calls Tryz.prog 208 #[.agg #[.string s]] w fun e w' => e = .returned (.string ⟨(wireT s.data.toList).toArray⟩) ∧ Below w.heap.size w w' := by
  go_enter Tryz.func208, Tryz.ntmps208
  go_wp2_with fail
  refine (hostBytes_any s _ (hE.below ((Below.refl _ _).alloc (Nat.le_refl _) _)).1).mono ?_
  rintro e w1 ⟨rfl, hb1⟩
  have hbw := (box1 hb1).2
  clear hb1
  go_wp2_with fail
  go_ret
  exact ⟨rfl, hbw⟩

set_option maxRecDepth 20000 in
set_option maxHeartbeats 400000 in
theorem serialWire (n : Int) (w : World) (h0 : 0 ≤ n) (h1 : n ≤ 9223372036854775807) :
    Calls Tryz.prog 212 #[.agg #[.int .i64 n]] w fun e w' => e = .returned (.string ⟨(beB n 4).toArray⟩) ∧ Below w.heap.size w w' := by
  have HN : Hid (∀ W, Calls Tryz.prog 42 #[.int .i64 n, .int .i64 4] W fun e w' => e = .returned (.string ⟨(beB n 4).toArray⟩) ∧ Below W.heap.size W w') := fun W => numberBytes_any n 4 W h0 h1 (by omega)
  go_enter Tryz.func212, Tryz.ntmps212
  go_wp2_with fail
  refine (HN.out _).mono ?_
  rintro e w1 ⟨rfl, hb1⟩
  have hbw := (box1 hb1).2
  clear hb1
  go_wp2_with fail
  go_ret
  exact ⟨rfl, hbw⟩

set_option maxRecDepth 20000 in
set_option maxHeartbeats 400000 in
theorem addressWire (a b c d : UInt8) (w : World) :
    Calls Tryz.prog 216 #[.agg #[.int .u8 (a.toNat : Int), .int .u8 (b.toNat : Int), .int .u8 (c.toNat : Int), .int .u8 (d.toNat : Int)]] w fun e w' => e = .returned (.string ⟨#[a, b, c, d]⟩) ∧ Below w.heap.size w w' := by
  have hrow : BRow (w.alloc (.cells #[.int .u8 (a.toNat : Int), .int .u8 (b.toNat : Int), .int .u8 (c.toNat : Int), .int .u8 (d.toNat : Int)] 145)) w.heap.size [a, b, c, d] := by
    refine ⟨by simp, fun j hj => ?_⟩
    match j, hj with
    | 0, _ => exact ⟨by simp, by simp⟩
    | 1, _ => exact ⟨by simp, by simp⟩
    | 2, _ => exact ⟨by simp, by simp⟩
    | 3, _ => exact ⟨by simp, by simp⟩
  have hconv := string_of (cap := 4) hrow 4 rfl
  clear hrow
  go_enter Tryz.func216, Tryz.ntmps216
  go_wp2_with fail
  go_ret
  exact ⟨rfl, (Below.refl _ _).alloc (Nat.le_refl _) _⟩

set_option maxRecDepth 20000 in
set_option maxHeartbeats 1000000 in
theorem exchangeWire (n : Int) (s : ByteArray) (w : World) (h0 : 0 ≤ n) (h1 : n ≤ 9223372036854775807) (hs : (wireT s.data.toList).length ≤ 1000) (hE : EnvR w) :
    Calls Tryz.prog 226 #[.agg #[.int .i64 n, .string s]] w fun e w' => e = .returned (.string ⟨(beB n 2 ++ wireT s.data.toList).toArray⟩) ∧ Below w.heap.size w w' := by
  have hpl : (beB n 2).length ≤ 2 := by rw [beB_length]; omega
  have HNU0 : ∀ W, Calls Tryz.prog 42 #[.int .i64 n, .int .i64 2] W fun e w' => e = .returned (.string ⟨(beB n 2).toArray⟩) ∧ Below W.heap.size W w' := fun W => numberBytes_any n 2 W h0 h1 (by omega)
  have HBY0 : ∀ W, EnvR W → Calls Tryz.prog 209 #[.string s] W fun e w' => e = .returned (.string ⟨(wireT s.data.toList).toArray⟩) ∧ Below W.heap.size W w' := fun W hW => hostBytes_any s W hW.1
  obtain ⟨p, hp⟩ : ∃ p, p = beB n 2 := ⟨_, rfl⟩
  obtain ⟨q, hq⟩ : ∃ q, q = wireT s.data.toList := ⟨_, rfl⟩
  rw [← hp] at HNU0 hpl
  rw [← hq] at HBY0 hs
  have HNU : Hid (∀ W, Calls Tryz.prog 42 #[.int .i64 n, .int .i64 2] W fun e w' => e = .returned (.string ⟨p.toArray⟩) ∧ Below W.heap.size W w') := HNU0
  have HBY : Hid (∀ W, EnvR W → Calls Tryz.prog 209 #[.string s] W fun e w' => e = .returned (.string ⟨q.toArray⟩) ∧ Below W.heap.size W w') := HBY0
  have HR : Hid (beB n 2 ++ wireT s.data.toList = p ++ q) := by rw [hp, hq]; exact rfl
  obtain ⟨W0, hW0⟩ : ∃ W0, W0 = w.alloc (.cells #[.int .i64 n, .string s] 149) := ⟨_, rfl⟩
  have HX : Hid (∀ W, Below W0.heap.size W0 W → W.cell? ⟨w.heap.size, 0, none⟩ = some (.int .i64 n) ∧ W.cell? ⟨w.heap.size, 1, none⟩ = some (.string s) ∧ Below w.heap.size w W) := fun W h => by rw [hW0] at h; exact boxW2 h
  have HTR : Hid (∀ W W', Below W0.heap.size W0 W → Below W.heap.size W W' → Below W0.heap.size W0 W') := fun W W' h1 h2 => h1.trans (h2.mono h1.size)
  have hbd : Below W0.heap.size W0 W0.drew := (Below.refl _ _).drew
  have HW0 : Hid (w.alloc (.cells #[.int .i64 n, .string s] 149) = W0) := hW0.symm
  clear hp hq hW0 HNU0 HBY0 h0 h1
  go_enter Tryz.func226, Tryz.ntmps226
  go_wp2_with fail
  rw [HW0.out]
  refine wp_region_quiet (C := fun W => Below W0.heap.size W0 W) (by kernel_rfl) (by kernel_rfl) hbd ?_
  refine wpQuiet_step (fun K hK => ?_)
  rw [if_pos (by rfl)]
  refine ⟨.pointer (some ⟨w.heap.size, 0, none⟩), fun W hW => quiet_ok ?_, hK _ ?_⟩
  · have q0 := (HX.out W hW).1
    have q1 := (HX.out W hW).2.1
    go_simp
    all_goals (try omega)
  clear hK K
  simp only [Act.put, List.setIfInBounds_toArray, List.set_cons_succ, List.set_cons_zero]
  refine wpQuiet_step (fun K hK => ?_)
  rw [if_pos (by rfl)]
  refine ⟨.int .i64 n, fun W hW => quiet_ok ?_, hK _ ?_⟩
  · have q0 := (HX.out W hW).1
    have q1 := (HX.out W hW).2.1
    go_simp
    all_goals (try omega)
  clear hK K
  simp only [Act.put, List.setIfInBounds_toArray, List.set_cons_succ, List.set_cons_zero]
  refine wpQuiet_step (fun K hK => ?_)
  rw [if_pos (by rfl)]
  refine ⟨.string ⟨p.toArray⟩, fun W hW => quiet_call (f := 42) (args := #[.int .i64 n, .int .i64 2]) ?_ ?_, hK _ ?_⟩
  · go_simp
  · exact (HNU.out W).mono fun e w'' h => ⟨h.1, HTR.out _ _ hW h.2⟩
  clear hK K
  simp only [Act.put, List.setIfInBounds_toArray, List.set_cons_succ, List.set_cons_zero]
  refine wpQuiet_step (fun K hK => ?_)
  rw [if_pos (by rfl)]
  refine ⟨.pointer (some ⟨w.heap.size, 1, none⟩), fun W hW => quiet_ok ?_, hK _ ?_⟩
  · have q0 := (HX.out W hW).1
    have q1 := (HX.out W hW).2.1
    go_simp
    all_goals (try omega)
  clear hK K
  simp only [Act.put, List.setIfInBounds_toArray, List.set_cons_succ, List.set_cons_zero]
  refine wpQuiet_step (fun K hK => ?_)
  rw [if_pos (by rfl)]
  refine ⟨.string s, fun W hW => quiet_ok ?_, hK _ ?_⟩
  · have q0 := (HX.out W hW).1
    have q1 := (HX.out W hW).2.1
    go_simp
    all_goals (try omega)
  clear hK K
  simp only [Act.put, List.setIfInBounds_toArray, List.set_cons_succ, List.set_cons_zero]
  refine wpQuiet_step (fun K hK => ?_)
  rw [if_pos (by rfl)]
  refine ⟨.string ⟨q.toArray⟩, fun W hW => quiet_call (f := 209) (args := #[.string s]) ?_ ?_, hK _ ?_⟩
  · go_simp
  · exact (HBY.out W (hE.below (HX.out W hW).2.2)).mono fun e w'' h => ⟨h.1, HTR.out _ _ hW h.2⟩
  clear hK K
  simp only [Act.put, List.setIfInBounds_toArray, List.set_cons_succ, List.set_cons_zero]
  refine wpQuiet_step (fun K hK => ?_)
  rw [if_pos (by rfl)]
  refine ⟨.string (⟨p.toArray⟩ ++ ⟨q.toArray⟩), fun W hW => quiet_ok ?_, hK _ ?_⟩
  · have q0 := (HX.out W hW).1
    have q1 := (HX.out W hW).2.1
    go_simp
    all_goals (try omega)
  clear hK K
  simp only [Act.put, List.setIfInBounds_toArray, List.set_cons_succ, List.set_cons_zero]
  refine wpQuiet_step (fun K hK => ?_)
  rw [if_pos (by rfl)]
  refine ⟨.string (⟨p.toArray⟩ ++ ⟨q.toArray⟩), fun W hW => quiet_ok ?_, hK _ ?_⟩
  · have q0 := (HX.out W hW).1
    have q1 := (HX.out W hW).2.1
    go_simp
    all_goals (try omega)
  clear hK K
  simp only [Act.put, List.setIfInBounds_toArray, List.set_cons_succ, List.set_cons_zero]
  refine wpQuiet_nil ?_
  intro W hW
  go_wp2_with fail
  go_ret
  exact ⟨congrArg Ending.returned (val_strM (by rw [HR.out]; simp)), (HX.out W hW).2.2⟩

set_option maxRecDepth 20000 in
set_option maxHeartbeats 1000000 in
theorem noteWire (s : ByteArray) (w : World) (hs : s.size ≤ 30) :
    Calls Tryz.prog 214 #[.agg #[.string s]] w fun e w' => e = .returned (.string ⟨(UInt8.ofNat s.data.toList.length :: s.data.toList).toArray⟩) ∧ Below w.heap.size w w' := by
  have hpl : (beB (s.size : Int) 1).length ≤ 1 := by rw [beB_length]; omega
  have HNU0 : ∀ W, Calls Tryz.prog 42 #[.int .i64 (s.size : Int), .int .i64 1] W fun e w' => e = .returned (.string ⟨(beB (s.size : Int) 1).toArray⟩) ∧ Below W.heap.size W w' := fun W => numberBytes_any (s.size : Int) 1 W (by omega) (by omega) (by omega)
  have hb1 := beB_one (n := (s.size : Int)) (by omega) (by omega)
  obtain ⟨p, hp⟩ : ∃ p, p = beB (s.size : Int) 1 := ⟨_, rfl⟩
  rw [← hp] at HNU0 hpl hb1
  have HNU : Hid (∀ W, Calls Tryz.prog 42 #[.int .i64 (s.size : Int), .int .i64 1] W fun e w' => e = .returned (.string ⟨p.toArray⟩) ∧ Below W.heap.size W w') := HNU0
  have HR : Hid (UInt8.ofNat s.data.toList.length :: s.data.toList = p ++ s.data.toList) := by rw [hb1, Int.toNat_natCast, show s.data.toList.length = s.size by simp]; exact rfl
  obtain ⟨W0, hW0⟩ : ∃ W0, W0 = w.alloc (.cells #[.string s] 135) := ⟨_, rfl⟩
  have HX : Hid (∀ W, Below W0.heap.size W0 W → W.cell? ⟨w.heap.size, 0, none⟩ = some (.string s) ∧ Below w.heap.size w W) := fun W h => by rw [hW0] at h; exact box1 h
  have HTR : Hid (∀ W W', Below W0.heap.size W0 W → Below W.heap.size W W' → Below W0.heap.size W0 W') := fun W W' h1 h2 => h1.trans (h2.mono h1.size)
  have hbd : Below W0.heap.size W0 W0.drew := (Below.refl _ _).drew
  have HW0 : Hid (w.alloc (.cells #[.string s] 135) = W0) := hW0.symm
  clear hp hW0 HNU0 hb1
  go_enter Tryz.func214, Tryz.ntmps214
  go_wp2_with fail
  rw [HW0.out]
  refine wp_region_quiet (C := fun W => Below W0.heap.size W0 W) (by kernel_rfl) (by kernel_rfl) hbd ?_
  refine wpQuiet_step (fun K hK => ?_)
  rw [if_pos (by rfl)]
  refine ⟨.pointer (some ⟨w.heap.size, 0, none⟩), fun W hW => quiet_ok ?_, hK _ ?_⟩
  · have q0 := (HX.out W hW).1
    go_simp
    all_goals (try omega)
  clear hK K
  simp only [Act.put, List.setIfInBounds_toArray, List.set_cons_succ, List.set_cons_zero]
  refine wpQuiet_step (fun K hK => ?_)
  rw [if_pos (by rfl)]
  refine ⟨.string s, fun W hW => quiet_ok ?_, hK _ ?_⟩
  · have q0 := (HX.out W hW).1
    go_simp
    all_goals (try omega)
  clear hK K
  simp only [Act.put, List.setIfInBounds_toArray, List.set_cons_succ, List.set_cons_zero]
  refine wpQuiet_step (fun K hK => ?_)
  rw [if_pos (by rfl)]
  refine ⟨.int .i64 (s.size : Int), fun W hW => quiet_ok ?_, hK _ ?_⟩
  · have q0 := (HX.out W hW).1
    go_simp
    all_goals (try omega)
  clear hK K
  simp only [Act.put, List.setIfInBounds_toArray, List.set_cons_succ, List.set_cons_zero]
  refine wpQuiet_step (fun K hK => ?_)
  rw [if_pos (by rfl)]
  refine ⟨.string ⟨p.toArray⟩, fun W hW => quiet_call (f := 42) (args := #[.int .i64 (s.size : Int), .int .i64 1]) ?_ ?_, hK _ ?_⟩
  · go_simp
  · exact (HNU.out W).mono fun e w'' h => ⟨h.1, HTR.out _ _ hW h.2⟩
  clear hK K
  simp only [Act.put, List.setIfInBounds_toArray, List.set_cons_succ, List.set_cons_zero]
  refine wpQuiet_step (fun K hK => ?_)
  rw [if_pos (by rfl)]
  refine ⟨.pointer (some ⟨w.heap.size, 0, none⟩), fun W hW => quiet_ok ?_, hK _ ?_⟩
  · have q0 := (HX.out W hW).1
    go_simp
    all_goals (try omega)
  clear hK K
  simp only [Act.put, List.setIfInBounds_toArray, List.set_cons_succ, List.set_cons_zero]
  refine wpQuiet_step (fun K hK => ?_)
  rw [if_pos (by rfl)]
  refine ⟨.string s, fun W hW => quiet_ok ?_, hK _ ?_⟩
  · have q0 := (HX.out W hW).1
    go_simp
    all_goals (try omega)
  clear hK K
  simp only [Act.put, List.setIfInBounds_toArray, List.set_cons_succ, List.set_cons_zero]
  refine wpQuiet_step (fun K hK => ?_)
  rw [if_pos (by rfl)]
  refine ⟨.string (⟨p.toArray⟩ ++ s), fun W hW => quiet_ok ?_, hK _ ?_⟩
  · have q0 := (HX.out W hW).1
    go_simp
    all_goals (try omega)
  clear hK K
  simp only [Act.put, List.setIfInBounds_toArray, List.set_cons_succ, List.set_cons_zero]
  refine wpQuiet_step (fun K hK => ?_)
  rw [if_pos (by rfl)]
  refine ⟨.string (⟨p.toArray⟩ ++ s), fun W hW => quiet_ok ?_, hK _ ?_⟩
  · have q0 := (HX.out W hW).1
    go_simp
    all_goals (try omega)
  clear hK K
  simp only [Act.put, List.setIfInBounds_toArray, List.set_cons_succ, List.set_cons_zero]
  refine wpQuiet_nil ?_
  intro W hW
  go_wp2_with fail
  go_ret
  exact ⟨congrArg Ending.returned (val_strM (by rw [HR.out]; simp)), (HX.out W hW).2⟩
end Go.Proofs.YtpghpeombednkaaGreatDoor
