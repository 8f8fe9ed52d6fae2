import Derived.Test.YtoobaaklklommaaGreatDoorZ11
import Derived.Test.YtoobaaklklommaaGreatDoorZ10
import Derived.BigRegion
import Derived.Deep.QuietTactic
namespace Go.Proofs.YtoobaaklklommaaGreatDoor
open Go.RowKit



theorem box1 {w W : World} {a : Value} {t : TypeId} (hb : Below (w.alloc (.cells #[a] t)).heap.size (w.alloc (.cells #[a] t)) W) :
    W.cell? ⟨w.heap.size, 0, none⟩ = some a ∧ Below w.heap.size w W := by
  have hz : w.heap.size < (w.alloc (.cells #[a] t)).heap.size := by simp
  refine ⟨?_, ((Below.refl w.heap.size w).alloc (Nat.le_refl _) _).trans (hb.mono (Nat.le_of_lt hz))⟩
  rw [hb.cell (p := ⟨w.heap.size, 0, none⟩) hz]; simp
theorem boxW2 {w W : World} {a b : Value} {t : TypeId} (hb : Below (w.alloc (.cells #[a, b] t)).heap.size (w.alloc (.cells #[a, b] t)) W) :
    W.cell? ⟨w.heap.size, 0, none⟩ = some a ∧ W.cell? ⟨w.heap.size, 1, none⟩ = some b ∧ Below w.heap.size w W := by
  have hz : w.heap.size < (w.alloc (.cells #[a, b] t)).heap.size := by simp
  refine ⟨?_, ?_, ((Below.refl w.heap.size w).alloc (Nat.le_refl _) _).trans (hb.mono (Nat.le_of_lt hz))⟩
  · rw [hb.cell (p := ⟨w.heap.size, 0, none⟩) hz]; simp
  · rw [hb.cell (p := ⟨w.heap.size, 1, none⟩) hz]; simp

set_option maxRecDepth 20000 in
set_option maxHeartbeats 400000 in
theorem hostWire (s : ByteArray) (w : World) (hE : EnvR w) :
    Calls Tryz.prog 300 #[.agg #[.string s]] w fun e w' => e = .returned (.string ⟨(wireT s.data.toList).toArray⟩) ∧ Below w.heap.size w w' := by
  go_enter Tryz.func300, Tryz.ntmps300
  go_wp2_with fail
  refine (hostBytes_any s _ (hE.below ((Below.refl _ _).alloc (Nat.le_refl _) _)).1).mono ?_
  rintro e w1 ⟨rfl, hb1⟩
  have hbw := (box1 hb1).2
  clear hb1
  go_wp2_with fail
  go_ret
  exact ⟨rfl, hbw⟩

set_option maxRecDepth 20000 in
set_option maxHeartbeats 400000 in
theorem serialWire (n : Int) (w : World) (h0 : 0 ≤ n) (h1 : n ≤ 9223372036854775807) :
    Calls Tryz.prog 310 #[.agg #[.int .i64 n]] w fun e w' => e = .returned (.string ⟨(beB n 4).toArray⟩) ∧ Below w.heap.size w w' := by
  have HN : Hid (∀ W, Calls Tryz.prog 311 #[.int .i64 n, .int .i64 4] W fun e w' => e = .returned (.string ⟨(beB n 4).toArray⟩) ∧ Below W.heap.size W w') := fun W => numberBytes_any n 4 W h0 h1 (by omega)
  go_enter Tryz.func310, Tryz.ntmps310
  go_wp2_with fail
  refine (HN.out _).mono ?_
  rintro e w1 ⟨rfl, hb1⟩
  have hbw := (box1 hb1).2
  clear hb1
  go_wp2_with fail
  go_ret
  exact ⟨rfl, hbw⟩

set_option maxRecDepth 20000 in
set_option maxHeartbeats 400000 in
theorem addressWire (a b c d : UInt8) (w : World) :
    Calls Tryz.prog 330 #[.agg #[.int .u8 (a.toNat : Int), .int .u8 (b.toNat : Int), .int .u8 (c.toNat : Int), .int .u8 (d.toNat : Int)]] w fun e w' => e = .returned (.string ⟨#[a, b, c, d]⟩) ∧ Below w.heap.size w w' := by
  have hrow : BRow (w.alloc (.cells #[.int .u8 (a.toNat : Int), .int .u8 (b.toNat : Int), .int .u8 (c.toNat : Int), .int .u8 (d.toNat : Int)] 271)) w.heap.size [a, b, c, d] := by
    refine ⟨by simp, fun j hj => ?_⟩
    match j, hj with
    | 0, _ => exact ⟨by simp, by simp⟩
    | 1, _ => exact ⟨by simp, by simp⟩
    | 2, _ => exact ⟨by simp, by simp⟩
    | 3, _ => exact ⟨by simp, by simp⟩
  have hconv := string_of (cap := 4) hrow 4 rfl
  clear hrow
  go_enter Tryz.func330, Tryz.ntmps330
  go_wp2_with fail
  go_ret
  exact ⟨rfl, (Below.refl _ _).alloc (Nat.le_refl _) _⟩

set_option maxRecDepth 20000 in
set_option maxHeartbeats 1000000 in
theorem exchangeWire (n : Int) (s : ByteArray) (w : World) (h0 : 0 ≤ n) (h1 : n ≤ 9223372036854775807) (hs : (wireT s.data.toList).length ≤ 1000) (hE : EnvR w) :
    Calls Tryz.prog 332 #[.agg #[.int .i64 n, .string s]] w fun e w' => e = .returned (.string ⟨(beB n 2 ++ wireT s.data.toList).toArray⟩) ∧ Below w.heap.size w w' := by
  have hpl : (beB n 2).length ≤ 2 := by rw [beB_length]; omega
  have HNU0 : ∀ W, Calls Tryz.prog 311 #[.int .i64 n, .int .i64 2] W fun e w' => e = .returned (.string ⟨(beB n 2).toArray⟩) ∧ Below W.heap.size W w' := fun W => numberBytes_any n 2 W h0 h1 (by omega)
  have HBY0 : ∀ W, EnvR W → Calls Tryz.prog 301 #[.string s] W fun e w' => e = .returned (.string ⟨(wireT s.data.toList).toArray⟩) ∧ Below W.heap.size W w' := fun W hW => hostBytes_any s W hW.1
  obtain ⟨p, hp⟩ : ∃ p, p = beB n 2 := ⟨_, rfl⟩
  obtain ⟨q, hq⟩ : ∃ q, q = wireT s.data.toList := ⟨_, rfl⟩
  rw [← hp] at HNU0 hpl
  rw [← hq] at HBY0 hs
  have HNU : Hid (∀ W, Calls Tryz.prog 311 #[.int .i64 n, .int .i64 2] W fun e w' => e = .returned (.string ⟨p.toArray⟩) ∧ Below W.heap.size W w') := HNU0
  have HBY : Hid (∀ W, EnvR W → Calls Tryz.prog 301 #[.string s] W fun e w' => e = .returned (.string ⟨q.toArray⟩) ∧ Below W.heap.size W w') := HBY0
  have HR : Hid (beB n 2 ++ wireT s.data.toList = p ++ q) := by rw [hp, hq]; exact rfl
  obtain ⟨W0, hW0⟩ : ∃ W0, W0 = w.alloc (.cells #[.int .i64 n, .string s] 273) := ⟨_, rfl⟩
  have HX : Hid (∀ W, Below W0.heap.size W0 W → W.cell? ⟨w.heap.size, 0, none⟩ = some (.int .i64 n) ∧ W.cell? ⟨w.heap.size, 1, none⟩ = some (.string s) ∧ Below w.heap.size w W) := fun W h => by rw [hW0] at h; exact boxW2 h
  have HTR : Hid (∀ W W', Below W0.heap.size W0 W → Below W.heap.size W W' → Below W0.heap.size W0 W') := fun W W' h1 h2 => h1.trans (h2.mono h1.size)
  have hbd : Below W0.heap.size W0 W0.drew := (Below.refl _ _).drew
  have HW0 : Hid (w.alloc (.cells #[.int .i64 n, .string s] 273) = W0) := hW0.symm
  clear hp hq hW0 HNU0 HBY0 h0 h1
  go_enter Tryz.func332, Tryz.ntmps332
  go_wp2_with fail
  rw [HW0.out]
  refine wp_region_quiet (C := fun W => Below W0.heap.size W0 W) (by kernel_rfl) (by kernel_rfl) hbd ?_
  refine wpQuiet_step (fun K hK => ?_)
  rw [if_pos (by rfl)]
  refine ⟨.pointer (some ⟨w.heap.size, 0, none⟩), fun W hW => quiet_ok ?_, hK _ ?_⟩
  · have q0 := (HX.out W hW).1
    have q1 := (HX.out W hW).2.1
    go_simp
    all_goals (try omega)
  clear hK K
  simp only [Act.put, List.setIfInBounds_toArray, List.set_cons_succ, List.set_cons_zero]
  refine wpQuiet_step (fun K hK => ?_)
  rw [if_pos (by rfl)]
  refine ⟨.int .i64 n, fun W hW => quiet_ok ?_, hK _ ?_⟩
  · have q0 := (HX.out W hW).1
    have q1 := (HX.out W hW).2.1
    go_simp
    all_goals (try omega)
  clear hK K
  simp only [Act.put, List.setIfInBounds_toArray, List.set_cons_succ, List.set_cons_zero]
  refine wpQuiet_step (fun K hK => ?_)
  rw [if_pos (by rfl)]
  refine ⟨.string ⟨p.toArray⟩, fun W hW => quiet_call (f := 311) (args := #[.int .i64 n, .int .i64 2]) ?_ ?_, hK _ ?_⟩
  · go_simp
  · exact (HNU.out W).mono fun e w'' h => ⟨h.1, HTR.out _ _ hW h.2⟩
  clear hK K
  simp only [Act.put, List.setIfInBounds_toArray, List.set_cons_succ, List.set_cons_zero]
  refine wpQuiet_step (fun K hK => ?_)
  rw [if_pos (by rfl)]
  refine ⟨.pointer (some ⟨w.heap.size, 1, none⟩), fun W hW => quiet_ok ?_, hK _ ?_⟩
  · have q0 := (HX.out W hW).1
    have q1 := (HX.out W hW).2.1
    go_simp
    all_goals (try omega)
  clear hK K
  simp only [Act.put, List.setIfInBounds_toArray, List.set_cons_succ, List.set_cons_zero]
  refine wpQuiet_step (fun K hK => ?_)
  rw [if_pos (by rfl)]
  refine ⟨.string s, fun W hW => quiet_ok ?_, hK _ ?_⟩
  · have q0 := (HX.out W hW).1
    have q1 := (HX.out W hW).2.1
    go_simp
    all_goals (try omega)
  clear hK K
  simp only [Act.put, List.setIfInBounds_toArray, List.set_cons_succ, List.set_cons_zero]
  refine wpQuiet_step (fun K hK => ?_)
  rw [if_pos (by rfl)]
  refine ⟨.string ⟨q.toArray⟩, fun W hW => quiet_call (f := 301) (args := #[.string s]) ?_ ?_, hK _ ?_⟩
  · go_simp
  · exact (HBY.out W (hE.below (HX.out W hW).2.2)).mono fun e w'' h => ⟨h.1, HTR.out _ _ hW h.2⟩
  clear hK K
  simp only [Act.put, List.setIfInBounds_toArray, List.set_cons_succ, List.set_cons_zero]
  refine wpQuiet_step (fun K hK => ?_)
  rw [if_pos (by rfl)]
  refine ⟨.string (⟨p.toArray⟩ ++ ⟨q.toArray⟩), fun W hW => quiet_ok ?_, hK _ ?_⟩
  · have q0 := (HX.out W hW).1
    have q1 := (HX.out W hW).2.1
    go_simp
    all_goals (try omega)
  clear hK K
  simp only [Act.put, List.setIfInBounds_toArray, List.set_cons_succ, List.set_cons_zero]
  refine wpQuiet_step (fun K hK => ?_)
  rw [if_pos (by rfl)]
  refine ⟨.string (⟨p.toArray⟩ ++ ⟨q.toArray⟩), fun W hW => quiet_ok ?_, hK _ ?_⟩
  · have q0 := (HX.out W hW).1
    have q1 := (HX.out W hW).2.1
    go_simp
    all_goals (try omega)
  clear hK K
  simp only [Act.put, List.setIfInBounds_toArray, List.set_cons_succ, List.set_cons_zero]
  refine wpQuiet_nil ?_
  intro W hW
  go_wp2_with fail
  go_ret
  exact ⟨congrArg Ending.returned (val_strM (by rw [HR.out]; simp)), (HX.out W hW).2.2⟩

set_option maxRecDepth 20000 in
set_option maxHeartbeats 1000000 in
theorem noteWire (s : ByteArray) (w : World) (hs : s.size ≤ 30) :
    Calls Tryz.prog 313 #[.agg #[.string s]] w fun e w' => e = .returned (.string ⟨(UInt8.ofNat s.data.toList.length :: s.data.toList).toArray⟩) ∧ Below w.heap.size w w' := by
  have hpl : (beB (s.size : Int) 1).length ≤ 1 := by rw [beB_length]; omega
  have HNU0 : ∀ W, Calls Tryz.prog 311 #[.int .i64 (s.size : Int), .int .i64 1] W fun e w' => e = .returned (.string ⟨(beB (s.size : Int) 1).toArray⟩) ∧ Below W.heap.size W w' := fun W => numberBytes_any (s.size : Int) 1 W (by omega) (by omega) (by omega)
  have hb1 := beB_one (n := (s.size : Int)) (by omega) (by omega)
  obtain ⟨p, hp⟩ : ∃ p, p = beB (s.size : Int) 1 := ⟨_, rfl⟩
  rw [← hp] at HNU0 hpl hb1
  have HNU : Hid (∀ W, Calls Tryz.prog 311 #[.int .i64 (s.size : Int), .int .i64 1] W fun e w' => e = .returned (.string ⟨p.toArray⟩) ∧ Below W.heap.size W w') := HNU0
  have HR : Hid (UInt8.ofNat s.data.toList.length :: s.data.toList = p ++ s.data.toList) := by rw [hb1, Int.toNat_natCast, show s.data.toList.length = s.size by simp]; exact rfl
  obtain ⟨W0, hW0⟩ : ∃ W0, W0 = w.alloc (.cells #[.string s] 243) := ⟨_, rfl⟩
  have HX : Hid (∀ W, Below W0.heap.size W0 W → W.cell? ⟨w.heap.size, 0, none⟩ = some (.string s) ∧ Below w.heap.size w W) := fun W h => by rw [hW0] at h; exact box1 h
  have HTR : Hid (∀ W W', Below W0.heap.size W0 W → Below W.heap.size W W' → Below W0.heap.size W0 W') := fun W W' h1 h2 => h1.trans (h2.mono h1.size)
  have hbd : Below W0.heap.size W0 W0.drew := (Below.refl _ _).drew
  have HW0 : Hid (w.alloc (.cells #[.string s] 243) = W0) := hW0.symm
  clear hp hW0 HNU0 hb1
  go_enter Tryz.func313, Tryz.ntmps313
  go_wp2_with fail
  rw [HW0.out]
  refine wp_region_quiet (C := fun W => Below W0.heap.size W0 W) (by kernel_rfl) (by kernel_rfl) hbd ?_
  refine wpQuiet_step (fun K hK => ?_)
  rw [if_pos (by rfl)]
  refine ⟨.pointer (some ⟨w.heap.size, 0, none⟩), fun W hW => quiet_ok ?_, hK _ ?_⟩
  · have q0 := (HX.out W hW).1
    go_simp
    all_goals (try omega)
  clear hK K
  simp only [Act.put, List.setIfInBounds_toArray, List.set_cons_succ, List.set_cons_zero]
  refine wpQuiet_step (fun K hK => ?_)
  rw [if_pos (by rfl)]
  refine ⟨.string s, fun W hW => quiet_ok ?_, hK _ ?_⟩
  · have q0 := (HX.out W hW).1
    go_simp
    all_goals (try omega)
  clear hK K
  simp only [Act.put, List.setIfInBounds_toArray, List.set_cons_succ, List.set_cons_zero]
  refine wpQuiet_step (fun K hK => ?_)
  rw [if_pos (by rfl)]
  refine ⟨.int .i64 (s.size : Int), fun W hW => quiet_ok ?_, hK _ ?_⟩
  · have q0 := (HX.out W hW).1
    go_simp
    all_goals (try omega)
  clear hK K
  simp only [Act.put, List.setIfInBounds_toArray, List.set_cons_succ, List.set_cons_zero]
  refine wpQuiet_step (fun K hK => ?_)
  rw [if_pos (by rfl)]
  refine ⟨.string ⟨p.toArray⟩, fun W hW => quiet_call (f := 311) (args := #[.int .i64 (s.size : Int), .int .i64 1]) ?_ ?_, hK _ ?_⟩
  · go_simp
  · exact (HNU.out W).mono fun e w'' h => ⟨h.1, HTR.out _ _ hW h.2⟩
  clear hK K
  simp only [Act.put, List.setIfInBounds_toArray, List.set_cons_succ, List.set_cons_zero]
  refine wpQuiet_step (fun K hK => ?_)
  rw [if_pos (by rfl)]
  refine ⟨.pointer (some ⟨w.heap.size, 0, none⟩), fun W hW => quiet_ok ?_, hK _ ?_⟩
  · have q0 := (HX.out W hW).1
    go_simp
    all_goals (try omega)
  clear hK K
  simp only [Act.put, List.setIfInBounds_toArray, List.set_cons_succ, List.set_cons_zero]
  refine wpQuiet_step (fun K hK => ?_)
  rw [if_pos (by rfl)]
  refine ⟨.string s, fun W hW => quiet_ok ?_, hK _ ?_⟩
  · have q0 := (HX.out W hW).1
    go_simp
    all_goals (try omega)
  clear hK K
  simp only [Act.put, List.setIfInBounds_toArray, List.set_cons_succ, List.set_cons_zero]
  refine wpQuiet_step (fun K hK => ?_)
  rw [if_pos (by rfl)]
  refine ⟨.string (⟨p.toArray⟩ ++ s), fun W hW => quiet_ok ?_, hK _ ?_⟩
  · have q0 := (HX.out W hW).1
    go_simp
    all_goals (try omega)
  clear hK K
  simp only [Act.put, List.setIfInBounds_toArray, List.set_cons_succ, List.set_cons_zero]
  refine wpQuiet_step (fun K hK => ?_)
  rw [if_pos (by rfl)]
  refine ⟨.string (⟨p.toArray⟩ ++ s), fun W hW => quiet_ok ?_, hK _ ?_⟩
  · have q0 := (HX.out W hW).1
    go_simp
    all_goals (try omega)
  clear hK K
  simp only [Act.put, List.setIfInBounds_toArray, List.set_cons_succ, List.set_cons_zero]
  refine wpQuiet_nil ?_
  intro W hW
  go_wp2_with fail
  go_ret
  exact ⟨congrArg Ending.returned (val_strM (by rw [HR.out]; simp)), (HX.out W hW).2⟩
end Go.Proofs.YtoobaaklklommaaGreatDoor

namespace Go.Proofs.YtoobaaklklommaaGreatDoor
open Go.RowKit

theorem wireT_name {l : List UInt8} (h : nameB l = true) : wireT l = wireL (labelsOf l) := if_pos h
theorem wireT_len (l : List UInt8) : (wireT l).length ≤ 1000 := by
  unfold wireT
  split
  · rename_i h
    obtain ⟨h1, h2⟩ := name_labels h
    have : ∀ P : List (List UInt8), (∀ p ∈ P, p.length ≤ 20) → (wireL P).length ≤ 21 * P.length + 1 := by
      intro P
      induction P with
      | nil => intro _; simp [wireL]
      | cons c r ih => intro hh; have a1 := hh c (by simp); have a2 := ih (fun q hq => hh q (by simp [hq])); unfold wireL; simp; omega
    have := this (labelsOf l) (fun p hp => (h1 p hp).1)
    omega
  · simp
theorem targ_nameB {l : List UInt8} (h : targB l = true) : nameB l = true := by unfold targB at h; simp only [Bool.and_eq_true] at h; exact h.1
def bytesVal (D : Option (List UInt8)) : Ending := .returned (.tuple #[.string ⟨(D.getD []).toArray⟩, .bool D.isSome])
theorem bytes_yes {D : Option (List UInt8)} {y : List UInt8} (h : D = some y) : Ending.returned (.tuple #[.string ⟨y.toArray⟩, .bool true]) = bytesVal D := by rw [h]; rfl
theorem bytes_no {D : Option (List UInt8)} (h : D = none) : Ending.returned (.tuple #[.string ⟨#[]⟩, .bool false]) = bytesVal D := by rw [h]; rfl

set_option maxRecDepth 20000 in
set_option maxHeartbeats 2000000 in
theorem iDataBytes_any (k : Int) (s : ByteArray) (w : World) (hs : s.size ≤ 1048576) (hE : EnvR w) :
    Calls Tryz.prog 246 #[.int .i64 k, .string s] w fun e w' => e = bytesVal (dataP k s.data.toList) ∧ Below w.heap.size w w' := by
  have HP : Hid (Calls Tryz.prog 207 #[.int .i64 k, .string s] w fun e w' => ParseRes w k s.data.toList e w') := parseData_any k s w hs hE
  cases hD : dataP k s.data.toList with
  | none =>
    have HD : Hid (dataP k s.data.toList = none) := hD
    clear hD
    go_enter Tryz.func246, Tryz.ntmps246
    go_wp2_with fail
    refine HP.out.mono ?_
    rintro e w1 ⟨v, rfl, _, hb⟩
    rw [HD.out]
    go_wp2_with fail
    go_ret2
    exact ⟨rfl, hb⟩
  | some y =>
    have HD : Hid (dataP k s.data.toList = some y) := hD
    clear hD
    go_enter Tryz.func246, Tryz.ntmps246
    go_wp2_with fail
    refine HP.out.mono ?_
    rintro e w1 ⟨v, rfl, hv, hb⟩
    have hv := hv (by rw [HD.out]; rfl)
    rw [HD.out]
    have hE1 := hE.below hb
    rcases hv with ⟨rfl, z, hz, rfl⟩ | ⟨hk, ht, rfl⟩ | ⟨rfl, hn, rfl⟩ | ⟨rfl, a, r, hl, ha, hn, ht, rfl⟩ | ⟨rfl, hn, rfl⟩
    · have hzy : z = y := by have := HD.out; rw [show dataP 1 s.data.toList = dataA s.data.toList from if_pos rfl, hz] at this; exact Option.some.inj this
      subst hzy
      obtain ⟨a, b, c, d, rfl⟩ := four_of (y := z) (by
        unfold dataA at hz; split at hz
        · rename_i hc; rw [← Option.some.inj hz, List.length_map]; exact hc.2
        · cases hz)
      clear hz
      unfold addrV
      simp only [List.map_cons, List.map_nil]
      go_wp2_with fail
      refine (addressWire a b c d w1).mono ?_
      rintro e w2 ⟨rfl, hb2⟩
      go_wp2_with fail
      go_ret2
      exact ⟨rfl, hb.trans (hb2.mono hb.size)⟩
    · have hy : wireT s.data.toList = y := by
        have := HD.out; rw [dataP_N hk, show dataN s.data.toList = some (wireL (labelsOf s.data.toList)) from if_pos ht] at this
        rw [wireT_name (targ_nameB ht)]; exact Option.some.inj this
      have HY : Hid (wireT s.data.toList = y) := hy
      clear hy hk ht
      unfold hostV
      go_wp2_with fail
      refine (hostWire _ w1 hE1).mono ?_
      rintro e w2 ⟨rfl, hb2⟩
      rw [show (⟨s.data.toList.toArray⟩ : ByteArray).data.toList = s.data.toList from rfl, HY.out]
      go_wp2_with fail
      go_ret2
      exact ⟨rfl, hb.trans (hb2.mono hb.size)⟩
    · have hy : beB (intV s.data.toList) 4 = y := by
        have := HD.out; rw [dataP_S, show dataS s.data.toList = some (beB (intV s.data.toList) 4) from if_pos hn] at this
        exact Option.some.inj this
      have HY : Hid (beB (intV s.data.toList) 4 = y) := hy
      have hr1 := (num_atoi hn).2.1
      have hr2 := (num_atoi hn).2.2.1
      obtain ⟨n, hnn⟩ : ∃ n, n = intV s.data.toList := ⟨_, rfl⟩
      rw [← hnn] at HY hr1 hr2
      clear hy hn
      unfold serV
      rw [← hnn]
      clear hnn
      go_wp2_with fail
      refine (serialWire n w1 hr1 (by omega)).mono ?_
      rintro e w2 ⟨rfl, hb2⟩
      rw [HY.out]
      go_wp2_with fail
      go_ret2
      exact ⟨rfl, hb.trans (hb2.mono hb.size)⟩
    · have hy : beB (intV a) 2 ++ wireT r = y := by
        have := HD.out; rw [dataP_M, hl, exch_at ha, if_pos ⟨hn, ht⟩] at this
        rw [wireT_name (targ_nameB ht)]; exact Option.some.inj this
      have HY : Hid (beB (intV a) 2 ++ wireT r = y) := hy
      have hr1 := (num_atoi hn).2.1
      have hr2 := (num_atoi hn).2.2.1
      have hwl := wireT_len r
      have HEX : Hid (∀ W, EnvR W → Calls Tryz.prog 332 #[.agg #[.int .i64 (intV a), .string ⟨r.toArray⟩]] W fun e w' => e = .returned (.string ⟨(beB (intV a) 2 ++ wireT r).toArray⟩) ∧ Below W.heap.size W w') := fun W hW => exchangeWire (intV a) ⟨r.toArray⟩ W hr1 (by omega) hwl hW
      obtain ⟨n, hnn⟩ : ∃ n, n = intV a := ⟨_, rfl⟩
      rw [← hnn] at HY HEX
      clear hy hn hl ht hr1 hr2 hwl
      unfold exV
      rw [← hnn]
      clear hnn
      go_wp2_with fail
      refine (HEX.out w1 hE1).mono ?_
      rintro e w2 ⟨rfl, hb2⟩
      rw [HY.out]
      go_wp2_with fail
      go_ret2
      exact ⟨rfl, hb.trans (hb2.mono hb.size)⟩
    · have h30 : s.data.toList.length ≤ 30 := by unfold noteB at hn; simp only [Bool.and_eq_true, decide_eq_true_eq] at hn; exact hn.1
      have hy : UInt8.ofNat s.data.toList.length :: s.data.toList = y := by
        have := HD.out
        rw [dataP_T, show dataT s.data.toList = some (UInt8.ofNat s.data.toList.length :: s.data.toList) from if_pos ⟨by unfold noteB at hn; simp only [Bool.and_eq_true] at hn; exact hn.2, h30⟩] at this
        exact Option.some.inj this
      have HY : Hid (UInt8.ofNat s.data.toList.length :: s.data.toList = y) := hy
      have h30' : s.size ≤ 30 := by have : s.data.toList.length = s.size := by simp
                                    omega
      clear hy hn h30
      unfold noteV
      go_wp2_with fail
      refine (noteWire _ w1 h30').mono ?_
      rintro e w2 ⟨rfl, hb2⟩
      rw [show (⟨s.data.toList.toArray⟩ : ByteArray).data.toList = s.data.toList from rfl, HY.out]
      go_wp2_with fail
      go_ret2
      exact ⟨rfl, hb.trans (hb2.mono hb.size)⟩
end Go.Proofs.YtoobaaklklommaaGreatDoor
