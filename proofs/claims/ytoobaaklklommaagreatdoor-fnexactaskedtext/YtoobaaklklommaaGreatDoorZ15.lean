import Derived.Test.YtoobaaklklommaaGreatDoorZ14
import Derived.Test.YtoobaaklklommaaGreatDoorZ10
namespace Go.Proofs.YtoobaaklklommaaGreatDoor
open Go.RowKit

theorem rrow_value {w : World} {v : Value} {L : List (List UInt8 × Int × Int × List UInt8)} (h : RRow w v L) : ∃ a cap, v = .slice a L.length cap ∧ L.length ≤ cap ∧ cap ≤ 2 ^ 63 - 1 ∧ Hid (0 < L.length → ∃ b o, a = some ⟨b, o, none⟩ ∧ b < w.heap.size ∧ ∀ j, (hj : j < L.length) → RecAt w b (o + j * 4) L[j]) := by
  obtain ⟨a, cap, rfl, h1, h2, h3⟩ := h
  unfold maxLen at h2
  refine ⟨a, cap, rfl, h1, h2, fun hp => ?_⟩
  rcases h3 with rfl | h3
  · simp at hp
  · exact h3
set_option maxRecDepth 20000 in
set_option maxHeartbeats 400000 in
theorem eqRecordQ_same (x : (List UInt8 × Int × Int × List UInt8)) (w : World) :
    Calls Tryz.prog 128 #[.agg #[.string ⟨x.1.toArray⟩, .int .i64 x.2.1, .int .i64 x.2.2.1, .string ⟨x.2.2.2.toArray⟩], .agg #[.string ⟨x.1.toArray⟩, .int .i64 x.2.1, .int .i64 x.2.2.1, .string ⟨x.2.2.2.toArray⟩]] w fun e w' => e = .returned (.bool true) ∧ Below w.heap.size w w' := by
  have e1 : ((⟨x.1.toArray⟩ : ByteArray).toList != (⟨x.1.toArray⟩ : ByteArray).toList) = false := by simp
  have e2 : ((⟨x.2.2.2.toArray⟩ : ByteArray).toList != (⟨x.2.2.2.toArray⟩ : ByteArray).toList) = false := by simp
  have e3 : (x.2.1 != x.2.1) = false := by simp
  have e4 : (x.2.2.1 != x.2.2.1) = false := by simp
  go_enter Tryz.func128, Tryz.ntmps128
  go_wp2_with fail
  go_ret
  exact ⟨rfl, ((Below.refl _ _).alloc (Nat.le_refl _) _).alloc (by simp) _⟩
set_option maxRecDepth 20000 in
set_option maxHeartbeats 1000000 in
theorem eqRecordS_same (v1 v2 : Value) (L : List (List UInt8 × Int × Int × List UInt8)) (w : World) (h1 : RRow w v1 L) (h2 : RRow w v2 L) :
    Calls Tryz.prog 88 #[v1, v2] w fun e w' => e = .returned (.bool true) ∧ Below w.heap.size w w' := by
  obtain ⟨a1, cap1, rfl, hc1, hm1, HR1⟩ := rrow_value h1
  obtain ⟨a2, cap2, rfl, hc2, hm2, HR2⟩ := rrow_value h2
  have HEQ : Hid (∀ (x : (List UInt8 × Int × Int × List UInt8)) W, Calls Tryz.prog 128 #[.agg #[.string ⟨x.1.toArray⟩, .int .i64 x.2.1, .int .i64 x.2.2.1, .string ⟨x.2.2.2.toArray⟩], .agg #[.string ⟨x.1.toArray⟩, .int .i64 x.2.1, .int .i64 x.2.2.1, .string ⟨x.2.2.2.toArray⟩]] W fun e w' => e = .returned (.bool true) ∧ Below W.heap.size W w') := fun x W => eqRecordQ_same x W
  have el : ((L.length : Int) != (L.length : Int)) = false := by simp
  clear h1 h2
  go_enter Tryz.func88, Tryz.ntmps88
  go_wp2_with fail
  go_loopw [5] (fun i wr => ∃ k : Nat, k ≤ L.length ∧ i = .int .i64 (k : Int) ∧ Below w.heap.size w wr) (fun i _ => L.length - (intOf i).toNat)
  case atStart => exact ⟨0, Nat.zero_le _, rfl, Below.refl _ _⟩
  case round =>
    obtain ⟨k, hk, rfl, hb⟩ := hrel
    by_cases hlt : k < L.length
    · obtain ⟨b1, o1, ha1, hbl1, hcel1⟩ := HR1.out (by omega)
      obtain ⟨b2, o2, ha2, hbl2, hcel2⟩ := HR2.out (by omega)
      rw [ha1, ha2]
      have q1 := hcel1 k hlt
      have q2 := hcel2 k hlt
      obtain ⟨x, hx⟩ : ∃ x, x = L[k]'hlt := ⟨_, rfl⟩
      rw [← hx] at q1 q2
      have HC : Hid (∀ W, Below w.heap.size w W → RecAt W b1 (o1 + k * 4) x ∧ RecAt W b2 (o2 + k * 4) x) := fun W hW => ⟨q1.kept hW, q2.kept hW⟩
      have hki : (k : Int) < (L.length : Int) := by omega
      have hbd := hb.drew
      unfold RecAt at HC
      clear hcel1 hcel2 hx q1 q2
      go_wp2_with fail
      refine wp_region_quiet (C := fun W => Below w.heap.size w W) (by kernel_rfl) (by kernel_rfl) hbd ?_
      refine wpQuiet_step (fun K hK => ?_)
      rw [if_pos (by rfl)]
      refine ⟨.slice (some ⟨b1, o1, none⟩) L.length cap1, fun W hW => quiet_ok ?_, hK _ ?_⟩
      · have f := HC.out W hW
        obtain ⟨⟨c0, c1, c2, c3⟩, ⟨e0, e1, e2, e3⟩⟩ := f
        go_simp
        all_goals (try omega)
      clear hK K
      simp only [Act.put, List.setIfInBounds_toArray, List.set_cons_succ, List.set_cons_zero]
      refine wpQuiet_step (fun K hK => ?_)
      rw [if_pos (by rfl)]
      refine ⟨.int .i64 (k : Int), fun W hW => quiet_ok ?_, hK _ ?_⟩
      · have f := HC.out W hW
        obtain ⟨⟨c0, c1, c2, c3⟩, ⟨e0, e1, e2, e3⟩⟩ := f
        go_simp
        all_goals (try omega)
      clear hK K
      simp only [Act.put, List.setIfInBounds_toArray, List.set_cons_succ, List.set_cons_zero]
      refine wpQuiet_step (fun K hK => ?_)
      rw [if_pos (by rfl)]
      refine ⟨.pointer (some ⟨b1, o1 + k * 4, none⟩), fun W hW => quiet_ok ?_, hK _ ?_⟩
      · have f := HC.out W hW
        obtain ⟨⟨c0, c1, c2, c3⟩, ⟨e0, e1, e2, e3⟩⟩ := f
        go_simp
        all_goals (try omega)
      clear hK K
      simp only [Act.put, List.setIfInBounds_toArray, List.set_cons_succ, List.set_cons_zero]
      refine wpQuiet_step (fun K hK => ?_)
      rw [if_pos (by rfl)]
      refine ⟨.agg #[.string ⟨x.1.toArray⟩, .int .i64 x.2.1, .int .i64 x.2.2.1, .string ⟨x.2.2.2.toArray⟩], fun W hW => quiet_ok ?_, hK _ ?_⟩
      · have f := HC.out W hW
        obtain ⟨⟨c0, c1, c2, c3⟩, ⟨e0, e1, e2, e3⟩⟩ := f
        go_simp
        all_goals (try omega)
      clear hK K
      simp only [Act.put, List.setIfInBounds_toArray, List.set_cons_succ, List.set_cons_zero]
      refine wpQuiet_step (fun K hK => ?_)
      rw [if_pos (by rfl)]
      refine ⟨.slice (some ⟨b2, o2, none⟩) L.length cap2, fun W hW => quiet_ok ?_, hK _ ?_⟩
      · have f := HC.out W hW
        obtain ⟨⟨c0, c1, c2, c3⟩, ⟨e0, e1, e2, e3⟩⟩ := f
        go_simp
        all_goals (try omega)
      clear hK K
      simp only [Act.put, List.setIfInBounds_toArray, List.set_cons_succ, List.set_cons_zero]
      refine wpQuiet_step (fun K hK => ?_)
      rw [if_pos (by rfl)]
      refine ⟨.int .i64 (k : Int), fun W hW => quiet_ok ?_, hK _ ?_⟩
      · have f := HC.out W hW
        obtain ⟨⟨c0, c1, c2, c3⟩, ⟨e0, e1, e2, e3⟩⟩ := f
        go_simp
        all_goals (try omega)
      clear hK K
      simp only [Act.put, List.setIfInBounds_toArray, List.set_cons_succ, List.set_cons_zero]
      refine wpQuiet_step (fun K hK => ?_)
      rw [if_pos (by rfl)]
      refine ⟨.pointer (some ⟨b2, o2 + k * 4, none⟩), fun W hW => quiet_ok ?_, hK _ ?_⟩
      · have f := HC.out W hW
        obtain ⟨⟨c0, c1, c2, c3⟩, ⟨e0, e1, e2, e3⟩⟩ := f
        go_simp
        all_goals (try omega)
      clear hK K
      simp only [Act.put, List.setIfInBounds_toArray, List.set_cons_succ, List.set_cons_zero]
      refine wpQuiet_step (fun K hK => ?_)
      rw [if_pos (by rfl)]
      refine ⟨.agg #[.string ⟨x.1.toArray⟩, .int .i64 x.2.1, .int .i64 x.2.2.1, .string ⟨x.2.2.2.toArray⟩], fun W hW => quiet_ok ?_, hK _ ?_⟩
      · have f := HC.out W hW
        obtain ⟨⟨c0, c1, c2, c3⟩, ⟨e0, e1, e2, e3⟩⟩ := f
        go_simp
        all_goals (try omega)
      clear hK K
      simp only [Act.put, List.setIfInBounds_toArray, List.set_cons_succ, List.set_cons_zero]
      refine wpQuiet_step (fun K hK => ?_)
      rw [if_pos (by rfl)]
      refine ⟨.bool true, fun W hW => quiet_call (f := 128) (args := #[.agg #[.string ⟨x.1.toArray⟩, .int .i64 x.2.1, .int .i64 x.2.2.1, .string ⟨x.2.2.2.toArray⟩], .agg #[.string ⟨x.1.toArray⟩, .int .i64 x.2.1, .int .i64 x.2.2.1, .string ⟨x.2.2.2.toArray⟩]]) ?_ ?_, hK _ ?_⟩
      · go_simp
      · exact (HEQ.out x W).mono fun e w'' h => ⟨h.1, hW.trans (h.2.mono hW.size)⟩
      clear hK K
      simp only [Act.put, List.setIfInBounds_toArray, List.set_cons_succ, List.set_cons_zero]
      refine wpQuiet_step (fun K hK => ?_)
      rw [if_pos (by rfl)]
      refine ⟨.bool false, fun W hW => quiet_ok ?_, hK _ ?_⟩
      · have f := HC.out W hW
        obtain ⟨⟨c0, c1, c2, c3⟩, ⟨e0, e1, e2, e3⟩⟩ := f
        go_simp
        all_goals (try omega)
      clear hK K
      simp only [Act.put, List.setIfInBounds_toArray, List.set_cons_succ, List.set_cons_zero]
      refine wpQuiet_nil ?_
      intro W hW
      go_wp2_with fail
      go_roundw
      case rel => exact ⟨k + 1, by omega, by go_num, hW⟩
      case measure => simp [intOf]; omega
    · go_wp2_with fail
      go_ret
      exact ⟨rfl, hb⟩
set_option maxRecDepth 20000 in
set_option maxHeartbeats 2000000 in
theorem heldRecordS_any (v : Value) (n K : Nat) (w : World) (hr : RRow w v (mrks K n)) (hL : n ≤ 1048576) (hK0 : 0 < K) (hK : K ≤ 1073741824) :
    Calls Tryz.prog 102 #[v, .int .i64 (K : Int)] w fun e w' => e = .returned (.int .i64 ((K : Int) + 4 * (n : Int))) ∧ Below w.heap.size w w' := by
  obtain ⟨a, cap, rfl, hcap, hmax, HROW⟩ := rrow_value hr
  rw [mrks_length] at hcap ⊢
  have HMT : Hid (∀ (m : Int) (M : Nat) W, m = (M : Int) → 0 < m → m ≤ 4294967280 → Calls Tryz.prog 101 #[.int .i64 m] W fun e w' => e = .returned (.string ⟨(mark M).toArray⟩) ∧ Below W.heap.size W w') := fun m M W h1 h2 h3 => markText_any m M W h1 h2 h3
  clear hr
  go_enter Tryz.func102, Tryz.ntmps102
  go_wp2_with fail
  go_loopw [1, 5] (fun q i wr => ∃ k : Nat, k ≤ n ∧ i = .int .i64 (k : Int) ∧ q = .int .i64 ((K : Int) + 4 * (k : Int)) ∧ Below w.heap.size w wr) (fun _ i _ => n - (intOf i).toNat)
  case atStart => exact ⟨0, Nat.zero_le _, rfl, by simp, Below.refl _ _⟩
  case round =>
    obtain ⟨k, hk, rfl, rfl, hb⟩ := hrel
    by_cases hlt : k < n
    · obtain ⟨b, o, ha, hbl, hc⟩ := HROW.out (by rw [mrks_length]; omega)
      rw [ha]
      have hcx := hc k (by rw [mrks_length]; exact hlt)
      rw [mrks_get K n k hlt] at hcx
      have HC : Hid (∀ W, Below w.heap.size w W → RecAt W b (o + k * 4) (mark (K + 4 * k), (K : Int) + 4 * (k : Int) + 1, (K : Int) + 4 * (k : Int) + 1 + 1, mark (K + 4 * k + 3))) := fun W hW => by
        have h := hcx.kept hW
        rw [show mrk K k = (mark (K + 4 * k), (K : Int) + 4 * (k : Int) + 1, (K : Int) + 4 * (k : Int) + 1 + 1, mark (K + 4 * k + 3)) by unfold mrk; show ((_, _, _, _) : (List UInt8 × Int × Int × List UInt8)) = _; congr 3 <;> omega] at h
        exact h
      unfold RecAt at HC
      obtain ⟨y, hy⟩ : ∃ y, y = mark (K + 4 * k) := ⟨_, rfl⟩
      obtain ⟨z, hz⟩ : ∃ z, z = mark (K + 4 * k + 3) := ⟨_, rfl⟩
      obtain ⟨m, hm⟩ : ∃ m : Int, m = (K : Int) + 4 * (k : Int) := ⟨_, rfl⟩
      rw [← hm, ← hy, ← hz] at HC
      rw [← hm]
      have HM1 : Hid (∀ W, Calls Tryz.prog 101 #[.int .i64 m] W fun e w' => e = .returned (.string ⟨y.toArray⟩) ∧ Below W.heap.size W w') := fun W => by rw [hy]; exact HMT.out m (K + 4 * k) W (by omega) (by omega) (by omega)
      have HM2 : Hid (∀ W, Calls Tryz.prog 101 #[.int .i64 (m + 1 + 1 + 1)] W fun e w' => e = .returned (.string ⟨z.toArray⟩) ∧ Below W.heap.size W w') := fun W => by rw [hz]; exact HMT.out (m + 1 + 1 + 1) (K + 4 * k + 3) W (by omega) (by omega) (by omega)
      have HMK : Hid (m = (K : Int) + 4 * (k : Int)) := hm
      have hm0 : 0 < m := by omega
      have hm1 : m ≤ 4294967000 := by omega
      have hki : (k : Int) < (n : Int) := by omega
      have ey : (y != y) = false := by simp
      have ez : (z != z) = false := by simp
      have et1 : (m + 1 != m + 1) = false := by simp
      have et2 : (m + 1 + 1 != m + 1 + 1) = false := by simp
      have hbd := hb.drew
      clear hc hcx hy hz hm
      go_wp2_with fail
      refine wp_region_quiet (C := fun W => Below w.heap.size w W) (by kernel_rfl) (by kernel_rfl) hbd ?_
      refine wpQuiet_step (fun K hK => ?_)
      rw [if_pos (by rfl)]
      refine ⟨.slice (some ⟨b, o, none⟩) n cap, fun W hW => quiet_ok ?_, hK _ ?_⟩
      · have f := HC.out W hW
        obtain ⟨c0, c1, c2, c3⟩ := f
        go_simp
        all_goals (try omega)
      clear hK K
      simp only [Act.put, List.setIfInBounds_toArray, List.set_cons_succ, List.set_cons_zero]
      refine wpQuiet_step (fun K hK => ?_)
      rw [if_pos (by rfl)]
      refine ⟨.int .i64 (k : Int), fun W hW => quiet_ok ?_, hK _ ?_⟩
      · have f := HC.out W hW
        obtain ⟨c0, c1, c2, c3⟩ := f
        go_simp
        all_goals (try omega)
      clear hK K
      simp only [Act.put, List.setIfInBounds_toArray, List.set_cons_succ, List.set_cons_zero]
      refine wpQuiet_step (fun K hK => ?_)
      rw [if_pos (by rfl)]
      refine ⟨.pointer (some ⟨b, o + k * 4, none⟩), fun W hW => quiet_ok ?_, hK _ ?_⟩
      · have f := HC.out W hW
        obtain ⟨c0, c1, c2, c3⟩ := f
        go_simp
        all_goals (try omega)
      clear hK K
      simp only [Act.put, List.setIfInBounds_toArray, List.set_cons_succ, List.set_cons_zero]
      refine wpQuiet_step (fun K hK => ?_)
      rw [if_pos (by rfl)]
      refine ⟨.pointer (some ⟨b, o + k * 4, none⟩), fun W hW => quiet_ok ?_, hK _ ?_⟩
      · have f := HC.out W hW
        obtain ⟨c0, c1, c2, c3⟩ := f
        go_simp
        all_goals (try omega)
      clear hK K
      simp only [Act.put, List.setIfInBounds_toArray, List.set_cons_succ, List.set_cons_zero]
      refine wpQuiet_step (fun K hK => ?_)
      rw [if_pos (by rfl)]
      refine ⟨.string ⟨y.toArray⟩, fun W hW => quiet_ok ?_, hK _ ?_⟩
      · have f := HC.out W hW
        obtain ⟨c0, c1, c2, c3⟩ := f
        go_simp
        all_goals (try omega)
      clear hK K
      simp only [Act.put, List.setIfInBounds_toArray, List.set_cons_succ, List.set_cons_zero]
      refine wpQuiet_step (fun K hK => ?_)
      rw [if_pos (by rfl)]
      refine ⟨.int .i64 m, fun W hW => quiet_ok ?_, hK _ ?_⟩
      · have f := HC.out W hW
        obtain ⟨c0, c1, c2, c3⟩ := f
        go_simp
        all_goals (try omega)
      clear hK K
      simp only [Act.put, List.setIfInBounds_toArray, List.set_cons_succ, List.set_cons_zero]
      refine wpQuiet_step (fun K hK => ?_)
      rw [if_pos (by rfl)]
      refine ⟨.string ⟨y.toArray⟩, fun W hW => quiet_call (f := 101) (args := #[.int .i64 m]) ?_ ?_, hK _ ?_⟩
      · go_simp
      · exact (HM1.out W).mono fun e w'' h => ⟨h.1, hW.trans (h.2.mono hW.size)⟩
      clear hK K
      simp only [Act.put, List.setIfInBounds_toArray, List.set_cons_succ, List.set_cons_zero]
      refine wpQuiet_step (fun K hK => ?_)
      rw [if_pos (by rfl)]
      refine ⟨.bool false, fun W hW => quiet_ok ?_, hK _ ?_⟩
      · have f := HC.out W hW
        obtain ⟨c0, c1, c2, c3⟩ := f
        go_simp
        all_goals (try omega)
      clear hK K
      simp only [Act.put, List.setIfInBounds_toArray, List.set_cons_succ, List.set_cons_zero]
      refine wpQuiet_nil ?_
      intro w1 hb1
      have f1 := HC.out w1 hb1
      obtain ⟨c0, c1, c2, c3⟩ := f1
      have hbd := hb1.drew
      clear hb
      go_wp2_with fail
      refine wp_region_quiet (C := fun W => Below w.heap.size w W) (by kernel_rfl) (by kernel_rfl) hbd ?_
      refine wpQuiet_step (fun K hK => ?_)
      rw [if_pos (by rfl)]
      refine ⟨.slice (some ⟨b, o, none⟩) n cap, fun W hW => quiet_ok ?_, hK _ ?_⟩
      · have f := HC.out W hW
        obtain ⟨c0, c1, c2, c3⟩ := f
        go_simp
        all_goals (try omega)
      clear hK K
      simp only [Act.put, List.setIfInBounds_toArray, List.set_cons_succ, List.set_cons_zero]
      refine wpQuiet_step (fun K hK => ?_)
      rw [if_pos (by rfl)]
      refine ⟨.int .i64 (k : Int), fun W hW => quiet_ok ?_, hK _ ?_⟩
      · have f := HC.out W hW
        obtain ⟨c0, c1, c2, c3⟩ := f
        go_simp
        all_goals (try omega)
      clear hK K
      simp only [Act.put, List.setIfInBounds_toArray, List.set_cons_succ, List.set_cons_zero]
      refine wpQuiet_step (fun K hK => ?_)
      rw [if_pos (by rfl)]
      refine ⟨.pointer (some ⟨b, o + k * 4, none⟩), fun W hW => quiet_ok ?_, hK _ ?_⟩
      · have f := HC.out W hW
        obtain ⟨c0, c1, c2, c3⟩ := f
        go_simp
        all_goals (try omega)
      clear hK K
      simp only [Act.put, List.setIfInBounds_toArray, List.set_cons_succ, List.set_cons_zero]
      refine wpQuiet_step (fun K hK => ?_)
      rw [if_pos (by rfl)]
      refine ⟨.pointer (some ⟨b, o + k * 4 + 3, none⟩), fun W hW => quiet_ok ?_, hK _ ?_⟩
      · have f := HC.out W hW
        obtain ⟨c0, c1, c2, c3⟩ := f
        go_simp
        all_goals (try omega)
      clear hK K
      simp only [Act.put, List.setIfInBounds_toArray, List.set_cons_succ, List.set_cons_zero]
      refine wpQuiet_step (fun K hK => ?_)
      rw [if_pos (by rfl)]
      refine ⟨.string ⟨z.toArray⟩, fun W hW => quiet_ok ?_, hK _ ?_⟩
      · have f := HC.out W hW
        obtain ⟨c0, c1, c2, c3⟩ := f
        go_simp
        all_goals (try omega)
      clear hK K
      simp only [Act.put, List.setIfInBounds_toArray, List.set_cons_succ, List.set_cons_zero]
      refine wpQuiet_step (fun K hK => ?_)
      rw [if_pos (by rfl)]
      refine ⟨.int .i64 (m + 1 + 1 + 1), fun W hW => quiet_ok ?_, hK _ ?_⟩
      · have f := HC.out W hW
        obtain ⟨c0, c1, c2, c3⟩ := f
        go_simp
        all_goals (try omega)
      clear hK K
      simp only [Act.put, List.setIfInBounds_toArray, List.set_cons_succ, List.set_cons_zero]
      refine wpQuiet_step (fun K hK => ?_)
      rw [if_pos (by rfl)]
      refine ⟨.string ⟨z.toArray⟩, fun W hW => quiet_call (f := 101) (args := #[.int .i64 (m + 1 + 1 + 1)]) ?_ ?_, hK _ ?_⟩
      · go_simp
      · exact (HM2.out W).mono fun e w'' h => ⟨h.1, hW.trans (h.2.mono hW.size)⟩
      clear hK K
      simp only [Act.put, List.setIfInBounds_toArray, List.set_cons_succ, List.set_cons_zero]
      refine wpQuiet_step (fun K hK => ?_)
      rw [if_pos (by rfl)]
      refine ⟨.bool false, fun W hW => quiet_ok ?_, hK _ ?_⟩
      · have f := HC.out W hW
        obtain ⟨c0, c1, c2, c3⟩ := f
        go_simp
        all_goals (try omega)
      clear hK K
      simp only [Act.put, List.setIfInBounds_toArray, List.set_cons_succ, List.set_cons_zero]
      refine wpQuiet_nil ?_
      intro w2 hb2
      clear c0 c1 c2 c3 hb1
      go_wp2_with fail
      go_roundw
      case rel => exact ⟨k + 1, by omega, by go_num, congrArg (Value.int .i64) (by have := HMK.out; omega), hb2⟩
      case measure => simp [intOf]; omega
    · have HK : Hid (k = n) := (show k = n by omega)
      go_wp2_with fail
      go_ret
      exact ⟨ret_int (by rw [HK.out]), hb⟩
end Go.Proofs.YtoobaaklklommaaGreatDoor
