import Derived.Test.YtoobaaklklommaaGreatDoorZ24
import Derived.Test.YtoobaaklklommaaGreatDoorZ10
namespace Go.Proofs.YtoobaaklklommaaGreatDoor
open Go.RowKit

theorem rrow_value {w : World} {v : Value} {L : List (List UInt8 × Int × Int × List UInt8)} (h : RRow w v L) : ∃ a cap, v = .slice a L.length cap ∧ L.length ≤ cap ∧ cap ≤ 2 ^ 63 - 1 ∧ Hid (0 < L.length → ∃ b o, a = some ⟨b, o, none⟩ ∧ b < w.heap.size ∧ ∀ j, (hj : j < L.length) → RecAt w b (o + j * 4) L[j]) := by
  obtain ⟨a, cap, rfl, h1, h2, h3⟩ := h
  unfold maxLen at h2
  refine ⟨a, cap, rfl, h1, h2, fun hp => ?_⟩
  rcases h3 with rfl | h3
  · simp at hp
  · exact h3
set_option maxRecDepth 20000 in
set_option maxHeartbeats 400000 in
theorem eqRecordQ_same (x : (List UInt8 × Int × Int × List UInt8)) (w : World) :
    Calls Tryz.prog 128 #[.agg #[.string ⟨x.1.toArray⟩, .int .i64 x.2.1, .int .i64 x.2.2.1, .string ⟨x.2.2.2.toArray⟩], .agg #[.string ⟨x.1.toArray⟩, .int .i64 x.2.1, .int .i64 x.2.2.1, .string ⟨x.2.2.2.toArray⟩]] w fun e w' => e = .returned (.bool true) ∧ Below w.heap.size w w' := by
  have e1 : ((⟨x.1.toArray⟩ : ByteArray).toList != (⟨x.1.toArray⟩ : ByteArray).toList) = false := by simp
  have e2 : ((⟨x.2.2.2.toArray⟩ : ByteArray).toList != (⟨x.2.2.2.toArray⟩ : ByteArray).toList) = false := by simp
  have e3 : (x.2.1 != x.2.1) = false := by simp
  have e4 : (x.2.2.1 != x.2.2.1) = false := by simp
  go_enter Tryz.func128, Tryz.ntmps128
  go_wp2_with fail
  go_ret
  exact ⟨rfl, ((Below.refl _ _).alloc (Nat.le_refl _) _).alloc (by simp) _⟩
set_option maxRecDepth 20000 in
set_option maxHeartbeats 1000000 in
theorem eqRecordS_same (v1 v2 : Value) (L : List (List UInt8 × Int × Int × List UInt8)) (w : World) (h1 : RRow w v1 L) (h2 : RRow w v2 L) :
    Calls Tryz.prog 88 #[v1, v2] w fun e w' => e = .returned (.bool true) ∧ Below w.heap.size w w' := by
  obtain ⟨a1, cap1, rfl, hc1, hm1, HR1⟩ := rrow_value h1
  obtain ⟨a2, cap2, rfl, hc2, hm2, HR2⟩ := rrow_value h2
  have HEQ : Hid (∀ (x : (List UInt8 × Int × Int × List UInt8)) W, Calls Tryz.prog 128 #[.agg #[.string ⟨x.1.toArray⟩, .int .i64 x.2.1, .int .i64 x.2.2.1, .string ⟨x.2.2.2.toArray⟩], .agg #[.string ⟨x.1.toArray⟩, .int .i64 x.2.1, .int .i64 x.2.2.1, .string ⟨x.2.2.2.toArray⟩]] W fun e w' => e = .returned (.bool true) ∧ Below W.heap.size W w') := fun x W => eqRecordQ_same x W
  have el : ((L.length : Int) != (L.length : Int)) = false := by simp
  clear h1 h2
  go_enter Tryz.func88, Tryz.ntmps88
  go_wp2_with fail
  go_loopw [5] (fun i wr => ∃ k : Nat, k ≤ L.length ∧ i = .int .i64 (k : Int) ∧ Below w.heap.size w wr) (fun i _ => L.length - (intOf i).toNat)
  case atStart => exact ⟨0, Nat.zero_le _, rfl, Below.refl _ _⟩
  case round =>
    obtain ⟨k, hk, rfl, hb⟩ := hrel
    by_cases hlt : k < L.length
    · obtain ⟨b1, o1, ha1, hbl1, hcel1⟩ := HR1.out (by omega)
      obtain ⟨b2, o2, ha2, hbl2, hcel2⟩ := HR2.out (by omega)
      rw [ha1, ha2]
      have q1 := hcel1 k hlt
      have q2 := hcel2 k hlt
      obtain ⟨x, hx⟩ : ∃ x, x = L[k]'hlt := ⟨_, rfl⟩
      rw [← hx] at q1 q2
      have HC : Hid (∀ W, Below w.heap.size w W → RecAt W b1 (o1 + k * 4) x ∧ RecAt W b2 (o2 + k * 4) x) := fun W hW => ⟨q1.kept hW, q2.kept hW⟩
      have hki : (k : Int) < (L.length : Int) := by omega
      have hbd := hb.drew
      unfold RecAt at HC
      clear hcel1 hcel2 hx q1 q2
      go_wp2_with fail
      refine wp_region_quiet (C := fun W => Below w.heap.size w W) (by kernel_rfl) (by kernel_rfl) hbd ?_
      refine wpQuiet_step (fun K hK => ?_)
      rw [if_pos (by rfl)]
      refine ⟨.slice (some ⟨b1, o1, none⟩) L.length cap1, fun W hW => quiet_ok ?_, hK _ ?_⟩
      · have f := HC.out W hW
        obtain ⟨⟨c0, c1, c2, c3⟩, ⟨e0, e1, e2, e3⟩⟩ := f
        go_simp
        all_goals (try omega)
      clear hK K
      simp only [Act.put, List.setIfInBounds_toArray, List.set_cons_succ, List.set_cons_zero]
      refine wpQuiet_step (fun K hK => ?_)
      rw [if_pos (by rfl)]
      refine ⟨.int .i64 (k : Int), fun W hW => quiet_ok ?_, hK _ ?_⟩
      · have f := HC.out W hW
        obtain ⟨⟨c0, c1, c2, c3⟩, ⟨e0, e1, e2, e3⟩⟩ := f
        go_simp
        all_goals (try omega)
      clear hK K
      simp only [Act.put, List.setIfInBounds_toArray, List.set_cons_succ, List.set_cons_zero]
      refine wpQuiet_step (fun K hK => ?_)
      rw [if_pos (by rfl)]
      refine ⟨.pointer (some ⟨b1, o1 + k * 4, none⟩), fun W hW => quiet_ok ?_, hK _ ?_⟩
      · have f := HC.out W hW
        obtain ⟨⟨c0, c1, c2, c3⟩, ⟨e0, e1, e2, e3⟩⟩ := f
        go_simp
        all_goals (try omega)
      clear hK K
      simp only [Act.put, List.setIfInBounds_toArray, List.set_cons_succ, List.set_cons_zero]
      refine wpQuiet_step (fun K hK => ?_)
      rw [if_pos (by rfl)]
      refine ⟨.agg #[.string ⟨x.1.toArray⟩, .int .i64 x.2.1, .int .i64 x.2.2.1, .string ⟨x.2.2.2.toArray⟩], fun W hW => quiet_ok ?_, hK _ ?_⟩
      · have f := HC.out W hW
        obtain ⟨⟨c0, c1, c2, c3⟩, ⟨e0, e1, e2, e3⟩⟩ := f
        go_simp
        all_goals (try omega)
      clear hK K
      simp only [Act.put, List.setIfInBounds_toArray, List.set_cons_succ, List.set_cons_zero]
      refine wpQuiet_step (fun K hK => ?_)
      rw [if_pos (by rfl)]
      refine ⟨.slice (some ⟨b2, o2, none⟩) L.length cap2, fun W hW => quiet_ok ?_, hK _ ?_⟩
      · have f := HC.out W hW
        obtain ⟨⟨c0, c1, c2, c3⟩, ⟨e0, e1, e2, e3⟩⟩ := f
        go_simp
        all_goals (try omega)
      clear hK K
      simp only [Act.put, List.setIfInBounds_toArray, List.set_cons_succ, List.set_cons_zero]
      refine wpQuiet_step (fun K hK => ?_)
      rw [if_pos (by rfl)]
      refine ⟨.int .i64 (k : Int), fun W hW => quiet_ok ?_, hK _ ?_⟩
      · have f := HC.out W hW
        obtain ⟨⟨c0, c1, c2, c3⟩, ⟨e0, e1, e2, e3⟩⟩ := f
        go_simp
        all_goals (try omega)
      clear hK K
      simp only [Act.put, List.setIfInBounds_toArray, List.set_cons_succ, List.set_cons_zero]
      refine wpQuiet_step (fun K hK => ?_)
      rw [if_pos (by rfl)]
      refine ⟨.pointer (some ⟨b2, o2 + k * 4, none⟩), fun W hW => quiet_ok ?_, hK _ ?_⟩
      · have f := HC.out W hW
        obtain ⟨⟨c0, c1, c2, c3⟩, ⟨e0, e1, e2, e3⟩⟩ := f
        go_simp
        all_goals (try omega)
      clear hK K
      simp only [Act.put, List.setIfInBounds_toArray, List.set_cons_succ, List.set_cons_zero]
      refine wpQuiet_step (fun K hK => ?_)
      rw [if_pos (by rfl)]
      refine ⟨.agg #[.string ⟨x.1.toArray⟩, .int .i64 x.2.1, .int .i64 x.2.2.1, .string ⟨x.2.2.2.toArray⟩], fun W hW => quiet_ok ?_, hK _ ?_⟩
      · have f := HC.out W hW
        obtain ⟨⟨c0, c1, c2, c3⟩, ⟨e0, e1, e2, e3⟩⟩ := f
        go_simp
        all_goals (try omega)
      clear hK K
      simp only [Act.put, List.setIfInBounds_toArray, List.set_cons_succ, List.set_cons_zero]
      refine wpQuiet_step (fun K hK => ?_)
      rw [if_pos (by rfl)]
      refine ⟨.bool true, fun W hW => quiet_call (f := 128) (args := #[.agg #[.string ⟨x.1.toArray⟩, .int .i64 x.2.1, .int .i64 x.2.2.1, .string ⟨x.2.2.2.toArray⟩], .agg #[.string ⟨x.1.toArray⟩, .int .i64 x.2.1, .int .i64 x.2.2.1, .string ⟨x.2.2.2.toArray⟩]]) ?_ ?_, hK _ ?_⟩
      · go_simp
      · exact (HEQ.out x W).mono fun e w'' h => ⟨h.1, hW.trans (h.2.mono hW.size)⟩
      clear hK K
      simp only [Act.put, List.setIfInBounds_toArray, List.set_cons_succ, List.set_cons_zero]
      refine wpQuiet_step (fun K hK => ?_)
      rw [if_pos (by rfl)]
      refine ⟨.bool false, fun W hW => quiet_ok ?_, hK _ ?_⟩
      · have f := HC.out W hW
        obtain ⟨⟨c0, c1, c2, c3⟩, ⟨e0, e1, e2, e3⟩⟩ := f
        go_simp
        all_goals (try omega)
      clear hK K
      simp only [Act.put, List.setIfInBounds_toArray, List.set_cons_succ, List.set_cons_zero]
      refine wpQuiet_nil ?_
      intro W hW
      go_wp2_with fail
      go_roundw
      case rel => exact ⟨k + 1, by omega, by go_num, hW⟩
      case measure => simp [intOf]; omega
    · go_wp2_with fail
      go_ret
      exact ⟨rfl, hb⟩
set_option maxRecDepth 20000 in
set_option maxHeartbeats 2000000 in
theorem heldRecordS_any (v : Value) (n K : Nat) (w : World) (hr : RRow w v (mrks K n)) (hL : n ≤ 1048576) (hK0 : 0 < K) (hK : K ≤ 1073741824) :
    Calls Tryz.prog 102 #[v, .int .i64 (K : Int)] w fun e w' => e = .returned (.int .i64 ((K : Int) + 4 * (n : Int))) ∧ Below w.heap.size w w' := by
  obtain ⟨a, cap, rfl, hcap, hmax, HROW⟩ := rrow_value hr
  rw [mrks_length] at hcap ⊢
  have HMT : Hid (∀ (m : Int) (M : Nat) W, m = (M : Int) → 0 < m → m ≤ 4294967280 → Calls Tryz.prog 101 #[.int .i64 m] W fun e w' => e = .returned (.string ⟨(mark M).toArray⟩) ∧ Below W.heap.size W w') := fun m M W h1 h2 h3 => markText_any m M W h1 h2 h3
  clear hr
  go_enter Tryz.func102, Tryz.ntmps102
  go_wp2_with fail
  go_loopw [1, 5] (fun q i wr => ∃ k : Nat, k ≤ n ∧ i = .int .i64 (k : Int) ∧ q = .int .i64 ((K : Int) + 4 * (k : Int)) ∧ Below w.heap.size w wr) (fun _ i _ => n - (intOf i).toNat)
  case atStart => exact ⟨0, Nat.zero_le _, rfl, by simp, Below.refl _ _⟩
  case round =>
    obtain ⟨k, hk, rfl, rfl, hb⟩ := hrel
    by_cases hlt : k < n
    · obtain ⟨b, o, ha, hbl, hc⟩ := HROW.out (by rw [mrks_length]; omega)
      rw [ha]
      have hcx := hc k (by rw [mrks_length]; exact hlt)
      rw [mrks_get K n k hlt] at hcx
      have HC : Hid (∀ W, Below w.heap.size w W → RecAt W b (o + k * 4) (mark (K + 4 * k), (K : Int) + 4 * (k : Int) + 1, (K : Int) + 4 * (k : Int) + 1 + 1, mark (K + 4 * k + 3))) := fun W hW => by
        have h := hcx.kept hW
        rw [show mrk K k = (mark (K + 4 * k), (K : Int) + 4 * (k : Int) + 1, (K : Int) + 4 * (k : Int) + 1 + 1, mark (K + 4 * k + 3)) by unfold mrk; show ((_, _, _, _) : (List UInt8 × Int × Int × List UInt8)) = _; congr 3 <;> omega] at h
        exact h
      unfold RecAt at HC
      obtain ⟨y, hy⟩ : ∃ y, y = mark (K + 4 * k) := ⟨_, rfl⟩
      obtain ⟨z, hz⟩ : ∃ z, z = mark (K + 4 * k + 3) := ⟨_, rfl⟩
      obtain ⟨m, hm⟩ : ∃ m : Int, m = (K : Int) + 4 * (k : Int) := ⟨_, rfl⟩
      rw [← hm, ← hy, ← hz] at HC
      rw [← hm]
      have HM1 : Hid (∀ W, Calls Tryz.prog 101 #[.int .i64 m] W fun e w' => e = .returned (.string ⟨y.toArray⟩) ∧ Below W.heap.size W w') := fun W => by rw [hy]; exact HMT.out m (K + 4 * k) W (by omega) (by omega) (by omega)
      have HM2 : Hid (∀ W, Calls Tryz.prog 101 #[.int .i64 (m + 1 + 1 + 1)] W fun e w' => e = .returned (.string ⟨z.toArray⟩) ∧ Below W.heap.size W w') := fun W => by rw [hz]; exact HMT.out (m + 1 + 1 + 1) (K + 4 * k + 3) W (by omega) (by omega) (by omega)
      have HMK : Hid (m = (K : Int) + 4 * (k : Int)) := hm
      have hm0 : 0 < m := by omega
      have hm1 : m ≤ 4294967000 := by omega
      have hki : (k : Int) < (n : Int) := by omega
      have ey : (y != y) = false := by simp
      have ez : (z != z) = false := by simp
      have et1 : (m + 1 != m + 1) = false := by simp
      have et2 : (m + 1 + 1 != m + 1 + 1) = false := by simp
      have hbd := hb.drew
      clear hc hcx hy hz hm
      go_wp2_with fail
      refine wp_region_quiet (C := fun W => Below w.heap.size w W) (by kernel_rfl) (by kernel_rfl) hbd ?_
      refine wpQuiet_step (fun K hK => ?_)
      rw [if_pos (by rfl)]
      refine ⟨.slice (some ⟨b, o, none⟩) n cap, fun W hW => quiet_ok ?_, hK _ ?_⟩
      · have f := HC.out W hW
        obtain ⟨c0, c1, c2, c3⟩ := f
        go_simp
        all_goals (try omega)
      clear hK K
      simp only [Act.put, List.setIfInBounds_toArray, List.set_cons_succ, List.set_cons_zero]
      refine wpQuiet_step (fun K hK => ?_)
      rw [if_pos (by rfl)]
      refine ⟨.int .i64 (k : Int), fun W hW => quiet_ok ?_, hK _ ?_⟩
      · have f := HC.out W hW
        obtain ⟨c0, c1, c2, c3⟩ := f
        go_simp
        all_goals (try omega)
      clear hK K
      simp only [Act.put, List.setIfInBounds_toArray, List.set_cons_succ, List.set_cons_zero]
      refine wpQuiet_step (fun K hK => ?_)
      rw [if_pos (by rfl)]
      refine ⟨.pointer (some ⟨b, o + k * 4, none⟩), fun W hW => quiet_ok ?_, hK _ ?_⟩
      · have f := HC.out W hW
        obtain ⟨c0, c1, c2, c3⟩ := f
        go_simp
        all_goals (try omega)
      clear hK K
      simp only [Act.put, List.setIfInBounds_toArray, List.set_cons_succ, List.set_cons_zero]
      refine wpQuiet_step (fun K hK => ?_)
      rw [if_pos (by rfl)]
      refine ⟨.pointer (some ⟨b, o + k * 4, none⟩), fun W hW => quiet_ok ?_, hK _ ?_⟩
      · have f := HC.out W hW
        obtain ⟨c0, c1, c2, c3⟩ := f
        go_simp
        all_goals (try omega)
      clear hK K
      simp only [Act.put, List.setIfInBounds_toArray, List.set_cons_succ, List.set_cons_zero]
      refine wpQuiet_step (fun K hK => ?_)
      rw [if_pos (by rfl)]
      refine ⟨.string ⟨y.toArray⟩, fun W hW => quiet_ok ?_, hK _ ?_⟩
      · have f := HC.out W hW
        obtain ⟨c0, c1, c2, c3⟩ := f
        go_simp
        all_goals (try omega)
      clear hK K
      simp only [Act.put, List.setIfInBounds_toArray, List.set_cons_succ, List.set_cons_zero]
      refine wpQuiet_step (fun K hK => ?_)
      rw [if_pos (by rfl)]
      refine ⟨.int .i64 m, fun W hW => quiet_ok ?_, hK _ ?_⟩
      · have f := HC.out W hW
        obtain ⟨c0, c1, c2, c3⟩ := f
        go_simp
        all_goals (try omega)
      clear hK K
      simp only [Act.put, List.setIfInBounds_toArray, List.set_cons_succ, List.set_cons_zero]
      refine wpQuiet_step (fun K hK => ?_)
      rw [if_pos (by rfl)]
      refine ⟨.string ⟨y.toArray⟩, fun W hW => quiet_call (f := 101) (args := #[.int .i64 m]) ?_ ?_, hK _ ?_⟩
      · go_simp
      · exact (HM1.out W).mono fun e w'' h => ⟨h.1, hW.trans (h.2.mono hW.size)⟩
      clear hK K
      simp only [Act.put, List.setIfInBounds_toArray, List.set_cons_succ, List.set_cons_zero]
      refine wpQuiet_step (fun K hK => ?_)
      rw [if_pos (by rfl)]
      refine ⟨.bool false, fun W hW => quiet_ok ?_, hK _ ?_⟩
      · have f := HC.out W hW
        obtain ⟨c0, c1, c2, c3⟩ := f
        go_simp
        all_goals (try omega)
      clear hK K
      simp only [Act.put, List.setIfInBounds_toArray, List.set_cons_succ, List.set_cons_zero]
      refine wpQuiet_nil ?_
      intro w1 hb1
      have f1 := HC.out w1 hb1
      obtain ⟨c0, c1, c2, c3⟩ := f1
      have hbd := hb1.drew
      clear hb
      go_wp2_with fail
      refine wp_region_quiet (C := fun W => Below w.heap.size w W) (by kernel_rfl) (by kernel_rfl) hbd ?_
      refine wpQuiet_step (fun K hK => ?_)
      rw [if_pos (by rfl)]
      refine ⟨.slice (some ⟨b, o, none⟩) n cap, fun W hW => quiet_ok ?_, hK _ ?_⟩
      · have f := HC.out W hW
        obtain ⟨c0, c1, c2, c3⟩ := f
        go_simp
        all_goals (try omega)
      clear hK K
      simp only [Act.put, List.setIfInBounds_toArray, List.set_cons_succ, List.set_cons_zero]
      refine wpQuiet_step (fun K hK => ?_)
      rw [if_pos (by rfl)]
      refine ⟨.int .i64 (k : Int), fun W hW => quiet_ok ?_, hK _ ?_⟩
      · have f := HC.out W hW
        obtain ⟨c0, c1, c2, c3⟩ := f
        go_simp
        all_goals (try omega)
      clear hK K
      simp only [Act.put, List.setIfInBounds_toArray, List.set_cons_succ, List.set_cons_zero]
      refine wpQuiet_step (fun K hK => ?_)
      rw [if_pos (by rfl)]
      refine ⟨.pointer (some ⟨b, o + k * 4, none⟩), fun W hW => quiet_ok ?_, hK _ ?_⟩
      · have f := HC.out W hW
        obtain ⟨c0, c1, c2, c3⟩ := f
        go_simp
        all_goals (try omega)
      clear hK K
      simp only [Act.put, List.setIfInBounds_toArray, List.set_cons_succ, List.set_cons_zero]
      refine wpQuiet_step (fun K hK => ?_)
      rw [if_pos (by rfl)]
      refine ⟨.pointer (some ⟨b, o + k * 4 + 3, none⟩), fun W hW => quiet_ok ?_, hK _ ?_⟩
      · have f := HC.out W hW
        obtain ⟨c0, c1, c2, c3⟩ := f
        go_simp
        all_goals (try omega)
      clear hK K
      simp only [Act.put, List.setIfInBounds_toArray, List.set_cons_succ, List.set_cons_zero]
      refine wpQuiet_step (fun K hK => ?_)
      rw [if_pos (by rfl)]
      refine ⟨.string ⟨z.toArray⟩, fun W hW => quiet_ok ?_, hK _ ?_⟩
      · have f := HC.out W hW
        obtain ⟨c0, c1, c2, c3⟩ := f
        go_simp
        all_goals (try omega)
      clear hK K
      simp only [Act.put, List.setIfInBounds_toArray, List.set_cons_succ, List.set_cons_zero]
      refine wpQuiet_step (fun K hK => ?_)
      rw [if_pos (by rfl)]
      refine ⟨.int .i64 (m + 1 + 1 + 1), fun W hW => quiet_ok ?_, hK _ ?_⟩
      · have f := HC.out W hW
        obtain ⟨c0, c1, c2, c3⟩ := f
        go_simp
        all_goals (try omega)
      clear hK K
      simp only [Act.put, List.setIfInBounds_toArray, List.set_cons_succ, List.set_cons_zero]
      refine wpQuiet_step (fun K hK => ?_)
      rw [if_pos (by rfl)]
      refine ⟨.string ⟨z.toArray⟩, fun W hW => quiet_call (f := 101) (args := #[.int .i64 (m + 1 + 1 + 1)]) ?_ ?_, hK _ ?_⟩
      · go_simp
      · exact (HM2.out W).mono fun e w'' h => ⟨h.1, hW.trans (h.2.mono hW.size)⟩
      clear hK K
      simp only [Act.put, List.setIfInBounds_toArray, List.set_cons_succ, List.set_cons_zero]
      refine wpQuiet_step (fun K hK => ?_)
      rw [if_pos (by rfl)]
      refine ⟨.bool false, fun W hW => quiet_ok ?_, hK _ ?_⟩
      · have f := HC.out W hW
        obtain ⟨c0, c1, c2, c3⟩ := f
        go_simp
        all_goals (try omega)
      clear hK K
      simp only [Act.put, List.setIfInBounds_toArray, List.set_cons_succ, List.set_cons_zero]
      refine wpQuiet_nil ?_
      intro w2 hb2
      clear c0 c1 c2 c3 hb1
      go_wp2_with fail
      go_roundw
      case rel => exact ⟨k + 1, by omega, by go_num, congrArg (Value.int .i64) (by have := HMK.out; omega), hb2⟩
      case measure => simp [intOf]; omega
    · have HK : Hid (k = n) := (show k = n by omega)
      go_wp2_with fail
      go_ret
      exact ⟨ret_int (by rw [HK.out]), hb⟩
end Go.Proofs.YtoobaaklklommaaGreatDoor

namespace Go.Proofs.YtoobaaklklommaaGreatDoor
open Go.RowKit

/-- A zone. -/
def ZonV (nm : ByteArray) (ct : Int) (v : Value) : Value := .agg #[.string nm, .int .i64 ct, v]
/-- A zone and a bool, told: its records lie somewhere; or in a block of the call's own. -/
def ZRes (w' : World) (ok : Bool) (nm : ByteArray) (ct : Int) (L : List (List UInt8 × Int × Int × List UInt8)) (e : Ending) : Prop := ∃ v, e = .returned (.tuple #[ZonV nm ct v, .bool ok]) ∧ RRow w' v L
def ZOwn (w' : World) (base : Nat) (ok : Bool) (nm : ByteArray) (ct : Int) (L : List (List UInt8 × Int × Int × List UInt8)) (e : Ending) : Prop := ∃ v, e = .returned (.tuple #[ZonV nm ct v, .bool ok]) ∧ OwnQ w' base v L
theorem box3c {w W : World} {a b c : Value} {t : TypeId} (hb : Below (w.alloc (.cells #[a, b, c] t)).heap.size (w.alloc (.cells #[a, b, c] t)) W) :
    W.cell? ⟨w.heap.size, 0, none⟩ = some a ∧ W.cell? ⟨w.heap.size, 1, none⟩ = some b ∧ W.cell? ⟨w.heap.size, 2, none⟩ = some c ∧ Below w.heap.size w W := by
  have hz : w.heap.size < (w.alloc (.cells #[a, b, c] t)).heap.size := by simp
  refine ⟨?_, ?_, ?_, ((Below.refl w.heap.size w).alloc (Nat.le_refl _) _).trans (hb.mono (Nat.le_of_lt hz))⟩
  all_goals (rw [hb.cell (p := ⟨w.heap.size, _, none⟩) hz]; simp)
theorem zon_cells {W : World} {b : Nat} {v0 v1 v2 : Value} {t : TypeId} (h : W.heap[b]? = some (.cells #[v0, v1, v2] t)) :
    (W.cell? ⟨b, 0, none⟩ = some v0 ∧ W.cell? ⟨b, 1, none⟩ = some v1 ∧ W.cell? ⟨b, 2, none⟩ = some v2) ∧ (W.frozen? ⟨b, 0, none⟩ = false ∧ W.frozen? ⟨b, 1, none⟩ = false ∧ W.frozen? ⟨b, 2, none⟩ = false) := by
  refine ⟨⟨?_, ?_, ?_⟩, ⟨?_, ?_, ?_⟩⟩
  all_goals first
    | (unfold World.cell?; rw [h]; rfl)
    | (unfold World.frozen?; rw [h]; simp)
/-- Three cells stored. -/
def put3 (w : World) (g : Nat) (v0 v1 v2 : Value) : World := ((w.setCell ⟨g, 0, none⟩ v0).setCell ⟨g, 1, none⟩ v1).setCell ⟨g, 2, none⟩ v2
theorem put3_heap {w : World} {g : Nat} {t : TypeId} {v0 v1 v2 u0 u1 u2 : Value} (h : w.heap[g]? = some (.cells #[u0, u1, u2] t)) : (put3 w g v0 v1 v2).heap[g]? = some (.cells #[v0, v1, v2] t) := by
  have e0 := heap_setCell_same _ _ 0 _ _ v0 h
  have e1 := heap_setCell_same _ _ 1 _ _ v1 e0
  have e2 := heap_setCell_same _ _ 2 _ _ v2 e1
  unfold put3
  simpa using e2
theorem put3_far {w : World} {g g' : Nat} {v0 v1 v2 : Value} {L : List (List UInt8 × Int × Int × List UInt8)} (h : QRow w g L) (hne : g' ≠ g) : QRow (put3 w g' v0 v1 v2) g L := ((h.far hne _).far hne _).far hne _
theorem put3_below {B : Nat} {a w : World} (h : Below B a w) {g : Nat} (hg : B ≤ g) (v0 v1 v2 : Value) : Below B a (put3 w g v0 v1 v2) :=
  ((h.setCell (p := ⟨g, 0, none⟩) hg _).setCell (p := ⟨g, 1, none⟩) hg _).setCell (p := ⟨g, 2, none⟩) hg _
theorem kpt_put3 (w : World) (g : Nat) (v0 v1 v2 : Value) {S : Nat → Prop} (hs : S g) : Kpt w (put3 w g v0 v1 v2) S := by
  unfold put3
  exact ((kpt_set _ _ _ _ hs).trans (kpt_set _ _ _ _ hs)).trans (kpt_set _ _ _ _ hs)
/-- What is small enough to be asked about. -/
theorem sz_zone {L : List (List UInt8 × Int × Int × List UInt8)} {n : Nat} {q : Int} (h0 : 0 ≤ q) (h : q = 1048576 - (n : Int) - (L.length : Int) - (wtR L : Int)) :
    n ≤ 1048576 ∧ L.length ≤ 1048576 ∧ (∀ x ∈ L, x.1.length ≤ 1048576 ∧ x.2.2.2.length ≤ 1048576) := by
  refine ⟨by omega, by omega, fun x hx => ?_⟩
  have := wtR_mem hx; omega

set_option maxRecDepth 20000 in
set_option maxHeartbeats 2000000 in
theorem szZone_any (nm : ByteArray) (ct : Int) (v : Value) (L : List (List UInt8 × Int × Int × List UInt8)) (left : Int) (w : World) (hn : nm.size ≤ maxLen) (hr : RRow w v L)
    (hx : Hid (∀ x ∈ L, x.1.length ≤ maxLen ∧ x.2.2.2.length ≤ maxLen)) (h0 : 0 ≤ left) (h1 : left ≤ 1048576) :
    Calls Tryz.prog 39 #[ZonV nm ct v, .int .i64 left] w fun e w' => (∃ q : Int, e = .returned (.int .i64 q) ∧ (q = -1 ∨ (0 ≤ q ∧ q = left - (nm.size : Int) - (L.length : Int) - (wtR L : Int)))) ∧ Below w.heap.size w w' := by
  unfold ZonV
  obtain ⟨aa, ca, rfl, _, hca, _⟩ := id hr
  have HRA : Hid (∀ W, Below w.heap.size w W → RRow W (.slice aa L.length ca) L) := fun W hW => hr.kept hW
  clear hr
  unfold maxLen at hn
  by_cases g1 : left - (nm.size : Int) < 0
  · go_enter Tryz.func39, Tryz.ntmps39
    go_wp2_with fail
    go_ret
    exact ⟨⟨-1, rfl, .inl rfl⟩, (Below.refl w.heap.size w).alloc (Nat.le_refl _) _⟩
  · go_enter Tryz.func39, Tryz.ntmps39
    go_wp2_with fail
    refine (szRecordS_any _ L (left - (nm.size : Int)) _ (HRA.out _ ((Below.refl w.heap.size w).alloc (Nat.le_refl _) _)) hx (by omega) (by omega)).mono ?_
    rintro e w1 ⟨⟨q1, rfl, hq1⟩, hb1⟩
    obtain ⟨_, _, _, hbw⟩ := box3c hb1
    rcases hq1 with ⟨rfl, _⟩ | ⟨hq1, hp1⟩
    · go_wp2_with fail
      go_ret
      exact ⟨⟨-1, rfl, .inl rfl⟩, hbw⟩
    · have HQ1 : Hid (q1 = left - (nm.size : Int) - (L.length : Int) - (wtR L : Int)) := hq1
      clear hq1
      go_wp2_with fail
      go_ret
      exact ⟨⟨q1, rfl, .inr ⟨hp1, HQ1.out⟩⟩, hbw⟩

set_option maxRecDepth 20000 in
set_option maxHeartbeats 2000000 in
theorem toZone_any (nm : ByteArray) (ct : Int) (v : Value) (L : List (List UInt8 × Int × Int × List UInt8)) (w : World) (hr : RRow w v L) (hl : L.length ≤ 1048576) :
    Calls Tryz.prog 45 #[ZonV nm ct v] w fun e w' => (∃ g, e = .returned (ZonV nm ct (.slice (some ⟨g, 0, none⟩) L.length L.length)) ∧ w.heap.size ≤ g ∧ QRow w' g L) ∧ Below w.heap.size w w' := by
  unfold ZonV
  obtain ⟨aa, ca, rfl, _, hca, _⟩ := id hr
  have HRA : Hid (∀ W, Below w.heap.size w W → RRow W (.slice aa L.length ca) L) := fun W hW => hr.kept hW
  clear hr
  go_enter Tryz.func45, Tryz.ntmps45
  go_wp2_with fail
  refine (toRecordS_any _ L _ (HRA.out _ ((((Below.refl w.heap.size w).alloc (Nat.le_refl _) _).alloc (by simp) _).alloc (by simp; omega) _)) hl).mono ?_
  rintro e w1 ⟨rfl, hq1, hb1⟩
  obtain ⟨c, d, fz, r, rz, hsz, hblk, hbw⟩ := box3 hb1
  have d0 := d 0
  have d1 := d 1
  have d2 := d 2
  have fz2 := fz 2
  have r0 := r 0
  have r1 := r 1
  have r2 := r 2
  have s0 := rz 0
  have s1 := rz 1
  have s2 := rz 2
  simp at d0 d1 d2 r0 r1 r2
  have HQ : Hid (QRow w1 (w.heap.size + 1 + 1 + 1) L) := by
    have h : QRow w1 (w.heap.size + 1 + 1 + 1) L := by simpa using hq1
    exact h
  have HK : Hid (w1.heap[w.heap.size + 1]? = some (.cells #[.string ⟨#[]⟩, .int .i64 0, .slice none 0 0] 32)) := hblk
  clear c d fz r rz hq1 hblk
  go_wp2_with fail
  (try simp only [Exit.inBlock, Exit.then])
  refine bodyPost_ret (results_cell_row rfl _ _ (w.heap.size + 1) 32 #[.string nm, .int .i64 ct, .slice (some ⟨w.heap.size + 1 + 1 + 1, 0, none⟩) L.length L.length] (0, 0) _ rfl ?_ Tryz.underlying32 rfl (by kernel_rfl)) rfl ⟨⟨w.heap.size + 1 + 1 + 1, rfl, by omega, ?_⟩, ?_⟩
  · exact put3_heap (by rw [heap_setCell_other _ _ _ _ (show w.heap.size + 1 ≠ w.heap.size + 1 + 1 by omega)]; exact HK.out)
  · exact put3_far (HQ.out.far (by omega) _) (by omega)
  · exact put3_below (hbw.setCell (p := ⟨w.heap.size + 1 + 1, 2, none⟩) (by show w.heap.size ≤ w.heap.size + 1 + 1; omega) _) (by omega) _ _ _

set_option maxRecDepth 20000 in
set_option maxHeartbeats 2000000 in
theorem eqZone_same (nm : ByteArray) (ct : Int) (v v2 : Value) (L : List (List UInt8 × Int × Int × List UInt8)) (w : World) (ha : RRow w v L) (ha2 : RRow w v2 L) :
    Calls Tryz.prog 50 #[ZonV nm ct v, ZonV nm ct v2] w fun e w' => e = .returned (.bool true) ∧ Below w.heap.size w w' := by
  unfold ZonV
  obtain ⟨aa, ca, rfl, _, hca, _⟩ := id ha
  obtain ⟨aa2, ca2, rfl, _, hca2, _⟩ := id ha2
  have HRA : Hid (∀ W, Below w.heap.size w W → RRow W (.slice aa L.length ca) L ∧ RRow W (.slice aa2 L.length ca2) L) := fun W hW => ⟨ha.kept hW, ha2.kept hW⟩
  clear ha ha2
  go_enter Tryz.func50, Tryz.ntmps50
  go_wp2_with fail
  have hA := HRA.out _ (((Below.refl w.heap.size w).alloc (Nat.le_refl _) (.cells #[.string nm, .int .i64 ct, .slice aa L.length ca] 32)).alloc (by simp) (.cells #[.string nm, .int .i64 ct, .slice aa2 L.length ca2] 32))
  refine (eqRecordS_same _ _ L _ hA.1 hA.2).mono ?_
  rintro e w1 ⟨rfl, hb1⟩
  obtain ⟨_, _, hbw⟩ := box2 hb1
  go_wp2_with fail
  go_ret
  exact ⟨rfl, hbw⟩

set_option maxRecDepth 20000 in
set_option maxHeartbeats 2000000 in
theorem markZone_any (nm : ByteArray) (ct : Int) (v : Value) (L : List (List UInt8 × Int × Int × List UInt8)) (base K : Nat) (w : World) (ha : OwnQ w base v L) (hA : L.length ≤ 1048576) (hK0 : 0 < K) (hK : K ≤ 1073741824) :
    Calls Tryz.prog 60 #[ZonV nm ct v, .int .i64 (K : Int)] w fun e w' => e = .returned (.int .i64 ((K : Int) + 4 * (L.length : Int))) ∧ OwnQ w' base v (mrks K L.length) ∧ Kpt w w' (fun k => v.ownBlock = some k) := by
  unfold ZonV
  obtain ⟨aa, ca, hva, hca⟩ := ha.shape
  subst hva
  have HA : Hid (OwnQ w base (.slice aa L.length ca) L) := ha
  clear ha
  go_enter Tryz.func60, Tryz.ntmps60
  go_wp2_with fail
  refine (markRecordS_any _ L base K _ (HA.out.kept ((Below.refl w.heap.size w).alloc (Nat.le_refl _) _)) hA hK0 (by omega)).mono ?_
  rintro e w1 ⟨rfl, ho1, hg1⟩
  have hk1 := grown_kpt hg1
  have HK1 : Hid (Kpt w w1 (fun k => (Value.slice aa L.length ca).ownBlock = some k)) := (below_kpt0 ((Below.refl w.heap.size w).alloc (Nat.le_refl _) _) _).trans (hk1.mono (fun k _ h => h))
  have HO1 : Hid (OwnQ w1 base (.slice aa L.length ca) (mrks K L.length)) := ho1
  clear ho1 hg1 hk1
  go_wp2_with fail
  go_ret
  exact ⟨rfl, HO1.out, HK1.out⟩

set_option maxRecDepth 20000 in
set_option maxHeartbeats 2000000 in
theorem heldZone_any (nm : ByteArray) (ct : Int) (v : Value) (n K : Nat) (w : World) (ha : RRow w v (mrks K n)) (hn : n ≤ 1048576) (hK0 : 0 < K) (hK : K ≤ 1048576) :
    Calls Tryz.prog 62 #[ZonV nm ct v, .int .i64 (K : Int)] w fun e w' => e = .returned (.int .i64 ((K : Int) + 4 * (n : Int))) ∧ Below w.heap.size w w' := by
  unfold ZonV
  obtain ⟨aa, ca, rfl, _, hca, _⟩ := id ha
  rw [mrks_length] at ha ⊢
  have HRA : Hid (∀ W, Below w.heap.size w W → RRow W (.slice aa n ca) (mrks K n)) := fun W hW => ha.kept hW
  clear ha
  go_enter Tryz.func62, Tryz.ntmps62
  go_wp2_with fail
  refine (heldRecordS_any _ n K _ (HRA.out _ ((Below.refl w.heap.size w).alloc (Nat.le_refl _) _)) hn hK0 (by omega)).mono ?_
  rintro e w1 ⟨rfl, hb1⟩
  obtain ⟨_, _, _, hbw⟩ := box3c hb1
  have hpos : (0 : Int) ≤ (K : Int) + 4 * (n : Int) := by omega
  go_wp2_with fail
  go_ret
  exact ⟨rfl, hbw⟩
end Go.Proofs.YtoobaaklklommaaGreatDoor
