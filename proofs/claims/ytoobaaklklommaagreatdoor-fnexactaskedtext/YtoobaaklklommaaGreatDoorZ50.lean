import Derived.Test.YtoobaaklklommaaGreatDoorZ49
import Derived.Test.YtoobaaklklommaaGreatDoorZ40
import Derived.Test.YtoobaaklklommaaGreatDoorZ12
import Derived.Laws.ResultCell
namespace Go.Proofs.YtoobaaklklommaaGreatDoor
open Go.RowKit

set_option maxRecDepth 20000 in
set_option maxHeartbeats 2000000 in
theorem isChange_any (x : ChgT) (w : World) (hd : x.2.2.2.2.length ≤ 1048576) (hE : EnvR w) :
    Calls Tryz.prog 143 #[.agg #[.int .i64 x.1, .string ⟨x.2.1.toArray⟩, .int .i64 x.2.2.1, .int .i64 x.2.2.2.1, .string ⟨x.2.2.2.2.toArray⟩]] w fun e w' => e = .returned (.bool (chgB x)) ∧ Below w.heap.size w w' := by
  have HG : Hid (∀ W, Below w.heap.size w W → Calls Tryz.prog 145 #[.agg #[.string ⟨x.2.1.toArray⟩, .int .i64 x.2.2.1, .int .i64 x.2.2.2.1, .string ⟨x.2.2.2.2.toArray⟩]] W fun e w' => e = .returned (.bool (recB x.2.1 x.2.2.1 x.2.2.2.1 x.2.2.2.2)) ∧ Below W.heap.size W w') := fun W hW =>
    iGoodRecord_any ⟨x.2.1.toArray⟩ ⟨x.2.2.2.2.toArray⟩ x.2.2.1 x.2.2.2.1 W (by rw [size_list]; exact hd) (hE.below hW)
  obtain ⟨K, nm, ty, ttl, d⟩ := x
  simp only at HG ⊢
  clear hd hE
  have hcase : K = 1 ∨ K = 2 ∨ K = 3 ∨ K = 4 ∨ (inB K 1 4 = false ∧ ¬ K = 1 ∧ ¬ K = 2 ∧ ¬ K = 3 ∧ ¬ K = 4) := by
    by_cases h1 : K = 1
    · exact .inl h1
    by_cases h2 : K = 2
    · exact .inr (.inl h2)
    by_cases h3 : K = 3
    · exact .inr (.inr (.inl h3))
    by_cases h4 : K = 4
    · exact .inr (.inr (.inr (.inl h4)))
    exact .inr (.inr (.inr (.inr ⟨by unfold inB; simp; omega, h1, h2, h3, h4⟩)))
  rcases hcase with hk | hk | hk | hk | ⟨hk, h1, h2, h3, h4⟩
  · by_cases h6 : ty = 6
    · have HB : Hid (chgB (K, nm, ty, ttl, d) = false) := chgB_six h6
      rw [HB.out]
      have e6 : (ty == 6) = true := by simp [h6]
      subst h6
      subst hk
      clear HG HB
      go_enter Tryz.func143, Tryz.ntmps143
      go_wp2_with fail
      go_ret
      exact ⟨rfl, (Below.refl _ _).alloc (Nat.le_refl _) _⟩
    · have HB : Hid (chgB (K, nm, ty, ttl, d) = recB nm ty ttl d) := chgB_rec (by rw [hk]; rfl) h6
      rw [HB.out]
      have e6 : (ty == 6) = false := by simp [h6]
      have e7 : (ty != 6) = true := by simp [h6]
      obtain ⟨b, hb⟩ : ∃ b, b = recB nm ty ttl d := ⟨_, rfl⟩
      rw [← hb] at HG ⊢
      subst hk
      have hb0 : Below w.heap.size w (w.alloc (.cells #[.int .i64 1, .string ⟨nm.toArray⟩, .int .i64 ty, .int .i64 ttl, .string ⟨d.toArray⟩] 112)) := (Below.refl _ _).alloc (Nat.le_refl _) _
      clear h6 HB hb
      go_enter Tryz.func143, Tryz.ntmps143
      go_wp2_with fail
      refine (HG.out _ hb0).mono ?_
      rintro e w1 ⟨rfl, hb1⟩
      have hbw := hb0.trans (hb1.mono hb0.size)
      clear hb0 hb1
      go_wp2_with fail
      go_ret
      exact ⟨rfl, hbw⟩
  · by_cases h6 : ty = 6
    · have HB : Hid (chgB (K, nm, ty, ttl, d) = false) := chgB_six h6
      rw [HB.out]
      have e6 : (ty == 6) = true := by simp [h6]
      subst h6
      subst hk
      clear HG HB
      go_enter Tryz.func143, Tryz.ntmps143
      go_wp2_with fail
      go_ret
      exact ⟨rfl, (Below.refl _ _).alloc (Nat.le_refl _) _⟩
    · have HB : Hid (chgB (K, nm, ty, ttl, d) = recB nm ty ttl d) := chgB_rec (by rw [hk]; rfl) h6
      rw [HB.out]
      have e6 : (ty == 6) = false := by simp [h6]
      have e7 : (ty != 6) = true := by simp [h6]
      obtain ⟨b, hb⟩ : ∃ b, b = recB nm ty ttl d := ⟨_, rfl⟩
      rw [← hb] at HG ⊢
      subst hk
      have hb0 : Below w.heap.size w (w.alloc (.cells #[.int .i64 2, .string ⟨nm.toArray⟩, .int .i64 ty, .int .i64 ttl, .string ⟨d.toArray⟩] 112)) := (Below.refl _ _).alloc (Nat.le_refl _) _
      clear h6 HB hb
      go_enter Tryz.func143, Tryz.ntmps143
      go_wp2_with fail
      refine (HG.out _ hb0).mono ?_
      rintro e w1 ⟨rfl, hb1⟩
      have hbw := hb0.trans (hb1.mono hb0.size)
      clear hb0 hb1
      go_wp2_with fail
      go_ret
      exact ⟨rfl, hbw⟩
  · by_cases h6 : ty = 6
    · have HB : Hid (chgB (K, nm, ty, ttl, d) = false) := chgB_six h6
      rw [HB.out]
      have e6 : (ty == 6) = true := by simp [h6]
      subst h6
      subst hk
      clear HG HB
      go_enter Tryz.func143, Tryz.ntmps143
      go_wp2_with fail
      go_ret
      exact ⟨rfl, (Below.refl _ _).alloc (Nat.le_refl _) _⟩
    · have HB : Hid (chgB (K, nm, ty, ttl, d) = recB nm ty ttl d) := chgB_rec (by rw [hk]; rfl) h6
      rw [HB.out]
      have e6 : (ty == 6) = false := by simp [h6]
      have e7 : (ty != 6) = true := by simp [h6]
      obtain ⟨b, hb⟩ : ∃ b, b = recB nm ty ttl d := ⟨_, rfl⟩
      rw [← hb] at HG ⊢
      subst hk
      have hb0 : Below w.heap.size w (w.alloc (.cells #[.int .i64 3, .string ⟨nm.toArray⟩, .int .i64 ty, .int .i64 ttl, .string ⟨d.toArray⟩] 112)) := (Below.refl _ _).alloc (Nat.le_refl _) _
      clear h6 HB hb
      go_enter Tryz.func143, Tryz.ntmps143
      go_wp2_with fail
      refine (HG.out _ hb0).mono ?_
      rintro e w1 ⟨rfl, hb1⟩
      have hbw := hb0.trans (hb1.mono hb0.size)
      clear hb0 hb1
      go_wp2_with fail
      go_ret
      exact ⟨rfl, hbw⟩
  · by_cases h6 : ty = 6
    · have HB : Hid (chgB (K, nm, ty, ttl, d) = false) := chgB_six h6
      rw [HB.out]
      have e6 : (ty == 6) = true := by simp [h6]
      subst h6
      subst hk
      clear HG HB
      go_enter Tryz.func143, Tryz.ntmps143
      go_wp2_with fail
      go_ret
      exact ⟨rfl, (Below.refl _ _).alloc (Nat.le_refl _) _⟩
    · have HB : Hid (chgB (K, nm, ty, ttl, d) = recB nm ty ttl d) := chgB_rec (by rw [hk]; rfl) h6
      rw [HB.out]
      have e6 : (ty == 6) = false := by simp [h6]
      have e7 : (ty != 6) = true := by simp [h6]
      obtain ⟨b, hb⟩ : ∃ b, b = recB nm ty ttl d := ⟨_, rfl⟩
      rw [← hb] at HG ⊢
      subst hk
      have hb0 : Below w.heap.size w (w.alloc (.cells #[.int .i64 4, .string ⟨nm.toArray⟩, .int .i64 ty, .int .i64 ttl, .string ⟨d.toArray⟩] 112)) := (Below.refl _ _).alloc (Nat.le_refl _) _
      clear h6 HB hb
      go_enter Tryz.func143, Tryz.ntmps143
      go_wp2_with fail
      refine (HG.out _ hb0).mono ?_
      rintro e w1 ⟨rfl, hb1⟩
      have hbw := hb0.trans (hb1.mono hb0.size)
      clear hb0 hb1
      go_wp2_with fail
      go_ret
      exact ⟨rfl, hbw⟩
  · have HB : Hid (chgB (K, nm, ty, ttl, d) = false) := chgB_kind hk
    rw [HB.out]
    have e1 : (K == 1) = false := by simp [h1]
    have e2 : (K == 2) = false := by simp [h2]
    have e3 : (K == 3) = false := by simp [h3]
    have e4 : (K == 4) = false := by simp [h4]
    clear HG HB hk
    go_enter Tryz.func143, Tryz.ntmps143
    go_wp2_with fail
    go_ret
    exact ⟨rfl, (Below.refl _ _).alloc (Nat.le_refl _) _⟩
set_option maxRecDepth 20000 in
set_option maxHeartbeats 2000000 in
theorem areChanges_any (v : Value) (L : List ChgT) (w : World) (hr : ChgRow w v L) (hx : Hid (∀ x ∈ L, x.2.1.length ≤ 1048576 ∧ x.2.2.2.2.length ≤ 1048576)) (hE : EnvR w) :
    Calls Tryz.prog 109 #[v] w fun e w' => e = .returned (.bool (chgsB L)) ∧ Below w.heap.size w w' := by
  obtain ⟨a, cap, rfl, hcap, hmax, HROW⟩ := chg_value hr
  clear hr
  have HGR : Hid (∀ (x : ChgT) W, EnvR W → x.2.2.2.2.length ≤ 1048576 → Calls Tryz.prog 143 #[.agg #[.int .i64 x.1, .string ⟨x.2.1.toArray⟩, .int .i64 x.2.2.1, .int .i64 x.2.2.2.1, .string ⟨x.2.2.2.2.toArray⟩]] W fun e w' => e = .returned (.bool (chgB x)) ∧ Below W.heap.size W w') := fun x W g1 g2 => isChange_any x W g2 g1
  by_cases h12 : 12 < L.length
  · have e8 : chgsB L = false := chgsB_len h12
    have hi8 : (12 : Int) < (L.length : Int) := by omega
    rw [e8]
    clear e8 HROW hx HGR
    go_enter Tryz.func109, Tryz.ntmps109
    go_wp2_with fail
    go_ret
    exact ⟨rfl, Below.refl _ _⟩
  have hi8 : ¬ (12 : Int) < (L.length : Int) := by omega
  have HL : Hid (L.length ≤ 12) := by show L.length ≤ 12; omega
  clear h12
  go_enter Tryz.func109, Tryz.ntmps109
  go_wp2_with fail
  go_loopw [10] (fun i wr => ∃ k : Nat, k ≤ L.length ∧ i = .int .i64 (k : Int) ∧ Hid (∀ j, (hj : j < L.length) → j < k → chgB (L[j]'hj) = true) ∧ Below w.heap.size w wr) (fun i _ => L.length - (intOf i).toNat)
  case atStart => exact ⟨0, Nat.zero_le _, rfl, fun j _ h => absurd h (Nat.not_lt_zero _), Below.refl _ _⟩
  case round =>
    obtain ⟨k, hk, rfl, HA, hb⟩ := hrel
    by_cases hlt : k < L.length
    · obtain ⟨b, o, ha, hbl, hcel⟩ := HROW.out (by omega)
      subst ha
      obtain ⟨c0, c1, c2, c3, c4⟩ := ((hcel k hlt).kept hb).cells
      have hxl := hx.out _ (List.getElem_mem hlt)
      have HBAD : Hid (chgB (L[k]'hlt) = false → chgsB L = false) := chgsB_bad k hlt
      have HOK : Hid (chgB (L[k]'hlt) = true → ∀ j, (hj : j < L.length) → j < k + 1 → chgB (L[j]'hj) = true) := fun h j hj h1 => by
        rcases Nat.lt_or_ge j k with h' | h'
        · exact HA.out j hj h'
        · obtain rfl : j = k := by omega
          exact h
      obtain ⟨x, hxe⟩ : ∃ x, x = L[k]'hlt := ⟨_, rfl⟩
      rw [← hxe] at c0 c1 c2 c3 c4 hxl HBAD HOK
      have HC : Hid (∀ W, Below wr.heap.size wr W → Calls Tryz.prog 143 #[.agg #[.int .i64 x.1, .string ⟨x.2.1.toArray⟩, .int .i64 x.2.2.1, .int .i64 x.2.2.2.1, .string ⟨x.2.2.2.2.toArray⟩]] W fun e w' => e = .returned (.bool (chgB x)) ∧ Below W.heap.size W w') := fun W hW => HGR.out x W (hE.below (hb.trans (hW.mono hb.size))) hxl.2
      obtain ⟨W1, hW1⟩ : ∃ W1, W1 = wr.alloc (.cells #[.int .i64 x.1, .string ⟨x.2.1.toArray⟩, .int .i64 x.2.2.1, .int .i64 x.2.2.2.1, .string ⟨x.2.2.2.2.toArray⟩] 112) := ⟨_, rfl⟩
      have HW1 : Hid (wr.alloc (.cells #[.int .i64 x.1, .string ⟨x.2.1.toArray⟩, .int .i64 x.2.2.1, .int .i64 x.2.2.2.1, .string ⟨x.2.2.2.2.toArray⟩] 112) = W1) := hW1.symm
      have hb1 : Below wr.heap.size wr W1 := by rw [hW1]; exact (Below.refl _ _).alloc (Nat.le_refl _) _
      have hxb : W1.heap[wr.heap.size]? = some (.cells #[.int .i64 x.1, .string ⟨x.2.1.toArray⟩, .int .i64 x.2.2.1, .int .i64 x.2.2.2.1, .string ⟨x.2.2.2.2.toArray⟩] 112) := by rw [hW1]; exact blk_new _ _
      obtain ⟨⟨d0, d1, d2, d3, d4⟩, _⟩ := cells5 hxb
      have hki : (k : Int) < (L.length : Int) := by omega
      clear hcel hxe hxl hW1 hxb
      cases hR : chgB x with
      | false =>
        have HR : Hid (chgsB L = false) := HBAD.out hR
        rw [hR] at HC
        clear hR HBAD HOK
        go_wp2_with (rw [HW1.out])
        refine (HC.out _ hb1).mono ?_
        rintro e w2 ⟨rfl, hb2⟩
        have hbw := hb.trans ((hb1.trans (hb2.mono hb1.size)).mono hb.size)
        clear d0 d1 d2 d3 d4 hb2 hb1
        go_wp2_with fail
        go_ret
        exact ⟨ret_bool HR.out.symm, hbw⟩
      | true =>
        have HR : Hid (∀ j, (hj : j < L.length) → j < k + 1 → chgB (L[j]'hj) = true) := HOK.out hR
        rw [hR] at HC
        clear hR HBAD HOK
        go_wp2_with (rw [HW1.out])
        refine (HC.out _ hb1).mono ?_
        rintro e w2 ⟨rfl, hb2⟩
        have hbw := hb.trans ((hb1.trans (hb2.mono hb1.size)).mono hb.size)
        clear d0 d1 d2 d3 d4 hb2 hb1
        go_wp2_with fail
        go_roundw
        case rel => exact ⟨k + 1, by omega, by go_num, HR, hbw⟩
        case measure => simp [intOf]; omega
    · have HR : Hid (chgsB L = true) := chgsB_all HL.out (fun j hj => HA.out j hj (by omega))
      go_wp2_with fail
      go_ret
      exact ⟨ret_bool HR.out.symm, hb⟩
end Go.Proofs.YtoobaaklklommaaGreatDoor

namespace Go.Proofs.YtoobaaklklommaaGreatDoor
open Go.RowKit

theorem box3h {w W : World} {v0 v1 v2 : Value} {t : TypeId} (hb : Below (w.alloc (.cells #[v0, v1, v2] t)).heap.size (w.alloc (.cells #[v0, v1, v2] t)) W) : W.heap[w.heap.size]? = some (.cells #[v0, v1, v2] t) ∧ Below w.heap.size w W := by
  have h0 : Below w.heap.size w (w.alloc (.cells #[v0, v1, v2] t)) := (Below.refl _ _).alloc (Nat.le_refl _) _
  refine ⟨?_, h0.trans (hb.mono h0.size)⟩
  rw [hb.block _ (by simp)]; exact blk_new _ _
set_option maxRecDepth 20000 in
set_option maxHeartbeats 4000000 in
theorem textOfAsked_no (c n : Int) (v : Value) (L : List ChgT) (w : World) (hr : ChgRow w v L) (hx : Hid (∀ x ∈ L, x.2.1.length ≤ 1048576 ∧ x.2.2.2.2.length ≤ 1048576)) (hE : EnvR w) (hB : askB c n L = false) :
    Calls Tryz.prog 72 #[AskV c n v] w fun e w' => e = .panicked RfC ∧ Below w.heap.size w w' := by
  unfold AskV
  have HA : Hid (∀ W, Below w.heap.size w W → Calls Tryz.prog 109 #[v] W fun e w' => e = .returned (.bool (chgsB L)) ∧ Below W.heap.size W w') := fun W hW => areChanges_any v L W (hr.kept hW) hx (hE.below hW)
  have H1 : Hid (∀ W, Calls Tryz.prog 94 #[.int .i64 c] W fun e w' => e = .returned (.bool (inB c 0 100)) ∧ w' = W) := fun W => isClient_any _ W
  have H2 : Hid (∀ W, Calls Tryz.prog 95 #[.int .i64 n] W fun e w' => e = .returned (.bool (inB n 1 1000)) ∧ w' = W) := fun W => isNo_any _ W
  have HNO : Hid (∀ W, Calls Tryz.prog 57 #[.bool false] W fun e w' => e = .panicked RfC ∧ w' = W) := fun W => insist_no W
  have HB : Hid ((inB c 0 100 && inB n 1 1000 && chgsB L) = false) := hB
  obtain ⟨a, cap, rfl, _⟩ := id hr
  have hb0 : Below w.heap.size w (w.alloc (.cells #[.int .i64 c, .int .i64 n, .slice a L.length cap] 49)) := (Below.refl _ _).alloc (Nat.le_refl _) _
  obtain ⟨⟨k0, k1, k2⟩, _⟩ := zon3_cells (blk_new w (.cells #[.int .i64 c, .int .i64 n, .slice a L.length cap] 49))
  obtain ⟨b1, hb1⟩ : ∃ b, b = inB c 0 100 := ⟨_, rfl⟩
  obtain ⟨b2, hb2⟩ : ∃ b, b = inB n 1 1000 := ⟨_, rfl⟩
  obtain ⟨b3, hb3⟩ : ∃ b, b = chgsB L := ⟨_, rfl⟩
  rw [← hb1, ← hb2, ← hb3] at HB
  rw [← hb1] at H1
  rw [← hb2] at H2
  rw [← hb3] at HA
  clear hr hx hE hB hb1 hb2 hb3
  obtain ⟨W0, hW0⟩ : ∃ W0, W0 = w.alloc (.cells #[.int .i64 c, .int .i64 n, .slice a L.length cap] 49) := ⟨_, rfl⟩
  have HW0 : Hid (w.alloc (.cells #[.int .i64 c, .int .i64 n, .slice a L.length cap] 49) = W0) := hW0.symm
  rw [← hW0] at hb0 k0 k1 k2
  clear hW0
  cases b1 with
  | false =>
    go_enter Tryz.func72, Tryz.ntmps72
    go_wp2_with (rw [HW0.out])
    refine (H1.out _).mono ?_
    rintro e w1 ⟨rfl, rfl⟩
    go_wp2_with fail
    refine (HNO.out _).mono ?_
    rintro e w2 ⟨rfl, rfl⟩
    exact ⟨rfl, rfl, hb0⟩
  | true =>
    cases b2 with
    | false =>
      go_enter Tryz.func72, Tryz.ntmps72
      go_wp2_with (rw [HW0.out])
      refine (H1.out _).mono ?_
      rintro e w1 ⟨rfl, rfl⟩
      go_wp2_with fail
      refine (H2.out _).mono ?_
      rintro e w1 ⟨rfl, rfl⟩
      go_wp2_with fail
      refine (HNO.out _).mono ?_
      rintro e w2 ⟨rfl, rfl⟩
      exact ⟨rfl, rfl, hb0⟩
    | true =>
      obtain rfl : b3 = false := by simpa using HB.out
      go_enter Tryz.func72, Tryz.ntmps72
      go_wp2_with (rw [HW0.out])
      refine (H1.out _).mono ?_
      rintro e w1 ⟨rfl, rfl⟩
      go_wp2_with fail
      refine (H2.out _).mono ?_
      rintro e w1 ⟨rfl, rfl⟩
      go_wp2_with fail
      refine (HA.out _ hb0).mono ?_
      rintro e w2 ⟨rfl, hb2⟩
      have hbw := hb0.trans (hb2.mono hb0.size)
      clear k0 k1 k2 hb2
      go_wp2_with fail
      refine (HNO.out _).mono ?_
      rintro e w3 ⟨rfl, rfl⟩
      exact ⟨rfl, rfl, hbw⟩
set_option maxRecDepth 20000 in
set_option maxHeartbeats 8000000 in
theorem textOfAsked_yes (c n : Int) (v : Value) (L : List ChgT) (w : World) (hr : ChgRow w v L) (hx : Hid (∀ x ∈ L, x.2.1.length ≤ 1048576 ∧ x.2.2.2.2.length ≤ 1048576)) (hE : EnvR w) (hB : askB c n L = true) :
    Calls Tryz.prog 72 #[AskV c n v] w fun e w' => e = .returned (.string ⟨(askT c n L).toArray⟩) ∧ Below w.heap.size w w' := by
  unfold AskV
  have hB2 : whoB c n = true ∧ chgsB L = true := by unfold askB at hB; simpa using hB
  obtain ⟨hw, hch⟩ := hB2
  obtain ⟨hl12, hall⟩ := chgsB_facts hch
  obtain ⟨hc0, hc1, hn0, hn1⟩ := whoB_facts hw
  have HA : Hid (∀ W, Below w.heap.size w W → Calls Tryz.prog 109 #[v] W fun e w' => e = .returned (.bool true) ∧ Below W.heap.size W w') := fun W hW => by
    have h := areChanges_any v L W (hr.kept hW) hx (hE.below hW)
    rw [hch] at h
    exact h
  have hwb : inB c 0 100 = true ∧ inB n 1 1000 = true := by unfold whoB at hw; simpa using hw
  have H1 : Hid (∀ W, Calls Tryz.prog 94 #[.int .i64 c] W fun e w' => e = .returned (.bool true) ∧ w' = W) := fun W => by
    have h := isClient_any c W
    rw [hwb.1] at h
    exact h
  have H2 : Hid (∀ W, Calls Tryz.prog 95 #[.int .i64 n] W fun e w' => e = .returned (.bool true) ∧ w' = W) := fun W => by
    have h := isNo_any n W
    rw [hwb.2] at h
    exact h
  have HYES : Hid (∀ W, Calls Tryz.prog 57 #[.bool true] W fun e w' => e = .returned (.tuple #[]) ∧ w' = W) := fun W => insist_yes W
  have HIT0 : ∀ (m : Int) W, 0 ≤ m → m ≤ 1000 → EnvR W → Calls Tryz.prog 110 #[.int .i64 m] W fun e w' => e = .returned (.string ⟨(numL m.toNat).toArray⟩) ∧ Below W.heap.size W w' := fun m W h0 h1 hW => by
    have h := itoa_nat m.toNat W (by omega) hW
    rw [show ((m.toNat : Nat) : Int) = m by omega] at h
    exact h
  have HHD : Hid (hdT c n = numL c.toNat ++ 32 :: numL n.toNat) := rfl
  have hq1 := numL_length 3 c.toNat (by omega)
  have hq2 := numL_length 3 n.toNat (by omega)
  have HIC0 : ∀ W, EnvR W → Calls Tryz.prog 110 #[.int .i64 c] W fun e w' => e = .returned (.string ⟨(numL c.toNat).toArray⟩) ∧ Below W.heap.size W w' := fun W hW => HIT0 c W hc0 (by omega) hW
  have HIN0 : ∀ W, EnvR W → Calls Tryz.prog 110 #[.int .i64 n] W fun e w' => e = .returned (.string ⟨(numL n.toNat).toArray⟩) ∧ Below W.heap.size W w' := fun W hW => HIT0 n W (by omega) hn1 hW
  obtain ⟨q1, hq1e⟩ : ∃ q, q = numL c.toNat := ⟨_, rfl⟩
  obtain ⟨q2, hq2e⟩ : ∃ q, q = numL n.toNat := ⟨_, rfl⟩
  rw [← hq1e] at HIC0 HHD hq1
  rw [← hq2e] at HIN0 HHD hq2
  have HIC : Hid (∀ W, EnvR W → Calls Tryz.prog 110 #[.int .i64 c] W fun e w' => e = .returned (.string ⟨q1.toArray⟩) ∧ Below W.heap.size W w') := HIC0
  have HIN : Hid (∀ W, EnvR W → Calls Tryz.prog 110 #[.int .i64 n] W fun e w' => e = .returned (.string ⟨q2.toArray⟩) ∧ Below W.heap.size W w') := HIN0
  have HIK : Hid (∀ (x : ChgT) W, x ∈ L → EnvR W → Calls Tryz.prog 110 #[.int .i64 x.1] W fun e w' => e = .returned (.string ⟨(numL x.1.toNat).toArray⟩) ∧ Below W.heap.size W w') := fun x W hm hW => by
    have hf := chgB_facts (hall x hm)
    exact HIT0 x.1 W (by omega) (by omega) hW
  have HKL : Hid (∀ x ∈ L, (numL x.1.toNat).length ≤ 1) := fun x hm => by
    have hf := chgB_facts (hall x hm)
    exact numL_length 0 x.1.toNat (by omega)
  have HRT : Hid (∀ (x : ChgT) W, x ∈ L → EnvR W → Calls Tryz.prog 111 #[.agg #[.string ⟨x.2.1.toArray⟩, .int .i64 x.2.2.1, .int .i64 x.2.2.2.1, .string ⟨x.2.2.2.2.toArray⟩]] W fun e w' => e = .returned (.tuple #[.string ⟨(recT x.2.1 x.2.2.1.toNat x.2.2.2.1.toNat x.2.2.2.2).toArray⟩, .bool true]) ∧ Below W.heap.size W w') := fun x W hxm hW => by
    have hg : recB x.2.1 x.2.2.1 x.2.2.2.1 x.2.2.2.2 = true := (chgB_facts (hall x hxm)).2.2
    have h := iRecordText_any ⟨x.2.1.toArray⟩ ⟨x.2.2.2.2.toArray⟩ x.2.2.1 x.2.2.2.1 W (by rw [size_list]; exact (hx.out x hxm).1) (by rw [size_list]; exact (hx.out x hxm).2) hW
    rw [show recX (⟨x.2.1.toArray⟩ : ByteArray).data.toList x.2.2.1 x.2.2.2.1 (⟨x.2.2.2.2.toArray⟩ : ByteArray).data.toList = recT x.2.1 x.2.2.1.toNat x.2.2.2.1.toNat x.2.2.2.2 from if_pos hg, show recB (⟨x.2.1.toArray⟩ : ByteArray).data.toList x.2.2.1 x.2.2.2.1 (⟨x.2.2.2.2.toArray⟩ : ByteArray).data.toList = true from hg] at h
    exact h
  have HLN : Hid (∀ x ∈ L, (recT x.2.1 x.2.2.1.toNat x.2.2.2.1.toNat x.2.2.2.2).length ≤ 1048676) := fun x hxm => chg_line (hall x hxm) (hx.out x hxm).2
  obtain ⟨a, cap, rfl, hcap, hmax, HROW⟩ := chg_value hr
  have hb0 : Below w.heap.size w (w.alloc (.cells #[.int .i64 c, .int .i64 n, .slice a L.length cap] 49)) := (Below.refl _ _).alloc (Nat.le_refl _) _
  obtain ⟨⟨k0, k1, k2⟩, _⟩ := zon3_cells (blk_new w (.cells #[.int .i64 c, .int .i64 n, .slice a L.length cap] 49))
  obtain ⟨W0, hW0⟩ : ∃ W0, W0 = w.alloc (.cells #[.int .i64 c, .int .i64 n, .slice a L.length cap] 49) := ⟨_, rfl⟩
  have HW0 : Hid (w.alloc (.cells #[.int .i64 c, .int .i64 n, .slice a L.length cap] 49) = W0) := hW0.symm
  have hz0 : w.heap.size < W0.heap.size := by rw [hW0]; simp
  rw [← hW0] at hb0 k0 k1 k2
  have HC : Hid (∀ W, Below W0.heap.size W0 W → (W.cell? ⟨w.heap.size, 0, none⟩ = some (.int .i64 c) ∧ W.cell? ⟨w.heap.size, 1, none⟩ = some (.int .i64 n) ∧ W.cell? ⟨w.heap.size, 2, none⟩ = some (.slice a L.length cap)) ∧ Below w.heap.size w W) := fun W hW => ⟨⟨(hW.cell (p := ⟨w.heap.size, 0, none⟩) hz0).trans k0, (hW.cell (p := ⟨w.heap.size, 1, none⟩) hz0).trans k1, (hW.cell (p := ⟨w.heap.size, 2, none⟩) hz0).trans k2⟩, hb0.trans (hW.mono hb0.size)⟩
  have HTR : Hid (∀ W W', Below W0.heap.size W0 W → Below W.heap.size W W' → Below W0.heap.size W0 W') := fun W W' h1 h2 => h1.trans (h2.mono h1.size)
  have HENV : Hid (∀ W, Below W0.heap.size W0 W → EnvR W) := fun W hW => hE.below (hb0.trans (hW.mono hb0.size))
  clear hr hx hE hB hw hch hall hc0 hc1 hn0 hn1 hwb HIT0 HIC0 HIN0 hq1e hq2e hW0 hz0
  go_enter Tryz.func72, Tryz.ntmps72
  go_wp2_with (rw [HW0.out])
  refine (H1.out _).mono ?_
  rintro e w1 ⟨rfl, rfl⟩
  go_wp2_with fail
  refine (H2.out _).mono ?_
  rintro e w1 ⟨rfl, rfl⟩
  go_wp2_with fail
  refine (HA.out _ hb0).mono ?_
  rintro e w2 ⟨rfl, hb2⟩
  clear k0 k1 k2
  go_wp2_with fail
  refine (HYES.out _).mono ?_
  rintro e w3 ⟨rfl, rfl⟩
  have hbd : Below w1.heap.size w1 w3.drew := hb2.drew
  clear hb2
  go_wp2_with fail
  refine wp_region_quiet (C := fun W => Below w1.heap.size w1 W) (by kernel_rfl) (by kernel_rfl) hbd ?_
  refine wpQuiet_step (fun K hK => ?_)
  rw [if_pos (by rfl)]
  refine ⟨.pointer (some ⟨w.heap.size, 0, none⟩), fun W hW => quiet_ok ?_, hK _ ?_⟩
  · have qq := HC.out W hW
    obtain ⟨⟨m0, m1, m2⟩, _⟩ := qq
    go_simp
    all_goals (try omega)
  clear hK K
  simp only [Act.put, List.setIfInBounds_toArray, List.set_cons_succ, List.set_cons_zero]
  refine wpQuiet_step (fun K hK => ?_)
  rw [if_pos (by rfl)]
  refine ⟨.int .i64 c, fun W hW => quiet_ok ?_, hK _ ?_⟩
  · have qq := HC.out W hW
    obtain ⟨⟨m0, m1, m2⟩, _⟩ := qq
    go_simp
    all_goals (try omega)
  clear hK K
  simp only [Act.put, List.setIfInBounds_toArray, List.set_cons_succ, List.set_cons_zero]
  refine wpQuiet_step (fun K hK => ?_)
  rw [if_pos (by rfl)]
  refine ⟨.string ⟨q1.toArray⟩, fun W hW => quiet_call (f := 110) (args := #[.int .i64 c]) ?_ ?_, hK _ ?_⟩
  · go_simp
  · exact (HIC.out W (HENV.out W hW)).mono fun e w'' h => ⟨h.1, HTR.out _ _ hW h.2⟩
  clear hK K
  simp only [Act.put, List.setIfInBounds_toArray, List.set_cons_succ, List.set_cons_zero]
  refine wpQuiet_step (fun K hK => ?_)
  rw [if_pos (by rfl)]
  refine ⟨.string (⟨q1.toArray⟩ ++ ⟨#[32]⟩), fun W hW => quiet_ok ?_, hK _ ?_⟩
  · have qq := HC.out W hW
    obtain ⟨⟨m0, m1, m2⟩, _⟩ := qq
    go_simp
    all_goals (try omega)
  clear hK K
  simp only [Act.put, List.setIfInBounds_toArray, List.set_cons_succ, List.set_cons_zero]
  refine wpQuiet_step (fun K hK => ?_)
  rw [if_pos (by rfl)]
  refine ⟨.pointer (some ⟨w.heap.size, 1, none⟩), fun W hW => quiet_ok ?_, hK _ ?_⟩
  · have qq := HC.out W hW
    obtain ⟨⟨m0, m1, m2⟩, _⟩ := qq
    go_simp
    all_goals (try omega)
  clear hK K
  simp only [Act.put, List.setIfInBounds_toArray, List.set_cons_succ, List.set_cons_zero]
  refine wpQuiet_step (fun K hK => ?_)
  rw [if_pos (by rfl)]
  refine ⟨.int .i64 n, fun W hW => quiet_ok ?_, hK _ ?_⟩
  · have qq := HC.out W hW
    obtain ⟨⟨m0, m1, m2⟩, _⟩ := qq
    go_simp
    all_goals (try omega)
  clear hK K
  simp only [Act.put, List.setIfInBounds_toArray, List.set_cons_succ, List.set_cons_zero]
  refine wpQuiet_step (fun K hK => ?_)
  rw [if_pos (by rfl)]
  refine ⟨.string ⟨q2.toArray⟩, fun W hW => quiet_call (f := 110) (args := #[.int .i64 n]) ?_ ?_, hK _ ?_⟩
  · go_simp
  · exact (HIN.out W (HENV.out W hW)).mono fun e w'' h => ⟨h.1, HTR.out _ _ hW h.2⟩
  clear hK K
  simp only [Act.put, List.setIfInBounds_toArray, List.set_cons_succ, List.set_cons_zero]
  refine wpQuiet_step (fun K hK => ?_)
  rw [if_pos (by rfl)]
  refine ⟨.string (⟨q1.toArray⟩ ++ ⟨#[32]⟩ ++ ⟨q2.toArray⟩), fun W hW => quiet_ok ?_, hK _ ?_⟩
  · have qq := HC.out W hW
    obtain ⟨⟨m0, m1, m2⟩, _⟩ := qq
    go_simp
    all_goals (try omega)
  clear hK K
  simp only [Act.put, List.setIfInBounds_toArray, List.set_cons_succ, List.set_cons_zero]
  refine wpQuiet_step (fun K hK => ?_)
  rw [if_pos (by rfl)]
  refine ⟨.string (⟨q1.toArray⟩ ++ ⟨#[32]⟩ ++ ⟨q2.toArray⟩), fun W hW => quiet_ok ?_, hK _ ?_⟩
  · have qq := HC.out W hW
    obtain ⟨⟨m0, m1, m2⟩, _⟩ := qq
    go_simp
    all_goals (try omega)
  clear hK K
  simp only [Act.put, List.setIfInBounds_toArray, List.set_cons_succ, List.set_cons_zero]
  refine wpQuiet_nil ?_
  intro W2 hW2
  obtain ⟨⟨n0, n1, n2⟩, hbw2⟩ := HC.out W2 hW2
  have HT0 : Hid ((⟨q1.toArray⟩ ++ ⟨#[32]⟩ ++ ⟨q2.toArray⟩ : ByteArray).data.toList = askT c n (L.take 0) ∧ (⟨q1.toArray⟩ ++ ⟨#[32]⟩ ++ ⟨q2.toArray⟩ : ByteArray).size ≤ 1049000) := by
    constructor
    · rw [askT_zero, HHD.out]; simp
    · have e : (⟨q1.toArray⟩ ++ ⟨#[32]⟩ ++ ⟨q2.toArray⟩ : ByteArray).size = (⟨q1.toArray⟩ : ByteArray).size + 1 + (⟨q2.toArray⟩ : ByteArray).size := by simp; rfl
      rw [e, size_list, size_list]; omega
  obtain ⟨t0, ht0⟩ : ∃ t0, t0 = (⟨q1.toArray⟩ ++ ⟨#[32]⟩ ++ ⟨q2.toArray⟩ : ByteArray) := ⟨_, rfl⟩
  rw [← ht0] at HT0 ⊢
  clear ht0 hq1 hq2
  go_wp2_with fail
  go_loopw [3, 33] (fun t i wr => ∃ (k : Nat) (tx : ByteArray), k ≤ L.length ∧ i = .int .i64 (k : Int) ∧ t = .string tx ∧ Hid (tx.data.toList = askT c n (L.take k)) ∧ tx.size ≤ 1049000 + k * 1049000 ∧ Below w1.heap.size w1 wr) (fun _ i _ => L.length - (intOf i).toNat)
  case atStart => exact ⟨0, t0, Nat.zero_le _, rfl, rfl, HT0.out.1, by have := HT0.out.2; omega, hW2⟩
  case round =>
    obtain ⟨k, tx, hk, rfl, rfl, HT, htx, hb⟩ := hrel
    obtain ⟨_, hbwr⟩ := HC.out _ hb
    clear n0 n1 n2 hW2 hbw2
    by_cases hlt : k < L.length
    · obtain ⟨b, o, ha, hbl, hcel⟩ := HROW.out (by omega)
      subst ha
      obtain ⟨c0, c1, c2, c3, c4⟩ := ((hcel k hlt).kept hbwr).cells
      have HNX := askT_snoc c n L k hlt
      have hxm := List.getElem_mem hlt
      have HCC0 := fun W => HRT.out (L[k]'hlt) W hxm
      have HKK0 := fun W => HIK.out (L[k]'hlt) W hxm
      have hkl := HKL.out _ hxm
      have hll := HLN.out _ hxm
      obtain ⟨x, hxe⟩ : ∃ x, x = L[k]'hlt := ⟨_, rfl⟩
      rw [← hxe] at c0 c1 c2 c3 c4 HNX HCC0 HKK0 hll hkl
      have HLT : Hid (lnT x = 10 :: (numL x.1.toNat ++ 32 :: recT x.2.1 x.2.2.1.toNat x.2.2.2.1.toNat x.2.2.2.2)) := rfl
      obtain ⟨ln, hln⟩ : ∃ ln, ln = recT x.2.1 x.2.2.1.toNat x.2.2.2.1.toNat x.2.2.2.2 := ⟨_, rfl⟩
      obtain ⟨qk, hqk⟩ : ∃ qk, qk = numL x.1.toNat := ⟨_, rfl⟩
      rw [← hln] at HCC0 hll HLT
      rw [← hqk] at HKK0 hkl HLT
      have HCC : Hid (∀ W, EnvR W → Calls Tryz.prog 111 #[.agg #[.string ⟨x.2.1.toArray⟩, .int .i64 x.2.2.1, .int .i64 x.2.2.2.1, .string ⟨x.2.2.2.2.toArray⟩]] W fun e w' => e = .returned (.tuple #[.string ⟨ln.toArray⟩, .bool true]) ∧ Below W.heap.size W w') := HCC0
      have HKK : Hid (∀ W, EnvR W → Calls Tryz.prog 110 #[.int .i64 x.1] W fun e w' => e = .returned (.string ⟨qk.toArray⟩) ∧ Below W.heap.size W w') := HKK0
      have HNN : Hid ((tx ++ (⟨#[10]⟩ ++ ⟨qk.toArray⟩ ++ ⟨#[32]⟩ ++ ⟨ln.toArray⟩) : ByteArray).data.toList = askT c n (L.take (k + 1))) := by
        show (tx ++ (⟨#[10]⟩ ++ ⟨qk.toArray⟩ ++ ⟨#[32]⟩ ++ ⟨ln.toArray⟩) : ByteArray).data.toList = _
        rw [HNX, HLT.out, ← HT.out]; simp
      have hls : (⟨ln.toArray⟩ : ByteArray).size ≤ 1048676 := by rw [size_list]; exact hll
      have hks : (⟨qk.toArray⟩ : ByteArray).size ≤ 1 := by rw [size_list]; exact hkl
      have hns : (tx ++ (⟨#[10]⟩ ++ ⟨qk.toArray⟩ ++ ⟨#[32]⟩ ++ ⟨ln.toArray⟩) : ByteArray).size ≤ 1049000 + (k + 1) * 1049000 := by
        have e : (tx ++ (⟨#[10]⟩ ++ ⟨qk.toArray⟩ ++ ⟨#[32]⟩ ++ ⟨ln.toArray⟩) : ByteArray).size = tx.size + (1 + (⟨qk.toArray⟩ : ByteArray).size + 1 + (⟨ln.toArray⟩ : ByteArray).size) := by simp; rfl
        rw [e]; omega
      have htb : tx.size ≤ 50000000 := by omega
      have hki : (k : Int) < (L.length : Int) := by omega
      obtain ⟨W1, hW1⟩ : ∃ W1, W1 = wr.alloc (.cells #[.int .i64 x.1, .string ⟨x.2.1.toArray⟩, .int .i64 x.2.2.1, .int .i64 x.2.2.2.1, .string ⟨x.2.2.2.2.toArray⟩] 112) := ⟨_, rfl⟩
      have HW1 : Hid (wr.alloc (.cells #[.int .i64 x.1, .string ⟨x.2.1.toArray⟩, .int .i64 x.2.2.1, .int .i64 x.2.2.2.1, .string ⟨x.2.2.2.2.toArray⟩] 112) = W1) := hW1.symm
      have hb1 : Below wr.heap.size wr W1 := by rw [hW1]; exact (Below.refl _ _).alloc (Nat.le_refl _) _
      have hxb : W1.heap[wr.heap.size]? = some (.cells #[.int .i64 x.1, .string ⟨x.2.1.toArray⟩, .int .i64 x.2.2.1, .int .i64 x.2.2.2.1, .string ⟨x.2.2.2.2.toArray⟩] 112) := by rw [hW1]; exact blk_new _ _
      have hz1 : wr.heap.size < W1.heap.size := by rw [hW1]; simp
      obtain ⟨⟨d0, d1, d2, d3, d4⟩, _⟩ := cells5 hxb
      have hbk : Below w1.heap.size w1 W1 := hb.trans (hb1.mono hb.size)
      have HD : Hid (∀ W, Below W1.heap.size W1 W → W.cell? ⟨wr.heap.size, 0, none⟩ = some (.int .i64 x.1) ∧ Below w1.heap.size w1 W) := fun W hW => ⟨(cells5 ((hW.block _ hz1).trans hxb)).1.1, hbk.trans (hW.mono hbk.size)⟩
      clear hcel hxe hln hqk HNX HCC0 HKK0 HT hxm hW1 hxb hz1 hb1 hbl
      go_wp2_with (rw [HW1.out])
      refine (HCC.out _ (HENV.out _ hbk)).mono ?_
      rintro e w4 ⟨rfl, hb4⟩
      obtain ⟨dd0, hbk4⟩ := HD.out w4 hb4
      clear d0 d1 d2 d3 d4 c0 c1 c2 c3 c4
      go_wp2_with fail
      refine (HKK.out _ (HENV.out _ hbk4)).mono ?_
      rintro e w5 ⟨rfl, hb5⟩
      have hbk5 := hbk4.trans (hb5.mono hbk4.size)
      clear dd0 hb4 hb5 hbk hbk4 hb hbwr
      go_wp2_with fail
      go_roundw
      case rel => exact ⟨k + 1, _, by omega, by go_num, rfl, HNN, hns, hbk5⟩
      case measure => simp [intOf]; omega
    · have HF : Hid (askT c n L = tx.data.toList) := by
        have h := HT.out
        rw [List.take_of_length_le (by omega)] at h
        exact h.symm
      go_wp2_with fail
      go_ret
      refine ⟨?_, hbwr⟩
      rw [HF.out]
      exact congrArg (fun b => Ending.returned (.string b)) (data_eq (s := tx) rfl)
end Go.Proofs.YtoobaaklklommaaGreatDoor

namespace Go.Proofs.YtoobaaklklommaaGreatDoor
open Go.RowKit

/-- A text in a box and a plain value, told. -/
theorem results_text_tmp {fn : Func} {p u : Tmp} (h : fn.results = #[.cell p 9, .tmp u]) (tmps : Array Value) (w : World) (g : Nat) (v x : Value)
    (hp : tmps.getD p undef = .pointer (some ⟨g, 0, none⟩)) (hu : tmps.getD u undef = x) (hc : w.cell? ⟨g, 0, none⟩ = some v) :
    (results fn tmps).run Tryz.prog w = .ok (.tuple #[v, x]) w := by
  have hp' : tmps[p]?.getD undef = .pointer (some ⟨g, 0, none⟩) := by simpa using hp
  have hu' : tmps[u]?.getD undef = x := by simpa using hu
  have hagg : (isAgg 9).run Tryz.prog w = .ok false w := by
    unfold isAgg
    rw [Sem.run_bind, run_underlying Tryz.underlying9 w]
    simp
  rw [results_cell_tmp h]
  simp [hp', hu', asAddr, loadVar, Sem.run_bind, hagg, go_sem, hc, Result.andThen]
set_option maxRecDepth 20000 in
set_option maxHeartbeats 4000000 in
theorem asked1_any (c n : Int) (v : Value) (L : List ChgT) (w : World) (b0 b1 : Nat) (hr : ChgRow w v L) (hx : Hid (∀ x ∈ L, x.2.1.length ≤ 1048576 ∧ x.2.2.2.2.length ≤ 1048576)) (hE : EnvR w)
    (h0 : w.heap[b0]? = some (.cells #[.int .i64 c, .int .i64 n, v] 49)) (h1 : w.heap[b1]? = some (.cells #[.string ⟨#[]⟩] 9)) :
    Calls Tryz.prog 71 #[.pointer (some ⟨b0, 0, none⟩), .pointer (some ⟨b1, 0, none⟩)] w fun e w' => (match askB c n L with
      | true => e = .returned (.tuple #[]) ∧ (∃ W1, Below w.heap.size w W1 ∧ w' = W1.setCell ⟨b1, 0, none⟩ (.string ⟨(askT c n L).toArray⟩))
      | false => e = .panicked RfC ∧ Below w.heap.size w w') := by
  obtain ⟨a, cap, rfl, _⟩ := id hr
  obtain ⟨⟨k0, k1, k2⟩, _⟩ := zon3_cells h0
  have H1 : Hid (∀ W, Below w.heap.size w W → W.cell? ⟨b1, 0, none⟩ = some (.string ⟨#[]⟩) ∧ W.frozen? ⟨b1, 0, none⟩ = false) := fun W hW => by
    have h9 := (hW.block b1 ((Array.getElem?_eq_some_iff.1 h1).1)).trans h1
    refine ⟨?_, ?_⟩
    · unfold World.cell?; rw [h9]; rfl
    · unfold World.frozen?; rw [h9]; simp
  cases hB : askB c n L with
  | false =>
    have HT : Hid (Calls Tryz.prog 72 #[AskV c n (.slice a L.length cap)] w fun e w' => e = .panicked RfC ∧ Below w.heap.size w w') := textOfAsked_no c n _ L w hr hx hE hB
    unfold AskV at HT
    clear hr hx hE h0 h1 hB
    go_enter Tryz.func71, Tryz.ntmps71
    go_wp2_with fail
    refine HT.out.mono ?_
    rintro e w1 ⟨rfl, hb1⟩
    exact ⟨rfl, rfl, hb1⟩
  | true =>
    have HT : Hid (Calls Tryz.prog 72 #[AskV c n (.slice a L.length cap)] w fun e w' => e = .returned (.string ⟨(askT c n L).toArray⟩) ∧ Below w.heap.size w w') := textOfAsked_yes c n _ L w hr hx hE hB
    unfold AskV at HT
    obtain ⟨z, hz⟩ : ∃ z, z = askT c n L := ⟨_, rfl⟩
    rw [← hz] at HT ⊢
    clear hr hx hE h0 h1 hB hz
    go_enter Tryz.func71, Tryz.ntmps71
    go_wp2_with fail
    refine HT.out.mono ?_
    rintro e w1 ⟨rfl, hb1⟩
    obtain ⟨y0, f0⟩ := H1.out w1 hb1
    clear k0 k1 k2
    go_wp2_with fail
    first | go_end0 | refine bodyPost_ret (results_none rfl _ _ _) rfl ?_
    exact ⟨rfl, w1, hb1, rfl⟩
set_option maxRecDepth 20000 in
set_option maxHeartbeats 4000000 in
theorem iAskedText_any (c n : Int) (v : Value) (L : List ChgT) (w : World) (hr : ChgRow w v L) (hx : Hid (∀ x ∈ L, x.2.1.length ≤ 1048576 ∧ x.2.2.2.2.length ≤ 1048576)) (hE : EnvR w) :
    Calls Tryz.prog 35 #[AskV c n v] w fun e w' => e = .returned (.tuple #[.string ⟨(askX c n L).toArray⟩, .bool (askB c n L)]) ∧ Below w.heap.size w w' := by
  unfold AskV
  have hmf : ∀ (fn : Fn) (first cap : Array Value) (w : World), (Instr.makeFunc fn first cap).run Tryz.prog w = .ok (.func fn first cap) w := fun _ _ _ _ => rfl
  obtain ⟨a, cap, rfl, _⟩ := id hr
  obtain ⟨W0, hW0⟩ : ∃ W0, W0 = (w.alloc (.cells #[.int .i64 c, .int .i64 n, .slice a L.length cap] 49)).alloc (.cells #[.string ⟨#[]⟩] 9) := ⟨_, rfl⟩
  have HW0 : Hid ((w.alloc (.cells #[.int .i64 c, .int .i64 n, .slice a L.length cap] 49)).alloc (.cells #[.string ⟨#[]⟩] 9) = W0) := hW0.symm
  have hs1 : (w.alloc (.cells #[.int .i64 c, .int .i64 n, .slice a L.length cap] 49)).heap.size = w.heap.size + 1 := by simp
  have hb0 : Below w.heap.size w W0 := by rw [hW0]; exact ((Below.refl _ _).alloc (Nat.le_refl _) _).alloc (by simp) _
  have hz0 : W0.heap.size = w.heap.size + 1 + 1 := by rw [hW0]; simp
  have hx0 : W0.heap[w.heap.size]? = some (.cells #[.int .i64 c, .int .i64 n, .slice a L.length cap] 49) := by rw [hW0, Below.heap_alloc _ _ _ (by omega)]; exact blk_new _ _
  have hx1 : W0.heap[w.heap.size + 1]? = some (.cells #[.string ⟨#[]⟩] 9) := by rw [hW0, ← hs1]; exact blk_new _ _
  have hans := asked1_any c n _ L W0 w.heap.size (w.heap.size + 1) (hr.kept hb0) hx (hE.below hb0) hx0 hx1
  have hen : ∀ W : World, (callFunc 71 #[.pointer (some ⟨w.heap.size, 0, none⟩), .pointer (some ⟨w.heap.size + 1, 0, none⟩)]).run Tryz.prog W = .ok (.enter 71 #[.pointer (some ⟨w.heap.size, 0, none⟩), .pointer (some ⟨w.heap.size + 1, 0, none⟩)]) W := fun W => enters Tryz.func71 (by kernel_rfl) (by kernel_rfl) _ W
  have H3 : Hid (∀ W, Below W0.heap.size W0 W → W.heap[w.heap.size + 1]? = some (.cells #[.string ⟨#[]⟩] 9)) := fun W hW => (hW.block _ (by omega)).trans hx1
  have HB0 : Hid (Below w.heap.size w W0) := hb0
  cases hB : askB c n L with
  | false =>
    have HX : Hid (askX c n L = []) := if_neg (by rw [hB]; simp)
    rw [hB] at hans
    rw [HX.out]
    have HC : Hid (Calls Tryz.prog 55 #[.func (.func 71) #[] #[.pointer (some ⟨w.heap.size, 0, none⟩), .pointer (some ⟨w.heap.size + 1, 0, none⟩)]] W0 fun e w' => e = .returned (.bool false) ∧ Below W0.heap.size W0 w') := comes_no _ _ _ _ hen (hans.mono fun e w' h => h)
    clear hans hen hx0 hx1 hW0 hs1 hb0 hz0 hr hx hE hB HX
    go_enter Tryz.func35, Tryz.ntmps35
    go_wp2_with (rw [HW0.out])
    refine HC.out.mono ?_
    rintro e w1 ⟨rfl, hb1⟩
    have h3 := H3.out w1 hb1
    have y0 : w1.cell? ⟨w.heap.size + 1, 0, none⟩ = some (.string ⟨#[]⟩) := by unfold World.cell?; rw [h3]; rfl
    have f0 : w1.frozen? ⟨w.heap.size + 1, 0, none⟩ = false := by unfold World.frozen?; rw [h3]; simp
    have Y0 : Hid (w1.cell? ⟨w.heap.size + 1, 0, none⟩ = some (.string ⟨#[]⟩)) := y0
    have hbw1 := HB0.out.trans (hb1.mono HB0.out.size)
    clear h3
    go_wp2_with fail
    (try simp only [Exit.inBlock, Exit.then])
    refine bodyPost_ret (results_text_tmp rfl _ _ (w.heap.size + 1) (.string ⟨#[]⟩) (.bool false) rfl rfl ?_) rfl ⟨rfl, ?_⟩
    · exact World.cell?_setCell_same _ _ _ Y0.out
    · exact hbw1.setCell (p := ⟨w.heap.size + 1, 0, none⟩) (by show w.heap.size ≤ w.heap.size + 1; omega) _
  | true =>
    have HX : Hid (askX c n L = askT c n L) := if_pos hB
    rw [hB] at hans
    rw [HX.out]
    obtain ⟨z, hz⟩ : ∃ z, z = askT c n L := ⟨_, rfl⟩
    rw [← hz] at hans ⊢
    have HC : Hid (Calls Tryz.prog 55 #[.func (.func 71) #[] #[.pointer (some ⟨w.heap.size, 0, none⟩), .pointer (some ⟨w.heap.size + 1, 0, none⟩)]] W0 fun e w' => e = .returned (.bool true) ∧ ∃ W1, Below W0.heap.size W0 W1 ∧ w' = W1.setCell ⟨w.heap.size + 1, 0, none⟩ (.string ⟨z.toArray⟩)) := comes_yes _ _ _ _ hen (hans.mono fun e w' h => h)
    clear hans hen hx0 hx1 hW0 hs1 hb0 hz0 hr hx hE hB HX hz
    go_enter Tryz.func35, Tryz.ntmps35
    go_wp2_with (rw [HW0.out])
    refine HC.out.mono ?_
    rintro e w1 ⟨rfl, W1, hb1, hw1⟩
    have h3 := H3.out W1 hb1
    have z0 : W1.cell? ⟨w.heap.size + 1, 0, none⟩ = some (.string ⟨#[]⟩) := by unfold World.cell?; rw [h3]; rfl
    have g0 : W1.frozen? ⟨w.heap.size + 1, 0, none⟩ = false := by unfold World.frozen?; rw [h3]; simp
    have y0 : w1.cell? ⟨w.heap.size + 1, 0, none⟩ = some (.string ⟨z.toArray⟩) := by rw [hw1]; exact World.cell?_setCell_same _ _ _ z0
    have f0 : w1.frozen? ⟨w.heap.size + 1, 0, none⟩ = false := by rw [hw1]; simpa using g0
    have Y0 : Hid (w1.cell? ⟨w.heap.size + 1, 0, none⟩ = some (.string ⟨z.toArray⟩)) := y0
    have hbw1 : Below w.heap.size w w1 := by rw [hw1]; exact (HB0.out.trans (hb1.mono HB0.out.size)).setCell (p := ⟨w.heap.size + 1, 0, none⟩) (by show w.heap.size ≤ w.heap.size + 1; omega) _
    clear h3 hw1 hb1 z0 g0
    go_wp2_with fail
    (try simp only [Exit.inBlock, Exit.then])
    refine bodyPost_ret (results_text_tmp rfl _ _ (w.heap.size + 1) (.string ⟨z.toArray⟩) (.bool true) rfl rfl ?_) rfl ⟨rfl, ?_⟩
    · exact World.cell?_setCell_same _ _ _ Y0.out
    · exact hbw1.setCell (p := ⟨w.heap.size + 1, 0, none⟩) (by show w.heap.size ≤ w.heap.size + 1; omega) _
end Go.Proofs.YtoobaaklklommaaGreatDoor
