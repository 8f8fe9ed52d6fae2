import Derived.Test.YtoobaaklklommaaGreatDoorZ43
import Derived.Test.YtoobaaklklommaaGreatDoorZ39
import Derived.BigQuiet
import Derived.Deep.QuietTactic
namespace Go.Proofs.YtoobaaklklommaaGreatDoor
open Go.RowKit

theorem soa_count (ap : List UInt8) : ∀ L : List (List UInt8 × Int × Int × List UInt8), (L.filter (fun x => x.2.1 == 6)).length = nAt ap L + nOff ap L
  | [] => rfl
  | x :: r => by
    have ih := soa_count ap r
    unfold nAt nOff at ih ⊢
    by_cases h6 : x.2.1 = 6 <;> by_cases hn : x.1 = ap <;> simp [h6, hn] <;> omega
theorem one_all {L : List (List UInt8 × Int × Int × List UInt8)} {p q : (List UInt8 × Int × Int × List UInt8) → Bool} (h : (L.filter p).length = 1) : L.all (fun x => !p x || q x) = L.any (fun x => p x && q x) := by
  have h1 : L.all (fun x => !p x || q x) = (L.filter p).all q := by
    rw [List.all_filter]
  have h2 : L.any (fun x => p x && q x) = (L.filter p).any q := by
    rw [List.any_filter]
  rw [h1, h2]
  obtain ⟨a, ha⟩ := List.length_eq_one_iff.1 h
  rw [ha]; simp
/-- A good zone, in the specification's words. -/
def allT (ct : Int) (L : List (List UInt8 × Int × Int × List UInt8)) : Bool := L.all (fun x => !(x.2.1 == 6) || x.2.2.2 == serT ct)
theorem zone_same {ap : List UInt8} {ct : Int} {L : List (List UInt8 × Int × Int × List UInt8)} (h : ruleB ap L = 0) : telB ct L = allT ct L := by
  unfold ruleB at h
  split at h
  · unfold ruleI at h
    split at h
    · cases h
    · split at h
      · cases h
      · rename_i h2
        have hs : soaB ap L = true := by simpa using h2
        unfold soaB at hs
        simp only [Bool.and_eq_true, decide_eq_true_eq] at hs
        have hc := soa_count ap L
        unfold telB allT
        exact (one_all (by omega)).symm
  · cases h

set_option maxRecDepth 20000 in
set_option maxHeartbeats 400000 in
theorem l6Soa_any (nm : ByteArray) (ct : Int) (a : Option Addr) (n cap : Nat) (w : World) (hc : inB ct 0 1152921504606846976 = true) :
    Calls Tryz.prog 81 #[.agg #[.string nm, .int .i64 ct, .slice a n cap]] w fun e w' => e = .returned (.string ⟨(serT ct).toArray⟩) ∧ Below w.heap.size w w' := by
  have hc' : 0 ≤ ct ∧ ct ≤ 1152921504606846976 := by simpa [inB] using hc
  have HC : Hid (∀ W, Calls Tryz.prog 107 #[.int .i64 (ct % 4294967296)] W fun e w' => e = .returned (.string ⟨(serT ct).toArray⟩) ∧ Below W.heap.size W w') := fun W => by
    have h := l1Num_any (ct % 4294967296).toNat (ct % 4294967296).toNat W (Nat.le_refl _) (by omega)
    rw [show (((ct % 4294967296).toNat : Nat) : Int) = ct % 4294967296 by omega] at h
    exact h
  have e1 : ct.tmod 4294967296 = ct % 4294967296 := Int.tmod_eq_emod_of_nonneg hc'.1
  have e2 : IntKind.i64.wrap (ct % 4294967296) = ct % 4294967296 := wrap_small _ (by omega) (by omega)
  go_enter Tryz.func81, Tryz.ntmps81
  go_wp2_with fail
  refine (HC.out _).mono ?_
  rintro e w1 ⟨rfl, hb1⟩
  have hbw := (box3c hb1).2.2.2
  go_wp2_with fail
  go_ret
  exact ⟨rfl, hbw⟩

theorem allT_bad {ct : Int} {L : List (List UInt8 × Int × Int × List UInt8)} (k : Nat) (hk : k < L.length) (h6 : L[k].2.1 = 6) (hd : ¬ L[k].2.2.2 = serT ct) : allT ct L = false := by
  unfold allT; rw [List.all_eq_false]; exact ⟨_, List.getElem_mem hk, by simp [h6, hd]⟩
theorem allT_all {ct : Int} {L : List (List UInt8 × Int × Int × List UInt8)} (h : ∀ j, (hj : j < L.length) → (!(L[j].2.1 == 6) || L[j].2.2.2 == serT ct) = true) : allT ct L = true := by
  unfold allT; rw [List.all_eq_true]; intro x hx
  obtain ⟨j, hj, rfl⟩ := List.getElem_of_mem hx
  exact h j hj

set_option maxRecDepth 20000 in
set_option maxHeartbeats 2000000 in
theorem sGoodZone_of (nm : ByteArray) (ct : Int) (v : Value) (L : List (List UInt8 × Int × Int × List UInt8)) (w : World) (hr : RRow w v L)
    (HRO : Hid (∀ W, Below w.heap.size w W → Calls Tryz.prog 80 #[.string nm, v] W fun e w' => e = .returned (.int .i64 (ruleB nm.data.toList L)) ∧ Below W.heap.size W w')) :
    Calls Tryz.prog 44 #[ZonV nm ct v] w fun e w' => e = .returned (.bool (zoneB nm.data.toList ct L)) ∧ Below w.heap.size w w' := by
  unfold ZonV
  obtain ⟨a, cap, rfl, hcap, hmax, hrow⟩ := hr
  have HROW : Hid (L = [] ∨ ∃ b o, a = some ⟨b, o, none⟩ ∧ b < w.heap.size ∧ ∀ j, (hj : j < L.length) → RecAt w b (o + j * 4) L[j]) := hrow
  clear hrow
  unfold maxLen at hmax
  have HZ : Hid (zoneB nm.data.toList ct L = (inB ct 0 1152921504606846976 && (decide (ruleB nm.data.toList L = 0) && telB ct L))) := rfl
  have HZS : Hid (ruleB nm.data.toList L = 0 → telB ct L = allT ct L) := fun h => zone_same h
  obtain ⟨z, hz⟩ : ∃ z, z = zoneB nm.data.toList ct L := ⟨_, rfl⟩
  rw [← hz] at HZ ⊢
  clear hz
  have hb0 : Below w.heap.size w (w.alloc (.cells #[.string nm, .int .i64 ct, .slice a L.length cap] 32)) := (Below.refl _ _).alloc (Nat.le_refl _) _
  cases h1 : inB ct 0 1152921504606846976 with
  | false =>
    have HR : Hid (z = false) := by rw [HZ.out, h1]; rfl
    go_enter Tryz.func44, Tryz.ntmps44
    go_wp2_with fail
    refine (l1In_any ct 0 1152921504606846976 _).mono ?_
    rintro e w1 ⟨rfl, rfl⟩
    rw [show (decide (0 ≤ ct) && decide (ct ≤ 1152921504606846976)) = false from h1]
    go_wp2_with fail
    go_ret
    exact ⟨ret_bool HR.out.symm, hb0⟩
  | true =>
    rw [h1, Bool.true_and] at HZ
    have HSO : Hid (∀ W, Calls Tryz.prog 81 #[.agg #[.string nm, .int .i64 ct, .slice a L.length cap]] W fun e w' => e = .returned (.string ⟨(serT ct).toArray⟩) ∧ Below W.heap.size W w') := fun W => l6Soa_any nm ct a L.length cap W h1
    go_enter Tryz.func44, Tryz.ntmps44
    go_wp2_with fail
    refine (l1In_any ct 0 1152921504606846976 _).mono ?_
    rintro e w1 ⟨rfl, rfl⟩
    rw [show (decide (0 ≤ ct) && decide (ct ≤ 1152921504606846976)) = true from h1]
    go_wp2_with fail
    refine (HRO.out _ hb0).mono ?_
    rintro e w2 ⟨rfl, hb2⟩
    obtain ⟨c0, c1, c2, hbw2⟩ := box3c hb2
    have hz2 : w.heap.size < w2.heap.size := Nat.lt_of_lt_of_le (by simp) hb2.size
    by_cases h0 : ruleB nm.data.toList L = 0
    · have HR0 : Hid (z = allT ct L) := by rw [HZ.out, h0, HZS.out h0]; rfl
      rw [h0]
      clear HZ HZS h0 hb2
      go_wp2_with fail
      go_loopw [20] (fun i wr => ∃ k : Nat, k ≤ L.length ∧ i = .int .i64 (k : Int) ∧ Hid (∀ j, (hj : j < L.length) → j < k → (!(L[j].2.1 == 6) || L[j].2.2.2 == serT ct) = true) ∧ Below w2.heap.size w2 wr) (fun i _ => L.length - (intOf i).toNat)
      case atStart => exact ⟨0, Nat.zero_le _, rfl, fun j _ h => absurd h (Nat.not_lt_zero _), Below.refl _ _⟩
      case round =>
        obtain ⟨k, hk, rfl, HA, hb⟩ := hrel
        have hbw := hbw2.trans (hb.mono hbw2.size)
        by_cases hlt : k < L.length
        · rcases HROW.out with hr | ⟨b, o, ha, hbl, hcel⟩
          · rw [hr] at hlt; simp at hlt
          · have hcx := (hcel k hlt).kept hbw
            rw [ha] at c2 HSO ⊢
            unfold RecAt at hcx
            obtain ⟨d0, d1, d2, d3⟩ := hcx
            have HBAD : Hid ((L[k]'hlt).2.1 = 6 → ¬ (L[k]'hlt).2.2.2 = serT ct → allT ct L = false) := allT_bad k hlt
            have HOK : Hid ((!((L[k]'hlt).2.1 == 6) || (L[k]'hlt).2.2.2 == serT ct) = true → ∀ j, (hj : j < L.length) → j < k + 1 → (!(L[j].2.1 == 6) || L[j].2.2.2 == serT ct) = true) := fun h j hj h1 => by
              rcases Nat.lt_or_ge j k with h' | h'
              · exact HA.out j hj h'
              · obtain rfl : j = k := by omega
                exact h
            obtain ⟨x, hxe⟩ : ∃ x, x = L[k]'hlt := ⟨_, rfl⟩
            rw [← hxe] at d0 d1 d2 d3 HBAD HOK
            obtain ⟨xn, xt, xl, xd⟩ := x
            simp only at d0 d1 d2 d3 HBAD HOK
            obtain ⟨sd, hsd⟩ : ∃ sd, sd = serT ct := ⟨_, rfl⟩
            rw [← hsd] at HBAD HSO
            have HSD : Hid (serT ct = sd) := hsd.symm
            obtain ⟨W0, hW0⟩ : ∃ W0, W0 = wr.alloc (.cells #[.string ⟨xn.toArray⟩, .int .i64 xt, .int .i64 xl, .string ⟨xd.toArray⟩] 108) := ⟨_, rfl⟩
            have HW0 : Hid (wr.alloc (.cells #[.string ⟨xn.toArray⟩, .int .i64 xt, .int .i64 xl, .string ⟨xd.toArray⟩] 108) = W0) := hW0.symm
            have hbd : Below W0.heap.size W0 W0.drew := (Below.refl _ _).drew
            have HTR : Hid (∀ W W', Below W0.heap.size W0 W → Below W.heap.size W W' → Below W0.heap.size W0 W') := fun W W' h1 h2 => h1.trans (h2.mono h1.size)
            have HX : Hid (∀ W, Below W0.heap.size W0 W → (W.cell? ⟨wr.heap.size, 0, none⟩ = some (.string ⟨xn.toArray⟩) ∧ W.cell? ⟨wr.heap.size, 1, none⟩ = some (.int .i64 xt) ∧ W.cell? ⟨wr.heap.size, 2, none⟩ = some (.int .i64 xl) ∧ W.cell? ⟨wr.heap.size, 3, none⟩ = some (.string ⟨xd.toArray⟩)) ∧ (W.cell? ⟨w.heap.size, 0, none⟩ = some (.string nm) ∧ W.cell? ⟨w.heap.size, 1, none⟩ = some (.int .i64 ct) ∧ W.cell? ⟨w.heap.size, 2, none⟩ = some (.slice (some ⟨b, o, none⟩) L.length cap)) ∧ Below w2.heap.size w2 W) := fun W hW => by
              rw [hW0] at hW
              have h := box4 hW
              have h2 := hb.trans (h.2.2.2.2.mono hb.size)
              exact ⟨⟨h.1, h.2.1, h.2.2.1, h.2.2.2.1⟩, ⟨(h2.cell (p := ⟨w.heap.size, 0, none⟩) hz2).trans c0, (h2.cell (p := ⟨w.heap.size, 1, none⟩) hz2).trans c1, (h2.cell (p := ⟨w.heap.size, 2, none⟩) hz2).trans c2⟩, h2⟩
            clear hcel hxe hsd hW0 HA
            by_cases h6 : xt = 6
            · by_cases hd : xd = sd
              · have HR : Hid _ := HOK.out (by rw [HSD.out]; simp [hd])
                have HD : Hid ((xd == sd) = true) := beq_iff_eq.2 hd
                clear hd
                subst h6
                clear HBAD HOK
                go_wp2_with fail
                rw [HW0.out]
                refine wp_region_quiet (C := fun W => Below W0.heap.size W0 W) (by kernel_rfl) (by kernel_rfl) hbd ?_
                refine wpQuiet_step (fun K hK => ?_)
                rw [if_pos (by rfl)]
                refine ⟨.pointer (some ⟨wr.heap.size, 1, none⟩), fun W hW => quiet_ok ?_, hK _ ?_⟩
                · have q := HX.out W hW
                  obtain ⟨⟨m0, m1, m2, m3⟩, ⟨z0, z1, z2⟩, _⟩ := q
                  go_simp
                  all_goals (try omega)
                clear hK K
                simp only [Act.put, List.setIfInBounds_toArray, List.set_cons_succ, List.set_cons_zero]
                refine wpQuiet_step (fun K hK => ?_)
                rw [if_pos (by rfl)]
                refine ⟨.int .i64 6, fun W hW => quiet_ok ?_, hK _ ?_⟩
                · have q := HX.out W hW
                  obtain ⟨⟨m0, m1, m2, m3⟩, ⟨z0, z1, z2⟩, _⟩ := q
                  go_simp
                  all_goals (try omega)
                clear hK K
                simp only [Act.put, List.setIfInBounds_toArray, List.set_cons_succ, List.set_cons_zero]
                refine wpQuiet_step (fun K hK => ?_)
                rw [if_pos (by rfl)]
                refine ⟨.bool true, fun W hW => quiet_ok ?_, hK _ ?_⟩
                · have q := HX.out W hW
                  obtain ⟨⟨m0, m1, m2, m3⟩, ⟨z0, z1, z2⟩, _⟩ := q
                  go_simp
                  all_goals (try omega)
                clear hK K
                simp only [Act.put, List.setIfInBounds_toArray, List.set_cons_succ, List.set_cons_zero]
                refine wpQuiet_step (fun K hK => ?_)
                rw [if_pos (by rfl)]
                refine ⟨.bool true, fun W hW => quiet_ok ?_, hK _ ?_⟩
                · have q := HX.out W hW
                  obtain ⟨⟨m0, m1, m2, m3⟩, ⟨z0, z1, z2⟩, _⟩ := q
                  go_simp
                  all_goals (try omega)
                clear hK K
                simp only [Act.put, List.setIfInBounds_toArray, List.set_cons_succ, List.set_cons_zero]
                refine wpQuiet_step (fun K hK => ?_)
                rw [if_pos (by rfl)]
                refine ⟨.pointer (some ⟨wr.heap.size, 3, none⟩), fun W hW => quiet_ok ?_, hK _ ?_⟩
                · have q := HX.out W hW
                  obtain ⟨⟨m0, m1, m2, m3⟩, ⟨z0, z1, z2⟩, _⟩ := q
                  go_simp
                  all_goals (try omega)
                clear hK K
                simp only [Act.put, List.setIfInBounds_toArray, List.set_cons_succ, List.set_cons_zero]
                refine wpQuiet_step (fun K hK => ?_)
                rw [if_pos (by rfl)]
                refine ⟨.string ⟨xd.toArray⟩, fun W hW => quiet_ok ?_, hK _ ?_⟩
                · have q := HX.out W hW
                  obtain ⟨⟨m0, m1, m2, m3⟩, ⟨z0, z1, z2⟩, _⟩ := q
                  go_simp
                  all_goals (try omega)
                clear hK K
                simp only [Act.put, List.setIfInBounds_toArray, List.set_cons_succ, List.set_cons_zero]
                refine wpQuiet_step (fun K hK => ?_)
                rw [if_pos (by rfl)]
                refine ⟨.agg #[.string nm, .int .i64 ct, .slice (some ⟨b, o, none⟩) L.length cap], fun W hW => quiet_ok ?_, hK _ ?_⟩
                · have q := HX.out W hW
                  obtain ⟨⟨m0, m1, m2, m3⟩, ⟨z0, z1, z2⟩, _⟩ := q
                  go_simp
                  all_goals (try omega)
                clear hK K
                simp only [Act.put, List.setIfInBounds_toArray, List.set_cons_succ, List.set_cons_zero]
                refine wpQuiet_step (fun K hK => ?_)
                rw [if_pos (by rfl)]
                refine ⟨.string ⟨sd.toArray⟩, fun W hW => quiet_call (f := 81) (args := #[.agg #[.string nm, .int .i64 ct, .slice (some ⟨b, o, none⟩) L.length cap]]) ?_ ?_, hK _ ?_⟩
                · go_simp
                · exact (HSO.out W).mono fun e w'' h => ⟨h.1, HTR.out _ _ hW h.2⟩
                clear hK K
                simp only [Act.put, List.setIfInBounds_toArray, List.set_cons_succ, List.set_cons_zero]
                refine wpQuiet_step (fun K hK => ?_)
                rw [if_pos (by rfl)]
                refine ⟨.bool (!(xd == sd)), fun W hW => quiet_ok ?_, hK _ ?_⟩
                · have q := HX.out W hW
                  obtain ⟨⟨m0, m1, m2, m3⟩, ⟨z0, z1, z2⟩, _⟩ := q
                  go_simp
                  all_goals (try omega)
                clear hK K
                simp only [Act.put, List.setIfInBounds_toArray, List.set_cons_succ, List.set_cons_zero]
                refine wpQuiet_step (fun K hK => ?_)
                rw [if_pos (by rfl)]
                refine ⟨.bool (!(xd == sd)), fun W hW => quiet_ok ?_, hK _ ?_⟩
                · have q := HX.out W hW
                  obtain ⟨⟨m0, m1, m2, m3⟩, ⟨z0, z1, z2⟩, _⟩ := q
                  go_simp
                  all_goals (try omega)
                clear hK K
                simp only [Act.put, List.setIfInBounds_toArray, List.set_cons_succ, List.set_cons_zero]
                rw [HD.out]
                refine wpQuiet_nil ?_
                intro W hW
                have hbW := (HX.out W hW).2.2
                go_wp2_with fail
                go_roundw
                case rel => exact ⟨k + 1, by omega, by go_num, HR, hbW⟩
                case measure => simp [intOf]; omega
              · have HR : Hid (z = false) := by rw [HR0.out]; exact HBAD.out h6 hd
                have HD : Hid ((xd == sd) = false) := beq_eq_false_iff_ne.2 hd
                clear hd
                subst h6
                clear HBAD HOK
                go_wp2_with fail
                rw [HW0.out]
                refine wp_region_quiet (C := fun W => Below W0.heap.size W0 W) (by kernel_rfl) (by kernel_rfl) hbd ?_
                refine wpQuiet_step (fun K hK => ?_)
                rw [if_pos (by rfl)]
                refine ⟨.pointer (some ⟨wr.heap.size, 1, none⟩), fun W hW => quiet_ok ?_, hK _ ?_⟩
                · have q := HX.out W hW
                  obtain ⟨⟨m0, m1, m2, m3⟩, ⟨z0, z1, z2⟩, _⟩ := q
                  go_simp
                  all_goals (try omega)
                clear hK K
                simp only [Act.put, List.setIfInBounds_toArray, List.set_cons_succ, List.set_cons_zero]
                refine wpQuiet_step (fun K hK => ?_)
                rw [if_pos (by rfl)]
                refine ⟨.int .i64 6, fun W hW => quiet_ok ?_, hK _ ?_⟩
                · have q := HX.out W hW
                  obtain ⟨⟨m0, m1, m2, m3⟩, ⟨z0, z1, z2⟩, _⟩ := q
                  go_simp
                  all_goals (try omega)
                clear hK K
                simp only [Act.put, List.setIfInBounds_toArray, List.set_cons_succ, List.set_cons_zero]
                refine wpQuiet_step (fun K hK => ?_)
                rw [if_pos (by rfl)]
                refine ⟨.bool true, fun W hW => quiet_ok ?_, hK _ ?_⟩
                · have q := HX.out W hW
                  obtain ⟨⟨m0, m1, m2, m3⟩, ⟨z0, z1, z2⟩, _⟩ := q
                  go_simp
                  all_goals (try omega)
                clear hK K
                simp only [Act.put, List.setIfInBounds_toArray, List.set_cons_succ, List.set_cons_zero]
                refine wpQuiet_step (fun K hK => ?_)
                rw [if_pos (by rfl)]
                refine ⟨.bool true, fun W hW => quiet_ok ?_, hK _ ?_⟩
                · have q := HX.out W hW
                  obtain ⟨⟨m0, m1, m2, m3⟩, ⟨z0, z1, z2⟩, _⟩ := q
                  go_simp
                  all_goals (try omega)
                clear hK K
                simp only [Act.put, List.setIfInBounds_toArray, List.set_cons_succ, List.set_cons_zero]
                refine wpQuiet_step (fun K hK => ?_)
                rw [if_pos (by rfl)]
                refine ⟨.pointer (some ⟨wr.heap.size, 3, none⟩), fun W hW => quiet_ok ?_, hK _ ?_⟩
                · have q := HX.out W hW
                  obtain ⟨⟨m0, m1, m2, m3⟩, ⟨z0, z1, z2⟩, _⟩ := q
                  go_simp
                  all_goals (try omega)
                clear hK K
                simp only [Act.put, List.setIfInBounds_toArray, List.set_cons_succ, List.set_cons_zero]
                refine wpQuiet_step (fun K hK => ?_)
                rw [if_pos (by rfl)]
                refine ⟨.string ⟨xd.toArray⟩, fun W hW => quiet_ok ?_, hK _ ?_⟩
                · have q := HX.out W hW
                  obtain ⟨⟨m0, m1, m2, m3⟩, ⟨z0, z1, z2⟩, _⟩ := q
                  go_simp
                  all_goals (try omega)
                clear hK K
                simp only [Act.put, List.setIfInBounds_toArray, List.set_cons_succ, List.set_cons_zero]
                refine wpQuiet_step (fun K hK => ?_)
                rw [if_pos (by rfl)]
                refine ⟨.agg #[.string nm, .int .i64 ct, .slice (some ⟨b, o, none⟩) L.length cap], fun W hW => quiet_ok ?_, hK _ ?_⟩
                · have q := HX.out W hW
                  obtain ⟨⟨m0, m1, m2, m3⟩, ⟨z0, z1, z2⟩, _⟩ := q
                  go_simp
                  all_goals (try omega)
                clear hK K
                simp only [Act.put, List.setIfInBounds_toArray, List.set_cons_succ, List.set_cons_zero]
                refine wpQuiet_step (fun K hK => ?_)
                rw [if_pos (by rfl)]
                refine ⟨.string ⟨sd.toArray⟩, fun W hW => quiet_call (f := 81) (args := #[.agg #[.string nm, .int .i64 ct, .slice (some ⟨b, o, none⟩) L.length cap]]) ?_ ?_, hK _ ?_⟩
                · go_simp
                · exact (HSO.out W).mono fun e w'' h => ⟨h.1, HTR.out _ _ hW h.2⟩
                clear hK K
                simp only [Act.put, List.setIfInBounds_toArray, List.set_cons_succ, List.set_cons_zero]
                refine wpQuiet_step (fun K hK => ?_)
                rw [if_pos (by rfl)]
                refine ⟨.bool (!(xd == sd)), fun W hW => quiet_ok ?_, hK _ ?_⟩
                · have q := HX.out W hW
                  obtain ⟨⟨m0, m1, m2, m3⟩, ⟨z0, z1, z2⟩, _⟩ := q
                  go_simp
                  all_goals (try omega)
                clear hK K
                simp only [Act.put, List.setIfInBounds_toArray, List.set_cons_succ, List.set_cons_zero]
                refine wpQuiet_step (fun K hK => ?_)
                rw [if_pos (by rfl)]
                refine ⟨.bool (!(xd == sd)), fun W hW => quiet_ok ?_, hK _ ?_⟩
                · have q := HX.out W hW
                  obtain ⟨⟨m0, m1, m2, m3⟩, ⟨z0, z1, z2⟩, _⟩ := q
                  go_simp
                  all_goals (try omega)
                clear hK K
                simp only [Act.put, List.setIfInBounds_toArray, List.set_cons_succ, List.set_cons_zero]
                rw [HD.out]
                refine wpQuiet_nil ?_
                intro W hW
                have hbW := (HX.out W hW).2.2
                go_wp2_with fail
                go_ret
                exact ⟨ret_bool HR.out.symm, hbw2.trans (hbW.mono hbw2.size)⟩
            · have HR : Hid _ := HOK.out (by simp [h6])
              have e6 : (xt == 6) = false := by simpa using h6
              obtain ⟨cb, hcb⟩ : ∃ cb, cb = false := ⟨_, rfl⟩
              have HCB : Hid (cb = false) := hcb
              clear hcb HBAD HOK
              go_wp2_with fail
              rw [HW0.out]
              refine wp_region_quiet (C := fun W => Below W0.heap.size W0 W) (by kernel_rfl) (by kernel_rfl) hbd ?_
              refine wpQuiet_step (fun K hK => ?_)
              rw [if_pos (by rfl)]
              refine ⟨.pointer (some ⟨wr.heap.size, 1, none⟩), fun W hW => quiet_ok ?_, hK _ ?_⟩
              · have q := HX.out W hW
                obtain ⟨⟨m0, m1, m2, m3⟩, _⟩ := q
                have hcb := HCB.out
                go_simp
                all_goals (try omega)
              clear hK K
              simp only [Act.put, List.setIfInBounds_toArray, List.set_cons_succ, List.set_cons_zero]
              refine wpQuiet_step (fun K hK => ?_)
              rw [if_pos (by rfl)]
              refine ⟨.int .i64 xt, fun W hW => quiet_ok ?_, hK _ ?_⟩
              · have q := HX.out W hW
                obtain ⟨⟨m0, m1, m2, m3⟩, _⟩ := q
                have hcb := HCB.out
                go_simp
                all_goals (try omega)
              clear hK K
              simp only [Act.put, List.setIfInBounds_toArray, List.set_cons_succ, List.set_cons_zero]
              refine wpQuiet_step (fun K hK => ?_)
              rw [if_pos (by rfl)]
              refine ⟨.bool cb, fun W hW => quiet_ok ?_, hK _ ?_⟩
              · have q := HX.out W hW
                obtain ⟨⟨m0, m1, m2, m3⟩, _⟩ := q
                have hcb := HCB.out
                go_simp
                all_goals (try omega)
              clear hK K
              simp only [Act.put, List.setIfInBounds_toArray, List.set_cons_succ, List.set_cons_zero]
              refine wpQuiet_step (fun K hK => ?_)
              rw [if_pos (by rfl)]
              refine ⟨.bool cb, fun W hW => quiet_ok ?_, hK _ ?_⟩
              · have q := HX.out W hW
                obtain ⟨⟨m0, m1, m2, m3⟩, _⟩ := q
                have hcb := HCB.out
                go_simp
                all_goals (try omega)
              clear hK K
              simp only [Act.put, List.setIfInBounds_toArray, List.set_cons_succ, List.set_cons_zero]
              refine BigFrame.wpQuiet_skip (by show (some cb == some true) = false; rw [HCB.out]; rfl) ?_
              simp only [Act.put, List.setIfInBounds_toArray, List.set_cons_succ, List.set_cons_zero]
              refine BigFrame.wpQuiet_skip (by show (some cb == some true) = false; rw [HCB.out]; rfl) ?_
              simp only [Act.put, List.setIfInBounds_toArray, List.set_cons_succ, List.set_cons_zero]
              refine BigFrame.wpQuiet_skip (by show (some cb == some true) = false; rw [HCB.out]; rfl) ?_
              simp only [Act.put, List.setIfInBounds_toArray, List.set_cons_succ, List.set_cons_zero]
              refine BigFrame.wpQuiet_skip (by show (some cb == some true) = false; rw [HCB.out]; rfl) ?_
              simp only [Act.put, List.setIfInBounds_toArray, List.set_cons_succ, List.set_cons_zero]
              refine BigFrame.wpQuiet_skip (by show (some cb == some true) = false; rw [HCB.out]; rfl) ?_
              simp only [Act.put, List.setIfInBounds_toArray, List.set_cons_succ, List.set_cons_zero]
              refine wpQuiet_step (fun K hK => ?_)
              rw [if_pos (by rfl)]
              refine ⟨.bool cb, fun W hW => quiet_ok ?_, hK _ ?_⟩
              · have q := HX.out W hW
                obtain ⟨⟨m0, m1, m2, m3⟩, _⟩ := q
                have hcb := HCB.out
                go_simp
                all_goals (try omega)
              clear hK K
              simp only [Act.put, List.setIfInBounds_toArray, List.set_cons_succ, List.set_cons_zero]
              have hcb2 := HCB.out
              clear HCB
              subst hcb2
              refine wpQuiet_nil ?_
              intro W hW
              have hbW := (HX.out W hW).2.2
              go_wp2_with fail
              go_roundw
              case rel => exact ⟨k + 1, by omega, by go_num, HR, hbW⟩
              case measure => simp [intOf]; omega
        · have HR : Hid (z = true) := by rw [HR0.out]; exact allT_all (fun j hj => HA.out j hj (by omega))
          go_wp2_with fail
          go_ret
          exact ⟨ret_bool HR.out.symm, hbw⟩
    · have HR : Hid (z = false) := by rw [HZ.out, decide_eq_false h0]; rfl
      obtain ⟨r, hr⟩ : ∃ r, r = ruleB nm.data.toList L := ⟨_, rfl⟩
      rw [← hr] at h0 ⊢
      have e0 : (r != 0) = true := by simpa using h0
      clear HZ HZS hr hb2
      go_wp2_with fail
      go_ret
      exact ⟨ret_bool HR.out.symm, hbw2⟩
end Go.Proofs.YtoobaaklklommaaGreatDoor
