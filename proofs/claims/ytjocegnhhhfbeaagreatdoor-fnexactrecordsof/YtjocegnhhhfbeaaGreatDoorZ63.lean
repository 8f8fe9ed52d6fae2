import Derived.Test.YtjocegnhhhfbeaaGreatDoorZ61
import Derived.Test.YtjocegnhhhfbeaaGreatDoorZ47
import Derived.BigQuiet
import Derived.Deep.QuietTactic
import Derived.Test.YtjocegnhhhfbeaaGreatDoorZ05
import Derived.Test.YtjocegnhhhfbeaaGreatDoorZ28
namespace Go.Proofs.YtjocegnhhhfbeaaGreatDoor
open Go.RowKit

theorem take_same {α : Type} {P Q : List α} {k : Nat} (h : P.take k = Q.take k) (h1 : k < P.length) (h2 : k < Q.length) (e : P[k] = Q[k]) : P.take (k + 1) = Q.take (k + 1) := by
  rw [List.take_succ_eq_append_getElem h1, List.take_succ_eq_append_getElem h2, h, e]
theorem same_off {α : Type} {P Q : List α} {k : Nat} (h1 : k < P.length) (h2 : k < Q.length) (e : P[k] ≠ Q[k]) : P ≠ Q := fun h => by subst h; exact e rfl

set_option maxRecDepth 20000 in
set_option maxHeartbeats 2000000 in
theorem eqTexts_any (v1 v2 : Value) (P Q : List (List UInt8)) (w : World) (h1 : Row w v1 P) (h2 : Row w v2 Q) :
    Calls Tryz.prog 57 #[v1, v2] w fun e w' => e = .returned (.bool (decide (P = Q))) ∧ Below w.heap.size w w' := by
  obtain ⟨a1, c1, rfl, hc1, hm1, HR1⟩ := row_value h1
  obtain ⟨a2, c2, rfl, hc2, hm2, HR2⟩ := row_value h2
  clear h1 h2
  have HNE : Hid (P.length ≠ Q.length → decide (P = Q) = false) := fun h => decide_eq_false (fun e => h (by rw [e]))
  have HEQ : Hid (P = Q → decide (P = Q) = true) := fun h => decide_eq_true h
  have HNO : Hid (P ≠ Q → decide (P = Q) = false) := fun h => decide_eq_false h
  obtain ⟨r, hr⟩ : ∃ r, r = decide (P = Q) := ⟨_, rfl⟩
  rw [← hr] at HNE HEQ HNO ⊢
  clear hr
  by_cases hl : P.length = Q.length
  · go_enter Tryz.func57, Tryz.ntmps57
    obtain ⟨n, hn⟩ : ∃ n, n = P.length := ⟨_, rfl⟩
    have HLP : Hid (n = P.length) := hn
    have HLQ : Hid (n = Q.length) := hn.trans hl
    rw [← hl, ← hn]
    rw [← hn] at hc1
    rw [← hl, ← hn] at hc2
    clear hl hn HNE
    go_wp2_with fail
    go_loopw [13] (fun i wr => ∃ k : Nat, k ≤ n ∧ i = .int .i64 (k : Int) ∧ Hid (P.take k = Q.take k) ∧ Below w.heap.size w wr) (fun i _ => n - (intOf i).toNat)
    case atStart => exact ⟨0, Nat.zero_le _, rfl, by exact rfl, Below.refl _ _⟩
    case round =>
      obtain ⟨k, hk, rfl, HT, hb⟩ := hrel
      by_cases hltn : k < n
      · have hlt : k < P.length := by have := HLP.out; omega
        obtain ⟨b1, o1, rfl, hb1, hcl1⟩ := HR1.out (by omega)
        obtain ⟨b2, o2, rfl, hb2, hcl2⟩ := HR2.out (by have := HLQ.out; omega)
        have hlt2 : k < Q.length := by have := HLQ.out; omega
        have HUP : Hid ((P[k]'hlt) = (Q[k]'hlt2) → P.take (k + 1) = Q.take (k + 1)) := take_same HT.out hlt hlt2
        have HOFF : Hid ((P[k]'hlt) ≠ (Q[k]'hlt2) → r = false) := fun h => HNO.out (same_off hlt hlt2 h)
        have x1 := hcl1 k hlt
        have x2 := hcl2 k hlt2
        obtain ⟨x, hx⟩ : ∃ x, x = P[k]'hlt := ⟨_, rfl⟩
        obtain ⟨y, hy⟩ : ∃ y, y = Q[k]'hlt2 := ⟨_, rfl⟩
        rw [← hx] at x1 HUP HOFF
        rw [← hy] at x2 HUP HOFF
        unfold S at x1 x2
        have HX : Hid (∀ W, Below wr.heap.size wr W → W.cell? ⟨b1, o1 + k, none⟩ = some (.string ⟨x.toArray⟩) ∧ W.cell? ⟨b2, o2 + k, none⟩ = some (.string ⟨y.toArray⟩) ∧ Below w.heap.size w W) := fun W hW => by
          have h := hb.trans (hW.mono hb.size)
          exact ⟨(h.cell (p := ⟨b1, o1 + k, none⟩) hb1).trans x1, (h.cell (p := ⟨b2, o2 + k, none⟩) hb2).trans x2, h⟩
        have hbd : Below wr.heap.size wr wr.drew := (Below.refl _ _).drew
        clear hcl1 hcl2 x1 x2 hx hy hlt hlt2 HT hb
        go_wp2_with fail
        refine wp_region_quiet (C := fun W => Below wr.heap.size wr W) (by kernel_rfl) (by kernel_rfl) hbd ?_
        refine wpQuiet_step (fun K hK => ?_)
        rw [if_pos (by rfl)]
        refine ⟨.slice (some ⟨b1, o1, none⟩) n c1, fun W hW => quiet_ok ?_, hK _ ?_⟩
        · have q := HX.out W hW
          obtain ⟨z1, z2, _⟩ := q
          go_simp
          all_goals (try omega)
        clear hK K
        simp only [Act.put, List.setIfInBounds_toArray, List.set_cons_succ, List.set_cons_zero]
        refine wpQuiet_step (fun K hK => ?_)
        rw [if_pos (by rfl)]
        refine ⟨.int .i64 (k : Int), fun W hW => quiet_ok ?_, hK _ ?_⟩
        · have q := HX.out W hW
          obtain ⟨z1, z2, _⟩ := q
          go_simp
          all_goals (try omega)
        clear hK K
        simp only [Act.put, List.setIfInBounds_toArray, List.set_cons_succ, List.set_cons_zero]
        refine wpQuiet_step (fun K hK => ?_)
        rw [if_pos (by rfl)]
        refine ⟨.pointer (some ⟨b1, o1 + k, none⟩), fun W hW => quiet_ok ?_, hK _ ?_⟩
        · have q := HX.out W hW
          obtain ⟨z1, z2, _⟩ := q
          go_simp
          all_goals (try omega)
        clear hK K
        simp only [Act.put, List.setIfInBounds_toArray, List.set_cons_succ, List.set_cons_zero]
        refine wpQuiet_step (fun K hK => ?_)
        rw [if_pos (by rfl)]
        refine ⟨.string ⟨x.toArray⟩, fun W hW => quiet_ok ?_, hK _ ?_⟩
        · have q := HX.out W hW
          obtain ⟨z1, z2, _⟩ := q
          go_simp
          all_goals (try omega)
        clear hK K
        simp only [Act.put, List.setIfInBounds_toArray, List.set_cons_succ, List.set_cons_zero]
        refine wpQuiet_step (fun K hK => ?_)
        rw [if_pos (by rfl)]
        refine ⟨.slice (some ⟨b2, o2, none⟩) n c2, fun W hW => quiet_ok ?_, hK _ ?_⟩
        · have q := HX.out W hW
          obtain ⟨z1, z2, _⟩ := q
          go_simp
          all_goals (try omega)
        clear hK K
        simp only [Act.put, List.setIfInBounds_toArray, List.set_cons_succ, List.set_cons_zero]
        refine wpQuiet_step (fun K hK => ?_)
        rw [if_pos (by rfl)]
        refine ⟨.int .i64 (k : Int), fun W hW => quiet_ok ?_, hK _ ?_⟩
        · have q := HX.out W hW
          obtain ⟨z1, z2, _⟩ := q
          go_simp
          all_goals (try omega)
        clear hK K
        simp only [Act.put, List.setIfInBounds_toArray, List.set_cons_succ, List.set_cons_zero]
        refine wpQuiet_step (fun K hK => ?_)
        rw [if_pos (by rfl)]
        refine ⟨.pointer (some ⟨b2, o2 + k, none⟩), fun W hW => quiet_ok ?_, hK _ ?_⟩
        · have q := HX.out W hW
          obtain ⟨z1, z2, _⟩ := q
          go_simp
          all_goals (try omega)
        clear hK K
        simp only [Act.put, List.setIfInBounds_toArray, List.set_cons_succ, List.set_cons_zero]
        refine wpQuiet_step (fun K hK => ?_)
        rw [if_pos (by rfl)]
        refine ⟨.string ⟨y.toArray⟩, fun W hW => quiet_ok ?_, hK _ ?_⟩
        · have q := HX.out W hW
          obtain ⟨z1, z2, _⟩ := q
          go_simp
          all_goals (try omega)
        clear hK K
        simp only [Act.put, List.setIfInBounds_toArray, List.set_cons_succ, List.set_cons_zero]
        refine wpQuiet_step (fun K hK => ?_)
        rw [if_pos (by rfl)]
        refine ⟨.bool (!(x == y)), fun W hW => quiet_ok ?_, hK _ ?_⟩
        · have q := HX.out W hW
          obtain ⟨z1, z2, _⟩ := q
          go_simp
          all_goals (try omega)
        clear hK K
        simp only [Act.put, List.setIfInBounds_toArray, List.set_cons_succ, List.set_cons_zero]
        refine wpQuiet_nil ?_
        intro W hW
        have hbW := (HX.out W hW).2.2
        by_cases hxy : x = y
        · have HU : Hid (P.take (k + 1) = Q.take (k + 1)) := HUP.out hxy
          have e1 : (x == y) = true := by simpa using hxy
          rw [e1, Bool.not_true]
          clear e1 hxy
          go_wp2_with fail
          go_roundw
          case rel => exact ⟨k + 1, by omega, by go_num, HU, hbW⟩
          case measure => simp [intOf]; omega
        · have HU : Hid (r = false) := HOFF.out hxy
          have e1 : (x == y) = false := by simpa using hxy
          rw [e1, Bool.not_false]
          clear e1 hxy
          go_wp2_with fail
          go_ret
          exact ⟨ret_bool HU.out.symm, hbW⟩
      · have HU : Hid (r = true) := HEQ.out (by
          have h := HT.out
          rw [List.take_of_length_le (by have := HLP.out; omega), List.take_of_length_le (by have := HLQ.out; omega)] at h
          exact h)
        go_wp2_with fail
        go_ret
        exact ⟨ret_bool HU.out.symm, hb⟩
  · have HU : Hid (r = false) := HNE.out hl
    go_enter Tryz.func57, Tryz.ntmps57
    go_wp2_with fail
    go_ret
    exact ⟨ret_bool HU.out.symm, Below.refl _ _⟩

set_option maxRecDepth 20000 in
set_option maxHeartbeats 4000000 in
theorem sameSet_any (x y : SetT) (vx vy : Value) (w : World) (h1 : Row w vx x.2.2.2) (h2 : Row w vy y.2.2.2) :
    Calls Tryz.prog 40 #[.agg #[.string ⟨x.1.toArray⟩, .int .i64 x.2.1, .int .i64 x.2.2.1, vx], .agg #[.string ⟨y.1.toArray⟩, .int .i64 y.2.1, .int .i64 y.2.2.1, vy]] w fun e w' => e = .returned (.bool (decide (x = y))) ∧ Below w.heap.size w w' := by
  obtain ⟨xn, xt, xl, P⟩ := x
  obtain ⟨yn, yt, yl, Q⟩ := y
  simp only at h1 h2 ⊢
  have HE : Hid (∀ W, Below w.heap.size w W → Calls Tryz.prog 57 #[vx, vy] W fun e w' => e = .returned (.bool (decide (P = Q))) ∧ Below W.heap.size W w') := fun W hW => eqTexts_any vx vy P Q W (row_kept h1 hW) (row_kept h2 hW)
  obtain ⟨a1, c1, rfl, _⟩ := h1
  obtain ⟨a2, c2, rfl, _⟩ := h2
  have HD : Hid (decide ((xn, xt, xl, P) = (yn, yt, yl, Q)) = ((xn == yn) && (xt == yt) && (xl == yl) && decide (P = Q))) := by
    have h : decide ((xn, xt, xl, P) = (yn, yt, yl, Q)) = ((xn == yn) && (xt == yt) && (xl == yl) && decide (P = Q)) := by
      rw [Bool.eq_iff_iff]
      simp [Prod.ext_iff, and_assoc]
    exact h
  obtain ⟨r, hr⟩ : ∃ r, r = decide ((xn, xt, xl, P) = (yn, yt, yl, Q)) := ⟨_, rfl⟩
  rw [← hr] at HD ⊢
  clear hr
  obtain ⟨w2, hw2⟩ : ∃ w2, w2 = (w.alloc (.cells #[.string ⟨xn.toArray⟩, .int .i64 xt, .int .i64 xl, .slice a1 P.length c1] 55)).alloc (.cells #[.string ⟨yn.toArray⟩, .int .i64 yt, .int .i64 yl, .slice a2 Q.length c2] 55) := ⟨_, rfl⟩
  have hb2 : Below w.heap.size w w2 := by rw [hw2]; exact ((Below.refl _ _).alloc (Nat.le_refl _) _).alloc (by simp) _
  have HW2 : Hid (∀ W, W = (w.alloc (.cells #[.string ⟨xn.toArray⟩, .int .i64 xt, .int .i64 xl, .slice a1 P.length c1] 55)).alloc (.cells #[.string ⟨yn.toArray⟩, .int .i64 yt, .int .i64 yl, .slice a2 Q.length c2] 55) → W = w2) := fun W h => h.trans hw2.symm
  clear hw2
  by_cases g1 : xn = yn
  · have e1 : (xn == yn) = true := by simpa using g1
    by_cases g2 : xt = yt
    · have e2 : (xt == yt) = true := by simpa using g2
      by_cases g3 : xl = yl
      · have e3 : (xl == yl) = true := by simpa using g3
        have HR : Hid (decide (P = Q) = r) := by show _ = _; rw [HD.out, e1, e2, e3]; rfl
        clear HD g1 g2 g3
        go_enter Tryz.func40, Tryz.ntmps40
        go_wp2_with fail
        rw [HW2.out _ rfl]
        refine (HE.out _ hb2).mono ?_
        rintro e w3 ⟨rfl, hb3⟩
        rw [HR.out]
        go_wp2_with fail
        go_ret
        exact ⟨rfl, hb2.trans (hb3.mono hb2.size)⟩
      · have e3 : (xl == yl) = false := by simpa using g3
        have HR : Hid (r = false) := by show _ = _; rw [HD.out, e1, e2, e3]; rfl
        clear HD g1 g2 g3
        go_enter Tryz.func40, Tryz.ntmps40
        go_wp2_with fail
        go_ret
        exact ⟨ret_bool HR.out.symm, by rw [HW2.out _ rfl]; exact hb2⟩
    · have e2 : (xt == yt) = false := by simpa using g2
      have HR : Hid (r = false) := by show _ = _; rw [HD.out, e1, e2]; rfl
      clear HD g1 g2
      go_enter Tryz.func40, Tryz.ntmps40
      go_wp2_with fail
      go_ret
      exact ⟨ret_bool HR.out.symm, by rw [HW2.out _ rfl]; exact hb2⟩
  · have e1 : (xn == yn) = false := by simpa using g1
    have HR : Hid (r = false) := by show _ = _; rw [HD.out, e1]; rfl
    clear HD g1
    go_enter Tryz.func40, Tryz.ntmps40
    go_wp2_with fail
    go_ret
    exact ⟨ret_bool HR.out.symm, by rw [HW2.out _ rfl]; exact hb2⟩
set_option maxRecDepth 20000 in
set_option maxHeartbeats 4000000 in
theorem eqSets_any (v1 v2 : Value) (P Q : List SetT) (w : World) (h1 : SSRow w v1 P) (h2 : SSRow w v2 Q) :
    Calls Tryz.prog 39 #[v1, v2, .func (.func 40) #[] #[]] w fun e w' => e = .returned (.bool (decide (P = Q))) ∧ Below w.heap.size w w' := by
  have eg : ∀ args w, (callFunc 40 args).run Tryz.prog w = .ok (.enter 40 args) w := enters_of Tryz.func40 (by kernel_rfl) rfl
  obtain ⟨a1, c1, rfl, hc1, hm1, HR1⟩ := ssrow_value h1
  obtain ⟨a2, c2, rfl, hc2, hm2, HR2⟩ := ssrow_value h2
  clear h1 h2
  have HNE : Hid (P.length ≠ Q.length → decide (P = Q) = false) := fun h => decide_eq_false (fun e => h (by rw [e]))
  have HEQ : Hid (P = Q → decide (P = Q) = true) := fun h => decide_eq_true h
  have HNO : Hid (P ≠ Q → decide (P = Q) = false) := fun h => decide_eq_false h
  obtain ⟨r, hr⟩ : ∃ r, r = decide (P = Q) := ⟨_, rfl⟩
  rw [← hr] at HNE HEQ HNO ⊢
  clear hr
  by_cases hl : P.length = Q.length
  · go_enter Tryz.func39, Tryz.ntmps39
    obtain ⟨n, hn⟩ : ∃ n, n = P.length := ⟨_, rfl⟩
    have HLP : Hid (n = P.length) := hn
    have HLQ : Hid (n = Q.length) := hn.trans hl
    rw [← hl, ← hn]
    rw [← hn] at hc1
    rw [← hl, ← hn] at hc2
    clear hl hn HNE
    go_wp2_with fail
    go_loopw [17] (fun i wr => ∃ k : Nat, k ≤ n ∧ i = .int .i64 (k : Int) ∧ Hid (P.take k = Q.take k) ∧ Below w.heap.size w wr) (fun i _ => n - (intOf i).toNat)
    case atStart => exact ⟨0, Nat.zero_le _, rfl, by exact rfl, Below.refl _ _⟩
    case round =>
      obtain ⟨k, hk, rfl, HT, hb⟩ := hrel
      by_cases hltn : k < n
      · have hlt : k < P.length := by have := HLP.out; omega
        have hlt2 : k < Q.length := by have := HLQ.out; omega
        obtain ⟨b1, o1, rfl, hb1, hcl1⟩ := HR1.out (by omega)
        obtain ⟨b2, o2, rfl, hb2, hcl2⟩ := HR2.out (by omega)
        have HUP : Hid ((P[k]'hlt) = (Q[k]'hlt2) → P.take (k + 1) = Q.take (k + 1)) := take_same HT.out hlt hlt2
        have HOFF : Hid ((P[k]'hlt) ≠ (Q[k]'hlt2) → r = false) := fun h => HNO.out (same_off hlt hlt2 h)
        obtain ⟨vx, x0⟩ := hcl1 k hlt
        obtain ⟨vy, y0⟩ := hcl2 k hlt2
        obtain ⟨x, hx⟩ : ∃ x, x = P[k]'hlt := ⟨_, rfl⟩
        obtain ⟨y, hy⟩ : ∃ y, y = Q[k]'hlt2 := ⟨_, rfl⟩
        rw [← hx] at x0 HUP HOFF
        rw [← hy] at y0 HUP HOFF
        have x1 := x0.kept hb
        have y1 := y0.kept hb
        unfold SetAt at x1 y1
        obtain ⟨⟨p0, p1, p2, p3⟩, hrx⟩ := x1
        obtain ⟨⟨q0, q1, q2, q3⟩, hry⟩ := y1
        have HYB : Hid (∀ A, SetAt (wr.alloc A) b2 (o2 + k * 4) y vy) := fun A => (y0.kept hb).kept ((Below.refl wr.heap.size wr).alloc (Nat.le_refl _) A)
        have HSS : Hid (∀ W, Below wr.heap.size wr W → Calls Tryz.prog 40 #[.agg #[.string ⟨x.1.toArray⟩, .int .i64 x.2.1, .int .i64 x.2.2.1, vx], .agg #[.string ⟨y.1.toArray⟩, .int .i64 y.2.1, .int .i64 y.2.2.1, vy]] W fun e w' => e = .returned (.bool (decide (x = y))) ∧ Below W.heap.size W w') := fun W hW => sameSet_any x y vx vy W (row_kept hrx hW) (row_kept hry hW)
        obtain ⟨sa1, sc1, rfl, _⟩ := hrx
        obtain ⟨sa2, sc2, rfl, _⟩ := hry
        have HBB : Hid (∀ A B, Below wr.heap.size wr ((wr.alloc A).alloc B)) := fun A B => ((Below.refl wr.heap.size wr).alloc (Nat.le_refl _) _).alloc (by simp) _
        obtain ⟨⟨y0', y1', y2', y3'⟩, _⟩ := HYB.out (.cells #[.string ⟨x.1.toArray⟩, .int .i64 x.2.1, .int .i64 x.2.2.1, .slice sa1 x.2.2.2.length sc1] 55)
        clear hcl1 hcl2 x0 y0 hx hy hlt hlt2 HT HYB q0 q1 q2 q3
        go_wp2_with fail
        refine (HSS.out _ (HBB.out _ _)).mono ?_
        rintro e w3 ⟨rfl, hb3⟩
        have hbw : Below w.heap.size w w3 := hb.trans (((HBB.out _ _).trans (hb3.mono (HBB.out _ _).size)).mono hb.size)
        by_cases hxy : x = y
        · have HU : Hid (P.take (k + 1) = Q.take (k + 1)) := HUP.out hxy
          rw [decide_eq_true hxy]
          clear hxy HUP HOFF p0 p1 p2 p3 y0' y1' y2' y3'
          go_wp2_with fail
          go_roundw
          case rel => exact ⟨k + 1, by omega, by go_num, HU, hbw⟩
          case measure => simp [intOf]; omega
        · have HU : Hid (r = false) := HOFF.out hxy
          rw [decide_eq_false hxy]
          clear HUP HOFF p0 p1 p2 p3 y0' y1' y2' y3'
          go_wp2_with fail
          go_ret
          exact ⟨ret_bool HU.out.symm, hbw⟩
      · have HU : Hid (r = true) := HEQ.out (by
          have h := HT.out
          rw [List.take_of_length_le (by have := HLP.out; omega), List.take_of_length_le (by have := HLQ.out; omega)] at h
          exact h)
        go_wp2_with fail
        go_ret
        exact ⟨ret_bool HU.out.symm, hb⟩
  · have HU : Hid (r = false) := HNE.out hl
    go_enter Tryz.func39, Tryz.ntmps39
    go_wp2_with fail
    go_ret
    exact ⟨ret_bool HU.out.symm, Below.refl _ _⟩
end Go.Proofs.YtjocegnhhhfbeaaGreatDoor

namespace Go.Proofs.YtjocegnhhhfbeaaGreatDoor
open Go.RowKit

theorem put4_heap {W : World} {g : Nat} {t : TypeId} {a0 a1 a2 a3 v0 v1 v2 v3 : Value} (h : W.heap[g]? = some (.cells #[a0, a1, a2, a3] t)) : ((((W.setCell ⟨g, 0, none⟩ v0).setCell ⟨g, 1, none⟩ v1).setCell ⟨g, 2, none⟩ v2).setCell ⟨g, 3, none⟩ v3).heap[g]? = some (.cells #[v0, v1, v2, v3] t) := by
  have e0 := heap_setCell_same _ _ 0 _ _ v0 h
  have e1 := heap_setCell_same _ _ 1 _ _ v1 e0
  have e2 := heap_setCell_same _ _ 2 _ _ v2 e1
  have e3 := heap_setCell_same _ _ 3 _ _ v3 e2
  exact e3.trans (by rfl)

set_option maxRecDepth 20000 in
set_option maxHeartbeats 8000000 in
theorem iRecordsOf_any (v0 : Value) (L : List SetT) (w : World) (hr : SSRow w v0 L) (hx : Hid (∀ x ∈ L, SBig x)) (hn0 : L.length ≤ 1048576) (hE : EnvR w) :
    Calls Tryz.prog 17 #[v0] w fun e w' => (∃ u, e = .returned (.tuple #[u, .bool (rcoB L)]) ∧ OwnQ w' w.heap.size u (rcoX L)) ∧ Below w.heap.size w w' := by
  have HSR : Hid (∀ W, Below w.heap.size w W → SSRow W v0 L) := fun W hW => hr.kept hW
  obtain ⟨a, cap, rfl, hcap, hmax, HROW⟩ := ssrow_value hr
  clear hr
  have HLONG : Hid (¬ (flatS L).length ≤ 60 → rcoB L = false) := fun h => decide_eq_false (fun hc => h hc.1)
  have HNOS : Hid (setsO (flatS L) ≠ some L → rcoB L = false) := fun h => decide_eq_false (fun hc => h hc.2)
  have HYES : Hid ((flatS L).length ≤ 60 → setsO (flatS L) = some L → rcoB L = true) := fun h1 h2 => decide_eq_true ⟨h1, h2⟩
  have HXN : Hid (rcoB L = false → rcoX L = []) := fun h => by show rcoX L = []; unfold rcoX; rw [h]; rfl
  have HXY : Hid (rcoB L = true → rcoX L = flatS L) := fun h => by show rcoX L = flatS L; unfold rcoX; rw [h]; rfl
  have HFF : Hid (∀ x ∈ flatS L, x.1.length ≤ 1048576 ∧ x.2.2.2.length ≤ 1048576) := flat_fit hx.out
  have HCL : Hid (∀ (s : List UInt8) W, s.length ≤ 1048576 → Calls Tryz.prog 38 #[.string ⟨s.toArray⟩] W fun e w' => e = .returned (.string ⟨s.toArray⟩) ∧ Below W.heap.size W w') := fun s W h => cloneR_any ⟨s.toArray⟩ W (by rw [size_list]; omega)
  have HEW : Hid (∀ W, Below w.heap.size w W → EnvR W) := fun W hW => hE.below hW
  have HO0 : Hid (w.ownsRow w.heap.size 43 4 (.slice none 0 0) (flatS (L.take 0)).length (rcells (flatS (L.take 0)))) := by
    have h : w.ownsRow w.heap.size 43 4 (.slice none 0 0) (flatS (L.take 0)).length (rcells (flatS (L.take 0))) := by simpa [rcells, flatS] using World.ownsRow_nil _ _ _ _
    exact h
  clear hE
  go_enter Tryz.func17, Tryz.ntmps17
  go_wp2_with fail
  go_loopw [4, 14] (fun vv i wr => ∃ (k : Nat) (v : Value), k ≤ L.length ∧ i = .int .i64 (k : Int) ∧ v = vv ∧ Hid (wr.ownsRow w.heap.size 43 4 v (flatS (L.take k)).length (rcells (flatS (L.take k)))) ∧ Hid ((flatS (L.take k)).length ≤ 60) ∧ Below w.heap.size w wr) (fun _ i _ => L.length - (intOf i).toNat)
  case atStart => exact ⟨0, _, Nat.zero_le _, rfl, rfl, HO0, by show (flatS []).length ≤ 60; simp [flatS], Below.refl _ _⟩
  case round =>
    obtain ⟨k, v, hk, rfl, rfl, HO, HP, hb⟩ := hrel
    clear HO0
    by_cases hlt : k < L.length
    · obtain ⟨b, o, ha, hbl, hcel⟩ := HROW.out (by omega)
      rw [ha]
      obtain ⟨va, hcx0⟩ := hcel k hlt
      have hcx := hcx0.kept hb
      have hxk := hx.out _ (List.getElem_mem hlt)
      have HSN : Hid (flatS (L.take (k + 1)) = flatS (L.take k) ++ ((L[k]'hlt).2.2.2).map (mkR (L[k]'hlt))) := flat_snoc L k hlt
      have HTOO : Hid (60 < (flatS (L.take k)).length + (L[k]'hlt).2.2.2.length → rcoB L = false) := fun h => HLONG.out (fun hc => by
        have e : flatS L = flatS (L.take (k + 1)) ++ flatS (L.drop (k + 1)) := by rw [← flatS_app, List.take_append_drop]
        rw [e, flat_snoc L k hlt, List.length_append, List.length_append, List.length_map] at hc
        omega)
      obtain ⟨s, hse⟩ : ∃ s, s = L[k]'hlt := ⟨_, rfl⟩
      rw [← hse] at hcx hcx0 hxk HSN HTOO
      have hrow0 : Row w va s.2.2.2 := hcx0.2
      obtain ⟨sn, st, sl, P⟩ := s
      unfold SetAt at hcx
      obtain ⟨⟨c0, c1, c2, c3⟩, _⟩ := hcx
      simp only at c0 c1 c2 hrow0 HSN HTOO hxk
      obtain ⟨pa, pc, rfl, hpc, hpm, HPR⟩ := row_value hrow0
      clear hcel hse hcx0 hrow0
      obtain ⟨F0, hF0⟩ : ∃ F0, F0 = flatS (L.take k) := ⟨_, rfl⟩
      rw [← hF0] at HO HP HSN HTOO
      obtain ⟨va, vc, hvv, hvm, HVN⟩ := own4n HO.out
      subst hvv
      have hbox : (wr.alloc (.cells #[.string ⟨sn.toArray⟩, .int .i64 st, .int .i64 sl, .slice pa P.length pc] 55)).heap[wr.heap.size]? = some (.cells #[.string ⟨sn.toArray⟩, .int .i64 st, .int .i64 sl, .slice pa P.length pc] 55) := blk_new _ _
      obtain ⟨W1, hW1⟩ : ∃ W1, W1 = wr.alloc (.cells #[.string ⟨sn.toArray⟩, .int .i64 st, .int .i64 sl, .slice pa P.length pc] 55) := ⟨_, rfl⟩
      have HW1 : Hid (wr.alloc (.cells #[.string ⟨sn.toArray⟩, .int .i64 st, .int .i64 sl, .slice pa P.length pc] 55) = W1) := hW1.symm
      have hbw1 : Below w.heap.size w W1 := by rw [hW1]; exact hb.alloc hb.size _
      have HO1 : Hid (W1.ownsRow w.heap.size 43 4 (.slice va F0.length vc) F0.length (rcells F0)) := by
        have h : W1.ownsRow w.heap.size 43 4 (.slice va F0.length vc) F0.length (rcells F0) := by rw [hW1]; exact HO.out.alloc _
        exact h
      rw [← hW1] at hbox
      have HBX : Hid (W1.heap[wr.heap.size]? = some (.cells #[.string ⟨sn.toArray⟩, .int .i64 st, .int .i64 sl, .slice pa P.length pc] 55)) := hbox
      obtain ⟨g, hg⟩ : ∃ g, g = wr.heap.size := ⟨_, rfl⟩
      have hP60 := HP.out
      have hPl : P.length ≤ 1048576 := hxk.2.1
      obtain ⟨f0, hf0⟩ : ∃ f0, f0 = F0.length := ⟨_, rfl⟩
      have HF0 : Hid (f0 = F0.length) := hf0
      rw [← hf0] at HTOO hP60 ⊢
      clear hW1 hF0 HO hf0
      by_cases hbig : 60 < f0 + P.length
      · have HR : Hid (rcoB L = false) := HTOO.out hbig
        have e1 : (60 : Int) < (f0 : Int) + (P.length : Int) := by omega
        clear hbig
        go_wp2_with fail
        go_ret2
        exact ⟨⟨_, by rw [HR.out]; rfl, by rw [HXN.out HR.out]; exact .inl ⟨rfl, rfl⟩⟩, hb.alloc hb.size _⟩
      · have e1 : ¬ (60 : Int) < (f0 : Int) + (P.length : Int) := by omega
        have HOJ : Hid (W1.ownsRow w.heap.size 43 4 (.slice va f0 vc) (F0 ++ (P.take 0).map (mkR (sn, st, sl, P))).length (rcells (F0 ++ (P.take 0).map (mkR (sn, st, sl, P))))) := by
          have h : W1.ownsRow w.heap.size 43 4 (.slice va f0 vc) (F0 ++ (P.take 0).map (mkR (sn, st, sl, P))).length (rcells (F0 ++ (P.take 0).map (mkR (sn, st, sl, P)))) := by rw [HF0.out]; simpa using HO1.out
          exact h
        clear HP HO1
        go_wp2_with fail
        rw [HW1.out]
        rw [← hg] at HBX ⊢
        go_loopw [4, 28] (fun vv i wr => ∃ (j : Nat) (v : Value), j ≤ P.length ∧ i = .int .i64 (j : Int) ∧ v = vv ∧ Hid (wr.ownsRow w.heap.size 43 4 v (F0 ++ (P.take j).map (mkR (sn, st, sl, P))).length (rcells (F0 ++ (P.take j).map (mkR (sn, st, sl, P))))) ∧ Hid (wr.heap[g]? = some (.cells #[.string ⟨sn.toArray⟩, .int .i64 st, .int .i64 sl, .slice pa P.length pc] 55)) ∧ Below w.heap.size w wr) (fun _ i _ => P.length - (intOf i).toNat)
        case atStart => exact ⟨0, _, Nat.zero_le _, rfl, rfl, HOJ, HBX, hbw1⟩
        case round =>
          obtain ⟨j, v, hj, rfl, rfl, HO, HB3, hb3⟩ := hrel
          clear HOJ HBX hbox hbw1 HW1 hg HVN
          by_cases hjl : j < P.length
          · obtain ⟨pb, po, rfl, hpbl, hpcel⟩ := HPR.out (by omega)
            have hcd := (hb3.cell (p := ⟨pb, po + j, none⟩) hpbl).trans (hpcel j hjl)
            have hdl := hxk.2.2 _ (List.getElem_mem hjl)
            have hsl := hxk.1
            have HN : Hid ((F0 ++ (P.take (j + 1)).map (mkR (sn, st, sl, P))) = (F0 ++ (P.take j).map (mkR (sn, st, sl, P))) ++ [(sn, st, sl, P[j]'hjl)]) := by
              have h : (F0 ++ (P.take (j + 1)).map (mkR (sn, st, sl, P))) = (F0 ++ (P.take j).map (mkR (sn, st, sl, P))) ++ [(sn, st, sl, P[j]'hjl)] := by rw [List.take_succ_eq_append_getElem hjl, List.map_append, ← List.append_assoc]; rfl
              exact h
            have HFL1 : Hid ((F0 ++ (P.take j).map (mkR (sn, st, sl, P))).length + 1 ≤ 1048576) := by
              show (F0 ++ (P.take j).map (mkR (sn, st, sl, P))).length + 1 ≤ 1048576
              have := HF0.out
              rw [List.length_append, List.length_map, List.length_take]; omega
            obtain ⟨d, hd⟩ : ∃ d, d = P[j]'hjl := ⟨_, rfl⟩
            obtain ⟨F, hF⟩ : ∃ F, F = (F0 ++ (P.take j).map (mkR (sn, st, sl, P))) := ⟨_, rfl⟩
            rw [← hd] at hcd hdl HN
            rw [← hF] at HO HN HFL1
            unfold S at hcd
            have HCN : Hid (∀ W, Calls Tryz.prog 38 #[.string ⟨sn.toArray⟩] W fun e w' => e = .returned (.string ⟨sn.toArray⟩) ∧ Below W.heap.size W w') := fun W => HCL.out sn W hsl
            have HCD : Hid (∀ W, Calls Tryz.prog 38 #[.string ⟨d.toArray⟩] W fun e w' => e = .returned (.string ⟨d.toArray⟩) ∧ Below W.heap.size W w') := fun W => HCL.out d W hdl
            have HXS : Hid (∀ W, Below wr.heap.size wr W → (W.cell? ⟨g, 0, none⟩ = some (.string ⟨sn.toArray⟩) ∧ W.cell? ⟨g, 1, none⟩ = some (.int .i64 st) ∧ W.cell? ⟨g, 2, none⟩ = some (.int .i64 sl) ∧ W.cell? ⟨g, 3, none⟩ = some (.slice (some ⟨pb, po, none⟩) P.length pc)) ∧ W.heap[g]? = some (.cells #[.string ⟨sn.toArray⟩, .int .i64 st, .int .i64 sl, .slice (some ⟨pb, po, none⟩) P.length pc] 55) ∧ W.ownsRow w.heap.size 43 4 v F.length (rcells F) ∧ Below w.heap.size w W) := fun W hW => by
              have h1 := (hW.block _ (lt_of_heap HB3.out)).trans HB3.out
              exact ⟨rec4_cells h1, h1, own_below HO.out hW, hb3.trans (hW.mono hb3.size)⟩
            have HTS : Hid (∀ W W', Below wr.heap.size wr W → Below W.heap.size W W' → Below wr.heap.size wr W') := fun W W' h1 h2 => h1.trans (h2.mono h1.size)
            have hS1 : Below wr.heap.size wr wr.drew := (Below.refl _ _).drew
            clear hpcel hd hF HO HB3 hsl hdl
            go_wp2_with fail
            refine wp_region_held_drew (S := fun W : World => Below wr.heap.size wr W) (by kernel_rfl) hS1 (fun hHeld => ?_)
            refine wpAnyH_take (i := 0) (v := .pointer (some ⟨g, 0, none⟩)) rfl (by kernel_rfl) (by kernel_rfl) (by kernel_rfl) (fun _ _ _ h => h) (Or.inl ⟨by rfl, ?_⟩) (by assumption) ?_
            · intro W hSW
              go_simp
            simp only [Act.put, List.setIfInBounds_toArray]
            refine wpAnyH_take (i := 1) (v := .string ⟨sn.toArray⟩) rfl (by kernel_rfl) (by kernel_rfl) (by kernel_rfl) (fun _ _ _ h => h) (Or.inl ⟨by rfl, ?_⟩) (by assumption) ?_
            · intro W hSW
              obtain ⟨q0, q1, q2, q3⟩ := (HXS.out _ hSW).1
              go_simp
            simp only [Act.put]
            refine wpAnyH_take (i := 3) (v := .pointer (some ⟨g, 1, none⟩)) rfl (by kernel_rfl) (by kernel_rfl) (by kernel_rfl) (fun _ _ _ h => h) (Or.inl ⟨by rfl, ?_⟩) (by assumption) ?_
            · intro W hSW
              go_simp
            simp only [Act.put]
            refine wpAnyH_take (i := 4) (v := .int .i64 st) rfl (by kernel_rfl) (by kernel_rfl) (by kernel_rfl) (fun _ _ _ h => h) (Or.inl ⟨by rfl, ?_⟩) (by assumption) ?_
            · intro W hSW
              obtain ⟨q0, q1, q2, q3⟩ := (HXS.out _ hSW).1
              go_simp
            simp only [Act.put]
            refine wpAnyH_take (i := 5) (v := .pointer (some ⟨g, 2, none⟩)) rfl (by kernel_rfl) (by kernel_rfl) (by kernel_rfl) (fun _ _ _ h => h) (Or.inl ⟨by rfl, ?_⟩) (by assumption) ?_
            · intro W hSW
              go_simp
            simp only [Act.put]
            refine wpAnyH_take (i := 6) (v := .int .i64 sl) rfl (by kernel_rfl) (by kernel_rfl) (by kernel_rfl) (fun _ _ _ h => h) (Or.inl ⟨by rfl, ?_⟩) (by assumption) ?_
            · intro W hSW
              obtain ⟨q0, q1, q2, q3⟩ := (HXS.out _ hSW).1
              go_simp
            simp only [Act.put]
            refine wpAnyH_take (i := 7) (v := .string ⟨d.toArray⟩) rfl (by kernel_rfl) (by kernel_rfl) (by kernel_rfl) (fun _ _ _ h => h) (Or.inl ⟨by rfl, ?_⟩) (by assumption) ?_
            · intro W hSW
              go_simp
            simp only [Act.put]
            refine wpAnyH_ready (rs := [2, 10]) (by kernel_rfl) (by simp) ?_
            refine AllReadyH.cons rfl (fun K hK => ?_) (AllReadyH.cons rfl (fun K hK => ?_) AllReadyH.nil)
            · rw [if_pos (by rfl)]
              go_simp
              refine (HCN.out _).mono ?_
              rintro e w5 ⟨rfl, hb5⟩
              go_simp
              have hS5 := HTS.out _ _ hS1 hb5
              refine hK.out _ _ hS5 (fun hSS => ?_)
              clear hK
              refine wpAnyH_ready (rs := [8, 10]) (by kernel_rfl) (by simp) ?_
              refine AllReadyH.cons rfl (fun K hK => ?_) (AllReadyH.cons rfl (fun K hK => ?_) AllReadyH.nil)
              · rw [if_pos (by rfl)]
                go_simp
                refine (HCD.out _).mono ?_
                rintro e w6 ⟨rfl, hb6⟩
                go_simp
                have hS6 := HTS.out _ _ hS5 hb6
                refine hK.out _ _ hS6 (fun hSS => ?_)
                clear hK
                refine wpAnyH_take (i := 9) (v := .agg #[.string ⟨sn.toArray⟩, .int .i64 st, .int .i64 sl, .string ⟨d.toArray⟩]) rfl (by kernel_rfl) (by kernel_rfl) (by kernel_rfl) (fun _ _ _ h => h) (Or.inl ⟨by rfl, ?_⟩) (by assumption) ?_
                · intro W hSW
                  go_simp
                simp only [Act.put]
                refine wpAnyH_ready (rs := [10]) (by kernel_rfl) (by simp) ?_
                refine AllReadyH.cons rfl (fun K hK => ?_) AllReadyH.nil
                rw [if_pos (by rfl)]
                go_simp
                have hS8 := Below.alloc hS6 (Below.size hS6) (.cells #[.string ⟨#[]⟩, .int .i64 0, .int .i64 0, .string ⟨#[]⟩] 43)
                refine hK.out _ _ hS8 (fun hSS => ?_)
                clear hK
                refine wpAnyH_ready (rs := [11]) (by kernel_rfl) (by simp) ?_
                refine AllReadyH.cons rfl (fun K hK => ?_) AllReadyH.nil
                have hF : (w6.alloc (.cells #[.string ⟨sn.toArray⟩, .int .i64 st, .int .i64 sl, .string ⟨d.toArray⟩] 43)).heap[w6.heap.size]? = some (.cells #[.string ⟨sn.toArray⟩, .int .i64 st, .int .i64 sl, .string ⟨d.toArray⟩] 43) := blk_new _ _
                have hSF := Below.alloc hS6 (Below.size hS6) (.cells #[.string ⟨sn.toArray⟩, .int .i64 st, .int .i64 sl, .string ⟨d.toArray⟩] 43)
                rw [if_pos (by rfl)]
                go_simp
                refine hK.out _ _ hSF (fun hSS => ?_)
                clear hK
                refine wpAnyH_done (by kernel_rfl) ?_ _
                obtain ⟨WF, hWF⟩ : ∃ WF, WF = w6.alloc (.cells #[.string ⟨sn.toArray⟩, .int .i64 st, .int .i64 sl, .string ⟨d.toArray⟩] 43) := ⟨_, rfl⟩
                rw [← hWF] at hF hSF ⊢
                clear hWF hSS
                obtain ⟨x0, x1, x2, x3⟩ := rec4_cells hF
                obtain ⟨_, hsb, how, hbW⟩ := HXS.out WF hSF
                have HOW : Hid (WF.ownsRow w.heap.size 43 4 v F.length (rcells F)) := how
                have HOF : Hid (∀ q, v.ownBlock = some q → q ≠ g) := rcf_off how hsb (by decide)
                have HLW : Hid (∀ q, v.ownBlock = some q → w.heap.size ≤ q) := fun q hq => (how.lt q hq).1
                clear how hF hSF
                go_wp2_with (first | (at_builtin; refine wpList_append_rows rfl (.tmp 42) (.tmp 44) 27 rfl Tryz.underlying27 w.heap.size v _ F rfl rfl ?b0 _ [(sn, st, sl, d)] rfl ?b1 ?b2 ?b3 ?b4 ?_))
                case b0 => exact HOW.out.alloc _
                case b1 => exact rrow_one _ (sn, st, sl, d) _ _ (by simp)
                case b2 => intro n c h; cases h
                case b3 => exact HFL1.out
                case b4 => exact Nat.le_trans hbW.size (by simp)
                intro v2 w7 hown hgrow
                have HO7 : Hid (w7.ownsRow w.heap.size 43 4 v2 (F0 ++ (P.take (j + 1)).map (mkR (sn, st, sl, P))).length (rcells (F0 ++ (P.take (j + 1)).map (mkR (sn, st, sl, P))))) := by
                  show w7.ownsRow w.heap.size 43 4 v2 (F0 ++ (P.take (j + 1)).map (mkR (sn, st, sl, P))).length (rcells (F0 ++ (P.take (j + 1)).map (mkR (sn, st, sl, P))))
                  rw [HN.out]; first | exact hown | (rw [List.length_append]; exact hown)
                have hlt7 : g < WF.heap.size := lt_of_heap hsb
                have HB7 : Hid (w7.heap[g]? = some (.cells #[.string ⟨sn.toArray⟩, .int .i64 st, .int .i64 sl, .slice (some ⟨pb, po, none⟩) P.length pc] 55)) := by
                  have h1 := hgrow.block g (by simp; omega) (fun e => HOF.out _ e.symm rfl)
                  have h2 : (WF.alloc (.cells #[.string ⟨sn.toArray⟩, .int .i64 st, .int .i64 sl, .string ⟨d.toArray⟩] 43)).heap[g]? = WF.heap[g]? := ((Below.refl WF.heap.size WF).alloc (Nat.le_refl _) _).block _ hlt7
                  exact h1.trans (h2.trans hsb)
                have hbw7 : Below w.heap.size w w7 := (hbW.alloc hbW.size _).grown hgrow (by simp; have := hbW.size; omega) (fun q hq => HLW.out q hq)
                clear hown hgrow hsb x0 x1 x2 x3
                go_wp2_with fail
                go_roundw
                case rel => exact ⟨j + 1, v2, by omega, by go_num, rfl, HO7, HB7, hbw7⟩
                case measure => simp [intOf]; omega
              · rw [if_pos (by rfl)]
                go_simp
                have hS8 := Below.alloc hS5 (Below.size hS5) (.cells #[.string ⟨#[]⟩, .int .i64 0, .int .i64 0, .string ⟨#[]⟩] 43)
                refine hK.out _ _ hS8 (fun hSS => ?_)
                clear hK
                refine wpAnyH_ready (rs := [8]) (by kernel_rfl) (by simp) ?_
                refine AllReadyH.cons rfl (fun K hK => ?_) AllReadyH.nil
                rw [if_pos (by rfl)]
                go_simp
                refine (HCD.out _).mono ?_
                rintro e w6 ⟨rfl, hb6⟩
                go_simp
                have hS6 := HTS.out _ _ hS8 hb6
                refine hK.out _ _ hS6 (fun hSS => ?_)
                clear hK
                refine wpAnyH_take (i := 9) (v := .agg #[.string ⟨sn.toArray⟩, .int .i64 st, .int .i64 sl, .string ⟨d.toArray⟩]) rfl (by kernel_rfl) (by kernel_rfl) (by kernel_rfl) (fun _ _ _ h => h) (Or.inl ⟨by rfl, ?_⟩) (by assumption) ?_
                · intro W hSW
                  go_simp
                simp only [Act.put]
                refine wpAnyH_ready (rs := [11]) (by kernel_rfl) (by simp) ?_
                refine AllReadyH.cons rfl (fun K hK => ?_) AllReadyH.nil
                have hk4 : w6.heap[w5.heap.size]? = some (.cells #[.string ⟨#[]⟩, .int .i64 0, .int .i64 0, .string ⟨#[]⟩] 43) := (hb6.block w5.heap.size (by simp)).trans (blk_new _ _)
                have hgt : wr.heap.size ≤ w5.heap.size := by first | exact Nat.le_refl _ | exact hS1.size | exact hS5.size | exact hS6.size
                have hF := put4_heap (v0 := (.string ⟨sn.toArray⟩)) (v1 := (.int .i64 st)) (v2 := (.int .i64 sl)) (v3 := (.string ⟨d.toArray⟩)) hk4
                have hSF := (((Below.setCell hS6 (p := ⟨w5.heap.size, 0, none⟩) hgt (.string ⟨sn.toArray⟩)).setCell (p := ⟨w5.heap.size, 1, none⟩) hgt (.int .i64 st)).setCell (p := ⟨w5.heap.size, 2, none⟩) hgt (.int .i64 sl)).setCell (p := ⟨w5.heap.size, 3, none⟩) hgt (.string ⟨d.toArray⟩)
                obtain ⟨r0, r1, r2, r3⟩ := rec4_cells hk4
                obtain ⟨f0', f1', f2', f3'⟩ := rec4_frozen hk4
                rw [if_pos (by rfl)]
                go_simp
                refine hK.out _ _ hSF (fun hSS => ?_)
                clear hK r0 r1 r2 r3 f0' f1' f2' f3' hk4
                refine wpAnyH_done (by kernel_rfl) ?_ _
                obtain ⟨WF, hWF⟩ : ∃ WF, WF = (((w6.setCell ⟨w5.heap.size, 0, none⟩ (.string ⟨sn.toArray⟩)).setCell ⟨w5.heap.size, 1, none⟩ (.int .i64 st)).setCell ⟨w5.heap.size, 2, none⟩ (.int .i64 sl)).setCell ⟨w5.heap.size, 3, none⟩ (.string ⟨d.toArray⟩) := ⟨_, rfl⟩
                rw [← hWF] at hF hSF ⊢
                clear hWF hSS
                obtain ⟨x0, x1, x2, x3⟩ := rec4_cells hF
                obtain ⟨_, hsb, how, hbW⟩ := HXS.out WF hSF
                have HOW : Hid (WF.ownsRow w.heap.size 43 4 v F.length (rcells F)) := how
                have HOF : Hid (∀ q, v.ownBlock = some q → q ≠ g) := rcf_off how hsb (by decide)
                have HLW : Hid (∀ q, v.ownBlock = some q → w.heap.size ≤ q) := fun q hq => (how.lt q hq).1
                clear how hF hSF
                go_wp2_with (first | (at_builtin; refine wpList_append_rows rfl (.tmp 42) (.tmp 44) 27 rfl Tryz.underlying27 w.heap.size v _ F rfl rfl ?b0 _ [(sn, st, sl, d)] rfl ?b1 ?b2 ?b3 ?b4 ?_))
                case b0 => exact HOW.out.alloc _
                case b1 => exact rrow_one _ (sn, st, sl, d) _ _ (by simp)
                case b2 => intro n c h; cases h
                case b3 => exact HFL1.out
                case b4 => exact Nat.le_trans hbW.size (by simp)
                intro v2 w7 hown hgrow
                have HO7 : Hid (w7.ownsRow w.heap.size 43 4 v2 (F0 ++ (P.take (j + 1)).map (mkR (sn, st, sl, P))).length (rcells (F0 ++ (P.take (j + 1)).map (mkR (sn, st, sl, P))))) := by
                  show w7.ownsRow w.heap.size 43 4 v2 (F0 ++ (P.take (j + 1)).map (mkR (sn, st, sl, P))).length (rcells (F0 ++ (P.take (j + 1)).map (mkR (sn, st, sl, P))))
                  rw [HN.out]; first | exact hown | (rw [List.length_append]; exact hown)
                have hlt7 : g < WF.heap.size := lt_of_heap hsb
                have HB7 : Hid (w7.heap[g]? = some (.cells #[.string ⟨sn.toArray⟩, .int .i64 st, .int .i64 sl, .slice (some ⟨pb, po, none⟩) P.length pc] 55)) := by
                  have h1 := hgrow.block g (by simp; omega) (fun e => HOF.out _ e.symm rfl)
                  have h2 : (WF.alloc (.cells #[.string ⟨sn.toArray⟩, .int .i64 st, .int .i64 sl, .string ⟨d.toArray⟩] 43)).heap[g]? = WF.heap[g]? := ((Below.refl WF.heap.size WF).alloc (Nat.le_refl _) _).block _ hlt7
                  exact h1.trans (h2.trans hsb)
                have hbw7 : Below w.heap.size w w7 := (hbW.alloc hbW.size _).grown hgrow (by simp; have := hbW.size; omega) (fun q hq => HLW.out q hq)
                clear hown hgrow hsb x0 x1 x2 x3
                go_wp2_with fail
                go_roundw
                case rel => exact ⟨j + 1, v2, by omega, by go_num, rfl, HO7, HB7, hbw7⟩
                case measure => simp [intOf]; omega
            · rw [if_pos (by rfl)]
              go_simp
              have hS8 := Below.alloc hS1 (Below.size hS1) (.cells #[.string ⟨#[]⟩, .int .i64 0, .int .i64 0, .string ⟨#[]⟩] 43)
              refine hK.out _ _ hS8 (fun hSS => ?_)
              clear hK
              refine wpAnyH_ready (rs := [2]) (by kernel_rfl) (by simp) ?_
              refine AllReadyH.cons rfl (fun K hK => ?_) AllReadyH.nil
              rw [if_pos (by rfl)]
              go_simp
              refine (HCN.out _).mono ?_
              rintro e w5 ⟨rfl, hb5⟩
              go_simp
              have hS5 := HTS.out _ _ hS8 hb5
              refine hK.out _ _ hS5 (fun hSS => ?_)
              clear hK
              refine wpAnyH_ready (rs := [8]) (by kernel_rfl) (by simp) ?_
              refine AllReadyH.cons rfl (fun K hK => ?_) AllReadyH.nil
              rw [if_pos (by rfl)]
              go_simp
              refine (HCD.out _).mono ?_
              rintro e w6 ⟨rfl, hb6⟩
              go_simp
              have hS6 := HTS.out _ _ hS5 hb6
              refine hK.out _ _ hS6 (fun hSS => ?_)
              clear hK
              refine wpAnyH_take (i := 9) (v := .agg #[.string ⟨sn.toArray⟩, .int .i64 st, .int .i64 sl, .string ⟨d.toArray⟩]) rfl (by kernel_rfl) (by kernel_rfl) (by kernel_rfl) (fun _ _ _ h => h) (Or.inl ⟨by rfl, ?_⟩) (by assumption) ?_
              · intro W hSW
                go_simp
              simp only [Act.put]
              refine wpAnyH_ready (rs := [11]) (by kernel_rfl) (by simp) ?_
              refine AllReadyH.cons rfl (fun K hK => ?_) AllReadyH.nil
              have hk4 : w6.heap[wr.heap.size]? = some (.cells #[.string ⟨#[]⟩, .int .i64 0, .int .i64 0, .string ⟨#[]⟩] 43) := (hb6.block wr.heap.size (Nat.lt_of_lt_of_le (by simp) hb5.size)).trans ((hb5.block wr.heap.size (by simp)).trans (blk_new wr.drew _))
              have hgt : wr.heap.size ≤ wr.heap.size := by first | exact Nat.le_refl _ | exact hS1.size | exact hS5.size | exact hS6.size
              have hF := put4_heap (v0 := (.string ⟨sn.toArray⟩)) (v1 := (.int .i64 st)) (v2 := (.int .i64 sl)) (v3 := (.string ⟨d.toArray⟩)) hk4
              have hSF := (((Below.setCell hS6 (p := ⟨wr.heap.size, 0, none⟩) hgt (.string ⟨sn.toArray⟩)).setCell (p := ⟨wr.heap.size, 1, none⟩) hgt (.int .i64 st)).setCell (p := ⟨wr.heap.size, 2, none⟩) hgt (.int .i64 sl)).setCell (p := ⟨wr.heap.size, 3, none⟩) hgt (.string ⟨d.toArray⟩)
              obtain ⟨r0, r1, r2, r3⟩ := rec4_cells hk4
              obtain ⟨f0', f1', f2', f3'⟩ := rec4_frozen hk4
              rw [if_pos (by rfl)]
              go_simp
              refine hK.out _ _ hSF (fun hSS => ?_)
              clear hK r0 r1 r2 r3 f0' f1' f2' f3' hk4
              refine wpAnyH_done (by kernel_rfl) ?_ _
              obtain ⟨WF, hWF⟩ : ∃ WF, WF = (((w6.setCell ⟨wr.heap.size, 0, none⟩ (.string ⟨sn.toArray⟩)).setCell ⟨wr.heap.size, 1, none⟩ (.int .i64 st)).setCell ⟨wr.heap.size, 2, none⟩ (.int .i64 sl)).setCell ⟨wr.heap.size, 3, none⟩ (.string ⟨d.toArray⟩) := ⟨_, rfl⟩
              rw [← hWF] at hF hSF ⊢
              clear hWF hSS
              obtain ⟨x0, x1, x2, x3⟩ := rec4_cells hF
              obtain ⟨_, hsb, how, hbW⟩ := HXS.out WF hSF
              have HOW : Hid (WF.ownsRow w.heap.size 43 4 v F.length (rcells F)) := how
              have HOF : Hid (∀ q, v.ownBlock = some q → q ≠ g) := rcf_off how hsb (by decide)
              have HLW : Hid (∀ q, v.ownBlock = some q → w.heap.size ≤ q) := fun q hq => (how.lt q hq).1
              clear how hF hSF
              go_wp2_with (first | (at_builtin; refine wpList_append_rows rfl (.tmp 42) (.tmp 44) 27 rfl Tryz.underlying27 w.heap.size v _ F rfl rfl ?b0 _ [(sn, st, sl, d)] rfl ?b1 ?b2 ?b3 ?b4 ?_))
              case b0 => exact HOW.out.alloc _
              case b1 => exact rrow_one _ (sn, st, sl, d) _ _ (by simp)
              case b2 => intro n c h; cases h
              case b3 => exact HFL1.out
              case b4 => exact Nat.le_trans hbW.size (by simp)
              intro v2 w7 hown hgrow
              have HO7 : Hid (w7.ownsRow w.heap.size 43 4 v2 (F0 ++ (P.take (j + 1)).map (mkR (sn, st, sl, P))).length (rcells (F0 ++ (P.take (j + 1)).map (mkR (sn, st, sl, P))))) := by
                show w7.ownsRow w.heap.size 43 4 v2 (F0 ++ (P.take (j + 1)).map (mkR (sn, st, sl, P))).length (rcells (F0 ++ (P.take (j + 1)).map (mkR (sn, st, sl, P))))
                rw [HN.out]; first | exact hown | (rw [List.length_append]; exact hown)
              have hlt7 : g < WF.heap.size := lt_of_heap hsb
              have HB7 : Hid (w7.heap[g]? = some (.cells #[.string ⟨sn.toArray⟩, .int .i64 st, .int .i64 sl, .slice (some ⟨pb, po, none⟩) P.length pc] 55)) := by
                have h1 := hgrow.block g (by simp; omega) (fun e => HOF.out _ e.symm rfl)
                have h2 : (WF.alloc (.cells #[.string ⟨sn.toArray⟩, .int .i64 st, .int .i64 sl, .string ⟨d.toArray⟩] 43)).heap[g]? = WF.heap[g]? := ((Below.refl WF.heap.size WF).alloc (Nat.le_refl _) _).block _ hlt7
                exact h1.trans (h2.trans hsb)
              have hbw7 : Below w.heap.size w w7 := (hbW.alloc hbW.size _).grown hgrow (by simp; have := hbW.size; omega) (fun q hq => HLW.out q hq)
              clear hown hgrow hsb x0 x1 x2 x3
              go_wp2_with fail
              go_roundw
              case rel => exact ⟨j + 1, v2, by omega, by go_num, rfl, HO7, HB7, hbw7⟩
              case measure => simp [intOf]; omega
          · have HOE : Hid (wr.ownsRow w.heap.size 43 4 v (flatS (L.take (k + 1))).length (rcells (flatS (L.take (k + 1))))) := by
              have h := HO.out
              rw [List.take_of_length_le (by omega), ← HSN.out] at h
              exact h
            have HPE : Hid ((flatS (L.take (k + 1))).length ≤ 60) := by
              show (flatS (L.take (k + 1))).length ≤ 60
              have := HF0.out
              rw [HSN.out, List.length_append, List.length_map]; omega
            clear HO
            go_wp2_with fail
            go_roundw
            case rel => exact ⟨k + 1, v, by omega, by go_num, rfl, HOE, HPE, hb3⟩
            case measure => simp [intOf]; omega
    · obtain ⟨hF1, hF2⟩ : (wr.ownsRow w.heap.size 43 4 v (flatS L).length (rcells (flatS L))) ∧ (flatS L).length ≤ 60 := by
        have h1 := HO.out
        have h2 := HP.out
        rw [List.take_of_length_le (by omega)] at h1 h2
        exact ⟨h1, h2⟩
      obtain ⟨fa, fc, hfv, hfm, hfn⟩ := own4n hF1
      have HOQ : Hid (OwnQ wr w.heap.size v (flatS L)) := own_q hF1
      have HL3 : Hid (Calls Tryz.prog 8 #[v] wr fun e w' => SetsR w' wr.heap.size (setsO (flatS L)) e ∧ Below wr.heap.size wr w') := iSetsOf_any v (flatS L) wr HOQ.out.row hfn (by omega) HFF (HEW.out _ hb)
      have HYS : Hid (setsO (flatS L) = some L → rcoB L = true) := HYES.out hF2
      clear HO HP hF1 hF2 hfn
      obtain ⟨o, ho⟩ : ∃ o, o = setsO (flatS L) := ⟨_, rfl⟩
      rw [← ho] at HL3 HYS HNOS
      subst hfv
      obtain ⟨n2, hn2⟩ : ∃ n2, n2 = (flatS L).length := ⟨_, rfl⟩
      rw [← hn2] at HL3 HOQ ⊢
      clear ho hn2
      go_wp2_with fail
      refine HL3.out.mono ?_
      rintro e w6 ⟨hl3, hb6⟩
      have hbw6 : Below w.heap.size w w6 := hb.trans (hb6.mono hb.size)
      have HQ6 : Hid (OwnQ w6 w.heap.size (.slice fa n2 fc) (flatS L)) := HOQ.out.kept hb6
      cases o with
      | none =>
        have HR : Hid (rcoB L = false) := HNOS.out (by simp)
        unfold SetsR at hl3
        subst hl3
        go_wp2_with fail
        go_ret2
        exact ⟨⟨_, by rw [HR.out]; rfl, by rw [HXN.out HR.out]; exact .inl ⟨rfl, rfl⟩⟩, hbw6⟩
      | some S =>
        obtain ⟨u, DS, hDS, rfl, hbld⟩ := hl3
        have HEQ : Hid (Calls Tryz.prog 39 #[u, .slice a L.length cap, .func (.func 40) #[] #[]] w6 fun e w' => e = .returned (.bool (decide (S = L))) ∧ Below w6.heap.size w6 w') := eqSets_any u _ S L w6 (by rw [← hDS]; exact bld_row hbld) (HSR.out _ hbw6)
        obtain ⟨ua, uc, huv, hum, _⟩ := own4n hbld.1
        subst huv
        have HNS : Hid (S ≠ L → rcoB L = false) := fun h => HNOS.out (fun e => h (by injection e))
        have HYY : Hid (S = L → rcoB L = true) := fun h => HYS.out (by rw [h])
        clear hbld hDS HNOS HYS
        go_wp2_with fail
        refine HEQ.out.mono ?_
        rintro e w7 ⟨rfl, hb7⟩
        have hbw7 : Below w.heap.size w w7 := hbw6.trans (hb7.mono hbw6.size)
        have HQ7 : Hid (OwnQ w7 w.heap.size (.slice fa n2 fc) (flatS L)) := HQ6.out.kept hb7
        by_cases g : S = L
        · have HR : Hid (rcoB L = true) := HYY.out g
          rw [decide_eq_true g]
          clear g HYY HNS
          go_wp2_with fail
          go_ret2
          exact ⟨⟨_, by rw [HR.out]; rfl, by rw [HXY.out HR.out]; exact HQ7.out⟩, hbw7⟩
        · have HR : Hid (rcoB L = false) := HNS.out g
          rw [decide_eq_false g]
          clear g HYY HNS
          go_wp2_with fail
          go_ret2
          exact ⟨⟨_, by rw [HR.out]; rfl, by rw [HXN.out HR.out]; exact .inl ⟨rfl, rfl⟩⟩, hbw7⟩
end Go.Proofs.YtjocegnhhhfbeaaGreatDoor
