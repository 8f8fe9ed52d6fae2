import Derived.Test.YtpghpeombednkaaGreatDoorZ37
import Derived.Test.YtpghpeombednkaaGreatDoorZ30
namespace Go.Proofs.YtpghpeombednkaaGreatDoor
open Go.RowKit

/-- Whether a message's bytes fit. -/
def fitB (R : Option (List UInt8)) (size : Int) : Bool := decide (((R.getD []).length : Int) ≤ size)

set_option maxRecDepth 20000 in
set_option maxHeartbeats 1000000 in
theorem fits_any (mi : Int) (reply cutm : Bool) (code : Int) (nm : ByteArray) (ty : Int) (va vu : Value) (A U : List (List UInt8 × Int × Int × List UInt8)) (size : Int) (w : World) (ha : RRow w va A) (hu : RRow w vu U)
    (hna : ∀ n c, va = .slice none n c → c = 0) (hnu : ∀ n c, vu = .slice none n c → c = 0)
    (hxa : Hid (∀ x ∈ A, x.1.length ≤ 1048576 ∧ x.2.2.2.length ≤ 1048576)) (hxu : Hid (∀ x ∈ U, x.1.length ≤ 1048576 ∧ x.2.2.2.length ≤ 1048576)) (hE : EnvR w) (hlen : ∀ b, mbI mi reply cutm code nm.data.toList ty A U = some b → b.length ≤ 1048576) :
    Calls Tryz.prog 27 #[MsgV mi reply cutm code nm ty va vu, .int .i64 size] w fun e w' => e = .returned (.bool (fitB (mbI mi reply cutm code nm.data.toList ty A U) size)) ∧ Below w.heap.size w w' := by
  have HB : Hid (∀ W, Below w.heap.size w W → Calls Tryz.prog 11 #[MsgV mi reply cutm code nm ty va vu] W fun e w' => e = putVal (mbI mi reply cutm code nm.data.toList ty A U) ∧ Below W.heap.size W w') := fun W hW => iMessageBytes_any mi reply cutm code nm ty va vu A U W (ha.kept hW) (hu.kept hW) hna hnu hxa hxu (hE.below hW)
  obtain ⟨aa, ca, hva, _, hca, _⟩ := id ha
  obtain ⟨au, cu, hvu, _, hcu, _⟩ := id hu
  subst hva
  subst hvu
  obtain ⟨R, hR⟩ : ∃ R, R = mbI mi reply cutm code nm.data.toList ty A U := ⟨_, rfl⟩
  rw [← hR] at HB hlen ⊢
  clear hR ha hu hna hnu
  unfold MsgV at HB ⊢
  go_enter Tryz.func27, Tryz.ntmps27
  go_wp2_with fail
  refine (HB.out _ ((Below.refl w.heap.size w).alloc (Nat.le_refl _) _)).mono ?_
  rintro e w1 ⟨rfl, hb1⟩
  have hbw := (box8 hb1).2
  unfold putVal
  clear hb1 HB
  cases R with
  | none =>
    rw [show (none : Option (List UInt8)).isSome = false from rfl]
    rw [show (none : Option (List UInt8)).getD [] = [] from rfl]
    go_wp2_with fail
    go_ret
    exact ⟨ret_bool (by simp [fitB]), hbw⟩
  | some b =>
    have hl := hlen b rfl
    rw [show (some b).getD [] = b from rfl, show (some b).isSome = true from rfl]
    clear hlen
    go_wp2_with fail
    go_ret
    exact ⟨ret_bool (by simp [fitB]), hbw⟩

set_option maxRecDepth 20000 in
set_option maxHeartbeats 1000000 in
theorem withoutLast_any (a : Option Addr) (cap : Nat) (L : List (List UInt8 × Int × Int × List UInt8)) (w : World) (hr : RRow w (.slice a L.length cap) L) (h0 : 0 < L.length) (hL : L.length ≤ 1048576) :
    Calls Tryz.prog 28 #[.slice a L.length cap] w fun e w' => e = .returned (.slice a (lessL L).length cap) ∧ Below w.heap.size w w' := by
  obtain ⟨a', cap', he, hcap, hmax, hrow⟩ := hr
  cases he
  have HROW : Hid (L = [] ∨ ∃ b o, a = some ⟨b, o, none⟩ ∧ b < w.heap.size ∧ ∀ j, (hj : j < L.length) → RecAt w b (o + j * 4) L[j]) := hrow
  have HOW : Hid (∀ (x : List UInt8 × Int × Int × List UInt8) W, Calls Tryz.prog 67 #[.agg #[.string ⟨x.1.toArray⟩, .int .i64 x.2.1, .int .i64 x.2.2.1, .string ⟨x.2.2.2.toArray⟩]] W fun e w' => e = .returned (.agg #[.string ⟨x.1.toArray⟩, .int .i64 x.2.1]) ∧ Below W.heap.size W w') := fun x W => ownerOf_any ⟨x.1.toArray⟩ ⟨x.2.2.2.toArray⟩ x.2.1 x.2.2.1 W
  unfold maxLen at hmax
  clear hrow
  rcases HROW.out with hr | ⟨b, o, ha, hbl, hcel⟩
  · rw [hr] at h0; simp at h0
  · subst ha
    have hlast := hcel (L.length - 1) (by omega)
    have hz : L.getD (L.length - 1) noRec = L[L.length - 1]'(by omega) := by rw [List.getD_eq_getElem?_getD, List.getElem?_eq_getElem (by omega)]; rfl
    obtain ⟨z, hze⟩ : ∃ z, z = L[L.length - 1]'(by omega) := ⟨_, rfl⟩
    rw [← hze] at hlast hz
    have HLE : Hid (lessL L = L.take (lessK L z (L.length - 1))) := by unfold lessL; rw [hz]; exact rfl
    have HC : Hid (∀ W, Below w.heap.size w W → ∀ j, (hj : j < L.length) → RecAt W b (o + j * 4) L[j]) := fun W hW j hj => (hcel j hj).kept hW
    obtain ⟨c0, c1, c2, c3⟩ := hlast
    have ei : ((L.length : Int) - 1).toNat = L.length - 1 := by omega
    clear hcel hze hz
    go_enter Tryz.func28, Tryz.ntmps28
    go_wp2_with fail
    refine (HOW.out z _).mono ?_
    rintro e w1 ⟨rfl, hb1⟩
    obtain ⟨zn, zt, zl, zd⟩ := z
    have HB1 : Hid (∀ W, Below (w1.alloc (.cells #[.string ⟨zn.toArray⟩, .int .i64 zt] 66)).heap.size (w1.alloc (.cells #[.string ⟨zn.toArray⟩, .int .i64 zt] 66)) W → W.cell? ⟨w1.heap.size, 0, none⟩ = some (.string ⟨zn.toArray⟩) ∧ W.cell? ⟨w1.heap.size, 1, none⟩ = some (.int .i64 zt) ∧ Below w.heap.size w W) := fun W hW => by
      have h := two_below hW
      exact ⟨h.1, h.2.1, hb1.trans (h.2.2.mono hb1.size)⟩
    obtain ⟨W1, hW1⟩ : ∃ W1, W1 = w1.alloc (.cells #[.string ⟨zn.toArray⟩, .int .i64 zt] 66) := ⟨_, rfl⟩
    rw [← hW1] at HB1
    have HW1 : Hid (w1.alloc (.cells #[.string ⟨zn.toArray⟩, .int .i64 zt] 66) = W1) := hW1.symm
    clear c0 c1 c2 c3 hb1 hW1
    go_wp2_with fail
    rw [HW1.out]
    go_loopw [3] (fun i wr => ∃ k : Nat, k < L.length ∧ i = .int .i64 (k : Int) ∧ Hid (lessK L (zn, zt, zl, zd) (L.length - 1) = lessK L (zn, zt, zl, zd) k) ∧ Below W1.heap.size W1 wr) (fun i _ => (intOf i).toNat)
    case atStart => exact ⟨L.length - 1, by omega, congrArg (Value.int .i64) (by omega), rfl, Below.refl _ _⟩
    case round =>
      obtain ⟨k, hk, rfl, HK, hb⟩ := hrel
      obtain ⟨q0, q1, hbw⟩ := HB1.out wr hb
      cases k with
      | zero =>
        have HE : Hid ((lessL L).length = 0) := by rw [HLE.out, HK.out]; exact rfl
        go_wp2_with fail
        go_region
        all_goals
          go_wp2_with fail
          go_ret
          exact ⟨congrArg Ending.returned (by rw [HE.out]; rfl), hbw.drew⟩
      | succ k =>
        have hkl : k < L.length := by omega
        have HM := HC.out wr hbw k hkl
        have HGO : Hid ((L[k]'hkl).1 = zn → (L[k]'hkl).2.1 = zt → lessK L (zn, zt, zl, zd) (k + 1) = lessK L (zn, zt, zl, zd) k) := fun h1 h2 => lessK_go hkl h1 h2
        have HSTOP : Hid (¬ ((L[k]'hkl).1 = zn ∧ (L[k]'hkl).2.1 = zt) → (lessL L).length = k + 1) := fun h => by rw [HLE.out, HK.out, lessK_stop hkl h, List.length_take]; omega
        obtain ⟨x, hx⟩ : ∃ x, x = L[k]'hkl := ⟨_, rfl⟩
        rw [← hx] at HM HGO HSTOP
        clear hx
        obtain ⟨xn, xt, xl, xd⟩ := x
        have HX : Hid (∀ W, Below wr.heap.size wr W → (W.cell? ⟨b, o + k * 4, none⟩ = some (.string ⟨xn.toArray⟩) ∧ W.cell? ⟨b, o + k * 4 + 1, none⟩ = some (.int .i64 xt) ∧ W.cell? ⟨b, o + k * 4 + 2, none⟩ = some (.int .i64 xl) ∧ W.cell? ⟨b, o + k * 4 + 3, none⟩ = some (.string ⟨xd.toArray⟩)) ∧ (W.cell? ⟨w1.heap.size, 0, none⟩ = some (.string ⟨zn.toArray⟩) ∧ W.cell? ⟨w1.heap.size, 1, none⟩ = some (.int .i64 zt)) ∧ Below W1.heap.size W1 W ∧ Below w.heap.size w W) := fun W hW => by
          have h1 := HM.kept hW
          have h2 := hb.trans (hW.mono hb.size)
          have h3 := HB1.out W h2
          exact ⟨⟨h1.1, h1.2.1, h1.2.2.1, h1.2.2.2⟩, ⟨h3.1, h3.2.1⟩, h2, h3.2.2⟩
        have HOX : Hid (∀ W, Calls Tryz.prog 67 #[.agg #[.string ⟨xn.toArray⟩, .int .i64 xt, .int .i64 xl, .string ⟨xd.toArray⟩]] W fun e w' => e = .returned (.agg #[.string ⟨xn.toArray⟩, .int .i64 xt]) ∧ Below W.heap.size W w') := HOW.out (xn, xt, xl, xd)
        have HTR : Hid (∀ W W', Below wr.heap.size wr W → Below W.heap.size W W' → Below wr.heap.size wr W') := fun W W' h1 h2 => h1.trans (h2.mono h1.size)
        have hbd : Below wr.heap.size wr wr.drew := (Below.refl _ _).drew
        obtain ⟨same, hsame⟩ : ∃ same, same = (xn == zn && xt == zt) := ⟨_, rfl⟩
        have HGO2 : Hid (same = true → lessK L (zn, zt, zl, zd) (L.length - 1) = lessK L (zn, zt, zl, zd) k) := fun h => by
          rw [hsame] at h
          simp only [Bool.and_eq_true, beq_iff_eq] at h
          rw [HK.out]; exact HGO.out h.1 h.2
        have HST2 : Hid (same = false → (lessL L).length = k + 1) := fun h => HSTOP.out (fun hh => by
          have h1 : xn = zn := hh.1
          have h2 : xt = zt := hh.2
          rw [hsame, h1, h2] at h; simp at h)
        have hkc : (k : Int) + 1 ≤ (cap : Int) := by omega
        have wk : IntKind.i64.wrap (k : Int) = (k : Int) := wrap_small _ (by omega) (by omega)
        have HSM : Hid (same = (xn == zn && xt == zt)) := hsame
        clear hsame HGO HSTOP HOW
        go_wp2_with fail
        rw [show ((k + 1 : Nat) : Int) = (k : Int) + 1 by omega]
        refine wp_region_quiet (C := fun W => Below wr.heap.size wr W) (by kernel_rfl) (by kernel_rfl) hbd ?_
        refine wpQuiet_step (fun K hK => ?_)
        rw [if_pos (by rfl)]
        refine ⟨.int .i64 ((k : Int) + 1), fun W hW => quiet_ok ?_, hK _ ?_⟩
        · have q := HX.out W hW
          obtain ⟨⟨m0, m1, m2, m3⟩, ⟨z0, z1⟩, _, _⟩ := q
          go_simp
          all_goals (try omega)
        clear hK K
        simp only [Act.put, List.setIfInBounds_toArray, List.set_cons_succ, List.set_cons_zero]
        refine wpQuiet_step (fun K hK => ?_)
        rw [if_pos (by rfl)]
        refine ⟨.bool true, fun W hW => quiet_ok ?_, hK _ ?_⟩
        · have q := HX.out W hW
          obtain ⟨⟨m0, m1, m2, m3⟩, ⟨z0, z1⟩, _, _⟩ := q
          go_simp
          all_goals (try omega)
        clear hK K
        simp only [Act.put, List.setIfInBounds_toArray, List.set_cons_succ, List.set_cons_zero]
        refine wpQuiet_step (fun K hK => ?_)
        rw [if_pos (by rfl)]
        refine ⟨.bool true, fun W hW => quiet_ok ?_, hK _ ?_⟩
        · have q := HX.out W hW
          obtain ⟨⟨m0, m1, m2, m3⟩, ⟨z0, z1⟩, _, _⟩ := q
          go_simp
          all_goals (try omega)
        clear hK K
        simp only [Act.put, List.setIfInBounds_toArray, List.set_cons_succ, List.set_cons_zero]
        refine wpQuiet_step (fun K hK => ?_)
        rw [if_pos (by rfl)]
        refine ⟨.slice (some ⟨b, o, none⟩) L.length cap, fun W hW => quiet_ok ?_, hK _ ?_⟩
        · have q := HX.out W hW
          obtain ⟨⟨m0, m1, m2, m3⟩, ⟨z0, z1⟩, _, _⟩ := q
          go_simp
          all_goals (try omega)
        clear hK K
        simp only [Act.put, List.setIfInBounds_toArray, List.set_cons_succ, List.set_cons_zero]
        refine wpQuiet_step (fun K hK => ?_)
        rw [if_pos (by rfl)]
        refine ⟨.int .i64 ((k : Int) + 1), fun W hW => quiet_ok ?_, hK _ ?_⟩
        · have q := HX.out W hW
          obtain ⟨⟨m0, m1, m2, m3⟩, ⟨z0, z1⟩, _, _⟩ := q
          go_simp
          all_goals (try omega)
        clear hK K
        simp only [Act.put, List.setIfInBounds_toArray, List.set_cons_succ, List.set_cons_zero]
        refine wpQuiet_step (fun K hK => ?_)
        rw [if_pos (by rfl)]
        refine ⟨.int .i64 (k : Int), fun W hW => quiet_ok ?_, hK _ ?_⟩
        · have q := HX.out W hW
          obtain ⟨⟨m0, m1, m2, m3⟩, ⟨z0, z1⟩, _, _⟩ := q
          go_simp
          all_goals (try omega)
        clear hK K
        simp only [Act.put, List.setIfInBounds_toArray, List.set_cons_succ, List.set_cons_zero]
        refine wpQuiet_step (fun K hK => ?_)
        rw [if_pos (by rfl)]
        refine ⟨.pointer (some ⟨b, o + k * 4, none⟩), fun W hW => quiet_ok ?_, hK _ ?_⟩
        · have q := HX.out W hW
          obtain ⟨⟨m0, m1, m2, m3⟩, ⟨z0, z1⟩, _, _⟩ := q
          go_simp
          all_goals (try omega)
        clear hK K
        simp only [Act.put, List.setIfInBounds_toArray, List.set_cons_succ, List.set_cons_zero]
        refine wpQuiet_step (fun K hK => ?_)
        rw [if_pos (by rfl)]
        refine ⟨.agg #[.string ⟨xn.toArray⟩, .int .i64 xt, .int .i64 xl, .string ⟨xd.toArray⟩], fun W hW => quiet_ok ?_, hK _ ?_⟩
        · have q := HX.out W hW
          obtain ⟨⟨m0, m1, m2, m3⟩, ⟨z0, z1⟩, _, _⟩ := q
          go_simp
          all_goals (try omega)
        clear hK K
        simp only [Act.put, List.setIfInBounds_toArray, List.set_cons_succ, List.set_cons_zero]
        refine wpQuiet_step (fun K hK => ?_)
        rw [if_pos (by rfl)]
        refine ⟨.agg #[.string ⟨xn.toArray⟩, .int .i64 xt], fun W hW => quiet_call (f := 67) (args := #[.agg #[.string ⟨xn.toArray⟩, .int .i64 xt, .int .i64 xl, .string ⟨xd.toArray⟩]]) ?_ ?_, hK _ ?_⟩
        · go_simp
        · exact (HOX.out W).mono fun e w'' h => ⟨h.1, HTR.out _ _ hW h.2⟩
        clear hK K
        simp only [Act.put, List.setIfInBounds_toArray, List.set_cons_succ, List.set_cons_zero]
        refine wpQuiet_step (fun K hK => ?_)
        rw [if_pos (by rfl)]
        refine ⟨.agg #[.string ⟨zn.toArray⟩, .int .i64 zt], fun W hW => quiet_ok ?_, hK _ ?_⟩
        · have q := HX.out W hW
          obtain ⟨⟨m0, m1, m2, m3⟩, ⟨z0, z1⟩, _, _⟩ := q
          go_simp
          all_goals (try omega)
        clear hK K
        simp only [Act.put, List.setIfInBounds_toArray, List.set_cons_succ, List.set_cons_zero]
        refine wpQuiet_step (fun K hK => ?_)
        rw [if_pos (by rfl)]
        refine ⟨.bool same, fun W hW => quiet_ok ?_, hK _ ?_⟩
        · go_simp
          rw [HSM.out]
          by_cases h1 : xn = zn
          · by_cases h2 : xt = zt
            · rw [if_pos h1, if_pos h2, h1, h2]; simp
            · rw [if_pos h1, if_neg h2, h1, show (xt == zt) = false by simpa using h2]; simp
          · rw [if_neg h1, show (xn == zn) = false by simpa using h1]; simp
        clear hK K
        simp only [Act.put, List.setIfInBounds_toArray, List.set_cons_succ, List.set_cons_zero]
        refine wpQuiet_step (fun K hK => ?_)
        rw [if_pos (by rfl)]
        refine ⟨.bool same, fun W hW => quiet_ok ?_, hK _ ?_⟩
        · have q := HX.out W hW
          obtain ⟨⟨m0, m1, m2, m3⟩, ⟨z0, z1⟩, _, _⟩ := q
          go_simp
          all_goals (try omega)
        clear hK K
        simp only [Act.put, List.setIfInBounds_toArray, List.set_cons_succ, List.set_cons_zero]
        refine wpQuiet_nil ?_
        intro W hW
        obtain ⟨_, _, hbW, hbwW⟩ := HX.out W hW
        cases same with
        | true =>
          have HK2 : Hid (lessK L (zn, zt, zl, zd) (L.length - 1) = lessK L (zn, zt, zl, zd) k) := HGO2.out rfl
          go_wp2_with fail
          go_roundw
          case rel => exact ⟨k, by omega, by go_num, HK2, hbW⟩
          case measure => simp [intOf]
        | false =>
          have HE : Hid ((lessL L).length = k + 1) := HST2.out rfl
          go_wp2_with fail
          go_ret
          exact ⟨congrArg Ending.returned (by rw [HE.out]; rfl), hbwW⟩
end Go.Proofs.YtpghpeombednkaaGreatDoor
