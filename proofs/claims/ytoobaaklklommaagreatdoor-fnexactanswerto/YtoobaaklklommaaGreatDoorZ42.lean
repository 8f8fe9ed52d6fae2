import Derived.Test.YtoobaaklklommaaGreatDoorZ41
import Derived.Test.YtoobaaklklommaaGreatDoorZ21
namespace Go.Proofs.YtoobaaklklommaaGreatDoor
open Go.RowKit

/-! impl.AnswerTo. -/
def hasD (L : List DonT) (c n : Int) : Option DonT := L.find? (fun d => decide (d.1 = c) && decide (d.2.1 = n))
def donV (x : DonT) : Value := .agg #[.int .i64 x.1, .int .i64 x.2.1, .int .i64 x.2.2.1, .int .i64 x.2.2.2]
/-- Which one is told. -/
def ansD (nm : List UInt8) (ct : Int) (Q : List (List UInt8 × Int × Int × List UInt8)) (L : List DonT) (many c n : Int) : Option DonT := if ctlB nm ct Q L many then hasD L c n else none
theorem has_at {L : List DonT} {c n : Int} {i : Nat} (hs : RisD L) (hp : PlcD L c i) (hi : i < L.length) (hc : (L[i]'hi).1 = c) : hasD L c n = if (L[i]'hi).2.1 = n then some (L[i]'hi) else none := by
  have key : ∀ j, (hj : j < L.length) → (L[j]'hj).1 = c → j = i := fun j hj hjc => by
    rcases Nat.lt_trichotomy j i with h | h | h
    · have := hp.2.1 j hj h; omega
    · exact h
    · have := hs i j hi hj h; omega
  unfold hasD
  by_cases hn : (L[i]'hi).2.1 = n
  · rw [if_pos hn, List.find?_eq_some_iff_getElem]
    refine ⟨by simp [hc, hn], i, hi, rfl, fun j hj => ?_⟩
    have := hp.2.1 j (by omega) hj
    simp; omega
  · rw [if_neg hn, List.find?_eq_none]
    intro x hx
    obtain ⟨j, hj, rfl⟩ := List.getElem_of_mem hx
    by_cases hjc : (L[j]'hj).1 = c
    · obtain rfl := key j hj hjc
      simp [hn]
    · simp [hjc]
theorem has_no {L : List DonT} {c n : Int} {i : Nat} (hs : RisD L) (hp : PlcD L c i) (hh : hitD L c i = false) : hasD L c n = none := by
  unfold hasD
  rw [List.find?_eq_none]
  intro x hx
  obtain ⟨j, hj, rfl⟩ := List.getElem_of_mem hx
  have : (L[j]'hj).1 ≠ c := fun e => by
    rcases Nat.lt_or_ge j i with h | h
    · have := hp.2.1 j hj h; omega
    · unfold hitD at hh
      have hi : i < L.length := by omega
      have h1 := hp.2.2 i hi (Nat.le_refl _)
      rcases Nat.lt_or_ge i j with h2 | h2
      · have := hs i j hi hj h2; omega
      · obtain rfl : j = i := by omega
        rw [getD_d hi] at hh
        simp [hi, e] at hh
  simp [this]
theorem putD4_heap {w : World} {g : Nat} {t : TypeId} {x : DonT} {u0 u1 u2 u3 : Value} (h : w.heap[g]? = some (.cells #[u0, u1, u2, u3] t)) : (putD4 w g 0 x).heap[g]? = some (.cells #[.int .i64 x.1, .int .i64 x.2.1, .int .i64 x.2.2.1, .int .i64 x.2.2.2] t) := by
  have e0 := heap_setCell_same _ _ 0 _ _ (.int .i64 x.1) h
  have e1 := heap_setCell_same _ _ 1 _ _ (.int .i64 x.2.1) e0
  have e2 := heap_setCell_same _ _ 2 _ _ (.int .i64 x.2.2.1) e1
  have e3 := heap_setCell_same _ _ 3 _ _ (.int .i64 x.2.2.2) e2
  unfold putD4
  simpa using e3
set_option maxRecDepth 20000 in
set_option maxHeartbeats 4000000 in
theorem answerTo_any (nm : ByteArray) (ct : Int) (v vl : Value) (many c n : Int) (Q : List (List UInt8 × Int × Int × List UInt8)) (L : List DonT) (w : World) (hr : RRow w v Q) (hd : DonRow w vl L) (hap : nm.size ≤ 1048576) (hx : Hid (∀ x ∈ Q, x.1.length ≤ 1048576 ∧ x.2.2.2.length ≤ 1048576)) (hE : EnvZ w) (hl : L.length ≤ 1048576) :
    Calls Tryz.prog 68 #[CtlV nm ct v vl many, .int .i64 c, .int .i64 n] w fun e w' => (match ansD nm.data.toList ct Q L many c n with
      | some d => e = .returned (donV d)
      | none => e = .panicked RfC) ∧ Below w.heap.size w w' := by
  unfold CtlV
  have HG : Hid (∀ W, Below w.heap.size w W → Calls Tryz.prog 12 #[CtlV nm ct v vl many] W fun e w' => e = .returned (.bool (ctlB nm.data.toList ct Q L many)) ∧ Below W.heap.size W w') := fun W hW => iGoodControl_any nm ct v vl many Q L W (hr.kept hW) (hd.kept hW) hap hx (hE.below hW)
  have HP : Hid (∀ W, Below w.heap.size w W → RisD L → Calls Tryz.prog 96 #[vl, .int .i64 c] W fun e w' => (∃ i, e = .returned (.tuple #[.int .i64 ((i : Nat) : Int), .bool (hitD L c i)]) ∧ PlcD L c i) ∧ Below W.heap.size W w') := fun W hW hs => placeOf_any vl L c W (hd.kept hW) hs hl
  have HYES : Hid (∀ W, Calls Tryz.prog 57 #[.bool true] W fun e w' => e = .returned (.tuple #[]) ∧ w' = W) := fun W => insist_yes W
  have HNO : Hid (∀ W, Calls Tryz.prog 57 #[.bool false] W fun e w' => e = .panicked RfC ∧ w' = W) := fun W => insist_no W
  obtain ⟨aq, capq, rfl, _⟩ := id hr
  obtain ⟨a, cap, rfl, hcap, hmax, HROW⟩ := don_value hd
  unfold CtlV at HG
  obtain ⟨W0, hW0⟩ : ∃ W0, W0 = (w.alloc (.cells #[.string nm, .int .i64 ct, .slice aq Q.length capq, .slice a L.length cap, .int .i64 many] 35)).alloc (.cells #[.int .i64 0, .int .i64 0, .int .i64 0, .int .i64 0] 44) := ⟨_, rfl⟩
  have HW0 : Hid ((w.alloc (.cells #[.string nm, .int .i64 ct, .slice aq Q.length capq, .slice a L.length cap, .int .i64 many] 35)).alloc (.cells #[.int .i64 0, .int .i64 0, .int .i64 0, .int .i64 0] 44) = W0) := hW0.symm
  have hs1 : (w.alloc (.cells #[.string nm, .int .i64 ct, .slice aq Q.length capq, .slice a L.length cap, .int .i64 many] 35)).heap.size = w.heap.size + 1 := by simp
  have hb0 : Below w.heap.size w W0 := by rw [hW0]; exact ((Below.refl _ _).alloc (Nat.le_refl _) _).alloc (by simp) _
  have hz0 : W0.heap.size = w.heap.size + 1 + 1 := by rw [hW0]; simp
  have hx0 : W0.heap[w.heap.size]? = some (.cells #[.string nm, .int .i64 ct, .slice aq Q.length capq, .slice a L.length cap, .int .i64 many] 35) := by rw [hW0, Below.heap_alloc _ _ _ (by omega)]; exact blk_new _ _
  have hy0 : W0.heap[w.heap.size + 1]? = some (.cells #[.int .i64 0, .int .i64 0, .int .i64 0, .int .i64 0] 44) := by rw [hW0, ← hs1]; exact blk_new _ _
  have HC : Hid (∀ W, Below W0.heap.size W0 W → (W.cell? ⟨w.heap.size, 0, none⟩ = some (.string nm) ∧ W.cell? ⟨w.heap.size, 1, none⟩ = some (.int .i64 ct) ∧ W.cell? ⟨w.heap.size, 2, none⟩ = some (.slice aq Q.length capq) ∧ W.cell? ⟨w.heap.size, 3, none⟩ = some (.slice a L.length cap) ∧ W.cell? ⟨w.heap.size, 4, none⟩ = some (.int .i64 many))) := fun W hW => (ctl_cells ((hW.block _ (by omega)).trans hx0)).1
  have HY : Hid (∀ W, Below W0.heap.size W0 W → W.heap[w.heap.size + 1]? = some (.cells #[.int .i64 0, .int .i64 0, .int .i64 0, .int .i64 0] 44)) := fun W hW => (hW.block _ (by omega)).trans hy0
  have HB0 : Hid (Below w.heap.size w W0) := hb0
  obtain ⟨A, hA⟩ : ∃ A, A = ansD nm.data.toList ct Q L many c n := ⟨_, rfl⟩
  have HA : Hid (A = if ctlB nm.data.toList ct Q L many then hasD L c n else none) := hA
  rw [← hA]
  have HRIS : Hid (ctlB nm.data.toList ct Q L many = true → RisD L) := fun h => by
    unfold ctlB lastB at h
    simp only [Bool.and_eq_true] at h
    exact ris_of h.1.2.2
  clear hr hd hW0 hx0 hy0 hz0 hs1 hA hE hx hap
  obtain ⟨k0, k1, k2, k3, k4⟩ := HC.out W0 (Below.refl _ _)
  go_enter Tryz.func68, Tryz.ntmps68
  go_wp2_with (rw [HW0.out])
  refine (HG.out _ HB0.out).mono ?_
  rintro e w1 ⟨rfl, hb1⟩
  clear k0 k1 k2 k3 k4
  have hbw1 := HB0.out.trans (hb1.mono HB0.out.size)
  cases hg : ctlB nm.data.toList ct Q L many with
  | false =>
    have HA2 : Hid (A = none) := by have h := HA.out; rw [hg] at h; exact h
    have hA2 := HA2.out
    subst hA2
    clear HA HA2 hg HRIS
    go_wp2_with fail
    refine (HNO.out _).mono ?_
    rintro e w2 ⟨rfl, rfl⟩
    exact ⟨rfl, rfl, hbw1⟩
  | true =>
    have HA2 : Hid (A = hasD L c n) := by have h := HA.out; rw [hg] at h; exact h
    have HS := HRIS.out hg
    obtain ⟨k0, k1, k2, k3, k4⟩ := HC.out w1 hb1
    clear HA hg HRIS
    go_wp2_with fail
    refine (HYES.out _).mono ?_
    rintro e w2 ⟨rfl, rfl⟩
    go_wp2_with fail
    refine (HP.out _ hbw1 HS).mono ?_
    rintro e w3 ⟨⟨i, rfl, hpl⟩, hb3⟩
    have HPL : Hid (PlcD L c i) := hpl
    clear k0 k1 k2 k3 k4 hpl
    have hb13 := hb1.trans (hb3.mono hb1.size)
    have hbw3 := hbw1.trans (hb3.mono hbw1.size)
    obtain ⟨k0, k1, k2, k3, k4⟩ := HC.out w3 hb13
    cases hh : hitD L c i with
    | false =>
      have HA3 : A = none := HA2.out.trans (has_no HS HPL.out hh)
      subst HA3
      clear HA2 hh
      go_wp2_with fail
      refine (HNO.out _).mono ?_
      rintro e w4 ⟨rfl, rfl⟩
      exact ⟨rfl, rfl, hbw3⟩
    | true =>
      have hi : i < L.length ∧ (L.getD i zD).1 = c := by
        unfold hitD at hh
        simpa using hh
      obtain ⟨hi, hic⟩ := hi
      rw [getD_d hi] at hic
      have hans := has_at (n := n) HS HPL.out hi hic
      obtain ⟨b, o, ha, hbl, hcel⟩ := HROW.out (by omega)
      subst ha
      have hx := (hcel i hi).kept hbw3
      obtain ⟨x, hxe⟩ : ∃ x, x = L[i]'hi := ⟨_, rfl⟩
      rw [← hxe] at hx hans
      obtain ⟨c0, c1, c2, c3⟩ := hx.cells
      have hii : (i : Int) < (L.length : Int) := by omega
      have HANS : Hid (A = if x.2.1 = n then some x else none) := HA2.out.trans hans
      obtain ⟨⟨y0, y1, y2, y3⟩, yf⟩ : (w3.cell? ⟨w.heap.size + 1, 0, none⟩ = some (.int .i64 0) ∧ w3.cell? ⟨w.heap.size + 1, 1, none⟩ = some (.int .i64 0) ∧ w3.cell? ⟨w.heap.size + 1, 2, none⟩ = some (.int .i64 0) ∧ w3.cell? ⟨w.heap.size + 1, 3, none⟩ = some (.int .i64 0)) ∧ ∀ j, w3.frozen? ⟨w.heap.size + 1, j, none⟩ = false := ⟨don_cells (HY.out w3 hb13), fun j => by unfold World.frozen?; rw [HY.out w3 hb13]; simp⟩
      have f0 := yf 0
      have f1 := yf 1
      have f2 := yf 2
      have f3 := yf 3
      have HY3 : Hid (w3.heap[w.heap.size + 1]? = some (.cells #[.int .i64 0, .int .i64 0, .int .i64 0, .int .i64 0] 44)) := HY.out w3 hb13
      clear hx hxe hcel hi hic hans HA2 hh yf
      by_cases hn : x.2.1 = n
      · have hA4 : A = some x := by rw [HANS.out, if_pos hn]
        subst hA4
        have hen : (x.2.1 == n) = true := by simp [hn]
        clear HANS hn
        go_wp2_with fail
        refine (HYES.out _).mono ?_
        rintro e w4 ⟨rfl, rfl⟩
        go_wp2_with fail
        (try simp only [Exit.inBlock, Exit.then])
        refine bodyPost_ret (results_cell_row rfl _ _ (w.heap.size + 1) 44 #[.int .i64 x.1, .int .i64 x.2.1, .int .i64 x.2.2.1, .int .i64 x.2.2.2] (0, 0) _ rfl ?_ Tryz.underlying44 rfl (by kernel_rfl)) rfl ⟨rfl, ?_⟩
        · exact putD4_heap HY3.out
        · exact putD4_below (o := 0) hbw3 (by omega) x
      · have hA4 : A = none := by rw [HANS.out, if_neg hn]
        subst hA4
        have hen : (x.2.1 == n) = false := by simp [hn]
        clear HANS hn
        go_wp2_with fail
        refine (HNO.out _).mono ?_
        rintro e w4 ⟨rfl, rfl⟩
        exact ⟨rfl, rfl, hbw3⟩
end Go.Proofs.YtoobaaklklommaaGreatDoor

namespace Go.Proofs.YtoobaaklklommaaGreatDoor
open Go.RowKit

theorem putD4_put {w : World} {g : Nat} {x : DonT} : putD4 w g 0 x = (((w.setCell ⟨g, 0, none⟩ (.int .i64 x.1)).setCell ⟨g, 1, none⟩ (.int .i64 x.2.1)).setCell ⟨g, 2, none⟩ (.int .i64 x.2.2.1)).setCell ⟨g, 3, none⟩ (.int .i64 x.2.2.2) := rfl
set_option maxRecDepth 20000 in
set_option maxHeartbeats 4000000 in
theorem answer1_any (nm : ByteArray) (ct : Int) (v vl : Value) (many c n : Int) (Q : List (List UInt8 × Int × Int × List UInt8)) (L : List DonT) (w : World) (b0 b1 b2 b3 : Nat) (hr : RRow w v Q) (hd : DonRow w vl L) (hap : nm.size ≤ 1048576) (hx : Hid (∀ x ∈ Q, x.1.length ≤ 1048576 ∧ x.2.2.2.length ≤ 1048576)) (hE : EnvZ w) (hl : L.length ≤ 1048576)
    (h0 : w.heap[b0]? = some (.cells #[.string nm, .int .i64 ct, v, vl, .int .i64 many] 35)) (h1 : w.heap[b1]? = some (.cells #[.int .i64 c] 3)) (h2 : w.heap[b2]? = some (.cells #[.int .i64 n] 3)) (h3 : w.heap[b3]? = some (.cells #[.int .i64 0, .int .i64 0, .int .i64 0, .int .i64 0] 44)) :
    Calls Tryz.prog 67 #[.pointer (some ⟨b0, 0, none⟩), .pointer (some ⟨b1, 0, none⟩), .pointer (some ⟨b2, 0, none⟩), .pointer (some ⟨b3, 0, none⟩)] w fun e w' => (match ansD nm.data.toList ct Q L many c n with
      | some d => e = .returned (.tuple #[]) ∧ (∃ W1, Below w.heap.size w W1 ∧ w' = putD4 W1 b3 0 d)
      | none => e = .panicked RfC ∧ Below w.heap.size w w') := by
  have HAT : Hid (Calls Tryz.prog 68 #[CtlV nm ct v vl many, .int .i64 c, .int .i64 n] w fun e w' => (match ansD nm.data.toList ct Q L many c n with
      | some d => e = .returned (donV d)
      | none => e = .panicked RfC) ∧ Below w.heap.size w w') := answerTo_any nm ct v vl many c n Q L w hr hd hap hx hE hl
  obtain ⟨⟨k0, k1, k2, k3, k4⟩, _⟩ := ctl_cells h0
  have c0 : w.cell? ⟨b1, 0, none⟩ = some (.int .i64 c) := by unfold World.cell?; rw [h1]; rfl
  have n0 : w.cell? ⟨b2, 0, none⟩ = some (.int .i64 n) := by unfold World.cell?; rw [h2]; rfl
  have H3 : Hid (∀ W, Below w.heap.size w W → (W.cell? ⟨b3, 0, none⟩ = some (.int .i64 0) ∧ W.cell? ⟨b3, 1, none⟩ = some (.int .i64 0) ∧ W.cell? ⟨b3, 2, none⟩ = some (.int .i64 0) ∧ W.cell? ⟨b3, 3, none⟩ = some (.int .i64 0)) ∧ ∀ j, W.frozen? ⟨b3, j, none⟩ = false) := fun W hW => by
    have h9 := (hW.block b3 ((Array.getElem?_eq_some_iff.1 h3).1)).trans h3
    exact ⟨don_cells h9, fun j => by unfold World.frozen?; rw [h9]; simp⟩
  obtain ⟨aq, capq, rfl, _⟩ := id hr
  obtain ⟨a, cap, rfl, _⟩ := id hd
  obtain ⟨A, hA⟩ : ∃ A, A = ansD nm.data.toList ct Q L many c n := ⟨_, rfl⟩
  rw [← hA] at HAT ⊢
  unfold CtlV at HAT
  clear hr hd h0 h1 h2 h3 hA hE hx hap hl
  go_enter Tryz.func67, Tryz.ntmps67
  go_wp2_with fail
  refine HAT.out.mono ?_
  rintro e w1 ⟨he, hb1⟩
  clear k0 k1 k2 k3 k4 c0 n0
  cases A with
  | none =>
    simp only at he
    subst he
    exact ⟨rfl, rfl, hb1⟩
  | some d =>
    simp only at he
    subst he
    obtain ⟨⟨y0, y1, y2, y3⟩, yf⟩ := H3.out w1 hb1
    have f0 := yf 0
    have f1 := yf 1
    have f2 := yf 2
    have f3 := yf 3
    clear yf
    unfold donV
    go_wp2_with fail
    first | go_end0 | refine bodyPost_ret (results_none rfl _ _ _) rfl ?_
    exact ⟨rfl, w1, hb1, rfl⟩
set_option maxRecDepth 20000 in
set_option maxHeartbeats 4000000 in
theorem iAnswerTo_any (nm : ByteArray) (ct : Int) (v vl : Value) (many c n : Int) (Q : List (List UInt8 × Int × Int × List UInt8)) (L : List DonT) (w : World) (hr : RRow w v Q) (hd : DonRow w vl L) (hap : nm.size ≤ 1048576) (hx : Hid (∀ x ∈ Q, x.1.length ≤ 1048576 ∧ x.2.2.2.length ≤ 1048576)) (hE : EnvZ w) (hl : L.length ≤ 1048576) :
    Calls Tryz.prog 33 #[CtlV nm ct v vl many, .int .i64 c, .int .i64 n] w fun e w' => e = .returned (.tuple #[donV ((ansD nm.data.toList ct Q L many c n).getD zD), .bool (ansD nm.data.toList ct Q L many c n).isSome]) ∧ Below w.heap.size w w' := by
  unfold CtlV
  have hmf : ∀ (fn : Fn) (first cap : Array Value) (w : World), (Instr.makeFunc fn first cap).run Tryz.prog w = .ok (.func fn first cap) w := fun _ _ _ _ => rfl
  obtain ⟨W0, hW0⟩ : ∃ W0, W0 = (((w.alloc (.cells #[.string nm, .int .i64 ct, v, vl, .int .i64 many] 35)).alloc (.cells #[.int .i64 c] 3)).alloc (.cells #[.int .i64 n] 3)).alloc (.cells #[.int .i64 0, .int .i64 0, .int .i64 0, .int .i64 0] 44) := ⟨_, rfl⟩
  have HW0 : Hid ((((w.alloc (.cells #[.string nm, .int .i64 ct, v, vl, .int .i64 many] 35)).alloc (.cells #[.int .i64 c] 3)).alloc (.cells #[.int .i64 n] 3)).alloc (.cells #[.int .i64 0, .int .i64 0, .int .i64 0, .int .i64 0] 44) = W0) := hW0.symm
  have hs1 : (w.alloc (.cells #[.string nm, .int .i64 ct, v, vl, .int .i64 many] 35)).heap.size = w.heap.size + 1 := by simp
  have hs2 : ((w.alloc (.cells #[.string nm, .int .i64 ct, v, vl, .int .i64 many] 35)).alloc (.cells #[.int .i64 c] 3)).heap.size = w.heap.size + 1 + 1 := by simp
  have hs3 : (((w.alloc (.cells #[.string nm, .int .i64 ct, v, vl, .int .i64 many] 35)).alloc (.cells #[.int .i64 c] 3)).alloc (.cells #[.int .i64 n] 3)).heap.size = w.heap.size + 1 + 1 + 1 := by simp
  have hb0 : Below w.heap.size w W0 := by rw [hW0]; exact ((((Below.refl _ _).alloc (Nat.le_refl _) _).alloc (by simp) _).alloc (by simp; omega) _).alloc (by simp; omega) _
  have hz0 : W0.heap.size = w.heap.size + 1 + 1 + 1 + 1 := by rw [hW0]; simp
  have hx0 : W0.heap[w.heap.size]? = some (.cells #[.string nm, .int .i64 ct, v, vl, .int .i64 many] 35) := by rw [hW0, Below.heap_alloc _ _ _ (by omega), Below.heap_alloc _ _ _ (by omega), Below.heap_alloc _ _ _ (by omega)]; exact blk_new _ _
  have hx1 : W0.heap[w.heap.size + 1]? = some (.cells #[.int .i64 c] 3) := by rw [hW0, Below.heap_alloc _ _ _ (by omega), Below.heap_alloc _ _ _ (by omega), ← hs1]; exact blk_new _ _
  have hx2 : W0.heap[w.heap.size + 1 + 1]? = some (.cells #[.int .i64 n] 3) := by rw [hW0, Below.heap_alloc _ _ _ (by omega), ← hs2]; exact blk_new _ _
  have hx3 : W0.heap[w.heap.size + 1 + 1 + 1]? = some (.cells #[.int .i64 0, .int .i64 0, .int .i64 0, .int .i64 0] 44) := by rw [hW0, ← hs3]; exact blk_new _ _
  have hans := answer1_any nm ct v vl many c n Q L W0 w.heap.size (w.heap.size + 1) (w.heap.size + 1 + 1) (w.heap.size + 1 + 1 + 1) (hr.kept hb0) (hd.kept hb0) hap hx (hE.below hb0) hl hx0 hx1 hx2 hx3
  have hen : ∀ W : World, (callFunc 67 #[.pointer (some ⟨w.heap.size, 0, none⟩), .pointer (some ⟨w.heap.size + 1, 0, none⟩), .pointer (some ⟨w.heap.size + 1 + 1, 0, none⟩), .pointer (some ⟨w.heap.size + 1 + 1 + 1, 0, none⟩)]).run Tryz.prog W = .ok (.enter 67 #[.pointer (some ⟨w.heap.size, 0, none⟩), .pointer (some ⟨w.heap.size + 1, 0, none⟩), .pointer (some ⟨w.heap.size + 1 + 1, 0, none⟩), .pointer (some ⟨w.heap.size + 1 + 1 + 1, 0, none⟩)]) W := fun W => enters Tryz.func67 (by kernel_rfl) (by kernel_rfl) _ W
  obtain ⟨A, hA⟩ : ∃ A, A = ansD nm.data.toList ct Q L many c n := ⟨_, rfl⟩
  rw [← hA] at hans ⊢
  have H3 : Hid (∀ W, Below W0.heap.size W0 W → W.heap[w.heap.size + 1 + 1 + 1]? = some (.cells #[.int .i64 0, .int .i64 0, .int .i64 0, .int .i64 0] 44)) := fun W hW => (hW.block _ (by omega)).trans hx3
  have HB0 : Hid (Below w.heap.size w W0) := hb0
  cases A with
  | none =>
    have HC : Hid (Calls Tryz.prog 55 #[.func (.func 67) #[] #[.pointer (some ⟨w.heap.size, 0, none⟩), .pointer (some ⟨w.heap.size + 1, 0, none⟩), .pointer (some ⟨w.heap.size + 1 + 1, 0, none⟩), .pointer (some ⟨w.heap.size + 1 + 1 + 1, 0, none⟩)]] W0 fun e w' => e = .returned (.bool false) ∧ Below W0.heap.size W0 w') := comes_no _ _ _ _ hen (hans.mono fun e w' h => h)
    clear hans hen hx0 hx1 hx2 hx3 hW0 hs1 hs2 hs3 hb0 hz0 hA hr hd hap hx hE hl
    go_enter Tryz.func33, Tryz.ntmps33
    go_wp2_with (rw [HW0.out])
    refine HC.out.mono ?_
    rintro e w1 ⟨rfl, hb1⟩
    have h3 := H3.out w1 hb1
    obtain ⟨y0, y1, y2, y3⟩ := don_cells h3
    have yf : ∀ j, w1.frozen? ⟨w.heap.size + 1 + 1 + 1, j, none⟩ = false := fun j => by unfold World.frozen?; rw [h3]; simp
    have f0 := yf 0
    have f1 := yf 1
    have f2 := yf 2
    have f3 := yf 3
    have H31 : Hid (w1.heap[w.heap.size + 1 + 1 + 1]? = some (.cells #[.int .i64 0, .int .i64 0, .int .i64 0, .int .i64 0] 44)) := h3
    have hbw1 := HB0.out.trans (hb1.mono HB0.out.size)
    clear yf h3
    go_wp2_with fail
    (try simp only [Exit.inBlock, Exit.then])
    refine bodyPost_ret (results_row_tmp rfl _ _ (w.heap.size + 1 + 1 + 1) 44 #[.int .i64 0, .int .i64 0, .int .i64 0, .int .i64 0] (0, 0) _ (.bool false) rfl rfl ?_ Tryz.underlying44 rfl (by kernel_rfl)) rfl ⟨rfl, ?_⟩
    · exact putD4_heap (x := zD) H31.out
    · exact putD4_below (o := 0) hbw1 (by omega) zD
  | some d =>
    have HC : Hid (Calls Tryz.prog 55 #[.func (.func 67) #[] #[.pointer (some ⟨w.heap.size, 0, none⟩), .pointer (some ⟨w.heap.size + 1, 0, none⟩), .pointer (some ⟨w.heap.size + 1 + 1, 0, none⟩), .pointer (some ⟨w.heap.size + 1 + 1 + 1, 0, none⟩)]] W0 fun e w' => e = .returned (.bool true) ∧ ∃ W1, Below W0.heap.size W0 W1 ∧ w' = putD4 W1 (w.heap.size + 1 + 1 + 1) 0 d) := comes_yes _ _ _ _ hen (hans.mono fun e w' h => h)
    clear hans hen hx0 hx1 hx2 hx3 hW0 hs1 hs2 hs3 hb0 hz0 hA hr hd hap hx hE hl
    go_enter Tryz.func33, Tryz.ntmps33
    go_wp2_with (rw [HW0.out])
    refine HC.out.mono ?_
    rintro e w1 ⟨rfl, W1, hb1, hw1⟩
    have h3 : w1.heap[w.heap.size + 1 + 1 + 1]? = some (.cells #[.int .i64 d.1, .int .i64 d.2.1, .int .i64 d.2.2.1, .int .i64 d.2.2.2] 44) := by rw [hw1]; exact putD4_heap (H3.out W1 hb1)
    obtain ⟨y0, y1, y2, y3⟩ := don_cells h3
    have yf : ∀ j, w1.frozen? ⟨w.heap.size + 1 + 1 + 1, j, none⟩ = false := fun j => by unfold World.frozen?; rw [h3]; simp
    have f0 := yf 0
    have f1 := yf 1
    have f2 := yf 2
    have f3 := yf 3
    have H31 : Hid (w1.heap[w.heap.size + 1 + 1 + 1]? = some (.cells #[.int .i64 d.1, .int .i64 d.2.1, .int .i64 d.2.2.1, .int .i64 d.2.2.2] 44)) := h3
    have hbw1 : Below w.heap.size w w1 := by rw [hw1]; exact putD4_below (o := 0) (HB0.out.trans (hb1.mono HB0.out.size)) (by omega) d
    clear yf h3 hw1 hb1
    go_wp2_with fail
    (try simp only [Exit.inBlock, Exit.then])
    refine bodyPost_ret (results_row_tmp rfl _ _ (w.heap.size + 1 + 1 + 1) 44 #[.int .i64 d.1, .int .i64 d.2.1, .int .i64 d.2.2.1, .int .i64 d.2.2.2] (0, 0) _ (.bool true) rfl rfl ?_ Tryz.underlying44 rfl (by kernel_rfl)) rfl ⟨rfl, ?_⟩
    · exact putD4_heap (x := d) H31.out
    · exact putD4_below (o := 0) hbw1 (by omega) d
end Go.Proofs.YtoobaaklklommaaGreatDoor
