import Derived.Test.YtoanloballaclaaGreatDoorZ21
import Derived.Test.YtoanloballaclaaGreatDoorZ22
import Derived.Laws.EntriesVeiled
namespace Go.Proofs.YtoanloballaclaaGreatDoor
open Go.RowKit

/-- A function value that tells of each target whether it is so. -/
def PredG (g : Nat) (lb : Array Value) (p : TgtT → Bool) (L : List TgtT) (w : World) : Prop :=
  ∀ (W : World) (x : TgtT), x ∈ L → Below w.heap.size w W → Calls Tryz.prog g (#[.agg #[.string ⟨x.1.toArray⟩, .string ⟨x.2.1.toArray⟩, .int .i64 x.2.2.1, .int .i64 x.2.2.2]] ++ lb) W fun e w' => e = .returned (.bool (p x)) ∧ Below W.heap.size W w'
theorem PredG.kept {g : Nat} {lb : Array Value} {p : TgtT → Bool} {L : List TgtT} {w w' : World} (h : PredG g lb p L w) (hb : Below w.heap.size w w') : PredG g lb p L w' := fun W x hx hW => h W x hx (hb.trans (hW.mono hb.size))
def EntG (g : Nat) : Prop := ∀ args w, (callFunc g args).run Tryz.prog w = .ok (.enter g args) w

set_option maxRecDepth 20000 in
set_option maxHeartbeats 1000000 in
theorem indexFuncG_any (g : Nat) (lb : Array Value) (p : TgtT → Bool) (v : Value) (L : List TgtT) (w : World) (hr : TgtRow w v L) (hp : Hid (PredG g lb p L w)) (eg : ∀ args w, (callFunc g args).run Tryz.prog w = .ok (.enter g args) w) :
    Calls Tryz.prog 104 #[v, .func (.func g) #[] lb] w fun e w' => (∃ i : Int, e = .returned (.int .i64 i) ∧ decide (0 ≤ i) = L.any p) ∧ Below w.heap.size w w' := by
  obtain ⟨a, cap, rfl, hcap, hmax, HROW⟩ := tgt_value hr
  clear hr
  go_enter Tryz.func104, Tryz.ntmps104
  go_wp2_with fail
  go_loopw [8] (fun i wr => ∃ k : Nat, k ≤ L.length ∧ i = .int .i64 (k : Int) ∧ Hid (∀ j, (hj : j < L.length) → j < k → p L[j] = false) ∧ Below w.heap.size w wr) (fun i _ => L.length - (intOf i).toNat)
  case atStart => exact ⟨0, Nat.zero_le _, rfl, fun j _ h => absurd h (Nat.not_lt_zero _), Below.refl _ _⟩
  case round =>
    obtain ⟨k, hk, rfl, HA, hb⟩ := hrel
    by_cases hlt : k < L.length
    · obtain ⟨b, o, ha, hbl, hcel⟩ := HROW.out (by omega)
      rw [ha]
      have hcx := (hcel k hlt).kept hb
      unfold TgtAt at hcx
      obtain ⟨c0, c1, c2, c3⟩ := hcx
      have hcall := hp.out wr _ (List.getElem_mem hlt) hb
      have HHIT : Hid (p (L[k]'hlt) = true → decide ((0 : Int) ≤ (k : Int)) = L.any p) := fun h => by
        have h1 : L.any p = true := List.any_eq_true.2 ⟨_, List.getElem_mem hlt, h⟩
        rw [h1]; simp
      have HOK : Hid (p (L[k]'hlt) = false → ∀ j, (hj : j < L.length) → j < k + 1 → p L[j] = false) := fun h j hj h1 => by
        rcases Nat.lt_or_ge j k with h' | h'
        · exact HA.out j hj h'
        · obtain rfl : j = k := by omega
          exact h
      obtain ⟨x, hxe⟩ : ∃ x, x = L[k]'hlt := ⟨_, rfl⟩
      rw [← hxe] at c0 c1 c2 c3 hcall HHIT HOK
      clear hcel hxe
      cases hR : p x with
      | true =>
        have HR := HHIT.out hR
        rw [hR] at hcall
        go_wp2_with (go_at_fn g; refine hcall.mono ?_; rintro e w' ⟨rfl, hb'⟩)
        go_ret
        exact ⟨⟨(k : Int), rfl, HR⟩, hb.trans (hb'.mono hb.size)⟩
      | false =>
        have HR := HOK.out hR
        rw [hR] at hcall
        go_wp2_with (go_at_fn g; refine hcall.mono ?_; rintro e w' ⟨rfl, hb'⟩)
        go_roundw
        case rel => exact ⟨k + 1, by omega, by go_num, HR, hb.trans (hb'.mono hb.size)⟩
        case measure => simp [intOf]; omega
    · have HR : Hid (L.any p = false) := by
        show L.any p = false
        rw [List.any_eq_false]
        intro x hx
        obtain ⟨j, hj, rfl⟩ := List.getElem_of_mem hx
        rw [HA.out j hj (by omega)]; simp
      go_wp2_with fail
      go_ret
      exact ⟨⟨-1, rfl, by rw [HR.out]; rfl⟩, hb⟩

set_option maxRecDepth 20000 in
set_option maxHeartbeats 400000 in
theorem containsFuncG_any (g : Nat) (lb : Array Value) (p : TgtT → Bool) (v : Value) (L : List TgtT) (w : World) (hr : TgtRow w v L) (hp : Hid (PredG g lb p L w)) (eg : ∀ args w, (callFunc g args).run Tryz.prog w = .ok (.enter g args) w) :
    Calls Tryz.prog 84 #[v, .func (.func g) #[] lb] w fun e w' => e = .returned (.bool (L.any p)) ∧ Below w.heap.size w w' := by
  have HC : Hid (Calls Tryz.prog 104 #[v, .func (.func g) #[] lb] w fun e w' => (∃ i : Int, e = .returned (.int .i64 i) ∧ decide (0 ≤ i) = L.any p) ∧ Below w.heap.size w w') := indexFuncG_any g lb p v L w hr hp eg
  obtain ⟨a, cap, rfl, hcap, hmax, _⟩ := hr
  clear eg hp
  go_enter Tryz.func84, Tryz.ntmps84
  go_wp2_with fail
  refine HC.out.mono ?_
  rintro e w1 ⟨⟨i, rfl, hi⟩, hb⟩
  have HI : Hid (decide (0 ≤ i) = L.any p) := hi
  clear hi
  go_wp2_with fail
  go_ret
  exact ⟨ret_bool HI.out, hb⟩

/-- A target that is well. -/
def wellB (H : List HosT) (x : TgtT) : Bool := match upV H x.1 with
  | none => true
  | some h => h.2.1
theorem well_is {ri fa : Int} {H : List HosT} (hg : goodH ri fa H = true) (x : TgtT) : wellB H x = ((upO ri fa H x.1).1 || !(upO ri fa H x.1).2) := by
  unfold wellB upO
  rw [hg]
  cases upV H x.1 with
  | none => rfl
  | some h => simp

set_option maxRecDepth 20000 in
set_option maxHeartbeats 1000000 in
theorem well1_any (xh xd : List UInt8) (xg xk : Int) (ri fa : Int) (hv : Value) (H : List HosT) (g : Nat) (w : World) (hcel : w.cell? ⟨g, 0, none⟩ = some (.int .i64 ri) ∧ w.cell? ⟨g, 1, none⟩ = some (.int .i64 fa) ∧ w.cell? ⟨g, 2, none⟩ = some hv) (hr : HstRow w hv H) (hE : Env w) (hgd : goodH ri fa H = true) :
    Calls Tryz.prog 93 #[.agg #[.string ⟨xh.toArray⟩, .string ⟨xd.toArray⟩, .int .i64 xg, .int .i64 xk], .pointer (some ⟨g, 0, none⟩)] w fun e w' => e = .returned (.bool (wellB H (xh, xd, xg, xk))) ∧ Below w.heap.size w w' := by
  have hgl : g < w.heap.size := World.block_lt_of_cell? _ _ hcel.1
  have HIU : Hid (∀ W, Below w.heap.size w W → Calls Tryz.prog 94 #[HeaV ri fa hv, .string ⟨xh.toArray⟩] W fun e w' => e = .returned (.tuple #[.bool (upO ri fa H xh).1, .bool (upO ri fa H xh).2]) ∧ Below W.heap.size W w') := fun W hW => iIsUp_any ri fa xh hv H W (hr.kept hW) (hE.below hW)
  have HWB : Hid (wellB H (xh, xd, xg, xk) = ((upO ri fa H xh).1 || !(upO ri fa H xh).2)) := well_is hgd _
  have hb0 : Below w.heap.size w (w.alloc (.cells #[.string ⟨xh.toArray⟩, .string ⟨xd.toArray⟩, .int .i64 xg, .int .i64 xk] 79)) := (Below.refl _ _).alloc (Nat.le_refl _) _
  obtain ⟨c0, c1, c2⟩ := hcel
  rw [← hb0.cell (p := ⟨g, 0, none⟩) hgl] at c0
  rw [← hb0.cell (p := ⟨g, 1, none⟩) hgl] at c1
  rw [← hb0.cell (p := ⟨g, 2, none⟩) hgl] at c2
  obtain ⟨a, cap, rfl, hcap, hmax, _⟩ := hst_value hr
  obtain ⟨u, hu⟩ : ∃ u, u = (upO ri fa H xh).1 := ⟨_, rfl⟩
  obtain ⟨kn, hkn⟩ : ∃ kn, kn = (upO ri fa H xh).2 := ⟨_, rfl⟩
  rw [← hu, ← hkn] at HIU HWB
  rw [HWB.out]
  unfold HeaV at HIU
  clear hu hkn HWB hgd hr
  cases u
  · cases kn
    · go_enter Tryz.func93, Tryz.ntmps93
      go_wp2_with fail
      refine (HIU.out _ hb0).mono ?_
      rintro e w1 ⟨rfl, hb1⟩
      have hbw := (box4 hb1).2.2.2.2
      go_wp2_with fail
      go_ret
      exact ⟨rfl, hbw⟩
    · go_enter Tryz.func93, Tryz.ntmps93
      go_wp2_with fail
      refine (HIU.out _ hb0).mono ?_
      rintro e w1 ⟨rfl, hb1⟩
      have hbw := (box4 hb1).2.2.2.2
      go_wp2_with fail
      go_ret
      exact ⟨rfl, hbw⟩
  · go_enter Tryz.func93, Tryz.ntmps93
    go_wp2_with fail
    refine (HIU.out _ hb0).mono ?_
    rintro e w1 ⟨rfl, hb1⟩
    have hbw := (box4 hb1).2.2.2.2
    go_wp2_with fail
    go_ret
    exact ⟨by simp, hbw⟩

set_option maxRecDepth 20000 in
set_option maxHeartbeats 400000 in
theorem who1_any (xh xd : List UInt8) (xg xk : Int) (w : World) :
    Calls Tryz.prog 83 #[.agg #[.string ⟨xh.toArray⟩, .string ⟨xd.toArray⟩, .int .i64 xg, .int .i64 xk]] w fun e w' => e = .returned (.bool true) ∧ Below w.heap.size w w' := by
  have hb0 : Below w.heap.size w (w.alloc (.cells #[.string ⟨xh.toArray⟩, .string ⟨xd.toArray⟩, .int .i64 xg, .int .i64 xk] 79)) := (Below.refl _ _).alloc (Nat.le_refl _) _
  go_enter Tryz.func83, Tryz.ntmps83
  go_wp2_with fail
  go_ret
  exact ⟨rfl, hb0⟩

set_option maxRecDepth 20000 in
set_option maxHeartbeats 1000000 in
theorem inGroup1_any (g : Nat) (lb : Array Value) (p : TgtT → Bool) (L : List TgtT) (x : TgtT) (hx : x ∈ L) (grp : Int) (b1 b2 : Nat) (w : World) (h1 : w.cell? ⟨b1, 0, none⟩ = some (.int .i64 grp)) (h2 : w.cell? ⟨b2, 0, none⟩ = some (.func (.func g) #[] lb)) (hp : PredG g lb p L w) (eg : ∀ args w, (callFunc g args).run Tryz.prog w = .ok (.enter g args) w) :
    Calls Tryz.prog 95 #[.agg #[.string ⟨x.1.toArray⟩, .string ⟨x.2.1.toArray⟩, .int .i64 x.2.2.1, .int .i64 x.2.2.2], .pointer (some ⟨b1, 0, none⟩), .pointer (some ⟨b2, 0, none⟩)] w fun e w' => e = .returned (.bool (inG p grp x)) ∧ Below w.heap.size w w' := by
  have hl1 : b1 < w.heap.size := World.block_lt_of_cell? _ _ h1
  have hl2 : b2 < w.heap.size := World.block_lt_of_cell? _ _ h2
  have hb0 : Below w.heap.size w (w.alloc (.cells #[.string ⟨x.1.toArray⟩, .string ⟨x.2.1.toArray⟩, .int .i64 x.2.2.1, .int .i64 x.2.2.2] 79)) := (Below.refl _ _).alloc (Nat.le_refl _) _
  rw [← hb0.cell (p := ⟨b1, 0, none⟩) hl1] at h1
  rw [← hb0.cell (p := ⟨b2, 0, none⟩) hl2] at h2
  have hcall := hp _ x hx hb0
  have HIN : Hid (inG p grp x = (x.2.2.1 == grp && p x)) := rfl
  rw [HIN.out]
  obtain ⟨q, hq⟩ : ∃ q, q = p x := ⟨_, rfl⟩
  rw [← hq] at hcall ⊢
  clear hq hp HIN hx
  obtain ⟨xh, xd, xg, xk⟩ := x
  simp only at hcall h1 h2 hb0 ⊢
  have HCALL : Hid (Calls Tryz.prog g (#[.agg #[.string ⟨xh.toArray⟩, .string ⟨xd.toArray⟩, .int .i64 xg, .int .i64 xk]] ++ lb) (w.alloc (.cells #[.string ⟨xh.toArray⟩, .string ⟨xd.toArray⟩, .int .i64 xg, .int .i64 xk] 79)) fun e w' => e = .returned (.bool q) ∧ Below (w.alloc (.cells #[.string ⟨xh.toArray⟩, .string ⟨xd.toArray⟩, .int .i64 xg, .int .i64 xk] 79)).heap.size (w.alloc (.cells #[.string ⟨xh.toArray⟩, .string ⟨xd.toArray⟩, .int .i64 xg, .int .i64 xk] 79)) w') := hcall
  clear hcall
  by_cases hgg : xg = grp
  · subst hgg
    have e1 : (xg == xg) = true := by simp
    rw [e1]
    go_enter Tryz.func95, Tryz.ntmps95
    go_wp2_with (go_at_fn g; refine HCALL.out.mono ?_; rintro e w' ⟨rfl, hb'⟩)
    go_ret
    exact ⟨by simp, (tgt_below hb').2⟩
  · have e1 : (xg == grp) = false := by simpa using hgg
    rw [e1]
    clear HCALL
    go_enter Tryz.func95, Tryz.ntmps95
    go_wp2_with fail
    go_ret
    exact ⟨by simp, hb0⟩

set_option maxRecDepth 20000 in
set_option maxHeartbeats 1000000 in
theorem inGroup_any (g : Nat) (lb : Array Value) (p : TgtT → Bool) (L : List TgtT) (grp : Int) (w : World) (hp : Hid (PredG g lb p L w)) (eg : ∀ args w, (callFunc g args).run Tryz.prog w = .ok (.enter g args) w) :
    Calls Tryz.prog 70 #[.agg #[.func (.func g) #[] lb], .int .i64 grp] w fun e w' => (∃ lb', e = .returned (.agg #[.func (.func 95) #[] lb']) ∧ PredG 95 lb' (inG p grp) L w') ∧ Below w.heap.size w w' := by
  obtain ⟨W3, hW3⟩ : ∃ W3, W3 = ((w.alloc (.cells #[.func (.func g) #[] lb] 90)).alloc (.cells #[.int .i64 grp] 3)).alloc (.cells #[.func (.func 95) #[] #[.pointer (some ⟨w.heap.size + 1, 0, none⟩), .pointer (some ⟨w.heap.size, 0, none⟩)]] 90) := ⟨_, rfl⟩
  have hb3 : Below w.heap.size w W3 := by rw [hW3]; exact (((Below.refl w.heap.size w).alloc (Nat.le_refl _) _).alloc (by simp) _).alloc (by simp; omega) _
  have HK : Hid (W3.heap[w.heap.size]? = some (.cells #[.func (.func g) #[] lb] 90) ∧ W3.heap[w.heap.size + 1]? = some (.cells #[.int .i64 grp] 3) ∧ W3.heap[w.heap.size + 1 + 1]? = some (.cells #[.func (.func 95) #[] #[.pointer (some ⟨w.heap.size + 1, 0, none⟩), .pointer (some ⟨w.heap.size, 0, none⟩)]] 90)) := by
    have h := tgt_below3 (W := W3) (w := w) (by rw [hW3]; exact Below.refl _ _)
    exact ⟨h.1, h.2.1, h.2.2.1⟩
  have HP : Hid (PredG 95 #[.pointer (some ⟨w.heap.size + 1, 0, none⟩), .pointer (some ⟨w.heap.size, 0, none⟩)] (inG p grp) L W3) := fun W x hx hW => by
    have k1 := (hW.block (w.heap.size + 1) (Array.getElem?_eq_some_iff.1 HK.out.2.1).1).trans HK.out.2.1
    have k2 := (hW.block w.heap.size (Array.getElem?_eq_some_iff.1 HK.out.1).1).trans HK.out.1
    exact inGroup1_any g lb p L x hx grp (w.heap.size + 1) w.heap.size W (by unfold World.cell?; rw [k1]; rfl) (by unfold World.cell?; rw [k2]; rfl) (hp.out.kept (hb3.trans (hW.mono hb3.size))) eg
  have HW3 : Hid (((w.alloc (.cells #[.func (.func g) #[] lb] 90)).alloc (.cells #[.int .i64 grp] 3)).alloc (.cells #[.func (.func 95) #[] #[.pointer (some ⟨w.heap.size + 1, 0, none⟩), .pointer (some ⟨w.heap.size, 0, none⟩)]] 90) = W3) := hW3.symm
  clear hW3 hp eg
  go_enter Tryz.func70, Tryz.ntmps70
  go_wp2_with fail
  (try simp only [Exit.inBlock, Exit.then])
  rw [HW3.out]
  refine bodyPost_ret (results_cell_row rfl _ _ (w.heap.size + 1 + 1) 90 #[.func (.func 95) #[] #[.pointer (some ⟨w.heap.size + 1, 0, none⟩), .pointer (some ⟨w.heap.size, 0, none⟩)]] (0, 0) _ rfl ?_ Tryz.underlying90 rfl (by kernel_rfl)) rfl ⟨⟨_, rfl, HP.out⟩, hb3⟩
  exact HK.out.2.2

set_option maxRecDepth 20000 in
set_option maxHeartbeats 400000 in
theorem whoever_any (L : List TgtT) (w : World) :
    Calls Tryz.prog 56 #[] w fun e w' => (e = .returned (.agg #[.func (.func 83) #[] #[]]) ∧ PredG 83 #[] allT L w') ∧ Below w.heap.size w w' := by
  have hb0 : Below w.heap.size w (w.alloc (.cells #[.func (.func 83) #[] #[]] 90)) := (Below.refl _ _).alloc (Nat.le_refl _) _
  go_enter Tryz.func56, Tryz.ntmps56
  go_wp2_with fail
  (try simp only [Exit.inBlock, Exit.then])
  refine bodyPost_ret (results_cell_row rfl _ _ w.heap.size 90 #[.func (.func 83) #[] #[]] (0, 0) _ rfl (tgt_new _ _) Tryz.underlying90 rfl (by kernel_rfl)) rfl ⟨⟨rfl, fun W x _ _ => ?_⟩, hb0⟩
  exact who1_any x.1 x.2.1 x.2.2.1 x.2.2.2 W

set_option maxRecDepth 20000 in
set_option maxHeartbeats 400000 in
theorem wellBy_any (ri fa : Int) (hv : Value) (H : List HosT) (L : List TgtT) (w : World) (hr : HstRow w hv H) (hE : Env w) (hgd : Hid (goodH ri fa H = true)) :
    Calls Tryz.prog 69 #[HeaV ri fa hv] w fun e w' => (∃ lb, e = .returned (.agg #[.func (.func 93) #[] lb]) ∧ PredG 93 lb (wellB H) L w') ∧ Below w.heap.size w w' := by
  obtain ⟨W3, hW3⟩ : ∃ W3, W3 = (w.alloc (.cells #[.int .i64 ri, .int .i64 fa, hv] 38)).alloc (.cells #[.func (.func 93) #[] #[.pointer (some ⟨w.heap.size, 0, none⟩)]] 90) := ⟨_, rfl⟩
  have hb3 : Below w.heap.size w W3 := by rw [hW3]; exact ((Below.refl w.heap.size w).alloc (Nat.le_refl _) _).alloc (by simp) _
  have HK : Hid (W3.heap[w.heap.size]? = some (.cells #[.int .i64 ri, .int .i64 fa, hv] 38) ∧ W3.heap[w.heap.size + 1]? = some (.cells #[.func (.func 93) #[] #[.pointer (some ⟨w.heap.size, 0, none⟩)]] 90)) := by
    have h := tgt_below2 (W := W3) (w := w) (by rw [hW3]; exact Below.refl _ _)
    exact ⟨h.1, h.2.1⟩
  have HP : Hid (PredG 93 #[.pointer (some ⟨w.heap.size, 0, none⟩)] (wellB H) L W3) := fun W x hx hW => by
    have k1 := (hW.block w.heap.size (Array.getElem?_eq_some_iff.1 HK.out.1).1).trans HK.out.1
    exact well1_any x.1 x.2.1 x.2.2.1 x.2.2.2 ri fa hv H w.heap.size W (hst_cells k1).1 (hr.kept (hb3.trans (hW.mono hb3.size))) (hE.below (hb3.trans (hW.mono hb3.size))) hgd.out
  have HW3 : Hid ((w.alloc (.cells #[.int .i64 ri, .int .i64 fa, hv] 38)).alloc (.cells #[.func (.func 93) #[] #[.pointer (some ⟨w.heap.size, 0, none⟩)]] 90) = W3) := hW3.symm
  unfold HeaV
  obtain ⟨a, cap, rfl, hcap, hmax, _⟩ := hst_value hr
  clear hW3 hr hgd
  go_enter Tryz.func69, Tryz.ntmps69
  go_wp2_with fail
  (try simp only [Exit.inBlock, Exit.then])
  rw [HW3.out]
  refine bodyPost_ret (results_cell_row rfl _ _ (w.heap.size + 1) 90 #[.func (.func 93) #[] #[.pointer (some ⟨w.heap.size, 0, none⟩)]] (0, 0) _ rfl HK.out.2 Tryz.underlying90 rfl (by kernel_rfl)) rfl ⟨⟨_, rfl, HP.out⟩, hb3⟩
end Go.Proofs.YtoanloballaclaaGreatDoor
