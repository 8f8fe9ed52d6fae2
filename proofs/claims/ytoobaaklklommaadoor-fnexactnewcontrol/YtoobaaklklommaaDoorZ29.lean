import Derived.Test.YtoobaaklklommaaDoorZ23
import Derived.Test.YtoobaaklklommaaDoorZ18
import Derived.Test.YtoobaaklklommaaDoorZ28
namespace Go.Proofs.YtoobaaklklommaaDoor
open Go.RowKit

/-! A control of a new zone. -/
def CRes (w' : World) (ok : Bool) (nm : ByteArray) (ct : Int) (L : List (List UInt8 × Int × Int × List UInt8)) (e : Ending) : Prop := ∃ v, e = .returned (.tuple #[CtlV nm ct v (.slice none 0 0) 0, .bool ok]) ∧ RRow w' v L
def COwn (w' : World) (base : Nat) (ok : Bool) (nm : ByteArray) (ct : Int) (L : List (List UInt8 × Int × Int × List UInt8)) (e : Ending) : Prop := ∃ v, e = .returned (.tuple #[CtlV nm ct v (.slice none 0 0) 0, .bool ok]) ∧ OwnQ w' base v L
theorem ownq_nilC (w : World) (base : Nat) : OwnQ w base (.slice none 0 0) [] := by
  unfold OwnQ; exact .inl ⟨rfl, rfl⟩
/-- A row of records does not lie in a box of an empty control. -/
theorem RRow.apartC5 {W W' : World} {g : Nat} {v : Value} {L : List (List UInt8 × Int × Int × List UInt8)} (hr : RRow W v L) (hk : W.heap[g]? = some (.cells #[.string ⟨#[]⟩, .int .i64 0, .slice none 0 0, .slice none 0 0, .int .i64 0] 27)) (hkpt : Kpt W W' (fun k => k = g)) : RRow W' v L := by
  refine hr.kpt hkpt (fun b o n c e hne h => ?_)
  subst h
  obtain ⟨a, cap, e2, _, _, hrow⟩ := hr
  rcases hrow with h0 | ⟨b', o', e3, _, hcel⟩
  · exact hne h0
  · rw [e2, e3] at e
    injection e with e4 _ _
    injection e4 with e5
    injection e5 with e6 e7 _
    subst e6
    have hl : 0 < L.length := List.length_pos_iff.2 hne
    have h1 := (hcel 0 hl).1
    have h3 := (hcel 0 hl).2.2.1
    obtain ⟨k, hkk⟩ : ∃ k, k = o' + 0 * 4 := ⟨_, rfl⟩
    rw [← hkk] at h1 h3
    unfold World.cell? at h1 h3
    rw [hk] at h1 h3
    match k, h1, h3 with
    | 0, _, h3 => simp at h3
    | 1, h1, _ => simp at h1
    | 2, h1, _ => simp at h1
    | 3, h1, _ => simp at h1
    | 4, h1, _ => simp at h1
    | k + 5, h1, _ => simp at h1
set_option maxRecDepth 20000 in
set_option maxHeartbeats 400000 in
theorem markDone_nil (K : Nat) (w : World) : Calls Tryd.prog 16 #[.slice none 0 0, .int .i64 (K : Int)] w fun e w' => e = .returned (.int .i64 (K : Int)) ∧ w' = w := by
  go_enter Tryd.func16, Tryd.ntmps16
  go_wp2_with fail
  go_loopw [1, 5] (fun q i wr => (q = .int .i64 (K : Int) ∧ i = .int .i64 0) ∧ wr = w) (fun _ _ _ => 0)
  case atStart => exact ⟨⟨rfl, rfl⟩, rfl⟩
  case round =>
    obtain ⟨⟨rfl, rfl⟩, rfl⟩ := hrel
    go_wp2_with fail
    go_ret
    exact ⟨rfl, rfl⟩
set_option maxRecDepth 20000 in
set_option maxHeartbeats 400000 in
theorem heldDone_nil (K : Nat) (w : World) : Calls Tryd.prog 18 #[.slice none 0 0, .int .i64 (K : Int)] w fun e w' => e = .returned (.int .i64 (K : Int)) ∧ w' = w := by
  go_enter Tryd.func18, Tryd.ntmps18
  go_wp2_with fail
  go_loopw [1, 5] (fun q i wr => (q = .int .i64 (K : Int) ∧ i = .int .i64 0) ∧ wr = w) (fun _ _ _ => 0)
  case atStart => exact ⟨⟨rfl, rfl⟩, rfl⟩
  case round =>
    obtain ⟨⟨rfl, rfl⟩, rfl⟩ := hrel
    go_wp2_with fail
    go_ret
    exact ⟨rfl, rfl⟩
set_option maxRecDepth 20000 in
set_option maxHeartbeats 2000000 in
theorem markCtl_nil (nm : ByteArray) (ct many : Int) (v : Value) (L : List (List UInt8 × Int × Int × List UInt8)) (base K : Nat) (w : World) (ha : OwnQ w base v L) (hA : L.length ≤ 1048576) (hK0 : 0 < K) (hK : K ≤ 1048576) :
    Calls Tryd.prog 7 #[CtlV nm ct v (.slice none 0 0) many, .int .i64 (K : Int)] w fun e w' => e = .returned (.int .i64 ((K : Int) + 4 * (L.length : Int))) ∧ OwnQ w' base v (mrks K L.length) ∧ Kpt w w' (fun k => v.ownBlock = some k) := by
  unfold CtlV
  obtain ⟨aa, ca, hva, hca⟩ := ha.shape
  subst hva
  obtain ⟨m, hm⟩ : ∃ m : Nat, m = K + 4 * L.length := ⟨_, rfl⟩
  have em : (K : Int) + 4 * (L.length : Int) = (m : Int) := by omega
  have HMZ : Hid (∀ W, Below w.heap.size w W → Calls Tryd.prog 15 #[.agg #[.string nm, .int .i64 ct, .slice aa L.length ca], .int .i64 (K : Int)] W fun e w' => e = .returned (.int .i64 (m : Int)) ∧ OwnQ w' base (.slice aa L.length ca) (mrks K L.length) ∧ Kpt W w' (fun k => (Value.slice aa L.length ca).ownBlock = some k)) := fun W hW => by
    have h := markZone_any nm ct (.slice aa L.length ca) L base K W (ha.kept hW) hA hK0 (by omega)
    rw [em] at h
    exact h
  have HMD : Hid (∀ W, Calls Tryd.prog 16 #[.slice none 0 0, .int .i64 (m : Int)] W fun e w' => e = .returned (.int .i64 (m : Int)) ∧ w' = W) := fun W => markDone_nil m W
  have HLT : Hid (∀ k, (Value.slice aa L.length ca).ownBlock = some k → k < w.heap.size) := fun k h => (ha.lt k h).2
  rw [em]
  clear ha hm em hA
  go_enter Tryd.func7, Tryd.ntmps7
  go_wp2_with fail
  have hb0 : Below w.heap.size w (w.alloc (.cells #[.string nm, .int .i64 ct, .slice aa L.length ca, .slice none 0 0, .int .i64 many] 27)) := (Below.refl _ _).alloc (Nat.le_refl _) _
  refine (HMZ.out _ hb0).mono ?_
  rintro e w1 ⟨rfl, ho1, hk1⟩
  have hxb : w1.heap[w.heap.size]? = some (.cells #[.string nm, .int .i64 ct, .slice aa L.length ca, .slice none 0 0, .int .i64 many] 27) := (hk1.block w.heap.size (by simp) (fun h => by have := HLT.out _ h; omega)).trans (blk_new _ _)
  obtain ⟨⟨c0, c1, c2, c3, c4⟩, _⟩ := ctl_cells hxb
  have HK1 : Hid (Kpt w w1 (fun k => (Value.slice aa L.length ca).ownBlock = some k)) := (below_kpt0 hb0 _).trans hk1
  have HO1 : Hid (OwnQ w1 base (.slice aa L.length ca) (mrks K L.length)) := ho1
  clear ho1 hk1 hxb hb0
  go_wp2_with fail
  refine (HMD.out _).mono ?_
  rintro e w2 ⟨rfl, rfl⟩
  go_wp2_with fail
  go_ret
  exact ⟨rfl, HO1.out, HK1.out⟩
set_option maxRecDepth 20000 in
set_option maxHeartbeats 2000000 in
theorem heldCtl_nil (nm : ByteArray) (ct many : Int) (v : Value) (n K : Nat) (w : World) (ha : RRow w v (mrks K n)) (hn : n ≤ 1048576) (hK0 : 0 < K) (hK : K ≤ 1048576) :
    Calls Tryd.prog 8 #[CtlV nm ct v (.slice none 0 0) many, .int .i64 (K : Int)] w fun e w' => e = .returned (.int .i64 ((K : Int) + 4 * (n : Int))) ∧ Below w.heap.size w w' := by
  unfold CtlV
  obtain ⟨aa, ca, hva, _, hca, _⟩ := id ha
  rw [mrks_length] at hva
  subst hva
  obtain ⟨m, hm⟩ : ∃ m : Nat, m = K + 4 * n := ⟨_, rfl⟩
  have em : (K : Int) + 4 * (n : Int) = (m : Int) := by omega
  have HMZ : Hid (∀ W, Below w.heap.size w W → Calls Tryd.prog 17 #[.agg #[.string nm, .int .i64 ct, .slice aa n ca], .int .i64 (K : Int)] W fun e w' => e = .returned (.int .i64 (m : Int)) ∧ Below W.heap.size W w') := fun W hW => by
    have h := heldZone_any nm ct (.slice aa n ca) n K W (ha.kept hW) hn hK0 hK
    rw [em] at h
    exact h
  have HMD : Hid (∀ W, Calls Tryd.prog 18 #[.slice none 0 0, .int .i64 (m : Int)] W fun e w' => e = .returned (.int .i64 (m : Int)) ∧ w' = W) := fun W => heldDone_nil m W
  have hm0 : ¬ (m : Int) < 0 := by omega
  rw [em]
  clear ha hm em hn
  go_enter Tryd.func8, Tryd.ntmps8
  go_wp2_with fail
  refine (HMZ.out _ ((Below.refl _ _).alloc (Nat.le_refl _) _)).mono ?_
  rintro e w1 ⟨rfl, hb1⟩
  obtain ⟨hxb, hbw⟩ := box5 hb1
  obtain ⟨⟨c0, c1, c2, c3, c4⟩, _⟩ := ctl_cells hxb
  clear hb1 hxb
  go_wp2_with fail
  refine (HMD.out _).mono ?_
  rintro e w2 ⟨rfl, rfl⟩
  go_wp2_with fail
  go_ret
  exact ⟨rfl, hbw⟩
set_option maxRecDepth 20000 in
set_option maxHeartbeats 2000000 in
theorem newControl_any (s : ByteArray) (w : World) (hs : s.size ≤ 1048576) (hE : EnvT w) :
    Calls Tryd.prog 12 #[.string s] w fun e w' => (if apexB s.data.toList = true then (∃ v, e = .returned (CtlV (newN s) 0 v (.slice none 0 0) 0) ∧ OwnQ w' w.heap.size v (newR s)) else e = .panicked RfC) ∧ Below w.heap.size w w' := by
  obtain ⟨W0, hW0⟩ : ∃ W0, W0 = w.alloc (.cells #[.string ⟨#[]⟩, .int .i64 0, .slice none 0 0, .slice none 0 0, .int .i64 0] 27) := ⟨_, rfl⟩
  have HW0 : Hid (w.alloc (.cells #[.string ⟨#[]⟩, .int .i64 0, .slice none 0 0, .slice none 0 0, .int .i64 0] 27) = W0) := hW0.symm
  have hb0 : Below w.heap.size w W0 := by rw [hW0]; exact (Below.refl _ _).alloc (Nat.le_refl _) _
  have hz0 : w.heap.size < W0.heap.size := by rw [hW0]; simp
  have hx0 : W0.heap[w.heap.size]? = some (.cells #[.string ⟨#[]⟩, .int .i64 0, .slice none 0 0, .slice none 0 0, .int .i64 0] 27) := by rw [hW0]; exact blk_new _ _
  have HNZ : Hid (Calls Tryd.prog 21 #[.string s] W0 fun e w' => ZOwn w' W0.heap.size (apexB s.data.toList) (newN s) 0 (newR s) e ∧ Below W0.heap.size W0 w') := iNewZone_any s W0 hs (hE.below hb0)
  have HYES : Hid (∀ W, Calls Tryd.prog 22 #[.bool true] W fun e w' => e = .returned (.tuple #[]) ∧ w' = W) := fun W => insist_yes W
  have HNO : Hid (∀ W, Calls Tryd.prog 22 #[.bool false] W fun e w' => e = .panicked RfC ∧ w' = W) := fun W => insist_no W
  obtain ⟨ok, hok⟩ : ∃ ok, ok = apexB s.data.toList := ⟨_, rfl⟩
  rw [← hok] at HNZ ⊢
  obtain ⟨nm, hnm⟩ : ∃ nm, nm = newN s := ⟨_, rfl⟩
  obtain ⟨L, hL⟩ : ∃ L, L = newR s := ⟨_, rfl⟩
  rw [← hnm, ← hL] at HNZ ⊢
  unfold ZOwn ZonV at HNZ
  have HX : Hid (∀ W, Below W0.heap.size W0 W → W.heap[w.heap.size]? = some (.cells #[.string ⟨#[]⟩, .int .i64 0, .slice none 0 0, .slice none 0 0, .int .i64 0] 27)) := fun W hW => (hW.block _ hz0).trans hx0
  have HB0 : Hid (Below w.heap.size w W0) := hb0
  have HZ0 : Hid (w.heap.size < W0.heap.size) := hz0
  clear hW0 hx0 hz0 hb0 hok hnm hL hE hs
  go_enter Tryd.func12, Tryd.ntmps12
  go_wp2_with (rw [HW0.out])
  refine HNZ.out.mono ?_
  rintro e w1 ⟨⟨v, rfl, ho1⟩, hb1⟩
  obtain ⟨aa, ca, hva, hca⟩ := ho1.shape
  subst hva
  obtain ⟨W1, hW1⟩ : ∃ W1, W1 = w1.alloc (.cells #[.string nm, .int .i64 0, .slice aa L.length ca] 24) := ⟨_, rfl⟩
  have HW1 : Hid (w1.alloc (.cells #[.string nm, .int .i64 0, .slice aa L.length ca] 24) = W1) := hW1.symm
  have hb11 : Below w1.heap.size w1 W1 := by rw [hW1]; exact (Below.refl _ _).alloc (Nat.le_refl _) _
  have hz1 : W1.heap[w1.heap.size]? = some (.cells #[.string nm, .int .i64 0, .slice aa L.length ca] 24) := by rw [hW1]; exact blk_new _ _
  obtain ⟨⟨z0, z1, z2⟩, _⟩ := zon_cells hz1
  have hx1 := HX.out W1 (hb1.trans (hb11.mono hb1.size))
  obtain ⟨⟨c0, c1, c2, c3, c4⟩, cf⟩ := ctl_cells hx1
  have f0 := cf 0
  have f1 := cf 1
  have f2 := cf 2
  have f3 := cf 3
  have f4 := cf 4
  have HX1 : Hid (W1.heap[w.heap.size]? = some (.cells #[.string ⟨#[]⟩, .int .i64 0, .slice none 0 0, .slice none 0 0, .int .i64 0] 27)) := hx1
  have HO1 : Hid (OwnQ W1 W0.heap.size (.slice aa L.length ca) L) := ho1.kept hb11
  have HBW1 : Hid (Below w.heap.size w W1) := HB0.out.trans ((hb1.trans (hb11.mono hb1.size)).mono HB0.out.size)
  clear ho1 hb1 hb11 hz1 hx1 cf hW1
  cases ok with
  | false =>
    go_wp2_with (rw [HW1.out])
    refine (HNO.out _).mono ?_
    rintro e w2 ⟨rfl, rfl⟩
    exact ⟨rfl, by simp, HBW1.out⟩
  | true =>
    go_wp2_with (rw [HW1.out])
    refine (HYES.out _).mono ?_
    rintro e w2 ⟨rfl, rfl⟩
    go_wp2_with fail
    (try simp only [Exit.inBlock, Exit.then])
    refine bodyPost_ret (results_cell_row rfl _ _ w.heap.size 27 #[.string nm, .int .i64 0, .slice aa L.length ca, .slice none 0 0, .int .i64 0] (0, 0) _ rfl ?_ Tryd.underlying27 rfl (by kernel_rfl)) rfl ⟨?_, ?_⟩
    · exact put5_heap HX1.out
    · exact ⟨_, rfl, ((HO1.out.kpt (kpt_put5 _ w.heap.size _ _ _ _ _ (S := fun k => k = w.heap.size) rfl) (fun g hg e => by have := (HO1.out.lt g hg).1; have := HZ0.out; omega))).base (Nat.le_of_lt HZ0.out)⟩
    · exact put5_below HBW1.out (Nat.le_refl _) _ _ _ _ _
set_option maxRecDepth 20000 in
set_option maxHeartbeats 2000000 in
theorem newCtl1_any (s : ByteArray) (w : World) (b0 b1 : Nat) (hs : s.size ≤ 1048576) (hE : EnvT w) (h0 : w.heap[b0]? = some (.cells #[.string s] 9)) (h1 : w.heap[b1]? = some (.cells #[.string ⟨#[]⟩, .int .i64 0, .slice none 0 0, .slice none 0 0, .int .i64 0] 27)) :
    Calls Tryd.prog 11 #[.pointer (some ⟨b0, 0, none⟩), .pointer (some ⟨b1, 0, none⟩)] w fun e w' => if apexB s.data.toList = true then (e = .returned (.tuple #[]) ∧ ∃ W1 v, Below w.heap.size w W1 ∧ OwnQ W1 w.heap.size v (newR s) ∧ w' = put5 W1 b1 (.string (newN s)) (.int .i64 0) v (.slice none 0 0) (.int .i64 0)) else (e = .panicked RfC ∧ Below w.heap.size w w') := by
  have HNC : Hid (Calls Tryd.prog 12 #[.string s] w fun e w' => (if apexB s.data.toList = true then (∃ v, e = .returned (CtlV (newN s) 0 v (.slice none 0 0) 0) ∧ OwnQ w' w.heap.size v (newR s)) else e = .panicked RfC) ∧ Below w.heap.size w w') := newControl_any s w hs hE
  have c0 : w.cell? ⟨b0, 0, none⟩ = some (.string s) := by unfold World.cell?; rw [h0]; rfl
  have HX : Hid (∀ W, Below w.heap.size w W → W.heap[b1]? = some (.cells #[.string ⟨#[]⟩, .int .i64 0, .slice none 0 0, .slice none 0 0, .int .i64 0] 27)) := fun W hW => (hW.block b1 ((Array.getElem?_eq_some_iff.1 h1).1)).trans h1
  obtain ⟨ok, hok⟩ : ∃ ok, ok = apexB s.data.toList := ⟨_, rfl⟩
  rw [← hok] at HNC ⊢
  obtain ⟨nm, hnm⟩ : ∃ nm, nm = newN s := ⟨_, rfl⟩
  obtain ⟨L, hL⟩ : ∃ L, L = newR s := ⟨_, rfl⟩
  rw [← hnm, ← hL] at HNC ⊢
  unfold CtlV at HNC
  clear h0 h1 hok hnm hL hE hs
  go_enter Tryd.func11, Tryd.ntmps11
  go_wp2_with fail
  refine HNC.out.mono ?_
  rintro e w1 ⟨he, hb1⟩
  clear c0
  cases ok with
  | false =>
    rw [if_neg (by simp)] at he
    subst he
    exact ⟨rfl, by show (if (false = true) then _ else _); rw [if_neg (by simp)]; exact ⟨rfl, hb1⟩⟩
  | true =>
    rw [if_pos rfl] at he
    obtain ⟨v, rfl, ho⟩ := he
    obtain ⟨aa, ca, hva, hca⟩ := ho.shape
    subst hva
    obtain ⟨⟨c0, c1, c2, c3, c4⟩, cf⟩ := ctl_cells (HX.out w1 hb1)
    have f0 := cf 0
    have f1 := cf 1
    have f2 := cf 2
    have f3 := cf 3
    have f4 := cf 4
    have HO : Hid (OwnQ w1 w.heap.size (.slice aa L.length ca) L) := ho
    clear cf ho
    go_wp2_with fail
    first | go_end0 | refine bodyPost_ret (results_none rfl _ _ _) rfl ?_
    exact ⟨rfl, w1, hb1, _, HO.out, rfl⟩
set_option maxRecDepth 20000 in
set_option maxHeartbeats 2000000 in
theorem iNewControl_any (s : ByteArray) (w : World) (hs : s.size ≤ 1048576) (hE : EnvT w) :
    Calls Tryd.prog 5 #[.string s] w fun e w' => COwn w' w.heap.size (apexB s.data.toList) (newN s) 0 (newR s) e ∧ Below w.heap.size w w' := by
  have hmf : ∀ (fn : Fn) (first cap : Array Value) (w : World), (Instr.makeFunc fn first cap).run Tryd.prog w = .ok (.func fn first cap) w := fun _ _ _ _ => rfl
  obtain ⟨W0, hW0⟩ : ∃ W0, W0 = (w.alloc (.cells #[.string s] 9)).alloc (.cells #[.string ⟨#[]⟩, .int .i64 0, .slice none 0 0, .slice none 0 0, .int .i64 0] 27) := ⟨_, rfl⟩
  have HW0 : Hid ((w.alloc (.cells #[.string s] 9)).alloc (.cells #[.string ⟨#[]⟩, .int .i64 0, .slice none 0 0, .slice none 0 0, .int .i64 0] 27) = W0) := hW0.symm
  have hs1 : (w.alloc (.cells #[.string s] 9)).heap.size = w.heap.size + 1 := by simp
  have hb0 : Below w.heap.size w W0 := by rw [hW0]; exact ((Below.refl _ _).alloc (Nat.le_refl _) _).alloc (by simp) _
  have hz0 : W0.heap.size = w.heap.size + 1 + 1 := by rw [hW0]; simp
  have hx0 : W0.heap[w.heap.size]? = some (.cells #[.string s] 9) := by rw [hW0, Below.heap_alloc _ _ _ (by omega)]; exact blk_new _ _
  have hx1 : W0.heap[w.heap.size + 1]? = some (.cells #[.string ⟨#[]⟩, .int .i64 0, .slice none 0 0, .slice none 0 0, .int .i64 0] 27) := by rw [hW0, ← hs1]; exact blk_new _ _
  have hans := newCtl1_any s W0 w.heap.size (w.heap.size + 1) hs (hE.below hb0) hx0 hx1
  have hen : ∀ W : World, (callFunc 11 #[.pointer (some ⟨w.heap.size, 0, none⟩), .pointer (some ⟨w.heap.size + 1, 0, none⟩)]).run Tryd.prog W = .ok (.enter 11 #[.pointer (some ⟨w.heap.size, 0, none⟩), .pointer (some ⟨w.heap.size + 1, 0, none⟩)]) W := fun W => enters Tryd.func11 (by kernel_rfl) (by kernel_rfl) _ W
  have HX : Hid (∀ W, Below W0.heap.size W0 W → W.heap[w.heap.size + 1]? = some (.cells #[.string ⟨#[]⟩, .int .i64 0, .slice none 0 0, .slice none 0 0, .int .i64 0] 27)) := fun W hW => (hW.block _ (by omega)).trans hx1
  have HB0 : Hid (Below w.heap.size w W0) := hb0
  have HZ0 : Hid (W0.heap.size = w.heap.size + 1 + 1) := hz0
  cases hA : apexB s.data.toList with
  | false =>
    rw [hA] at hans
    have HN : Hid (newN s = ⟨#[]⟩ ∧ newR s = []) := ⟨if_neg (by rw [hA]; simp), if_neg (by rw [hA]; simp)⟩
    have HC : Hid (Calls Tryd.prog 10 #[.func (.func 11) #[] #[.pointer (some ⟨w.heap.size, 0, none⟩), .pointer (some ⟨w.heap.size + 1, 0, none⟩)]] W0 fun e w' => e = .returned (.bool false) ∧ Below W0.heap.size W0 w') := comes_no _ _ _ _ hen (hans.mono fun e w' h => by simpa using h)
    clear hans hen hx0 hx1 hW0 hs1 hb0 hz0 hA hE hs
    go_enter Tryd.func5, Tryd.ntmps5
    go_wp2_with (rw [HW0.out])
    refine HC.out.mono ?_
    rintro e w1 ⟨rfl, hb1⟩
    have hx := HX.out w1 hb1
    obtain ⟨⟨c0, c1, c2, c3, c4⟩, cf⟩ := ctl_cells hx
    have f0 := cf 0
    have f1 := cf 1
    have f2 := cf 2
    have f3 := cf 3
    have f4 := cf 4
    have HX1 : Hid (w1.heap[w.heap.size + 1]? = some (.cells #[.string ⟨#[]⟩, .int .i64 0, .slice none 0 0, .slice none 0 0, .int .i64 0] 27)) := hx
    have hbw1 := HB0.out.trans (hb1.mono HB0.out.size)
    clear cf hx
    go_wp2_with fail
    (try simp only [Exit.inBlock, Exit.then])
    refine bodyPost_ret (results_row_tmp rfl _ _ (w.heap.size + 1) 27 #[.string ⟨#[]⟩, .int .i64 0, .slice none 0 0, .slice none 0 0, .int .i64 0] (0, 0) _ (.bool false) rfl rfl ?_ Tryd.underlying27 rfl (by kernel_rfl)) rfl ⟨?_, ?_⟩
    · exact put5_heap HX1.out
    · exact ⟨.slice none 0 0, by rw [HN.out.1]; rfl, by rw [HN.out.2]; exact ownq_nilC _ _⟩
    · exact put5_below hbw1 (by omega) _ _ _ _ _
  | true =>
    rw [hA] at hans
    have HC : Hid (Calls Tryd.prog 10 #[.func (.func 11) #[] #[.pointer (some ⟨w.heap.size, 0, none⟩), .pointer (some ⟨w.heap.size + 1, 0, none⟩)]] W0 fun e w' => e = .returned (.bool true) ∧ ∃ W1 v, Below W0.heap.size W0 W1 ∧ OwnQ W1 W0.heap.size v (newR s) ∧ w' = put5 W1 (w.heap.size + 1) (.string (newN s)) (.int .i64 0) v (.slice none 0 0) (.int .i64 0)) := comes_yes _ _ _ _ hen (hans.mono fun e w' h => by simpa using h)
    obtain ⟨nm, hnm⟩ : ∃ nm, nm = newN s := ⟨_, rfl⟩
    obtain ⟨L, hL⟩ : ∃ L, L = newR s := ⟨_, rfl⟩
    rw [← hnm, ← hL] at HC ⊢
    clear hans hen hx0 hx1 hW0 hs1 hb0 hz0 hA hE hs hnm hL
    go_enter Tryd.func5, Tryd.ntmps5
    go_wp2_with (rw [HW0.out])
    refine HC.out.mono ?_
    rintro e w1 ⟨rfl, W1, v, hb1, ho, hw1⟩
    obtain ⟨aa, ca, hva, hca⟩ := ho.shape
    subst hva
    have hx : w1.heap[w.heap.size + 1]? = some (.cells #[.string nm, .int .i64 0, .slice aa L.length ca, .slice none 0 0, .int .i64 0] 27) := by rw [hw1]; exact put5_heap (HX.out W1 hb1)
    have ho1 : OwnQ w1 W0.heap.size (.slice aa L.length ca) L := by
      rw [hw1]; exact ho.kpt (kpt_put5 _ (w.heap.size + 1) _ _ _ _ _ (S := fun k => k = w.heap.size + 1) rfl) (fun g hg e => by have := (ho.lt g hg).1; have := HZ0.out; omega)
    have hbw1 : Below w.heap.size w w1 := by rw [hw1]; exact put5_below (HB0.out.trans (hb1.mono HB0.out.size)) (by omega) _ _ _ _ _
    obtain ⟨⟨c0, c1, c2, c3, c4⟩, cf⟩ := ctl_cells hx
    have f0 := cf 0
    have f1 := cf 1
    have f2 := cf 2
    have f3 := cf 3
    have f4 := cf 4
    have HX1 : Hid (w1.heap[w.heap.size + 1]? = some (.cells #[.string nm, .int .i64 0, .slice aa L.length ca, .slice none 0 0, .int .i64 0] 27)) := hx
    have HO1 : Hid (OwnQ w1 W0.heap.size (.slice aa L.length ca) L) := ho1
    clear cf hx ho1 hw1 ho hb1
    go_wp2_with fail
    (try simp only [Exit.inBlock, Exit.then])
    refine bodyPost_ret (results_row_tmp rfl _ _ (w.heap.size + 1) 27 #[.string nm, .int .i64 0, .slice aa L.length ca, .slice none 0 0, .int .i64 0] (0, 0) _ (.bool true) rfl rfl ?_ Tryd.underlying27 rfl (by kernel_rfl)) rfl ⟨?_, ?_⟩
    · exact put5_heap HX1.out
    · exact ⟨_, rfl, (HO1.out.kpt (kpt_put5 _ (w.heap.size + 1) _ _ _ _ _ (S := fun k => k = w.heap.size + 1) rfl) (fun g hg e => by have := (HO1.out.lt g hg).1; have := HZ0.out; omega)).base (by have := HZ0.out; omega)⟩
    · exact put5_below hbw1 (by omega) _ _ _ _ _
set_option maxRecDepth 20000 in
set_option maxHeartbeats 2000000 in
theorem sNewControl_any (s : ByteArray) (w : World) (hs : s.size ≤ 1048576) :
    Calls Tryd.prog 4 #[.string s] w fun e w' => CRes w' (apexB s.data.toList) (newN s) 0 (newR s) e ∧ Below w.heap.size w w' := by
  obtain ⟨W0, hW0⟩ : ∃ W0, W0 = w.alloc (.cells #[.string ⟨#[]⟩, .int .i64 0, .slice none 0 0, .slice none 0 0, .int .i64 0] 27) := ⟨_, rfl⟩
  have HW0 : Hid (w.alloc (.cells #[.string ⟨#[]⟩, .int .i64 0, .slice none 0 0, .slice none 0 0, .int .i64 0] 27) = W0) := hW0.symm
  have hb0 : Below w.heap.size w W0 := by rw [hW0]; exact (Below.refl _ _).alloc (Nat.le_refl _) _
  have hz0 : w.heap.size < W0.heap.size := by rw [hW0]; simp
  have hx0 : W0.heap[w.heap.size]? = some (.cells #[.string ⟨#[]⟩, .int .i64 0, .slice none 0 0, .slice none 0 0, .int .i64 0] 27) := by rw [hW0]; exact blk_new _ _
  have HNZ : Hid (Calls Tryd.prog 9 #[.string s] W0 fun e w' => ZRes w' (apexB s.data.toList) (newN s) 0 (newR s) e ∧ Below W0.heap.size W0 w') := sNewZone_any s W0 hs
  have HN : Hid (apexB s.data.toList = false → newN s = ⟨#[]⟩ ∧ newR s = []) := fun hA => ⟨if_neg (by rw [hA]; simp), if_neg (by rw [hA]; simp)⟩
  obtain ⟨ok, hok⟩ : ∃ ok, ok = apexB s.data.toList := ⟨_, rfl⟩
  rw [← hok] at HNZ HN ⊢
  obtain ⟨nm, hnm⟩ : ∃ nm, nm = newN s := ⟨_, rfl⟩
  obtain ⟨L, hL⟩ : ∃ L, L = newR s := ⟨_, rfl⟩
  rw [← hnm, ← hL] at HNZ HN ⊢
  unfold ZRes ZonV at HNZ
  have HX : Hid (∀ W, Below W0.heap.size W0 W → W.heap[w.heap.size]? = some (.cells #[.string ⟨#[]⟩, .int .i64 0, .slice none 0 0, .slice none 0 0, .int .i64 0] 27)) := fun W hW => (hW.block _ hz0).trans hx0
  have HB0 : Hid (Below w.heap.size w W0) := hb0
  have HZ0 : Hid (w.heap.size < W0.heap.size) := hz0
  clear hW0 hx0 hz0 hb0 hok hnm hL hs
  go_enter Tryd.func4, Tryd.ntmps4
  go_wp2_with (rw [HW0.out])
  refine HNZ.out.mono ?_
  rintro e w1 ⟨⟨v, rfl, hr1⟩, hb1⟩
  obtain ⟨aa, ca, hva, _, hca, _⟩ := id hr1
  subst hva
  obtain ⟨W1, hW1⟩ : ∃ W1, W1 = w1.alloc (.cells #[.string nm, .int .i64 0, .slice aa L.length ca] 24) := ⟨_, rfl⟩
  have HW1 : Hid (w1.alloc (.cells #[.string nm, .int .i64 0, .slice aa L.length ca] 24) = W1) := hW1.symm
  have hb11 : Below w1.heap.size w1 W1 := by rw [hW1]; exact (Below.refl _ _).alloc (Nat.le_refl _) _
  have hz1 : W1.heap[w1.heap.size]? = some (.cells #[.string nm, .int .i64 0, .slice aa L.length ca] 24) := by rw [hW1]; exact blk_new _ _
  obtain ⟨⟨z0, z1, z2⟩, _⟩ := zon_cells hz1
  have hx1 := HX.out W1 (hb1.trans (hb11.mono hb1.size))
  obtain ⟨⟨c0, c1, c2, c3, c4⟩, cf⟩ := ctl_cells hx1
  have f0 := cf 0
  have f1 := cf 1
  have f2 := cf 2
  have f3 := cf 3
  have f4 := cf 4
  have HX1 : Hid (W1.heap[w.heap.size]? = some (.cells #[.string ⟨#[]⟩, .int .i64 0, .slice none 0 0, .slice none 0 0, .int .i64 0] 27)) := hx1
  have HO1 : Hid (∀ W, Kpt W1 W (fun k => k = w.heap.size) → RRow W (.slice aa L.length ca) L) := fun W hk => (hr1.kept hb11).apartC5 HX1.out hk
  have HBW1 : Hid (Below w.heap.size w W1) := HB0.out.trans ((hb1.trans (hb11.mono hb1.size)).mono HB0.out.size)
  clear hr1 hb1 hb11 hz1 hx1 cf hW1
  cases ok with
  | false =>
    have HN2 : Hid (nm = ⟨#[]⟩ ∧ L = []) := HN.out rfl
    go_wp2_with (rw [HW1.out])
    (try simp only [Exit.inBlock, Exit.then])
    refine bodyPost_ret (results_row_tmp rfl _ _ w.heap.size 27 #[.string ⟨#[]⟩, .int .i64 0, .slice none 0 0, .slice none 0 0, .int .i64 0] (0, 0) _ (.bool false) rfl rfl ?_ Tryd.underlying27 rfl (by kernel_rfl)) rfl ⟨?_, ?_⟩
    · exact put5_heap HX1.out
    · exact ⟨.slice none 0 0, by rw [HN2.out.1]; rfl, by rw [HN2.out.2]; exact (ownq_nilC _ 0).row⟩
    · exact put5_below HBW1.out (Nat.le_refl _) _ _ _ _ _
  | true =>
    go_wp2_with (rw [HW1.out])
    (try simp only [Exit.inBlock, Exit.then])
    refine bodyPost_ret (results_row_tmp rfl _ _ w.heap.size 27 #[.string nm, .int .i64 0, .slice aa L.length ca, .slice none 0 0, .int .i64 0] (0, 0) _ (.bool true) rfl rfl ?_ Tryd.underlying27 rfl (by kernel_rfl)) rfl ⟨?_, ?_⟩
    · exact put5_heap HX1.out
    · exact ⟨_, rfl, HO1.out _ (kpt_put5 _ w.heap.size _ _ _ _ _ rfl)⟩
    · exact put5_below HBW1.out (Nat.le_refl _) _ _ _ _ _
end Go.Proofs.YtoobaaklklommaaDoor
