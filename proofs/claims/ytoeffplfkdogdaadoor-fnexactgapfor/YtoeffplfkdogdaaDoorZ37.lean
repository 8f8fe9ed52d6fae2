import Derived.Test.YtoeffplfkdogdaaDoorZ33
import Derived.Test.YtoeffplfkdogdaaDoorZ34
import Derived.Test.YtoeffplfkdogdaaDoorZ36
import Derived.BigQuiet
import Derived.Deep.QuietTactic
namespace Go.Proofs.YtoeffplfkdogdaaDoor
open Go.RowKit Go.Shelf

theorem results_gap_tmp {P : Program} {fn : Func} {p u : Tmp} {ty : TypeId} (h : fn.results = #[.cell p ty, .tmp u]) (tmps : Array Value) (w : World) (g : Nat) (t : TypeId) (cs : Array Value) (fr : Nat × Nat) (d : TypeDesc) (x : Value)
    (hp : tmps.getD p undef = .pointer (some ⟨g, 0, none⟩)) (hu : tmps.getD u undef = x) (hg : w.heap[g]? = some (.cells cs t fr))
    (hd0 : P.underlying ty = some d) (hd : (match d with | .struct _ | .array _ _ => true | _ => false) = true) (hi : (P.info? ty).map (·.size) = some cs.size) :
    (results fn tmps).run P w = .ok (.tuple #[.agg cs, x]) w := by
  have hp' : tmps[p]?.getD undef = .pointer (some ⟨g, 0, none⟩) := by simpa using hp
  have hu' : tmps[u]?.getD undef = x := by simpa using hu
  rw [results_cell_tmp h]
  simp [hp', hu', asAddr, run_loadVar_row w g t ty cs fr d hg hd0 hd hi, Result.andThen]

/-- The gap for a name. -/
def forB (n : List UInt8) (x : List UInt8 × List UInt8 × List Int) : Bool := x.1 == n || covB x.1 x.2.1 n
def gfB (L : List (List UInt8 × List UInt8 × List Int)) (n : List UInt8) : Bool := decide (0 < L.length) && goodG (gO L 0) L && nameB n && belowB n (gO L 0)
def gfO (L : List (List UInt8 × List UInt8 × List Int)) (n : List UInt8) : Option (List UInt8 × List UInt8 × List Int) := if gfB L n = true then L.find? (forB n) else none
theorem goodG_at {ap : List UInt8} {L : List (List UInt8 × List UInt8 × List Int)} (h : goodG ap L = true) : nameB ap = true ∧ 1 ≤ L.length ∧ gO L 0 = ap ∧ ∀ i, i < L.length → nameB (gO L i) = true ∧ nameB (gX L i) = true ∧ belowB (gO L i) ap = true ∧ (i = 0 ∨ cmpN (gO L (i - 1)) (gO L i) < 0) ∧ gX L i = gO L ((i + 1) % L.length) ∧ 0 < (gT L i).length := by
  unfold goodG at h
  simp only [Bool.and_eq_true, decide_eq_true_eq, beq_iff_eq, List.all_eq_true, List.mem_range] at h
  obtain ⟨⟨⟨⟨h0, h1⟩, h2⟩, h3⟩, h5⟩ := h
  have hf : ∀ i, i < L.length → nameB (gO L i) = true ∧ belowB (gO L i) ap = true ∧ (i = 0 ∨ cmpN (gO L (i - 1)) (gO L i) < 0) ∧ gX L i = gO L ((i + 1) % L.length) ∧ ¬ gT L i = [] := fun i hi => by
    have h := h5 i hi
    unfold gsB at h
    simp only [Bool.and_eq_true, Bool.or_eq_true, decide_eq_true_eq, beq_iff_eq, Bool.not_eq_true', beq_eq_false_iff_ne] at h
    exact ⟨h.1.1.1.1.1, h.1.1.1.1.2, h.1.1.1.2, h.1.1.2, h.1.2⟩
  refine ⟨h0, h1, h3, fun i hi => ?_⟩
  obtain ⟨a1, a2, a3, a4, a5⟩ := hf i hi
  exact ⟨a1, by rw [a4]; exact (hf _ (Nat.mod_lt _ (by omega))).1, a2, a3, a4, List.length_pos_iff.2 a5⟩
theorem cmp_le {a b : List UInt8} (ha : nameB a = true) (hb : nameB b = true) (h : belowB a b = true) : cmpN b a ≤ 0 := by
  have h1 := cmp_below ha hb h
  have h2 : cmpN b a = - cmpN a b := cmpN_swap _ _
  have h3 : cmpN a b = -1 ∨ cmpN a b = 0 ∨ cmpN a b = 1 := cmpR_vals _ _
  omega
theorem cmp_neg {a b : List UInt8} (h : cmpN a b ≤ 0) (hne : a ≠ b) : cmpN a b < 0 := by
  have h3 : cmpN a b = -1 ∨ cmpN a b = 0 ∨ cmpN a b = 1 := cmpR_vals _ _
  rcases h3 with h | h | h
  · omega
  · exact absurd (cmpN_zero h) hne
  · omega
/-- Each name below the apex has its gap. -/
theorem for_some {L : List (List UInt8 × List UInt8 × List Int)} {n : List UInt8} (h : gfB L n = true) : ∃ x, L.find? (forB n) = some x := by
  unfold gfB at h
  simp only [Bool.and_eq_true, decide_eq_true_eq] at h
  obtain ⟨⟨⟨_, hg⟩, hn⟩, hb⟩ := h
  obtain ⟨h0, h1, _, hf⟩ := goodG_at hg
  cases hfd : L.find? (forB n) with
  | some x => exact ⟨x, rfl⟩
  | none =>
    exfalso
    rw [List.find?_eq_none] at hfd
    have hno : ∀ i, (hi : i < L.length) → gO L i ≠ n ∧ covB (gO L i) (gX L i) n = false := fun i hi => by
      have h := hfd _ (List.getElem_mem hi)
      unfold forB at h
      rw [gO_at hi, gX_at hi]
      simp only [Bool.or_eq_true, beq_iff_eq, not_or, Bool.not_eq_true] at h
      exact h
    have hall : ∀ i, i < L.length → cmpN (gO L i) n < 0 := fun i => by
      induction i with
      | zero => exact fun hi => cmp_neg (cmp_le hn h0 hb) (hno 0 hi).1
      | succ i ih =>
        intro hi
        have hlt := ih (by omega)
        have hc := (hno i (by omega)).2
        unfold covB at hc
        rw [decide_eq_true hlt, (hf i (by omega)).2.2.2.2.1, Nat.mod_eq_of_lt hi] at hc
        simp only [Bool.true_and, Bool.or_eq_false_iff, decide_eq_false_iff_not] at hc
        have h2 : cmpN (gO L (i + 1)) n = - cmpN n (gO L (i + 1)) := cmpN_swap _ _
        exact cmp_neg (by omega) (hno (i + 1) hi).1
    have hlast := hall (L.length - 1) (by omega)
    have hc := (hno (L.length - 1) (by omega)).2
    unfold covB at hc
    have hx := (hf (L.length - 1) (by omega)).2.2.2.2.1
    rw [show L.length - 1 + 1 = L.length by omega, Nat.mod_self] at hx
    rw [decide_eq_true hlast, hx, decide_eq_true (cmp_le (hf (L.length - 1) (by omega)).1 h0 (hf (L.length - 1) (by omega)).2.2.1)] at hc
    simp at hc

/-- What GapFor hands back. -/
def GFRes (base : Nat) (w' : World) (od : Option (List UInt8 × List UInt8 × List Int)) (e : Ending) : Prop := match od with
  | none => e = .returned (.tuple #[.agg #[.string ⟨#[]⟩, .string ⟨#[]⟩, .slice none 0 0], .bool false])
  | some x => ∃ t cap, e = .returned (.tuple #[.agg #[.string ⟨x.1.toArray⟩, .string ⟨x.2.1.toArray⟩, .slice (some ⟨t, 0, none⟩) x.2.2.length cap], .bool true]) ∧ x.2.2.length ≤ cap ∧ cap ≤ 9223372036854775807 ∧ base ≤ t ∧ ZSRow w' t x.2.2

set_option maxRecDepth 20000 in
set_option maxHeartbeats 2000000 in
theorem l8For_any (n : List UInt8) (v : Value) (L : List (List UInt8 × List UInt8 × List Int)) (w : World) (hr : GRow w v L) (hg : Hid (goodG (gO L 0) L = true)) (hn : Hid (nameB n = true)) (hs : Hid (∃ x, L.find? (forB n) = some x)) :
    Calls Tryd.prog 21 #[v, .string ⟨n.toArray⟩] w fun e w' => (∃ k : Nat, ∃ hk : k < L.length, e = .returned (.int .i64 (k : Int)) ∧ L.find? (forB n) = some L[k]) ∧ Below w.heap.size w w' := by
  obtain ⟨a, cap, rfl, hcap, hmax, HROW⟩ := grow_value hr
  clear hr
  go_enter Tryd.func21, Tryd.ntmps21
  go_wp2_with fail
  go_loopw [9] (fun i wr => ∃ k : Nat, k ≤ L.length ∧ i = .int .i64 (k : Int) ∧ Hid (∀ j, (hj : j < L.length) → j < k → forB n L[j] = false) ∧ Below w.heap.size w wr) (fun i _ => L.length - (intOf i).toNat)
  case atStart => exact ⟨0, Nat.zero_le _, rfl, fun j _ h => absurd h (Nat.not_lt_zero _), Below.refl _ _⟩
  case round =>
    obtain ⟨k, hk, rfl, HA, hb⟩ := hrel
    by_cases hlt : k < L.length
    · obtain ⟨b, o, ha, hbl, hcel⟩ := HROW.out (by omega)
      rw [ha]
      obtain ⟨va, hcx0⟩ := hcel k hlt
      have hcx := hcx0.kept hb
      have HHIT : Hid (forB n (L[k]'hlt) = true → L.find? (forB n) = some (L[k]'hlt)) := fun h => find_pre k hlt HA.out h
      have HUP : Hid (forB n (L[k]'hlt) = false → ∀ j, (hj : j < L.length) → j < k + 1 → forB n L[j] = false) := fun h j hj hj2 => by
        rcases Nat.lt_or_ge j k with h' | h'
        · exact HA.out j hj h'
        · obtain rfl : j = k := by omega
          exact h
      have hnm : nameB (L[k]'hlt).1 = true ∧ nameB (L[k]'hlt).2.1 = true := by
        have h := (goodG_at hg.out).2.2.2 k hlt
        rw [gO_at hlt, gX_at hlt] at h
        exact ⟨h.1, h.2.1⟩
      have HLT : Hid (k < L.length) := hlt
      have HEQK : Hid (∀ x, x = L[k]'hlt → forB n x = true → ∃ k2 : Nat, ∃ hk : k2 < L.length, Ending.returned (.int .i64 (k : Int)) = .returned (.int .i64 (k2 : Int)) ∧ L.find? (forB n) = some L[k2]) := fun x hx h => ⟨k, hlt, rfl, HHIT.out (by rw [← hx]; exact h)⟩
      obtain ⟨x, hxe⟩ : ∃ x, x = L[k]'hlt := ⟨_, rfl⟩
      have HEQ : Hid (forB n x = true → ∃ k2 : Nat, ∃ hk : k2 < L.length, Ending.returned (.int .i64 (k : Int)) = .returned (.int .i64 (k2 : Int)) ∧ L.find? (forB n) = some L[k2]) := HEQK.out x hxe
      rw [← hxe] at hcx HUP hnm
      have l1 := (name_parts hnm.1).2.1
      have l2 := (name_parts hnm.2).2.1
      have l3 := (name_parts hn.out).2.1
      have hz : ZRow .i64 wr va x.2.2 := hcx.2.2.2
      unfold GapAt at hcx
      have c0 := hcx.1
      have c1 := hcx.2.1
      have c2 := hcx.2.2.1
      obtain ⟨aa, ca, rfl, _, hca, _⟩ := hz
      have HCO : Hid (∀ W, Calls Tryd.prog 35 #[.agg #[.string ⟨x.1.toArray⟩, .string ⟨x.2.1.toArray⟩, .slice aa x.2.2.length ca], .string ⟨n.toArray⟩] W fun e w' => e = .returned (.bool (covB x.1 x.2.1 n)) ∧ Below W.heap.size W w') := fun W => l8Covers_any ⟨x.1.toArray⟩ ⟨x.2.1.toArray⟩ ⟨n.toArray⟩ _ W (by rw [size_list]; omega) (by rw [size_list]; omega) (by rw [size_list]; omega) ⟨hnm.1, hnm.2, hn.out⟩
      have HFB : Hid (forB n x = (x.1 == n || covB x.1 x.2.1 n)) := rfl
      have HA2 : Hid (Below w.heap.size w (wr.alloc (.cells #[.string ⟨x.1.toArray⟩, .string ⟨x.2.1.toArray⟩, .slice aa x.2.2.length ca] 26))) := hb.alloc hb.size _
      obtain ⟨cb, hcb⟩ : ∃ cb, cb = covB x.1 x.2.1 n := ⟨_, rfl⟩
      rw [← hcb] at HCO HFB
      clear hcx hcel hcx0 hxe hnm l1 l2 l3 HHIT HEQK hcb HA
      by_cases he : x.1 = n
      · have HK := HEQ.out (HFB.out.trans (by rw [show (x.1 == n) = true by simpa using he]; rfl))
        have HK2 : Hid _ := HK
        have e1 : (x.1 == n) = true := by simpa using he
        clear HEQ HUP HK he HFB
        go_wp2_with fail
        go_ret
        exact ⟨HK2.out, HA2.out⟩
      · have e1 : (x.1 == n) = false := by simpa using he
        cases cb with
        | true =>
          have HK := HEQ.out (HFB.out.trans (by simp))
          have HK2 : Hid _ := HK
          clear HEQ HUP HK he HFB
          go_wp2_with fail
          refine (HCO.out _).mono ?_
          rintro e w2 ⟨rfl, hb2⟩
          have hbw2 := HA2.out.trans (hb2.mono HA2.out.size)
          go_wp2_with fail
          go_ret
          exact ⟨HK2.out, hbw2⟩
        | false =>
          have HU : Hid (∀ j, (hj : j < L.length) → j < k + 1 → forB n L[j] = false) := HUP.out (HFB.out.trans (by rw [e1]; rfl))
          clear HEQ HUP he HFB
          go_wp2_with fail
          refine (HCO.out _).mono ?_
          rintro e w2 ⟨rfl, hb2⟩
          have hbw2 := HA2.out.trans (hb2.mono HA2.out.size)
          go_wp2_with fail
          go_roundw
          case rel => exact ⟨k + 1, by omega, by go_num, HU, hbw2⟩
          case measure => simp [intOf]; omega
    · exfalso
      obtain ⟨x, hx⟩ := hs.out
      rw [find_nil (fun j hj => HA.out j hj (by omega))] at hx
      cases hx

set_option maxRecDepth 20000 in
set_option maxHeartbeats 4000000 in
theorem sGapFor_any (n : List UInt8) (v : Value) (L : List (List UInt8 × List UInt8 × List Int)) (w : World) (hr : GRow w v L) (hx : Hid (∀ x ∈ L, x.1.length ≤ 1048576 ∧ x.2.1.length ≤ 1048576)) (hxt : Hid (∀ x ∈ L, x.2.2.length ≤ 1048576)) (hnl : n.length ≤ 1048576) :
    Calls Tryd.prog 6 #[v, .string ⟨n.toArray⟩] w fun e w' => GFRes w.heap.size w' (gfO L n) e ∧ Below w.heap.size w w' := by
  have HRK : Hid (∀ W, Below w.heap.size w W → GRow W v L) := fun W hW => hr.kept hW
  obtain ⟨a, cap, rfl, hcap, hmax, HROW⟩ := grow_value hr
  clear hr
  have HB0 : Hid (Below w.heap.size w (w.alloc (.cells #[.string ⟨#[]⟩, .string ⟨#[]⟩, .slice none 0 0] 26))) := (Below.refl w.heap.size w).alloc (Nat.le_refl _) _
  have HZB : Hid (∀ W, Below (w.alloc (.cells #[.string ⟨#[]⟩, .string ⟨#[]⟩, .slice none 0 0] 26)).heap.size (w.alloc (.cells #[.string ⟨#[]⟩, .string ⟨#[]⟩, .slice none 0 0] 26)) W → W.heap[w.heap.size]? = some (.cells #[.string ⟨#[]⟩, .string ⟨#[]⟩, .slice none 0 0] 26) ∧ Below w.heap.size w W) := fun W hW => gap_below hW
  have HO : Hid (gfO L n = if gfB L n = true then L.find? (forB n) else none) := rfl
  have HGB : Hid (gfB L n = (decide (0 < L.length) && goodG (gO L 0) L && nameB n && belowB n (gO L 0))) := rfl
  have HNO : Hid (gfB L n = false → ∀ base w' e, e = .returned (.tuple #[.agg #[.string ⟨#[]⟩, .string ⟨#[]⟩, .slice none 0 0], .bool false]) → GFRes base w' (gfO L n) e) := fun h base w' e he => by
    rw [HO.out, h]; exact he
  by_cases h0 : L.length = 0
  · have HF := HNO.out (HGB.out.trans (by rw [decide_eq_false (show ¬ 0 < L.length by omega)]; rfl))
    have HF2 : Hid _ := HF
    have e1 : ((L.length : Int) == 0) = true := by simp; exact List.length_eq_zero_iff.1 h0
    have HE : Hid (L.length = 0) := h0
    clear HF HNO h0 HGB HO HROW
    go_enter Tryd.func6, Tryd.ntmps6
    go_wp2_with fail
    (try simp only [Exit.inBlock, Exit.then])
    refine bodyPost_ret (results_gap_tmp rfl _ _ w.heap.size 26 #[.string ⟨#[]⟩, .string ⟨#[]⟩, .slice none 0 0] (0, 0) _ (.bool false) rfl rfl ?_ Tryd.underlying26 rfl (by kernel_rfl)) rfl ⟨HF2.out _ _ _ rfl, HB0.out⟩
    exact gap_new _ _
  have hp : 0 < L.length := by omega
  obtain ⟨b, o, ha, hbl, hcel⟩ := HROW.out hp
  subst ha
  obtain ⟨v0, q0⟩ := hcel 0 hp
  rw [Nat.zero_mul, Nat.add_zero] at q0
  unfold GapAt at q0
  have HC0 : Hid (∀ W, Below w.heap.size w W → W.cell? ⟨b, o, none⟩ = some (.string ⟨(L[0]'hp).1.toArray⟩)) := fun W hW => by rw [hW.cell (p := ⟨b, o, none⟩) hbl]; exact q0.1
  have hl0 := (hx.out _ (List.getElem_mem hp)).1
  have HS0 : Hid (gO L 0 = (L[0]'hp).1) := gO_at hp
  obtain ⟨s0, hs0⟩ : ∃ s, s = (L[0]'hp).1 := ⟨_, rfl⟩
  rw [← hs0] at HC0 hl0 HS0
  have HCEL : Hid (∀ k, (hk : k < L.length) → ∃ aa ca, ca ≤ 9223372036854775807 ∧ ∀ W, Below w.heap.size w W → W.cell? ⟨b, o + k * 3, none⟩ = some (.string ⟨L[k].1.toArray⟩) ∧ W.cell? ⟨b, o + k * 3 + 1, none⟩ = some (.string ⟨L[k].2.1.toArray⟩) ∧ W.cell? ⟨b, o + k * 3 + 2, none⟩ = some (.slice aa L[k].2.2.length ca) ∧ ZRow .i64 W (.slice aa L[k].2.2.length ca) L[k].2.2) := fun k hk => by
    obtain ⟨va, h⟩ := hcel k hk
    obtain ⟨aa, ca, e, _, hca, _⟩ := id h.2.2.2
    subst e
    unfold maxLen at hca
    exact ⟨aa, ca, by omega, fun W hW => h.kept hW⟩
  have HGG : Hid (∀ W, Below w.heap.size w W → Calls Tryd.prog 17 #[.string ⟨s0.toArray⟩, .slice (some ⟨b, o, none⟩) L.length cap] W fun e w' => e = .returned (.bool (goodG s0 L)) ∧ Below W.heap.size W w') := fun W hW => sGoodGaps_any s0 _ L W (HRK.out W hW) hx hl0
  have HGN : Hid (∀ W, Calls Tryd.prog 18 #[.string ⟨n.toArray⟩] W fun e w' => e = .returned (.bool (nameB n)) ∧ Below W.heap.size W w') := fun W => sGoodName_any ⟨n.toArray⟩ W (by rw [size_list]; omega)
  have HLB : Hid (∀ W, Calls Tryd.prog 19 #[.string ⟨n.toArray⟩, .string ⟨s0.toArray⟩] W fun e w' => e = .returned (.bool (belowB n s0)) ∧ w' = W) := fun W => l1Below_any ⟨n.toArray⟩ ⟨s0.toArray⟩ W (by rw [size_list]; omega) (by rw [size_list]; omega)
  rw [HS0.out, decide_eq_true hp] at HGB
  have HFR : Hid (gfB L n = true → goodG s0 L = true → nameB n = true → ∀ W, Below w.heap.size w W → Calls Tryd.prog 21 #[.slice (some ⟨b, o, none⟩) L.length cap, .string ⟨n.toArray⟩] W fun e w' => (∃ k : Nat, ∃ hk : k < L.length, e = .returned (.int .i64 (k : Int)) ∧ L.find? (forB n) = some L[k]) ∧ Below W.heap.size W w') := fun h1 h2 h3 W hW => l8For_any n _ L W (HRK.out W hW) (by rw [HS0.out]; exact h2) h3 (for_some h1)
  have hl0i : (0 : Int) < (L.length : Int) := by omega
  have e0 : ((L.length : Int) == 0) = false := beq_eq_false_iff_ne.2 (by omega)
  have e0n : ¬ L = [] := fun h => by rw [h] at hp; simp at hp
  have HPL : Hid (0 < L.length) := hp
  clear hs0 hcel HROW h0 q0 hp
  cases hg : goodG s0 L with
  | false =>
    have HF := HNO.out (HGB.out.trans (by rw [hg]; rfl))
    have HF2 : Hid _ := HF
    rw [hg] at HGG
    clear HF HNO HGB HO hg HFR
    go_enter Tryd.func6, Tryd.ntmps6
    have c0 := HC0.out _ HB0.out
    go_wp2_with fail
    refine (HGG.out _ HB0.out).mono ?_
    rintro e w1 ⟨rfl, hb1⟩
    obtain ⟨hk1, hbw1⟩ := HZB.out _ hb1
    obtain ⟨⟨z0, z1, z2⟩, ⟨f0, f1, f2⟩⟩ := gap_cells hk1
    have HK1 : Hid _ := hk1
    clear hk1 c0
    go_wp2_with fail
    (try simp only [Exit.inBlock, Exit.then])
    refine bodyPost_ret (results_gap_tmp rfl _ _ w.heap.size 26 #[.string ⟨#[]⟩, .string ⟨#[]⟩, .slice none 0 0] (0, 0) _ (.bool false) rfl rfl ?_ Tryd.underlying26 rfl (by kernel_rfl)) rfl ⟨HF2.out _ _ _ rfl, gput3_below hbw1 (Nat.le_refl _) _ _ _⟩
    exact gput3_heap HK1.out
  | true =>
  rw [hg] at HGG HGB
  cases hnn : nameB n with
  | false =>
    have HF := HNO.out (HGB.out.trans (by rw [hnn]; rfl))
    have HF2 : Hid _ := HF
    rw [hnn] at HGN
    clear HF HNO HGB HO hg HFR hnn
    go_enter Tryd.func6, Tryd.ntmps6
    have c0 := HC0.out _ HB0.out
    go_wp2_with fail
    refine (HGG.out _ HB0.out).mono ?_
    rintro e w1 ⟨rfl, hb1⟩
    clear c0
    go_wp2_with fail
    refine (HGN.out _).mono ?_
    rintro e w2 ⟨rfl, hb2⟩
    obtain ⟨hk1, hbw1⟩ := HZB.out _ (hb1.trans (hb2.mono hb1.size))
    obtain ⟨⟨z0, z1, z2⟩, ⟨f0, f1, f2⟩⟩ := gap_cells hk1
    have HK1 : Hid _ := hk1
    clear hk1
    go_wp2_with fail
    (try simp only [Exit.inBlock, Exit.then])
    refine bodyPost_ret (results_gap_tmp rfl _ _ w.heap.size 26 #[.string ⟨#[]⟩, .string ⟨#[]⟩, .slice none 0 0] (0, 0) _ (.bool false) rfl rfl ?_ Tryd.underlying26 rfl (by kernel_rfl)) rfl ⟨HF2.out _ _ _ rfl, gput3_below hbw1 (Nat.le_refl _) _ _ _⟩
    exact gput3_heap HK1.out
  | true =>
  rw [hnn] at HGN HGB
  cases hbb : belowB n s0 with
  | false =>
    have HF := HNO.out (HGB.out.trans (by rw [hbb]; rfl))
    have HF2 : Hid _ := HF
    rw [hbb] at HLB
    clear HF HNO HGB HO hg HFR hnn hbb
    go_enter Tryd.func6, Tryd.ntmps6
    have c0 := HC0.out _ HB0.out
    go_wp2_with fail
    refine (HGG.out _ HB0.out).mono ?_
    rintro e w1 ⟨rfl, hb1⟩
    clear c0
    go_wp2_with fail
    refine (HGN.out _).mono ?_
    rintro e w2 ⟨rfl, hb2⟩
    obtain ⟨hk1, hbw1⟩ := HZB.out _ (hb1.trans (hb2.mono hb1.size))
    have c0 := HC0.out _ hbw1
    obtain ⟨⟨z0, z1, z2⟩, ⟨f0, f1, f2⟩⟩ := gap_cells hk1
    have HK1 : Hid _ := hk1
    clear hk1
    go_wp2_with fail
    refine (HLB.out _).mono ?_
    rintro e w3 ⟨rfl, rfl⟩
    go_wp2_with fail
    (try simp only [Exit.inBlock, Exit.then])
    refine bodyPost_ret (results_gap_tmp rfl _ _ w.heap.size 26 #[.string ⟨#[]⟩, .string ⟨#[]⟩, .slice none 0 0] (0, 0) _ (.bool false) rfl rfl ?_ Tryd.underlying26 rfl (by kernel_rfl)) rfl ⟨HF2.out _ _ _ rfl, gput3_below hbw1 (Nat.le_refl _) _ _ _⟩
    exact gput3_heap HK1.out
  | true =>
  rw [hbb] at HLB HGB
  have hgf : gfB L n = true := HGB.out.trans rfl
  have HFR2 : Hid (∀ W, Below w.heap.size w W → Calls Tryd.prog 21 #[.slice (some ⟨b, o, none⟩) L.length cap, .string ⟨n.toArray⟩] W fun e w' => (∃ k : Nat, ∃ hk : k < L.length, e = .returned (.int .i64 (k : Int)) ∧ L.find? (forB n) = some L[k]) ∧ Below W.heap.size W w') := HFR.out hgf hg hnn
  have HTP : Hid (∀ k, (hk : k < L.length) → 0 < L[k].2.2.length) := fun k hk => by
    have h := (goodG_at hg).2.2.2 k hk
    rw [gT_at hk] at h
    exact h.2.2.2.2.2
  have HYES : Hid (∀ base w' e x, L.find? (forB n) = some x → (∃ t cap, e = .returned (.tuple #[.agg #[.string ⟨x.1.toArray⟩, .string ⟨x.2.1.toArray⟩, .slice (some ⟨t, 0, none⟩) x.2.2.length cap], .bool true]) ∧ x.2.2.length ≤ cap ∧ cap ≤ 9223372036854775807 ∧ base ≤ t ∧ ZSRow w' t x.2.2) → GFRes base w' (gfO L n) e) := fun base w' e x h1 h2 => by
    rw [HO.out, if_pos hgf, h1]; exact h2
  clear HNO HGB HO hg HFR hnn hbb hgf
  go_enter Tryd.func6, Tryd.ntmps6
  have c0 := HC0.out _ HB0.out
  go_wp2_with fail
  refine (HGG.out _ HB0.out).mono ?_
  rintro e w1 ⟨rfl, hb1⟩
  clear c0
  go_wp2_with fail
  refine (HGN.out _).mono ?_
  rintro e w2 ⟨rfl, hb2⟩
  have hb02 := hb1.trans (hb2.mono hb1.size)
  obtain ⟨_, hbw1⟩ := HZB.out _ hb02
  have c0 := HC0.out _ hbw1
  go_wp2_with fail
  refine (HLB.out _).mono ?_
  rintro e w3 ⟨rfl, rfl⟩
  clear c0
  go_wp2_with fail
  refine (HFR2.out _ hbw1).mono ?_
  rintro e w4 ⟨⟨k, hk, rfl, hfd⟩, hb4⟩
  have hb04 := hb02.trans (hb4.mono hb02.size)
  obtain ⟨hk4, hbw4⟩ := HZB.out _ hb04
  obtain ⟨aa, ca, hca, hce⟩ := HCEL.out k hk
  have hxl := hxt.out _ (List.getElem_mem hk)
  have htp := HTP.out k hk
  obtain ⟨c0, c1, c2, hz⟩ := hce _ hbw4
  have HYK : Hid (∀ base w' e, (∃ t cap, e = .returned (.tuple #[.agg #[.string ⟨(L[k]'hk).1.toArray⟩, .string ⟨(L[k]'hk).2.1.toArray⟩, .slice (some ⟨t, 0, none⟩) (L[k]'hk).2.2.length cap], .bool true]) ∧ (L[k]'hk).2.2.length ≤ cap ∧ cap ≤ 9223372036854775807 ∧ base ≤ t ∧ ZSRow w' t (L[k]'hk).2.2) → GFRes base w' (gfO L n) e) := fun base w' e h => HYES.out base w' e _ hfd h
  obtain ⟨x, hxe⟩ : ∃ x, x = L[k]'hk := ⟨_, rfl⟩
  rw [← hxe] at c0 c1 c2 hz hxl htp HYK
  have HOW : Hid (Calls Tryd.prog 20 #[.agg #[.string ⟨x.1.toArray⟩, .string ⟨x.2.1.toArray⟩, .slice aa x.2.2.length ca]] w4 fun e w' => ∃ t cap, e = .returned (.agg #[.string ⟨x.1.toArray⟩, .string ⟨x.2.1.toArray⟩, .slice (some ⟨t, 0, none⟩) x.2.2.length cap]) ∧ x.2.2.length ≤ cap ∧ cap ≤ 9223372036854775807 ∧ w4.heap.size ≤ t ∧ ZSRow w' t x.2.2 ∧ Below w4.heap.size w4 w') := l8Own_any x _ w4 hz hxl htp
  have hki : (k : Int) < (L.length : Int) := by omega
  have hs4 : w.heap.size < w4.heap.size := Nat.lt_of_lt_of_le (by simp) hb04.size
  clear hce hxe hfd hz hxl htp HYES HTP HCEL hk4
  go_wp2_with fail
  refine HOW.out.mono ?_
  rintro e w5 ⟨t, cp, rfl, g1, g2, g3, g4, hb5⟩
  obtain ⟨hk5, hbw5⟩ := HZB.out _ (hb04.trans (hb5.mono hb04.size))
  obtain ⟨⟨z0, z1, z2⟩, ⟨f0, f1, f2⟩⟩ := gap_cells hk5
  have HK5 : Hid _ := hk5
  have HZ5 : Hid (ZSRow w5 t x.2.2) := g4
  clear hk5 g4 c0 c1 c2
  go_wp2_with fail
  (try simp only [Exit.inBlock, Exit.then])
  refine bodyPost_ret (results_gap_tmp rfl _ _ w.heap.size 26 #[.string ⟨x.1.toArray⟩, .string ⟨x.2.1.toArray⟩, .slice (some ⟨t, 0, none⟩) x.2.2.length cp] (0, 0) _ (.bool true) rfl rfl ?_ Tryd.underlying26 rfl (by kernel_rfl)) rfl ⟨HYK.out _ _ _ ⟨t, cp, rfl, g1, g2, by omega, gput3_far HZ5.out (by omega)⟩, gput3_below hbw5 (Nat.le_refl _) _ _ _⟩
  exact gput3_heap HK5.out
end Go.Proofs.YtoeffplfkdogdaaDoor

namespace Go.Proofs.YtoeffplfkdogdaaDoor
open Go.RowKit Go.Shelf

theorem good_have {ap : List UInt8} {L : List (List UInt8 × List UInt8 × List Int)} (h : goodG ap L = true) : haveB L = true :=
  have_all (fun j hj => by
    have h2 := (goodG_at h).2.2.2 j hj
    rw [gO_at hj, gX_at hj] at h2
    rw [h2.1, h2.2.1]; rfl)

set_option maxRecDepth 20000 in
set_option maxHeartbeats 8000000 in
theorem iGapFor_any (n : List UInt8) (v : Value) (L : List (List UInt8 × List UInt8 × List Int)) (w : World) (hr : GRow w v L) (hx : Hid (∀ x ∈ L, x.1.length ≤ 1048576 ∧ x.2.1.length ≤ 1048576)) (hxt : Hid (∀ x ∈ L, x.2.2.length ≤ 1048576)) (hnl : n.length ≤ 1048576) (hE : Env w) :
    Calls Tryd.prog 8 #[v, .string ⟨n.toArray⟩] w fun e w' => GFRes w.heap.size w' (gfO L n) e ∧ Below w.heap.size w w' := by
  have HRK : Hid (∀ W, Below w.heap.size w W → GRow W v L) := fun W hW => hr.kept hW
  obtain ⟨a, cap, rfl, hcap, hmax, HROW⟩ := grow_value hr
  clear hr
  obtain ⟨W0, hW0⟩ : ∃ W0, W0 = (w.alloc (.cells #[.string ⟨n.toArray⟩] 9)).alloc (.cells #[.string ⟨#[]⟩, .string ⟨#[]⟩, .slice none 0 0] 26) := ⟨_, rfl⟩
  have HW0 : Hid ((w.alloc (.cells #[.string ⟨n.toArray⟩] 9)).alloc (.cells #[.string ⟨#[]⟩, .string ⟨#[]⟩, .slice none 0 0] 26) = W0) := hW0.symm
  have hs0 : W0.heap.size = w.heap.size + 1 + 1 := by rw [hW0]; simp
  have HZB : Hid (∀ W, Below W0.heap.size W0 W → W.heap[w.heap.size]? = some (.cells #[.string ⟨n.toArray⟩] 9) ∧ W.heap[w.heap.size + 1]? = some (.cells #[.string ⟨#[]⟩, .string ⟨#[]⟩, .slice none 0 0] 26) ∧ Below w.heap.size w W) := fun W hW => by rw [hW0] at hW; exact gap_below2 hW
  have HBW : Hid (∀ W, Below W0.heap.size W0 W → Below w.heap.size w W) := fun W hW => (HZB.out W hW).2.2
  have HNB : Hid (∀ W, Below W0.heap.size W0 W → W.cell? ⟨w.heap.size, 0, none⟩ = some (.string ⟨n.toArray⟩)) := fun W hW => by unfold World.cell?; rw [(HZB.out W hW).1]; rfl
  have HTR : Hid (∀ W W', Below W0.heap.size W0 W → Below W.heap.size W W' → Below W0.heap.size W0 W') := fun W W' h1 h2 => h1.trans (h2.mono h1.size)
  have hbd : Below W0.heap.size W0 W0.drew := (Below.refl _ _).drew
  have HO : Hid (gfO L n = if gfB L n = true then L.find? (forB n) else none) := rfl
  have HGB : Hid (gfB L n = (decide (0 < L.length) && goodG (gO L 0) L && nameB n && belowB n (gO L 0))) := rfl
  have HNO : Hid (gfB L n = false → ∀ base w' e, e = .returned (.tuple #[.agg #[.string ⟨#[]⟩, .string ⟨#[]⟩, .slice none 0 0], .bool false]) → GFRes base w' (gfO L n) e) := fun h base w' e he => by
    rw [HO.out, h]; exact he
  clear hW0
  by_cases h0 : L.length = 0
  · have HF := HNO.out (HGB.out.trans (by rw [decide_eq_false (show ¬ 0 < L.length by omega)]; rfl))
    have HF2 : Hid _ := HF
    have HE : Hid (L.length = 0) := h0
    clear HF HNO h0 HGB HO HROW
    obtain ⟨u11, hu11⟩ : ∃ u : Bool, u = true := ⟨_, rfl⟩
    have HU11 : Hid (u11 = true) := hu11
    clear hu11
    obtain ⟨u20, hu20⟩ : ∃ u : Bool, u = true := ⟨_, rfl⟩
    have HU20 : Hid (u20 = true) := hu20
    clear hu20
    obtain ⟨u25, hu25⟩ : ∃ u : Bool, u = true := ⟨_, rfl⟩
    have HU25 : Hid (u25 = true) := hu25
    clear hu25
    go_enter Tryd.func8, Tryd.ntmps8
    go_wp2_with fail
    rw [HW0.out]
    refine wp_region_quiet (C := fun W => Below W0.heap.size W0 W) (by kernel_rfl) (by kernel_rfl) hbd ?_
    refine wpQuiet_step (fun K hK => ?_)
    rw [if_pos (by rfl)]
    refine ⟨.slice a L.length cap, fun W hW => quiet_ok ?_, hK _ ?_⟩
    · have e5 := HE.out
      go_simp
      all_goals (try omega)
    clear hK K
    simp only [Act.put, List.setIfInBounds_toArray, List.set_cons_succ, List.set_cons_zero]
    refine wpQuiet_step (fun K hK => ?_)
    rw [if_pos (by rfl)]
    refine ⟨.int .i64 (L.length : Int), fun W hW => quiet_ok ?_, hK _ ?_⟩
    · have e5 := HE.out
      go_simp
      all_goals (try omega)
    clear hK K
    simp only [Act.put, List.setIfInBounds_toArray, List.set_cons_succ, List.set_cons_zero]
    refine wpQuiet_step (fun K hK => ?_)
    rw [if_pos (by rfl)]
    refine ⟨.bool true, fun W hW => quiet_ok ?_, hK _ ?_⟩
    · have e5 := HE.out
      go_simp
      all_goals (try omega)
    clear hK K
    simp only [Act.put, List.setIfInBounds_toArray, List.set_cons_succ, List.set_cons_zero]
    refine wpQuiet_step (fun K hK => ?_)
    rw [if_pos (by rfl)]
    refine ⟨.bool u11, fun W hW => quiet_ok ?_, hK _ ?_⟩
    · have e5 := HE.out
      have v11 := HU11.out
      go_simp
      all_goals (try omega)
    clear hK K
    simp only [Act.put, List.setIfInBounds_toArray, List.set_cons_succ, List.set_cons_zero]
    refine BigFrame.wpQuiet_skip (by show (some u11 == some false) = false; rw [HU11.out]; rfl) ?_
    simp only [Act.put, List.setIfInBounds_toArray, List.set_cons_succ, List.set_cons_zero]
    refine BigFrame.wpQuiet_skip (by show (some u11 == some false) = false; rw [HU11.out]; rfl) ?_
    simp only [Act.put, List.setIfInBounds_toArray, List.set_cons_succ, List.set_cons_zero]
    refine BigFrame.wpQuiet_skip (by show (some u11 == some false) = false; rw [HU11.out]; rfl) ?_
    simp only [Act.put, List.setIfInBounds_toArray, List.set_cons_succ, List.set_cons_zero]
    refine BigFrame.wpQuiet_skip (by show (some u11 == some false) = false; rw [HU11.out]; rfl) ?_
    simp only [Act.put, List.setIfInBounds_toArray, List.set_cons_succ, List.set_cons_zero]
    refine BigFrame.wpQuiet_skip (by show (some u11 == some false) = false; rw [HU11.out]; rfl) ?_
    simp only [Act.put, List.setIfInBounds_toArray, List.set_cons_succ, List.set_cons_zero]
    refine BigFrame.wpQuiet_skip (by show (some u11 == some false) = false; rw [HU11.out]; rfl) ?_
    simp only [Act.put, List.setIfInBounds_toArray, List.set_cons_succ, List.set_cons_zero]
    refine BigFrame.wpQuiet_skip (by show (some u11 == some false) = false; rw [HU11.out]; rfl) ?_
    simp only [Act.put, List.setIfInBounds_toArray, List.set_cons_succ, List.set_cons_zero]
    refine wpQuiet_step (fun K hK => ?_)
    rw [if_pos (by rfl)]
    refine ⟨.bool true, fun W hW => quiet_ok ?_, hK _ ?_⟩
    · have e5 := HE.out
      have v11 := HU11.out
      go_simp
      all_goals (try omega)
    clear hK K
    simp only [Act.put, List.setIfInBounds_toArray, List.set_cons_succ, List.set_cons_zero]
    refine wpQuiet_step (fun K hK => ?_)
    rw [if_pos (by rfl)]
    refine ⟨.bool u20, fun W hW => quiet_ok ?_, hK _ ?_⟩
    · have e5 := HE.out
      have v11 := HU11.out
      have v20 := HU20.out
      go_simp
      all_goals (try omega)
    clear hK K
    simp only [Act.put, List.setIfInBounds_toArray, List.set_cons_succ, List.set_cons_zero]
    refine BigFrame.wpQuiet_skip (by show (some u20 == some false) = false; rw [HU20.out]; rfl) ?_
    simp only [Act.put, List.setIfInBounds_toArray, List.set_cons_succ, List.set_cons_zero]
    refine BigFrame.wpQuiet_skip (by show (some u20 == some false) = false; rw [HU20.out]; rfl) ?_
    simp only [Act.put, List.setIfInBounds_toArray, List.set_cons_succ, List.set_cons_zero]
    refine BigFrame.wpQuiet_skip (by show (some u20 == some false) = false; rw [HU20.out]; rfl) ?_
    simp only [Act.put, List.setIfInBounds_toArray, List.set_cons_succ, List.set_cons_zero]
    refine wpQuiet_step (fun K hK => ?_)
    rw [if_pos (by rfl)]
    refine ⟨.bool true, fun W hW => quiet_ok ?_, hK _ ?_⟩
    · have e5 := HE.out
      have v11 := HU11.out
      have v20 := HU20.out
      go_simp
      all_goals (try omega)
    clear hK K
    simp only [Act.put, List.setIfInBounds_toArray, List.set_cons_succ, List.set_cons_zero]
    refine wpQuiet_step (fun K hK => ?_)
    rw [if_pos (by rfl)]
    refine ⟨.bool u25, fun W hW => quiet_ok ?_, hK _ ?_⟩
    · have e5 := HE.out
      have v11 := HU11.out
      have v20 := HU20.out
      have v25 := HU25.out
      go_simp
      all_goals (try omega)
    clear hK K
    simp only [Act.put, List.setIfInBounds_toArray, List.set_cons_succ, List.set_cons_zero]
    refine BigFrame.wpQuiet_skip (by show (some u25 == some false) = false; rw [HU25.out]; rfl) ?_
    simp only [Act.put, List.setIfInBounds_toArray, List.set_cons_succ, List.set_cons_zero]
    refine BigFrame.wpQuiet_skip (by show (some u25 == some false) = false; rw [HU25.out]; rfl) ?_
    simp only [Act.put, List.setIfInBounds_toArray, List.set_cons_succ, List.set_cons_zero]
    refine BigFrame.wpQuiet_skip (by show (some u25 == some false) = false; rw [HU25.out]; rfl) ?_
    simp only [Act.put, List.setIfInBounds_toArray, List.set_cons_succ, List.set_cons_zero]
    refine BigFrame.wpQuiet_skip (by show (some u25 == some false) = false; rw [HU25.out]; rfl) ?_
    simp only [Act.put, List.setIfInBounds_toArray, List.set_cons_succ, List.set_cons_zero]
    refine BigFrame.wpQuiet_skip (by show (some u25 == some false) = false; rw [HU25.out]; rfl) ?_
    simp only [Act.put, List.setIfInBounds_toArray, List.set_cons_succ, List.set_cons_zero]
    refine BigFrame.wpQuiet_skip (by show (some u25 == some false) = false; rw [HU25.out]; rfl) ?_
    simp only [Act.put, List.setIfInBounds_toArray, List.set_cons_succ, List.set_cons_zero]
    refine BigFrame.wpQuiet_skip (by show (some u25 == some false) = false; rw [HU25.out]; rfl) ?_
    simp only [Act.put, List.setIfInBounds_toArray, List.set_cons_succ, List.set_cons_zero]
    refine wpQuiet_step (fun K hK => ?_)
    rw [if_pos (by rfl)]
    refine ⟨.bool true, fun W hW => quiet_ok ?_, hK _ ?_⟩
    · have e5 := HE.out
      have v11 := HU11.out
      have v20 := HU20.out
      have v25 := HU25.out
      go_simp
      all_goals (try omega)
    clear hK K
    simp only [Act.put, List.setIfInBounds_toArray, List.set_cons_succ, List.set_cons_zero]
    refine wpQuiet_nil ?_
    intro W hW
    have hbW := HBW.out W hW
    obtain ⟨_, hk1, _⟩ := HZB.out _ hW
    obtain ⟨⟨z0, z1, z2⟩, ⟨f0, f1, f2⟩⟩ := gap_cells hk1
    have HK1 : Hid _ := hk1
    clear hk1
    go_wp2_with fail
    (try simp only [Exit.inBlock, Exit.then])
    refine bodyPost_ret (results_gap_tmp rfl _ _ (w.heap.size + 1) 26 #[.string ⟨#[]⟩, .string ⟨#[]⟩, .slice none 0 0] (0, 0) _ (.bool false) rfl rfl ?_ Tryd.underlying26 rfl (by kernel_rfl)) rfl ⟨HF2.out _ _ _ rfl, gput3_below hbW (Nat.le_succ _) _ _ _⟩
    exact gput3_heap HK1.out
  have hp : 0 < L.length := by omega
  obtain ⟨b, o, ha, hbl, hcel⟩ := HROW.out hp
  subst ha
  obtain ⟨v0, q0⟩ := hcel 0 hp
  rw [Nat.zero_mul, Nat.add_zero] at q0
  unfold GapAt at q0
  have HC0 : Hid (∀ W, Below w.heap.size w W → W.cell? ⟨b, o, none⟩ = some (.string ⟨(L[0]'hp).1.toArray⟩)) := fun W hW => by rw [hW.cell (p := ⟨b, o, none⟩) hbl]; exact q0.1
  have hl0 := (hx.out _ (List.getElem_mem hp)).1
  have HS0 : Hid (gO L 0 = (L[0]'hp).1) := gO_at hp
  obtain ⟨s0, hs00⟩ : ∃ s, s = (L[0]'hp).1 := ⟨_, rfl⟩
  rw [← hs00] at HC0 hl0 HS0
  have HX : Hid (∀ W, Below W0.heap.size W0 W → W.cell? ⟨w.heap.size, 0, none⟩ = some (.string ⟨n.toArray⟩) ∧ W.cell? ⟨b, o, none⟩ = some (.string ⟨s0.toArray⟩) ∧ Below w.heap.size w W) := fun W hW => ⟨HNB.out W hW, HC0.out W (HBW.out W hW), HBW.out W hW⟩
  have HGG : Hid (∀ W, Below w.heap.size w W → Calls Tryd.prog 23 #[.string ⟨s0.toArray⟩, .slice (some ⟨b, o, none⟩) L.length cap] W fun e w' => e = .returned (.bool (goodG s0 L)) ∧ Below W.heap.size W w') := fun W hW => iGoodGaps_any s0 _ L W (HRK.out W hW) hx hl0 (hE.below hW)
  have HGN : Hid (∀ W, Below w.heap.size w W → Calls Tryd.prog 24 #[.string ⟨n.toArray⟩] W fun e w' => e = .returned (.bool (nameB n)) ∧ Below W.heap.size W w') := fun W hW => iGoodName_any ⟨n.toArray⟩ W (hE.below hW)
  have HLB : Hid (∀ W, Calls Tryd.prog 25 #[.string ⟨n.toArray⟩, .string ⟨s0.toArray⟩] W fun e w' => e = .returned (.bool (belowB n s0)) ∧ Below W.heap.size W w') := fun W => (liesBelow_any ⟨n.toArray⟩ ⟨s0.toArray⟩ W (by rw [size_list]; omega) (by rw [size_list]; omega)).mono fun e w' h => ⟨h.1, by rw [h.2]; exact Below.refl _ _⟩
  rw [HS0.out, decide_eq_true hp] at HGB
  have hl0i : (0 : Int) < (L.length : Int) := by omega
  have hl0n : 0 < L.length := hp
  have e0 : ((L.length : Int) == 0) = false := beq_eq_false_iff_ne.2 (by omega)
  have e0n : ¬ L = [] := fun h => by rw [h] at hp; simp at hp
  clear hs00 hcel HROW h0 q0 hp
  cases hg : goodG s0 L with
  | false =>
    have HF := HNO.out (HGB.out.trans (by rw [hg]; rfl))
    have HF2 : Hid _ := HF
    rw [hg] at HGG
    clear HF HNO HGB HO hg
    obtain ⟨u20, hu20⟩ : ∃ u : Bool, u = true := ⟨_, rfl⟩
    have HU20 : Hid (u20 = true) := hu20
    clear hu20
    obtain ⟨u25, hu25⟩ : ∃ u : Bool, u = true := ⟨_, rfl⟩
    have HU25 : Hid (u25 = true) := hu25
    clear hu25
    go_enter Tryd.func8, Tryd.ntmps8
    go_wp2_with fail
    rw [HW0.out]
    refine wp_region_quiet (C := fun W => Below W0.heap.size W0 W) (by kernel_rfl) (by kernel_rfl) hbd ?_
    refine wpQuiet_step (fun K hK => ?_)
    rw [if_pos (by rfl)]
    refine ⟨.slice (some ⟨b, o, none⟩) L.length cap, fun W hW => quiet_ok ?_, hK _ ?_⟩
    · have q := HX.out W hW
      obtain ⟨m0, m1, _⟩ := q
      go_simp
      all_goals (try omega)
    clear hK K
    simp only [Act.put, List.setIfInBounds_toArray, List.set_cons_succ, List.set_cons_zero]
    refine wpQuiet_step (fun K hK => ?_)
    rw [if_pos (by rfl)]
    refine ⟨.int .i64 (L.length : Int), fun W hW => quiet_ok ?_, hK _ ?_⟩
    · have q := HX.out W hW
      obtain ⟨m0, m1, _⟩ := q
      go_simp
      all_goals (try omega)
    clear hK K
    simp only [Act.put, List.setIfInBounds_toArray, List.set_cons_succ, List.set_cons_zero]
    refine wpQuiet_step (fun K hK => ?_)
    rw [if_pos (by rfl)]
    refine ⟨.bool false, fun W hW => quiet_ok ?_, hK _ ?_⟩
    · have q := HX.out W hW
      obtain ⟨m0, m1, _⟩ := q
      go_simp
      all_goals (try omega)
    clear hK K
    simp only [Act.put, List.setIfInBounds_toArray, List.set_cons_succ, List.set_cons_zero]
    refine wpQuiet_step (fun K hK => ?_)
    rw [if_pos (by rfl)]
    refine ⟨.bool false, fun W hW => quiet_ok ?_, hK _ ?_⟩
    · have q := HX.out W hW
      obtain ⟨m0, m1, _⟩ := q
      go_simp
      all_goals (try omega)
    clear hK K
    simp only [Act.put, List.setIfInBounds_toArray, List.set_cons_succ, List.set_cons_zero]
    refine wpQuiet_step (fun K hK => ?_)
    rw [if_pos (by rfl)]
    refine ⟨.slice (some ⟨b, o, none⟩) L.length cap, fun W hW => quiet_ok ?_, hK _ ?_⟩
    · have q := HX.out W hW
      obtain ⟨m0, m1, _⟩ := q
      go_simp
      all_goals (try omega)
    clear hK K
    simp only [Act.put, List.setIfInBounds_toArray, List.set_cons_succ, List.set_cons_zero]
    refine wpQuiet_step (fun K hK => ?_)
    rw [if_pos (by rfl)]
    refine ⟨.pointer (some ⟨b, o, none⟩), fun W hW => quiet_ok ?_, hK _ ?_⟩
    · have q := HX.out W hW
      obtain ⟨m0, m1, _⟩ := q
      go_simp
      all_goals (try omega)
    clear hK K
    simp only [Act.put, List.setIfInBounds_toArray, List.set_cons_succ, List.set_cons_zero]
    refine wpQuiet_step (fun K hK => ?_)
    rw [if_pos (by rfl)]
    refine ⟨.pointer (some ⟨b, o, none⟩), fun W hW => quiet_ok ?_, hK _ ?_⟩
    · have q := HX.out W hW
      obtain ⟨m0, m1, _⟩ := q
      go_simp
      all_goals (try omega)
    clear hK K
    simp only [Act.put, List.setIfInBounds_toArray, List.set_cons_succ, List.set_cons_zero]
    refine wpQuiet_step (fun K hK => ?_)
    rw [if_pos (by rfl)]
    refine ⟨.string ⟨s0.toArray⟩, fun W hW => quiet_ok ?_, hK _ ?_⟩
    · have q := HX.out W hW
      obtain ⟨m0, m1, _⟩ := q
      go_simp
      all_goals (try omega)
    clear hK K
    simp only [Act.put, List.setIfInBounds_toArray, List.set_cons_succ, List.set_cons_zero]
    refine wpQuiet_step (fun K hK => ?_)
    rw [if_pos (by rfl)]
    refine ⟨.slice (some ⟨b, o, none⟩) L.length cap, fun W hW => quiet_ok ?_, hK _ ?_⟩
    · have q := HX.out W hW
      obtain ⟨m0, m1, _⟩ := q
      go_simp
      all_goals (try omega)
    clear hK K
    simp only [Act.put, List.setIfInBounds_toArray, List.set_cons_succ, List.set_cons_zero]
    refine wpQuiet_step (fun K hK => ?_)
    rw [if_pos (by rfl)]
    refine ⟨.bool false, fun W hW => quiet_call (f := 23) (args := #[.string ⟨s0.toArray⟩, .slice (some ⟨b, o, none⟩) L.length cap]) ?_ ?_, hK _ ?_⟩
    · go_simp
    · exact (HGG.out W (HBW.out W hW)).mono fun e w'' h => ⟨h.1, HTR.out _ _ hW h.2⟩
    clear hK K
    simp only [Act.put, List.setIfInBounds_toArray, List.set_cons_succ, List.set_cons_zero]
    refine wpQuiet_step (fun K hK => ?_)
    rw [if_pos (by rfl)]
    refine ⟨.bool true, fun W hW => quiet_ok ?_, hK _ ?_⟩
    · have q := HX.out W hW
      obtain ⟨m0, m1, _⟩ := q
      go_simp
      all_goals (try omega)
    clear hK K
    simp only [Act.put, List.setIfInBounds_toArray, List.set_cons_succ, List.set_cons_zero]
    refine wpQuiet_step (fun K hK => ?_)
    rw [if_pos (by rfl)]
    refine ⟨.bool true, fun W hW => quiet_ok ?_, hK _ ?_⟩
    · have q := HX.out W hW
      obtain ⟨m0, m1, _⟩ := q
      go_simp
      all_goals (try omega)
    clear hK K
    simp only [Act.put, List.setIfInBounds_toArray, List.set_cons_succ, List.set_cons_zero]
    refine wpQuiet_step (fun K hK => ?_)
    rw [if_pos (by rfl)]
    refine ⟨.bool u20, fun W hW => quiet_ok ?_, hK _ ?_⟩
    · have q := HX.out W hW
      obtain ⟨m0, m1, _⟩ := q
      have v20 := HU20.out
      go_simp
      all_goals (try omega)
    clear hK K
    simp only [Act.put, List.setIfInBounds_toArray, List.set_cons_succ, List.set_cons_zero]
    refine BigFrame.wpQuiet_skip (by show (some u20 == some false) = false; rw [HU20.out]; rfl) ?_
    simp only [Act.put, List.setIfInBounds_toArray, List.set_cons_succ, List.set_cons_zero]
    refine BigFrame.wpQuiet_skip (by show (some u20 == some false) = false; rw [HU20.out]; rfl) ?_
    simp only [Act.put, List.setIfInBounds_toArray, List.set_cons_succ, List.set_cons_zero]
    refine BigFrame.wpQuiet_skip (by show (some u20 == some false) = false; rw [HU20.out]; rfl) ?_
    simp only [Act.put, List.setIfInBounds_toArray, List.set_cons_succ, List.set_cons_zero]
    refine wpQuiet_step (fun K hK => ?_)
    rw [if_pos (by rfl)]
    refine ⟨.bool true, fun W hW => quiet_ok ?_, hK _ ?_⟩
    · have q := HX.out W hW
      obtain ⟨m0, m1, _⟩ := q
      have v20 := HU20.out
      go_simp
      all_goals (try omega)
    clear hK K
    simp only [Act.put, List.setIfInBounds_toArray, List.set_cons_succ, List.set_cons_zero]
    refine wpQuiet_step (fun K hK => ?_)
    rw [if_pos (by rfl)]
    refine ⟨.bool u25, fun W hW => quiet_ok ?_, hK _ ?_⟩
    · have q := HX.out W hW
      obtain ⟨m0, m1, _⟩ := q
      have v20 := HU20.out
      have v25 := HU25.out
      go_simp
      all_goals (try omega)
    clear hK K
    simp only [Act.put, List.setIfInBounds_toArray, List.set_cons_succ, List.set_cons_zero]
    refine BigFrame.wpQuiet_skip (by show (some u25 == some false) = false; rw [HU25.out]; rfl) ?_
    simp only [Act.put, List.setIfInBounds_toArray, List.set_cons_succ, List.set_cons_zero]
    refine BigFrame.wpQuiet_skip (by show (some u25 == some false) = false; rw [HU25.out]; rfl) ?_
    simp only [Act.put, List.setIfInBounds_toArray, List.set_cons_succ, List.set_cons_zero]
    refine BigFrame.wpQuiet_skip (by show (some u25 == some false) = false; rw [HU25.out]; rfl) ?_
    simp only [Act.put, List.setIfInBounds_toArray, List.set_cons_succ, List.set_cons_zero]
    refine BigFrame.wpQuiet_skip (by show (some u25 == some false) = false; rw [HU25.out]; rfl) ?_
    simp only [Act.put, List.setIfInBounds_toArray, List.set_cons_succ, List.set_cons_zero]
    refine BigFrame.wpQuiet_skip (by show (some u25 == some false) = false; rw [HU25.out]; rfl) ?_
    simp only [Act.put, List.setIfInBounds_toArray, List.set_cons_succ, List.set_cons_zero]
    refine BigFrame.wpQuiet_skip (by show (some u25 == some false) = false; rw [HU25.out]; rfl) ?_
    simp only [Act.put, List.setIfInBounds_toArray, List.set_cons_succ, List.set_cons_zero]
    refine BigFrame.wpQuiet_skip (by show (some u25 == some false) = false; rw [HU25.out]; rfl) ?_
    simp only [Act.put, List.setIfInBounds_toArray, List.set_cons_succ, List.set_cons_zero]
    refine wpQuiet_step (fun K hK => ?_)
    rw [if_pos (by rfl)]
    refine ⟨.bool true, fun W hW => quiet_ok ?_, hK _ ?_⟩
    · have q := HX.out W hW
      obtain ⟨m0, m1, _⟩ := q
      have v20 := HU20.out
      have v25 := HU25.out
      go_simp
      all_goals (try omega)
    clear hK K
    simp only [Act.put, List.setIfInBounds_toArray, List.set_cons_succ, List.set_cons_zero]
    refine wpQuiet_nil ?_
    intro W hW
    have hbW := HBW.out W hW
    obtain ⟨_, hk1, _⟩ := HZB.out _ hW
    obtain ⟨⟨z0, z1, z2⟩, ⟨f0, f1, f2⟩⟩ := gap_cells hk1
    have HK1 : Hid _ := hk1
    clear hk1
    go_wp2_with fail
    (try simp only [Exit.inBlock, Exit.then])
    refine bodyPost_ret (results_gap_tmp rfl _ _ (w.heap.size + 1) 26 #[.string ⟨#[]⟩, .string ⟨#[]⟩, .slice none 0 0] (0, 0) _ (.bool false) rfl rfl ?_ Tryd.underlying26 rfl (by kernel_rfl)) rfl ⟨HF2.out _ _ _ rfl, gput3_below hbW (Nat.le_succ _) _ _ _⟩
    exact gput3_heap HK1.out
  | true =>
  rw [hg] at HGG HGB
  cases hnn : nameB n with
  | false =>
    have HF := HNO.out (HGB.out.trans (by rw [hnn]; rfl))
    have HF2 : Hid _ := HF
    rw [hnn] at HGN
    clear HF HNO HGB HO hg hnn
    obtain ⟨u25, hu25⟩ : ∃ u : Bool, u = true := ⟨_, rfl⟩
    have HU25 : Hid (u25 = true) := hu25
    clear hu25
    go_enter Tryd.func8, Tryd.ntmps8
    go_wp2_with fail
    rw [HW0.out]
    refine wp_region_quiet (C := fun W => Below W0.heap.size W0 W) (by kernel_rfl) (by kernel_rfl) hbd ?_
    refine wpQuiet_step (fun K hK => ?_)
    rw [if_pos (by rfl)]
    refine ⟨.slice (some ⟨b, o, none⟩) L.length cap, fun W hW => quiet_ok ?_, hK _ ?_⟩
    · have q := HX.out W hW
      obtain ⟨m0, m1, _⟩ := q
      go_simp
      all_goals (try omega)
    clear hK K
    simp only [Act.put, List.setIfInBounds_toArray, List.set_cons_succ, List.set_cons_zero]
    refine wpQuiet_step (fun K hK => ?_)
    rw [if_pos (by rfl)]
    refine ⟨.int .i64 (L.length : Int), fun W hW => quiet_ok ?_, hK _ ?_⟩
    · have q := HX.out W hW
      obtain ⟨m0, m1, _⟩ := q
      go_simp
      all_goals (try omega)
    clear hK K
    simp only [Act.put, List.setIfInBounds_toArray, List.set_cons_succ, List.set_cons_zero]
    refine wpQuiet_step (fun K hK => ?_)
    rw [if_pos (by rfl)]
    refine ⟨.bool false, fun W hW => quiet_ok ?_, hK _ ?_⟩
    · have q := HX.out W hW
      obtain ⟨m0, m1, _⟩ := q
      go_simp
      all_goals (try omega)
    clear hK K
    simp only [Act.put, List.setIfInBounds_toArray, List.set_cons_succ, List.set_cons_zero]
    refine wpQuiet_step (fun K hK => ?_)
    rw [if_pos (by rfl)]
    refine ⟨.bool false, fun W hW => quiet_ok ?_, hK _ ?_⟩
    · have q := HX.out W hW
      obtain ⟨m0, m1, _⟩ := q
      go_simp
      all_goals (try omega)
    clear hK K
    simp only [Act.put, List.setIfInBounds_toArray, List.set_cons_succ, List.set_cons_zero]
    refine wpQuiet_step (fun K hK => ?_)
    rw [if_pos (by rfl)]
    refine ⟨.slice (some ⟨b, o, none⟩) L.length cap, fun W hW => quiet_ok ?_, hK _ ?_⟩
    · have q := HX.out W hW
      obtain ⟨m0, m1, _⟩ := q
      go_simp
      all_goals (try omega)
    clear hK K
    simp only [Act.put, List.setIfInBounds_toArray, List.set_cons_succ, List.set_cons_zero]
    refine wpQuiet_step (fun K hK => ?_)
    rw [if_pos (by rfl)]
    refine ⟨.pointer (some ⟨b, o, none⟩), fun W hW => quiet_ok ?_, hK _ ?_⟩
    · have q := HX.out W hW
      obtain ⟨m0, m1, _⟩ := q
      go_simp
      all_goals (try omega)
    clear hK K
    simp only [Act.put, List.setIfInBounds_toArray, List.set_cons_succ, List.set_cons_zero]
    refine wpQuiet_step (fun K hK => ?_)
    rw [if_pos (by rfl)]
    refine ⟨.pointer (some ⟨b, o, none⟩), fun W hW => quiet_ok ?_, hK _ ?_⟩
    · have q := HX.out W hW
      obtain ⟨m0, m1, _⟩ := q
      go_simp
      all_goals (try omega)
    clear hK K
    simp only [Act.put, List.setIfInBounds_toArray, List.set_cons_succ, List.set_cons_zero]
    refine wpQuiet_step (fun K hK => ?_)
    rw [if_pos (by rfl)]
    refine ⟨.string ⟨s0.toArray⟩, fun W hW => quiet_ok ?_, hK _ ?_⟩
    · have q := HX.out W hW
      obtain ⟨m0, m1, _⟩ := q
      go_simp
      all_goals (try omega)
    clear hK K
    simp only [Act.put, List.setIfInBounds_toArray, List.set_cons_succ, List.set_cons_zero]
    refine wpQuiet_step (fun K hK => ?_)
    rw [if_pos (by rfl)]
    refine ⟨.slice (some ⟨b, o, none⟩) L.length cap, fun W hW => quiet_ok ?_, hK _ ?_⟩
    · have q := HX.out W hW
      obtain ⟨m0, m1, _⟩ := q
      go_simp
      all_goals (try omega)
    clear hK K
    simp only [Act.put, List.setIfInBounds_toArray, List.set_cons_succ, List.set_cons_zero]
    refine wpQuiet_step (fun K hK => ?_)
    rw [if_pos (by rfl)]
    refine ⟨.bool true, fun W hW => quiet_call (f := 23) (args := #[.string ⟨s0.toArray⟩, .slice (some ⟨b, o, none⟩) L.length cap]) ?_ ?_, hK _ ?_⟩
    · go_simp
    · exact (HGG.out W (HBW.out W hW)).mono fun e w'' h => ⟨h.1, HTR.out _ _ hW h.2⟩
    clear hK K
    simp only [Act.put, List.setIfInBounds_toArray, List.set_cons_succ, List.set_cons_zero]
    refine wpQuiet_step (fun K hK => ?_)
    rw [if_pos (by rfl)]
    refine ⟨.bool false, fun W hW => quiet_ok ?_, hK _ ?_⟩
    · have q := HX.out W hW
      obtain ⟨m0, m1, _⟩ := q
      go_simp
      all_goals (try omega)
    clear hK K
    simp only [Act.put, List.setIfInBounds_toArray, List.set_cons_succ, List.set_cons_zero]
    refine wpQuiet_step (fun K hK => ?_)
    rw [if_pos (by rfl)]
    refine ⟨.bool false, fun W hW => quiet_ok ?_, hK _ ?_⟩
    · have q := HX.out W hW
      obtain ⟨m0, m1, _⟩ := q
      go_simp
      all_goals (try omega)
    clear hK K
    simp only [Act.put, List.setIfInBounds_toArray, List.set_cons_succ, List.set_cons_zero]
    refine wpQuiet_step (fun K hK => ?_)
    rw [if_pos (by rfl)]
    refine ⟨.bool false, fun W hW => quiet_ok ?_, hK _ ?_⟩
    · have q := HX.out W hW
      obtain ⟨m0, m1, _⟩ := q
      go_simp
      all_goals (try omega)
    clear hK K
    simp only [Act.put, List.setIfInBounds_toArray, List.set_cons_succ, List.set_cons_zero]
    refine wpQuiet_step (fun K hK => ?_)
    rw [if_pos (by rfl)]
    refine ⟨.string ⟨n.toArray⟩, fun W hW => quiet_ok ?_, hK _ ?_⟩
    · have q := HX.out W hW
      obtain ⟨m0, m1, _⟩ := q
      go_simp
      all_goals (try omega)
    clear hK K
    simp only [Act.put, List.setIfInBounds_toArray, List.set_cons_succ, List.set_cons_zero]
    refine wpQuiet_step (fun K hK => ?_)
    rw [if_pos (by rfl)]
    refine ⟨.bool false, fun W hW => quiet_call (f := 24) (args := #[.string ⟨n.toArray⟩]) ?_ ?_, hK _ ?_⟩
    · go_simp
    · exact (HGN.out W (HBW.out W hW)).mono fun e w'' h => ⟨h.1, HTR.out _ _ hW h.2⟩
    clear hK K
    simp only [Act.put, List.setIfInBounds_toArray, List.set_cons_succ, List.set_cons_zero]
    refine wpQuiet_step (fun K hK => ?_)
    rw [if_pos (by rfl)]
    refine ⟨.bool true, fun W hW => quiet_ok ?_, hK _ ?_⟩
    · have q := HX.out W hW
      obtain ⟨m0, m1, _⟩ := q
      go_simp
      all_goals (try omega)
    clear hK K
    simp only [Act.put, List.setIfInBounds_toArray, List.set_cons_succ, List.set_cons_zero]
    refine wpQuiet_step (fun K hK => ?_)
    rw [if_pos (by rfl)]
    refine ⟨.bool true, fun W hW => quiet_ok ?_, hK _ ?_⟩
    · have q := HX.out W hW
      obtain ⟨m0, m1, _⟩ := q
      go_simp
      all_goals (try omega)
    clear hK K
    simp only [Act.put, List.setIfInBounds_toArray, List.set_cons_succ, List.set_cons_zero]
    refine wpQuiet_step (fun K hK => ?_)
    rw [if_pos (by rfl)]
    refine ⟨.bool u25, fun W hW => quiet_ok ?_, hK _ ?_⟩
    · have q := HX.out W hW
      obtain ⟨m0, m1, _⟩ := q
      have v25 := HU25.out
      go_simp
      all_goals (try omega)
    clear hK K
    simp only [Act.put, List.setIfInBounds_toArray, List.set_cons_succ, List.set_cons_zero]
    refine BigFrame.wpQuiet_skip (by show (some u25 == some false) = false; rw [HU25.out]; rfl) ?_
    simp only [Act.put, List.setIfInBounds_toArray, List.set_cons_succ, List.set_cons_zero]
    refine BigFrame.wpQuiet_skip (by show (some u25 == some false) = false; rw [HU25.out]; rfl) ?_
    simp only [Act.put, List.setIfInBounds_toArray, List.set_cons_succ, List.set_cons_zero]
    refine BigFrame.wpQuiet_skip (by show (some u25 == some false) = false; rw [HU25.out]; rfl) ?_
    simp only [Act.put, List.setIfInBounds_toArray, List.set_cons_succ, List.set_cons_zero]
    refine BigFrame.wpQuiet_skip (by show (some u25 == some false) = false; rw [HU25.out]; rfl) ?_
    simp only [Act.put, List.setIfInBounds_toArray, List.set_cons_succ, List.set_cons_zero]
    refine BigFrame.wpQuiet_skip (by show (some u25 == some false) = false; rw [HU25.out]; rfl) ?_
    simp only [Act.put, List.setIfInBounds_toArray, List.set_cons_succ, List.set_cons_zero]
    refine BigFrame.wpQuiet_skip (by show (some u25 == some false) = false; rw [HU25.out]; rfl) ?_
    simp only [Act.put, List.setIfInBounds_toArray, List.set_cons_succ, List.set_cons_zero]
    refine BigFrame.wpQuiet_skip (by show (some u25 == some false) = false; rw [HU25.out]; rfl) ?_
    simp only [Act.put, List.setIfInBounds_toArray, List.set_cons_succ, List.set_cons_zero]
    refine wpQuiet_step (fun K hK => ?_)
    rw [if_pos (by rfl)]
    refine ⟨.bool true, fun W hW => quiet_ok ?_, hK _ ?_⟩
    · have q := HX.out W hW
      obtain ⟨m0, m1, _⟩ := q
      have v25 := HU25.out
      go_simp
      all_goals (try omega)
    clear hK K
    simp only [Act.put, List.setIfInBounds_toArray, List.set_cons_succ, List.set_cons_zero]
    refine wpQuiet_nil ?_
    intro W hW
    have hbW := HBW.out W hW
    obtain ⟨_, hk1, _⟩ := HZB.out _ hW
    obtain ⟨⟨z0, z1, z2⟩, ⟨f0, f1, f2⟩⟩ := gap_cells hk1
    have HK1 : Hid _ := hk1
    clear hk1
    go_wp2_with fail
    (try simp only [Exit.inBlock, Exit.then])
    refine bodyPost_ret (results_gap_tmp rfl _ _ (w.heap.size + 1) 26 #[.string ⟨#[]⟩, .string ⟨#[]⟩, .slice none 0 0] (0, 0) _ (.bool false) rfl rfl ?_ Tryd.underlying26 rfl (by kernel_rfl)) rfl ⟨HF2.out _ _ _ rfl, gput3_below hbW (Nat.le_succ _) _ _ _⟩
    exact gput3_heap HK1.out
  | true =>
  rw [hnn] at HGN HGB
  cases hbb : belowB n s0 with
  | false =>
    have HF := HNO.out (HGB.out.trans (by rw [hbb]; rfl))
    have HF2 : Hid _ := HF
    rw [hbb] at HLB
    clear HF HNO HGB HO hg hnn hbb
    go_enter Tryd.func8, Tryd.ntmps8
    go_wp2_with fail
    rw [HW0.out]
    refine wp_region_quiet (C := fun W => Below W0.heap.size W0 W) (by kernel_rfl) (by kernel_rfl) hbd ?_
    refine wpQuiet_step (fun K hK => ?_)
    rw [if_pos (by rfl)]
    refine ⟨.slice (some ⟨b, o, none⟩) L.length cap, fun W hW => quiet_ok ?_, hK _ ?_⟩
    · have q := HX.out W hW
      obtain ⟨m0, m1, _⟩ := q
      go_simp
      all_goals (try omega)
    clear hK K
    simp only [Act.put, List.setIfInBounds_toArray, List.set_cons_succ, List.set_cons_zero]
    refine wpQuiet_step (fun K hK => ?_)
    rw [if_pos (by rfl)]
    refine ⟨.int .i64 (L.length : Int), fun W hW => quiet_ok ?_, hK _ ?_⟩
    · have q := HX.out W hW
      obtain ⟨m0, m1, _⟩ := q
      go_simp
      all_goals (try omega)
    clear hK K
    simp only [Act.put, List.setIfInBounds_toArray, List.set_cons_succ, List.set_cons_zero]
    refine wpQuiet_step (fun K hK => ?_)
    rw [if_pos (by rfl)]
    refine ⟨.bool false, fun W hW => quiet_ok ?_, hK _ ?_⟩
    · have q := HX.out W hW
      obtain ⟨m0, m1, _⟩ := q
      go_simp
      all_goals (try omega)
    clear hK K
    simp only [Act.put, List.setIfInBounds_toArray, List.set_cons_succ, List.set_cons_zero]
    refine wpQuiet_step (fun K hK => ?_)
    rw [if_pos (by rfl)]
    refine ⟨.bool false, fun W hW => quiet_ok ?_, hK _ ?_⟩
    · have q := HX.out W hW
      obtain ⟨m0, m1, _⟩ := q
      go_simp
      all_goals (try omega)
    clear hK K
    simp only [Act.put, List.setIfInBounds_toArray, List.set_cons_succ, List.set_cons_zero]
    refine wpQuiet_step (fun K hK => ?_)
    rw [if_pos (by rfl)]
    refine ⟨.slice (some ⟨b, o, none⟩) L.length cap, fun W hW => quiet_ok ?_, hK _ ?_⟩
    · have q := HX.out W hW
      obtain ⟨m0, m1, _⟩ := q
      go_simp
      all_goals (try omega)
    clear hK K
    simp only [Act.put, List.setIfInBounds_toArray, List.set_cons_succ, List.set_cons_zero]
    refine wpQuiet_step (fun K hK => ?_)
    rw [if_pos (by rfl)]
    refine ⟨.pointer (some ⟨b, o, none⟩), fun W hW => quiet_ok ?_, hK _ ?_⟩
    · have q := HX.out W hW
      obtain ⟨m0, m1, _⟩ := q
      go_simp
      all_goals (try omega)
    clear hK K
    simp only [Act.put, List.setIfInBounds_toArray, List.set_cons_succ, List.set_cons_zero]
    refine wpQuiet_step (fun K hK => ?_)
    rw [if_pos (by rfl)]
    refine ⟨.pointer (some ⟨b, o, none⟩), fun W hW => quiet_ok ?_, hK _ ?_⟩
    · have q := HX.out W hW
      obtain ⟨m0, m1, _⟩ := q
      go_simp
      all_goals (try omega)
    clear hK K
    simp only [Act.put, List.setIfInBounds_toArray, List.set_cons_succ, List.set_cons_zero]
    refine wpQuiet_step (fun K hK => ?_)
    rw [if_pos (by rfl)]
    refine ⟨.string ⟨s0.toArray⟩, fun W hW => quiet_ok ?_, hK _ ?_⟩
    · have q := HX.out W hW
      obtain ⟨m0, m1, _⟩ := q
      go_simp
      all_goals (try omega)
    clear hK K
    simp only [Act.put, List.setIfInBounds_toArray, List.set_cons_succ, List.set_cons_zero]
    refine wpQuiet_step (fun K hK => ?_)
    rw [if_pos (by rfl)]
    refine ⟨.slice (some ⟨b, o, none⟩) L.length cap, fun W hW => quiet_ok ?_, hK _ ?_⟩
    · have q := HX.out W hW
      obtain ⟨m0, m1, _⟩ := q
      go_simp
      all_goals (try omega)
    clear hK K
    simp only [Act.put, List.setIfInBounds_toArray, List.set_cons_succ, List.set_cons_zero]
    refine wpQuiet_step (fun K hK => ?_)
    rw [if_pos (by rfl)]
    refine ⟨.bool true, fun W hW => quiet_call (f := 23) (args := #[.string ⟨s0.toArray⟩, .slice (some ⟨b, o, none⟩) L.length cap]) ?_ ?_, hK _ ?_⟩
    · go_simp
    · exact (HGG.out W (HBW.out W hW)).mono fun e w'' h => ⟨h.1, HTR.out _ _ hW h.2⟩
    clear hK K
    simp only [Act.put, List.setIfInBounds_toArray, List.set_cons_succ, List.set_cons_zero]
    refine wpQuiet_step (fun K hK => ?_)
    rw [if_pos (by rfl)]
    refine ⟨.bool false, fun W hW => quiet_ok ?_, hK _ ?_⟩
    · have q := HX.out W hW
      obtain ⟨m0, m1, _⟩ := q
      go_simp
      all_goals (try omega)
    clear hK K
    simp only [Act.put, List.setIfInBounds_toArray, List.set_cons_succ, List.set_cons_zero]
    refine wpQuiet_step (fun K hK => ?_)
    rw [if_pos (by rfl)]
    refine ⟨.bool false, fun W hW => quiet_ok ?_, hK _ ?_⟩
    · have q := HX.out W hW
      obtain ⟨m0, m1, _⟩ := q
      go_simp
      all_goals (try omega)
    clear hK K
    simp only [Act.put, List.setIfInBounds_toArray, List.set_cons_succ, List.set_cons_zero]
    refine wpQuiet_step (fun K hK => ?_)
    rw [if_pos (by rfl)]
    refine ⟨.bool false, fun W hW => quiet_ok ?_, hK _ ?_⟩
    · have q := HX.out W hW
      obtain ⟨m0, m1, _⟩ := q
      go_simp
      all_goals (try omega)
    clear hK K
    simp only [Act.put, List.setIfInBounds_toArray, List.set_cons_succ, List.set_cons_zero]
    refine wpQuiet_step (fun K hK => ?_)
    rw [if_pos (by rfl)]
    refine ⟨.string ⟨n.toArray⟩, fun W hW => quiet_ok ?_, hK _ ?_⟩
    · have q := HX.out W hW
      obtain ⟨m0, m1, _⟩ := q
      go_simp
      all_goals (try omega)
    clear hK K
    simp only [Act.put, List.setIfInBounds_toArray, List.set_cons_succ, List.set_cons_zero]
    refine wpQuiet_step (fun K hK => ?_)
    rw [if_pos (by rfl)]
    refine ⟨.bool true, fun W hW => quiet_call (f := 24) (args := #[.string ⟨n.toArray⟩]) ?_ ?_, hK _ ?_⟩
    · go_simp
    · exact (HGN.out W (HBW.out W hW)).mono fun e w'' h => ⟨h.1, HTR.out _ _ hW h.2⟩
    clear hK K
    simp only [Act.put, List.setIfInBounds_toArray, List.set_cons_succ, List.set_cons_zero]
    refine wpQuiet_step (fun K hK => ?_)
    rw [if_pos (by rfl)]
    refine ⟨.bool false, fun W hW => quiet_ok ?_, hK _ ?_⟩
    · have q := HX.out W hW
      obtain ⟨m0, m1, _⟩ := q
      go_simp
      all_goals (try omega)
    clear hK K
    simp only [Act.put, List.setIfInBounds_toArray, List.set_cons_succ, List.set_cons_zero]
    refine wpQuiet_step (fun K hK => ?_)
    rw [if_pos (by rfl)]
    refine ⟨.bool false, fun W hW => quiet_ok ?_, hK _ ?_⟩
    · have q := HX.out W hW
      obtain ⟨m0, m1, _⟩ := q
      go_simp
      all_goals (try omega)
    clear hK K
    simp only [Act.put, List.setIfInBounds_toArray, List.set_cons_succ, List.set_cons_zero]
    refine wpQuiet_step (fun K hK => ?_)
    rw [if_pos (by rfl)]
    refine ⟨.bool false, fun W hW => quiet_ok ?_, hK _ ?_⟩
    · have q := HX.out W hW
      obtain ⟨m0, m1, _⟩ := q
      go_simp
      all_goals (try omega)
    clear hK K
    simp only [Act.put, List.setIfInBounds_toArray, List.set_cons_succ, List.set_cons_zero]
    refine wpQuiet_step (fun K hK => ?_)
    rw [if_pos (by rfl)]
    refine ⟨.string ⟨n.toArray⟩, fun W hW => quiet_ok ?_, hK _ ?_⟩
    · have q := HX.out W hW
      obtain ⟨m0, m1, _⟩ := q
      go_simp
      all_goals (try omega)
    clear hK K
    simp only [Act.put, List.setIfInBounds_toArray, List.set_cons_succ, List.set_cons_zero]
    refine wpQuiet_step (fun K hK => ?_)
    rw [if_pos (by rfl)]
    refine ⟨.slice (some ⟨b, o, none⟩) L.length cap, fun W hW => quiet_ok ?_, hK _ ?_⟩
    · have q := HX.out W hW
      obtain ⟨m0, m1, _⟩ := q
      go_simp
      all_goals (try omega)
    clear hK K
    simp only [Act.put, List.setIfInBounds_toArray, List.set_cons_succ, List.set_cons_zero]
    refine wpQuiet_step (fun K hK => ?_)
    rw [if_pos (by rfl)]
    refine ⟨.pointer (some ⟨b, o, none⟩), fun W hW => quiet_ok ?_, hK _ ?_⟩
    · have q := HX.out W hW
      obtain ⟨m0, m1, _⟩ := q
      go_simp
      all_goals (try omega)
    clear hK K
    simp only [Act.put, List.setIfInBounds_toArray, List.set_cons_succ, List.set_cons_zero]
    refine wpQuiet_step (fun K hK => ?_)
    rw [if_pos (by rfl)]
    refine ⟨.pointer (some ⟨b, o, none⟩), fun W hW => quiet_ok ?_, hK _ ?_⟩
    · have q := HX.out W hW
      obtain ⟨m0, m1, _⟩ := q
      go_simp
      all_goals (try omega)
    clear hK K
    simp only [Act.put, List.setIfInBounds_toArray, List.set_cons_succ, List.set_cons_zero]
    refine wpQuiet_step (fun K hK => ?_)
    rw [if_pos (by rfl)]
    refine ⟨.string ⟨s0.toArray⟩, fun W hW => quiet_ok ?_, hK _ ?_⟩
    · have q := HX.out W hW
      obtain ⟨m0, m1, _⟩ := q
      go_simp
      all_goals (try omega)
    clear hK K
    simp only [Act.put, List.setIfInBounds_toArray, List.set_cons_succ, List.set_cons_zero]
    refine wpQuiet_step (fun K hK => ?_)
    rw [if_pos (by rfl)]
    refine ⟨.bool false, fun W hW => quiet_call (f := 25) (args := #[.string ⟨n.toArray⟩, .string ⟨s0.toArray⟩]) ?_ ?_, hK _ ?_⟩
    · go_simp
    · exact (HLB.out W).mono fun e w'' h => ⟨h.1, HTR.out _ _ hW h.2⟩
    clear hK K
    simp only [Act.put, List.setIfInBounds_toArray, List.set_cons_succ, List.set_cons_zero]
    refine wpQuiet_step (fun K hK => ?_)
    rw [if_pos (by rfl)]
    refine ⟨.bool true, fun W hW => quiet_ok ?_, hK _ ?_⟩
    · have q := HX.out W hW
      obtain ⟨m0, m1, _⟩ := q
      go_simp
      all_goals (try omega)
    clear hK K
    simp only [Act.put, List.setIfInBounds_toArray, List.set_cons_succ, List.set_cons_zero]
    refine wpQuiet_step (fun K hK => ?_)
    rw [if_pos (by rfl)]
    refine ⟨.bool true, fun W hW => quiet_ok ?_, hK _ ?_⟩
    · have q := HX.out W hW
      obtain ⟨m0, m1, _⟩ := q
      go_simp
      all_goals (try omega)
    clear hK K
    simp only [Act.put, List.setIfInBounds_toArray, List.set_cons_succ, List.set_cons_zero]
    refine wpQuiet_nil ?_
    intro W hW
    have hbW := HBW.out W hW
    obtain ⟨_, hk1, _⟩ := HZB.out _ hW
    obtain ⟨⟨z0, z1, z2⟩, ⟨f0, f1, f2⟩⟩ := gap_cells hk1
    have HK1 : Hid _ := hk1
    clear hk1
    go_wp2_with fail
    (try simp only [Exit.inBlock, Exit.then])
    refine bodyPost_ret (results_gap_tmp rfl _ _ (w.heap.size + 1) 26 #[.string ⟨#[]⟩, .string ⟨#[]⟩, .slice none 0 0] (0, 0) _ (.bool false) rfl rfl ?_ Tryd.underlying26 rfl (by kernel_rfl)) rfl ⟨HF2.out _ _ _ rfl, gput3_below hbW (Nat.le_succ _) _ _ _⟩
    exact gput3_heap HK1.out
  | true =>
  rw [hbb] at HLB HGB
  have hgf : gfB L n = true := HGB.out.trans rfl
  obtain ⟨x0, hfd⟩ := for_some hgf
  have hhv := good_have hg
  have HTP : Hid (∀ x ∈ L, 0 < x.2.2.length) := fun x hx => by
    obtain ⟨k, hk, rfl⟩ := List.getElem_of_mem hx
    have h := (goodG_at hg).2.2.2 k hk
    rw [gT_at hk] at h
    exact h.2.2.2.2.2
  -- the search, and the copy of what is found
  have HFS : Hid (∀ W Bs, Below W0.heap.size W0 W → Bs < W.heap.size → W.cell? ⟨Bs, 0, none⟩ = some (.slice (some ⟨b, o, none⟩) L.length cap) → Calls Tryd.prog 26 #[.func (.func 52) #[] #[.pointer (some ⟨Bs, 0, none⟩)], .func (.func 28) #[] #[.pointer (some ⟨w.heap.size, 0, none⟩)]] W fun e w' => (∃ x aa ca, x = x0 ∧ ca ≤ 9223372036854775807 ∧ e = .returned (.tuple #[.agg #[.string ⟨x.1.toArray⟩, .string ⟨x.2.1.toArray⟩, .slice aa x.2.2.length ca], .bool true]) ∧ ZRow .i64 W (.slice aa x.2.2.length ca) x.2.2) ∧ Below W.heap.size W w') := fun W Bs hW h1 h2 => by
    obtain ⟨zs, hzs, hrow, hzr⟩ := ga_of_row (HRK.out W (HBW.out W hW)) hhv
    have h := firstGap_for (fun z => forB n z.1.1) Bs w.heap.size _ zs W h1 h2 hrow (fun z W1 hW1 => gapFor1_any z n w.heap.size W1 (hE.below ((HBW.out W hW).trans (hW1.mono (HBW.out W hW).size))) hnn ((hW1.cell (p := ⟨w.heap.size, 0, none⟩) (World.block_lt_of_cell? _ _ (HNB.out W hW))).trans (HNB.out W hW)))
    have e := find_ga zs (forB n)
    rw [hzs, hfd] at e
    cases hz : zs.find? (fun z => forB n z.1.1) with
    | none => rw [hz] at e; cases e
    | some z =>
      rw [hz] at h e
      have ez : x0 = z.1.1 := by simpa using e
      have hzm := hzr z (List.mem_of_find?_eq_some hz)
      obtain ⟨_, ca2, e2, _, hca2, _⟩ := id hzm
      unfold maxLen at hca2
      injection e2 with _ _ e3
      refine h.mono fun e w' hh => ⟨⟨z.1.1, z.1.2.1, z.1.2.2, ez.symm, by omega, hh.1, hzm⟩, hh.2⟩
  have hx0 : x0 ∈ L := List.mem_of_find?_eq_some hfd
  have HCP : Hid (∀ aa ca W, ZRow .i64 W (.slice aa x0.2.2.length ca) x0.2.2 → Calls Tryd.prog 30 #[.agg #[.string ⟨x0.1.toArray⟩, .string ⟨x0.2.1.toArray⟩, .slice aa x0.2.2.length ca]] W fun e w' => ∃ t cap, e = .returned (.agg #[.string ⟨x0.1.toArray⟩, .string ⟨x0.2.1.toArray⟩, .slice (some ⟨t, 0, none⟩) x0.2.2.length cap]) ∧ x0.2.2.length ≤ cap ∧ cap ≤ 9223372036854775807 ∧ W.heap.size ≤ t ∧ ZSRow w' t x0.2.2 ∧ Below W.heap.size W w') := fun aa ca W hz => copyGap_any x0 aa ca W hz (hxt.out _ hx0) (HTP.out _ hx0) (hx.out _ hx0).1 (hx.out _ hx0).2
  have HYES : Hid (∀ base w' e, (∃ t cap, e = .returned (.tuple #[.agg #[.string ⟨x0.1.toArray⟩, .string ⟨x0.2.1.toArray⟩, .slice (some ⟨t, 0, none⟩) x0.2.2.length cap], .bool true]) ∧ x0.2.2.length ≤ cap ∧ cap ≤ 9223372036854775807 ∧ base ≤ t ∧ ZSRow w' t x0.2.2) → GFRes base w' (gfO L n) e) := fun base w' e h2 => by
    rw [HO.out, if_pos hgf, hfd]; exact h2
  have HV : Hid (∀ W, Calls Tryd.prog 27 #[.slice (some ⟨b, o, none⟩) L.length cap] W fun e w' => e = .returned (.func (.func 52) #[] #[.pointer (some ⟨W.heap.size, 0, none⟩)]) ∧ w' = W.alloc (.cells #[.slice (some ⟨b, o, none⟩) L.length cap] 29)) := fun W => gvalues_any _ _ cap W
  clear HNO HGB HO hg hnn hbb hgf hfd hhv HTP hx0
  go_enter Tryd.func8, Tryd.ntmps8
  go_wp2_with fail
  rw [HW0.out]
  refine wp_region_quiet (C := fun W => Below W0.heap.size W0 W) (by kernel_rfl) (by kernel_rfl) hbd ?_
  refine wpQuiet_step (fun K hK => ?_)
  rw [if_pos (by rfl)]
  refine ⟨.slice (some ⟨b, o, none⟩) L.length cap, fun W hW => quiet_ok ?_, hK _ ?_⟩
  · have q := HX.out W hW
    obtain ⟨m0, m1, _⟩ := q
    go_simp
    all_goals (try omega)
  clear hK K
  simp only [Act.put, List.setIfInBounds_toArray, List.set_cons_succ, List.set_cons_zero]
  refine wpQuiet_step (fun K hK => ?_)
  rw [if_pos (by rfl)]
  refine ⟨.int .i64 (L.length : Int), fun W hW => quiet_ok ?_, hK _ ?_⟩
  · have q := HX.out W hW
    obtain ⟨m0, m1, _⟩ := q
    go_simp
    all_goals (try omega)
  clear hK K
  simp only [Act.put, List.setIfInBounds_toArray, List.set_cons_succ, List.set_cons_zero]
  refine wpQuiet_step (fun K hK => ?_)
  rw [if_pos (by rfl)]
  refine ⟨.bool false, fun W hW => quiet_ok ?_, hK _ ?_⟩
  · have q := HX.out W hW
    obtain ⟨m0, m1, _⟩ := q
    go_simp
    all_goals (try omega)
  clear hK K
  simp only [Act.put, List.setIfInBounds_toArray, List.set_cons_succ, List.set_cons_zero]
  refine wpQuiet_step (fun K hK => ?_)
  rw [if_pos (by rfl)]
  refine ⟨.bool false, fun W hW => quiet_ok ?_, hK _ ?_⟩
  · have q := HX.out W hW
    obtain ⟨m0, m1, _⟩ := q
    go_simp
    all_goals (try omega)
  clear hK K
  simp only [Act.put, List.setIfInBounds_toArray, List.set_cons_succ, List.set_cons_zero]
  refine wpQuiet_step (fun K hK => ?_)
  rw [if_pos (by rfl)]
  refine ⟨.slice (some ⟨b, o, none⟩) L.length cap, fun W hW => quiet_ok ?_, hK _ ?_⟩
  · have q := HX.out W hW
    obtain ⟨m0, m1, _⟩ := q
    go_simp
    all_goals (try omega)
  clear hK K
  simp only [Act.put, List.setIfInBounds_toArray, List.set_cons_succ, List.set_cons_zero]
  refine wpQuiet_step (fun K hK => ?_)
  rw [if_pos (by rfl)]
  refine ⟨.pointer (some ⟨b, o, none⟩), fun W hW => quiet_ok ?_, hK _ ?_⟩
  · have q := HX.out W hW
    obtain ⟨m0, m1, _⟩ := q
    go_simp
    all_goals (try omega)
  clear hK K
  simp only [Act.put, List.setIfInBounds_toArray, List.set_cons_succ, List.set_cons_zero]
  refine wpQuiet_step (fun K hK => ?_)
  rw [if_pos (by rfl)]
  refine ⟨.pointer (some ⟨b, o, none⟩), fun W hW => quiet_ok ?_, hK _ ?_⟩
  · have q := HX.out W hW
    obtain ⟨m0, m1, _⟩ := q
    go_simp
    all_goals (try omega)
  clear hK K
  simp only [Act.put, List.setIfInBounds_toArray, List.set_cons_succ, List.set_cons_zero]
  refine wpQuiet_step (fun K hK => ?_)
  rw [if_pos (by rfl)]
  refine ⟨.string ⟨s0.toArray⟩, fun W hW => quiet_ok ?_, hK _ ?_⟩
  · have q := HX.out W hW
    obtain ⟨m0, m1, _⟩ := q
    go_simp
    all_goals (try omega)
  clear hK K
  simp only [Act.put, List.setIfInBounds_toArray, List.set_cons_succ, List.set_cons_zero]
  refine wpQuiet_step (fun K hK => ?_)
  rw [if_pos (by rfl)]
  refine ⟨.slice (some ⟨b, o, none⟩) L.length cap, fun W hW => quiet_ok ?_, hK _ ?_⟩
  · have q := HX.out W hW
    obtain ⟨m0, m1, _⟩ := q
    go_simp
    all_goals (try omega)
  clear hK K
  simp only [Act.put, List.setIfInBounds_toArray, List.set_cons_succ, List.set_cons_zero]
  refine wpQuiet_step (fun K hK => ?_)
  rw [if_pos (by rfl)]
  refine ⟨.bool true, fun W hW => quiet_call (f := 23) (args := #[.string ⟨s0.toArray⟩, .slice (some ⟨b, o, none⟩) L.length cap]) ?_ ?_, hK _ ?_⟩
  · go_simp
  · exact (HGG.out W (HBW.out W hW)).mono fun e w'' h => ⟨h.1, HTR.out _ _ hW h.2⟩
  clear hK K
  simp only [Act.put, List.setIfInBounds_toArray, List.set_cons_succ, List.set_cons_zero]
  refine wpQuiet_step (fun K hK => ?_)
  rw [if_pos (by rfl)]
  refine ⟨.bool false, fun W hW => quiet_ok ?_, hK _ ?_⟩
  · have q := HX.out W hW
    obtain ⟨m0, m1, _⟩ := q
    go_simp
    all_goals (try omega)
  clear hK K
  simp only [Act.put, List.setIfInBounds_toArray, List.set_cons_succ, List.set_cons_zero]
  refine wpQuiet_step (fun K hK => ?_)
  rw [if_pos (by rfl)]
  refine ⟨.bool false, fun W hW => quiet_ok ?_, hK _ ?_⟩
  · have q := HX.out W hW
    obtain ⟨m0, m1, _⟩ := q
    go_simp
    all_goals (try omega)
  clear hK K
  simp only [Act.put, List.setIfInBounds_toArray, List.set_cons_succ, List.set_cons_zero]
  refine wpQuiet_step (fun K hK => ?_)
  rw [if_pos (by rfl)]
  refine ⟨.bool false, fun W hW => quiet_ok ?_, hK _ ?_⟩
  · have q := HX.out W hW
    obtain ⟨m0, m1, _⟩ := q
    go_simp
    all_goals (try omega)
  clear hK K
  simp only [Act.put, List.setIfInBounds_toArray, List.set_cons_succ, List.set_cons_zero]
  refine wpQuiet_step (fun K hK => ?_)
  rw [if_pos (by rfl)]
  refine ⟨.string ⟨n.toArray⟩, fun W hW => quiet_ok ?_, hK _ ?_⟩
  · have q := HX.out W hW
    obtain ⟨m0, m1, _⟩ := q
    go_simp
    all_goals (try omega)
  clear hK K
  simp only [Act.put, List.setIfInBounds_toArray, List.set_cons_succ, List.set_cons_zero]
  refine wpQuiet_step (fun K hK => ?_)
  rw [if_pos (by rfl)]
  refine ⟨.bool true, fun W hW => quiet_call (f := 24) (args := #[.string ⟨n.toArray⟩]) ?_ ?_, hK _ ?_⟩
  · go_simp
  · exact (HGN.out W (HBW.out W hW)).mono fun e w'' h => ⟨h.1, HTR.out _ _ hW h.2⟩
  clear hK K
  simp only [Act.put, List.setIfInBounds_toArray, List.set_cons_succ, List.set_cons_zero]
  refine wpQuiet_step (fun K hK => ?_)
  rw [if_pos (by rfl)]
  refine ⟨.bool false, fun W hW => quiet_ok ?_, hK _ ?_⟩
  · have q := HX.out W hW
    obtain ⟨m0, m1, _⟩ := q
    go_simp
    all_goals (try omega)
  clear hK K
  simp only [Act.put, List.setIfInBounds_toArray, List.set_cons_succ, List.set_cons_zero]
  refine wpQuiet_step (fun K hK => ?_)
  rw [if_pos (by rfl)]
  refine ⟨.bool false, fun W hW => quiet_ok ?_, hK _ ?_⟩
  · have q := HX.out W hW
    obtain ⟨m0, m1, _⟩ := q
    go_simp
    all_goals (try omega)
  clear hK K
  simp only [Act.put, List.setIfInBounds_toArray, List.set_cons_succ, List.set_cons_zero]
  refine wpQuiet_step (fun K hK => ?_)
  rw [if_pos (by rfl)]
  refine ⟨.bool false, fun W hW => quiet_ok ?_, hK _ ?_⟩
  · have q := HX.out W hW
    obtain ⟨m0, m1, _⟩ := q
    go_simp
    all_goals (try omega)
  clear hK K
  simp only [Act.put, List.setIfInBounds_toArray, List.set_cons_succ, List.set_cons_zero]
  refine wpQuiet_step (fun K hK => ?_)
  rw [if_pos (by rfl)]
  refine ⟨.string ⟨n.toArray⟩, fun W hW => quiet_ok ?_, hK _ ?_⟩
  · have q := HX.out W hW
    obtain ⟨m0, m1, _⟩ := q
    go_simp
    all_goals (try omega)
  clear hK K
  simp only [Act.put, List.setIfInBounds_toArray, List.set_cons_succ, List.set_cons_zero]
  refine wpQuiet_step (fun K hK => ?_)
  rw [if_pos (by rfl)]
  refine ⟨.slice (some ⟨b, o, none⟩) L.length cap, fun W hW => quiet_ok ?_, hK _ ?_⟩
  · have q := HX.out W hW
    obtain ⟨m0, m1, _⟩ := q
    go_simp
    all_goals (try omega)
  clear hK K
  simp only [Act.put, List.setIfInBounds_toArray, List.set_cons_succ, List.set_cons_zero]
  refine wpQuiet_step (fun K hK => ?_)
  rw [if_pos (by rfl)]
  refine ⟨.pointer (some ⟨b, o, none⟩), fun W hW => quiet_ok ?_, hK _ ?_⟩
  · have q := HX.out W hW
    obtain ⟨m0, m1, _⟩ := q
    go_simp
    all_goals (try omega)
  clear hK K
  simp only [Act.put, List.setIfInBounds_toArray, List.set_cons_succ, List.set_cons_zero]
  refine wpQuiet_step (fun K hK => ?_)
  rw [if_pos (by rfl)]
  refine ⟨.pointer (some ⟨b, o, none⟩), fun W hW => quiet_ok ?_, hK _ ?_⟩
  · have q := HX.out W hW
    obtain ⟨m0, m1, _⟩ := q
    go_simp
    all_goals (try omega)
  clear hK K
  simp only [Act.put, List.setIfInBounds_toArray, List.set_cons_succ, List.set_cons_zero]
  refine wpQuiet_step (fun K hK => ?_)
  rw [if_pos (by rfl)]
  refine ⟨.string ⟨s0.toArray⟩, fun W hW => quiet_ok ?_, hK _ ?_⟩
  · have q := HX.out W hW
    obtain ⟨m0, m1, _⟩ := q
    go_simp
    all_goals (try omega)
  clear hK K
  simp only [Act.put, List.setIfInBounds_toArray, List.set_cons_succ, List.set_cons_zero]
  refine wpQuiet_step (fun K hK => ?_)
  rw [if_pos (by rfl)]
  refine ⟨.bool true, fun W hW => quiet_call (f := 25) (args := #[.string ⟨n.toArray⟩, .string ⟨s0.toArray⟩]) ?_ ?_, hK _ ?_⟩
  · go_simp
  · exact (HLB.out W).mono fun e w'' h => ⟨h.1, HTR.out _ _ hW h.2⟩
  clear hK K
  simp only [Act.put, List.setIfInBounds_toArray, List.set_cons_succ, List.set_cons_zero]
  refine wpQuiet_step (fun K hK => ?_)
  rw [if_pos (by rfl)]
  refine ⟨.bool false, fun W hW => quiet_ok ?_, hK _ ?_⟩
  · have q := HX.out W hW
    obtain ⟨m0, m1, _⟩ := q
    go_simp
    all_goals (try omega)
  clear hK K
  simp only [Act.put, List.setIfInBounds_toArray, List.set_cons_succ, List.set_cons_zero]
  refine wpQuiet_step (fun K hK => ?_)
  rw [if_pos (by rfl)]
  refine ⟨.bool false, fun W hW => quiet_ok ?_, hK _ ?_⟩
  · have q := HX.out W hW
    obtain ⟨m0, m1, _⟩ := q
    go_simp
    all_goals (try omega)
  clear hK K
  simp only [Act.put, List.setIfInBounds_toArray, List.set_cons_succ, List.set_cons_zero]
  refine wpQuiet_nil ?_
  intro W hW
  have hbW := HBW.out W hW
  clear HGG HGN HLB hbW
  go_wp2_with fail
  refine (HV.out _).mono ?_
  rintro e w2 ⟨rfl, rfl⟩
  have hb2 : Below W0.heap.size W0 (W.alloc (.cells #[.slice (some ⟨b, o, none⟩) L.length cap] 29)) := hW.alloc hW.size _
  have HC2 := HFS.out _ W.heap.size hb2 (by simp) (new_cell W _ _)
  have HC3 : Hid _ := HC2
  clear HC2 HFS
  go_wp2_with fail
  refine Calls.mono HC3.out ?_
  rintro e w3 ⟨⟨x, aa, ca, rfl, hca, rfl, hz2⟩, hb3⟩
  have hb03 := hb2.trans (hb3.mono hb2.size)
  have hb04 : Below W0.heap.size W0 (w3.alloc (.cells #[.string ⟨x.1.toArray⟩, .string ⟨x.2.1.toArray⟩, .slice aa x.2.2.length ca] 26)) := hb03.alloc hb03.size _
  have HC4 : Hid (Calls Tryd.prog 30 #[.agg #[.string ⟨x.1.toArray⟩, .string ⟨x.2.1.toArray⟩, .slice aa x.2.2.length ca]] (w3.alloc (.cells #[.string ⟨x.1.toArray⟩, .string ⟨x.2.1.toArray⟩, .slice aa x.2.2.length ca] 26)) fun e w' => ∃ t cap, e = .returned (.agg #[.string ⟨x.1.toArray⟩, .string ⟨x.2.1.toArray⟩, .slice (some ⟨t, 0, none⟩) x.2.2.length cap]) ∧ x.2.2.length ≤ cap ∧ cap ≤ 9223372036854775807 ∧ (w3.alloc (.cells #[.string ⟨x.1.toArray⟩, .string ⟨x.2.1.toArray⟩, .slice aa x.2.2.length ca] 26)).heap.size ≤ t ∧ ZSRow w' t x.2.2 ∧ Below (w3.alloc (.cells #[.string ⟨x.1.toArray⟩, .string ⟨x.2.1.toArray⟩, .slice aa x.2.2.length ca] 26)).heap.size (w3.alloc (.cells #[.string ⟨x.1.toArray⟩, .string ⟨x.2.1.toArray⟩, .slice aa x.2.2.length ca] 26)) w') := HCP.out aa ca _ ((hz2.kept hb3).kept ((Below.refl _ _).alloc (Nat.le_refl _) _))
  clear hz2 HC3 HCP hb3
  go_wp2_with fail
  refine HC4.out.mono ?_
  rintro e w5 ⟨t, cp, rfl, g1, g2, g3, g4, hb5⟩
  have hb05 := hb04.trans (hb5.mono hb04.size)
  obtain ⟨_, hk5, hbw5⟩ := HZB.out _ hb05
  obtain ⟨⟨z0, z1, z2⟩, ⟨f0, f1, f2⟩⟩ := gap_cells hk5
  have HK5 : Hid _ := hk5
  have HZ5 : Hid (ZSRow w5 t x.2.2) := g4
  have hts : w.heap.size + 1 + 1 ≤ t := by have h1 := hb04.size; omega
  clear hk5 g4 g3 HC4
  go_wp2_with fail
  (try simp only [Exit.inBlock, Exit.then])
  refine bodyPost_ret (results_gap_tmp rfl _ _ (w.heap.size + 1) 26 #[.string ⟨x.1.toArray⟩, .string ⟨x.2.1.toArray⟩, .slice (some ⟨t, 0, none⟩) x.2.2.length cp] (0, 0) _ (.bool true) rfl rfl ?_ Tryd.underlying26 rfl (by kernel_rfl)) rfl ⟨HYES.out _ _ _ ⟨t, cp, rfl, g1, g2, by omega, gput3_far HZ5.out (by omega)⟩, gput3_below hbw5 (Nat.le_succ _) _ _ _⟩
  exact gput3_heap HK5.out
end Go.Proofs.YtoeffplfkdogdaaDoor
