import Derived.Test.YtoeffplfkdogdaaDoorZ17
import Derived.Test.YtoeffplfkdogdaaDoorZ27
import Derived.Test.YtoeffplfkdogdaaDoorZ05
import Derived.BigQuiet
import Derived.Deep.QuietTactic
namespace Go.Proofs.YtoeffplfkdogdaaDoor
open Go.RowKit

/-- Types that rise, from a place on. -/
def tyB (T : List Int) (k : Nat) : Bool := typB (T[k]?.getD 0) && (k == 0 || decide (T[k - 1]?.getD 0 < T[k]?.getD 0))
def typesB (T : List Int) : Bool := (List.range T.length).all (tyB T)
theorem types_all {T : List Int} (h : ∀ j, j < T.length → tyB T j = true) : typesB T = true := by
  unfold typesB; rw [List.all_eq_true]; intro j hj; exact h j (List.mem_range.1 hj)
theorem types_bad {T : List Int} (k : Nat) (hk : k < T.length) (h : tyB T k = false) : typesB T = false := by
  unfold typesB; rw [List.all_eq_false]; exact ⟨k, List.mem_range.2 hk, by simp [h]⟩
theorem ty_at {T : List Int} (k : Nat) (hk : k < T.length) : tyB T k = (typB T[k] && (k == 0 || decide (T[k - 1]?.getD 0 < T[k]))) := by unfold tyB; simp [hk]
theorem ty_zero {T : List Int} (hk : 0 < T.length) : tyB T 0 = typB T[0] := by rw [ty_at 0 hk]; simp
theorem ty_succ {T : List Int} (k : Nat) (hk : k + 1 < T.length) : tyB T (k + 1) = (typB T[k + 1] && decide (T[k] < T[k + 1])) := by
  rw [ty_at (k + 1) hk]; simp [show k < T.length by omega]
theorem all_up {p : Nat → Bool} {k : Nat} (h : ∀ j, j < k → p j = true) (hk : p k = true) : ∀ j, j < k + 1 → p j = true := fun j hj => by
  rcases Nat.lt_or_ge j k with h' | h'
  · exact h j h'
  · obtain rfl : j = k := by omega
    exact hk

/-- Gaps that are good for an apex: the specification's way. -/
def gO (L : List (List UInt8 × List UInt8 × List Int)) (i : Nat) : List UInt8 := (L[i]?.getD ([], [], [])).1
def gX (L : List (List UInt8 × List UInt8 × List Int)) (i : Nat) : List UInt8 := (L[i]?.getD ([], [], [])).2.1
def gT (L : List (List UInt8 × List UInt8 × List Int)) (i : Nat) : List Int := (L[i]?.getD ([], [], [])).2.2
theorem gO_at {L : List (List UInt8 × List UInt8 × List Int)} {i : Nat} (h : i < L.length) : gO L i = L[i].1 := by unfold gO; simp [h]
theorem gX_at {L : List (List UInt8 × List UInt8 × List Int)} {i : Nat} (h : i < L.length) : gX L i = L[i].2.1 := by unfold gX; simp [h]
theorem gT_at {L : List (List UInt8 × List UInt8 × List Int)} {i : Nat} (h : i < L.length) : gT L i = L[i].2.2 := by unfold gT; simp [h]
def gsB (ap : List UInt8) (L : List (List UInt8 × List UInt8 × List Int)) (i : Nat) : Bool :=
  nameB (gO L i) && belowB (gO L i) ap && (i == 0 || decide (cmpN (gO L (i - 1)) (gO L i) < 0)) && (gX L i == gO L ((i + 1) % L.length)) && !(gT L i == []) && typesB (gT L i)
def goodG (ap : List UInt8) (L : List (List UInt8 × List UInt8 × List Int)) : Bool :=
  nameB ap && decide (1 ≤ L.length) && decide (L.length ≤ 40) && (gO L 0 == ap) && (List.range L.length).all (gsB ap L)
/-- .. and the program's. -/
def giB (ap : List UInt8) (L : List (List UInt8 × List UInt8 × List Int)) (i : Nat) : Bool :=
  nameB (gO L i) && nameB (gX L i) && belowB (gO L i) ap && (!(gT L i == []) && typesB (gT L i)) && (i == 0 || (gX L (i - 1) == gO L i && decide (cmpN (gO L (i - 1)) (gO L i) < 0)))
def goodI (ap : List UInt8) (L : List (List UInt8 × List UInt8 × List Int)) : Bool :=
  decide (1 ≤ L.length) && decide (L.length ≤ 40) && (gO L 0 == ap) && (gX L (L.length - 1) == ap) && (List.range L.length).all (giB ap L)
theorem good_same (ap : List UInt8) (L : List (List UInt8 × List UInt8 × List Int)) : goodI ap L = goodG ap L := by
  rw [Bool.eq_iff_iff]
  unfold goodI goodG
  simp only [Bool.and_eq_true, decide_eq_true_eq, beq_iff_eq, List.all_eq_true, List.mem_range]
  constructor
  · rintro ⟨⟨⟨⟨h1, h2⟩, h3⟩, h4⟩, h5⟩
    have hf : ∀ i, i < L.length → nameB (gO L i) = true ∧ nameB (gX L i) = true ∧ belowB (gO L i) ap = true ∧ (¬ gT L i = [] ∧ typesB (gT L i) = true) ∧ (i = 0 ∨ (gX L (i - 1) = gO L i ∧ cmpN (gO L (i - 1)) (gO L i) < 0)) := fun i hi => by
      have h := h5 i hi
      unfold giB at h
      simp only [Bool.and_eq_true, Bool.or_eq_true, decide_eq_true_eq, beq_iff_eq, Bool.not_eq_true', beq_eq_false_iff_ne] at h
      exact ⟨h.1.1.1.1, h.1.1.1.2, h.1.1.2, h.1.2, h.2⟩
    refine ⟨⟨⟨⟨?_, h1⟩, h2⟩, h3⟩, fun i hi => ?_⟩
    · rw [← h3]; exact (hf 0 (by omega)).1
    · obtain ⟨f1, f2, f3, f4, f5⟩ := hf i hi
      unfold gsB
      simp only [Bool.and_eq_true, Bool.or_eq_true, decide_eq_true_eq, beq_iff_eq, Bool.not_eq_true', beq_eq_false_iff_ne]
      refine ⟨⟨⟨⟨⟨f1, f3⟩, ?_⟩, ?_⟩, f4.1⟩, f4.2⟩
      · rcases f5 with f5 | f5
        · exact .inl f5
        · exact .inr f5.2
      · by_cases hl : i + 1 < L.length
        · rw [Nat.mod_eq_of_lt hl]
          rcases (hf (i + 1) hl).2.2.2.2 with g | g
          · omega
          · exact g.1
        · obtain rfl : i = L.length - 1 := by omega
          rw [show L.length - 1 + 1 = L.length by omega, Nat.mod_self, h4, h3]
  · rintro ⟨⟨⟨⟨h0, h1⟩, h2⟩, h3⟩, h5⟩
    have hf : ∀ i, i < L.length → nameB (gO L i) = true ∧ belowB (gO L i) ap = true ∧ (i = 0 ∨ cmpN (gO L (i - 1)) (gO L i) < 0) ∧ gX L i = gO L ((i + 1) % L.length) ∧ ¬ gT L i = [] ∧ typesB (gT L i) = true := fun i hi => by
      have h := h5 i hi
      unfold gsB at h
      simp only [Bool.and_eq_true, Bool.or_eq_true, decide_eq_true_eq, beq_iff_eq, Bool.not_eq_true', beq_eq_false_iff_ne] at h
      exact ⟨h.1.1.1.1.1, h.1.1.1.1.2, h.1.1.1.2, h.1.1.2, h.1.2, h.2⟩
    refine ⟨⟨⟨⟨h1, h2⟩, h3⟩, ?_⟩, fun i hi => ?_⟩
    · have h := (hf (L.length - 1) (by omega)).2.2.2.1
      rw [h, show L.length - 1 + 1 = L.length by omega, Nat.mod_self, h3]
    · obtain ⟨f1, f2, f3, f4, f5, f6⟩ := hf i hi
      unfold giB
      simp only [Bool.and_eq_true, Bool.or_eq_true, decide_eq_true_eq, beq_iff_eq, Bool.not_eq_true', beq_eq_false_iff_ne]
      refine ⟨⟨⟨⟨f1, ?_⟩, f2⟩, f5, f6⟩, ?_⟩
      · rw [f4]; exact (hf _ (Nat.mod_lt _ (by omega))).1
      · rcases f3 with g | g
        · exact .inl g
        · by_cases hz : i = 0
          · exact .inl hz
          · refine .inr ⟨?_, g⟩
            have h := (hf (i - 1) (by omega)).2.2.2.1
            rw [h, show i - 1 + 1 = i by omega, Nat.mod_eq_of_lt hi]
theorem goodI_bad {ap : List UInt8} {L : List (List UInt8 × List UInt8 × List Int)} (k : Nat) (hk : k < L.length) (h : giB ap L k = false) : goodI ap L = false := by
  unfold goodI; rw [show (List.range L.length).all (giB ap L) = false by rw [List.all_eq_false]; exact ⟨k, List.mem_range.2 hk, by simp [h]⟩]; simp
theorem goodI_all {ap : List UInt8} {L : List (List UInt8 × List UInt8 × List Int)} (h1 : 1 ≤ L.length) (h2 : L.length ≤ 40) (h3 : gO L 0 = ap) (h4 : gX L (L.length - 1) = ap) (h : ∀ j, j < L.length → giB ap L j = true) : goodI ap L = true := by
  unfold goodI; rw [show (List.range L.length).all (giB ap L) = true by rw [List.all_eq_true]; intro j hj; exact h j (List.mem_range.1 hj), decide_eq_true h1, decide_eq_true h2, h3, h4]; simp
theorem goodG_bad {ap : List UInt8} {L : List (List UInt8 × List UInt8 × List Int)} (k : Nat) (hk : k < L.length) (h : gsB ap L k = false) : goodG ap L = false := by
  unfold goodG; rw [show (List.range L.length).all (gsB ap L) = false by rw [List.all_eq_false]; exact ⟨k, List.mem_range.2 hk, by simp [h]⟩]; simp
theorem goodG_all {ap : List UInt8} {L : List (List UInt8 × List UInt8 × List Int)} (h0 : nameB ap = true) (h1 : 1 ≤ L.length) (h2 : L.length ≤ 40) (h3 : gO L 0 = ap) (h : ∀ j, j < L.length → gsB ap L j = true) : goodG ap L = true := by
  unfold goodG; rw [show (List.range L.length).all (gsB ap L) = true by rw [List.all_eq_true]; intro j hj; exact h j (List.mem_range.1 hj), decide_eq_true h1, decide_eq_true h2, h3, h0]; simp
theorem gi_zero {ap : List UInt8} {L : List (List UInt8 × List UInt8 × List Int)} (hk : 0 < L.length) : giB ap L 0 = (nameB L[0].1 && nameB L[0].2.1 && belowB L[0].1 ap && (!(L[0].2.2 == []) && typesB L[0].2.2)) := by
  unfold giB; rw [gO_at hk, gX_at hk, gT_at hk]; simp
theorem gi_succ {ap : List UInt8} {L : List (List UInt8 × List UInt8 × List Int)} (k : Nat) (hk : k + 1 < L.length) : giB ap L (k + 1) = (nameB L[k + 1].1 && nameB L[k + 1].2.1 && belowB L[k + 1].1 ap && (!(L[k + 1].2.2 == []) && typesB L[k + 1].2.2) && (L[k].2.1 == L[k + 1].1 && decide (cmpN L[k].1 L[k + 1].1 < 0))) := by
  unfold giB; rw [gO_at hk, gX_at hk, gT_at hk, show k + 1 - 1 = k from rfl, gO_at (show k < L.length by omega), gX_at (show k < L.length by omega)]; simp
theorem gs_at {ap : List UInt8} {L : List (List UInt8 × List UInt8 × List Int)} (k m : Nat) (hk : k < L.length) (hm : m = (k + 1) % L.length) (hml : m < L.length) : gsB ap L k = (nameB L[k].1 && belowB L[k].1 ap && (k == 0 || decide (cmpN (gO L (k - 1)) L[k].1 < 0)) && (L[k].2.1 == L[m].1) && !(L[k].2.2 == []) && typesB L[k].2.2) := by
  unfold gsB; rw [← hm, gO_at hk, gX_at hk, gT_at hk, gO_at hml]
end Go.Proofs.YtoeffplfkdogdaaDoor

namespace Go.Proofs.YtoeffplfkdogdaaDoor
open Go.RowKit

theorem isTypeG_any (n : Int) (w : World) : Calls Tryd.prog 65 #[.int .i64 n] w fun e w' => e = .returned (.bool (typB n)) ∧ w' = w := by
  by_cases h : n = 1 ∨ n = 2 ∨ n = 5 ∨ n = 6 ∨ n = 15 ∨ n = 16
  · have HR : Hid (typB n = true) := by rcases h with rfl | rfl | rfl | rfl | rfl | rfl <;> rfl
    rcases h with rfl | rfl | rfl | rfl | rfl | rfl <;> (go_enter Tryd.func65, Tryd.ntmps65; go_wp2_with fail; go_ret; exact ⟨ret_bool HR.out.symm, rfl⟩)
  · have HR : Hid (typB n = false) := by
      cases hc : typB n with
      | false => exact rfl
      | true => exfalso; unfold typB hasB at hc; simp at hc; omega
    have e1 : (n == 1) = false := by simp; omega
    have e2 : (n == 2) = false := by simp; omega
    have e3 : (n == 5) = false := by simp; omega
    have e4 : (n == 6) = false := by simp; omega
    have e5 : (n == 15) = false := by simp; omega
    have e6 : (n == 16) = false := by simp; omega
    clear h
    go_enter Tryd.func65, Tryd.ntmps65
    go_wp2_with fail
    go_ret
    exact ⟨ret_bool HR.out.symm, rfl⟩

set_option maxRecDepth 20000 in
set_option maxHeartbeats 2000000 in
theorem areTypes_any (v : Value) (T : List Int) (w : World) (hr : ZRow .i64 w v T) :
    Calls Tryd.prog 48 #[v] w fun e w' => e = .returned (.bool (!(T == []) && typesB T)) ∧ w' = w := by
  obtain ⟨a, cap, rfl, hcap, hmax, HROW⟩ := zrow_value hr
  have HIT : Hid (∀ (n : Int) W, Calls Tryd.prog 65 #[.int .i64 n] W fun e w' => e = .returned (.bool (typB n)) ∧ w' = W) := fun n W => isTypeG_any n W
  clear hr
  obtain ⟨r, hrr⟩ : ∃ r, r = (!(T == []) && typesB T) := ⟨_, rfl⟩
  have HRR : Hid (r = (!(T == []) && typesB T)) := hrr
  rw [← hrr]
  clear hrr
  go_enter Tryd.func48, Tryd.ntmps48
  go_wp2_with fail
  go_loop [7] (fun i => ∃ k : Nat, k ≤ T.length ∧ i = .int .i64 (k : Int) ∧ Hid (∀ j, j < k → tyB T j = true)) (fun i => T.length - (intOf i).toNat)
  case atStart => exact ⟨0, Nat.zero_le _, rfl, fun j h => absurd h (Nat.not_lt_zero _)⟩
  case round =>
    obtain ⟨k, hk, rfl, HA⟩ := hrel
    by_cases hlt : k < T.length
    · obtain ⟨b, o, ha, hbl, hc⟩ := HROW.out (by omega)
      rw [ha]
      have hcx := hc k hlt
      have HBAD : Hid (tyB T k = false → r = false) := fun h => HRR.out.trans (by rw [types_bad k hlt h]; simp)
      cases k with
      | zero =>
        have HT0 : Hid (tyB T 0 = typB (T[0]'hlt)) := ty_zero hlt
        obtain ⟨x, hx⟩ : ∃ x, x = T[0]'hlt := ⟨_, rfl⟩
        rw [← hx] at HT0 hcx
        simp only [Nat.add_zero] at hcx
        have HI : Hid (∀ W, Calls Tryd.prog 65 #[.int .i64 x] W fun e w' => e = .returned (.bool (typB x)) ∧ w' = W) := fun W => HIT.out x W
        clear hc hx HIT
        cases ht : typB x with
        | false =>
          have HF : Hid (r = false) := HBAD.out (HT0.out.trans ht)
          rw [ht] at HI
          clear HBAD HT0 ht
          go_wp2_with fail
          refine (HI.out _).mono ?_
          rintro e w1 ⟨rfl, rfl⟩
          go_wp2_with fail
          go_ret
          exact ⟨ret_bool HF.out.symm, rfl⟩
        | true =>
          have HU : Hid (∀ j, j < 0 + 1 → tyB T j = true) := all_up HA.out (HT0.out.trans ht)
          rw [ht] at HI
          clear HBAD HT0 ht
          go_wp2_with fail
          refine (HI.out _).mono ?_
          rintro e w1 ⟨rfl, rfl⟩
          go_wp2_with fail
          go_round
          case rel => exact ⟨1, by omega, by go_num, HU⟩
          case measure => simp [intOf]; omega
      | succ k =>
        have HT0 : Hid (tyB T (k + 1) = (typB (T[k + 1]'hlt) && decide (T[k]'(by omega) < T[k + 1]'hlt))) := ty_succ k hlt
        have hcy := hc k (by omega)
        obtain ⟨x, hx⟩ : ∃ x, x = T[k + 1]'hlt := ⟨_, rfl⟩
        obtain ⟨y, hy⟩ : ∃ y, y = T[k]'(by omega) := ⟨_, rfl⟩
        rw [← hx, ← hy] at HT0
        rw [← hx] at hcx
        rw [← hy] at hcy
        have HI : Hid (∀ W, Calls Tryd.prog 65 #[.int .i64 x] W fun e w' => e = .returned (.bool (typB x)) ∧ w' = W) := fun W => HIT.out x W
        have e1 : ((k : Int) + 1).toNat = k + 1 := by omega
        have hk1 : (k : Int) + 1 < (T.length : Int) := by omega
        clear hc hx hy HIT
        rw [show ((k + 1 : Nat) : Int) = (k : Int) + 1 by omega]
        cases ht : typB x with
        | false =>
          have HF : Hid (r = false) := HBAD.out (HT0.out.trans (by rw [ht]; rfl))
          rw [ht] at HI
          clear HBAD HT0 ht
          go_wp2_with fail
          refine (HI.out _).mono ?_
          rintro e w1 ⟨rfl, rfl⟩
          go_wp2_with fail
          go_ret
          exact ⟨ret_bool HF.out.symm, rfl⟩
        | true =>
          rw [ht] at HI
          by_cases hyx : y < x
          · have HU : Hid (∀ j, j < k + 1 + 1 → tyB T j = true) := all_up HA.out (HT0.out.trans (by rw [ht, decide_eq_true hyx]; rfl))
            clear HBAD HT0 ht
            go_wp2_with fail
            refine (HI.out _).mono ?_
            rintro e w1 ⟨rfl, rfl⟩
            go_wp2_with fail
            go_round
            case rel => exact ⟨k + 1 + 1, by omega, by go_num, HU⟩
            case measure => simp [intOf]; omega
          · have HF : Hid (r = false) := HBAD.out (HT0.out.trans (by rw [ht, decide_eq_false hyx]; rfl))
            clear HBAD HT0 ht
            go_wp2_with fail
            refine (HI.out _).mono ?_
            rintro e w1 ⟨rfl, rfl⟩
            go_wp2_with fail
            go_ret
            exact ⟨ret_bool HF.out.symm, rfl⟩
    · have HF : Hid (r = decide (0 < T.length)) := HRR.out.trans (by rw [types_all (fun j hj => HA.out j (by omega))]; cases T <;> simp)
      go_wp2_with fail
      go_ret
      exact ⟨ret_bool HF.out.symm, rfl⟩

set_option maxRecDepth 20000 in
set_option maxHeartbeats 2000000 in
theorem leadsOn_any (x y : List UInt8 × List UInt8 × List Int) (va vb : Value) (w : World) (hE : Env w) (hN : Hid (nameB x.1 = true ∧ nameB y.1 = true)) :
    Calls Tryd.prog 49 #[.agg #[.string ⟨x.1.toArray⟩, .string ⟨x.2.1.toArray⟩, va], .agg #[.string ⟨y.1.toArray⟩, .string ⟨y.2.1.toArray⟩, vb]] w fun e w' => e = .returned (.bool (x.2.1 == y.1 && decide (cmpN x.1 y.1 < 0))) ∧ Below w.heap.size w w' := by
  have HO : Hid (∀ W, Below w.heap.size w W → Calls Tryd.prog 53 #[.string ⟨x.1.toArray⟩, .string ⟨y.1.toArray⟩] W fun e w' => e = .returned (.int .i64 (cmpN x.1 y.1)) ∧ Below W.heap.size W w') := fun W hW => ordN_any ⟨x.1.toArray⟩ ⟨y.1.toArray⟩ W (hE.below hW) ⟨hN.out.1, hN.out.2⟩
  obtain ⟨c, hc⟩ : ∃ c, c = cmpN x.1 y.1 := ⟨_, rfl⟩
  rw [← hc] at HO ⊢
  clear hc
  have HA : Hid (Below w.heap.size w ((w.alloc (.cells #[.string ⟨x.1.toArray⟩, .string ⟨x.2.1.toArray⟩, va] 26)).alloc (.cells #[.string ⟨y.1.toArray⟩, .string ⟨y.2.1.toArray⟩, vb] 26))) := ((Below.refl w.heap.size w).alloc (Nat.le_refl _) _).alloc (by simp) _
  by_cases he : x.2.1 = y.1
  · have HE : Hid (x.2.1 = y.1) := he
    have e1 : (x.2.1 == y.1) = true := by simp [he]
    clear he
    go_enter Tryd.func49, Tryd.ntmps49
    go_wp2_with fail
    refine (HO.out _ HA.out).mono ?_
    rintro e w1 ⟨rfl, hb1⟩
    have hbw : Below w.heap.size w w1 := HA.out.trans (hb1.mono HA.out.size)
    go_wp2_with fail
    go_ret
    exact ⟨ret_bool (by rw [HE.out]; simp), hbw⟩
  · have HF : Hid ((x.2.1 == y.1) = false) := (by simpa using he : (x.2.1 == y.1) = false)
    have e1 := HF.out
    clear he
    go_enter Tryd.func49, Tryd.ntmps49
    go_wp2_with fail
    go_ret
    exact ⟨ret_bool (by rw [HF.out]; rfl), HA.out⟩
end Go.Proofs.YtoeffplfkdogdaaDoor

namespace Go.Proofs.YtoeffplfkdogdaaDoor
open Go.RowKit

set_option maxRecDepth 20000 in
set_option maxHeartbeats 4000000 in
theorem iGoodGaps_any (ap : List UInt8) (v : Value) (L : List (List UInt8 × List UInt8 × List Int)) (w : World) (hr : GRow w v L) (hx : Hid (∀ x ∈ L, x.1.length ≤ 1048576 ∧ x.2.1.length ≤ 1048576)) (hap : ap.length ≤ 1048576) (hE : Env w) :
    Calls Tryd.prog 23 #[.string ⟨ap.toArray⟩, v] w fun e w' => e = .returned (.bool (goodG ap L)) ∧ Below w.heap.size w w' := by
  rw [← good_same]
  obtain ⟨a, cap, rfl, hcap, hmax, HROW⟩ := grow_value hr
  clear hr
  obtain ⟨r, hrr⟩ : ∃ r, r = goodI ap L := ⟨_, rfl⟩
  have HRR : Hid (r = goodI ap L) := hrr
  rw [← hrr]
  clear hrr
  have HPRE : Hid (goodI ap L = (decide (1 ≤ L.length) && decide (L.length ≤ 40) && (gO L 0 == ap) && (gX L (L.length - 1) == ap) && (List.range L.length).all (giB ap L))) := rfl
  by_cases n1 : L.length < 1
  · have HF : Hid (r = false) := HRR.out.trans (HPRE.out.trans (by rw [decide_eq_false (show ¬ 1 ≤ L.length by omega)]; rfl))
    clear HPRE
    go_enter Tryd.func23, Tryd.ntmps23
    go_wp2_with fail
    go_ret
    exact ⟨ret_bool HF.out.symm, Below.refl _ _⟩
  by_cases n2 : 40 < L.length
  · have HF : Hid (r = false) := HRR.out.trans (HPRE.out.trans (by rw [decide_eq_false (show ¬ L.length ≤ 40 by omega)]; simp))
    clear HPRE
    go_enter Tryd.func23, Tryd.ntmps23
    go_wp2_with fail
    go_ret
    exact ⟨ret_bool HF.out.symm, Below.refl _ _⟩
  obtain ⟨b, o, ha, hbl, hcel⟩ := HROW.out (by omega)
  subst ha
  have HCEL : Hid (∀ j, (hj : j < L.length) → ∃ va, GapAt w b (o + j * 3) L[j] va) := hcel
  obtain ⟨v0, q0⟩ := hcel 0 (by omega)
  obtain ⟨v9, q9⟩ := hcel (L.length - 1) (by omega)
  rw [Nat.zero_mul, Nat.add_zero] at q0
  unfold GapAt at q0 q9
  have c0 := q0.1
  have d1 := q9.2.1
  clear q0 q9
  have HX0 : Hid (gO L 0 = (L[0]'(by omega)).1) := gO_at (by omega)
  have HX9 : Hid (gX L (L.length - 1) = (L[L.length - 1]'(by omega)).2.1) := gX_at (by omega)
  obtain ⟨s0, hs0⟩ : ∃ s, s = (L[0]'(by omega)).1 := ⟨_, rfl⟩
  obtain ⟨s9, hs9⟩ : ∃ s, s = (L[L.length - 1]'(by omega)).2.1 := ⟨_, rfl⟩
  rw [← hs0] at HX0 c0
  rw [← hs9] at HX9 d1
  clear hs0 hs9 hcel HROW
  obtain ⟨m, hm⟩ : ∃ m : Nat, m = L.length - 1 := ⟨_, rfl⟩
  rw [← hm] at d1 HX9 HPRE
  have hmi : IntKind.i64.wrap ((L.length : Int) - 1) = (m : Int) := by rw [wrap_small _ (by omega) (by omega)]; omega
  have hmi2 : (L.length : Int) - 1 = (m : Int) := by omega
  have hmb : (m : Int) < (L.length : Int) := by omega
  have HM : Hid (m = L.length - 1) := hm
  have hln : 1 ≤ L.length := by omega
  have hl40 : L.length ≤ 40 := by omega
  clear hm n1 n2
  by_cases e0 : s0 = ap
  case neg =>
    have HF : Hid (r = false) := HRR.out.trans (HPRE.out.trans (by rw [HX0.out, show (s0 == ap) = false by simpa using e0]; simp))
    have e0' : (s0 == ap) = false := by simpa using e0
    have e0'' : (s0 != ap) = true := by simpa using e0
    clear HPRE
    go_enter Tryd.func23, Tryd.ntmps23
    go_wp2_with fail
    go_ret
    exact ⟨ret_bool HF.out.symm, Below.refl _ _⟩
  by_cases e9 : s9 = ap
  case neg =>
    have HF : Hid (r = false) := HRR.out.trans (HPRE.out.trans (by rw [HX9.out, show (s9 == ap) = false by simpa using e9]; simp))
    have e0' : (s0 == ap) = true := by simpa using e0
    have e0'' : (s0 != ap) = false := by simpa using e0
    have e9' : (s9 == ap) = false := by simpa using e9
    have e9'' : (s9 != ap) = true := by simpa using e9
    clear HPRE e0
    go_enter Tryd.func23, Tryd.ntmps23
    go_wp2_with fail
    go_ret
    exact ⟨ret_bool HF.out.symm, Below.refl _ _⟩
  have e0' : (s0 == ap) = true := by simpa using e0
  have e0'' : (s0 != ap) = false := by simpa using e0
  have e9' : (s9 == ap) = true := by simpa using e9
  have e9'' : (s9 != ap) = false := by simpa using e9
  have HALL : Hid ((∀ j, j < L.length → giB ap L j = true) → r = true) := fun h => HRR.out.trans (goodI_all hln hl40 (HX0.out.trans e0) (by rw [← HM.out]; exact HX9.out.trans e9) h)
  have HBADA : Hid (∀ k, k < L.length → giB ap L k = false → r = false) := fun k hk h => HRR.out.trans (goodI_bad k hk h)
  clear HPRE e0 e9 HX0 HX9 HRR HM
  go_enter Tryd.func23, Tryd.ntmps23
  go_wp2_with fail
  clear c0 d1 hmi hmi2 hmb e0' e0'' e9' e9''
  go_loopw [36] (fun i wr => ∃ k : Nat, k ≤ L.length ∧ i = .int .i64 (k : Int) ∧ Hid (∀ j, j < k → giB ap L j = true) ∧ Below w.heap.size w wr) (fun i _ => L.length - (intOf i).toNat)
  case atStart => exact ⟨0, Nat.zero_le _, rfl, fun j h => absurd h (Nat.not_lt_zero _), Below.refl _ _⟩
  case round =>
    obtain ⟨k, hk, rfl, HA, hb⟩ := hrel
    by_cases hlt : k < L.length
    · obtain ⟨va, hcx0⟩ := HCEL.out k hlt
      have hcx := hcx0.kept hb
      have hxl := hx.out _ (List.getElem_mem hlt)
      have HBAD : Hid (giB ap L k = false → r = false) := HBADA.out k hlt
      have HGZ : Hid (k = 0 → giB ap L k = (nameB (L[k]'hlt).1 && nameB (L[k]'hlt).2.1 && belowB (L[k]'hlt).1 ap && (!((L[k]'hlt).2.2 == []) && typesB (L[k]'hlt).2.2))) := fun h => by subst h; exact gi_zero hlt
      have HGS : Hid (∀ j (hj : k = j + 1), giB ap L k = (nameB (L[k]'hlt).1 && nameB (L[k]'hlt).2.1 && belowB (L[k]'hlt).1 ap && (!((L[k]'hlt).2.2 == []) && typesB (L[k]'hlt).2.2) && ((L[j]'(by omega)).2.1 == (L[k]'hlt).1 && decide (cmpN (L[j]'(by omega)).1 (L[k]'hlt).1 < 0)))) := fun j hj => by subst hj; exact gi_succ j hlt
      have HG3 : Hid ((nameB (L[k]'hlt).1 && nameB (L[k]'hlt).2.1 && belowB (L[k]'hlt).1 ap && (!((L[k]'hlt).2.2 == []) && typesB (L[k]'hlt).2.2)) = false → giB ap L k = false) := fun h => by
        by_cases hz : k = 0
        · exact (HGZ.out hz).trans h
        · exact (HGS.out (k - 1) (by omega)).trans (by rw [h]; rfl)
      obtain ⟨x, hxe⟩ : ∃ x, x = L[k]'hlt := ⟨_, rfl⟩
      rw [← hxe] at hcx hxl HGZ HG3
      have HGS2 : Hid (∀ j (hj : k = j + 1), giB ap L k = (nameB x.1 && nameB x.2.1 && belowB x.1 ap && (!(x.2.2 == []) && typesB x.2.2) && ((L[j]'(by omega)).2.1 == x.1 && decide (cmpN (L[j]'(by omega)).1 x.1 < 0)))) := fun j hj => by rw [hxe]; exact HGS.out j hj
      have hz : ZRow .i64 wr va x.2.2 := hcx.2.2.2
      obtain ⟨W0, hW0⟩ : ∃ W0, W0 = wr.alloc (.cells #[.string ⟨x.1.toArray⟩, .string ⟨x.2.1.toArray⟩, va] 26) := ⟨_, rfl⟩
      have HW0 : Hid (wr.alloc (.cells #[.string ⟨x.1.toArray⟩, .string ⟨x.2.1.toArray⟩, va] 26) = W0) := hW0.symm
      have HTR : Hid (∀ W W', Below W0.heap.size W0 W → Below W.heap.size W W' → Below W0.heap.size W0 W') := fun W W' h1 h2 => h1.trans (h2.mono h1.size)
      have HX : Hid (∀ W, Below W0.heap.size W0 W → W.cell? ⟨wr.heap.size, 0, none⟩ = some (.string ⟨x.1.toArray⟩) ∧ W.cell? ⟨wr.heap.size, 1, none⟩ = some (.string ⟨x.2.1.toArray⟩) ∧ W.cell? ⟨wr.heap.size, 2, none⟩ = some va ∧ Below wr.heap.size wr W) := fun W hW => by rw [hW0] at hW; exact gap_facts hW
      have HBW : Hid (∀ W, Below W0.heap.size W0 W → Below w.heap.size w W) := fun W hW => hb.trans ((HX.out W hW).2.2.2.mono hb.size)
      have HN : Hid (∀ W, Below w.heap.size w W → Calls Tryd.prog 47 #[.agg #[.string ⟨x.1.toArray⟩, .string ⟨x.2.1.toArray⟩, va]] W fun e w' => e = .returned (.bool (nameB x.1 && nameB x.2.1)) ∧ Below W.heap.size W w') := fun W hW => hasNames_any ⟨x.1.toArray⟩ ⟨x.2.1.toArray⟩ va W (hE.below hW)
      have HLB : Hid (∀ W, Calls Tryd.prog 25 #[.string ⟨x.1.toArray⟩, .string ⟨ap.toArray⟩] W fun e w' => e = .returned (.bool (belowB x.1 ap)) ∧ w' = W) := fun W => liesBelow_any ⟨x.1.toArray⟩ ⟨ap.toArray⟩ W (by rw [size_list]; omega) (by rw [size_list]; omega)
      have HTY : Hid (∀ W, Below W0.heap.size W0 W → Calls Tryd.prog 48 #[va] W fun e w' => e = .returned (.bool (!(x.2.2 == []) && typesB x.2.2)) ∧ w' = W) := fun W hW => areTypes_any va x.2.2 W (hz.kept (HX.out W hW).2.2.2)
      have HROWS : Hid (∀ j, (hj : k = j + 1) → ∃ y vb, y = L[j]'(by omega) ∧ ∀ W, Below w.heap.size w W → GapAt W b (o + j * 3) y vb) := fun j hj => by
        obtain ⟨vb, h⟩ := HCEL.out j (by omega)
        exact ⟨_, vb, rfl, fun W hW => h.kept hW⟩
      have HPN : Hid (∀ j, (hj : k = j + 1) → nameB (L[j]'(by omega)).1 = true) := fun j hj => by
        have h := HA.out j (by omega)
        unfold giB at h
        rw [gO_at (show j < L.length by omega)] at h
        simp only [Bool.and_eq_true] at h
        exact h.1.1.1.1
      unfold GapAt at hcx
      have c0 := hcx.1
      have c1 := hcx.2.1
      have c2 := hcx.2.2.1
      clear hcx
      obtain ⟨aa, ca, rfl, _, hca, _⟩ := hz
      clear hcx0 hxe hW0 HGS HBADA HCEL
      have hlk : (k : Int) < (L.length : Int) := by omega
      cases h1 : (nameB x.1 && nameB x.2.1) with
      | false =>
        have HF : Hid (r = false) := HBAD.out (HG3.out (by rw [h1]; rfl))
        rw [h1] at HN
        clear HBAD HG3 h1 HGZ HGS2
        go_wp2_with fail
        rw [HW0.out]
        refine (HN.out _ (HBW.out _ (Below.refl _ _))).mono ?_
        rintro e w2 ⟨rfl, hb2⟩
        have hbw2 := HBW.out _ hb2
        go_wp2_with fail
        go_ret
        exact ⟨ret_bool HF.out.symm, hbw2⟩
      | true =>
        rw [h1] at HN
        cases h2 : belowB x.1 ap with
        | false =>
          have HF : Hid (r = false) := HBAD.out (HG3.out (by rw [h2]; simp))
          rw [h2] at HLB
          clear HBAD HG3 h1 h2 HGZ HGS2
          go_wp2_with fail
          rw [HW0.out]
          refine (HN.out _ (HBW.out _ (Below.refl _ _))).mono ?_
          rintro e w2 ⟨rfl, hb2⟩
          have hbw2 := HBW.out _ hb2
          obtain ⟨m0, m1, m2, _⟩ := HX.out _ hb2
          go_wp2_with fail
          refine (HLB.out _).mono ?_
          rintro e w3 ⟨rfl, rfl⟩
          go_wp2_with fail
          go_ret
          exact ⟨ret_bool HF.out.symm, hbw2⟩
        | true =>
          rw [h2] at HLB
          cases h3 : (!(x.2.2 == []) && typesB x.2.2) with
          | false =>
            have HF : Hid (r = false) := HBAD.out (HG3.out (by rw [h3]; simp))
            rw [h3] at HTY
            clear HBAD HG3 h1 h2 h3 HGZ HGS2
            go_wp2_with fail
            rw [HW0.out]
            refine (HN.out _ (HBW.out _ (Below.refl _ _))).mono ?_
            rintro e w2 ⟨rfl, hb2⟩
            have hbw2 := HBW.out _ hb2
            obtain ⟨m0, m1, m2, _⟩ := HX.out _ hb2
            go_wp2_with fail
            refine (HLB.out _).mono ?_
            rintro e w3 ⟨rfl, rfl⟩
            go_wp2_with fail
            refine (HTY.out _ hb2).mono ?_
            rintro e w4 ⟨rfl, rfl⟩
            go_wp2_with fail
            go_ret
            exact ⟨ret_bool HF.out.symm, hbw2⟩
          | true =>
            rw [h3] at HTY
            rcases Nat.eq_zero_or_pos k with hk0 | hk0
            · have HU : Hid (∀ j, j < k + 1 → giB ap L j = true) := all_up HA.out ((HGZ.out hk0).trans (by rw [h1, h2, h3]; rfl))
              have hk0i : ¬ (0 : Int) < (k : Int) := by omega
              have hk0d : decide ((0 : Int) < (k : Int)) = false := by simp; omega
              clear HBAD HG3 h1 h2 h3 HGZ HGS2 hk0
              obtain ⟨u59, hu59⟩ : ∃ u : Bool, u = false := ⟨_, rfl⟩
              have HU59 : Hid (u59 = false) := hu59
              clear hu59
              go_wp2_with fail
              rw [HW0.out]
              refine (HN.out _ (HBW.out _ (Below.refl _ _))).mono ?_
              rintro e w2 ⟨rfl, hb2⟩
              obtain ⟨m0, m1, m2, _⟩ := HX.out _ hb2
              go_wp2_with fail
              refine (HLB.out _).mono ?_
              rintro e w3 ⟨rfl, rfl⟩
              go_wp2_with fail
              refine (HTY.out _ hb2).mono ?_
              rintro e w4 ⟨rfl, rfl⟩
              have hbd := hb2.drew
              clear m0 m1 m2
              go_wp2_with fail
              refine wp_region_quiet (C := fun W => Below W0.heap.size W0 W) (by kernel_rfl) (by kernel_rfl) hbd ?_
              refine wpQuiet_step (fun K hK => ?_)
              rw [if_pos (by rfl)]
              refine ⟨.int .i64 (k : Int), fun W hW => quiet_ok ?_, hK _ ?_⟩
              · have q := HX.out W hW
                obtain ⟨m0, m1, m2, _⟩ := q
                go_simp
                all_goals (try omega)
              clear hK K
              simp only [Act.put, List.setIfInBounds_toArray, List.set_cons_succ, List.set_cons_zero]
              refine wpQuiet_step (fun K hK => ?_)
              rw [if_pos (by rfl)]
              refine ⟨.bool false, fun W hW => quiet_ok ?_, hK _ ?_⟩
              · have q := HX.out W hW
                obtain ⟨m0, m1, m2, _⟩ := q
                go_simp
                all_goals (try omega)
              clear hK K
              simp only [Act.put, List.setIfInBounds_toArray, List.set_cons_succ, List.set_cons_zero]
              refine wpQuiet_step (fun K hK => ?_)
              rw [if_pos (by rfl)]
              refine ⟨.bool u59, fun W hW => quiet_ok ?_, hK _ ?_⟩
              · have q := HX.out W hW
                obtain ⟨m0, m1, m2, _⟩ := q
                have v59 := HU59.out
                go_simp
                all_goals (try omega)
              clear hK K
              simp only [Act.put, List.setIfInBounds_toArray, List.set_cons_succ, List.set_cons_zero]
              refine BigFrame.wpQuiet_skip (by show (some u59 == some true) = false; rw [HU59.out]; rfl) ?_
              simp only [Act.put, List.setIfInBounds_toArray, List.set_cons_succ, List.set_cons_zero]
              refine BigFrame.wpQuiet_skip (by show (some u59 == some true) = false; rw [HU59.out]; rfl) ?_
              simp only [Act.put, List.setIfInBounds_toArray, List.set_cons_succ, List.set_cons_zero]
              refine BigFrame.wpQuiet_skip (by show (some u59 == some true) = false; rw [HU59.out]; rfl) ?_
              simp only [Act.put, List.setIfInBounds_toArray, List.set_cons_succ, List.set_cons_zero]
              refine BigFrame.wpQuiet_skip (by show (some u59 == some true) = false; rw [HU59.out]; rfl) ?_
              simp only [Act.put, List.setIfInBounds_toArray, List.set_cons_succ, List.set_cons_zero]
              refine BigFrame.wpQuiet_skip (by show (some u59 == some true) = false; rw [HU59.out]; rfl) ?_
              simp only [Act.put, List.setIfInBounds_toArray, List.set_cons_succ, List.set_cons_zero]
              refine BigFrame.wpQuiet_skip (by show (some u59 == some true) = false; rw [HU59.out]; rfl) ?_
              simp only [Act.put, List.setIfInBounds_toArray, List.set_cons_succ, List.set_cons_zero]
              refine BigFrame.wpQuiet_skip (by show (some u59 == some true) = false; rw [HU59.out]; rfl) ?_
              simp only [Act.put, List.setIfInBounds_toArray, List.set_cons_succ, List.set_cons_zero]
              refine BigFrame.wpQuiet_skip (by show (some u59 == some true) = false; rw [HU59.out]; rfl) ?_
              simp only [Act.put, List.setIfInBounds_toArray, List.set_cons_succ, List.set_cons_zero]
              refine wpQuiet_step (fun K hK => ?_)
              rw [if_pos (by rfl)]
              refine ⟨.bool false, fun W hW => quiet_ok ?_, hK _ ?_⟩
              · have q := HX.out W hW
                obtain ⟨m0, m1, m2, _⟩ := q
                have v59 := HU59.out
                go_simp
                all_goals (try omega)
              clear hK K
              simp only [Act.put, List.setIfInBounds_toArray, List.set_cons_succ, List.set_cons_zero]
              refine wpQuiet_nil ?_
              intro W hW
              have hbW := HBW.out W hW
              go_wp2_with fail
              go_roundw
              case rel => exact ⟨k + 1, by omega, by go_num, HU, hbW⟩
              case measure => simp [intOf]; omega
            · obtain ⟨j, hj⟩ : ∃ j, k = j + 1 := ⟨k - 1, by omega⟩
              obtain ⟨y, vb, hye, hyc⟩ := HROWS.out j hj
              have HGK := HGS2.out j hj
              have hny := HPN.out j hj
              rw [← hye] at HGK hny
              have hkj : (k : Int) = (j : Int) + 1 := by omega
              have HY : Hid (∀ W, Below W0.heap.size W0 W → W.cell? ⟨b, o + j * 3, none⟩ = some (.string ⟨y.1.toArray⟩) ∧ W.cell? ⟨b, o + j * 3 + 1, none⟩ = some (.string ⟨y.2.1.toArray⟩) ∧ W.cell? ⟨b, o + j * 3 + 2, none⟩ = some vb ∧ ZRow .i64 W vb y.2.2) := fun W hW => hyc W (HBW.out W hW)
              have HLO : Hid (∀ W, Below w.heap.size w W → Calls Tryd.prog 49 #[.agg #[.string ⟨y.1.toArray⟩, .string ⟨y.2.1.toArray⟩, vb], .agg #[.string ⟨x.1.toArray⟩, .string ⟨x.2.1.toArray⟩, .slice aa x.2.2.length ca]] W fun e w' => e = .returned (.bool (y.2.1 == x.1 && decide (cmpN y.1 x.1 < 0))) ∧ Below W.heap.size W w') := fun W hW => leadsOn_any y x vb _ W (hE.below hW) ⟨hny, by have h := h1; simp only [Bool.and_eq_true] at h; exact h.1⟩
              have hk1 : (0 : Int) < (k : Int) := by omega
              have hk1d : decide ((0 : Int) < (k : Int)) = true := by simp; omega
              have wk : IntKind.i64.wrap ((k : Int) - 1) = (j : Int) := by rw [wrap_small _ (by omega) (by omega)]; omega
              have hjl : (j : Int) < (L.length : Int) := by omega
              cases hl : (y.2.1 == x.1 && decide (cmpN y.1 x.1 < 0)) with
              | false =>
                have HF : Hid (r = false) := HBAD.out (HGK.trans (by rw [hl]; simp))
                rw [hl] at HLO
                clear HBAD HG3 h1 h2 h3 HGZ HGS2 hl HGK hny hye hyc hkj hj hk0
                go_wp2_with fail
                rw [HW0.out]
                refine (HN.out _ (HBW.out _ (Below.refl _ _))).mono ?_
                rintro e w2 ⟨rfl, hb2⟩
                obtain ⟨m0, m1, m2, _⟩ := HX.out _ hb2
                go_wp2_with fail
                refine (HLB.out _).mono ?_
                rintro e w3 ⟨rfl, rfl⟩
                go_wp2_with fail
                refine (HTY.out _ hb2).mono ?_
                rintro e w4 ⟨rfl, rfl⟩
                have hbd := hb2.drew
                clear m0 m1 m2
                go_wp2_with fail
                refine wp_region_quiet (C := fun W => Below W0.heap.size W0 W) (by kernel_rfl) (by kernel_rfl) hbd ?_
                refine wpQuiet_step (fun K hK => ?_)
                rw [if_pos (by rfl)]
                refine ⟨.int .i64 (k : Int), fun W hW => quiet_ok ?_, hK _ ?_⟩
                · have q := HX.out W hW
                  obtain ⟨m0, m1, m2, _⟩ := q
                  have q2 := HY.out W hW
                  obtain ⟨z0, z1, z2, _⟩ := q2
                  go_simp
                  all_goals (try omega)
                clear hK K
                simp only [Act.put, List.setIfInBounds_toArray, List.set_cons_succ, List.set_cons_zero]
                refine wpQuiet_step (fun K hK => ?_)
                rw [if_pos (by rfl)]
                refine ⟨.bool true, fun W hW => quiet_ok ?_, hK _ ?_⟩
                · have q := HX.out W hW
                  obtain ⟨m0, m1, m2, _⟩ := q
                  have q2 := HY.out W hW
                  obtain ⟨z0, z1, z2, _⟩ := q2
                  go_simp
                  all_goals (try omega)
                clear hK K
                simp only [Act.put, List.setIfInBounds_toArray, List.set_cons_succ, List.set_cons_zero]
                refine wpQuiet_step (fun K hK => ?_)
                rw [if_pos (by rfl)]
                refine ⟨.bool true, fun W hW => quiet_ok ?_, hK _ ?_⟩
                · have q := HX.out W hW
                  obtain ⟨m0, m1, m2, _⟩ := q
                  have q2 := HY.out W hW
                  obtain ⟨z0, z1, z2, _⟩ := q2
                  go_simp
                  all_goals (try omega)
                clear hK K
                simp only [Act.put, List.setIfInBounds_toArray, List.set_cons_succ, List.set_cons_zero]
                refine wpQuiet_step (fun K hK => ?_)
                rw [if_pos (by rfl)]
                refine ⟨.slice (some ⟨b, o, none⟩) L.length cap, fun W hW => quiet_ok ?_, hK _ ?_⟩
                · have q := HX.out W hW
                  obtain ⟨m0, m1, m2, _⟩ := q
                  have q2 := HY.out W hW
                  obtain ⟨z0, z1, z2, _⟩ := q2
                  go_simp
                  all_goals (try omega)
                clear hK K
                simp only [Act.put, List.setIfInBounds_toArray, List.set_cons_succ, List.set_cons_zero]
                refine wpQuiet_step (fun K hK => ?_)
                rw [if_pos (by rfl)]
                refine ⟨.int .i64 (k : Int), fun W hW => quiet_ok ?_, hK _ ?_⟩
                · have q := HX.out W hW
                  obtain ⟨m0, m1, m2, _⟩ := q
                  have q2 := HY.out W hW
                  obtain ⟨z0, z1, z2, _⟩ := q2
                  go_simp
                  all_goals (try omega)
                clear hK K
                simp only [Act.put, List.setIfInBounds_toArray, List.set_cons_succ, List.set_cons_zero]
                refine wpQuiet_step (fun K hK => ?_)
                rw [if_pos (by rfl)]
                refine ⟨.int .i64 (j : Int), fun W hW => quiet_ok ?_, hK _ ?_⟩
                · have q := HX.out W hW
                  obtain ⟨m0, m1, m2, _⟩ := q
                  have q2 := HY.out W hW
                  obtain ⟨z0, z1, z2, _⟩ := q2
                  go_simp
                  all_goals (try omega)
                clear hK K
                simp only [Act.put, List.setIfInBounds_toArray, List.set_cons_succ, List.set_cons_zero]
                refine wpQuiet_step (fun K hK => ?_)
                rw [if_pos (by rfl)]
                refine ⟨.pointer (some ⟨b, o + j * 3, none⟩), fun W hW => quiet_ok ?_, hK _ ?_⟩
                · have q := HX.out W hW
                  obtain ⟨m0, m1, m2, _⟩ := q
                  have q2 := HY.out W hW
                  obtain ⟨z0, z1, z2, _⟩ := q2
                  go_simp
                  all_goals (try omega)
                clear hK K
                simp only [Act.put, List.setIfInBounds_toArray, List.set_cons_succ, List.set_cons_zero]
                refine wpQuiet_step (fun K hK => ?_)
                rw [if_pos (by rfl)]
                refine ⟨.agg #[.string ⟨y.1.toArray⟩, .string ⟨y.2.1.toArray⟩, vb], fun W hW => quiet_ok ?_, hK _ ?_⟩
                · have q := HX.out W hW
                  obtain ⟨m0, m1, m2, _⟩ := q
                  have q2 := HY.out W hW
                  obtain ⟨z0, z1, z2, _⟩ := q2
                  go_simp
                  all_goals (try omega)
                clear hK K
                simp only [Act.put, List.setIfInBounds_toArray, List.set_cons_succ, List.set_cons_zero]
                refine wpQuiet_step (fun K hK => ?_)
                rw [if_pos (by rfl)]
                refine ⟨.agg #[.string ⟨x.1.toArray⟩, .string ⟨x.2.1.toArray⟩, .slice aa x.2.2.length ca], fun W hW => quiet_ok ?_, hK _ ?_⟩
                · have q := HX.out W hW
                  obtain ⟨m0, m1, m2, _⟩ := q
                  have q2 := HY.out W hW
                  obtain ⟨z0, z1, z2, _⟩ := q2
                  go_simp
                  all_goals (try omega)
                clear hK K
                simp only [Act.put, List.setIfInBounds_toArray, List.set_cons_succ, List.set_cons_zero]
                refine wpQuiet_step (fun K hK => ?_)
                rw [if_pos (by rfl)]
                refine ⟨.bool false, fun W hW => quiet_call (f := 49) (args := #[.agg #[.string ⟨y.1.toArray⟩, .string ⟨y.2.1.toArray⟩, vb], .agg #[.string ⟨x.1.toArray⟩, .string ⟨x.2.1.toArray⟩, .slice aa x.2.2.length ca]]) ?_ ?_, hK _ ?_⟩
                · go_simp
                · exact (HLO.out W (HBW.out W hW)).mono fun e w'' h => ⟨h.1, HTR.out _ _ hW h.2⟩
                clear hK K
                simp only [Act.put, List.setIfInBounds_toArray, List.set_cons_succ, List.set_cons_zero]
                refine wpQuiet_step (fun K hK => ?_)
                rw [if_pos (by rfl)]
                refine ⟨.bool true, fun W hW => quiet_ok ?_, hK _ ?_⟩
                · have q := HX.out W hW
                  obtain ⟨m0, m1, m2, _⟩ := q
                  have q2 := HY.out W hW
                  obtain ⟨z0, z1, z2, _⟩ := q2
                  go_simp
                  all_goals (try omega)
                clear hK K
                simp only [Act.put, List.setIfInBounds_toArray, List.set_cons_succ, List.set_cons_zero]
                refine wpQuiet_step (fun K hK => ?_)
                rw [if_pos (by rfl)]
                refine ⟨.bool true, fun W hW => quiet_ok ?_, hK _ ?_⟩
                · have q := HX.out W hW
                  obtain ⟨m0, m1, m2, _⟩ := q
                  have q2 := HY.out W hW
                  obtain ⟨z0, z1, z2, _⟩ := q2
                  go_simp
                  all_goals (try omega)
                clear hK K
                simp only [Act.put, List.setIfInBounds_toArray, List.set_cons_succ, List.set_cons_zero]
                refine wpQuiet_nil ?_
                intro W hW
                have hbW := HBW.out W hW
                go_wp2_with fail
                go_ret
                exact ⟨ret_bool HF.out.symm, hbW⟩
              | true =>
                have HU : Hid (∀ j, j < k + 1 → giB ap L j = true) := all_up HA.out (HGK.trans (by rw [h1, h2, h3, hl]; rfl))
                rw [hl] at HLO
                clear HBAD HG3 h1 h2 h3 HGZ HGS2 hl HGK hny hye hyc hkj hj hk0
                go_wp2_with fail
                rw [HW0.out]
                refine (HN.out _ (HBW.out _ (Below.refl _ _))).mono ?_
                rintro e w2 ⟨rfl, hb2⟩
                obtain ⟨m0, m1, m2, _⟩ := HX.out _ hb2
                go_wp2_with fail
                refine (HLB.out _).mono ?_
                rintro e w3 ⟨rfl, rfl⟩
                go_wp2_with fail
                refine (HTY.out _ hb2).mono ?_
                rintro e w4 ⟨rfl, rfl⟩
                have hbd := hb2.drew
                clear m0 m1 m2
                go_wp2_with fail
                refine wp_region_quiet (C := fun W => Below W0.heap.size W0 W) (by kernel_rfl) (by kernel_rfl) hbd ?_
                refine wpQuiet_step (fun K hK => ?_)
                rw [if_pos (by rfl)]
                refine ⟨.int .i64 (k : Int), fun W hW => quiet_ok ?_, hK _ ?_⟩
                · have q := HX.out W hW
                  obtain ⟨m0, m1, m2, _⟩ := q
                  have q2 := HY.out W hW
                  obtain ⟨z0, z1, z2, _⟩ := q2
                  go_simp
                  all_goals (try omega)
                clear hK K
                simp only [Act.put, List.setIfInBounds_toArray, List.set_cons_succ, List.set_cons_zero]
                refine wpQuiet_step (fun K hK => ?_)
                rw [if_pos (by rfl)]
                refine ⟨.bool true, fun W hW => quiet_ok ?_, hK _ ?_⟩
                · have q := HX.out W hW
                  obtain ⟨m0, m1, m2, _⟩ := q
                  have q2 := HY.out W hW
                  obtain ⟨z0, z1, z2, _⟩ := q2
                  go_simp
                  all_goals (try omega)
                clear hK K
                simp only [Act.put, List.setIfInBounds_toArray, List.set_cons_succ, List.set_cons_zero]
                refine wpQuiet_step (fun K hK => ?_)
                rw [if_pos (by rfl)]
                refine ⟨.bool true, fun W hW => quiet_ok ?_, hK _ ?_⟩
                · have q := HX.out W hW
                  obtain ⟨m0, m1, m2, _⟩ := q
                  have q2 := HY.out W hW
                  obtain ⟨z0, z1, z2, _⟩ := q2
                  go_simp
                  all_goals (try omega)
                clear hK K
                simp only [Act.put, List.setIfInBounds_toArray, List.set_cons_succ, List.set_cons_zero]
                refine wpQuiet_step (fun K hK => ?_)
                rw [if_pos (by rfl)]
                refine ⟨.slice (some ⟨b, o, none⟩) L.length cap, fun W hW => quiet_ok ?_, hK _ ?_⟩
                · have q := HX.out W hW
                  obtain ⟨m0, m1, m2, _⟩ := q
                  have q2 := HY.out W hW
                  obtain ⟨z0, z1, z2, _⟩ := q2
                  go_simp
                  all_goals (try omega)
                clear hK K
                simp only [Act.put, List.setIfInBounds_toArray, List.set_cons_succ, List.set_cons_zero]
                refine wpQuiet_step (fun K hK => ?_)
                rw [if_pos (by rfl)]
                refine ⟨.int .i64 (k : Int), fun W hW => quiet_ok ?_, hK _ ?_⟩
                · have q := HX.out W hW
                  obtain ⟨m0, m1, m2, _⟩ := q
                  have q2 := HY.out W hW
                  obtain ⟨z0, z1, z2, _⟩ := q2
                  go_simp
                  all_goals (try omega)
                clear hK K
                simp only [Act.put, List.setIfInBounds_toArray, List.set_cons_succ, List.set_cons_zero]
                refine wpQuiet_step (fun K hK => ?_)
                rw [if_pos (by rfl)]
                refine ⟨.int .i64 (j : Int), fun W hW => quiet_ok ?_, hK _ ?_⟩
                · have q := HX.out W hW
                  obtain ⟨m0, m1, m2, _⟩ := q
                  have q2 := HY.out W hW
                  obtain ⟨z0, z1, z2, _⟩ := q2
                  go_simp
                  all_goals (try omega)
                clear hK K
                simp only [Act.put, List.setIfInBounds_toArray, List.set_cons_succ, List.set_cons_zero]
                refine wpQuiet_step (fun K hK => ?_)
                rw [if_pos (by rfl)]
                refine ⟨.pointer (some ⟨b, o + j * 3, none⟩), fun W hW => quiet_ok ?_, hK _ ?_⟩
                · have q := HX.out W hW
                  obtain ⟨m0, m1, m2, _⟩ := q
                  have q2 := HY.out W hW
                  obtain ⟨z0, z1, z2, _⟩ := q2
                  go_simp
                  all_goals (try omega)
                clear hK K
                simp only [Act.put, List.setIfInBounds_toArray, List.set_cons_succ, List.set_cons_zero]
                refine wpQuiet_step (fun K hK => ?_)
                rw [if_pos (by rfl)]
                refine ⟨.agg #[.string ⟨y.1.toArray⟩, .string ⟨y.2.1.toArray⟩, vb], fun W hW => quiet_ok ?_, hK _ ?_⟩
                · have q := HX.out W hW
                  obtain ⟨m0, m1, m2, _⟩ := q
                  have q2 := HY.out W hW
                  obtain ⟨z0, z1, z2, _⟩ := q2
                  go_simp
                  all_goals (try omega)
                clear hK K
                simp only [Act.put, List.setIfInBounds_toArray, List.set_cons_succ, List.set_cons_zero]
                refine wpQuiet_step (fun K hK => ?_)
                rw [if_pos (by rfl)]
                refine ⟨.agg #[.string ⟨x.1.toArray⟩, .string ⟨x.2.1.toArray⟩, .slice aa x.2.2.length ca], fun W hW => quiet_ok ?_, hK _ ?_⟩
                · have q := HX.out W hW
                  obtain ⟨m0, m1, m2, _⟩ := q
                  have q2 := HY.out W hW
                  obtain ⟨z0, z1, z2, _⟩ := q2
                  go_simp
                  all_goals (try omega)
                clear hK K
                simp only [Act.put, List.setIfInBounds_toArray, List.set_cons_succ, List.set_cons_zero]
                refine wpQuiet_step (fun K hK => ?_)
                rw [if_pos (by rfl)]
                refine ⟨.bool true, fun W hW => quiet_call (f := 49) (args := #[.agg #[.string ⟨y.1.toArray⟩, .string ⟨y.2.1.toArray⟩, vb], .agg #[.string ⟨x.1.toArray⟩, .string ⟨x.2.1.toArray⟩, .slice aa x.2.2.length ca]]) ?_ ?_, hK _ ?_⟩
                · go_simp
                · exact (HLO.out W (HBW.out W hW)).mono fun e w'' h => ⟨h.1, HTR.out _ _ hW h.2⟩
                clear hK K
                simp only [Act.put, List.setIfInBounds_toArray, List.set_cons_succ, List.set_cons_zero]
                refine wpQuiet_step (fun K hK => ?_)
                rw [if_pos (by rfl)]
                refine ⟨.bool false, fun W hW => quiet_ok ?_, hK _ ?_⟩
                · have q := HX.out W hW
                  obtain ⟨m0, m1, m2, _⟩ := q
                  have q2 := HY.out W hW
                  obtain ⟨z0, z1, z2, _⟩ := q2
                  go_simp
                  all_goals (try omega)
                clear hK K
                simp only [Act.put, List.setIfInBounds_toArray, List.set_cons_succ, List.set_cons_zero]
                refine wpQuiet_step (fun K hK => ?_)
                rw [if_pos (by rfl)]
                refine ⟨.bool false, fun W hW => quiet_ok ?_, hK _ ?_⟩
                · have q := HX.out W hW
                  obtain ⟨m0, m1, m2, _⟩ := q
                  have q2 := HY.out W hW
                  obtain ⟨z0, z1, z2, _⟩ := q2
                  go_simp
                  all_goals (try omega)
                clear hK K
                simp only [Act.put, List.setIfInBounds_toArray, List.set_cons_succ, List.set_cons_zero]
                refine wpQuiet_nil ?_
                intro W hW
                have hbW := HBW.out W hW
                go_wp2_with fail
                go_roundw
                case rel => exact ⟨k + 1, by omega, by go_num, HU, hbW⟩
                case measure => simp [intOf]; omega
    · have HF : Hid (r = true) := HALL.out (fun j hj => HA.out j (by omega))
      go_wp2_with fail
      go_ret
      exact ⟨ret_bool HF.out.symm, hb⟩
end Go.Proofs.YtoeffplfkdogdaaDoor

namespace Go.Proofs.YtoeffplfkdogdaaDoor
open Go.RowKit

set_option maxRecDepth 20000 in
set_option maxHeartbeats 8000000 in
theorem sGoodGaps_any (ap : List UInt8) (v : Value) (L : List (List UInt8 × List UInt8 × List Int)) (w : World) (hr : GRow w v L) (hx : Hid (∀ x ∈ L, x.1.length ≤ 1048576 ∧ x.2.1.length ≤ 1048576)) (hap : ap.length ≤ 1048576) :
    Calls Tryd.prog 17 #[.string ⟨ap.toArray⟩, v] w fun e w' => e = .returned (.bool (goodG ap L)) ∧ Below w.heap.size w w' := by
  obtain ⟨a, cap, rfl, hcap, hmax, HROW⟩ := grow_value hr
  clear hr
  obtain ⟨r, hrr⟩ : ∃ r, r = goodG ap L := ⟨_, rfl⟩
  have HRR : Hid (r = goodG ap L) := hrr
  rw [← hrr]
  clear hrr
  have HPRE : Hid (goodG ap L = (nameB ap && decide (1 ≤ L.length) && decide (L.length ≤ 40) && (gO L 0 == ap) && (List.range L.length).all (gsB ap L))) := rfl
  have HNA : Hid (∀ W, Calls Tryd.prog 18 #[.string ⟨ap.toArray⟩] W fun e w' => e = .returned (.bool (nameB ap)) ∧ Below W.heap.size W w') := fun W => sGoodName_any ⟨ap.toArray⟩ W (by rw [size_list]; omega)
  have HIN : Hid (∀ W, Calls Tryd.prog 42 #[.int .i64 (L.length : Int), .int .i64 1, .int .i64 40] W fun e w' => e = .returned (.bool (decide ((1 : Int) ≤ (L.length : Int)) && decide ((L.length : Int) ≤ 40))) ∧ w' = W) := fun W => l1In_any (L.length : Int) 1 40 W
  cases na : nameB ap with
  | false =>
    have HF : Hid (r = false) := HRR.out.trans (HPRE.out.trans (by rw [na]; rfl))
    rw [na] at HNA
    clear HPRE na
    go_enter Tryd.func17, Tryd.ntmps17
    go_wp2_with fail
    refine (HNA.out _).mono ?_
    rintro e w1 ⟨rfl, hb1⟩
    go_wp2_with fail
    go_ret
    exact ⟨ret_bool HF.out.symm, hb1⟩
  | true =>
  rw [na] at HNA
  by_cases nl : 1 ≤ L.length ∧ L.length ≤ 40
  case neg =>
    have HF : Hid (r = false) := HRR.out.trans (HPRE.out.trans (by
      by_cases g : 1 ≤ L.length
      · rw [decide_eq_false (show ¬ L.length ≤ 40 from fun h => nl ⟨g, h⟩)]; simp
      · rw [decide_eq_false g]; simp))
    have e0 : (decide ((1 : Int) ≤ (L.length : Int)) && decide ((L.length : Int) ≤ 40)) = false := by
      by_cases g : 1 ≤ L.length
      · rw [decide_eq_false (show ¬ (L.length : Int) ≤ 40 from fun h => nl ⟨g, by omega⟩)]; simp
      · rw [decide_eq_false (show ¬ (1 : Int) ≤ (L.length : Int) by omega)]; simp
    rw [e0] at HIN
    clear HPRE na nl e0
    go_enter Tryd.func17, Tryd.ntmps17
    go_wp2_with fail
    refine (HNA.out _).mono ?_
    rintro e w1 ⟨rfl, hb1⟩
    go_wp2_with fail
    refine (HIN.out _).mono ?_
    rintro e w2 ⟨rfl, rfl⟩
    go_wp2_with fail
    go_ret
    exact ⟨ret_bool HF.out.symm, hb1⟩
  have hln : 1 ≤ L.length := nl.1
  have hl40 : L.length ≤ 40 := nl.2
  rw [decide_eq_true (show (1 : Int) ≤ (L.length : Int) by omega), decide_eq_true (show (L.length : Int) ≤ 40 by omega), show (true && true) = true from rfl] at HIN
  obtain ⟨b, o, ha, hbl, hcel⟩ := HROW.out (by omega)
  subst ha
  have HCEL : Hid (∀ j, (hj : j < L.length) → ∃ va, GapAt w b (o + j * 3) L[j] va) := hcel
  obtain ⟨v0, q0⟩ := hcel 0 (by omega)
  rw [Nat.zero_mul, Nat.add_zero] at q0
  unfold GapAt at q0
  have HC0 : Hid (∀ W, Below w.heap.size w W → W.cell? ⟨b, o, none⟩ = some (.string ⟨(L[0]'(by omega)).1.toArray⟩)) := fun W hW => by rw [hW.cell (p := ⟨b, o, none⟩) hbl]; exact q0.1
  clear q0
  have HX0 : Hid (gO L 0 = (L[0]'(by omega)).1) := gO_at (by omega)
  obtain ⟨s0, hs0⟩ : ∃ s, s = (L[0]'(by omega)).1 := ⟨_, rfl⟩
  rw [← hs0] at HX0 HC0
  clear hs0 hcel HROW nl
  have hl0 : (0 : Int) < (L.length : Int) := by omega
  by_cases e0 : s0 = ap
  case neg =>
    have HF : Hid (r = false) := HRR.out.trans (HPRE.out.trans (by rw [HX0.out, show (s0 == ap) = false by simpa using e0]; simp))
    have e0' : (s0 == ap) = false := by simpa using e0
    have e0'' : (s0 != ap) = true := by simpa using e0
    clear HPRE na
    go_enter Tryd.func17, Tryd.ntmps17
    go_wp2_with fail
    refine (HNA.out _).mono ?_
    rintro e w1 ⟨rfl, hb1⟩
    have c0 := HC0.out _ hb1
    go_wp2_with fail
    refine (HIN.out _).mono ?_
    rintro e w2 ⟨rfl, rfl⟩
    go_wp2_with fail
    go_ret
    exact ⟨ret_bool HF.out.symm, hb1⟩
  have e0' : (s0 == ap) = true := by simpa using e0
  have e0'' : (s0 != ap) = false := by simpa using e0
  have HALL : Hid ((∀ j, j < L.length → gsB ap L j = true) → r = true) := fun h => HRR.out.trans (goodG_all na hln hl40 (HX0.out.trans e0) h)
  have HBADA : Hid (∀ k, k < L.length → gsB ap L k = false → r = false) := fun k hk h => HRR.out.trans (goodG_bad k hk h)
  clear HPRE e0 HX0 HRR na
  go_enter Tryd.func17, Tryd.ntmps17
  go_wp2_with fail
  refine (HNA.out _).mono ?_
  rintro e w1 ⟨rfl, hb1⟩
  have c0 := HC0.out _ hb1
  go_wp2_with fail
  refine (HIN.out _).mono ?_
  rintro e w2 ⟨rfl, rfl⟩
  go_wp2_with fail
  clear c0 e0' e0'' HNA HIN HC0
  go_loopw [28] (fun i wr => ∃ k : Nat, k ≤ L.length ∧ i = .int .i64 (k : Int) ∧ Hid (∀ j, j < k → gsB ap L j = true) ∧ Below w.heap.size w wr) (fun i _ => L.length - (intOf i).toNat)
  case atStart => exact ⟨0, Nat.zero_le _, rfl, fun j h => absurd h (Nat.not_lt_zero _), hb1⟩
  case round =>
    obtain ⟨k, hk, rfl, HA, hb⟩ := hrel
    clear hb1
    by_cases hlt : k < L.length
    · obtain ⟨va, hcx0⟩ := HCEL.out k hlt
      have hcx := hcx0.kept hb
      have hxl := hx.out _ (List.getElem_mem hlt)
      have hmlt : (k + 1) % L.length < L.length := Nat.mod_lt _ (by omega)
      obtain ⟨m, hm⟩ : ∃ m, m = (k + 1) % L.length := ⟨_, rfl⟩
      rw [← hm] at hmlt
      have hmr : ((k : Int) + 1).tmod (L.length : Int) = (m : Int) := by rw [hm, Int.tmod_eq_emod_of_nonneg (by omega), Int.natCast_emod]; simp
      have hzl := hx.out _ (List.getElem_mem hmlt)
      have HG : Hid (gsB ap L k = (nameB (L[k]'hlt).1 && belowB (L[k]'hlt).1 ap && (k == 0 || decide (cmpN (gO L (k - 1)) (L[k]'hlt).1 < 0)) && ((L[k]'hlt).2.1 == (L[m]'hmlt).1) && !((L[k]'hlt).2.2 == []) && typesB (L[k]'hlt).2.2)) := gs_at k m hlt hm hmlt
      have HBAD : Hid (gsB ap L k = false → r = false) := HBADA.out k hlt
      have HUPA : Hid (gsB ap L k = true → ∀ j, j < k + 1 → gsB ap L j = true) := fun h => all_up HA.out h
      obtain ⟨vz, hcz0⟩ := HCEL.out m hmlt
      obtain ⟨z, hze⟩ : ∃ z, z = L[m]'hmlt := ⟨_, rfl⟩
      obtain ⟨x, hxe⟩ : ∃ x, x = L[k]'hlt := ⟨_, rfl⟩
      rw [← hxe, ← hze] at HG
      rw [← hxe] at hcx hxl
      rw [← hze] at hcz0
      have hz : ZRow .i64 wr va x.2.2 := hcx.2.2.2
      unfold GapAt at hcx
      have c0 := hcx.1
      have c1 := hcx.2.1
      have c2 := hcx.2.2.1
      clear hcx
      obtain ⟨aa, ca, rfl, hca1, hca, HROW2⟩ := zrow_value hz
      obtain ⟨W0, hW0⟩ : ∃ W0, W0 = wr.alloc (.cells #[.string ⟨x.1.toArray⟩, .string ⟨x.2.1.toArray⟩, .slice aa x.2.2.length ca] 26) := ⟨_, rfl⟩
      have HW0 : Hid (wr.alloc (.cells #[.string ⟨x.1.toArray⟩, .string ⟨x.2.1.toArray⟩, .slice aa x.2.2.length ca] 26) = W0) := hW0.symm
      obtain ⟨gx, hgx⟩ : ∃ gx, gx = wr.heap.size := ⟨_, rfl⟩
      have HGX : Hid (wr.heap.size = gx) := hgx.symm
      have HTR : Hid (∀ W W', Below W0.heap.size W0 W → Below W.heap.size W W' → Below W0.heap.size W0 W') := fun W W' h1 h2 => h1.trans (h2.mono h1.size)
      have HX : Hid (∀ W, Below W0.heap.size W0 W → W.cell? ⟨gx, 0, none⟩ = some (.string ⟨x.1.toArray⟩) ∧ W.cell? ⟨gx, 1, none⟩ = some (.string ⟨x.2.1.toArray⟩) ∧ W.cell? ⟨gx, 2, none⟩ = some (.slice aa x.2.2.length ca) ∧ Below wr.heap.size wr W) := fun W hW => by rw [hW0] at hW; rw [hgx]; exact gap_facts hW
      have HBW : Hid (∀ W, Below W0.heap.size W0 W → Below w.heap.size w W) := fun W hW => hb.trans ((HX.out W hW).2.2.2.mono hb.size)
      have HZ : Hid (∀ W, Below W0.heap.size W0 W → W.cell? ⟨b, o + m * 3, none⟩ = some (.string ⟨z.1.toArray⟩) ∧ W.cell? ⟨b, o + m * 3 + 1, none⟩ = some (.string ⟨z.2.1.toArray⟩) ∧ W.cell? ⟨b, o + m * 3 + 2, none⟩ = some vz ∧ ZRow .i64 W vz z.2.2) := fun W hW => hcz0.kept (HBW.out W hW)
      have HN : Hid (∀ W, Calls Tryd.prog 18 #[.string ⟨x.1.toArray⟩] W fun e w' => e = .returned (.bool (nameB x.1)) ∧ Below W.heap.size W w') := fun W => sGoodName_any ⟨x.1.toArray⟩ W (by rw [size_list]; omega)
      have HLB : Hid (∀ W, Calls Tryd.prog 19 #[.string ⟨x.1.toArray⟩, .string ⟨ap.toArray⟩] W fun e w' => e = .returned (.bool (belowB x.1 ap)) ∧ Below W.heap.size W w') := fun W => (l1Below_any ⟨x.1.toArray⟩ ⟨ap.toArray⟩ W (by rw [size_list]; omega) (by rw [size_list]; omega)).mono fun e w' h => ⟨h.1, by rw [h.2]; exact Below.refl _ _⟩
      have hbd : Below W0.heap.size W0 W0.drew := (Below.refl _ _).drew
      have HGB : Hid (∀ j, (hj : k = j + 1) → nameB (L[j]'(by omega)).1 = true) := fun j hj => by
        have h := HA.out j (by omega)
        unfold gsB at h
        rw [gO_at (show j < L.length by omega)] at h
        simp only [Bool.and_eq_true] at h
        exact h.1.1.1.1.1
      have HROWS : Hid (∀ j, (hj : k = j + 1) → ∃ y vb, y = L[j]'(by omega) ∧ y.1 = gO L (k - 1) ∧ nameB y.1 = true ∧ y.1.length ≤ 1048576 ∧ ∀ W, Below w.heap.size w W → GapAt W b (o + j * 3) y vb) := fun j hj => by
        obtain ⟨vb, h⟩ := HCEL.out j (by omega)
        exact ⟨_, vb, rfl, by rw [show k - 1 = j by omega, gO_at (show j < L.length by omega)], HGB.out j hj, (hx.out _ (List.getElem_mem (by omega))).1, fun W hW => h.kept hW⟩
      have hlk : (k : Int) < (L.length : Int) := by omega
      have hml : (m : Int) < (L.length : Int) := by omega
      have wk1 : IntKind.i64.wrap ((k : Int) + 1) = (k : Int) + 1 := wrap_small _ (by omega) (by omega)
      have wm : IntKind.i64.wrap (m : Int) = (m : Int) := wrap_small _ (by omega) (by omega)
      have hL0 : ¬ (L.length : Int) = 0 := by omega
      have hLn : ¬ L = [] := fun h => by rw [h] at hln; simp at hln
      have hL0b : ((L.length : Int) == 0) = false := beq_eq_false_iff_ne.2 (by omega)
      clear hcx0 hcz0 hxe hze hW0 hgx hm HBADA HCEL hz hzl
      cases h1 : nameB x.1 with
      | false =>
        have HF : Hid (r = false) := HBAD.out (HG.out.trans (by rw [h1]; rfl))
        rw [h1] at HN
        clear HBAD HG h1 HUPA HGB HROWS
        obtain ⟨u37, hu37⟩ : ∃ u : Bool, u = true := ⟨_, rfl⟩
        have HU37 : Hid (u37 = true) := hu37
        clear hu37
        obtain ⟨u44, hu44⟩ : ∃ u : Bool, u = true := ⟨_, rfl⟩
        have HU44 : Hid (u44 = true) := hu44
        clear hu44
        obtain ⟨u60, hu60⟩ : ∃ u : Bool, u = true := ⟨_, rfl⟩
        have HU60 : Hid (u60 = true) := hu60
        clear hu60
        obtain ⟨u74, hu74⟩ : ∃ u : Bool, u = true := ⟨_, rfl⟩
        have HU74 : Hid (u74 = true) := hu74
        clear hu74
        go_wp2_with fail
        rw [HW0.out, HGX.out]
        refine wp_region_quiet (C := fun W => Below W0.heap.size W0 W) (by kernel_rfl) (by kernel_rfl) hbd ?_
        refine wpQuiet_step (fun K hK => ?_)
        rw [if_pos (by rfl)]
        refine ⟨.pointer (some ⟨gx, 0, none⟩), fun W hW => quiet_ok ?_, hK _ ?_⟩
        · have q := HX.out W hW
          obtain ⟨m0, m1, m2, _⟩ := q
          go_simp
          all_goals (try omega)
        clear hK K
        simp only [Act.put, List.setIfInBounds_toArray, List.set_cons_succ, List.set_cons_zero]
        refine wpQuiet_step (fun K hK => ?_)
        rw [if_pos (by rfl)]
        refine ⟨.string ⟨x.1.toArray⟩, fun W hW => quiet_ok ?_, hK _ ?_⟩
        · have q := HX.out W hW
          obtain ⟨m0, m1, m2, _⟩ := q
          go_simp
          all_goals (try omega)
        clear hK K
        simp only [Act.put, List.setIfInBounds_toArray, List.set_cons_succ, List.set_cons_zero]
        refine wpQuiet_step (fun K hK => ?_)
        rw [if_pos (by rfl)]
        refine ⟨.bool false, fun W hW => quiet_call (f := 18) (args := #[.string ⟨x.1.toArray⟩]) ?_ ?_, hK _ ?_⟩
        · go_simp
        · exact (HN.out W).mono fun e w'' h => ⟨h.1, HTR.out _ _ hW h.2⟩
        clear hK K
        simp only [Act.put, List.setIfInBounds_toArray, List.set_cons_succ, List.set_cons_zero]
        refine wpQuiet_step (fun K hK => ?_)
        rw [if_pos (by rfl)]
        refine ⟨.bool true, fun W hW => quiet_ok ?_, hK _ ?_⟩
        · have q := HX.out W hW
          obtain ⟨m0, m1, m2, _⟩ := q
          go_simp
          all_goals (try omega)
        clear hK K
        simp only [Act.put, List.setIfInBounds_toArray, List.set_cons_succ, List.set_cons_zero]
        refine wpQuiet_step (fun K hK => ?_)
        rw [if_pos (by rfl)]
        refine ⟨.bool u37, fun W hW => quiet_ok ?_, hK _ ?_⟩
        · have q := HX.out W hW
          obtain ⟨m0, m1, m2, _⟩ := q
          have v37 := HU37.out
          go_simp
          all_goals (try omega)
        clear hK K
        simp only [Act.put, List.setIfInBounds_toArray, List.set_cons_succ, List.set_cons_zero]
        refine BigFrame.wpQuiet_skip (by show (some u37 == some false) = false; rw [HU37.out]; rfl) ?_
        simp only [Act.put, List.setIfInBounds_toArray, List.set_cons_succ, List.set_cons_zero]
        refine BigFrame.wpQuiet_skip (by show (some u37 == some false) = false; rw [HU37.out]; rfl) ?_
        simp only [Act.put, List.setIfInBounds_toArray, List.set_cons_succ, List.set_cons_zero]
        refine BigFrame.wpQuiet_skip (by show (some u37 == some false) = false; rw [HU37.out]; rfl) ?_
        simp only [Act.put, List.setIfInBounds_toArray, List.set_cons_succ, List.set_cons_zero]
        refine BigFrame.wpQuiet_skip (by show (some u37 == some false) = false; rw [HU37.out]; rfl) ?_
        simp only [Act.put, List.setIfInBounds_toArray, List.set_cons_succ, List.set_cons_zero]
        refine BigFrame.wpQuiet_skip (by show (some u37 == some false) = false; rw [HU37.out]; rfl) ?_
        simp only [Act.put, List.setIfInBounds_toArray, List.set_cons_succ, List.set_cons_zero]
        refine wpQuiet_step (fun K hK => ?_)
        rw [if_pos (by rfl)]
        refine ⟨.bool true, fun W hW => quiet_ok ?_, hK _ ?_⟩
        · have q := HX.out W hW
          obtain ⟨m0, m1, m2, _⟩ := q
          have v37 := HU37.out
          go_simp
          all_goals (try omega)
        clear hK K
        simp only [Act.put, List.setIfInBounds_toArray, List.set_cons_succ, List.set_cons_zero]
        refine wpQuiet_step (fun K hK => ?_)
        rw [if_pos (by rfl)]
        refine ⟨.bool u44, fun W hW => quiet_ok ?_, hK _ ?_⟩
        · have q := HX.out W hW
          obtain ⟨m0, m1, m2, _⟩ := q
          have v37 := HU37.out
          have v44 := HU44.out
          go_simp
          all_goals (try omega)
        clear hK K
        simp only [Act.put, List.setIfInBounds_toArray, List.set_cons_succ, List.set_cons_zero]
        refine BigFrame.wpQuiet_skip (by show (some u44 == some false) = false; rw [HU44.out]; rfl) ?_
        simp only [Act.put, List.setIfInBounds_toArray, List.set_cons_succ, List.set_cons_zero]
        refine BigFrame.wpQuiet_skip (by show (some u44 == some false) = false; rw [HU44.out]; rfl) ?_
        simp only [Act.put, List.setIfInBounds_toArray, List.set_cons_succ, List.set_cons_zero]
        refine BigFrame.wpQuiet_skip (by show (some u44 == some false) = false; rw [HU44.out]; rfl) ?_
        simp only [Act.put, List.setIfInBounds_toArray, List.set_cons_succ, List.set_cons_zero]
        generalize hund : (undef : Value) = un
        refine BigFrame.wpQuiet_skip (by rw [← hund]; rfl) ?_
        simp only [Act.put, List.setIfInBounds_toArray, List.set_cons_succ, List.set_cons_zero]
        refine BigFrame.wpQuiet_skip (by rw [← hund]; rfl) ?_
        simp only [Act.put, List.setIfInBounds_toArray, List.set_cons_succ, List.set_cons_zero]
        refine BigFrame.wpQuiet_skip (by rw [← hund]; rfl) ?_
        simp only [Act.put, List.setIfInBounds_toArray, List.set_cons_succ, List.set_cons_zero]
        refine BigFrame.wpQuiet_skip (by rw [← hund]; rfl) ?_
        simp only [Act.put, List.setIfInBounds_toArray, List.set_cons_succ, List.set_cons_zero]
        refine BigFrame.wpQuiet_skip (by rw [← hund]; rfl) ?_
        simp only [Act.put, List.setIfInBounds_toArray, List.set_cons_succ, List.set_cons_zero]
        refine BigFrame.wpQuiet_skip (by rw [← hund]; rfl) ?_
        simp only [Act.put, List.setIfInBounds_toArray, List.set_cons_succ, List.set_cons_zero]
        refine BigFrame.wpQuiet_skip (by rw [← hund]; rfl) ?_
        simp only [Act.put, List.setIfInBounds_toArray, List.set_cons_succ, List.set_cons_zero]
        refine BigFrame.wpQuiet_skip (by rw [← hund]; rfl) ?_
        simp only [Act.put, List.setIfInBounds_toArray, List.set_cons_succ, List.set_cons_zero]
        refine BigFrame.wpQuiet_skip (by rw [← hund]; rfl) ?_
        simp only [Act.put, List.setIfInBounds_toArray, List.set_cons_succ, List.set_cons_zero]
        refine BigFrame.wpQuiet_skip (by rw [← hund]; rfl) ?_
        simp only [Act.put, List.setIfInBounds_toArray, List.set_cons_succ, List.set_cons_zero]
        refine BigFrame.wpQuiet_skip (by show (some u44 == some false) = false; rw [HU44.out]; rfl) ?_
        simp only [Act.put, List.setIfInBounds_toArray, List.set_cons_succ, List.set_cons_zero]
        refine wpQuiet_step (fun K hK => ?_)
        rw [if_pos (by rfl)]
        refine ⟨.bool true, fun W hW => quiet_ok ?_, hK _ ?_⟩
        · have q := HX.out W hW
          obtain ⟨m0, m1, m2, _⟩ := q
          have v37 := HU37.out
          have v44 := HU44.out
          go_simp
          all_goals (try omega)
        clear hK K
        simp only [Act.put, List.setIfInBounds_toArray, List.set_cons_succ, List.set_cons_zero]
        refine wpQuiet_step (fun K hK => ?_)
        rw [if_pos (by rfl)]
        refine ⟨.bool u60, fun W hW => quiet_ok ?_, hK _ ?_⟩
        · have q := HX.out W hW
          obtain ⟨m0, m1, m2, _⟩ := q
          have v37 := HU37.out
          have v44 := HU44.out
          have v60 := HU60.out
          go_simp
          all_goals (try omega)
        clear hK K
        simp only [Act.put, List.setIfInBounds_toArray, List.set_cons_succ, List.set_cons_zero]
        refine BigFrame.wpQuiet_skip (by show (some u60 == some false) = false; rw [HU60.out]; rfl) ?_
        simp only [Act.put, List.setIfInBounds_toArray, List.set_cons_succ, List.set_cons_zero]
        refine BigFrame.wpQuiet_skip (by show (some u60 == some false) = false; rw [HU60.out]; rfl) ?_
        simp only [Act.put, List.setIfInBounds_toArray, List.set_cons_succ, List.set_cons_zero]
        refine BigFrame.wpQuiet_skip (by show (some u60 == some false) = false; rw [HU60.out]; rfl) ?_
        simp only [Act.put, List.setIfInBounds_toArray, List.set_cons_succ, List.set_cons_zero]
        refine BigFrame.wpQuiet_skip (by show (some u60 == some false) = false; rw [HU60.out]; rfl) ?_
        simp only [Act.put, List.setIfInBounds_toArray, List.set_cons_succ, List.set_cons_zero]
        refine BigFrame.wpQuiet_skip (by show (some u60 == some false) = false; rw [HU60.out]; rfl) ?_
        simp only [Act.put, List.setIfInBounds_toArray, List.set_cons_succ, List.set_cons_zero]
        refine BigFrame.wpQuiet_skip (by show (some u60 == some false) = false; rw [HU60.out]; rfl) ?_
        simp only [Act.put, List.setIfInBounds_toArray, List.set_cons_succ, List.set_cons_zero]
        refine BigFrame.wpQuiet_skip (by show (some u60 == some false) = false; rw [HU60.out]; rfl) ?_
        simp only [Act.put, List.setIfInBounds_toArray, List.set_cons_succ, List.set_cons_zero]
        refine BigFrame.wpQuiet_skip (by show (some u60 == some false) = false; rw [HU60.out]; rfl) ?_
        simp only [Act.put, List.setIfInBounds_toArray, List.set_cons_succ, List.set_cons_zero]
        refine BigFrame.wpQuiet_skip (by show (some u60 == some false) = false; rw [HU60.out]; rfl) ?_
        simp only [Act.put, List.setIfInBounds_toArray, List.set_cons_succ, List.set_cons_zero]
        refine BigFrame.wpQuiet_skip (by show (some u60 == some false) = false; rw [HU60.out]; rfl) ?_
        simp only [Act.put, List.setIfInBounds_toArray, List.set_cons_succ, List.set_cons_zero]
        refine BigFrame.wpQuiet_skip (by show (some u60 == some false) = false; rw [HU60.out]; rfl) ?_
        simp only [Act.put, List.setIfInBounds_toArray, List.set_cons_succ, List.set_cons_zero]
        refine BigFrame.wpQuiet_skip (by show (some u60 == some false) = false; rw [HU60.out]; rfl) ?_
        simp only [Act.put, List.setIfInBounds_toArray, List.set_cons_succ, List.set_cons_zero]
        refine wpQuiet_step (fun K hK => ?_)
        rw [if_pos (by rfl)]
        refine ⟨.bool true, fun W hW => quiet_ok ?_, hK _ ?_⟩
        · have q := HX.out W hW
          obtain ⟨m0, m1, m2, _⟩ := q
          have v37 := HU37.out
          have v44 := HU44.out
          have v60 := HU60.out
          go_simp
          all_goals (try omega)
        clear hK K
        simp only [Act.put, List.setIfInBounds_toArray, List.set_cons_succ, List.set_cons_zero]
        refine wpQuiet_step (fun K hK => ?_)
        rw [if_pos (by rfl)]
        refine ⟨.bool u74, fun W hW => quiet_ok ?_, hK _ ?_⟩
        · have q := HX.out W hW
          obtain ⟨m0, m1, m2, _⟩ := q
          have v37 := HU37.out
          have v44 := HU44.out
          have v60 := HU60.out
          have v74 := HU74.out
          go_simp
          all_goals (try omega)
        clear hK K
        simp only [Act.put, List.setIfInBounds_toArray, List.set_cons_succ, List.set_cons_zero]
        refine BigFrame.wpQuiet_skip (by show (some u74 == some false) = false; rw [HU74.out]; rfl) ?_
        simp only [Act.put, List.setIfInBounds_toArray, List.set_cons_succ, List.set_cons_zero]
        refine BigFrame.wpQuiet_skip (by show (some u74 == some false) = false; rw [HU74.out]; rfl) ?_
        simp only [Act.put, List.setIfInBounds_toArray, List.set_cons_succ, List.set_cons_zero]
        refine BigFrame.wpQuiet_skip (by show (some u74 == some false) = false; rw [HU74.out]; rfl) ?_
        simp only [Act.put, List.setIfInBounds_toArray, List.set_cons_succ, List.set_cons_zero]
        refine BigFrame.wpQuiet_skip (by show (some u74 == some false) = false; rw [HU74.out]; rfl) ?_
        simp only [Act.put, List.setIfInBounds_toArray, List.set_cons_succ, List.set_cons_zero]
        refine wpQuiet_step (fun K hK => ?_)
        rw [if_pos (by rfl)]
        refine ⟨.bool true, fun W hW => quiet_ok ?_, hK _ ?_⟩
        · have q := HX.out W hW
          obtain ⟨m0, m1, m2, _⟩ := q
          have v37 := HU37.out
          have v44 := HU44.out
          have v60 := HU60.out
          have v74 := HU74.out
          go_simp
          all_goals (try omega)
        clear hK K
        simp only [Act.put, List.setIfInBounds_toArray, List.set_cons_succ, List.set_cons_zero]
        subst hund
        refine wpQuiet_nil ?_
        intro W hW
        have hbW := HBW.out W hW
        go_wp2_with fail
        go_ret
        exact ⟨ret_bool HF.out.symm, hbW⟩
      | true =>
      rw [h1] at HN
      cases h2 : belowB x.1 ap with
      | false =>
        have HF : Hid (r = false) := HBAD.out (HG.out.trans (by rw [h2]; simp))
        rw [h2] at HLB
        clear HBAD HG h1 h2 HUPA HGB HROWS
        obtain ⟨u44, hu44⟩ : ∃ u : Bool, u = true := ⟨_, rfl⟩
        have HU44 : Hid (u44 = true) := hu44
        clear hu44
        obtain ⟨u60, hu60⟩ : ∃ u : Bool, u = true := ⟨_, rfl⟩
        have HU60 : Hid (u60 = true) := hu60
        clear hu60
        obtain ⟨u74, hu74⟩ : ∃ u : Bool, u = true := ⟨_, rfl⟩
        have HU74 : Hid (u74 = true) := hu74
        clear hu74
        go_wp2_with fail
        rw [HW0.out, HGX.out]
        refine wp_region_quiet (C := fun W => Below W0.heap.size W0 W) (by kernel_rfl) (by kernel_rfl) hbd ?_
        refine wpQuiet_step (fun K hK => ?_)
        rw [if_pos (by rfl)]
        refine ⟨.pointer (some ⟨gx, 0, none⟩), fun W hW => quiet_ok ?_, hK _ ?_⟩
        · have q := HX.out W hW
          obtain ⟨m0, m1, m2, _⟩ := q
          go_simp
          all_goals (try omega)
        clear hK K
        simp only [Act.put, List.setIfInBounds_toArray, List.set_cons_succ, List.set_cons_zero]
        refine wpQuiet_step (fun K hK => ?_)
        rw [if_pos (by rfl)]
        refine ⟨.string ⟨x.1.toArray⟩, fun W hW => quiet_ok ?_, hK _ ?_⟩
        · have q := HX.out W hW
          obtain ⟨m0, m1, m2, _⟩ := q
          go_simp
          all_goals (try omega)
        clear hK K
        simp only [Act.put, List.setIfInBounds_toArray, List.set_cons_succ, List.set_cons_zero]
        refine wpQuiet_step (fun K hK => ?_)
        rw [if_pos (by rfl)]
        refine ⟨.bool true, fun W hW => quiet_call (f := 18) (args := #[.string ⟨x.1.toArray⟩]) ?_ ?_, hK _ ?_⟩
        · go_simp
        · exact (HN.out W).mono fun e w'' h => ⟨h.1, HTR.out _ _ hW h.2⟩
        clear hK K
        simp only [Act.put, List.setIfInBounds_toArray, List.set_cons_succ, List.set_cons_zero]
        refine wpQuiet_step (fun K hK => ?_)
        rw [if_pos (by rfl)]
        refine ⟨.bool false, fun W hW => quiet_ok ?_, hK _ ?_⟩
        · have q := HX.out W hW
          obtain ⟨m0, m1, m2, _⟩ := q
          go_simp
          all_goals (try omega)
        clear hK K
        simp only [Act.put, List.setIfInBounds_toArray, List.set_cons_succ, List.set_cons_zero]
        refine wpQuiet_step (fun K hK => ?_)
        rw [if_pos (by rfl)]
        refine ⟨.bool false, fun W hW => quiet_ok ?_, hK _ ?_⟩
        · have q := HX.out W hW
          obtain ⟨m0, m1, m2, _⟩ := q
          go_simp
          all_goals (try omega)
        clear hK K
        simp only [Act.put, List.setIfInBounds_toArray, List.set_cons_succ, List.set_cons_zero]
        refine wpQuiet_step (fun K hK => ?_)
        rw [if_pos (by rfl)]
        refine ⟨.pointer (some ⟨gx, 0, none⟩), fun W hW => quiet_ok ?_, hK _ ?_⟩
        · have q := HX.out W hW
          obtain ⟨m0, m1, m2, _⟩ := q
          go_simp
          all_goals (try omega)
        clear hK K
        simp only [Act.put, List.setIfInBounds_toArray, List.set_cons_succ, List.set_cons_zero]
        refine wpQuiet_step (fun K hK => ?_)
        rw [if_pos (by rfl)]
        refine ⟨.string ⟨x.1.toArray⟩, fun W hW => quiet_ok ?_, hK _ ?_⟩
        · have q := HX.out W hW
          obtain ⟨m0, m1, m2, _⟩ := q
          go_simp
          all_goals (try omega)
        clear hK K
        simp only [Act.put, List.setIfInBounds_toArray, List.set_cons_succ, List.set_cons_zero]
        refine wpQuiet_step (fun K hK => ?_)
        rw [if_pos (by rfl)]
        refine ⟨.string ⟨ap.toArray⟩, fun W hW => quiet_ok ?_, hK _ ?_⟩
        · have q := HX.out W hW
          obtain ⟨m0, m1, m2, _⟩ := q
          go_simp
          all_goals (try omega)
        clear hK K
        simp only [Act.put, List.setIfInBounds_toArray, List.set_cons_succ, List.set_cons_zero]
        refine wpQuiet_step (fun K hK => ?_)
        rw [if_pos (by rfl)]
        refine ⟨.bool false, fun W hW => quiet_call (f := 19) (args := #[.string ⟨x.1.toArray⟩, .string ⟨ap.toArray⟩]) ?_ ?_, hK _ ?_⟩
        · go_simp
        · exact (HLB.out W).mono fun e w'' h => ⟨h.1, HTR.out _ _ hW h.2⟩
        clear hK K
        simp only [Act.put, List.setIfInBounds_toArray, List.set_cons_succ, List.set_cons_zero]
        refine wpQuiet_step (fun K hK => ?_)
        rw [if_pos (by rfl)]
        refine ⟨.bool true, fun W hW => quiet_ok ?_, hK _ ?_⟩
        · have q := HX.out W hW
          obtain ⟨m0, m1, m2, _⟩ := q
          go_simp
          all_goals (try omega)
        clear hK K
        simp only [Act.put, List.setIfInBounds_toArray, List.set_cons_succ, List.set_cons_zero]
        refine wpQuiet_step (fun K hK => ?_)
        rw [if_pos (by rfl)]
        refine ⟨.bool true, fun W hW => quiet_ok ?_, hK _ ?_⟩
        · have q := HX.out W hW
          obtain ⟨m0, m1, m2, _⟩ := q
          go_simp
          all_goals (try omega)
        clear hK K
        simp only [Act.put, List.setIfInBounds_toArray, List.set_cons_succ, List.set_cons_zero]
        refine wpQuiet_step (fun K hK => ?_)
        rw [if_pos (by rfl)]
        refine ⟨.bool u44, fun W hW => quiet_ok ?_, hK _ ?_⟩
        · have q := HX.out W hW
          obtain ⟨m0, m1, m2, _⟩ := q
          have v44 := HU44.out
          go_simp
          all_goals (try omega)
        clear hK K
        simp only [Act.put, List.setIfInBounds_toArray, List.set_cons_succ, List.set_cons_zero]
        refine BigFrame.wpQuiet_skip (by show (some u44 == some false) = false; rw [HU44.out]; rfl) ?_
        simp only [Act.put, List.setIfInBounds_toArray, List.set_cons_succ, List.set_cons_zero]
        refine BigFrame.wpQuiet_skip (by show (some u44 == some false) = false; rw [HU44.out]; rfl) ?_
        simp only [Act.put, List.setIfInBounds_toArray, List.set_cons_succ, List.set_cons_zero]
        refine BigFrame.wpQuiet_skip (by show (some u44 == some false) = false; rw [HU44.out]; rfl) ?_
        simp only [Act.put, List.setIfInBounds_toArray, List.set_cons_succ, List.set_cons_zero]
        generalize hund : (undef : Value) = un
        refine BigFrame.wpQuiet_skip (by rw [← hund]; rfl) ?_
        simp only [Act.put, List.setIfInBounds_toArray, List.set_cons_succ, List.set_cons_zero]
        refine BigFrame.wpQuiet_skip (by rw [← hund]; rfl) ?_
        simp only [Act.put, List.setIfInBounds_toArray, List.set_cons_succ, List.set_cons_zero]
        refine BigFrame.wpQuiet_skip (by rw [← hund]; rfl) ?_
        simp only [Act.put, List.setIfInBounds_toArray, List.set_cons_succ, List.set_cons_zero]
        refine BigFrame.wpQuiet_skip (by rw [← hund]; rfl) ?_
        simp only [Act.put, List.setIfInBounds_toArray, List.set_cons_succ, List.set_cons_zero]
        refine BigFrame.wpQuiet_skip (by rw [← hund]; rfl) ?_
        simp only [Act.put, List.setIfInBounds_toArray, List.set_cons_succ, List.set_cons_zero]
        refine BigFrame.wpQuiet_skip (by rw [← hund]; rfl) ?_
        simp only [Act.put, List.setIfInBounds_toArray, List.set_cons_succ, List.set_cons_zero]
        refine BigFrame.wpQuiet_skip (by rw [← hund]; rfl) ?_
        simp only [Act.put, List.setIfInBounds_toArray, List.set_cons_succ, List.set_cons_zero]
        refine BigFrame.wpQuiet_skip (by rw [← hund]; rfl) ?_
        simp only [Act.put, List.setIfInBounds_toArray, List.set_cons_succ, List.set_cons_zero]
        refine BigFrame.wpQuiet_skip (by rw [← hund]; rfl) ?_
        simp only [Act.put, List.setIfInBounds_toArray, List.set_cons_succ, List.set_cons_zero]
        refine BigFrame.wpQuiet_skip (by rw [← hund]; rfl) ?_
        simp only [Act.put, List.setIfInBounds_toArray, List.set_cons_succ, List.set_cons_zero]
        refine BigFrame.wpQuiet_skip (by show (some u44 == some false) = false; rw [HU44.out]; rfl) ?_
        simp only [Act.put, List.setIfInBounds_toArray, List.set_cons_succ, List.set_cons_zero]
        refine wpQuiet_step (fun K hK => ?_)
        rw [if_pos (by rfl)]
        refine ⟨.bool true, fun W hW => quiet_ok ?_, hK _ ?_⟩
        · have q := HX.out W hW
          obtain ⟨m0, m1, m2, _⟩ := q
          have v44 := HU44.out
          go_simp
          all_goals (try omega)
        clear hK K
        simp only [Act.put, List.setIfInBounds_toArray, List.set_cons_succ, List.set_cons_zero]
        refine wpQuiet_step (fun K hK => ?_)
        rw [if_pos (by rfl)]
        refine ⟨.bool u60, fun W hW => quiet_ok ?_, hK _ ?_⟩
        · have q := HX.out W hW
          obtain ⟨m0, m1, m2, _⟩ := q
          have v44 := HU44.out
          have v60 := HU60.out
          go_simp
          all_goals (try omega)
        clear hK K
        simp only [Act.put, List.setIfInBounds_toArray, List.set_cons_succ, List.set_cons_zero]
        refine BigFrame.wpQuiet_skip (by show (some u60 == some false) = false; rw [HU60.out]; rfl) ?_
        simp only [Act.put, List.setIfInBounds_toArray, List.set_cons_succ, List.set_cons_zero]
        refine BigFrame.wpQuiet_skip (by show (some u60 == some false) = false; rw [HU60.out]; rfl) ?_
        simp only [Act.put, List.setIfInBounds_toArray, List.set_cons_succ, List.set_cons_zero]
        refine BigFrame.wpQuiet_skip (by show (some u60 == some false) = false; rw [HU60.out]; rfl) ?_
        simp only [Act.put, List.setIfInBounds_toArray, List.set_cons_succ, List.set_cons_zero]
        refine BigFrame.wpQuiet_skip (by show (some u60 == some false) = false; rw [HU60.out]; rfl) ?_
        simp only [Act.put, List.setIfInBounds_toArray, List.set_cons_succ, List.set_cons_zero]
        refine BigFrame.wpQuiet_skip (by show (some u60 == some false) = false; rw [HU60.out]; rfl) ?_
        simp only [Act.put, List.setIfInBounds_toArray, List.set_cons_succ, List.set_cons_zero]
        refine BigFrame.wpQuiet_skip (by show (some u60 == some false) = false; rw [HU60.out]; rfl) ?_
        simp only [Act.put, List.setIfInBounds_toArray, List.set_cons_succ, List.set_cons_zero]
        refine BigFrame.wpQuiet_skip (by show (some u60 == some false) = false; rw [HU60.out]; rfl) ?_
        simp only [Act.put, List.setIfInBounds_toArray, List.set_cons_succ, List.set_cons_zero]
        refine BigFrame.wpQuiet_skip (by show (some u60 == some false) = false; rw [HU60.out]; rfl) ?_
        simp only [Act.put, List.setIfInBounds_toArray, List.set_cons_succ, List.set_cons_zero]
        refine BigFrame.wpQuiet_skip (by show (some u60 == some false) = false; rw [HU60.out]; rfl) ?_
        simp only [Act.put, List.setIfInBounds_toArray, List.set_cons_succ, List.set_cons_zero]
        refine BigFrame.wpQuiet_skip (by show (some u60 == some false) = false; rw [HU60.out]; rfl) ?_
        simp only [Act.put, List.setIfInBounds_toArray, List.set_cons_succ, List.set_cons_zero]
        refine BigFrame.wpQuiet_skip (by show (some u60 == some false) = false; rw [HU60.out]; rfl) ?_
        simp only [Act.put, List.setIfInBounds_toArray, List.set_cons_succ, List.set_cons_zero]
        refine BigFrame.wpQuiet_skip (by show (some u60 == some false) = false; rw [HU60.out]; rfl) ?_
        simp only [Act.put, List.setIfInBounds_toArray, List.set_cons_succ, List.set_cons_zero]
        refine wpQuiet_step (fun K hK => ?_)
        rw [if_pos (by rfl)]
        refine ⟨.bool true, fun W hW => quiet_ok ?_, hK _ ?_⟩
        · have q := HX.out W hW
          obtain ⟨m0, m1, m2, _⟩ := q
          have v44 := HU44.out
          have v60 := HU60.out
          go_simp
          all_goals (try omega)
        clear hK K
        simp only [Act.put, List.setIfInBounds_toArray, List.set_cons_succ, List.set_cons_zero]
        refine wpQuiet_step (fun K hK => ?_)
        rw [if_pos (by rfl)]
        refine ⟨.bool u74, fun W hW => quiet_ok ?_, hK _ ?_⟩
        · have q := HX.out W hW
          obtain ⟨m0, m1, m2, _⟩ := q
          have v44 := HU44.out
          have v60 := HU60.out
          have v74 := HU74.out
          go_simp
          all_goals (try omega)
        clear hK K
        simp only [Act.put, List.setIfInBounds_toArray, List.set_cons_succ, List.set_cons_zero]
        refine BigFrame.wpQuiet_skip (by show (some u74 == some false) = false; rw [HU74.out]; rfl) ?_
        simp only [Act.put, List.setIfInBounds_toArray, List.set_cons_succ, List.set_cons_zero]
        refine BigFrame.wpQuiet_skip (by show (some u74 == some false) = false; rw [HU74.out]; rfl) ?_
        simp only [Act.put, List.setIfInBounds_toArray, List.set_cons_succ, List.set_cons_zero]
        refine BigFrame.wpQuiet_skip (by show (some u74 == some false) = false; rw [HU74.out]; rfl) ?_
        simp only [Act.put, List.setIfInBounds_toArray, List.set_cons_succ, List.set_cons_zero]
        refine BigFrame.wpQuiet_skip (by show (some u74 == some false) = false; rw [HU74.out]; rfl) ?_
        simp only [Act.put, List.setIfInBounds_toArray, List.set_cons_succ, List.set_cons_zero]
        refine wpQuiet_step (fun K hK => ?_)
        rw [if_pos (by rfl)]
        refine ⟨.bool true, fun W hW => quiet_ok ?_, hK _ ?_⟩
        · have q := HX.out W hW
          obtain ⟨m0, m1, m2, _⟩ := q
          have v44 := HU44.out
          have v60 := HU60.out
          have v74 := HU74.out
          go_simp
          all_goals (try omega)
        clear hK K
        simp only [Act.put, List.setIfInBounds_toArray, List.set_cons_succ, List.set_cons_zero]
        subst hund
        refine wpQuiet_nil ?_
        intro W hW
        have hbW := HBW.out W hW
        go_wp2_with fail
        go_ret
        exact ⟨ret_bool HF.out.symm, hbW⟩
      | true =>
      rw [h2] at HLB
      rcases Nat.eq_zero_or_pos k with hk0 | hk0
      · have HK : Hid ((k == 0 || decide (cmpN (gO L (k - 1)) x.1 < 0)) = true) := by show _ = true; rw [hk0]; rfl
        have hk0i : ¬ (0 : Int) < (k : Int) := by omega
        clear HROWS hk0
        by_cases h4 : x.2.1 = z.1
        case neg =>
          have HF : Hid (r = false) := HBAD.out (HG.out.trans (by rw [show (x.2.1 == z.1) = false by simpa using h4]; simp))
          have e4 : (x.2.1 == z.1) = false := by simpa using h4
          have e4' : (x.2.1 != z.1) = true := by simpa using h4
          clear HBAD HG h1 h2 HUPA HGB
          obtain ⟨u47, hu47⟩ : ∃ u : Bool, u = false := ⟨_, rfl⟩
          have HU47 : Hid (u47 = false) := hu47
          clear hu47
          obtain ⟨u74, hu74⟩ : ∃ u : Bool, u = true := ⟨_, rfl⟩
          have HU74 : Hid (u74 = true) := hu74
          clear hu74
          go_wp2_with fail
          rw [HW0.out, HGX.out]
          refine wp_region_quiet (C := fun W => Below W0.heap.size W0 W) (by kernel_rfl) (by kernel_rfl) hbd ?_
          refine wpQuiet_step (fun K hK => ?_)
          rw [if_pos (by rfl)]
          refine ⟨.pointer (some ⟨gx, 0, none⟩), fun W hW => quiet_ok ?_, hK _ ?_⟩
          · have q := HX.out W hW
            obtain ⟨m0, m1, m2, _⟩ := q
            have q3 := HZ.out W hW
            obtain ⟨y0, y1, y2, _⟩ := q3
            go_simp
            all_goals (try omega)
          clear hK K
          simp only [Act.put, List.setIfInBounds_toArray, List.set_cons_succ, List.set_cons_zero]
          refine wpQuiet_step (fun K hK => ?_)
          rw [if_pos (by rfl)]
          refine ⟨.string ⟨x.1.toArray⟩, fun W hW => quiet_ok ?_, hK _ ?_⟩
          · have q := HX.out W hW
            obtain ⟨m0, m1, m2, _⟩ := q
            have q3 := HZ.out W hW
            obtain ⟨y0, y1, y2, _⟩ := q3
            go_simp
            all_goals (try omega)
          clear hK K
          simp only [Act.put, List.setIfInBounds_toArray, List.set_cons_succ, List.set_cons_zero]
          refine wpQuiet_step (fun K hK => ?_)
          rw [if_pos (by rfl)]
          refine ⟨.bool true, fun W hW => quiet_call (f := 18) (args := #[.string ⟨x.1.toArray⟩]) ?_ ?_, hK _ ?_⟩
          · go_simp
          · exact (HN.out W).mono fun e w'' h => ⟨h.1, HTR.out _ _ hW h.2⟩
          clear hK K
          simp only [Act.put, List.setIfInBounds_toArray, List.set_cons_succ, List.set_cons_zero]
          refine wpQuiet_step (fun K hK => ?_)
          rw [if_pos (by rfl)]
          refine ⟨.bool false, fun W hW => quiet_ok ?_, hK _ ?_⟩
          · have q := HX.out W hW
            obtain ⟨m0, m1, m2, _⟩ := q
            have q3 := HZ.out W hW
            obtain ⟨y0, y1, y2, _⟩ := q3
            go_simp
            all_goals (try omega)
          clear hK K
          simp only [Act.put, List.setIfInBounds_toArray, List.set_cons_succ, List.set_cons_zero]
          refine wpQuiet_step (fun K hK => ?_)
          rw [if_pos (by rfl)]
          refine ⟨.bool false, fun W hW => quiet_ok ?_, hK _ ?_⟩
          · have q := HX.out W hW
            obtain ⟨m0, m1, m2, _⟩ := q
            have q3 := HZ.out W hW
            obtain ⟨y0, y1, y2, _⟩ := q3
            go_simp
            all_goals (try omega)
          clear hK K
          simp only [Act.put, List.setIfInBounds_toArray, List.set_cons_succ, List.set_cons_zero]
          refine wpQuiet_step (fun K hK => ?_)
          rw [if_pos (by rfl)]
          refine ⟨.pointer (some ⟨gx, 0, none⟩), fun W hW => quiet_ok ?_, hK _ ?_⟩
          · have q := HX.out W hW
            obtain ⟨m0, m1, m2, _⟩ := q
            have q3 := HZ.out W hW
            obtain ⟨y0, y1, y2, _⟩ := q3
            go_simp
            all_goals (try omega)
          clear hK K
          simp only [Act.put, List.setIfInBounds_toArray, List.set_cons_succ, List.set_cons_zero]
          refine wpQuiet_step (fun K hK => ?_)
          rw [if_pos (by rfl)]
          refine ⟨.string ⟨x.1.toArray⟩, fun W hW => quiet_ok ?_, hK _ ?_⟩
          · have q := HX.out W hW
            obtain ⟨m0, m1, m2, _⟩ := q
            have q3 := HZ.out W hW
            obtain ⟨y0, y1, y2, _⟩ := q3
            go_simp
            all_goals (try omega)
          clear hK K
          simp only [Act.put, List.setIfInBounds_toArray, List.set_cons_succ, List.set_cons_zero]
          refine wpQuiet_step (fun K hK => ?_)
          rw [if_pos (by rfl)]
          refine ⟨.string ⟨ap.toArray⟩, fun W hW => quiet_ok ?_, hK _ ?_⟩
          · have q := HX.out W hW
            obtain ⟨m0, m1, m2, _⟩ := q
            have q3 := HZ.out W hW
            obtain ⟨y0, y1, y2, _⟩ := q3
            go_simp
            all_goals (try omega)
          clear hK K
          simp only [Act.put, List.setIfInBounds_toArray, List.set_cons_succ, List.set_cons_zero]
          refine wpQuiet_step (fun K hK => ?_)
          rw [if_pos (by rfl)]
          refine ⟨.bool true, fun W hW => quiet_call (f := 19) (args := #[.string ⟨x.1.toArray⟩, .string ⟨ap.toArray⟩]) ?_ ?_, hK _ ?_⟩
          · go_simp
          · exact (HLB.out W).mono fun e w'' h => ⟨h.1, HTR.out _ _ hW h.2⟩
          clear hK K
          simp only [Act.put, List.setIfInBounds_toArray, List.set_cons_succ, List.set_cons_zero]
          refine wpQuiet_step (fun K hK => ?_)
          rw [if_pos (by rfl)]
          refine ⟨.bool false, fun W hW => quiet_ok ?_, hK _ ?_⟩
          · have q := HX.out W hW
            obtain ⟨m0, m1, m2, _⟩ := q
            have q3 := HZ.out W hW
            obtain ⟨y0, y1, y2, _⟩ := q3
            go_simp
            all_goals (try omega)
          clear hK K
          simp only [Act.put, List.setIfInBounds_toArray, List.set_cons_succ, List.set_cons_zero]
          refine wpQuiet_step (fun K hK => ?_)
          rw [if_pos (by rfl)]
          refine ⟨.bool false, fun W hW => quiet_ok ?_, hK _ ?_⟩
          · have q := HX.out W hW
            obtain ⟨m0, m1, m2, _⟩ := q
            have q3 := HZ.out W hW
            obtain ⟨y0, y1, y2, _⟩ := q3
            go_simp
            all_goals (try omega)
          clear hK K
          simp only [Act.put, List.setIfInBounds_toArray, List.set_cons_succ, List.set_cons_zero]
          refine wpQuiet_step (fun K hK => ?_)
          rw [if_pos (by rfl)]
          refine ⟨.bool false, fun W hW => quiet_ok ?_, hK _ ?_⟩
          · have q := HX.out W hW
            obtain ⟨m0, m1, m2, _⟩ := q
            have q3 := HZ.out W hW
            obtain ⟨y0, y1, y2, _⟩ := q3
            go_simp
            all_goals (try omega)
          clear hK K
          simp only [Act.put, List.setIfInBounds_toArray, List.set_cons_succ, List.set_cons_zero]
          refine wpQuiet_step (fun K hK => ?_)
          rw [if_pos (by rfl)]
          refine ⟨.int .i64 (k : Int), fun W hW => quiet_ok ?_, hK _ ?_⟩
          · have q := HX.out W hW
            obtain ⟨m0, m1, m2, _⟩ := q
            have q3 := HZ.out W hW
            obtain ⟨y0, y1, y2, _⟩ := q3
            go_simp
            all_goals (try omega)
          clear hK K
          simp only [Act.put, List.setIfInBounds_toArray, List.set_cons_succ, List.set_cons_zero]
          refine wpQuiet_step (fun K hK => ?_)
          rw [if_pos (by rfl)]
          refine ⟨.bool false, fun W hW => quiet_ok ?_, hK _ ?_⟩
          · have q := HX.out W hW
            obtain ⟨m0, m1, m2, _⟩ := q
            have q3 := HZ.out W hW
            obtain ⟨y0, y1, y2, _⟩ := q3
            go_simp
            all_goals (try omega)
          clear hK K
          simp only [Act.put, List.setIfInBounds_toArray, List.set_cons_succ, List.set_cons_zero]
          refine wpQuiet_step (fun K hK => ?_)
          rw [if_pos (by rfl)]
          refine ⟨.bool u47, fun W hW => quiet_ok ?_, hK _ ?_⟩
          · have q := HX.out W hW
            obtain ⟨m0, m1, m2, _⟩ := q
            have q3 := HZ.out W hW
            obtain ⟨y0, y1, y2, _⟩ := q3
            have v47 := HU47.out
            go_simp
            all_goals (try omega)
          clear hK K
          simp only [Act.put, List.setIfInBounds_toArray, List.set_cons_succ, List.set_cons_zero]
          refine BigFrame.wpQuiet_skip (by show (some u47 == some true) = false; rw [HU47.out]; rfl) ?_
          simp only [Act.put, List.setIfInBounds_toArray, List.set_cons_succ, List.set_cons_zero]
          refine BigFrame.wpQuiet_skip (by show (some u47 == some true) = false; rw [HU47.out]; rfl) ?_
          simp only [Act.put, List.setIfInBounds_toArray, List.set_cons_succ, List.set_cons_zero]
          refine BigFrame.wpQuiet_skip (by show (some u47 == some true) = false; rw [HU47.out]; rfl) ?_
          simp only [Act.put, List.setIfInBounds_toArray, List.set_cons_succ, List.set_cons_zero]
          refine BigFrame.wpQuiet_skip (by show (some u47 == some true) = false; rw [HU47.out]; rfl) ?_
          simp only [Act.put, List.setIfInBounds_toArray, List.set_cons_succ, List.set_cons_zero]
          refine BigFrame.wpQuiet_skip (by show (some u47 == some true) = false; rw [HU47.out]; rfl) ?_
          simp only [Act.put, List.setIfInBounds_toArray, List.set_cons_succ, List.set_cons_zero]
          refine BigFrame.wpQuiet_skip (by show (some u47 == some true) = false; rw [HU47.out]; rfl) ?_
          simp only [Act.put, List.setIfInBounds_toArray, List.set_cons_succ, List.set_cons_zero]
          refine BigFrame.wpQuiet_skip (by show (some u47 == some true) = false; rw [HU47.out]; rfl) ?_
          simp only [Act.put, List.setIfInBounds_toArray, List.set_cons_succ, List.set_cons_zero]
          refine BigFrame.wpQuiet_skip (by show (some u47 == some true) = false; rw [HU47.out]; rfl) ?_
          simp only [Act.put, List.setIfInBounds_toArray, List.set_cons_succ, List.set_cons_zero]
          refine BigFrame.wpQuiet_skip (by show (some u47 == some true) = false; rw [HU47.out]; rfl) ?_
          simp only [Act.put, List.setIfInBounds_toArray, List.set_cons_succ, List.set_cons_zero]
          refine BigFrame.wpQuiet_skip (by show (some u47 == some true) = false; rw [HU47.out]; rfl) ?_
          simp only [Act.put, List.setIfInBounds_toArray, List.set_cons_succ, List.set_cons_zero]
          refine wpQuiet_step (fun K hK => ?_)
          rw [if_pos (by rfl)]
          refine ⟨.bool false, fun W hW => quiet_ok ?_, hK _ ?_⟩
          · have q := HX.out W hW
            obtain ⟨m0, m1, m2, _⟩ := q
            have q3 := HZ.out W hW
            obtain ⟨y0, y1, y2, _⟩ := q3
            have v47 := HU47.out
            go_simp
            all_goals (try omega)
          clear hK K
          simp only [Act.put, List.setIfInBounds_toArray, List.set_cons_succ, List.set_cons_zero]
          refine wpQuiet_step (fun K hK => ?_)
          rw [if_pos (by rfl)]
          refine ⟨.bool false, fun W hW => quiet_ok ?_, hK _ ?_⟩
          · have q := HX.out W hW
            obtain ⟨m0, m1, m2, _⟩ := q
            have q3 := HZ.out W hW
            obtain ⟨y0, y1, y2, _⟩ := q3
            have v47 := HU47.out
            go_simp
            all_goals (try omega)
          clear hK K
          simp only [Act.put, List.setIfInBounds_toArray, List.set_cons_succ, List.set_cons_zero]
          refine wpQuiet_step (fun K hK => ?_)
          rw [if_pos (by rfl)]
          refine ⟨.bool false, fun W hW => quiet_ok ?_, hK _ ?_⟩
          · have q := HX.out W hW
            obtain ⟨m0, m1, m2, _⟩ := q
            have q3 := HZ.out W hW
            obtain ⟨y0, y1, y2, _⟩ := q3
            have v47 := HU47.out
            go_simp
            all_goals (try omega)
          clear hK K
          simp only [Act.put, List.setIfInBounds_toArray, List.set_cons_succ, List.set_cons_zero]
          refine wpQuiet_step (fun K hK => ?_)
          rw [if_pos (by rfl)]
          refine ⟨.pointer (some ⟨gx, 1, none⟩), fun W hW => quiet_ok ?_, hK _ ?_⟩
          · have q := HX.out W hW
            obtain ⟨m0, m1, m2, _⟩ := q
            have q3 := HZ.out W hW
            obtain ⟨y0, y1, y2, _⟩ := q3
            have v47 := HU47.out
            go_simp
            all_goals (try omega)
          clear hK K
          simp only [Act.put, List.setIfInBounds_toArray, List.set_cons_succ, List.set_cons_zero]
          refine wpQuiet_step (fun K hK => ?_)
          rw [if_pos (by rfl)]
          refine ⟨.string ⟨x.2.1.toArray⟩, fun W hW => quiet_ok ?_, hK _ ?_⟩
          · have q := HX.out W hW
            obtain ⟨m0, m1, m2, _⟩ := q
            have q3 := HZ.out W hW
            obtain ⟨y0, y1, y2, _⟩ := q3
            have v47 := HU47.out
            go_simp
            all_goals (try omega)
          clear hK K
          simp only [Act.put, List.setIfInBounds_toArray, List.set_cons_succ, List.set_cons_zero]
          refine wpQuiet_step (fun K hK => ?_)
          rw [if_pos (by rfl)]
          refine ⟨.slice (some ⟨b, o, none⟩) L.length cap, fun W hW => quiet_ok ?_, hK _ ?_⟩
          · have q := HX.out W hW
            obtain ⟨m0, m1, m2, _⟩ := q
            have q3 := HZ.out W hW
            obtain ⟨y0, y1, y2, _⟩ := q3
            have v47 := HU47.out
            go_simp
            all_goals (try omega)
          clear hK K
          simp only [Act.put, List.setIfInBounds_toArray, List.set_cons_succ, List.set_cons_zero]
          refine wpQuiet_step (fun K hK => ?_)
          rw [if_pos (by rfl)]
          refine ⟨.int .i64 (k : Int), fun W hW => quiet_ok ?_, hK _ ?_⟩
          · have q := HX.out W hW
            obtain ⟨m0, m1, m2, _⟩ := q
            have q3 := HZ.out W hW
            obtain ⟨y0, y1, y2, _⟩ := q3
            have v47 := HU47.out
            go_simp
            all_goals (try omega)
          clear hK K
          simp only [Act.put, List.setIfInBounds_toArray, List.set_cons_succ, List.set_cons_zero]
          refine wpQuiet_step (fun K hK => ?_)
          rw [if_pos (by rfl)]
          refine ⟨.int .i64 ((k : Int) + 1), fun W hW => quiet_ok ?_, hK _ ?_⟩
          · have q := HX.out W hW
            obtain ⟨m0, m1, m2, _⟩ := q
            have q3 := HZ.out W hW
            obtain ⟨y0, y1, y2, _⟩ := q3
            have v47 := HU47.out
            go_simp
            all_goals (try omega)
          clear hK K
          simp only [Act.put, List.setIfInBounds_toArray, List.set_cons_succ, List.set_cons_zero]
          refine wpQuiet_step (fun K hK => ?_)
          rw [if_pos (by rfl)]
          refine ⟨.slice (some ⟨b, o, none⟩) L.length cap, fun W hW => quiet_ok ?_, hK _ ?_⟩
          · have q := HX.out W hW
            obtain ⟨m0, m1, m2, _⟩ := q
            have q3 := HZ.out W hW
            obtain ⟨y0, y1, y2, _⟩ := q3
            have v47 := HU47.out
            go_simp
            all_goals (try omega)
          clear hK K
          simp only [Act.put, List.setIfInBounds_toArray, List.set_cons_succ, List.set_cons_zero]
          refine wpQuiet_step (fun K hK => ?_)
          rw [if_pos (by rfl)]
          refine ⟨.int .i64 (L.length : Int), fun W hW => quiet_ok ?_, hK _ ?_⟩
          · have q := HX.out W hW
            obtain ⟨m0, m1, m2, _⟩ := q
            have q3 := HZ.out W hW
            obtain ⟨y0, y1, y2, _⟩ := q3
            have v47 := HU47.out
            go_simp
            all_goals (try omega)
          clear hK K
          simp only [Act.put, List.setIfInBounds_toArray, List.set_cons_succ, List.set_cons_zero]
          refine wpQuiet_step (fun K hK => ?_)
          rw [if_pos (by rfl)]
          refine ⟨.int .i64 (m : Int), fun W hW => quiet_ok ?_, hK _ ?_⟩
          · have q := HX.out W hW
            obtain ⟨m0, m1, m2, _⟩ := q
            have q3 := HZ.out W hW
            obtain ⟨y0, y1, y2, _⟩ := q3
            have v47 := HU47.out
            go_simp
            all_goals (try omega)
          clear hK K
          simp only [Act.put, List.setIfInBounds_toArray, List.set_cons_succ, List.set_cons_zero]
          refine wpQuiet_step (fun K hK => ?_)
          rw [if_pos (by rfl)]
          refine ⟨.pointer (some ⟨b, o + m * 3, none⟩), fun W hW => quiet_ok ?_, hK _ ?_⟩
          · have q := HX.out W hW
            obtain ⟨m0, m1, m2, _⟩ := q
            have q3 := HZ.out W hW
            obtain ⟨y0, y1, y2, _⟩ := q3
            have v47 := HU47.out
            go_simp
            all_goals (try omega)
          clear hK K
          simp only [Act.put, List.setIfInBounds_toArray, List.set_cons_succ, List.set_cons_zero]
          refine wpQuiet_step (fun K hK => ?_)
          rw [if_pos (by rfl)]
          refine ⟨.pointer (some ⟨b, o + m * 3, none⟩), fun W hW => quiet_ok ?_, hK _ ?_⟩
          · have q := HX.out W hW
            obtain ⟨m0, m1, m2, _⟩ := q
            have q3 := HZ.out W hW
            obtain ⟨y0, y1, y2, _⟩ := q3
            have v47 := HU47.out
            go_simp
            all_goals (try omega)
          clear hK K
          simp only [Act.put, List.setIfInBounds_toArray, List.set_cons_succ, List.set_cons_zero]
          refine wpQuiet_step (fun K hK => ?_)
          rw [if_pos (by rfl)]
          refine ⟨.string ⟨z.1.toArray⟩, fun W hW => quiet_ok ?_, hK _ ?_⟩
          · have q := HX.out W hW
            obtain ⟨m0, m1, m2, _⟩ := q
            have q3 := HZ.out W hW
            obtain ⟨y0, y1, y2, _⟩ := q3
            have v47 := HU47.out
            go_simp
            all_goals (try omega)
          clear hK K
          simp only [Act.put, List.setIfInBounds_toArray, List.set_cons_succ, List.set_cons_zero]
          refine wpQuiet_step (fun K hK => ?_)
          rw [if_pos (by rfl)]
          refine ⟨.bool true, fun W hW => quiet_ok ?_, hK _ ?_⟩
          · have q := HX.out W hW
            obtain ⟨m0, m1, m2, _⟩ := q
            have q3 := HZ.out W hW
            obtain ⟨y0, y1, y2, _⟩ := q3
            have v47 := HU47.out
            go_simp
            all_goals (try omega)
          clear hK K
          simp only [Act.put, List.setIfInBounds_toArray, List.set_cons_succ, List.set_cons_zero]
          refine wpQuiet_step (fun K hK => ?_)
          rw [if_pos (by rfl)]
          refine ⟨.bool true, fun W hW => quiet_ok ?_, hK _ ?_⟩
          · have q := HX.out W hW
            obtain ⟨m0, m1, m2, _⟩ := q
            have q3 := HZ.out W hW
            obtain ⟨y0, y1, y2, _⟩ := q3
            have v47 := HU47.out
            go_simp
            all_goals (try omega)
          clear hK K
          simp only [Act.put, List.setIfInBounds_toArray, List.set_cons_succ, List.set_cons_zero]
          refine wpQuiet_step (fun K hK => ?_)
          rw [if_pos (by rfl)]
          refine ⟨.bool u74, fun W hW => quiet_ok ?_, hK _ ?_⟩
          · have q := HX.out W hW
            obtain ⟨m0, m1, m2, _⟩ := q
            have q3 := HZ.out W hW
            obtain ⟨y0, y1, y2, _⟩ := q3
            have v47 := HU47.out
            have v74 := HU74.out
            go_simp
            all_goals (try omega)
          clear hK K
          simp only [Act.put, List.setIfInBounds_toArray, List.set_cons_succ, List.set_cons_zero]
          refine BigFrame.wpQuiet_skip (by show (some u74 == some false) = false; rw [HU74.out]; rfl) ?_
          simp only [Act.put, List.setIfInBounds_toArray, List.set_cons_succ, List.set_cons_zero]
          refine BigFrame.wpQuiet_skip (by show (some u74 == some false) = false; rw [HU74.out]; rfl) ?_
          simp only [Act.put, List.setIfInBounds_toArray, List.set_cons_succ, List.set_cons_zero]
          refine BigFrame.wpQuiet_skip (by show (some u74 == some false) = false; rw [HU74.out]; rfl) ?_
          simp only [Act.put, List.setIfInBounds_toArray, List.set_cons_succ, List.set_cons_zero]
          refine BigFrame.wpQuiet_skip (by show (some u74 == some false) = false; rw [HU74.out]; rfl) ?_
          simp only [Act.put, List.setIfInBounds_toArray, List.set_cons_succ, List.set_cons_zero]
          refine wpQuiet_step (fun K hK => ?_)
          rw [if_pos (by rfl)]
          refine ⟨.bool true, fun W hW => quiet_ok ?_, hK _ ?_⟩
          · have q := HX.out W hW
            obtain ⟨m0, m1, m2, _⟩ := q
            have q3 := HZ.out W hW
            obtain ⟨y0, y1, y2, _⟩ := q3
            have v47 := HU47.out
            have v74 := HU74.out
            go_simp
            all_goals (try omega)
          clear hK K
          simp only [Act.put, List.setIfInBounds_toArray, List.set_cons_succ, List.set_cons_zero]
          refine wpQuiet_nil ?_
          intro W hW
          have hbW := HBW.out W hW
          go_wp2_with fail
          go_ret
          exact ⟨ret_bool HF.out.symm, hbW⟩
        have e4 : (x.2.1 == z.1) = true := by simpa using h4
        have e4' : (x.2.1 != z.1) = false := by simpa using h4
        by_cases h5 : x.2.2 = []
        · have HF : Hid (r = false) := HBAD.out (HG.out.trans (by rw [h5]; simp))
          have HE5 : Hid (x.2.2.length = 0) := by show _ = 0; rw [h5]; rfl
          clear HBAD HG h1 h2 h4 h5 HUPA HGB
          obtain ⟨u47, hu47⟩ : ∃ u : Bool, u = false := ⟨_, rfl⟩
          have HU47 : Hid (u47 = false) := hu47
          clear hu47
          go_wp2_with fail
          rw [HW0.out, HGX.out]
          refine wp_region_quiet (C := fun W => Below W0.heap.size W0 W) (by kernel_rfl) (by kernel_rfl) hbd ?_
          refine wpQuiet_step (fun K hK => ?_)
          rw [if_pos (by rfl)]
          refine ⟨.pointer (some ⟨gx, 0, none⟩), fun W hW => quiet_ok ?_, hK _ ?_⟩
          · have q := HX.out W hW
            obtain ⟨m0, m1, m2, _⟩ := q
            have q3 := HZ.out W hW
            obtain ⟨y0, y1, y2, _⟩ := q3
            have e5 := HE5.out
            go_simp
            all_goals (try omega)
          clear hK K
          simp only [Act.put, List.setIfInBounds_toArray, List.set_cons_succ, List.set_cons_zero]
          refine wpQuiet_step (fun K hK => ?_)
          rw [if_pos (by rfl)]
          refine ⟨.string ⟨x.1.toArray⟩, fun W hW => quiet_ok ?_, hK _ ?_⟩
          · have q := HX.out W hW
            obtain ⟨m0, m1, m2, _⟩ := q
            have q3 := HZ.out W hW
            obtain ⟨y0, y1, y2, _⟩ := q3
            have e5 := HE5.out
            go_simp
            all_goals (try omega)
          clear hK K
          simp only [Act.put, List.setIfInBounds_toArray, List.set_cons_succ, List.set_cons_zero]
          refine wpQuiet_step (fun K hK => ?_)
          rw [if_pos (by rfl)]
          refine ⟨.bool true, fun W hW => quiet_call (f := 18) (args := #[.string ⟨x.1.toArray⟩]) ?_ ?_, hK _ ?_⟩
          · go_simp
          · exact (HN.out W).mono fun e w'' h => ⟨h.1, HTR.out _ _ hW h.2⟩
          clear hK K
          simp only [Act.put, List.setIfInBounds_toArray, List.set_cons_succ, List.set_cons_zero]
          refine wpQuiet_step (fun K hK => ?_)
          rw [if_pos (by rfl)]
          refine ⟨.bool false, fun W hW => quiet_ok ?_, hK _ ?_⟩
          · have q := HX.out W hW
            obtain ⟨m0, m1, m2, _⟩ := q
            have q3 := HZ.out W hW
            obtain ⟨y0, y1, y2, _⟩ := q3
            have e5 := HE5.out
            go_simp
            all_goals (try omega)
          clear hK K
          simp only [Act.put, List.setIfInBounds_toArray, List.set_cons_succ, List.set_cons_zero]
          refine wpQuiet_step (fun K hK => ?_)
          rw [if_pos (by rfl)]
          refine ⟨.bool false, fun W hW => quiet_ok ?_, hK _ ?_⟩
          · have q := HX.out W hW
            obtain ⟨m0, m1, m2, _⟩ := q
            have q3 := HZ.out W hW
            obtain ⟨y0, y1, y2, _⟩ := q3
            have e5 := HE5.out
            go_simp
            all_goals (try omega)
          clear hK K
          simp only [Act.put, List.setIfInBounds_toArray, List.set_cons_succ, List.set_cons_zero]
          refine wpQuiet_step (fun K hK => ?_)
          rw [if_pos (by rfl)]
          refine ⟨.pointer (some ⟨gx, 0, none⟩), fun W hW => quiet_ok ?_, hK _ ?_⟩
          · have q := HX.out W hW
            obtain ⟨m0, m1, m2, _⟩ := q
            have q3 := HZ.out W hW
            obtain ⟨y0, y1, y2, _⟩ := q3
            have e5 := HE5.out
            go_simp
            all_goals (try omega)
          clear hK K
          simp only [Act.put, List.setIfInBounds_toArray, List.set_cons_succ, List.set_cons_zero]
          refine wpQuiet_step (fun K hK => ?_)
          rw [if_pos (by rfl)]
          refine ⟨.string ⟨x.1.toArray⟩, fun W hW => quiet_ok ?_, hK _ ?_⟩
          · have q := HX.out W hW
            obtain ⟨m0, m1, m2, _⟩ := q
            have q3 := HZ.out W hW
            obtain ⟨y0, y1, y2, _⟩ := q3
            have e5 := HE5.out
            go_simp
            all_goals (try omega)
          clear hK K
          simp only [Act.put, List.setIfInBounds_toArray, List.set_cons_succ, List.set_cons_zero]
          refine wpQuiet_step (fun K hK => ?_)
          rw [if_pos (by rfl)]
          refine ⟨.string ⟨ap.toArray⟩, fun W hW => quiet_ok ?_, hK _ ?_⟩
          · have q := HX.out W hW
            obtain ⟨m0, m1, m2, _⟩ := q
            have q3 := HZ.out W hW
            obtain ⟨y0, y1, y2, _⟩ := q3
            have e5 := HE5.out
            go_simp
            all_goals (try omega)
          clear hK K
          simp only [Act.put, List.setIfInBounds_toArray, List.set_cons_succ, List.set_cons_zero]
          refine wpQuiet_step (fun K hK => ?_)
          rw [if_pos (by rfl)]
          refine ⟨.bool true, fun W hW => quiet_call (f := 19) (args := #[.string ⟨x.1.toArray⟩, .string ⟨ap.toArray⟩]) ?_ ?_, hK _ ?_⟩
          · go_simp
          · exact (HLB.out W).mono fun e w'' h => ⟨h.1, HTR.out _ _ hW h.2⟩
          clear hK K
          simp only [Act.put, List.setIfInBounds_toArray, List.set_cons_succ, List.set_cons_zero]
          refine wpQuiet_step (fun K hK => ?_)
          rw [if_pos (by rfl)]
          refine ⟨.bool false, fun W hW => quiet_ok ?_, hK _ ?_⟩
          · have q := HX.out W hW
            obtain ⟨m0, m1, m2, _⟩ := q
            have q3 := HZ.out W hW
            obtain ⟨y0, y1, y2, _⟩ := q3
            have e5 := HE5.out
            go_simp
            all_goals (try omega)
          clear hK K
          simp only [Act.put, List.setIfInBounds_toArray, List.set_cons_succ, List.set_cons_zero]
          refine wpQuiet_step (fun K hK => ?_)
          rw [if_pos (by rfl)]
          refine ⟨.bool false, fun W hW => quiet_ok ?_, hK _ ?_⟩
          · have q := HX.out W hW
            obtain ⟨m0, m1, m2, _⟩ := q
            have q3 := HZ.out W hW
            obtain ⟨y0, y1, y2, _⟩ := q3
            have e5 := HE5.out
            go_simp
            all_goals (try omega)
          clear hK K
          simp only [Act.put, List.setIfInBounds_toArray, List.set_cons_succ, List.set_cons_zero]
          refine wpQuiet_step (fun K hK => ?_)
          rw [if_pos (by rfl)]
          refine ⟨.bool false, fun W hW => quiet_ok ?_, hK _ ?_⟩
          · have q := HX.out W hW
            obtain ⟨m0, m1, m2, _⟩ := q
            have q3 := HZ.out W hW
            obtain ⟨y0, y1, y2, _⟩ := q3
            have e5 := HE5.out
            go_simp
            all_goals (try omega)
          clear hK K
          simp only [Act.put, List.setIfInBounds_toArray, List.set_cons_succ, List.set_cons_zero]
          refine wpQuiet_step (fun K hK => ?_)
          rw [if_pos (by rfl)]
          refine ⟨.int .i64 (k : Int), fun W hW => quiet_ok ?_, hK _ ?_⟩
          · have q := HX.out W hW
            obtain ⟨m0, m1, m2, _⟩ := q
            have q3 := HZ.out W hW
            obtain ⟨y0, y1, y2, _⟩ := q3
            have e5 := HE5.out
            go_simp
            all_goals (try omega)
          clear hK K
          simp only [Act.put, List.setIfInBounds_toArray, List.set_cons_succ, List.set_cons_zero]
          refine wpQuiet_step (fun K hK => ?_)
          rw [if_pos (by rfl)]
          refine ⟨.bool false, fun W hW => quiet_ok ?_, hK _ ?_⟩
          · have q := HX.out W hW
            obtain ⟨m0, m1, m2, _⟩ := q
            have q3 := HZ.out W hW
            obtain ⟨y0, y1, y2, _⟩ := q3
            have e5 := HE5.out
            go_simp
            all_goals (try omega)
          clear hK K
          simp only [Act.put, List.setIfInBounds_toArray, List.set_cons_succ, List.set_cons_zero]
          refine wpQuiet_step (fun K hK => ?_)
          rw [if_pos (by rfl)]
          refine ⟨.bool u47, fun W hW => quiet_ok ?_, hK _ ?_⟩
          · have q := HX.out W hW
            obtain ⟨m0, m1, m2, _⟩ := q
            have q3 := HZ.out W hW
            obtain ⟨y0, y1, y2, _⟩ := q3
            have e5 := HE5.out
            have v47 := HU47.out
            go_simp
            all_goals (try omega)
          clear hK K
          simp only [Act.put, List.setIfInBounds_toArray, List.set_cons_succ, List.set_cons_zero]
          refine BigFrame.wpQuiet_skip (by show (some u47 == some true) = false; rw [HU47.out]; rfl) ?_
          simp only [Act.put, List.setIfInBounds_toArray, List.set_cons_succ, List.set_cons_zero]
          refine BigFrame.wpQuiet_skip (by show (some u47 == some true) = false; rw [HU47.out]; rfl) ?_
          simp only [Act.put, List.setIfInBounds_toArray, List.set_cons_succ, List.set_cons_zero]
          refine BigFrame.wpQuiet_skip (by show (some u47 == some true) = false; rw [HU47.out]; rfl) ?_
          simp only [Act.put, List.setIfInBounds_toArray, List.set_cons_succ, List.set_cons_zero]
          refine BigFrame.wpQuiet_skip (by show (some u47 == some true) = false; rw [HU47.out]; rfl) ?_
          simp only [Act.put, List.setIfInBounds_toArray, List.set_cons_succ, List.set_cons_zero]
          refine BigFrame.wpQuiet_skip (by show (some u47 == some true) = false; rw [HU47.out]; rfl) ?_
          simp only [Act.put, List.setIfInBounds_toArray, List.set_cons_succ, List.set_cons_zero]
          refine BigFrame.wpQuiet_skip (by show (some u47 == some true) = false; rw [HU47.out]; rfl) ?_
          simp only [Act.put, List.setIfInBounds_toArray, List.set_cons_succ, List.set_cons_zero]
          refine BigFrame.wpQuiet_skip (by show (some u47 == some true) = false; rw [HU47.out]; rfl) ?_
          simp only [Act.put, List.setIfInBounds_toArray, List.set_cons_succ, List.set_cons_zero]
          refine BigFrame.wpQuiet_skip (by show (some u47 == some true) = false; rw [HU47.out]; rfl) ?_
          simp only [Act.put, List.setIfInBounds_toArray, List.set_cons_succ, List.set_cons_zero]
          refine BigFrame.wpQuiet_skip (by show (some u47 == some true) = false; rw [HU47.out]; rfl) ?_
          simp only [Act.put, List.setIfInBounds_toArray, List.set_cons_succ, List.set_cons_zero]
          refine BigFrame.wpQuiet_skip (by show (some u47 == some true) = false; rw [HU47.out]; rfl) ?_
          simp only [Act.put, List.setIfInBounds_toArray, List.set_cons_succ, List.set_cons_zero]
          refine wpQuiet_step (fun K hK => ?_)
          rw [if_pos (by rfl)]
          refine ⟨.bool false, fun W hW => quiet_ok ?_, hK _ ?_⟩
          · have q := HX.out W hW
            obtain ⟨m0, m1, m2, _⟩ := q
            have q3 := HZ.out W hW
            obtain ⟨y0, y1, y2, _⟩ := q3
            have e5 := HE5.out
            have v47 := HU47.out
            go_simp
            all_goals (try omega)
          clear hK K
          simp only [Act.put, List.setIfInBounds_toArray, List.set_cons_succ, List.set_cons_zero]
          refine wpQuiet_step (fun K hK => ?_)
          rw [if_pos (by rfl)]
          refine ⟨.bool false, fun W hW => quiet_ok ?_, hK _ ?_⟩
          · have q := HX.out W hW
            obtain ⟨m0, m1, m2, _⟩ := q
            have q3 := HZ.out W hW
            obtain ⟨y0, y1, y2, _⟩ := q3
            have e5 := HE5.out
            have v47 := HU47.out
            go_simp
            all_goals (try omega)
          clear hK K
          simp only [Act.put, List.setIfInBounds_toArray, List.set_cons_succ, List.set_cons_zero]
          refine wpQuiet_step (fun K hK => ?_)
          rw [if_pos (by rfl)]
          refine ⟨.bool false, fun W hW => quiet_ok ?_, hK _ ?_⟩
          · have q := HX.out W hW
            obtain ⟨m0, m1, m2, _⟩ := q
            have q3 := HZ.out W hW
            obtain ⟨y0, y1, y2, _⟩ := q3
            have e5 := HE5.out
            have v47 := HU47.out
            go_simp
            all_goals (try omega)
          clear hK K
          simp only [Act.put, List.setIfInBounds_toArray, List.set_cons_succ, List.set_cons_zero]
          refine wpQuiet_step (fun K hK => ?_)
          rw [if_pos (by rfl)]
          refine ⟨.pointer (some ⟨gx, 1, none⟩), fun W hW => quiet_ok ?_, hK _ ?_⟩
          · have q := HX.out W hW
            obtain ⟨m0, m1, m2, _⟩ := q
            have q3 := HZ.out W hW
            obtain ⟨y0, y1, y2, _⟩ := q3
            have e5 := HE5.out
            have v47 := HU47.out
            go_simp
            all_goals (try omega)
          clear hK K
          simp only [Act.put, List.setIfInBounds_toArray, List.set_cons_succ, List.set_cons_zero]
          refine wpQuiet_step (fun K hK => ?_)
          rw [if_pos (by rfl)]
          refine ⟨.string ⟨x.2.1.toArray⟩, fun W hW => quiet_ok ?_, hK _ ?_⟩
          · have q := HX.out W hW
            obtain ⟨m0, m1, m2, _⟩ := q
            have q3 := HZ.out W hW
            obtain ⟨y0, y1, y2, _⟩ := q3
            have e5 := HE5.out
            have v47 := HU47.out
            go_simp
            all_goals (try omega)
          clear hK K
          simp only [Act.put, List.setIfInBounds_toArray, List.set_cons_succ, List.set_cons_zero]
          refine wpQuiet_step (fun K hK => ?_)
          rw [if_pos (by rfl)]
          refine ⟨.slice (some ⟨b, o, none⟩) L.length cap, fun W hW => quiet_ok ?_, hK _ ?_⟩
          · have q := HX.out W hW
            obtain ⟨m0, m1, m2, _⟩ := q
            have q3 := HZ.out W hW
            obtain ⟨y0, y1, y2, _⟩ := q3
            have e5 := HE5.out
            have v47 := HU47.out
            go_simp
            all_goals (try omega)
          clear hK K
          simp only [Act.put, List.setIfInBounds_toArray, List.set_cons_succ, List.set_cons_zero]
          refine wpQuiet_step (fun K hK => ?_)
          rw [if_pos (by rfl)]
          refine ⟨.int .i64 (k : Int), fun W hW => quiet_ok ?_, hK _ ?_⟩
          · have q := HX.out W hW
            obtain ⟨m0, m1, m2, _⟩ := q
            have q3 := HZ.out W hW
            obtain ⟨y0, y1, y2, _⟩ := q3
            have e5 := HE5.out
            have v47 := HU47.out
            go_simp
            all_goals (try omega)
          clear hK K
          simp only [Act.put, List.setIfInBounds_toArray, List.set_cons_succ, List.set_cons_zero]
          refine wpQuiet_step (fun K hK => ?_)
          rw [if_pos (by rfl)]
          refine ⟨.int .i64 ((k : Int) + 1), fun W hW => quiet_ok ?_, hK _ ?_⟩
          · have q := HX.out W hW
            obtain ⟨m0, m1, m2, _⟩ := q
            have q3 := HZ.out W hW
            obtain ⟨y0, y1, y2, _⟩ := q3
            have e5 := HE5.out
            have v47 := HU47.out
            go_simp
            all_goals (try omega)
          clear hK K
          simp only [Act.put, List.setIfInBounds_toArray, List.set_cons_succ, List.set_cons_zero]
          refine wpQuiet_step (fun K hK => ?_)
          rw [if_pos (by rfl)]
          refine ⟨.slice (some ⟨b, o, none⟩) L.length cap, fun W hW => quiet_ok ?_, hK _ ?_⟩
          · have q := HX.out W hW
            obtain ⟨m0, m1, m2, _⟩ := q
            have q3 := HZ.out W hW
            obtain ⟨y0, y1, y2, _⟩ := q3
            have e5 := HE5.out
            have v47 := HU47.out
            go_simp
            all_goals (try omega)
          clear hK K
          simp only [Act.put, List.setIfInBounds_toArray, List.set_cons_succ, List.set_cons_zero]
          refine wpQuiet_step (fun K hK => ?_)
          rw [if_pos (by rfl)]
          refine ⟨.int .i64 (L.length : Int), fun W hW => quiet_ok ?_, hK _ ?_⟩
          · have q := HX.out W hW
            obtain ⟨m0, m1, m2, _⟩ := q
            have q3 := HZ.out W hW
            obtain ⟨y0, y1, y2, _⟩ := q3
            have e5 := HE5.out
            have v47 := HU47.out
            go_simp
            all_goals (try omega)
          clear hK K
          simp only [Act.put, List.setIfInBounds_toArray, List.set_cons_succ, List.set_cons_zero]
          refine wpQuiet_step (fun K hK => ?_)
          rw [if_pos (by rfl)]
          refine ⟨.int .i64 (m : Int), fun W hW => quiet_ok ?_, hK _ ?_⟩
          · have q := HX.out W hW
            obtain ⟨m0, m1, m2, _⟩ := q
            have q3 := HZ.out W hW
            obtain ⟨y0, y1, y2, _⟩ := q3
            have e5 := HE5.out
            have v47 := HU47.out
            go_simp
            all_goals (try omega)
          clear hK K
          simp only [Act.put, List.setIfInBounds_toArray, List.set_cons_succ, List.set_cons_zero]
          refine wpQuiet_step (fun K hK => ?_)
          rw [if_pos (by rfl)]
          refine ⟨.pointer (some ⟨b, o + m * 3, none⟩), fun W hW => quiet_ok ?_, hK _ ?_⟩
          · have q := HX.out W hW
            obtain ⟨m0, m1, m2, _⟩ := q
            have q3 := HZ.out W hW
            obtain ⟨y0, y1, y2, _⟩ := q3
            have e5 := HE5.out
            have v47 := HU47.out
            go_simp
            all_goals (try omega)
          clear hK K
          simp only [Act.put, List.setIfInBounds_toArray, List.set_cons_succ, List.set_cons_zero]
          refine wpQuiet_step (fun K hK => ?_)
          rw [if_pos (by rfl)]
          refine ⟨.pointer (some ⟨b, o + m * 3, none⟩), fun W hW => quiet_ok ?_, hK _ ?_⟩
          · have q := HX.out W hW
            obtain ⟨m0, m1, m2, _⟩ := q
            have q3 := HZ.out W hW
            obtain ⟨y0, y1, y2, _⟩ := q3
            have e5 := HE5.out
            have v47 := HU47.out
            go_simp
            all_goals (try omega)
          clear hK K
          simp only [Act.put, List.setIfInBounds_toArray, List.set_cons_succ, List.set_cons_zero]
          refine wpQuiet_step (fun K hK => ?_)
          rw [if_pos (by rfl)]
          refine ⟨.string ⟨z.1.toArray⟩, fun W hW => quiet_ok ?_, hK _ ?_⟩
          · have q := HX.out W hW
            obtain ⟨m0, m1, m2, _⟩ := q
            have q3 := HZ.out W hW
            obtain ⟨y0, y1, y2, _⟩ := q3
            have e5 := HE5.out
            have v47 := HU47.out
            go_simp
            all_goals (try omega)
          clear hK K
          simp only [Act.put, List.setIfInBounds_toArray, List.set_cons_succ, List.set_cons_zero]
          refine wpQuiet_step (fun K hK => ?_)
          rw [if_pos (by rfl)]
          refine ⟨.bool false, fun W hW => quiet_ok ?_, hK _ ?_⟩
          · have q := HX.out W hW
            obtain ⟨m0, m1, m2, _⟩ := q
            have q3 := HZ.out W hW
            obtain ⟨y0, y1, y2, _⟩ := q3
            have e5 := HE5.out
            have v47 := HU47.out
            go_simp
            all_goals (try omega)
          clear hK K
          simp only [Act.put, List.setIfInBounds_toArray, List.set_cons_succ, List.set_cons_zero]
          refine wpQuiet_step (fun K hK => ?_)
          rw [if_pos (by rfl)]
          refine ⟨.bool false, fun W hW => quiet_ok ?_, hK _ ?_⟩
          · have q := HX.out W hW
            obtain ⟨m0, m1, m2, _⟩ := q
            have q3 := HZ.out W hW
            obtain ⟨y0, y1, y2, _⟩ := q3
            have e5 := HE5.out
            have v47 := HU47.out
            go_simp
            all_goals (try omega)
          clear hK K
          simp only [Act.put, List.setIfInBounds_toArray, List.set_cons_succ, List.set_cons_zero]
          refine wpQuiet_step (fun K hK => ?_)
          rw [if_pos (by rfl)]
          refine ⟨.bool false, fun W hW => quiet_ok ?_, hK _ ?_⟩
          · have q := HX.out W hW
            obtain ⟨m0, m1, m2, _⟩ := q
            have q3 := HZ.out W hW
            obtain ⟨y0, y1, y2, _⟩ := q3
            have e5 := HE5.out
            have v47 := HU47.out
            go_simp
            all_goals (try omega)
          clear hK K
          simp only [Act.put, List.setIfInBounds_toArray, List.set_cons_succ, List.set_cons_zero]
          refine wpQuiet_step (fun K hK => ?_)
          rw [if_pos (by rfl)]
          refine ⟨.pointer (some ⟨gx, 2, none⟩), fun W hW => quiet_ok ?_, hK _ ?_⟩
          · have q := HX.out W hW
            obtain ⟨m0, m1, m2, _⟩ := q
            have q3 := HZ.out W hW
            obtain ⟨y0, y1, y2, _⟩ := q3
            have e5 := HE5.out
            have v47 := HU47.out
            go_simp
            all_goals (try omega)
          clear hK K
          simp only [Act.put, List.setIfInBounds_toArray, List.set_cons_succ, List.set_cons_zero]
          refine wpQuiet_step (fun K hK => ?_)
          rw [if_pos (by rfl)]
          refine ⟨.slice aa x.2.2.length ca, fun W hW => quiet_ok ?_, hK _ ?_⟩
          · have q := HX.out W hW
            obtain ⟨m0, m1, m2, _⟩ := q
            have q3 := HZ.out W hW
            obtain ⟨y0, y1, y2, _⟩ := q3
            have e5 := HE5.out
            have v47 := HU47.out
            go_simp
            all_goals (try omega)
          clear hK K
          simp only [Act.put, List.setIfInBounds_toArray, List.set_cons_succ, List.set_cons_zero]
          refine wpQuiet_step (fun K hK => ?_)
          rw [if_pos (by rfl)]
          refine ⟨.int .i64 (x.2.2.length : Int), fun W hW => quiet_ok ?_, hK _ ?_⟩
          · have q := HX.out W hW
            obtain ⟨m0, m1, m2, _⟩ := q
            have q3 := HZ.out W hW
            obtain ⟨y0, y1, y2, _⟩ := q3
            have e5 := HE5.out
            have v47 := HU47.out
            go_simp
            all_goals (try omega)
          clear hK K
          simp only [Act.put, List.setIfInBounds_toArray, List.set_cons_succ, List.set_cons_zero]
          refine wpQuiet_step (fun K hK => ?_)
          rw [if_pos (by rfl)]
          refine ⟨.bool true, fun W hW => quiet_ok ?_, hK _ ?_⟩
          · have q := HX.out W hW
            obtain ⟨m0, m1, m2, _⟩ := q
            have q3 := HZ.out W hW
            obtain ⟨y0, y1, y2, _⟩ := q3
            have e5 := HE5.out
            have v47 := HU47.out
            go_simp
            all_goals (try omega)
          clear hK K
          simp only [Act.put, List.setIfInBounds_toArray, List.set_cons_succ, List.set_cons_zero]
          refine wpQuiet_step (fun K hK => ?_)
          rw [if_pos (by rfl)]
          refine ⟨.bool true, fun W hW => quiet_ok ?_, hK _ ?_⟩
          · have q := HX.out W hW
            obtain ⟨m0, m1, m2, _⟩ := q
            have q3 := HZ.out W hW
            obtain ⟨y0, y1, y2, _⟩ := q3
            have e5 := HE5.out
            have v47 := HU47.out
            go_simp
            all_goals (try omega)
          clear hK K
          simp only [Act.put, List.setIfInBounds_toArray, List.set_cons_succ, List.set_cons_zero]
          refine wpQuiet_nil ?_
          intro W hW
          have hbW := HBW.out W hW
          go_wp2_with fail
          go_ret
          exact ⟨ret_bool HF.out.symm, hbW⟩
        · have e5 : 0 < x.2.2.length := List.length_pos_iff.2 h5
          have HBT : Hid (typesB x.2.2 = false → r = false) := fun h => HBAD.out (HG.out.trans (by rw [h]; simp))
          have HUP : Hid (typesB x.2.2 = true → ∀ j, j < k + 1 → gsB ap L j = true) := fun h => HUPA.out (HG.out.trans (by rw [h1, h2, h4, h, show (x.2.2 == []) = false by simpa using h5]; simp [HK.out]))
          have e5i : ¬ (x.2.2.length : Int) = 0 := by omega
          have e5b : ((x.2.2.length : Int) == 0) = false := beq_eq_false_iff_ne.2 (by omega)
          clear HBAD HG h1 h2 h4 h5 HUPA HGB
          obtain ⟨u47, hu47⟩ : ∃ u : Bool, u = false := ⟨_, rfl⟩
          have HU47 : Hid (u47 = false) := hu47
          clear hu47
          go_wp2_with fail
          rw [HW0.out, HGX.out]
          refine wp_region_quiet (C := fun W => Below W0.heap.size W0 W) (by kernel_rfl) (by kernel_rfl) hbd ?_
          refine wpQuiet_step (fun K hK => ?_)
          rw [if_pos (by rfl)]
          refine ⟨.pointer (some ⟨gx, 0, none⟩), fun W hW => quiet_ok ?_, hK _ ?_⟩
          · have q := HX.out W hW
            obtain ⟨m0, m1, m2, _⟩ := q
            have q3 := HZ.out W hW
            obtain ⟨y0, y1, y2, _⟩ := q3
            go_simp
            all_goals (try omega)
          clear hK K
          simp only [Act.put, List.setIfInBounds_toArray, List.set_cons_succ, List.set_cons_zero]
          refine wpQuiet_step (fun K hK => ?_)
          rw [if_pos (by rfl)]
          refine ⟨.string ⟨x.1.toArray⟩, fun W hW => quiet_ok ?_, hK _ ?_⟩
          · have q := HX.out W hW
            obtain ⟨m0, m1, m2, _⟩ := q
            have q3 := HZ.out W hW
            obtain ⟨y0, y1, y2, _⟩ := q3
            go_simp
            all_goals (try omega)
          clear hK K
          simp only [Act.put, List.setIfInBounds_toArray, List.set_cons_succ, List.set_cons_zero]
          refine wpQuiet_step (fun K hK => ?_)
          rw [if_pos (by rfl)]
          refine ⟨.bool true, fun W hW => quiet_call (f := 18) (args := #[.string ⟨x.1.toArray⟩]) ?_ ?_, hK _ ?_⟩
          · go_simp
          · exact (HN.out W).mono fun e w'' h => ⟨h.1, HTR.out _ _ hW h.2⟩
          clear hK K
          simp only [Act.put, List.setIfInBounds_toArray, List.set_cons_succ, List.set_cons_zero]
          refine wpQuiet_step (fun K hK => ?_)
          rw [if_pos (by rfl)]
          refine ⟨.bool false, fun W hW => quiet_ok ?_, hK _ ?_⟩
          · have q := HX.out W hW
            obtain ⟨m0, m1, m2, _⟩ := q
            have q3 := HZ.out W hW
            obtain ⟨y0, y1, y2, _⟩ := q3
            go_simp
            all_goals (try omega)
          clear hK K
          simp only [Act.put, List.setIfInBounds_toArray, List.set_cons_succ, List.set_cons_zero]
          refine wpQuiet_step (fun K hK => ?_)
          rw [if_pos (by rfl)]
          refine ⟨.bool false, fun W hW => quiet_ok ?_, hK _ ?_⟩
          · have q := HX.out W hW
            obtain ⟨m0, m1, m2, _⟩ := q
            have q3 := HZ.out W hW
            obtain ⟨y0, y1, y2, _⟩ := q3
            go_simp
            all_goals (try omega)
          clear hK K
          simp only [Act.put, List.setIfInBounds_toArray, List.set_cons_succ, List.set_cons_zero]
          refine wpQuiet_step (fun K hK => ?_)
          rw [if_pos (by rfl)]
          refine ⟨.pointer (some ⟨gx, 0, none⟩), fun W hW => quiet_ok ?_, hK _ ?_⟩
          · have q := HX.out W hW
            obtain ⟨m0, m1, m2, _⟩ := q
            have q3 := HZ.out W hW
            obtain ⟨y0, y1, y2, _⟩ := q3
            go_simp
            all_goals (try omega)
          clear hK K
          simp only [Act.put, List.setIfInBounds_toArray, List.set_cons_succ, List.set_cons_zero]
          refine wpQuiet_step (fun K hK => ?_)
          rw [if_pos (by rfl)]
          refine ⟨.string ⟨x.1.toArray⟩, fun W hW => quiet_ok ?_, hK _ ?_⟩
          · have q := HX.out W hW
            obtain ⟨m0, m1, m2, _⟩ := q
            have q3 := HZ.out W hW
            obtain ⟨y0, y1, y2, _⟩ := q3
            go_simp
            all_goals (try omega)
          clear hK K
          simp only [Act.put, List.setIfInBounds_toArray, List.set_cons_succ, List.set_cons_zero]
          refine wpQuiet_step (fun K hK => ?_)
          rw [if_pos (by rfl)]
          refine ⟨.string ⟨ap.toArray⟩, fun W hW => quiet_ok ?_, hK _ ?_⟩
          · have q := HX.out W hW
            obtain ⟨m0, m1, m2, _⟩ := q
            have q3 := HZ.out W hW
            obtain ⟨y0, y1, y2, _⟩ := q3
            go_simp
            all_goals (try omega)
          clear hK K
          simp only [Act.put, List.setIfInBounds_toArray, List.set_cons_succ, List.set_cons_zero]
          refine wpQuiet_step (fun K hK => ?_)
          rw [if_pos (by rfl)]
          refine ⟨.bool true, fun W hW => quiet_call (f := 19) (args := #[.string ⟨x.1.toArray⟩, .string ⟨ap.toArray⟩]) ?_ ?_, hK _ ?_⟩
          · go_simp
          · exact (HLB.out W).mono fun e w'' h => ⟨h.1, HTR.out _ _ hW h.2⟩
          clear hK K
          simp only [Act.put, List.setIfInBounds_toArray, List.set_cons_succ, List.set_cons_zero]
          refine wpQuiet_step (fun K hK => ?_)
          rw [if_pos (by rfl)]
          refine ⟨.bool false, fun W hW => quiet_ok ?_, hK _ ?_⟩
          · have q := HX.out W hW
            obtain ⟨m0, m1, m2, _⟩ := q
            have q3 := HZ.out W hW
            obtain ⟨y0, y1, y2, _⟩ := q3
            go_simp
            all_goals (try omega)
          clear hK K
          simp only [Act.put, List.setIfInBounds_toArray, List.set_cons_succ, List.set_cons_zero]
          refine wpQuiet_step (fun K hK => ?_)
          rw [if_pos (by rfl)]
          refine ⟨.bool false, fun W hW => quiet_ok ?_, hK _ ?_⟩
          · have q := HX.out W hW
            obtain ⟨m0, m1, m2, _⟩ := q
            have q3 := HZ.out W hW
            obtain ⟨y0, y1, y2, _⟩ := q3
            go_simp
            all_goals (try omega)
          clear hK K
          simp only [Act.put, List.setIfInBounds_toArray, List.set_cons_succ, List.set_cons_zero]
          refine wpQuiet_step (fun K hK => ?_)
          rw [if_pos (by rfl)]
          refine ⟨.bool false, fun W hW => quiet_ok ?_, hK _ ?_⟩
          · have q := HX.out W hW
            obtain ⟨m0, m1, m2, _⟩ := q
            have q3 := HZ.out W hW
            obtain ⟨y0, y1, y2, _⟩ := q3
            go_simp
            all_goals (try omega)
          clear hK K
          simp only [Act.put, List.setIfInBounds_toArray, List.set_cons_succ, List.set_cons_zero]
          refine wpQuiet_step (fun K hK => ?_)
          rw [if_pos (by rfl)]
          refine ⟨.int .i64 (k : Int), fun W hW => quiet_ok ?_, hK _ ?_⟩
          · have q := HX.out W hW
            obtain ⟨m0, m1, m2, _⟩ := q
            have q3 := HZ.out W hW
            obtain ⟨y0, y1, y2, _⟩ := q3
            go_simp
            all_goals (try omega)
          clear hK K
          simp only [Act.put, List.setIfInBounds_toArray, List.set_cons_succ, List.set_cons_zero]
          refine wpQuiet_step (fun K hK => ?_)
          rw [if_pos (by rfl)]
          refine ⟨.bool false, fun W hW => quiet_ok ?_, hK _ ?_⟩
          · have q := HX.out W hW
            obtain ⟨m0, m1, m2, _⟩ := q
            have q3 := HZ.out W hW
            obtain ⟨y0, y1, y2, _⟩ := q3
            go_simp
            all_goals (try omega)
          clear hK K
          simp only [Act.put, List.setIfInBounds_toArray, List.set_cons_succ, List.set_cons_zero]
          refine wpQuiet_step (fun K hK => ?_)
          rw [if_pos (by rfl)]
          refine ⟨.bool u47, fun W hW => quiet_ok ?_, hK _ ?_⟩
          · have q := HX.out W hW
            obtain ⟨m0, m1, m2, _⟩ := q
            have q3 := HZ.out W hW
            obtain ⟨y0, y1, y2, _⟩ := q3
            have v47 := HU47.out
            go_simp
            all_goals (try omega)
          clear hK K
          simp only [Act.put, List.setIfInBounds_toArray, List.set_cons_succ, List.set_cons_zero]
          refine BigFrame.wpQuiet_skip (by show (some u47 == some true) = false; rw [HU47.out]; rfl) ?_
          simp only [Act.put, List.setIfInBounds_toArray, List.set_cons_succ, List.set_cons_zero]
          refine BigFrame.wpQuiet_skip (by show (some u47 == some true) = false; rw [HU47.out]; rfl) ?_
          simp only [Act.put, List.setIfInBounds_toArray, List.set_cons_succ, List.set_cons_zero]
          refine BigFrame.wpQuiet_skip (by show (some u47 == some true) = false; rw [HU47.out]; rfl) ?_
          simp only [Act.put, List.setIfInBounds_toArray, List.set_cons_succ, List.set_cons_zero]
          refine BigFrame.wpQuiet_skip (by show (some u47 == some true) = false; rw [HU47.out]; rfl) ?_
          simp only [Act.put, List.setIfInBounds_toArray, List.set_cons_succ, List.set_cons_zero]
          refine BigFrame.wpQuiet_skip (by show (some u47 == some true) = false; rw [HU47.out]; rfl) ?_
          simp only [Act.put, List.setIfInBounds_toArray, List.set_cons_succ, List.set_cons_zero]
          refine BigFrame.wpQuiet_skip (by show (some u47 == some true) = false; rw [HU47.out]; rfl) ?_
          simp only [Act.put, List.setIfInBounds_toArray, List.set_cons_succ, List.set_cons_zero]
          refine BigFrame.wpQuiet_skip (by show (some u47 == some true) = false; rw [HU47.out]; rfl) ?_
          simp only [Act.put, List.setIfInBounds_toArray, List.set_cons_succ, List.set_cons_zero]
          refine BigFrame.wpQuiet_skip (by show (some u47 == some true) = false; rw [HU47.out]; rfl) ?_
          simp only [Act.put, List.setIfInBounds_toArray, List.set_cons_succ, List.set_cons_zero]
          refine BigFrame.wpQuiet_skip (by show (some u47 == some true) = false; rw [HU47.out]; rfl) ?_
          simp only [Act.put, List.setIfInBounds_toArray, List.set_cons_succ, List.set_cons_zero]
          refine BigFrame.wpQuiet_skip (by show (some u47 == some true) = false; rw [HU47.out]; rfl) ?_
          simp only [Act.put, List.setIfInBounds_toArray, List.set_cons_succ, List.set_cons_zero]
          refine wpQuiet_step (fun K hK => ?_)
          rw [if_pos (by rfl)]
          refine ⟨.bool false, fun W hW => quiet_ok ?_, hK _ ?_⟩
          · have q := HX.out W hW
            obtain ⟨m0, m1, m2, _⟩ := q
            have q3 := HZ.out W hW
            obtain ⟨y0, y1, y2, _⟩ := q3
            have v47 := HU47.out
            go_simp
            all_goals (try omega)
          clear hK K
          simp only [Act.put, List.setIfInBounds_toArray, List.set_cons_succ, List.set_cons_zero]
          refine wpQuiet_step (fun K hK => ?_)
          rw [if_pos (by rfl)]
          refine ⟨.bool false, fun W hW => quiet_ok ?_, hK _ ?_⟩
          · have q := HX.out W hW
            obtain ⟨m0, m1, m2, _⟩ := q
            have q3 := HZ.out W hW
            obtain ⟨y0, y1, y2, _⟩ := q3
            have v47 := HU47.out
            go_simp
            all_goals (try omega)
          clear hK K
          simp only [Act.put, List.setIfInBounds_toArray, List.set_cons_succ, List.set_cons_zero]
          refine wpQuiet_step (fun K hK => ?_)
          rw [if_pos (by rfl)]
          refine ⟨.bool false, fun W hW => quiet_ok ?_, hK _ ?_⟩
          · have q := HX.out W hW
            obtain ⟨m0, m1, m2, _⟩ := q
            have q3 := HZ.out W hW
            obtain ⟨y0, y1, y2, _⟩ := q3
            have v47 := HU47.out
            go_simp
            all_goals (try omega)
          clear hK K
          simp only [Act.put, List.setIfInBounds_toArray, List.set_cons_succ, List.set_cons_zero]
          refine wpQuiet_step (fun K hK => ?_)
          rw [if_pos (by rfl)]
          refine ⟨.pointer (some ⟨gx, 1, none⟩), fun W hW => quiet_ok ?_, hK _ ?_⟩
          · have q := HX.out W hW
            obtain ⟨m0, m1, m2, _⟩ := q
            have q3 := HZ.out W hW
            obtain ⟨y0, y1, y2, _⟩ := q3
            have v47 := HU47.out
            go_simp
            all_goals (try omega)
          clear hK K
          simp only [Act.put, List.setIfInBounds_toArray, List.set_cons_succ, List.set_cons_zero]
          refine wpQuiet_step (fun K hK => ?_)
          rw [if_pos (by rfl)]
          refine ⟨.string ⟨x.2.1.toArray⟩, fun W hW => quiet_ok ?_, hK _ ?_⟩
          · have q := HX.out W hW
            obtain ⟨m0, m1, m2, _⟩ := q
            have q3 := HZ.out W hW
            obtain ⟨y0, y1, y2, _⟩ := q3
            have v47 := HU47.out
            go_simp
            all_goals (try omega)
          clear hK K
          simp only [Act.put, List.setIfInBounds_toArray, List.set_cons_succ, List.set_cons_zero]
          refine wpQuiet_step (fun K hK => ?_)
          rw [if_pos (by rfl)]
          refine ⟨.slice (some ⟨b, o, none⟩) L.length cap, fun W hW => quiet_ok ?_, hK _ ?_⟩
          · have q := HX.out W hW
            obtain ⟨m0, m1, m2, _⟩ := q
            have q3 := HZ.out W hW
            obtain ⟨y0, y1, y2, _⟩ := q3
            have v47 := HU47.out
            go_simp
            all_goals (try omega)
          clear hK K
          simp only [Act.put, List.setIfInBounds_toArray, List.set_cons_succ, List.set_cons_zero]
          refine wpQuiet_step (fun K hK => ?_)
          rw [if_pos (by rfl)]
          refine ⟨.int .i64 (k : Int), fun W hW => quiet_ok ?_, hK _ ?_⟩
          · have q := HX.out W hW
            obtain ⟨m0, m1, m2, _⟩ := q
            have q3 := HZ.out W hW
            obtain ⟨y0, y1, y2, _⟩ := q3
            have v47 := HU47.out
            go_simp
            all_goals (try omega)
          clear hK K
          simp only [Act.put, List.setIfInBounds_toArray, List.set_cons_succ, List.set_cons_zero]
          refine wpQuiet_step (fun K hK => ?_)
          rw [if_pos (by rfl)]
          refine ⟨.int .i64 ((k : Int) + 1), fun W hW => quiet_ok ?_, hK _ ?_⟩
          · have q := HX.out W hW
            obtain ⟨m0, m1, m2, _⟩ := q
            have q3 := HZ.out W hW
            obtain ⟨y0, y1, y2, _⟩ := q3
            have v47 := HU47.out
            go_simp
            all_goals (try omega)
          clear hK K
          simp only [Act.put, List.setIfInBounds_toArray, List.set_cons_succ, List.set_cons_zero]
          refine wpQuiet_step (fun K hK => ?_)
          rw [if_pos (by rfl)]
          refine ⟨.slice (some ⟨b, o, none⟩) L.length cap, fun W hW => quiet_ok ?_, hK _ ?_⟩
          · have q := HX.out W hW
            obtain ⟨m0, m1, m2, _⟩ := q
            have q3 := HZ.out W hW
            obtain ⟨y0, y1, y2, _⟩ := q3
            have v47 := HU47.out
            go_simp
            all_goals (try omega)
          clear hK K
          simp only [Act.put, List.setIfInBounds_toArray, List.set_cons_succ, List.set_cons_zero]
          refine wpQuiet_step (fun K hK => ?_)
          rw [if_pos (by rfl)]
          refine ⟨.int .i64 (L.length : Int), fun W hW => quiet_ok ?_, hK _ ?_⟩
          · have q := HX.out W hW
            obtain ⟨m0, m1, m2, _⟩ := q
            have q3 := HZ.out W hW
            obtain ⟨y0, y1, y2, _⟩ := q3
            have v47 := HU47.out
            go_simp
            all_goals (try omega)
          clear hK K
          simp only [Act.put, List.setIfInBounds_toArray, List.set_cons_succ, List.set_cons_zero]
          refine wpQuiet_step (fun K hK => ?_)
          rw [if_pos (by rfl)]
          refine ⟨.int .i64 (m : Int), fun W hW => quiet_ok ?_, hK _ ?_⟩
          · have q := HX.out W hW
            obtain ⟨m0, m1, m2, _⟩ := q
            have q3 := HZ.out W hW
            obtain ⟨y0, y1, y2, _⟩ := q3
            have v47 := HU47.out
            go_simp
            all_goals (try omega)
          clear hK K
          simp only [Act.put, List.setIfInBounds_toArray, List.set_cons_succ, List.set_cons_zero]
          refine wpQuiet_step (fun K hK => ?_)
          rw [if_pos (by rfl)]
          refine ⟨.pointer (some ⟨b, o + m * 3, none⟩), fun W hW => quiet_ok ?_, hK _ ?_⟩
          · have q := HX.out W hW
            obtain ⟨m0, m1, m2, _⟩ := q
            have q3 := HZ.out W hW
            obtain ⟨y0, y1, y2, _⟩ := q3
            have v47 := HU47.out
            go_simp
            all_goals (try omega)
          clear hK K
          simp only [Act.put, List.setIfInBounds_toArray, List.set_cons_succ, List.set_cons_zero]
          refine wpQuiet_step (fun K hK => ?_)
          rw [if_pos (by rfl)]
          refine ⟨.pointer (some ⟨b, o + m * 3, none⟩), fun W hW => quiet_ok ?_, hK _ ?_⟩
          · have q := HX.out W hW
            obtain ⟨m0, m1, m2, _⟩ := q
            have q3 := HZ.out W hW
            obtain ⟨y0, y1, y2, _⟩ := q3
            have v47 := HU47.out
            go_simp
            all_goals (try omega)
          clear hK K
          simp only [Act.put, List.setIfInBounds_toArray, List.set_cons_succ, List.set_cons_zero]
          refine wpQuiet_step (fun K hK => ?_)
          rw [if_pos (by rfl)]
          refine ⟨.string ⟨z.1.toArray⟩, fun W hW => quiet_ok ?_, hK _ ?_⟩
          · have q := HX.out W hW
            obtain ⟨m0, m1, m2, _⟩ := q
            have q3 := HZ.out W hW
            obtain ⟨y0, y1, y2, _⟩ := q3
            have v47 := HU47.out
            go_simp
            all_goals (try omega)
          clear hK K
          simp only [Act.put, List.setIfInBounds_toArray, List.set_cons_succ, List.set_cons_zero]
          refine wpQuiet_step (fun K hK => ?_)
          rw [if_pos (by rfl)]
          refine ⟨.bool false, fun W hW => quiet_ok ?_, hK _ ?_⟩
          · have q := HX.out W hW
            obtain ⟨m0, m1, m2, _⟩ := q
            have q3 := HZ.out W hW
            obtain ⟨y0, y1, y2, _⟩ := q3
            have v47 := HU47.out
            go_simp
            all_goals (try omega)
          clear hK K
          simp only [Act.put, List.setIfInBounds_toArray, List.set_cons_succ, List.set_cons_zero]
          refine wpQuiet_step (fun K hK => ?_)
          rw [if_pos (by rfl)]
          refine ⟨.bool false, fun W hW => quiet_ok ?_, hK _ ?_⟩
          · have q := HX.out W hW
            obtain ⟨m0, m1, m2, _⟩ := q
            have q3 := HZ.out W hW
            obtain ⟨y0, y1, y2, _⟩ := q3
            have v47 := HU47.out
            go_simp
            all_goals (try omega)
          clear hK K
          simp only [Act.put, List.setIfInBounds_toArray, List.set_cons_succ, List.set_cons_zero]
          refine wpQuiet_step (fun K hK => ?_)
          rw [if_pos (by rfl)]
          refine ⟨.bool false, fun W hW => quiet_ok ?_, hK _ ?_⟩
          · have q := HX.out W hW
            obtain ⟨m0, m1, m2, _⟩ := q
            have q3 := HZ.out W hW
            obtain ⟨y0, y1, y2, _⟩ := q3
            have v47 := HU47.out
            go_simp
            all_goals (try omega)
          clear hK K
          simp only [Act.put, List.setIfInBounds_toArray, List.set_cons_succ, List.set_cons_zero]
          refine wpQuiet_step (fun K hK => ?_)
          rw [if_pos (by rfl)]
          refine ⟨.pointer (some ⟨gx, 2, none⟩), fun W hW => quiet_ok ?_, hK _ ?_⟩
          · have q := HX.out W hW
            obtain ⟨m0, m1, m2, _⟩ := q
            have q3 := HZ.out W hW
            obtain ⟨y0, y1, y2, _⟩ := q3
            have v47 := HU47.out
            go_simp
            all_goals (try omega)
          clear hK K
          simp only [Act.put, List.setIfInBounds_toArray, List.set_cons_succ, List.set_cons_zero]
          refine wpQuiet_step (fun K hK => ?_)
          rw [if_pos (by rfl)]
          refine ⟨.slice aa x.2.2.length ca, fun W hW => quiet_ok ?_, hK _ ?_⟩
          · have q := HX.out W hW
            obtain ⟨m0, m1, m2, _⟩ := q
            have q3 := HZ.out W hW
            obtain ⟨y0, y1, y2, _⟩ := q3
            have v47 := HU47.out
            go_simp
            all_goals (try omega)
          clear hK K
          simp only [Act.put, List.setIfInBounds_toArray, List.set_cons_succ, List.set_cons_zero]
          refine wpQuiet_step (fun K hK => ?_)
          rw [if_pos (by rfl)]
          refine ⟨.int .i64 (x.2.2.length : Int), fun W hW => quiet_ok ?_, hK _ ?_⟩
          · have q := HX.out W hW
            obtain ⟨m0, m1, m2, _⟩ := q
            have q3 := HZ.out W hW
            obtain ⟨y0, y1, y2, _⟩ := q3
            have v47 := HU47.out
            go_simp
            all_goals (try omega)
          clear hK K
          simp only [Act.put, List.setIfInBounds_toArray, List.set_cons_succ, List.set_cons_zero]
          refine wpQuiet_step (fun K hK => ?_)
          rw [if_pos (by rfl)]
          refine ⟨.bool false, fun W hW => quiet_ok ?_, hK _ ?_⟩
          · have q := HX.out W hW
            obtain ⟨m0, m1, m2, _⟩ := q
            have q3 := HZ.out W hW
            obtain ⟨y0, y1, y2, _⟩ := q3
            have v47 := HU47.out
            go_simp
            all_goals (try omega)
          clear hK K
          simp only [Act.put, List.setIfInBounds_toArray, List.set_cons_succ, List.set_cons_zero]
          refine wpQuiet_step (fun K hK => ?_)
          rw [if_pos (by rfl)]
          refine ⟨.bool false, fun W hW => quiet_ok ?_, hK _ ?_⟩
          · have q := HX.out W hW
            obtain ⟨m0, m1, m2, _⟩ := q
            have q3 := HZ.out W hW
            obtain ⟨y0, y1, y2, _⟩ := q3
            have v47 := HU47.out
            go_simp
            all_goals (try omega)
          clear hK K
          simp only [Act.put, List.setIfInBounds_toArray, List.set_cons_succ, List.set_cons_zero]
          refine wpQuiet_nil ?_
          intro W hW
          have hbW := HBW.out W hW
          -- the round's inner loop over the types
          clear HN HLB hbd
          obtain ⟨b2, o2, ha2, hbl2, hc2⟩ := HROW2.out (by omega)
          subst ha2
          have HCT : Hid (∀ W, Below W0.heap.size W0 W → ∀ i, (hi : i < x.2.2.length) → W.cell? ⟨b2, o2 + i, none⟩ = some (.int .i64 x.2.2[i])) := fun W hW i hi => by
            rw [(HX.out W hW).2.2.2.cell (p := ⟨b2, o2 + i, none⟩) hbl2]; exact hc2 i hi
          have HGW : Hid (Below W0.heap.size W0 W) := hW
          obtain ⟨q0, q1, q2, _⟩ := HX.out W hW
          clear hc2 hbl2 hW HROW2 hbW
          go_wp2_with fail
          clear q0 q1 q2
          go_loopw [83] (fun i w3 => ∃ n : Nat, n ≤ x.2.2.length ∧ i = .int .i64 (n : Int) ∧ Hid (∀ i, i < n → tyB x.2.2 i = true) ∧ Below W0.heap.size W0 w3) (fun i _ => x.2.2.length - (intOf i).toNat)
          case atStart => exact ⟨0, Nat.zero_le _, rfl, fun j h => absurd h (Nat.not_lt_zero _), HGW.out⟩
          case round =>
            obtain ⟨n, hn, rfl, HTA, hb3⟩ := hrel
            have hbW3 := HBW.out _ hb3
            obtain ⟨q0, q1, q2, _⟩ := HX.out _ hb3
            by_cases hlt3 : n < x.2.2.length
            · have hcx := HCT.out _ hb3 n hlt3
              have HBAD3 : Hid (tyB x.2.2 n = false → r = false) := fun h => HBT.out (types_bad n hlt3 h)
              have hni : (n : Int) < (x.2.2.length : Int) := by omega
              rcases Nat.eq_zero_or_pos n with hn0 | hn0
              · have HT0 : Hid (tyB x.2.2 n = typB (x.2.2[n]'hlt3)) := by subst hn0; exact ty_zero hlt3
                obtain ⟨t, ht⟩ : ∃ t, t = x.2.2[n]'hlt3 := ⟨_, rfl⟩
                rw [← ht] at HT0 hcx
                have HI : Hid (∀ W, Calls Tryd.prog 44 #[.int .i64 t] W fun e w' => e = .returned (.bool (typB t)) ∧ Below W.heap.size W w') := fun W => l3Type_any t W
                have hn0i : ¬ (0 : Int) < (n : Int) := by omega
                clear ht hn0
                cases htt : typB t with
                | false =>
                  have HF : Hid (r = false) := HBAD3.out (HT0.out.trans htt)
                  rw [htt] at HI
                  clear HBAD3 HT0 htt
                  go_wp2_with fail
                  refine (HI.out _).mono ?_
                  rintro e w4 ⟨rfl, hb4⟩
                  have hbW4 := HBW.out _ (hb3.trans (hb4.mono hb3.size))
                  go_wp2_with fail
                  go_ret
                  exact ⟨ret_bool HF.out.symm, hbW4⟩
                | true =>
                  have HU3 : Hid (∀ j, j < n + 1 → tyB x.2.2 j = true) := all_up HTA.out (HT0.out.trans htt)
                  rw [htt] at HI
                  clear HBAD3 HT0 htt
                  go_wp2_with fail
                  refine (HI.out _).mono ?_
                  rintro e w4 ⟨rfl, hb4⟩
                  have hb34 := hb3.trans (hb4.mono hb3.size)
                  go_wp2_with fail
                  go_roundw
                  case rel => exact ⟨n + 1, by omega, by go_num, HU3, hb34⟩
                  case measure => simp [intOf]; omega
              · obtain ⟨i, hi⟩ : ∃ i, n = i + 1 := ⟨n - 1, by omega⟩
                have HT0 : Hid (tyB x.2.2 n = (typB (x.2.2[n]'hlt3) && decide ((x.2.2[i]'(by omega)) < x.2.2[n]'hlt3))) := by subst hi; exact ty_succ i hlt3
                obtain ⟨t, ht⟩ : ∃ t, t = x.2.2[n]'hlt3 := ⟨_, rfl⟩
                obtain ⟨s, hs⟩ : ∃ s, s = x.2.2[i]'(by omega) := ⟨_, rfl⟩
                have HCI : Hid (∀ W, Below W0.heap.size W0 W → W.cell? ⟨b2, o2 + i, none⟩ = some (.int .i64 s)) := fun W hW => by rw [hs]; exact HCT.out W hW i (by omega)
                rw [← ht, ← hs] at HT0
                rw [← ht] at hcx
                have HI : Hid (∀ W, Calls Tryd.prog 44 #[.int .i64 t] W fun e w' => e = .returned (.bool (typB t)) ∧ Below W.heap.size W w') := fun W => l3Type_any t W
                have hn0i : (0 : Int) < (n : Int) := by omega
                have wn : IntKind.i64.wrap ((n : Int) - 1) = (i : Int) := by rw [wrap_small _ (by omega) (by omega)]; omega
                have wn2 : (n : Int) - 1 = (i : Int) := by omega
                have hii : (i : Int) < (x.2.2.length : Int) := by omega
                clear ht hs hn0 hi
                cases htt : typB t with
                | false =>
                  have HF : Hid (r = false) := HBAD3.out (HT0.out.trans (by rw [htt]; rfl))
                  rw [htt] at HI
                  clear HBAD3 HT0 htt
                  go_wp2_with fail
                  refine (HI.out _).mono ?_
                  rintro e w4 ⟨rfl, hb4⟩
                  have hbW4 := HBW.out _ (hb3.trans (hb4.mono hb3.size))
                  go_wp2_with fail
                  go_ret
                  exact ⟨ret_bool HF.out.symm, hbW4⟩
                | true =>
                  rw [htt] at HI
                  by_cases hst : s < t
                  · have HU3 : Hid (∀ j, j < n + 1 → tyB x.2.2 j = true) := all_up HTA.out (HT0.out.trans (by rw [htt, decide_eq_true hst]; rfl))
                    clear HBAD3 HT0 htt
                    go_wp2_with fail
                    refine (HI.out _).mono ?_
                    rintro e w4 ⟨rfl, hb4⟩
                    have hb34 := hb3.trans (hb4.mono hb3.size)
                    have hcs := HCI.out _ hb34
                    clear q0 q1 q2
                    obtain ⟨q0, q1, q2, _⟩ := HX.out _ hb34
                    go_wp2_with fail
                    go_roundw
                    case rel => exact ⟨n + 1, by omega, by go_num, HU3, hb34⟩
                    case measure => simp [intOf]; omega
                  · have HF : Hid (r = false) := HBAD3.out (HT0.out.trans (by rw [htt, decide_eq_false hst]; rfl))
                    clear HBAD3 HT0 htt
                    go_wp2_with fail
                    refine (HI.out _).mono ?_
                    rintro e w4 ⟨rfl, hb4⟩
                    have hb34 := hb3.trans (hb4.mono hb3.size)
                    have hbW4 := HBW.out _ hb34
                    have hcs := HCI.out _ hb34
                    clear q0 q1 q2
                    obtain ⟨q0, q1, q2, _⟩ := HX.out _ hb34
                    go_wp2_with fail
                    go_ret
                    exact ⟨ret_bool HF.out.symm, hbW4⟩
            · have HU : Hid (∀ j, j < k + 1 → gsB ap L j = true) := HUP.out (types_all (fun j hj => HTA.out j (by omega)))
              go_wp2_with fail
              go_roundw
              case rel => exact ⟨k + 1, by omega, by go_num, HU, hbW3⟩
              case measure => simp [intOf]; omega
      · obtain ⟨j, hj⟩ : ∃ j, k = j + 1 := ⟨k - 1, by omega⟩
        obtain ⟨y, vb, hye, hyo, hny, hyl, hyc⟩ := HROWS.out j hj
        rw [← hyo] at HG
        have HCM : Hid (∀ W, Calls Tryd.prog 43 #[.string ⟨y.1.toArray⟩, .string ⟨x.1.toArray⟩] W fun e w' => e = .returned (.int .i64 (cmpN y.1 x.1)) ∧ Below W.heap.size W w') := fun W => l1Compare_any ⟨y.1.toArray⟩ ⟨x.1.toArray⟩ W (by rw [size_list]; omega) (by rw [size_list]; omega) ⟨hny, h1⟩
        have HY : Hid (∀ W, Below W0.heap.size W0 W → W.cell? ⟨b, o + j * 3, none⟩ = some (.string ⟨y.1.toArray⟩) ∧ W.cell? ⟨b, o + j * 3 + 1, none⟩ = some (.string ⟨y.2.1.toArray⟩) ∧ W.cell? ⟨b, o + j * 3 + 2, none⟩ = some vb ∧ ZRow .i64 W vb y.2.2) := fun W hW => hyc W (HBW.out W hW)
        obtain ⟨c, hc⟩ : ∃ c, c = cmpN y.1 x.1 := ⟨_, rfl⟩
        rw [← hc] at HCM HG
        have hk0i : (0 : Int) < (k : Int) := by omega
        have wk : IntKind.i64.wrap ((k : Int) - 1) = (j : Int) := by rw [wrap_small _ (by omega) (by omega)]; omega
        have wk2 : (k : Int) - 1 = (j : Int) := by omega
        have wj : IntKind.i64.wrap (j : Int) = (j : Int) := wrap_small _ (by omega) (by omega)
        have hjl : (j : Int) < (L.length : Int) := by omega
        have hkb : (k == 0) = false := by simp; omega
        have HKB : Hid ((k == 0) = false) := hkb
        clear HROWS hk0 hye hyo hny hyl hyc hj hc hkb
        by_cases h3 : 0 ≤ c
        · have HF : Hid (r = false) := HBAD.out (HG.out.trans (by rw [HKB.out, decide_eq_false (show ¬ c < 0 by omega)]; simp))
          clear HBAD HG h1 h2 HUPA HGB
          obtain ⟨u60, hu60⟩ : ∃ u : Bool, u = true := ⟨_, rfl⟩
          have HU60 : Hid (u60 = true) := hu60
          clear hu60
          obtain ⟨u74, hu74⟩ : ∃ u : Bool, u = true := ⟨_, rfl⟩
          have HU74 : Hid (u74 = true) := hu74
          clear hu74
          go_wp2_with fail
          rw [HW0.out, HGX.out]
          refine wp_region_quiet (C := fun W => Below W0.heap.size W0 W) (by kernel_rfl) (by kernel_rfl) hbd ?_
          refine wpQuiet_step (fun K hK => ?_)
          rw [if_pos (by rfl)]
          refine ⟨.pointer (some ⟨gx, 0, none⟩), fun W hW => quiet_ok ?_, hK _ ?_⟩
          · have q := HX.out W hW
            obtain ⟨m0, m1, m2, _⟩ := q
            have q2 := HY.out W hW
            obtain ⟨z0, z1, z2, _⟩ := q2
            go_simp
            all_goals (try omega)
          clear hK K
          simp only [Act.put, List.setIfInBounds_toArray, List.set_cons_succ, List.set_cons_zero]
          refine wpQuiet_step (fun K hK => ?_)
          rw [if_pos (by rfl)]
          refine ⟨.string ⟨x.1.toArray⟩, fun W hW => quiet_ok ?_, hK _ ?_⟩
          · have q := HX.out W hW
            obtain ⟨m0, m1, m2, _⟩ := q
            have q2 := HY.out W hW
            obtain ⟨z0, z1, z2, _⟩ := q2
            go_simp
            all_goals (try omega)
          clear hK K
          simp only [Act.put, List.setIfInBounds_toArray, List.set_cons_succ, List.set_cons_zero]
          refine wpQuiet_step (fun K hK => ?_)
          rw [if_pos (by rfl)]
          refine ⟨.bool true, fun W hW => quiet_call (f := 18) (args := #[.string ⟨x.1.toArray⟩]) ?_ ?_, hK _ ?_⟩
          · go_simp
          · exact (HN.out W).mono fun e w'' h => ⟨h.1, HTR.out _ _ hW h.2⟩
          clear hK K
          simp only [Act.put, List.setIfInBounds_toArray, List.set_cons_succ, List.set_cons_zero]
          refine wpQuiet_step (fun K hK => ?_)
          rw [if_pos (by rfl)]
          refine ⟨.bool false, fun W hW => quiet_ok ?_, hK _ ?_⟩
          · have q := HX.out W hW
            obtain ⟨m0, m1, m2, _⟩ := q
            have q2 := HY.out W hW
            obtain ⟨z0, z1, z2, _⟩ := q2
            go_simp
            all_goals (try omega)
          clear hK K
          simp only [Act.put, List.setIfInBounds_toArray, List.set_cons_succ, List.set_cons_zero]
          refine wpQuiet_step (fun K hK => ?_)
          rw [if_pos (by rfl)]
          refine ⟨.bool false, fun W hW => quiet_ok ?_, hK _ ?_⟩
          · have q := HX.out W hW
            obtain ⟨m0, m1, m2, _⟩ := q
            have q2 := HY.out W hW
            obtain ⟨z0, z1, z2, _⟩ := q2
            go_simp
            all_goals (try omega)
          clear hK K
          simp only [Act.put, List.setIfInBounds_toArray, List.set_cons_succ, List.set_cons_zero]
          refine wpQuiet_step (fun K hK => ?_)
          rw [if_pos (by rfl)]
          refine ⟨.pointer (some ⟨gx, 0, none⟩), fun W hW => quiet_ok ?_, hK _ ?_⟩
          · have q := HX.out W hW
            obtain ⟨m0, m1, m2, _⟩ := q
            have q2 := HY.out W hW
            obtain ⟨z0, z1, z2, _⟩ := q2
            go_simp
            all_goals (try omega)
          clear hK K
          simp only [Act.put, List.setIfInBounds_toArray, List.set_cons_succ, List.set_cons_zero]
          refine wpQuiet_step (fun K hK => ?_)
          rw [if_pos (by rfl)]
          refine ⟨.string ⟨x.1.toArray⟩, fun W hW => quiet_ok ?_, hK _ ?_⟩
          · have q := HX.out W hW
            obtain ⟨m0, m1, m2, _⟩ := q
            have q2 := HY.out W hW
            obtain ⟨z0, z1, z2, _⟩ := q2
            go_simp
            all_goals (try omega)
          clear hK K
          simp only [Act.put, List.setIfInBounds_toArray, List.set_cons_succ, List.set_cons_zero]
          refine wpQuiet_step (fun K hK => ?_)
          rw [if_pos (by rfl)]
          refine ⟨.string ⟨ap.toArray⟩, fun W hW => quiet_ok ?_, hK _ ?_⟩
          · have q := HX.out W hW
            obtain ⟨m0, m1, m2, _⟩ := q
            have q2 := HY.out W hW
            obtain ⟨z0, z1, z2, _⟩ := q2
            go_simp
            all_goals (try omega)
          clear hK K
          simp only [Act.put, List.setIfInBounds_toArray, List.set_cons_succ, List.set_cons_zero]
          refine wpQuiet_step (fun K hK => ?_)
          rw [if_pos (by rfl)]
          refine ⟨.bool true, fun W hW => quiet_call (f := 19) (args := #[.string ⟨x.1.toArray⟩, .string ⟨ap.toArray⟩]) ?_ ?_, hK _ ?_⟩
          · go_simp
          · exact (HLB.out W).mono fun e w'' h => ⟨h.1, HTR.out _ _ hW h.2⟩
          clear hK K
          simp only [Act.put, List.setIfInBounds_toArray, List.set_cons_succ, List.set_cons_zero]
          refine wpQuiet_step (fun K hK => ?_)
          rw [if_pos (by rfl)]
          refine ⟨.bool false, fun W hW => quiet_ok ?_, hK _ ?_⟩
          · have q := HX.out W hW
            obtain ⟨m0, m1, m2, _⟩ := q
            have q2 := HY.out W hW
            obtain ⟨z0, z1, z2, _⟩ := q2
            go_simp
            all_goals (try omega)
          clear hK K
          simp only [Act.put, List.setIfInBounds_toArray, List.set_cons_succ, List.set_cons_zero]
          refine wpQuiet_step (fun K hK => ?_)
          rw [if_pos (by rfl)]
          refine ⟨.bool false, fun W hW => quiet_ok ?_, hK _ ?_⟩
          · have q := HX.out W hW
            obtain ⟨m0, m1, m2, _⟩ := q
            have q2 := HY.out W hW
            obtain ⟨z0, z1, z2, _⟩ := q2
            go_simp
            all_goals (try omega)
          clear hK K
          simp only [Act.put, List.setIfInBounds_toArray, List.set_cons_succ, List.set_cons_zero]
          refine wpQuiet_step (fun K hK => ?_)
          rw [if_pos (by rfl)]
          refine ⟨.bool false, fun W hW => quiet_ok ?_, hK _ ?_⟩
          · have q := HX.out W hW
            obtain ⟨m0, m1, m2, _⟩ := q
            have q2 := HY.out W hW
            obtain ⟨z0, z1, z2, _⟩ := q2
            go_simp
            all_goals (try omega)
          clear hK K
          simp only [Act.put, List.setIfInBounds_toArray, List.set_cons_succ, List.set_cons_zero]
          refine wpQuiet_step (fun K hK => ?_)
          rw [if_pos (by rfl)]
          refine ⟨.int .i64 (k : Int), fun W hW => quiet_ok ?_, hK _ ?_⟩
          · have q := HX.out W hW
            obtain ⟨m0, m1, m2, _⟩ := q
            have q2 := HY.out W hW
            obtain ⟨z0, z1, z2, _⟩ := q2
            go_simp
            all_goals (try omega)
          clear hK K
          simp only [Act.put, List.setIfInBounds_toArray, List.set_cons_succ, List.set_cons_zero]
          refine wpQuiet_step (fun K hK => ?_)
          rw [if_pos (by rfl)]
          refine ⟨.bool true, fun W hW => quiet_ok ?_, hK _ ?_⟩
          · have q := HX.out W hW
            obtain ⟨m0, m1, m2, _⟩ := q
            have q2 := HY.out W hW
            obtain ⟨z0, z1, z2, _⟩ := q2
            go_simp
            all_goals (try omega)
          clear hK K
          simp only [Act.put, List.setIfInBounds_toArray, List.set_cons_succ, List.set_cons_zero]
          refine wpQuiet_step (fun K hK => ?_)
          rw [if_pos (by rfl)]
          refine ⟨.bool true, fun W hW => quiet_ok ?_, hK _ ?_⟩
          · have q := HX.out W hW
            obtain ⟨m0, m1, m2, _⟩ := q
            have q2 := HY.out W hW
            obtain ⟨z0, z1, z2, _⟩ := q2
            go_simp
            all_goals (try omega)
          clear hK K
          simp only [Act.put, List.setIfInBounds_toArray, List.set_cons_succ, List.set_cons_zero]
          refine wpQuiet_step (fun K hK => ?_)
          rw [if_pos (by rfl)]
          refine ⟨.slice (some ⟨b, o, none⟩) L.length cap, fun W hW => quiet_ok ?_, hK _ ?_⟩
          · have q := HX.out W hW
            obtain ⟨m0, m1, m2, _⟩ := q
            have q2 := HY.out W hW
            obtain ⟨z0, z1, z2, _⟩ := q2
            go_simp
            all_goals (try omega)
          clear hK K
          simp only [Act.put, List.setIfInBounds_toArray, List.set_cons_succ, List.set_cons_zero]
          refine wpQuiet_step (fun K hK => ?_)
          rw [if_pos (by rfl)]
          refine ⟨.int .i64 (k : Int), fun W hW => quiet_ok ?_, hK _ ?_⟩
          · have q := HX.out W hW
            obtain ⟨m0, m1, m2, _⟩ := q
            have q2 := HY.out W hW
            obtain ⟨z0, z1, z2, _⟩ := q2
            go_simp
            all_goals (try omega)
          clear hK K
          simp only [Act.put, List.setIfInBounds_toArray, List.set_cons_succ, List.set_cons_zero]
          refine wpQuiet_step (fun K hK => ?_)
          rw [if_pos (by rfl)]
          refine ⟨.int .i64 (j : Int), fun W hW => quiet_ok ?_, hK _ ?_⟩
          · have q := HX.out W hW
            obtain ⟨m0, m1, m2, _⟩ := q
            have q2 := HY.out W hW
            obtain ⟨z0, z1, z2, _⟩ := q2
            go_simp
            all_goals (try omega)
          clear hK K
          simp only [Act.put, List.setIfInBounds_toArray, List.set_cons_succ, List.set_cons_zero]
          refine wpQuiet_step (fun K hK => ?_)
          rw [if_pos (by rfl)]
          refine ⟨.pointer (some ⟨b, o + j * 3, none⟩), fun W hW => quiet_ok ?_, hK _ ?_⟩
          · have q := HX.out W hW
            obtain ⟨m0, m1, m2, _⟩ := q
            have q2 := HY.out W hW
            obtain ⟨z0, z1, z2, _⟩ := q2
            go_simp
            all_goals (try omega)
          clear hK K
          simp only [Act.put, List.setIfInBounds_toArray, List.set_cons_succ, List.set_cons_zero]
          refine wpQuiet_step (fun K hK => ?_)
          rw [if_pos (by rfl)]
          refine ⟨.pointer (some ⟨b, o + j * 3, none⟩), fun W hW => quiet_ok ?_, hK _ ?_⟩
          · have q := HX.out W hW
            obtain ⟨m0, m1, m2, _⟩ := q
            have q2 := HY.out W hW
            obtain ⟨z0, z1, z2, _⟩ := q2
            go_simp
            all_goals (try omega)
          clear hK K
          simp only [Act.put, List.setIfInBounds_toArray, List.set_cons_succ, List.set_cons_zero]
          refine wpQuiet_step (fun K hK => ?_)
          rw [if_pos (by rfl)]
          refine ⟨.string ⟨y.1.toArray⟩, fun W hW => quiet_ok ?_, hK _ ?_⟩
          · have q := HX.out W hW
            obtain ⟨m0, m1, m2, _⟩ := q
            have q2 := HY.out W hW
            obtain ⟨z0, z1, z2, _⟩ := q2
            go_simp
            all_goals (try omega)
          clear hK K
          simp only [Act.put, List.setIfInBounds_toArray, List.set_cons_succ, List.set_cons_zero]
          refine wpQuiet_step (fun K hK => ?_)
          rw [if_pos (by rfl)]
          refine ⟨.pointer (some ⟨gx, 0, none⟩), fun W hW => quiet_ok ?_, hK _ ?_⟩
          · have q := HX.out W hW
            obtain ⟨m0, m1, m2, _⟩ := q
            have q2 := HY.out W hW
            obtain ⟨z0, z1, z2, _⟩ := q2
            go_simp
            all_goals (try omega)
          clear hK K
          simp only [Act.put, List.setIfInBounds_toArray, List.set_cons_succ, List.set_cons_zero]
          refine wpQuiet_step (fun K hK => ?_)
          rw [if_pos (by rfl)]
          refine ⟨.string ⟨x.1.toArray⟩, fun W hW => quiet_ok ?_, hK _ ?_⟩
          · have q := HX.out W hW
            obtain ⟨m0, m1, m2, _⟩ := q
            have q2 := HY.out W hW
            obtain ⟨z0, z1, z2, _⟩ := q2
            go_simp
            all_goals (try omega)
          clear hK K
          simp only [Act.put, List.setIfInBounds_toArray, List.set_cons_succ, List.set_cons_zero]
          refine wpQuiet_step (fun K hK => ?_)
          rw [if_pos (by rfl)]
          refine ⟨.int .i64 c, fun W hW => quiet_call (f := 43) (args := #[.string ⟨y.1.toArray⟩, .string ⟨x.1.toArray⟩]) ?_ ?_, hK _ ?_⟩
          · go_simp
          · exact (HCM.out W).mono fun e w'' h => ⟨h.1, HTR.out _ _ hW h.2⟩
          clear hK K
          simp only [Act.put, List.setIfInBounds_toArray, List.set_cons_succ, List.set_cons_zero]
          refine wpQuiet_step (fun K hK => ?_)
          rw [if_pos (by rfl)]
          refine ⟨.bool true, fun W hW => quiet_ok ?_, hK _ ?_⟩
          · have q := HX.out W hW
            obtain ⟨m0, m1, m2, _⟩ := q
            have q2 := HY.out W hW
            obtain ⟨z0, z1, z2, _⟩ := q2
            go_simp
            all_goals (try omega)
          clear hK K
          simp only [Act.put, List.setIfInBounds_toArray, List.set_cons_succ, List.set_cons_zero]
          refine wpQuiet_step (fun K hK => ?_)
          rw [if_pos (by rfl)]
          refine ⟨.bool true, fun W hW => quiet_ok ?_, hK _ ?_⟩
          · have q := HX.out W hW
            obtain ⟨m0, m1, m2, _⟩ := q
            have q2 := HY.out W hW
            obtain ⟨z0, z1, z2, _⟩ := q2
            go_simp
            all_goals (try omega)
          clear hK K
          simp only [Act.put, List.setIfInBounds_toArray, List.set_cons_succ, List.set_cons_zero]
          refine wpQuiet_step (fun K hK => ?_)
          rw [if_pos (by rfl)]
          refine ⟨.bool true, fun W hW => quiet_ok ?_, hK _ ?_⟩
          · have q := HX.out W hW
            obtain ⟨m0, m1, m2, _⟩ := q
            have q2 := HY.out W hW
            obtain ⟨z0, z1, z2, _⟩ := q2
            go_simp
            all_goals (try omega)
          clear hK K
          simp only [Act.put, List.setIfInBounds_toArray, List.set_cons_succ, List.set_cons_zero]
          refine wpQuiet_step (fun K hK => ?_)
          rw [if_pos (by rfl)]
          refine ⟨.bool u60, fun W hW => quiet_ok ?_, hK _ ?_⟩
          · have q := HX.out W hW
            obtain ⟨m0, m1, m2, _⟩ := q
            have q2 := HY.out W hW
            obtain ⟨z0, z1, z2, _⟩ := q2
            have v60 := HU60.out
            go_simp
            all_goals (try omega)
          clear hK K
          simp only [Act.put, List.setIfInBounds_toArray, List.set_cons_succ, List.set_cons_zero]
          refine BigFrame.wpQuiet_skip (by show (some u60 == some false) = false; rw [HU60.out]; rfl) ?_
          simp only [Act.put, List.setIfInBounds_toArray, List.set_cons_succ, List.set_cons_zero]
          refine BigFrame.wpQuiet_skip (by show (some u60 == some false) = false; rw [HU60.out]; rfl) ?_
          simp only [Act.put, List.setIfInBounds_toArray, List.set_cons_succ, List.set_cons_zero]
          refine BigFrame.wpQuiet_skip (by show (some u60 == some false) = false; rw [HU60.out]; rfl) ?_
          simp only [Act.put, List.setIfInBounds_toArray, List.set_cons_succ, List.set_cons_zero]
          refine BigFrame.wpQuiet_skip (by show (some u60 == some false) = false; rw [HU60.out]; rfl) ?_
          simp only [Act.put, List.setIfInBounds_toArray, List.set_cons_succ, List.set_cons_zero]
          refine BigFrame.wpQuiet_skip (by show (some u60 == some false) = false; rw [HU60.out]; rfl) ?_
          simp only [Act.put, List.setIfInBounds_toArray, List.set_cons_succ, List.set_cons_zero]
          refine BigFrame.wpQuiet_skip (by show (some u60 == some false) = false; rw [HU60.out]; rfl) ?_
          simp only [Act.put, List.setIfInBounds_toArray, List.set_cons_succ, List.set_cons_zero]
          refine BigFrame.wpQuiet_skip (by show (some u60 == some false) = false; rw [HU60.out]; rfl) ?_
          simp only [Act.put, List.setIfInBounds_toArray, List.set_cons_succ, List.set_cons_zero]
          refine BigFrame.wpQuiet_skip (by show (some u60 == some false) = false; rw [HU60.out]; rfl) ?_
          simp only [Act.put, List.setIfInBounds_toArray, List.set_cons_succ, List.set_cons_zero]
          refine BigFrame.wpQuiet_skip (by show (some u60 == some false) = false; rw [HU60.out]; rfl) ?_
          simp only [Act.put, List.setIfInBounds_toArray, List.set_cons_succ, List.set_cons_zero]
          refine BigFrame.wpQuiet_skip (by show (some u60 == some false) = false; rw [HU60.out]; rfl) ?_
          simp only [Act.put, List.setIfInBounds_toArray, List.set_cons_succ, List.set_cons_zero]
          refine BigFrame.wpQuiet_skip (by show (some u60 == some false) = false; rw [HU60.out]; rfl) ?_
          simp only [Act.put, List.setIfInBounds_toArray, List.set_cons_succ, List.set_cons_zero]
          refine BigFrame.wpQuiet_skip (by show (some u60 == some false) = false; rw [HU60.out]; rfl) ?_
          simp only [Act.put, List.setIfInBounds_toArray, List.set_cons_succ, List.set_cons_zero]
          refine wpQuiet_step (fun K hK => ?_)
          rw [if_pos (by rfl)]
          refine ⟨.bool true, fun W hW => quiet_ok ?_, hK _ ?_⟩
          · have q := HX.out W hW
            obtain ⟨m0, m1, m2, _⟩ := q
            have q2 := HY.out W hW
            obtain ⟨z0, z1, z2, _⟩ := q2
            have v60 := HU60.out
            go_simp
            all_goals (try omega)
          clear hK K
          simp only [Act.put, List.setIfInBounds_toArray, List.set_cons_succ, List.set_cons_zero]
          refine wpQuiet_step (fun K hK => ?_)
          rw [if_pos (by rfl)]
          refine ⟨.bool u74, fun W hW => quiet_ok ?_, hK _ ?_⟩
          · have q := HX.out W hW
            obtain ⟨m0, m1, m2, _⟩ := q
            have q2 := HY.out W hW
            obtain ⟨z0, z1, z2, _⟩ := q2
            have v60 := HU60.out
            have v74 := HU74.out
            go_simp
            all_goals (try omega)
          clear hK K
          simp only [Act.put, List.setIfInBounds_toArray, List.set_cons_succ, List.set_cons_zero]
          refine BigFrame.wpQuiet_skip (by show (some u74 == some false) = false; rw [HU74.out]; rfl) ?_
          simp only [Act.put, List.setIfInBounds_toArray, List.set_cons_succ, List.set_cons_zero]
          refine BigFrame.wpQuiet_skip (by show (some u74 == some false) = false; rw [HU74.out]; rfl) ?_
          simp only [Act.put, List.setIfInBounds_toArray, List.set_cons_succ, List.set_cons_zero]
          refine BigFrame.wpQuiet_skip (by show (some u74 == some false) = false; rw [HU74.out]; rfl) ?_
          simp only [Act.put, List.setIfInBounds_toArray, List.set_cons_succ, List.set_cons_zero]
          refine BigFrame.wpQuiet_skip (by show (some u74 == some false) = false; rw [HU74.out]; rfl) ?_
          simp only [Act.put, List.setIfInBounds_toArray, List.set_cons_succ, List.set_cons_zero]
          refine wpQuiet_step (fun K hK => ?_)
          rw [if_pos (by rfl)]
          refine ⟨.bool true, fun W hW => quiet_ok ?_, hK _ ?_⟩
          · have q := HX.out W hW
            obtain ⟨m0, m1, m2, _⟩ := q
            have q2 := HY.out W hW
            obtain ⟨z0, z1, z2, _⟩ := q2
            have v60 := HU60.out
            have v74 := HU74.out
            go_simp
            all_goals (try omega)
          clear hK K
          simp only [Act.put, List.setIfInBounds_toArray, List.set_cons_succ, List.set_cons_zero]
          refine wpQuiet_nil ?_
          intro W hW
          have hbW := HBW.out W hW
          go_wp2_with fail
          go_ret
          exact ⟨ret_bool HF.out.symm, hbW⟩
        · have HK : Hid ((k == 0 || decide (c < 0)) = true) := by show _ = true; rw [decide_eq_true (show c < 0 by omega)]; simp
          clear HKB
          by_cases h4 : x.2.1 = z.1
          case neg =>
            have HF : Hid (r = false) := HBAD.out (HG.out.trans (by rw [show (x.2.1 == z.1) = false by simpa using h4]; simp))
            have e4 : (x.2.1 == z.1) = false := by simpa using h4
            have e4' : (x.2.1 != z.1) = true := by simpa using h4
            clear HBAD HG h1 h2 HUPA HGB
            obtain ⟨u74, hu74⟩ : ∃ u : Bool, u = true := ⟨_, rfl⟩
            have HU74 : Hid (u74 = true) := hu74
            clear hu74
            go_wp2_with fail
            rw [HW0.out, HGX.out]
            refine wp_region_quiet (C := fun W => Below W0.heap.size W0 W) (by kernel_rfl) (by kernel_rfl) hbd ?_
            refine wpQuiet_step (fun K hK => ?_)
            rw [if_pos (by rfl)]
            refine ⟨.pointer (some ⟨gx, 0, none⟩), fun W hW => quiet_ok ?_, hK _ ?_⟩
            · have q := HX.out W hW
              obtain ⟨m0, m1, m2, _⟩ := q
              have q2 := HY.out W hW
              obtain ⟨z0, z1, z2, _⟩ := q2
              have q3 := HZ.out W hW
              obtain ⟨y0, y1, y2, _⟩ := q3
              go_simp
              all_goals (try omega)
            clear hK K
            simp only [Act.put, List.setIfInBounds_toArray, List.set_cons_succ, List.set_cons_zero]
            refine wpQuiet_step (fun K hK => ?_)
            rw [if_pos (by rfl)]
            refine ⟨.string ⟨x.1.toArray⟩, fun W hW => quiet_ok ?_, hK _ ?_⟩
            · have q := HX.out W hW
              obtain ⟨m0, m1, m2, _⟩ := q
              have q2 := HY.out W hW
              obtain ⟨z0, z1, z2, _⟩ := q2
              have q3 := HZ.out W hW
              obtain ⟨y0, y1, y2, _⟩ := q3
              go_simp
              all_goals (try omega)
            clear hK K
            simp only [Act.put, List.setIfInBounds_toArray, List.set_cons_succ, List.set_cons_zero]
            refine wpQuiet_step (fun K hK => ?_)
            rw [if_pos (by rfl)]
            refine ⟨.bool true, fun W hW => quiet_call (f := 18) (args := #[.string ⟨x.1.toArray⟩]) ?_ ?_, hK _ ?_⟩
            · go_simp
            · exact (HN.out W).mono fun e w'' h => ⟨h.1, HTR.out _ _ hW h.2⟩
            clear hK K
            simp only [Act.put, List.setIfInBounds_toArray, List.set_cons_succ, List.set_cons_zero]
            refine wpQuiet_step (fun K hK => ?_)
            rw [if_pos (by rfl)]
            refine ⟨.bool false, fun W hW => quiet_ok ?_, hK _ ?_⟩
            · have q := HX.out W hW
              obtain ⟨m0, m1, m2, _⟩ := q
              have q2 := HY.out W hW
              obtain ⟨z0, z1, z2, _⟩ := q2
              have q3 := HZ.out W hW
              obtain ⟨y0, y1, y2, _⟩ := q3
              go_simp
              all_goals (try omega)
            clear hK K
            simp only [Act.put, List.setIfInBounds_toArray, List.set_cons_succ, List.set_cons_zero]
            refine wpQuiet_step (fun K hK => ?_)
            rw [if_pos (by rfl)]
            refine ⟨.bool false, fun W hW => quiet_ok ?_, hK _ ?_⟩
            · have q := HX.out W hW
              obtain ⟨m0, m1, m2, _⟩ := q
              have q2 := HY.out W hW
              obtain ⟨z0, z1, z2, _⟩ := q2
              have q3 := HZ.out W hW
              obtain ⟨y0, y1, y2, _⟩ := q3
              go_simp
              all_goals (try omega)
            clear hK K
            simp only [Act.put, List.setIfInBounds_toArray, List.set_cons_succ, List.set_cons_zero]
            refine wpQuiet_step (fun K hK => ?_)
            rw [if_pos (by rfl)]
            refine ⟨.pointer (some ⟨gx, 0, none⟩), fun W hW => quiet_ok ?_, hK _ ?_⟩
            · have q := HX.out W hW
              obtain ⟨m0, m1, m2, _⟩ := q
              have q2 := HY.out W hW
              obtain ⟨z0, z1, z2, _⟩ := q2
              have q3 := HZ.out W hW
              obtain ⟨y0, y1, y2, _⟩ := q3
              go_simp
              all_goals (try omega)
            clear hK K
            simp only [Act.put, List.setIfInBounds_toArray, List.set_cons_succ, List.set_cons_zero]
            refine wpQuiet_step (fun K hK => ?_)
            rw [if_pos (by rfl)]
            refine ⟨.string ⟨x.1.toArray⟩, fun W hW => quiet_ok ?_, hK _ ?_⟩
            · have q := HX.out W hW
              obtain ⟨m0, m1, m2, _⟩ := q
              have q2 := HY.out W hW
              obtain ⟨z0, z1, z2, _⟩ := q2
              have q3 := HZ.out W hW
              obtain ⟨y0, y1, y2, _⟩ := q3
              go_simp
              all_goals (try omega)
            clear hK K
            simp only [Act.put, List.setIfInBounds_toArray, List.set_cons_succ, List.set_cons_zero]
            refine wpQuiet_step (fun K hK => ?_)
            rw [if_pos (by rfl)]
            refine ⟨.string ⟨ap.toArray⟩, fun W hW => quiet_ok ?_, hK _ ?_⟩
            · have q := HX.out W hW
              obtain ⟨m0, m1, m2, _⟩ := q
              have q2 := HY.out W hW
              obtain ⟨z0, z1, z2, _⟩ := q2
              have q3 := HZ.out W hW
              obtain ⟨y0, y1, y2, _⟩ := q3
              go_simp
              all_goals (try omega)
            clear hK K
            simp only [Act.put, List.setIfInBounds_toArray, List.set_cons_succ, List.set_cons_zero]
            refine wpQuiet_step (fun K hK => ?_)
            rw [if_pos (by rfl)]
            refine ⟨.bool true, fun W hW => quiet_call (f := 19) (args := #[.string ⟨x.1.toArray⟩, .string ⟨ap.toArray⟩]) ?_ ?_, hK _ ?_⟩
            · go_simp
            · exact (HLB.out W).mono fun e w'' h => ⟨h.1, HTR.out _ _ hW h.2⟩
            clear hK K
            simp only [Act.put, List.setIfInBounds_toArray, List.set_cons_succ, List.set_cons_zero]
            refine wpQuiet_step (fun K hK => ?_)
            rw [if_pos (by rfl)]
            refine ⟨.bool false, fun W hW => quiet_ok ?_, hK _ ?_⟩
            · have q := HX.out W hW
              obtain ⟨m0, m1, m2, _⟩ := q
              have q2 := HY.out W hW
              obtain ⟨z0, z1, z2, _⟩ := q2
              have q3 := HZ.out W hW
              obtain ⟨y0, y1, y2, _⟩ := q3
              go_simp
              all_goals (try omega)
            clear hK K
            simp only [Act.put, List.setIfInBounds_toArray, List.set_cons_succ, List.set_cons_zero]
            refine wpQuiet_step (fun K hK => ?_)
            rw [if_pos (by rfl)]
            refine ⟨.bool false, fun W hW => quiet_ok ?_, hK _ ?_⟩
            · have q := HX.out W hW
              obtain ⟨m0, m1, m2, _⟩ := q
              have q2 := HY.out W hW
              obtain ⟨z0, z1, z2, _⟩ := q2
              have q3 := HZ.out W hW
              obtain ⟨y0, y1, y2, _⟩ := q3
              go_simp
              all_goals (try omega)
            clear hK K
            simp only [Act.put, List.setIfInBounds_toArray, List.set_cons_succ, List.set_cons_zero]
            refine wpQuiet_step (fun K hK => ?_)
            rw [if_pos (by rfl)]
            refine ⟨.bool false, fun W hW => quiet_ok ?_, hK _ ?_⟩
            · have q := HX.out W hW
              obtain ⟨m0, m1, m2, _⟩ := q
              have q2 := HY.out W hW
              obtain ⟨z0, z1, z2, _⟩ := q2
              have q3 := HZ.out W hW
              obtain ⟨y0, y1, y2, _⟩ := q3
              go_simp
              all_goals (try omega)
            clear hK K
            simp only [Act.put, List.setIfInBounds_toArray, List.set_cons_succ, List.set_cons_zero]
            refine wpQuiet_step (fun K hK => ?_)
            rw [if_pos (by rfl)]
            refine ⟨.int .i64 (k : Int), fun W hW => quiet_ok ?_, hK _ ?_⟩
            · have q := HX.out W hW
              obtain ⟨m0, m1, m2, _⟩ := q
              have q2 := HY.out W hW
              obtain ⟨z0, z1, z2, _⟩ := q2
              have q3 := HZ.out W hW
              obtain ⟨y0, y1, y2, _⟩ := q3
              go_simp
              all_goals (try omega)
            clear hK K
            simp only [Act.put, List.setIfInBounds_toArray, List.set_cons_succ, List.set_cons_zero]
            refine wpQuiet_step (fun K hK => ?_)
            rw [if_pos (by rfl)]
            refine ⟨.bool true, fun W hW => quiet_ok ?_, hK _ ?_⟩
            · have q := HX.out W hW
              obtain ⟨m0, m1, m2, _⟩ := q
              have q2 := HY.out W hW
              obtain ⟨z0, z1, z2, _⟩ := q2
              have q3 := HZ.out W hW
              obtain ⟨y0, y1, y2, _⟩ := q3
              go_simp
              all_goals (try omega)
            clear hK K
            simp only [Act.put, List.setIfInBounds_toArray, List.set_cons_succ, List.set_cons_zero]
            refine wpQuiet_step (fun K hK => ?_)
            rw [if_pos (by rfl)]
            refine ⟨.bool true, fun W hW => quiet_ok ?_, hK _ ?_⟩
            · have q := HX.out W hW
              obtain ⟨m0, m1, m2, _⟩ := q
              have q2 := HY.out W hW
              obtain ⟨z0, z1, z2, _⟩ := q2
              have q3 := HZ.out W hW
              obtain ⟨y0, y1, y2, _⟩ := q3
              go_simp
              all_goals (try omega)
            clear hK K
            simp only [Act.put, List.setIfInBounds_toArray, List.set_cons_succ, List.set_cons_zero]
            refine wpQuiet_step (fun K hK => ?_)
            rw [if_pos (by rfl)]
            refine ⟨.slice (some ⟨b, o, none⟩) L.length cap, fun W hW => quiet_ok ?_, hK _ ?_⟩
            · have q := HX.out W hW
              obtain ⟨m0, m1, m2, _⟩ := q
              have q2 := HY.out W hW
              obtain ⟨z0, z1, z2, _⟩ := q2
              have q3 := HZ.out W hW
              obtain ⟨y0, y1, y2, _⟩ := q3
              go_simp
              all_goals (try omega)
            clear hK K
            simp only [Act.put, List.setIfInBounds_toArray, List.set_cons_succ, List.set_cons_zero]
            refine wpQuiet_step (fun K hK => ?_)
            rw [if_pos (by rfl)]
            refine ⟨.int .i64 (k : Int), fun W hW => quiet_ok ?_, hK _ ?_⟩
            · have q := HX.out W hW
              obtain ⟨m0, m1, m2, _⟩ := q
              have q2 := HY.out W hW
              obtain ⟨z0, z1, z2, _⟩ := q2
              have q3 := HZ.out W hW
              obtain ⟨y0, y1, y2, _⟩ := q3
              go_simp
              all_goals (try omega)
            clear hK K
            simp only [Act.put, List.setIfInBounds_toArray, List.set_cons_succ, List.set_cons_zero]
            refine wpQuiet_step (fun K hK => ?_)
            rw [if_pos (by rfl)]
            refine ⟨.int .i64 (j : Int), fun W hW => quiet_ok ?_, hK _ ?_⟩
            · have q := HX.out W hW
              obtain ⟨m0, m1, m2, _⟩ := q
              have q2 := HY.out W hW
              obtain ⟨z0, z1, z2, _⟩ := q2
              have q3 := HZ.out W hW
              obtain ⟨y0, y1, y2, _⟩ := q3
              go_simp
              all_goals (try omega)
            clear hK K
            simp only [Act.put, List.setIfInBounds_toArray, List.set_cons_succ, List.set_cons_zero]
            refine wpQuiet_step (fun K hK => ?_)
            rw [if_pos (by rfl)]
            refine ⟨.pointer (some ⟨b, o + j * 3, none⟩), fun W hW => quiet_ok ?_, hK _ ?_⟩
            · have q := HX.out W hW
              obtain ⟨m0, m1, m2, _⟩ := q
              have q2 := HY.out W hW
              obtain ⟨z0, z1, z2, _⟩ := q2
              have q3 := HZ.out W hW
              obtain ⟨y0, y1, y2, _⟩ := q3
              go_simp
              all_goals (try omega)
            clear hK K
            simp only [Act.put, List.setIfInBounds_toArray, List.set_cons_succ, List.set_cons_zero]
            refine wpQuiet_step (fun K hK => ?_)
            rw [if_pos (by rfl)]
            refine ⟨.pointer (some ⟨b, o + j * 3, none⟩), fun W hW => quiet_ok ?_, hK _ ?_⟩
            · have q := HX.out W hW
              obtain ⟨m0, m1, m2, _⟩ := q
              have q2 := HY.out W hW
              obtain ⟨z0, z1, z2, _⟩ := q2
              have q3 := HZ.out W hW
              obtain ⟨y0, y1, y2, _⟩ := q3
              go_simp
              all_goals (try omega)
            clear hK K
            simp only [Act.put, List.setIfInBounds_toArray, List.set_cons_succ, List.set_cons_zero]
            refine wpQuiet_step (fun K hK => ?_)
            rw [if_pos (by rfl)]
            refine ⟨.string ⟨y.1.toArray⟩, fun W hW => quiet_ok ?_, hK _ ?_⟩
            · have q := HX.out W hW
              obtain ⟨m0, m1, m2, _⟩ := q
              have q2 := HY.out W hW
              obtain ⟨z0, z1, z2, _⟩ := q2
              have q3 := HZ.out W hW
              obtain ⟨y0, y1, y2, _⟩ := q3
              go_simp
              all_goals (try omega)
            clear hK K
            simp only [Act.put, List.setIfInBounds_toArray, List.set_cons_succ, List.set_cons_zero]
            refine wpQuiet_step (fun K hK => ?_)
            rw [if_pos (by rfl)]
            refine ⟨.pointer (some ⟨gx, 0, none⟩), fun W hW => quiet_ok ?_, hK _ ?_⟩
            · have q := HX.out W hW
              obtain ⟨m0, m1, m2, _⟩ := q
              have q2 := HY.out W hW
              obtain ⟨z0, z1, z2, _⟩ := q2
              have q3 := HZ.out W hW
              obtain ⟨y0, y1, y2, _⟩ := q3
              go_simp
              all_goals (try omega)
            clear hK K
            simp only [Act.put, List.setIfInBounds_toArray, List.set_cons_succ, List.set_cons_zero]
            refine wpQuiet_step (fun K hK => ?_)
            rw [if_pos (by rfl)]
            refine ⟨.string ⟨x.1.toArray⟩, fun W hW => quiet_ok ?_, hK _ ?_⟩
            · have q := HX.out W hW
              obtain ⟨m0, m1, m2, _⟩ := q
              have q2 := HY.out W hW
              obtain ⟨z0, z1, z2, _⟩ := q2
              have q3 := HZ.out W hW
              obtain ⟨y0, y1, y2, _⟩ := q3
              go_simp
              all_goals (try omega)
            clear hK K
            simp only [Act.put, List.setIfInBounds_toArray, List.set_cons_succ, List.set_cons_zero]
            refine wpQuiet_step (fun K hK => ?_)
            rw [if_pos (by rfl)]
            refine ⟨.int .i64 c, fun W hW => quiet_call (f := 43) (args := #[.string ⟨y.1.toArray⟩, .string ⟨x.1.toArray⟩]) ?_ ?_, hK _ ?_⟩
            · go_simp
            · exact (HCM.out W).mono fun e w'' h => ⟨h.1, HTR.out _ _ hW h.2⟩
            clear hK K
            simp only [Act.put, List.setIfInBounds_toArray, List.set_cons_succ, List.set_cons_zero]
            refine wpQuiet_step (fun K hK => ?_)
            rw [if_pos (by rfl)]
            refine ⟨.bool false, fun W hW => quiet_ok ?_, hK _ ?_⟩
            · have q := HX.out W hW
              obtain ⟨m0, m1, m2, _⟩ := q
              have q2 := HY.out W hW
              obtain ⟨z0, z1, z2, _⟩ := q2
              have q3 := HZ.out W hW
              obtain ⟨y0, y1, y2, _⟩ := q3
              go_simp
              all_goals (try omega)
            clear hK K
            simp only [Act.put, List.setIfInBounds_toArray, List.set_cons_succ, List.set_cons_zero]
            refine wpQuiet_step (fun K hK => ?_)
            rw [if_pos (by rfl)]
            refine ⟨.bool false, fun W hW => quiet_ok ?_, hK _ ?_⟩
            · have q := HX.out W hW
              obtain ⟨m0, m1, m2, _⟩ := q
              have q2 := HY.out W hW
              obtain ⟨z0, z1, z2, _⟩ := q2
              have q3 := HZ.out W hW
              obtain ⟨y0, y1, y2, _⟩ := q3
              go_simp
              all_goals (try omega)
            clear hK K
            simp only [Act.put, List.setIfInBounds_toArray, List.set_cons_succ, List.set_cons_zero]
            refine wpQuiet_step (fun K hK => ?_)
            rw [if_pos (by rfl)]
            refine ⟨.bool false, fun W hW => quiet_ok ?_, hK _ ?_⟩
            · have q := HX.out W hW
              obtain ⟨m0, m1, m2, _⟩ := q
              have q2 := HY.out W hW
              obtain ⟨z0, z1, z2, _⟩ := q2
              have q3 := HZ.out W hW
              obtain ⟨y0, y1, y2, _⟩ := q3
              go_simp
              all_goals (try omega)
            clear hK K
            simp only [Act.put, List.setIfInBounds_toArray, List.set_cons_succ, List.set_cons_zero]
            refine wpQuiet_step (fun K hK => ?_)
            rw [if_pos (by rfl)]
            refine ⟨.bool false, fun W hW => quiet_ok ?_, hK _ ?_⟩
            · have q := HX.out W hW
              obtain ⟨m0, m1, m2, _⟩ := q
              have q2 := HY.out W hW
              obtain ⟨z0, z1, z2, _⟩ := q2
              have q3 := HZ.out W hW
              obtain ⟨y0, y1, y2, _⟩ := q3
              go_simp
              all_goals (try omega)
            clear hK K
            simp only [Act.put, List.setIfInBounds_toArray, List.set_cons_succ, List.set_cons_zero]
            refine wpQuiet_step (fun K hK => ?_)
            rw [if_pos (by rfl)]
            refine ⟨.pointer (some ⟨gx, 1, none⟩), fun W hW => quiet_ok ?_, hK _ ?_⟩
            · have q := HX.out W hW
              obtain ⟨m0, m1, m2, _⟩ := q
              have q2 := HY.out W hW
              obtain ⟨z0, z1, z2, _⟩ := q2
              have q3 := HZ.out W hW
              obtain ⟨y0, y1, y2, _⟩ := q3
              go_simp
              all_goals (try omega)
            clear hK K
            simp only [Act.put, List.setIfInBounds_toArray, List.set_cons_succ, List.set_cons_zero]
            refine wpQuiet_step (fun K hK => ?_)
            rw [if_pos (by rfl)]
            refine ⟨.string ⟨x.2.1.toArray⟩, fun W hW => quiet_ok ?_, hK _ ?_⟩
            · have q := HX.out W hW
              obtain ⟨m0, m1, m2, _⟩ := q
              have q2 := HY.out W hW
              obtain ⟨z0, z1, z2, _⟩ := q2
              have q3 := HZ.out W hW
              obtain ⟨y0, y1, y2, _⟩ := q3
              go_simp
              all_goals (try omega)
            clear hK K
            simp only [Act.put, List.setIfInBounds_toArray, List.set_cons_succ, List.set_cons_zero]
            refine wpQuiet_step (fun K hK => ?_)
            rw [if_pos (by rfl)]
            refine ⟨.slice (some ⟨b, o, none⟩) L.length cap, fun W hW => quiet_ok ?_, hK _ ?_⟩
            · have q := HX.out W hW
              obtain ⟨m0, m1, m2, _⟩ := q
              have q2 := HY.out W hW
              obtain ⟨z0, z1, z2, _⟩ := q2
              have q3 := HZ.out W hW
              obtain ⟨y0, y1, y2, _⟩ := q3
              go_simp
              all_goals (try omega)
            clear hK K
            simp only [Act.put, List.setIfInBounds_toArray, List.set_cons_succ, List.set_cons_zero]
            refine wpQuiet_step (fun K hK => ?_)
            rw [if_pos (by rfl)]
            refine ⟨.int .i64 (k : Int), fun W hW => quiet_ok ?_, hK _ ?_⟩
            · have q := HX.out W hW
              obtain ⟨m0, m1, m2, _⟩ := q
              have q2 := HY.out W hW
              obtain ⟨z0, z1, z2, _⟩ := q2
              have q3 := HZ.out W hW
              obtain ⟨y0, y1, y2, _⟩ := q3
              go_simp
              all_goals (try omega)
            clear hK K
            simp only [Act.put, List.setIfInBounds_toArray, List.set_cons_succ, List.set_cons_zero]
            refine wpQuiet_step (fun K hK => ?_)
            rw [if_pos (by rfl)]
            refine ⟨.int .i64 ((k : Int) + 1), fun W hW => quiet_ok ?_, hK _ ?_⟩
            · have q := HX.out W hW
              obtain ⟨m0, m1, m2, _⟩ := q
              have q2 := HY.out W hW
              obtain ⟨z0, z1, z2, _⟩ := q2
              have q3 := HZ.out W hW
              obtain ⟨y0, y1, y2, _⟩ := q3
              go_simp
              all_goals (try omega)
            clear hK K
            simp only [Act.put, List.setIfInBounds_toArray, List.set_cons_succ, List.set_cons_zero]
            refine wpQuiet_step (fun K hK => ?_)
            rw [if_pos (by rfl)]
            refine ⟨.slice (some ⟨b, o, none⟩) L.length cap, fun W hW => quiet_ok ?_, hK _ ?_⟩
            · have q := HX.out W hW
              obtain ⟨m0, m1, m2, _⟩ := q
              have q2 := HY.out W hW
              obtain ⟨z0, z1, z2, _⟩ := q2
              have q3 := HZ.out W hW
              obtain ⟨y0, y1, y2, _⟩ := q3
              go_simp
              all_goals (try omega)
            clear hK K
            simp only [Act.put, List.setIfInBounds_toArray, List.set_cons_succ, List.set_cons_zero]
            refine wpQuiet_step (fun K hK => ?_)
            rw [if_pos (by rfl)]
            refine ⟨.int .i64 (L.length : Int), fun W hW => quiet_ok ?_, hK _ ?_⟩
            · have q := HX.out W hW
              obtain ⟨m0, m1, m2, _⟩ := q
              have q2 := HY.out W hW
              obtain ⟨z0, z1, z2, _⟩ := q2
              have q3 := HZ.out W hW
              obtain ⟨y0, y1, y2, _⟩ := q3
              go_simp
              all_goals (try omega)
            clear hK K
            simp only [Act.put, List.setIfInBounds_toArray, List.set_cons_succ, List.set_cons_zero]
            refine wpQuiet_step (fun K hK => ?_)
            rw [if_pos (by rfl)]
            refine ⟨.int .i64 (m : Int), fun W hW => quiet_ok ?_, hK _ ?_⟩
            · have q := HX.out W hW
              obtain ⟨m0, m1, m2, _⟩ := q
              have q2 := HY.out W hW
              obtain ⟨z0, z1, z2, _⟩ := q2
              have q3 := HZ.out W hW
              obtain ⟨y0, y1, y2, _⟩ := q3
              go_simp
              all_goals (try omega)
            clear hK K
            simp only [Act.put, List.setIfInBounds_toArray, List.set_cons_succ, List.set_cons_zero]
            refine wpQuiet_step (fun K hK => ?_)
            rw [if_pos (by rfl)]
            refine ⟨.pointer (some ⟨b, o + m * 3, none⟩), fun W hW => quiet_ok ?_, hK _ ?_⟩
            · have q := HX.out W hW
              obtain ⟨m0, m1, m2, _⟩ := q
              have q2 := HY.out W hW
              obtain ⟨z0, z1, z2, _⟩ := q2
              have q3 := HZ.out W hW
              obtain ⟨y0, y1, y2, _⟩ := q3
              go_simp
              all_goals (try omega)
            clear hK K
            simp only [Act.put, List.setIfInBounds_toArray, List.set_cons_succ, List.set_cons_zero]
            refine wpQuiet_step (fun K hK => ?_)
            rw [if_pos (by rfl)]
            refine ⟨.pointer (some ⟨b, o + m * 3, none⟩), fun W hW => quiet_ok ?_, hK _ ?_⟩
            · have q := HX.out W hW
              obtain ⟨m0, m1, m2, _⟩ := q
              have q2 := HY.out W hW
              obtain ⟨z0, z1, z2, _⟩ := q2
              have q3 := HZ.out W hW
              obtain ⟨y0, y1, y2, _⟩ := q3
              go_simp
              all_goals (try omega)
            clear hK K
            simp only [Act.put, List.setIfInBounds_toArray, List.set_cons_succ, List.set_cons_zero]
            refine wpQuiet_step (fun K hK => ?_)
            rw [if_pos (by rfl)]
            refine ⟨.string ⟨z.1.toArray⟩, fun W hW => quiet_ok ?_, hK _ ?_⟩
            · have q := HX.out W hW
              obtain ⟨m0, m1, m2, _⟩ := q
              have q2 := HY.out W hW
              obtain ⟨z0, z1, z2, _⟩ := q2
              have q3 := HZ.out W hW
              obtain ⟨y0, y1, y2, _⟩ := q3
              go_simp
              all_goals (try omega)
            clear hK K
            simp only [Act.put, List.setIfInBounds_toArray, List.set_cons_succ, List.set_cons_zero]
            refine wpQuiet_step (fun K hK => ?_)
            rw [if_pos (by rfl)]
            refine ⟨.bool true, fun W hW => quiet_ok ?_, hK _ ?_⟩
            · have q := HX.out W hW
              obtain ⟨m0, m1, m2, _⟩ := q
              have q2 := HY.out W hW
              obtain ⟨z0, z1, z2, _⟩ := q2
              have q3 := HZ.out W hW
              obtain ⟨y0, y1, y2, _⟩ := q3
              go_simp
              all_goals (try omega)
            clear hK K
            simp only [Act.put, List.setIfInBounds_toArray, List.set_cons_succ, List.set_cons_zero]
            refine wpQuiet_step (fun K hK => ?_)
            rw [if_pos (by rfl)]
            refine ⟨.bool true, fun W hW => quiet_ok ?_, hK _ ?_⟩
            · have q := HX.out W hW
              obtain ⟨m0, m1, m2, _⟩ := q
              have q2 := HY.out W hW
              obtain ⟨z0, z1, z2, _⟩ := q2
              have q3 := HZ.out W hW
              obtain ⟨y0, y1, y2, _⟩ := q3
              go_simp
              all_goals (try omega)
            clear hK K
            simp only [Act.put, List.setIfInBounds_toArray, List.set_cons_succ, List.set_cons_zero]
            refine wpQuiet_step (fun K hK => ?_)
            rw [if_pos (by rfl)]
            refine ⟨.bool u74, fun W hW => quiet_ok ?_, hK _ ?_⟩
            · have q := HX.out W hW
              obtain ⟨m0, m1, m2, _⟩ := q
              have q2 := HY.out W hW
              obtain ⟨z0, z1, z2, _⟩ := q2
              have q3 := HZ.out W hW
              obtain ⟨y0, y1, y2, _⟩ := q3
              have v74 := HU74.out
              go_simp
              all_goals (try omega)
            clear hK K
            simp only [Act.put, List.setIfInBounds_toArray, List.set_cons_succ, List.set_cons_zero]
            refine BigFrame.wpQuiet_skip (by show (some u74 == some false) = false; rw [HU74.out]; rfl) ?_
            simp only [Act.put, List.setIfInBounds_toArray, List.set_cons_succ, List.set_cons_zero]
            refine BigFrame.wpQuiet_skip (by show (some u74 == some false) = false; rw [HU74.out]; rfl) ?_
            simp only [Act.put, List.setIfInBounds_toArray, List.set_cons_succ, List.set_cons_zero]
            refine BigFrame.wpQuiet_skip (by show (some u74 == some false) = false; rw [HU74.out]; rfl) ?_
            simp only [Act.put, List.setIfInBounds_toArray, List.set_cons_succ, List.set_cons_zero]
            refine BigFrame.wpQuiet_skip (by show (some u74 == some false) = false; rw [HU74.out]; rfl) ?_
            simp only [Act.put, List.setIfInBounds_toArray, List.set_cons_succ, List.set_cons_zero]
            refine wpQuiet_step (fun K hK => ?_)
            rw [if_pos (by rfl)]
            refine ⟨.bool true, fun W hW => quiet_ok ?_, hK _ ?_⟩
            · have q := HX.out W hW
              obtain ⟨m0, m1, m2, _⟩ := q
              have q2 := HY.out W hW
              obtain ⟨z0, z1, z2, _⟩ := q2
              have q3 := HZ.out W hW
              obtain ⟨y0, y1, y2, _⟩ := q3
              have v74 := HU74.out
              go_simp
              all_goals (try omega)
            clear hK K
            simp only [Act.put, List.setIfInBounds_toArray, List.set_cons_succ, List.set_cons_zero]
            refine wpQuiet_nil ?_
            intro W hW
            have hbW := HBW.out W hW
            go_wp2_with fail
            go_ret
            exact ⟨ret_bool HF.out.symm, hbW⟩
          have e4 : (x.2.1 == z.1) = true := by simpa using h4
          have e4' : (x.2.1 != z.1) = false := by simpa using h4
          by_cases h5 : x.2.2 = []
          · have HF : Hid (r = false) := HBAD.out (HG.out.trans (by rw [h5]; simp))
            have HE5 : Hid (x.2.2.length = 0) := by show _ = 0; rw [h5]; rfl
            clear HBAD HG h1 h2 h4 h5 HUPA HGB
            go_wp2_with fail
            rw [HW0.out, HGX.out]
            refine wp_region_quiet (C := fun W => Below W0.heap.size W0 W) (by kernel_rfl) (by kernel_rfl) hbd ?_
            refine wpQuiet_step (fun K hK => ?_)
            rw [if_pos (by rfl)]
            refine ⟨.pointer (some ⟨gx, 0, none⟩), fun W hW => quiet_ok ?_, hK _ ?_⟩
            · have q := HX.out W hW
              obtain ⟨m0, m1, m2, _⟩ := q
              have q2 := HY.out W hW
              obtain ⟨z0, z1, z2, _⟩ := q2
              have q3 := HZ.out W hW
              obtain ⟨y0, y1, y2, _⟩ := q3
              have e5 := HE5.out
              go_simp
              all_goals (try omega)
            clear hK K
            simp only [Act.put, List.setIfInBounds_toArray, List.set_cons_succ, List.set_cons_zero]
            refine wpQuiet_step (fun K hK => ?_)
            rw [if_pos (by rfl)]
            refine ⟨.string ⟨x.1.toArray⟩, fun W hW => quiet_ok ?_, hK _ ?_⟩
            · have q := HX.out W hW
              obtain ⟨m0, m1, m2, _⟩ := q
              have q2 := HY.out W hW
              obtain ⟨z0, z1, z2, _⟩ := q2
              have q3 := HZ.out W hW
              obtain ⟨y0, y1, y2, _⟩ := q3
              have e5 := HE5.out
              go_simp
              all_goals (try omega)
            clear hK K
            simp only [Act.put, List.setIfInBounds_toArray, List.set_cons_succ, List.set_cons_zero]
            refine wpQuiet_step (fun K hK => ?_)
            rw [if_pos (by rfl)]
            refine ⟨.bool true, fun W hW => quiet_call (f := 18) (args := #[.string ⟨x.1.toArray⟩]) ?_ ?_, hK _ ?_⟩
            · go_simp
            · exact (HN.out W).mono fun e w'' h => ⟨h.1, HTR.out _ _ hW h.2⟩
            clear hK K
            simp only [Act.put, List.setIfInBounds_toArray, List.set_cons_succ, List.set_cons_zero]
            refine wpQuiet_step (fun K hK => ?_)
            rw [if_pos (by rfl)]
            refine ⟨.bool false, fun W hW => quiet_ok ?_, hK _ ?_⟩
            · have q := HX.out W hW
              obtain ⟨m0, m1, m2, _⟩ := q
              have q2 := HY.out W hW
              obtain ⟨z0, z1, z2, _⟩ := q2
              have q3 := HZ.out W hW
              obtain ⟨y0, y1, y2, _⟩ := q3
              have e5 := HE5.out
              go_simp
              all_goals (try omega)
            clear hK K
            simp only [Act.put, List.setIfInBounds_toArray, List.set_cons_succ, List.set_cons_zero]
            refine wpQuiet_step (fun K hK => ?_)
            rw [if_pos (by rfl)]
            refine ⟨.bool false, fun W hW => quiet_ok ?_, hK _ ?_⟩
            · have q := HX.out W hW
              obtain ⟨m0, m1, m2, _⟩ := q
              have q2 := HY.out W hW
              obtain ⟨z0, z1, z2, _⟩ := q2
              have q3 := HZ.out W hW
              obtain ⟨y0, y1, y2, _⟩ := q3
              have e5 := HE5.out
              go_simp
              all_goals (try omega)
            clear hK K
            simp only [Act.put, List.setIfInBounds_toArray, List.set_cons_succ, List.set_cons_zero]
            refine wpQuiet_step (fun K hK => ?_)
            rw [if_pos (by rfl)]
            refine ⟨.pointer (some ⟨gx, 0, none⟩), fun W hW => quiet_ok ?_, hK _ ?_⟩
            · have q := HX.out W hW
              obtain ⟨m0, m1, m2, _⟩ := q
              have q2 := HY.out W hW
              obtain ⟨z0, z1, z2, _⟩ := q2
              have q3 := HZ.out W hW
              obtain ⟨y0, y1, y2, _⟩ := q3
              have e5 := HE5.out
              go_simp
              all_goals (try omega)
            clear hK K
            simp only [Act.put, List.setIfInBounds_toArray, List.set_cons_succ, List.set_cons_zero]
            refine wpQuiet_step (fun K hK => ?_)
            rw [if_pos (by rfl)]
            refine ⟨.string ⟨x.1.toArray⟩, fun W hW => quiet_ok ?_, hK _ ?_⟩
            · have q := HX.out W hW
              obtain ⟨m0, m1, m2, _⟩ := q
              have q2 := HY.out W hW
              obtain ⟨z0, z1, z2, _⟩ := q2
              have q3 := HZ.out W hW
              obtain ⟨y0, y1, y2, _⟩ := q3
              have e5 := HE5.out
              go_simp
              all_goals (try omega)
            clear hK K
            simp only [Act.put, List.setIfInBounds_toArray, List.set_cons_succ, List.set_cons_zero]
            refine wpQuiet_step (fun K hK => ?_)
            rw [if_pos (by rfl)]
            refine ⟨.string ⟨ap.toArray⟩, fun W hW => quiet_ok ?_, hK _ ?_⟩
            · have q := HX.out W hW
              obtain ⟨m0, m1, m2, _⟩ := q
              have q2 := HY.out W hW
              obtain ⟨z0, z1, z2, _⟩ := q2
              have q3 := HZ.out W hW
              obtain ⟨y0, y1, y2, _⟩ := q3
              have e5 := HE5.out
              go_simp
              all_goals (try omega)
            clear hK K
            simp only [Act.put, List.setIfInBounds_toArray, List.set_cons_succ, List.set_cons_zero]
            refine wpQuiet_step (fun K hK => ?_)
            rw [if_pos (by rfl)]
            refine ⟨.bool true, fun W hW => quiet_call (f := 19) (args := #[.string ⟨x.1.toArray⟩, .string ⟨ap.toArray⟩]) ?_ ?_, hK _ ?_⟩
            · go_simp
            · exact (HLB.out W).mono fun e w'' h => ⟨h.1, HTR.out _ _ hW h.2⟩
            clear hK K
            simp only [Act.put, List.setIfInBounds_toArray, List.set_cons_succ, List.set_cons_zero]
            refine wpQuiet_step (fun K hK => ?_)
            rw [if_pos (by rfl)]
            refine ⟨.bool false, fun W hW => quiet_ok ?_, hK _ ?_⟩
            · have q := HX.out W hW
              obtain ⟨m0, m1, m2, _⟩ := q
              have q2 := HY.out W hW
              obtain ⟨z0, z1, z2, _⟩ := q2
              have q3 := HZ.out W hW
              obtain ⟨y0, y1, y2, _⟩ := q3
              have e5 := HE5.out
              go_simp
              all_goals (try omega)
            clear hK K
            simp only [Act.put, List.setIfInBounds_toArray, List.set_cons_succ, List.set_cons_zero]
            refine wpQuiet_step (fun K hK => ?_)
            rw [if_pos (by rfl)]
            refine ⟨.bool false, fun W hW => quiet_ok ?_, hK _ ?_⟩
            · have q := HX.out W hW
              obtain ⟨m0, m1, m2, _⟩ := q
              have q2 := HY.out W hW
              obtain ⟨z0, z1, z2, _⟩ := q2
              have q3 := HZ.out W hW
              obtain ⟨y0, y1, y2, _⟩ := q3
              have e5 := HE5.out
              go_simp
              all_goals (try omega)
            clear hK K
            simp only [Act.put, List.setIfInBounds_toArray, List.set_cons_succ, List.set_cons_zero]
            refine wpQuiet_step (fun K hK => ?_)
            rw [if_pos (by rfl)]
            refine ⟨.bool false, fun W hW => quiet_ok ?_, hK _ ?_⟩
            · have q := HX.out W hW
              obtain ⟨m0, m1, m2, _⟩ := q
              have q2 := HY.out W hW
              obtain ⟨z0, z1, z2, _⟩ := q2
              have q3 := HZ.out W hW
              obtain ⟨y0, y1, y2, _⟩ := q3
              have e5 := HE5.out
              go_simp
              all_goals (try omega)
            clear hK K
            simp only [Act.put, List.setIfInBounds_toArray, List.set_cons_succ, List.set_cons_zero]
            refine wpQuiet_step (fun K hK => ?_)
            rw [if_pos (by rfl)]
            refine ⟨.int .i64 (k : Int), fun W hW => quiet_ok ?_, hK _ ?_⟩
            · have q := HX.out W hW
              obtain ⟨m0, m1, m2, _⟩ := q
              have q2 := HY.out W hW
              obtain ⟨z0, z1, z2, _⟩ := q2
              have q3 := HZ.out W hW
              obtain ⟨y0, y1, y2, _⟩ := q3
              have e5 := HE5.out
              go_simp
              all_goals (try omega)
            clear hK K
            simp only [Act.put, List.setIfInBounds_toArray, List.set_cons_succ, List.set_cons_zero]
            refine wpQuiet_step (fun K hK => ?_)
            rw [if_pos (by rfl)]
            refine ⟨.bool true, fun W hW => quiet_ok ?_, hK _ ?_⟩
            · have q := HX.out W hW
              obtain ⟨m0, m1, m2, _⟩ := q
              have q2 := HY.out W hW
              obtain ⟨z0, z1, z2, _⟩ := q2
              have q3 := HZ.out W hW
              obtain ⟨y0, y1, y2, _⟩ := q3
              have e5 := HE5.out
              go_simp
              all_goals (try omega)
            clear hK K
            simp only [Act.put, List.setIfInBounds_toArray, List.set_cons_succ, List.set_cons_zero]
            refine wpQuiet_step (fun K hK => ?_)
            rw [if_pos (by rfl)]
            refine ⟨.bool true, fun W hW => quiet_ok ?_, hK _ ?_⟩
            · have q := HX.out W hW
              obtain ⟨m0, m1, m2, _⟩ := q
              have q2 := HY.out W hW
              obtain ⟨z0, z1, z2, _⟩ := q2
              have q3 := HZ.out W hW
              obtain ⟨y0, y1, y2, _⟩ := q3
              have e5 := HE5.out
              go_simp
              all_goals (try omega)
            clear hK K
            simp only [Act.put, List.setIfInBounds_toArray, List.set_cons_succ, List.set_cons_zero]
            refine wpQuiet_step (fun K hK => ?_)
            rw [if_pos (by rfl)]
            refine ⟨.slice (some ⟨b, o, none⟩) L.length cap, fun W hW => quiet_ok ?_, hK _ ?_⟩
            · have q := HX.out W hW
              obtain ⟨m0, m1, m2, _⟩ := q
              have q2 := HY.out W hW
              obtain ⟨z0, z1, z2, _⟩ := q2
              have q3 := HZ.out W hW
              obtain ⟨y0, y1, y2, _⟩ := q3
              have e5 := HE5.out
              go_simp
              all_goals (try omega)
            clear hK K
            simp only [Act.put, List.setIfInBounds_toArray, List.set_cons_succ, List.set_cons_zero]
            refine wpQuiet_step (fun K hK => ?_)
            rw [if_pos (by rfl)]
            refine ⟨.int .i64 (k : Int), fun W hW => quiet_ok ?_, hK _ ?_⟩
            · have q := HX.out W hW
              obtain ⟨m0, m1, m2, _⟩ := q
              have q2 := HY.out W hW
              obtain ⟨z0, z1, z2, _⟩ := q2
              have q3 := HZ.out W hW
              obtain ⟨y0, y1, y2, _⟩ := q3
              have e5 := HE5.out
              go_simp
              all_goals (try omega)
            clear hK K
            simp only [Act.put, List.setIfInBounds_toArray, List.set_cons_succ, List.set_cons_zero]
            refine wpQuiet_step (fun K hK => ?_)
            rw [if_pos (by rfl)]
            refine ⟨.int .i64 (j : Int), fun W hW => quiet_ok ?_, hK _ ?_⟩
            · have q := HX.out W hW
              obtain ⟨m0, m1, m2, _⟩ := q
              have q2 := HY.out W hW
              obtain ⟨z0, z1, z2, _⟩ := q2
              have q3 := HZ.out W hW
              obtain ⟨y0, y1, y2, _⟩ := q3
              have e5 := HE5.out
              go_simp
              all_goals (try omega)
            clear hK K
            simp only [Act.put, List.setIfInBounds_toArray, List.set_cons_succ, List.set_cons_zero]
            refine wpQuiet_step (fun K hK => ?_)
            rw [if_pos (by rfl)]
            refine ⟨.pointer (some ⟨b, o + j * 3, none⟩), fun W hW => quiet_ok ?_, hK _ ?_⟩
            · have q := HX.out W hW
              obtain ⟨m0, m1, m2, _⟩ := q
              have q2 := HY.out W hW
              obtain ⟨z0, z1, z2, _⟩ := q2
              have q3 := HZ.out W hW
              obtain ⟨y0, y1, y2, _⟩ := q3
              have e5 := HE5.out
              go_simp
              all_goals (try omega)
            clear hK K
            simp only [Act.put, List.setIfInBounds_toArray, List.set_cons_succ, List.set_cons_zero]
            refine wpQuiet_step (fun K hK => ?_)
            rw [if_pos (by rfl)]
            refine ⟨.pointer (some ⟨b, o + j * 3, none⟩), fun W hW => quiet_ok ?_, hK _ ?_⟩
            · have q := HX.out W hW
              obtain ⟨m0, m1, m2, _⟩ := q
              have q2 := HY.out W hW
              obtain ⟨z0, z1, z2, _⟩ := q2
              have q3 := HZ.out W hW
              obtain ⟨y0, y1, y2, _⟩ := q3
              have e5 := HE5.out
              go_simp
              all_goals (try omega)
            clear hK K
            simp only [Act.put, List.setIfInBounds_toArray, List.set_cons_succ, List.set_cons_zero]
            refine wpQuiet_step (fun K hK => ?_)
            rw [if_pos (by rfl)]
            refine ⟨.string ⟨y.1.toArray⟩, fun W hW => quiet_ok ?_, hK _ ?_⟩
            · have q := HX.out W hW
              obtain ⟨m0, m1, m2, _⟩ := q
              have q2 := HY.out W hW
              obtain ⟨z0, z1, z2, _⟩ := q2
              have q3 := HZ.out W hW
              obtain ⟨y0, y1, y2, _⟩ := q3
              have e5 := HE5.out
              go_simp
              all_goals (try omega)
            clear hK K
            simp only [Act.put, List.setIfInBounds_toArray, List.set_cons_succ, List.set_cons_zero]
            refine wpQuiet_step (fun K hK => ?_)
            rw [if_pos (by rfl)]
            refine ⟨.pointer (some ⟨gx, 0, none⟩), fun W hW => quiet_ok ?_, hK _ ?_⟩
            · have q := HX.out W hW
              obtain ⟨m0, m1, m2, _⟩ := q
              have q2 := HY.out W hW
              obtain ⟨z0, z1, z2, _⟩ := q2
              have q3 := HZ.out W hW
              obtain ⟨y0, y1, y2, _⟩ := q3
              have e5 := HE5.out
              go_simp
              all_goals (try omega)
            clear hK K
            simp only [Act.put, List.setIfInBounds_toArray, List.set_cons_succ, List.set_cons_zero]
            refine wpQuiet_step (fun K hK => ?_)
            rw [if_pos (by rfl)]
            refine ⟨.string ⟨x.1.toArray⟩, fun W hW => quiet_ok ?_, hK _ ?_⟩
            · have q := HX.out W hW
              obtain ⟨m0, m1, m2, _⟩ := q
              have q2 := HY.out W hW
              obtain ⟨z0, z1, z2, _⟩ := q2
              have q3 := HZ.out W hW
              obtain ⟨y0, y1, y2, _⟩ := q3
              have e5 := HE5.out
              go_simp
              all_goals (try omega)
            clear hK K
            simp only [Act.put, List.setIfInBounds_toArray, List.set_cons_succ, List.set_cons_zero]
            refine wpQuiet_step (fun K hK => ?_)
            rw [if_pos (by rfl)]
            refine ⟨.int .i64 c, fun W hW => quiet_call (f := 43) (args := #[.string ⟨y.1.toArray⟩, .string ⟨x.1.toArray⟩]) ?_ ?_, hK _ ?_⟩
            · go_simp
            · exact (HCM.out W).mono fun e w'' h => ⟨h.1, HTR.out _ _ hW h.2⟩
            clear hK K
            simp only [Act.put, List.setIfInBounds_toArray, List.set_cons_succ, List.set_cons_zero]
            refine wpQuiet_step (fun K hK => ?_)
            rw [if_pos (by rfl)]
            refine ⟨.bool false, fun W hW => quiet_ok ?_, hK _ ?_⟩
            · have q := HX.out W hW
              obtain ⟨m0, m1, m2, _⟩ := q
              have q2 := HY.out W hW
              obtain ⟨z0, z1, z2, _⟩ := q2
              have q3 := HZ.out W hW
              obtain ⟨y0, y1, y2, _⟩ := q3
              have e5 := HE5.out
              go_simp
              all_goals (try omega)
            clear hK K
            simp only [Act.put, List.setIfInBounds_toArray, List.set_cons_succ, List.set_cons_zero]
            refine wpQuiet_step (fun K hK => ?_)
            rw [if_pos (by rfl)]
            refine ⟨.bool false, fun W hW => quiet_ok ?_, hK _ ?_⟩
            · have q := HX.out W hW
              obtain ⟨m0, m1, m2, _⟩ := q
              have q2 := HY.out W hW
              obtain ⟨z0, z1, z2, _⟩ := q2
              have q3 := HZ.out W hW
              obtain ⟨y0, y1, y2, _⟩ := q3
              have e5 := HE5.out
              go_simp
              all_goals (try omega)
            clear hK K
            simp only [Act.put, List.setIfInBounds_toArray, List.set_cons_succ, List.set_cons_zero]
            refine wpQuiet_step (fun K hK => ?_)
            rw [if_pos (by rfl)]
            refine ⟨.bool false, fun W hW => quiet_ok ?_, hK _ ?_⟩
            · have q := HX.out W hW
              obtain ⟨m0, m1, m2, _⟩ := q
              have q2 := HY.out W hW
              obtain ⟨z0, z1, z2, _⟩ := q2
              have q3 := HZ.out W hW
              obtain ⟨y0, y1, y2, _⟩ := q3
              have e5 := HE5.out
              go_simp
              all_goals (try omega)
            clear hK K
            simp only [Act.put, List.setIfInBounds_toArray, List.set_cons_succ, List.set_cons_zero]
            refine wpQuiet_step (fun K hK => ?_)
            rw [if_pos (by rfl)]
            refine ⟨.bool false, fun W hW => quiet_ok ?_, hK _ ?_⟩
            · have q := HX.out W hW
              obtain ⟨m0, m1, m2, _⟩ := q
              have q2 := HY.out W hW
              obtain ⟨z0, z1, z2, _⟩ := q2
              have q3 := HZ.out W hW
              obtain ⟨y0, y1, y2, _⟩ := q3
              have e5 := HE5.out
              go_simp
              all_goals (try omega)
            clear hK K
            simp only [Act.put, List.setIfInBounds_toArray, List.set_cons_succ, List.set_cons_zero]
            refine wpQuiet_step (fun K hK => ?_)
            rw [if_pos (by rfl)]
            refine ⟨.pointer (some ⟨gx, 1, none⟩), fun W hW => quiet_ok ?_, hK _ ?_⟩
            · have q := HX.out W hW
              obtain ⟨m0, m1, m2, _⟩ := q
              have q2 := HY.out W hW
              obtain ⟨z0, z1, z2, _⟩ := q2
              have q3 := HZ.out W hW
              obtain ⟨y0, y1, y2, _⟩ := q3
              have e5 := HE5.out
              go_simp
              all_goals (try omega)
            clear hK K
            simp only [Act.put, List.setIfInBounds_toArray, List.set_cons_succ, List.set_cons_zero]
            refine wpQuiet_step (fun K hK => ?_)
            rw [if_pos (by rfl)]
            refine ⟨.string ⟨x.2.1.toArray⟩, fun W hW => quiet_ok ?_, hK _ ?_⟩
            · have q := HX.out W hW
              obtain ⟨m0, m1, m2, _⟩ := q
              have q2 := HY.out W hW
              obtain ⟨z0, z1, z2, _⟩ := q2
              have q3 := HZ.out W hW
              obtain ⟨y0, y1, y2, _⟩ := q3
              have e5 := HE5.out
              go_simp
              all_goals (try omega)
            clear hK K
            simp only [Act.put, List.setIfInBounds_toArray, List.set_cons_succ, List.set_cons_zero]
            refine wpQuiet_step (fun K hK => ?_)
            rw [if_pos (by rfl)]
            refine ⟨.slice (some ⟨b, o, none⟩) L.length cap, fun W hW => quiet_ok ?_, hK _ ?_⟩
            · have q := HX.out W hW
              obtain ⟨m0, m1, m2, _⟩ := q
              have q2 := HY.out W hW
              obtain ⟨z0, z1, z2, _⟩ := q2
              have q3 := HZ.out W hW
              obtain ⟨y0, y1, y2, _⟩ := q3
              have e5 := HE5.out
              go_simp
              all_goals (try omega)
            clear hK K
            simp only [Act.put, List.setIfInBounds_toArray, List.set_cons_succ, List.set_cons_zero]
            refine wpQuiet_step (fun K hK => ?_)
            rw [if_pos (by rfl)]
            refine ⟨.int .i64 (k : Int), fun W hW => quiet_ok ?_, hK _ ?_⟩
            · have q := HX.out W hW
              obtain ⟨m0, m1, m2, _⟩ := q
              have q2 := HY.out W hW
              obtain ⟨z0, z1, z2, _⟩ := q2
              have q3 := HZ.out W hW
              obtain ⟨y0, y1, y2, _⟩ := q3
              have e5 := HE5.out
              go_simp
              all_goals (try omega)
            clear hK K
            simp only [Act.put, List.setIfInBounds_toArray, List.set_cons_succ, List.set_cons_zero]
            refine wpQuiet_step (fun K hK => ?_)
            rw [if_pos (by rfl)]
            refine ⟨.int .i64 ((k : Int) + 1), fun W hW => quiet_ok ?_, hK _ ?_⟩
            · have q := HX.out W hW
              obtain ⟨m0, m1, m2, _⟩ := q
              have q2 := HY.out W hW
              obtain ⟨z0, z1, z2, _⟩ := q2
              have q3 := HZ.out W hW
              obtain ⟨y0, y1, y2, _⟩ := q3
              have e5 := HE5.out
              go_simp
              all_goals (try omega)
            clear hK K
            simp only [Act.put, List.setIfInBounds_toArray, List.set_cons_succ, List.set_cons_zero]
            refine wpQuiet_step (fun K hK => ?_)
            rw [if_pos (by rfl)]
            refine ⟨.slice (some ⟨b, o, none⟩) L.length cap, fun W hW => quiet_ok ?_, hK _ ?_⟩
            · have q := HX.out W hW
              obtain ⟨m0, m1, m2, _⟩ := q
              have q2 := HY.out W hW
              obtain ⟨z0, z1, z2, _⟩ := q2
              have q3 := HZ.out W hW
              obtain ⟨y0, y1, y2, _⟩ := q3
              have e5 := HE5.out
              go_simp
              all_goals (try omega)
            clear hK K
            simp only [Act.put, List.setIfInBounds_toArray, List.set_cons_succ, List.set_cons_zero]
            refine wpQuiet_step (fun K hK => ?_)
            rw [if_pos (by rfl)]
            refine ⟨.int .i64 (L.length : Int), fun W hW => quiet_ok ?_, hK _ ?_⟩
            · have q := HX.out W hW
              obtain ⟨m0, m1, m2, _⟩ := q
              have q2 := HY.out W hW
              obtain ⟨z0, z1, z2, _⟩ := q2
              have q3 := HZ.out W hW
              obtain ⟨y0, y1, y2, _⟩ := q3
              have e5 := HE5.out
              go_simp
              all_goals (try omega)
            clear hK K
            simp only [Act.put, List.setIfInBounds_toArray, List.set_cons_succ, List.set_cons_zero]
            refine wpQuiet_step (fun K hK => ?_)
            rw [if_pos (by rfl)]
            refine ⟨.int .i64 (m : Int), fun W hW => quiet_ok ?_, hK _ ?_⟩
            · have q := HX.out W hW
              obtain ⟨m0, m1, m2, _⟩ := q
              have q2 := HY.out W hW
              obtain ⟨z0, z1, z2, _⟩ := q2
              have q3 := HZ.out W hW
              obtain ⟨y0, y1, y2, _⟩ := q3
              have e5 := HE5.out
              go_simp
              all_goals (try omega)
            clear hK K
            simp only [Act.put, List.setIfInBounds_toArray, List.set_cons_succ, List.set_cons_zero]
            refine wpQuiet_step (fun K hK => ?_)
            rw [if_pos (by rfl)]
            refine ⟨.pointer (some ⟨b, o + m * 3, none⟩), fun W hW => quiet_ok ?_, hK _ ?_⟩
            · have q := HX.out W hW
              obtain ⟨m0, m1, m2, _⟩ := q
              have q2 := HY.out W hW
              obtain ⟨z0, z1, z2, _⟩ := q2
              have q3 := HZ.out W hW
              obtain ⟨y0, y1, y2, _⟩ := q3
              have e5 := HE5.out
              go_simp
              all_goals (try omega)
            clear hK K
            simp only [Act.put, List.setIfInBounds_toArray, List.set_cons_succ, List.set_cons_zero]
            refine wpQuiet_step (fun K hK => ?_)
            rw [if_pos (by rfl)]
            refine ⟨.pointer (some ⟨b, o + m * 3, none⟩), fun W hW => quiet_ok ?_, hK _ ?_⟩
            · have q := HX.out W hW
              obtain ⟨m0, m1, m2, _⟩ := q
              have q2 := HY.out W hW
              obtain ⟨z0, z1, z2, _⟩ := q2
              have q3 := HZ.out W hW
              obtain ⟨y0, y1, y2, _⟩ := q3
              have e5 := HE5.out
              go_simp
              all_goals (try omega)
            clear hK K
            simp only [Act.put, List.setIfInBounds_toArray, List.set_cons_succ, List.set_cons_zero]
            refine wpQuiet_step (fun K hK => ?_)
            rw [if_pos (by rfl)]
            refine ⟨.string ⟨z.1.toArray⟩, fun W hW => quiet_ok ?_, hK _ ?_⟩
            · have q := HX.out W hW
              obtain ⟨m0, m1, m2, _⟩ := q
              have q2 := HY.out W hW
              obtain ⟨z0, z1, z2, _⟩ := q2
              have q3 := HZ.out W hW
              obtain ⟨y0, y1, y2, _⟩ := q3
              have e5 := HE5.out
              go_simp
              all_goals (try omega)
            clear hK K
            simp only [Act.put, List.setIfInBounds_toArray, List.set_cons_succ, List.set_cons_zero]
            refine wpQuiet_step (fun K hK => ?_)
            rw [if_pos (by rfl)]
            refine ⟨.bool false, fun W hW => quiet_ok ?_, hK _ ?_⟩
            · have q := HX.out W hW
              obtain ⟨m0, m1, m2, _⟩ := q
              have q2 := HY.out W hW
              obtain ⟨z0, z1, z2, _⟩ := q2
              have q3 := HZ.out W hW
              obtain ⟨y0, y1, y2, _⟩ := q3
              have e5 := HE5.out
              go_simp
              all_goals (try omega)
            clear hK K
            simp only [Act.put, List.setIfInBounds_toArray, List.set_cons_succ, List.set_cons_zero]
            refine wpQuiet_step (fun K hK => ?_)
            rw [if_pos (by rfl)]
            refine ⟨.bool false, fun W hW => quiet_ok ?_, hK _ ?_⟩
            · have q := HX.out W hW
              obtain ⟨m0, m1, m2, _⟩ := q
              have q2 := HY.out W hW
              obtain ⟨z0, z1, z2, _⟩ := q2
              have q3 := HZ.out W hW
              obtain ⟨y0, y1, y2, _⟩ := q3
              have e5 := HE5.out
              go_simp
              all_goals (try omega)
            clear hK K
            simp only [Act.put, List.setIfInBounds_toArray, List.set_cons_succ, List.set_cons_zero]
            refine wpQuiet_step (fun K hK => ?_)
            rw [if_pos (by rfl)]
            refine ⟨.bool false, fun W hW => quiet_ok ?_, hK _ ?_⟩
            · have q := HX.out W hW
              obtain ⟨m0, m1, m2, _⟩ := q
              have q2 := HY.out W hW
              obtain ⟨z0, z1, z2, _⟩ := q2
              have q3 := HZ.out W hW
              obtain ⟨y0, y1, y2, _⟩ := q3
              have e5 := HE5.out
              go_simp
              all_goals (try omega)
            clear hK K
            simp only [Act.put, List.setIfInBounds_toArray, List.set_cons_succ, List.set_cons_zero]
            refine wpQuiet_step (fun K hK => ?_)
            rw [if_pos (by rfl)]
            refine ⟨.pointer (some ⟨gx, 2, none⟩), fun W hW => quiet_ok ?_, hK _ ?_⟩
            · have q := HX.out W hW
              obtain ⟨m0, m1, m2, _⟩ := q
              have q2 := HY.out W hW
              obtain ⟨z0, z1, z2, _⟩ := q2
              have q3 := HZ.out W hW
              obtain ⟨y0, y1, y2, _⟩ := q3
              have e5 := HE5.out
              go_simp
              all_goals (try omega)
            clear hK K
            simp only [Act.put, List.setIfInBounds_toArray, List.set_cons_succ, List.set_cons_zero]
            refine wpQuiet_step (fun K hK => ?_)
            rw [if_pos (by rfl)]
            refine ⟨.slice aa x.2.2.length ca, fun W hW => quiet_ok ?_, hK _ ?_⟩
            · have q := HX.out W hW
              obtain ⟨m0, m1, m2, _⟩ := q
              have q2 := HY.out W hW
              obtain ⟨z0, z1, z2, _⟩ := q2
              have q3 := HZ.out W hW
              obtain ⟨y0, y1, y2, _⟩ := q3
              have e5 := HE5.out
              go_simp
              all_goals (try omega)
            clear hK K
            simp only [Act.put, List.setIfInBounds_toArray, List.set_cons_succ, List.set_cons_zero]
            refine wpQuiet_step (fun K hK => ?_)
            rw [if_pos (by rfl)]
            refine ⟨.int .i64 (x.2.2.length : Int), fun W hW => quiet_ok ?_, hK _ ?_⟩
            · have q := HX.out W hW
              obtain ⟨m0, m1, m2, _⟩ := q
              have q2 := HY.out W hW
              obtain ⟨z0, z1, z2, _⟩ := q2
              have q3 := HZ.out W hW
              obtain ⟨y0, y1, y2, _⟩ := q3
              have e5 := HE5.out
              go_simp
              all_goals (try omega)
            clear hK K
            simp only [Act.put, List.setIfInBounds_toArray, List.set_cons_succ, List.set_cons_zero]
            refine wpQuiet_step (fun K hK => ?_)
            rw [if_pos (by rfl)]
            refine ⟨.bool true, fun W hW => quiet_ok ?_, hK _ ?_⟩
            · have q := HX.out W hW
              obtain ⟨m0, m1, m2, _⟩ := q
              have q2 := HY.out W hW
              obtain ⟨z0, z1, z2, _⟩ := q2
              have q3 := HZ.out W hW
              obtain ⟨y0, y1, y2, _⟩ := q3
              have e5 := HE5.out
              go_simp
              all_goals (try omega)
            clear hK K
            simp only [Act.put, List.setIfInBounds_toArray, List.set_cons_succ, List.set_cons_zero]
            refine wpQuiet_step (fun K hK => ?_)
            rw [if_pos (by rfl)]
            refine ⟨.bool true, fun W hW => quiet_ok ?_, hK _ ?_⟩
            · have q := HX.out W hW
              obtain ⟨m0, m1, m2, _⟩ := q
              have q2 := HY.out W hW
              obtain ⟨z0, z1, z2, _⟩ := q2
              have q3 := HZ.out W hW
              obtain ⟨y0, y1, y2, _⟩ := q3
              have e5 := HE5.out
              go_simp
              all_goals (try omega)
            clear hK K
            simp only [Act.put, List.setIfInBounds_toArray, List.set_cons_succ, List.set_cons_zero]
            refine wpQuiet_nil ?_
            intro W hW
            have hbW := HBW.out W hW
            go_wp2_with fail
            go_ret
            exact ⟨ret_bool HF.out.symm, hbW⟩
          · have e5 : 0 < x.2.2.length := List.length_pos_iff.2 h5
            have HBT : Hid (typesB x.2.2 = false → r = false) := fun h => HBAD.out (HG.out.trans (by rw [h]; simp))
            have HUP : Hid (typesB x.2.2 = true → ∀ j, j < k + 1 → gsB ap L j = true) := fun h => HUPA.out (HG.out.trans (by rw [h1, h2, h4, h, show (x.2.2 == []) = false by simpa using h5]; simp [HK.out]))
            have e5i : ¬ (x.2.2.length : Int) = 0 := by omega
            have e5b : ((x.2.2.length : Int) == 0) = false := beq_eq_false_iff_ne.2 (by omega)
            clear HBAD HG h1 h2 h4 h5 HUPA HGB
            go_wp2_with fail
            rw [HW0.out, HGX.out]
            refine wp_region_quiet (C := fun W => Below W0.heap.size W0 W) (by kernel_rfl) (by kernel_rfl) hbd ?_
            refine wpQuiet_step (fun K hK => ?_)
            rw [if_pos (by rfl)]
            refine ⟨.pointer (some ⟨gx, 0, none⟩), fun W hW => quiet_ok ?_, hK _ ?_⟩
            · have q := HX.out W hW
              obtain ⟨m0, m1, m2, _⟩ := q
              have q2 := HY.out W hW
              obtain ⟨z0, z1, z2, _⟩ := q2
              have q3 := HZ.out W hW
              obtain ⟨y0, y1, y2, _⟩ := q3
              go_simp
              all_goals (try omega)
            clear hK K
            simp only [Act.put, List.setIfInBounds_toArray, List.set_cons_succ, List.set_cons_zero]
            refine wpQuiet_step (fun K hK => ?_)
            rw [if_pos (by rfl)]
            refine ⟨.string ⟨x.1.toArray⟩, fun W hW => quiet_ok ?_, hK _ ?_⟩
            · have q := HX.out W hW
              obtain ⟨m0, m1, m2, _⟩ := q
              have q2 := HY.out W hW
              obtain ⟨z0, z1, z2, _⟩ := q2
              have q3 := HZ.out W hW
              obtain ⟨y0, y1, y2, _⟩ := q3
              go_simp
              all_goals (try omega)
            clear hK K
            simp only [Act.put, List.setIfInBounds_toArray, List.set_cons_succ, List.set_cons_zero]
            refine wpQuiet_step (fun K hK => ?_)
            rw [if_pos (by rfl)]
            refine ⟨.bool true, fun W hW => quiet_call (f := 18) (args := #[.string ⟨x.1.toArray⟩]) ?_ ?_, hK _ ?_⟩
            · go_simp
            · exact (HN.out W).mono fun e w'' h => ⟨h.1, HTR.out _ _ hW h.2⟩
            clear hK K
            simp only [Act.put, List.setIfInBounds_toArray, List.set_cons_succ, List.set_cons_zero]
            refine wpQuiet_step (fun K hK => ?_)
            rw [if_pos (by rfl)]
            refine ⟨.bool false, fun W hW => quiet_ok ?_, hK _ ?_⟩
            · have q := HX.out W hW
              obtain ⟨m0, m1, m2, _⟩ := q
              have q2 := HY.out W hW
              obtain ⟨z0, z1, z2, _⟩ := q2
              have q3 := HZ.out W hW
              obtain ⟨y0, y1, y2, _⟩ := q3
              go_simp
              all_goals (try omega)
            clear hK K
            simp only [Act.put, List.setIfInBounds_toArray, List.set_cons_succ, List.set_cons_zero]
            refine wpQuiet_step (fun K hK => ?_)
            rw [if_pos (by rfl)]
            refine ⟨.bool false, fun W hW => quiet_ok ?_, hK _ ?_⟩
            · have q := HX.out W hW
              obtain ⟨m0, m1, m2, _⟩ := q
              have q2 := HY.out W hW
              obtain ⟨z0, z1, z2, _⟩ := q2
              have q3 := HZ.out W hW
              obtain ⟨y0, y1, y2, _⟩ := q3
              go_simp
              all_goals (try omega)
            clear hK K
            simp only [Act.put, List.setIfInBounds_toArray, List.set_cons_succ, List.set_cons_zero]
            refine wpQuiet_step (fun K hK => ?_)
            rw [if_pos (by rfl)]
            refine ⟨.pointer (some ⟨gx, 0, none⟩), fun W hW => quiet_ok ?_, hK _ ?_⟩
            · have q := HX.out W hW
              obtain ⟨m0, m1, m2, _⟩ := q
              have q2 := HY.out W hW
              obtain ⟨z0, z1, z2, _⟩ := q2
              have q3 := HZ.out W hW
              obtain ⟨y0, y1, y2, _⟩ := q3
              go_simp
              all_goals (try omega)
            clear hK K
            simp only [Act.put, List.setIfInBounds_toArray, List.set_cons_succ, List.set_cons_zero]
            refine wpQuiet_step (fun K hK => ?_)
            rw [if_pos (by rfl)]
            refine ⟨.string ⟨x.1.toArray⟩, fun W hW => quiet_ok ?_, hK _ ?_⟩
            · have q := HX.out W hW
              obtain ⟨m0, m1, m2, _⟩ := q
              have q2 := HY.out W hW
              obtain ⟨z0, z1, z2, _⟩ := q2
              have q3 := HZ.out W hW
              obtain ⟨y0, y1, y2, _⟩ := q3
              go_simp
              all_goals (try omega)
            clear hK K
            simp only [Act.put, List.setIfInBounds_toArray, List.set_cons_succ, List.set_cons_zero]
            refine wpQuiet_step (fun K hK => ?_)
            rw [if_pos (by rfl)]
            refine ⟨.string ⟨ap.toArray⟩, fun W hW => quiet_ok ?_, hK _ ?_⟩
            · have q := HX.out W hW
              obtain ⟨m0, m1, m2, _⟩ := q
              have q2 := HY.out W hW
              obtain ⟨z0, z1, z2, _⟩ := q2
              have q3 := HZ.out W hW
              obtain ⟨y0, y1, y2, _⟩ := q3
              go_simp
              all_goals (try omega)
            clear hK K
            simp only [Act.put, List.setIfInBounds_toArray, List.set_cons_succ, List.set_cons_zero]
            refine wpQuiet_step (fun K hK => ?_)
            rw [if_pos (by rfl)]
            refine ⟨.bool true, fun W hW => quiet_call (f := 19) (args := #[.string ⟨x.1.toArray⟩, .string ⟨ap.toArray⟩]) ?_ ?_, hK _ ?_⟩
            · go_simp
            · exact (HLB.out W).mono fun e w'' h => ⟨h.1, HTR.out _ _ hW h.2⟩
            clear hK K
            simp only [Act.put, List.setIfInBounds_toArray, List.set_cons_succ, List.set_cons_zero]
            refine wpQuiet_step (fun K hK => ?_)
            rw [if_pos (by rfl)]
            refine ⟨.bool false, fun W hW => quiet_ok ?_, hK _ ?_⟩
            · have q := HX.out W hW
              obtain ⟨m0, m1, m2, _⟩ := q
              have q2 := HY.out W hW
              obtain ⟨z0, z1, z2, _⟩ := q2
              have q3 := HZ.out W hW
              obtain ⟨y0, y1, y2, _⟩ := q3
              go_simp
              all_goals (try omega)
            clear hK K
            simp only [Act.put, List.setIfInBounds_toArray, List.set_cons_succ, List.set_cons_zero]
            refine wpQuiet_step (fun K hK => ?_)
            rw [if_pos (by rfl)]
            refine ⟨.bool false, fun W hW => quiet_ok ?_, hK _ ?_⟩
            · have q := HX.out W hW
              obtain ⟨m0, m1, m2, _⟩ := q
              have q2 := HY.out W hW
              obtain ⟨z0, z1, z2, _⟩ := q2
              have q3 := HZ.out W hW
              obtain ⟨y0, y1, y2, _⟩ := q3
              go_simp
              all_goals (try omega)
            clear hK K
            simp only [Act.put, List.setIfInBounds_toArray, List.set_cons_succ, List.set_cons_zero]
            refine wpQuiet_step (fun K hK => ?_)
            rw [if_pos (by rfl)]
            refine ⟨.bool false, fun W hW => quiet_ok ?_, hK _ ?_⟩
            · have q := HX.out W hW
              obtain ⟨m0, m1, m2, _⟩ := q
              have q2 := HY.out W hW
              obtain ⟨z0, z1, z2, _⟩ := q2
              have q3 := HZ.out W hW
              obtain ⟨y0, y1, y2, _⟩ := q3
              go_simp
              all_goals (try omega)
            clear hK K
            simp only [Act.put, List.setIfInBounds_toArray, List.set_cons_succ, List.set_cons_zero]
            refine wpQuiet_step (fun K hK => ?_)
            rw [if_pos (by rfl)]
            refine ⟨.int .i64 (k : Int), fun W hW => quiet_ok ?_, hK _ ?_⟩
            · have q := HX.out W hW
              obtain ⟨m0, m1, m2, _⟩ := q
              have q2 := HY.out W hW
              obtain ⟨z0, z1, z2, _⟩ := q2
              have q3 := HZ.out W hW
              obtain ⟨y0, y1, y2, _⟩ := q3
              go_simp
              all_goals (try omega)
            clear hK K
            simp only [Act.put, List.setIfInBounds_toArray, List.set_cons_succ, List.set_cons_zero]
            refine wpQuiet_step (fun K hK => ?_)
            rw [if_pos (by rfl)]
            refine ⟨.bool true, fun W hW => quiet_ok ?_, hK _ ?_⟩
            · have q := HX.out W hW
              obtain ⟨m0, m1, m2, _⟩ := q
              have q2 := HY.out W hW
              obtain ⟨z0, z1, z2, _⟩ := q2
              have q3 := HZ.out W hW
              obtain ⟨y0, y1, y2, _⟩ := q3
              go_simp
              all_goals (try omega)
            clear hK K
            simp only [Act.put, List.setIfInBounds_toArray, List.set_cons_succ, List.set_cons_zero]
            refine wpQuiet_step (fun K hK => ?_)
            rw [if_pos (by rfl)]
            refine ⟨.bool true, fun W hW => quiet_ok ?_, hK _ ?_⟩
            · have q := HX.out W hW
              obtain ⟨m0, m1, m2, _⟩ := q
              have q2 := HY.out W hW
              obtain ⟨z0, z1, z2, _⟩ := q2
              have q3 := HZ.out W hW
              obtain ⟨y0, y1, y2, _⟩ := q3
              go_simp
              all_goals (try omega)
            clear hK K
            simp only [Act.put, List.setIfInBounds_toArray, List.set_cons_succ, List.set_cons_zero]
            refine wpQuiet_step (fun K hK => ?_)
            rw [if_pos (by rfl)]
            refine ⟨.slice (some ⟨b, o, none⟩) L.length cap, fun W hW => quiet_ok ?_, hK _ ?_⟩
            · have q := HX.out W hW
              obtain ⟨m0, m1, m2, _⟩ := q
              have q2 := HY.out W hW
              obtain ⟨z0, z1, z2, _⟩ := q2
              have q3 := HZ.out W hW
              obtain ⟨y0, y1, y2, _⟩ := q3
              go_simp
              all_goals (try omega)
            clear hK K
            simp only [Act.put, List.setIfInBounds_toArray, List.set_cons_succ, List.set_cons_zero]
            refine wpQuiet_step (fun K hK => ?_)
            rw [if_pos (by rfl)]
            refine ⟨.int .i64 (k : Int), fun W hW => quiet_ok ?_, hK _ ?_⟩
            · have q := HX.out W hW
              obtain ⟨m0, m1, m2, _⟩ := q
              have q2 := HY.out W hW
              obtain ⟨z0, z1, z2, _⟩ := q2
              have q3 := HZ.out W hW
              obtain ⟨y0, y1, y2, _⟩ := q3
              go_simp
              all_goals (try omega)
            clear hK K
            simp only [Act.put, List.setIfInBounds_toArray, List.set_cons_succ, List.set_cons_zero]
            refine wpQuiet_step (fun K hK => ?_)
            rw [if_pos (by rfl)]
            refine ⟨.int .i64 (j : Int), fun W hW => quiet_ok ?_, hK _ ?_⟩
            · have q := HX.out W hW
              obtain ⟨m0, m1, m2, _⟩ := q
              have q2 := HY.out W hW
              obtain ⟨z0, z1, z2, _⟩ := q2
              have q3 := HZ.out W hW
              obtain ⟨y0, y1, y2, _⟩ := q3
              go_simp
              all_goals (try omega)
            clear hK K
            simp only [Act.put, List.setIfInBounds_toArray, List.set_cons_succ, List.set_cons_zero]
            refine wpQuiet_step (fun K hK => ?_)
            rw [if_pos (by rfl)]
            refine ⟨.pointer (some ⟨b, o + j * 3, none⟩), fun W hW => quiet_ok ?_, hK _ ?_⟩
            · have q := HX.out W hW
              obtain ⟨m0, m1, m2, _⟩ := q
              have q2 := HY.out W hW
              obtain ⟨z0, z1, z2, _⟩ := q2
              have q3 := HZ.out W hW
              obtain ⟨y0, y1, y2, _⟩ := q3
              go_simp
              all_goals (try omega)
            clear hK K
            simp only [Act.put, List.setIfInBounds_toArray, List.set_cons_succ, List.set_cons_zero]
            refine wpQuiet_step (fun K hK => ?_)
            rw [if_pos (by rfl)]
            refine ⟨.pointer (some ⟨b, o + j * 3, none⟩), fun W hW => quiet_ok ?_, hK _ ?_⟩
            · have q := HX.out W hW
              obtain ⟨m0, m1, m2, _⟩ := q
              have q2 := HY.out W hW
              obtain ⟨z0, z1, z2, _⟩ := q2
              have q3 := HZ.out W hW
              obtain ⟨y0, y1, y2, _⟩ := q3
              go_simp
              all_goals (try omega)
            clear hK K
            simp only [Act.put, List.setIfInBounds_toArray, List.set_cons_succ, List.set_cons_zero]
            refine wpQuiet_step (fun K hK => ?_)
            rw [if_pos (by rfl)]
            refine ⟨.string ⟨y.1.toArray⟩, fun W hW => quiet_ok ?_, hK _ ?_⟩
            · have q := HX.out W hW
              obtain ⟨m0, m1, m2, _⟩ := q
              have q2 := HY.out W hW
              obtain ⟨z0, z1, z2, _⟩ := q2
              have q3 := HZ.out W hW
              obtain ⟨y0, y1, y2, _⟩ := q3
              go_simp
              all_goals (try omega)
            clear hK K
            simp only [Act.put, List.setIfInBounds_toArray, List.set_cons_succ, List.set_cons_zero]
            refine wpQuiet_step (fun K hK => ?_)
            rw [if_pos (by rfl)]
            refine ⟨.pointer (some ⟨gx, 0, none⟩), fun W hW => quiet_ok ?_, hK _ ?_⟩
            · have q := HX.out W hW
              obtain ⟨m0, m1, m2, _⟩ := q
              have q2 := HY.out W hW
              obtain ⟨z0, z1, z2, _⟩ := q2
              have q3 := HZ.out W hW
              obtain ⟨y0, y1, y2, _⟩ := q3
              go_simp
              all_goals (try omega)
            clear hK K
            simp only [Act.put, List.setIfInBounds_toArray, List.set_cons_succ, List.set_cons_zero]
            refine wpQuiet_step (fun K hK => ?_)
            rw [if_pos (by rfl)]
            refine ⟨.string ⟨x.1.toArray⟩, fun W hW => quiet_ok ?_, hK _ ?_⟩
            · have q := HX.out W hW
              obtain ⟨m0, m1, m2, _⟩ := q
              have q2 := HY.out W hW
              obtain ⟨z0, z1, z2, _⟩ := q2
              have q3 := HZ.out W hW
              obtain ⟨y0, y1, y2, _⟩ := q3
              go_simp
              all_goals (try omega)
            clear hK K
            simp only [Act.put, List.setIfInBounds_toArray, List.set_cons_succ, List.set_cons_zero]
            refine wpQuiet_step (fun K hK => ?_)
            rw [if_pos (by rfl)]
            refine ⟨.int .i64 c, fun W hW => quiet_call (f := 43) (args := #[.string ⟨y.1.toArray⟩, .string ⟨x.1.toArray⟩]) ?_ ?_, hK _ ?_⟩
            · go_simp
            · exact (HCM.out W).mono fun e w'' h => ⟨h.1, HTR.out _ _ hW h.2⟩
            clear hK K
            simp only [Act.put, List.setIfInBounds_toArray, List.set_cons_succ, List.set_cons_zero]
            refine wpQuiet_step (fun K hK => ?_)
            rw [if_pos (by rfl)]
            refine ⟨.bool false, fun W hW => quiet_ok ?_, hK _ ?_⟩
            · have q := HX.out W hW
              obtain ⟨m0, m1, m2, _⟩ := q
              have q2 := HY.out W hW
              obtain ⟨z0, z1, z2, _⟩ := q2
              have q3 := HZ.out W hW
              obtain ⟨y0, y1, y2, _⟩ := q3
              go_simp
              all_goals (try omega)
            clear hK K
            simp only [Act.put, List.setIfInBounds_toArray, List.set_cons_succ, List.set_cons_zero]
            refine wpQuiet_step (fun K hK => ?_)
            rw [if_pos (by rfl)]
            refine ⟨.bool false, fun W hW => quiet_ok ?_, hK _ ?_⟩
            · have q := HX.out W hW
              obtain ⟨m0, m1, m2, _⟩ := q
              have q2 := HY.out W hW
              obtain ⟨z0, z1, z2, _⟩ := q2
              have q3 := HZ.out W hW
              obtain ⟨y0, y1, y2, _⟩ := q3
              go_simp
              all_goals (try omega)
            clear hK K
            simp only [Act.put, List.setIfInBounds_toArray, List.set_cons_succ, List.set_cons_zero]
            refine wpQuiet_step (fun K hK => ?_)
            rw [if_pos (by rfl)]
            refine ⟨.bool false, fun W hW => quiet_ok ?_, hK _ ?_⟩
            · have q := HX.out W hW
              obtain ⟨m0, m1, m2, _⟩ := q
              have q2 := HY.out W hW
              obtain ⟨z0, z1, z2, _⟩ := q2
              have q3 := HZ.out W hW
              obtain ⟨y0, y1, y2, _⟩ := q3
              go_simp
              all_goals (try omega)
            clear hK K
            simp only [Act.put, List.setIfInBounds_toArray, List.set_cons_succ, List.set_cons_zero]
            refine wpQuiet_step (fun K hK => ?_)
            rw [if_pos (by rfl)]
            refine ⟨.bool false, fun W hW => quiet_ok ?_, hK _ ?_⟩
            · have q := HX.out W hW
              obtain ⟨m0, m1, m2, _⟩ := q
              have q2 := HY.out W hW
              obtain ⟨z0, z1, z2, _⟩ := q2
              have q3 := HZ.out W hW
              obtain ⟨y0, y1, y2, _⟩ := q3
              go_simp
              all_goals (try omega)
            clear hK K
            simp only [Act.put, List.setIfInBounds_toArray, List.set_cons_succ, List.set_cons_zero]
            refine wpQuiet_step (fun K hK => ?_)
            rw [if_pos (by rfl)]
            refine ⟨.pointer (some ⟨gx, 1, none⟩), fun W hW => quiet_ok ?_, hK _ ?_⟩
            · have q := HX.out W hW
              obtain ⟨m0, m1, m2, _⟩ := q
              have q2 := HY.out W hW
              obtain ⟨z0, z1, z2, _⟩ := q2
              have q3 := HZ.out W hW
              obtain ⟨y0, y1, y2, _⟩ := q3
              go_simp
              all_goals (try omega)
            clear hK K
            simp only [Act.put, List.setIfInBounds_toArray, List.set_cons_succ, List.set_cons_zero]
            refine wpQuiet_step (fun K hK => ?_)
            rw [if_pos (by rfl)]
            refine ⟨.string ⟨x.2.1.toArray⟩, fun W hW => quiet_ok ?_, hK _ ?_⟩
            · have q := HX.out W hW
              obtain ⟨m0, m1, m2, _⟩ := q
              have q2 := HY.out W hW
              obtain ⟨z0, z1, z2, _⟩ := q2
              have q3 := HZ.out W hW
              obtain ⟨y0, y1, y2, _⟩ := q3
              go_simp
              all_goals (try omega)
            clear hK K
            simp only [Act.put, List.setIfInBounds_toArray, List.set_cons_succ, List.set_cons_zero]
            refine wpQuiet_step (fun K hK => ?_)
            rw [if_pos (by rfl)]
            refine ⟨.slice (some ⟨b, o, none⟩) L.length cap, fun W hW => quiet_ok ?_, hK _ ?_⟩
            · have q := HX.out W hW
              obtain ⟨m0, m1, m2, _⟩ := q
              have q2 := HY.out W hW
              obtain ⟨z0, z1, z2, _⟩ := q2
              have q3 := HZ.out W hW
              obtain ⟨y0, y1, y2, _⟩ := q3
              go_simp
              all_goals (try omega)
            clear hK K
            simp only [Act.put, List.setIfInBounds_toArray, List.set_cons_succ, List.set_cons_zero]
            refine wpQuiet_step (fun K hK => ?_)
            rw [if_pos (by rfl)]
            refine ⟨.int .i64 (k : Int), fun W hW => quiet_ok ?_, hK _ ?_⟩
            · have q := HX.out W hW
              obtain ⟨m0, m1, m2, _⟩ := q
              have q2 := HY.out W hW
              obtain ⟨z0, z1, z2, _⟩ := q2
              have q3 := HZ.out W hW
              obtain ⟨y0, y1, y2, _⟩ := q3
              go_simp
              all_goals (try omega)
            clear hK K
            simp only [Act.put, List.setIfInBounds_toArray, List.set_cons_succ, List.set_cons_zero]
            refine wpQuiet_step (fun K hK => ?_)
            rw [if_pos (by rfl)]
            refine ⟨.int .i64 ((k : Int) + 1), fun W hW => quiet_ok ?_, hK _ ?_⟩
            · have q := HX.out W hW
              obtain ⟨m0, m1, m2, _⟩ := q
              have q2 := HY.out W hW
              obtain ⟨z0, z1, z2, _⟩ := q2
              have q3 := HZ.out W hW
              obtain ⟨y0, y1, y2, _⟩ := q3
              go_simp
              all_goals (try omega)
            clear hK K
            simp only [Act.put, List.setIfInBounds_toArray, List.set_cons_succ, List.set_cons_zero]
            refine wpQuiet_step (fun K hK => ?_)
            rw [if_pos (by rfl)]
            refine ⟨.slice (some ⟨b, o, none⟩) L.length cap, fun W hW => quiet_ok ?_, hK _ ?_⟩
            · have q := HX.out W hW
              obtain ⟨m0, m1, m2, _⟩ := q
              have q2 := HY.out W hW
              obtain ⟨z0, z1, z2, _⟩ := q2
              have q3 := HZ.out W hW
              obtain ⟨y0, y1, y2, _⟩ := q3
              go_simp
              all_goals (try omega)
            clear hK K
            simp only [Act.put, List.setIfInBounds_toArray, List.set_cons_succ, List.set_cons_zero]
            refine wpQuiet_step (fun K hK => ?_)
            rw [if_pos (by rfl)]
            refine ⟨.int .i64 (L.length : Int), fun W hW => quiet_ok ?_, hK _ ?_⟩
            · have q := HX.out W hW
              obtain ⟨m0, m1, m2, _⟩ := q
              have q2 := HY.out W hW
              obtain ⟨z0, z1, z2, _⟩ := q2
              have q3 := HZ.out W hW
              obtain ⟨y0, y1, y2, _⟩ := q3
              go_simp
              all_goals (try omega)
            clear hK K
            simp only [Act.put, List.setIfInBounds_toArray, List.set_cons_succ, List.set_cons_zero]
            refine wpQuiet_step (fun K hK => ?_)
            rw [if_pos (by rfl)]
            refine ⟨.int .i64 (m : Int), fun W hW => quiet_ok ?_, hK _ ?_⟩
            · have q := HX.out W hW
              obtain ⟨m0, m1, m2, _⟩ := q
              have q2 := HY.out W hW
              obtain ⟨z0, z1, z2, _⟩ := q2
              have q3 := HZ.out W hW
              obtain ⟨y0, y1, y2, _⟩ := q3
              go_simp
              all_goals (try omega)
            clear hK K
            simp only [Act.put, List.setIfInBounds_toArray, List.set_cons_succ, List.set_cons_zero]
            refine wpQuiet_step (fun K hK => ?_)
            rw [if_pos (by rfl)]
            refine ⟨.pointer (some ⟨b, o + m * 3, none⟩), fun W hW => quiet_ok ?_, hK _ ?_⟩
            · have q := HX.out W hW
              obtain ⟨m0, m1, m2, _⟩ := q
              have q2 := HY.out W hW
              obtain ⟨z0, z1, z2, _⟩ := q2
              have q3 := HZ.out W hW
              obtain ⟨y0, y1, y2, _⟩ := q3
              go_simp
              all_goals (try omega)
            clear hK K
            simp only [Act.put, List.setIfInBounds_toArray, List.set_cons_succ, List.set_cons_zero]
            refine wpQuiet_step (fun K hK => ?_)
            rw [if_pos (by rfl)]
            refine ⟨.pointer (some ⟨b, o + m * 3, none⟩), fun W hW => quiet_ok ?_, hK _ ?_⟩
            · have q := HX.out W hW
              obtain ⟨m0, m1, m2, _⟩ := q
              have q2 := HY.out W hW
              obtain ⟨z0, z1, z2, _⟩ := q2
              have q3 := HZ.out W hW
              obtain ⟨y0, y1, y2, _⟩ := q3
              go_simp
              all_goals (try omega)
            clear hK K
            simp only [Act.put, List.setIfInBounds_toArray, List.set_cons_succ, List.set_cons_zero]
            refine wpQuiet_step (fun K hK => ?_)
            rw [if_pos (by rfl)]
            refine ⟨.string ⟨z.1.toArray⟩, fun W hW => quiet_ok ?_, hK _ ?_⟩
            · have q := HX.out W hW
              obtain ⟨m0, m1, m2, _⟩ := q
              have q2 := HY.out W hW
              obtain ⟨z0, z1, z2, _⟩ := q2
              have q3 := HZ.out W hW
              obtain ⟨y0, y1, y2, _⟩ := q3
              go_simp
              all_goals (try omega)
            clear hK K
            simp only [Act.put, List.setIfInBounds_toArray, List.set_cons_succ, List.set_cons_zero]
            refine wpQuiet_step (fun K hK => ?_)
            rw [if_pos (by rfl)]
            refine ⟨.bool false, fun W hW => quiet_ok ?_, hK _ ?_⟩
            · have q := HX.out W hW
              obtain ⟨m0, m1, m2, _⟩ := q
              have q2 := HY.out W hW
              obtain ⟨z0, z1, z2, _⟩ := q2
              have q3 := HZ.out W hW
              obtain ⟨y0, y1, y2, _⟩ := q3
              go_simp
              all_goals (try omega)
            clear hK K
            simp only [Act.put, List.setIfInBounds_toArray, List.set_cons_succ, List.set_cons_zero]
            refine wpQuiet_step (fun K hK => ?_)
            rw [if_pos (by rfl)]
            refine ⟨.bool false, fun W hW => quiet_ok ?_, hK _ ?_⟩
            · have q := HX.out W hW
              obtain ⟨m0, m1, m2, _⟩ := q
              have q2 := HY.out W hW
              obtain ⟨z0, z1, z2, _⟩ := q2
              have q3 := HZ.out W hW
              obtain ⟨y0, y1, y2, _⟩ := q3
              go_simp
              all_goals (try omega)
            clear hK K
            simp only [Act.put, List.setIfInBounds_toArray, List.set_cons_succ, List.set_cons_zero]
            refine wpQuiet_step (fun K hK => ?_)
            rw [if_pos (by rfl)]
            refine ⟨.bool false, fun W hW => quiet_ok ?_, hK _ ?_⟩
            · have q := HX.out W hW
              obtain ⟨m0, m1, m2, _⟩ := q
              have q2 := HY.out W hW
              obtain ⟨z0, z1, z2, _⟩ := q2
              have q3 := HZ.out W hW
              obtain ⟨y0, y1, y2, _⟩ := q3
              go_simp
              all_goals (try omega)
            clear hK K
            simp only [Act.put, List.setIfInBounds_toArray, List.set_cons_succ, List.set_cons_zero]
            refine wpQuiet_step (fun K hK => ?_)
            rw [if_pos (by rfl)]
            refine ⟨.pointer (some ⟨gx, 2, none⟩), fun W hW => quiet_ok ?_, hK _ ?_⟩
            · have q := HX.out W hW
              obtain ⟨m0, m1, m2, _⟩ := q
              have q2 := HY.out W hW
              obtain ⟨z0, z1, z2, _⟩ := q2
              have q3 := HZ.out W hW
              obtain ⟨y0, y1, y2, _⟩ := q3
              go_simp
              all_goals (try omega)
            clear hK K
            simp only [Act.put, List.setIfInBounds_toArray, List.set_cons_succ, List.set_cons_zero]
            refine wpQuiet_step (fun K hK => ?_)
            rw [if_pos (by rfl)]
            refine ⟨.slice aa x.2.2.length ca, fun W hW => quiet_ok ?_, hK _ ?_⟩
            · have q := HX.out W hW
              obtain ⟨m0, m1, m2, _⟩ := q
              have q2 := HY.out W hW
              obtain ⟨z0, z1, z2, _⟩ := q2
              have q3 := HZ.out W hW
              obtain ⟨y0, y1, y2, _⟩ := q3
              go_simp
              all_goals (try omega)
            clear hK K
            simp only [Act.put, List.setIfInBounds_toArray, List.set_cons_succ, List.set_cons_zero]
            refine wpQuiet_step (fun K hK => ?_)
            rw [if_pos (by rfl)]
            refine ⟨.int .i64 (x.2.2.length : Int), fun W hW => quiet_ok ?_, hK _ ?_⟩
            · have q := HX.out W hW
              obtain ⟨m0, m1, m2, _⟩ := q
              have q2 := HY.out W hW
              obtain ⟨z0, z1, z2, _⟩ := q2
              have q3 := HZ.out W hW
              obtain ⟨y0, y1, y2, _⟩ := q3
              go_simp
              all_goals (try omega)
            clear hK K
            simp only [Act.put, List.setIfInBounds_toArray, List.set_cons_succ, List.set_cons_zero]
            refine wpQuiet_step (fun K hK => ?_)
            rw [if_pos (by rfl)]
            refine ⟨.bool false, fun W hW => quiet_ok ?_, hK _ ?_⟩
            · have q := HX.out W hW
              obtain ⟨m0, m1, m2, _⟩ := q
              have q2 := HY.out W hW
              obtain ⟨z0, z1, z2, _⟩ := q2
              have q3 := HZ.out W hW
              obtain ⟨y0, y1, y2, _⟩ := q3
              go_simp
              all_goals (try omega)
            clear hK K
            simp only [Act.put, List.setIfInBounds_toArray, List.set_cons_succ, List.set_cons_zero]
            refine wpQuiet_step (fun K hK => ?_)
            rw [if_pos (by rfl)]
            refine ⟨.bool false, fun W hW => quiet_ok ?_, hK _ ?_⟩
            · have q := HX.out W hW
              obtain ⟨m0, m1, m2, _⟩ := q
              have q2 := HY.out W hW
              obtain ⟨z0, z1, z2, _⟩ := q2
              have q3 := HZ.out W hW
              obtain ⟨y0, y1, y2, _⟩ := q3
              go_simp
              all_goals (try omega)
            clear hK K
            simp only [Act.put, List.setIfInBounds_toArray, List.set_cons_succ, List.set_cons_zero]
            refine wpQuiet_nil ?_
            intro W hW
            have hbW := HBW.out W hW
            -- the round's inner loop over the types
            clear HN HLB hbd
            obtain ⟨b2, o2, ha2, hbl2, hc2⟩ := HROW2.out (by omega)
            subst ha2
            have HCT : Hid (∀ W, Below W0.heap.size W0 W → ∀ i, (hi : i < x.2.2.length) → W.cell? ⟨b2, o2 + i, none⟩ = some (.int .i64 x.2.2[i])) := fun W hW i hi => by
              rw [(HX.out W hW).2.2.2.cell (p := ⟨b2, o2 + i, none⟩) hbl2]; exact hc2 i hi
            have HGW : Hid (Below W0.heap.size W0 W) := hW
            obtain ⟨q0, q1, q2, _⟩ := HX.out W hW
            clear hc2 hbl2 hW HROW2 hbW
            go_wp2_with fail
            clear q0 q1 q2
            go_loopw [83] (fun i w3 => ∃ n : Nat, n ≤ x.2.2.length ∧ i = .int .i64 (n : Int) ∧ Hid (∀ i, i < n → tyB x.2.2 i = true) ∧ Below W0.heap.size W0 w3) (fun i _ => x.2.2.length - (intOf i).toNat)
            case atStart => exact ⟨0, Nat.zero_le _, rfl, fun j h => absurd h (Nat.not_lt_zero _), HGW.out⟩
            case round =>
              obtain ⟨n, hn, rfl, HTA, hb3⟩ := hrel
              have hbW3 := HBW.out _ hb3
              obtain ⟨q0, q1, q2, _⟩ := HX.out _ hb3
              by_cases hlt3 : n < x.2.2.length
              · have hcx := HCT.out _ hb3 n hlt3
                have HBAD3 : Hid (tyB x.2.2 n = false → r = false) := fun h => HBT.out (types_bad n hlt3 h)
                have hni : (n : Int) < (x.2.2.length : Int) := by omega
                rcases Nat.eq_zero_or_pos n with hn0 | hn0
                · have HT0 : Hid (tyB x.2.2 n = typB (x.2.2[n]'hlt3)) := by subst hn0; exact ty_zero hlt3
                  obtain ⟨t, ht⟩ : ∃ t, t = x.2.2[n]'hlt3 := ⟨_, rfl⟩
                  rw [← ht] at HT0 hcx
                  have HI : Hid (∀ W, Calls Tryd.prog 44 #[.int .i64 t] W fun e w' => e = .returned (.bool (typB t)) ∧ Below W.heap.size W w') := fun W => l3Type_any t W
                  have hn0i : ¬ (0 : Int) < (n : Int) := by omega
                  clear ht hn0
                  cases htt : typB t with
                  | false =>
                    have HF : Hid (r = false) := HBAD3.out (HT0.out.trans htt)
                    rw [htt] at HI
                    clear HBAD3 HT0 htt
                    go_wp2_with fail
                    refine (HI.out _).mono ?_
                    rintro e w4 ⟨rfl, hb4⟩
                    have hbW4 := HBW.out _ (hb3.trans (hb4.mono hb3.size))
                    go_wp2_with fail
                    go_ret
                    exact ⟨ret_bool HF.out.symm, hbW4⟩
                  | true =>
                    have HU3 : Hid (∀ j, j < n + 1 → tyB x.2.2 j = true) := all_up HTA.out (HT0.out.trans htt)
                    rw [htt] at HI
                    clear HBAD3 HT0 htt
                    go_wp2_with fail
                    refine (HI.out _).mono ?_
                    rintro e w4 ⟨rfl, hb4⟩
                    have hb34 := hb3.trans (hb4.mono hb3.size)
                    go_wp2_with fail
                    go_roundw
                    case rel => exact ⟨n + 1, by omega, by go_num, HU3, hb34⟩
                    case measure => simp [intOf]; omega
                · obtain ⟨i, hi⟩ : ∃ i, n = i + 1 := ⟨n - 1, by omega⟩
                  have HT0 : Hid (tyB x.2.2 n = (typB (x.2.2[n]'hlt3) && decide ((x.2.2[i]'(by omega)) < x.2.2[n]'hlt3))) := by subst hi; exact ty_succ i hlt3
                  obtain ⟨t, ht⟩ : ∃ t, t = x.2.2[n]'hlt3 := ⟨_, rfl⟩
                  obtain ⟨s, hs⟩ : ∃ s, s = x.2.2[i]'(by omega) := ⟨_, rfl⟩
                  have HCI : Hid (∀ W, Below W0.heap.size W0 W → W.cell? ⟨b2, o2 + i, none⟩ = some (.int .i64 s)) := fun W hW => by rw [hs]; exact HCT.out W hW i (by omega)
                  rw [← ht, ← hs] at HT0
                  rw [← ht] at hcx
                  have HI : Hid (∀ W, Calls Tryd.prog 44 #[.int .i64 t] W fun e w' => e = .returned (.bool (typB t)) ∧ Below W.heap.size W w') := fun W => l3Type_any t W
                  have hn0i : (0 : Int) < (n : Int) := by omega
                  have wn : IntKind.i64.wrap ((n : Int) - 1) = (i : Int) := by rw [wrap_small _ (by omega) (by omega)]; omega
                  have wn2 : (n : Int) - 1 = (i : Int) := by omega
                  have hii : (i : Int) < (x.2.2.length : Int) := by omega
                  clear ht hs hn0 hi
                  cases htt : typB t with
                  | false =>
                    have HF : Hid (r = false) := HBAD3.out (HT0.out.trans (by rw [htt]; rfl))
                    rw [htt] at HI
                    clear HBAD3 HT0 htt
                    go_wp2_with fail
                    refine (HI.out _).mono ?_
                    rintro e w4 ⟨rfl, hb4⟩
                    have hbW4 := HBW.out _ (hb3.trans (hb4.mono hb3.size))
                    go_wp2_with fail
                    go_ret
                    exact ⟨ret_bool HF.out.symm, hbW4⟩
                  | true =>
                    rw [htt] at HI
                    by_cases hst : s < t
                    · have HU3 : Hid (∀ j, j < n + 1 → tyB x.2.2 j = true) := all_up HTA.out (HT0.out.trans (by rw [htt, decide_eq_true hst]; rfl))
                      clear HBAD3 HT0 htt
                      go_wp2_with fail
                      refine (HI.out _).mono ?_
                      rintro e w4 ⟨rfl, hb4⟩
                      have hb34 := hb3.trans (hb4.mono hb3.size)
                      have hcs := HCI.out _ hb34
                      clear q0 q1 q2
                      obtain ⟨q0, q1, q2, _⟩ := HX.out _ hb34
                      go_wp2_with fail
                      go_roundw
                      case rel => exact ⟨n + 1, by omega, by go_num, HU3, hb34⟩
                      case measure => simp [intOf]; omega
                    · have HF : Hid (r = false) := HBAD3.out (HT0.out.trans (by rw [htt, decide_eq_false hst]; rfl))
                      clear HBAD3 HT0 htt
                      go_wp2_with fail
                      refine (HI.out _).mono ?_
                      rintro e w4 ⟨rfl, hb4⟩
                      have hb34 := hb3.trans (hb4.mono hb3.size)
                      have hbW4 := HBW.out _ hb34
                      have hcs := HCI.out _ hb34
                      clear q0 q1 q2
                      obtain ⟨q0, q1, q2, _⟩ := HX.out _ hb34
                      go_wp2_with fail
                      go_ret
                      exact ⟨ret_bool HF.out.symm, hbW4⟩
              · have HU : Hid (∀ j, j < k + 1 → gsB ap L j = true) := HUP.out (types_all (fun j hj => HTA.out j (by omega)))
                go_wp2_with fail
                go_roundw
                case rel => exact ⟨k + 1, by omega, by go_num, HU, hbW3⟩
                case measure => simp [intOf]; omega
    · have HF : Hid (r = true) := HALL.out (fun j hj => HA.out j (by omega))
      go_wp2_with fail
      go_ret
      exact ⟨ret_bool HF.out.symm, hb⟩
end Go.Proofs.YtoeffplfkdogdaaDoor
