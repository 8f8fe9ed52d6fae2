import Derived.Test.YtoeffplfkdogdaaDoorZ17
import Derived.Test.YtoeffplfkdogdaaDoorZ16
namespace Go.Proofs.YtoeffplfkdogdaaDoor
open Go.RowKit

/-- Numbers from one on. -/
def mksZ (K n : Nat) : List Int := (List.range n).map (fun i : Nat => (K : Int) + (i : Int))
theorem mksZ_length (K n : Nat) : (mksZ K n).length = n := by simp [mksZ]
theorem mksZ_get (K n k : Nat) (h : k < n) : (mksZ K n)[k]'(by rw [mksZ_length]; exact h) = (K : Int) + (k : Int) := by simp [mksZ]
def halfZ (P : List Int) (K k : Nat) : List Int := mksZ K k ++ P.drop k
theorem halfZ_length (P : List Int) (K k : Nat) (h : k ≤ P.length) : (halfZ P K k).length = P.length := by simp [halfZ, mksZ]; omega
theorem halfZ_zero (P : List Int) (K : Nat) : halfZ P K 0 = P := by simp [halfZ, mksZ]
theorem halfZ_end (P : List Int) (K : Nat) : halfZ P K P.length = mksZ K P.length := by simp [halfZ]
theorem halfZ_next (P : List Int) (K k : Nat) (h : k < P.length) : halfZ P K (k + 1) = (halfZ P K k).set k ((K : Int) + (k : Int)) := by
  unfold halfZ
  have hm : (mksZ K k).length = k := mksZ_length K k
  rw [List.set_append_right _ _ (by omega), hm, Nat.sub_self, List.drop_eq_getElem_cons h]
  simp only [mksZ, List.range_succ, List.map_append, List.map_cons, List.map_nil, List.set_cons_zero, List.append_assoc, List.singleton_append]
theorem growz_refl (w : World) (row : Option Nat) : w.grownBy w row := ⟨rfl, rfl, rfl, Nat.le_refl _, fun _ _ _ => rfl⟩
theorem growz_set {w a : World} {g k : Nat} {u : Value} (h : w.grownBy a (some g)) : w.grownBy (a.setCell ⟨g, k, none⟩ u) (some g) :=
  ⟨h.os, h.tape, h.output, by simpa using h.size, fun i hi hne => (Below.heap_setCell a ⟨g, k, none⟩ u i (fun e => hne (by rw [e]))).trans (h.block i hi hne)⟩

set_option maxRecDepth 20000 in
set_option maxHeartbeats 1000000 in
theorem markIntZ_any (g cap K : Nat) (P : List Int) (w : World) (hs : ZSRow w g P) (hL : P.length ≤ 1048576) (hcap : P.length ≤ cap) (hmax : cap ≤ 9223372036854775807) (hK : K ≤ 1073741824) :
    Calls Tryd.prog 33 #[.slice (some ⟨g, 0, none⟩) P.length cap, .int .i64 (K : Int)] w fun e w' => e = .returned (.int .i64 ((K : Int) + (P.length : Int))) ∧ ZSRow w' g (mksZ K P.length) ∧ w.grownBy w' (some g) := by
  have HS : Hid (ZSRow w g P) := hs
  clear hs
  go_enter Tryd.func33, Tryd.ntmps33
  go_wp2_with fail
  go_loopw [1, 5] (fun q i wr => ∃ k : Nat, k ≤ P.length ∧ i = .int .i64 (k : Int) ∧ q = .int .i64 ((K : Int) + (k : Int)) ∧ Hid (ZSRow wr g (halfZ P K k)) ∧ w.grownBy wr (some g)) (fun _ i _ => P.length - (intOf i).toNat)
  case atStart => exact ⟨0, Nat.zero_le _, rfl, by simp, by rw [halfZ_zero]; exact HS, growz_refl _ _⟩
  case round =>
    obtain ⟨k, hk, rfl, rfl, HR, hgr⟩ := hrel
    by_cases hlt : k < P.length
    · have hs1 := HR.out
      have hpk := hs1.2 k (by rw [halfZ_length P K k hk]; exact hlt)
      have hcg := hpk.1
      have hfg := hpk.2
      have hset := hs1.set k (by rw [halfZ_length P K k hk]; exact hlt) ((K : Int) + (k : Int))
      rw [← halfZ_next P K k hlt] at hset
      obtain ⟨m, hm⟩ : ∃ m : Int, m = (K : Int) + (k : Int) := ⟨_, rfl⟩
      rw [← hm] at hset ⊢
      have HSS : Hid (ZSRow (wr.setCell ⟨g, k, none⟩ (.int .i64 m)) g (halfZ P K (k + 1))) := hset
      have HM : Hid (m = (K : Int) + (k : Int)) := hm
      have hm0 : 0 ≤ m := by omega
      have hm1 : m ≤ 4294967280 := by omega
      obtain ⟨y, hy⟩ : ∃ y, y = (halfZ P K k)[k]'(by rw [halfZ_length P K k hk]; exact hlt) := ⟨_, rfl⟩
      rw [← hy] at hcg
      clear hset hpk hs1 hm hy
      go_wp2_with fail
      go_roundw
      case rel => exact ⟨k + 1, by omega, by go_num, congrArg (Value.int .i64) (by have := HM.out; omega), HSS, growz_set hgr⟩
      case measure => simp [intOf]; omega
    · have HE : Hid (k = P.length) := (show k = P.length by omega)
      have HF : Hid (ZSRow wr g (mksZ K P.length)) := by have := HR.out; rw [HE.out, halfZ_end] at this; exact this
      go_wp2_with fail
      go_ret
      exact ⟨ret_int (by rw [HE.out]), HF.out, hgr⟩

set_option maxRecDepth 20000 in
set_option maxHeartbeats 1000000 in
theorem heldIntZ_any (v : Value) (n K : Nat) (w : World) (hr : ZRow .i64 w v (mksZ K n)) (hL : n ≤ 1048576) (hK : K ≤ 1073741824) :
    Calls Tryd.prog 34 #[v, .int .i64 (K : Int)] w fun e w' => e = .returned (.int .i64 ((K : Int) + (n : Int))) ∧ w' = w := by
  obtain ⟨a, cap, rfl, hcap, hmax, HROW⟩ := zrow_value hr
  rw [mksZ_length] at hcap ⊢
  clear hr
  go_enter Tryd.func34, Tryd.ntmps34
  go_wp2_with fail
  go_loop [1, 5] (fun q i => ∃ k : Nat, k ≤ n ∧ i = .int .i64 (k : Int) ∧ q = .int .i64 ((K : Int) + (k : Int))) (fun _ i => n - (intOf i).toNat)
  case atStart => exact ⟨0, Nat.zero_le _, rfl, by simp⟩
  case round =>
    obtain ⟨k, hk, rfl, rfl⟩ := hrel
    by_cases hlt : k < n
    · obtain ⟨b, o, ha, hbl, hc⟩ := HROW.out (by rw [mksZ_length]; omega)
      rw [ha]
      have hcx := hc k (by rw [mksZ_length]; exact hlt)
      rw [mksZ_get K n k hlt] at hcx
      obtain ⟨m, hm⟩ : ∃ m : Int, m = (K : Int) + (k : Int) := ⟨_, rfl⟩
      rw [← hm] at hcx ⊢
      have HM : Hid (m = (K : Int) + (k : Int)) := hm
      have hm0 : 0 ≤ m := by omega
      have hm1 : m ≤ 4294967280 := by omega
      have e1 : (m != m) = false := by simp
      have hki : (k : Int) < (n : Int) := by omega
      clear hc hm
      go_wp2_with fail
      go_round
      case rel => exact ⟨k + 1, by omega, by go_num, congrArg (Value.int .i64) (by have := HM.out; omega)⟩
      case measure => simp [intOf]; omega
    · have HE : Hid (k = n) := (show k = n by omega)
      go_wp2_with fail
      go_ret
      exact ⟨ret_int (by rw [HE.out]), rfl⟩

/-- Gaps of the call's own while they are marked: the first k have been. -/
def GMk (w : World) (g : Nat) (T : Nat → Nat) (L : List (List UInt8 × List UInt8 × List Int)) (k : Nat) : Prop :=
  g < w.heap.size ∧ (∀ c, c < L.length * 3 → (∃ v, w.cell? ⟨g, c, none⟩ = some v) ∧ w.frozen? ⟨g, c, none⟩ = false) ∧ (∀ j, (hj : j < L.length) → k ≤ j → w.cell? ⟨g, j * 3 + 2, none⟩ = some (.slice (some ⟨T j, 0, none⟩) L[j].2.2.length L[j].2.2.length) ∧ ZSRow w (T j) L[j].2.2)
theorem GOwn.mk {w : World} {g : Nat} {T : Nat → Nat} {L : List (List UInt8 × List UInt8 × List Int)} (h : GOwn w g T L) : GMk w g T L 0 :=
  ⟨h.1, h.2.1, fun j hj _ => ⟨(h.2.2.1 j hj).2.2.2.1, (h.2.2.1 j hj).2.2.2.2⟩⟩
theorem GMk.kept {w w' : World} {g k : Nat} {T : Nat → Nat} {L : List (List UInt8 × List UInt8 × List Int)} (h : GMk w g T L k) (hb : Below w.heap.size w w') : GMk w' g T L k :=
  ⟨Nat.lt_of_lt_of_le h.1 hb.size, fun c hc => by rw [hb.cell (p := ⟨g, c, none⟩) h.1, hb.frozen (p := ⟨g, c, none⟩) h.1]; exact h.2.1 c hc, fun j hj hk => ⟨by rw [hb.cell (p := ⟨g, j * 3 + 2, none⟩) h.1]; exact (h.2.2 j hj hk).1, (h.2.2 j hj hk).2.kept hb⟩⟩
theorem GMk.set {w : World} {g k c : Nat} {T : Nat → Nat} {L : List (List UInt8 × List UInt8 × List Int)} (h : GMk w g T L k) (hT : ∀ j, j < L.length → g < T j) (hc : c % 3 ≠ 2) (hcl : c < L.length * 3) (u : Value) : GMk (w.setCell ⟨g, c, none⟩ u) g T L k := by
  refine ⟨by simpa using h.1, fun d hd => ⟨?_, by simpa using (h.2.1 d hd).2⟩, fun j hj hk => ⟨?_, (h.2.2 j hj hk).2.far (by have := hT j hj; omega) _⟩⟩
  · by_cases e : d = c
    · subst e
      obtain ⟨v, hv⟩ := (h.2.1 d hcl).1
      exact ⟨_, World.cell?_setCell_same _ _ _ hv⟩
    · rw [World.cell?_setCell_other _ _ _ _ (show (⟨g, c, none⟩ : Addr) ≠ ⟨g, d, none⟩ by intro x; cases x; exact e rfl)]
      exact (h.2.1 d hd).1
  · rw [World.cell?_setCell_other _ _ _ _ (show (⟨g, c, none⟩ : Addr) ≠ ⟨g, j * 3 + 2, none⟩ by intro x; injection x with _ x2; omega)]
    exact (h.2.2 j hj hk).1
theorem zsrow_grown {a b : World} {g t : Nat} {P : List Int} (h : ZSRow a t P) (hg : a.grownBy b (some g)) (hne : t ≠ g) : ZSRow b t P := by
  have hb : b.heap[t]? = a.heap[t]? := hg.block t h.1 (fun e => hne (by cases e; rfl))
  refine ⟨Nat.lt_of_lt_of_le h.1 hg.size, fun j hj => ?_⟩
  rw [World.cell?_of_block (a := ⟨t, j, none⟩) hb, World.frozen?_of_block (a := ⟨t, j, none⟩) hb]
  exact h.2 j hj
theorem GMk.next {w w' : World} {g k : Nat} {T : Nat → Nat} {L : List (List UInt8 × List UInt8 × List Int)} (h : GMk w g T L k) (hT : ∀ j, j < L.length → g < T j) (hI : ∀ i j, i < j → j < L.length → T i < T j) (hk : k < L.length) (hg : w.grownBy w' (some (T k))) : GMk w' g T L (k + 1) := by
  have hgt := hT k hk
  have hb : w'.heap[g]? = w.heap[g]? := hg.block g h.1 (fun e => by cases e; omega)
  refine ⟨Nat.lt_of_lt_of_le h.1 hg.size, fun c hc => ?_, fun j hj hkj => ⟨?_, zsrow_grown (h.2.2 j hj (by omega)).2 hg (by have := hI k j (by omega) hj; omega)⟩⟩
  · rw [World.cell?_of_block (a := ⟨g, c, none⟩) hb, World.frozen?_of_block (a := ⟨g, c, none⟩) hb]; exact h.2.1 c hc
  · rw [World.cell?_of_block (a := ⟨g, j * 3 + 2, none⟩) hb]; exact (h.2.2 j hj (by omega)).1
def tyN (L : List (List UInt8 × List UInt8 × List Int)) : Nat := (L.map (fun x => x.2.2.length)).sum
theorem tyN_snoc (L : List (List UInt8 × List UInt8 × List Int)) (k : Nat) (h : k < L.length) : tyN (L.take (k + 1)) = tyN (L.take k) + L[k].2.2.length := by
  unfold tyN; rw [List.take_succ_eq_append_getElem h, List.map_append, List.sum_append]; simp only [List.map_cons, List.map_nil, List.sum_cons, List.sum_nil, Nat.add_zero]
theorem tyN_le (L : List (List UInt8 × List UInt8 × List Int)) (k : Nat) : tyN (L.take k) ≤ tyN L := by
  have h : tyN L = tyN (L.take k) + tyN (L.drop k) := by unfold tyN; rw [← List.sum_append, ← List.map_append, List.take_append_drop]
  omega
theorem tyN_wt (L : List (List UInt8 × List UInt8 × List Int)) : tyN L ≤ wtG L := by
  unfold tyN wtG
  induction L with
  | nil => simp
  | cons x L ih => simp only [List.map_cons, List.sum_cons]; omega

set_option maxRecDepth 20000 in
set_option maxHeartbeats 4000000 in
theorem markGapS_any (g K : Nat) (T : Nat → Nat) (L : List (List UInt8 × List UInt8 × List Int)) (w : World) (h : GOwn w g T L) (hL : L.length ≤ 1048576) (hW : tyN L ≤ 1048576) (hK0 : 0 < K) (hK : K ≤ 1048576) :
    Calls Tryd.prog 11 #[.slice (some ⟨g, 0, none⟩) L.length L.length, .int .i64 (K : Int)] w fun e w' => e = .returned (.int .i64 ((K : Int) + 2 * (L.length : Int) + (tyN L : Int))) ∧ Kpt w w' (fun b => b = g ∨ ∃ j, j < L.length ∧ b = T j) := by
  have HT : Hid (∀ j, j < L.length → g < T j) := fun j hj => (h.2.2.1 j hj).1
  have HIN : Hid (∀ i j, i < j → j < L.length → T i < T j) := h.2.2.2
  have HG0 : Hid (GMk w g T L 0) := h.mk
  have HMT : Hid (∀ (m : Int) (M : Nat) W, m = (M : Int) → 0 < m → m ≤ 4294967280 → Calls Tryd.prog 32 #[.int .i64 m] W fun e w' => e = .returned (.string ⟨(mark M).toArray⟩) ∧ Below W.heap.size W w') := fun m M W h1 h2 h3 => markText_any m M W h1 h2 h3
  have HTL : Hid (∀ j, (hj : j < L.length) → L[j].2.2.length ≤ 1048576) := fun j hj => by have h1 := tyN_snoc L j hj; have h2 := tyN_le L (j + 1); omega
  clear h
  go_enter Tryd.func11, Tryd.ntmps11
  go_wp2_with fail
  go_loopw [1, 5] (fun q i wr => ∃ k : Nat, k ≤ L.length ∧ i = .int .i64 (k : Int) ∧ q = .int .i64 ((K : Int) + 2 * (k : Int) + (tyN (L.take k) : Int)) ∧ Hid (GMk wr g T L k) ∧ Kpt w wr (fun b => b = g ∨ ∃ j, j < L.length ∧ b = T j)) (fun _ i _ => L.length - (intOf i).toNat)
  case atStart => exact ⟨0, Nat.zero_le _, rfl, by simp [tyN], HG0, Kpt.refl _ _⟩
  case round =>
    obtain ⟨k, hk, rfl, rfl, HR, hkp⟩ := hrel
    clear HG0
    by_cases hlt : k < L.length
    · have hle := tyN_le L k
      have HST : Hid (tyN (L.take (k + 1)) = tyN (L.take k) + (L[k]'hlt).2.2.length) := tyN_snoc L k hlt
      have htl := HTL.out k hlt
      have HSET : Hid (∀ W u, GMk W g T L k → GMk (W.setCell ⟨g, k * 3, none⟩ u) g T L k) := fun W u h => h.set HT.out (by omega) (by omega) u
      have HSET1 : Hid (∀ W u, GMk W g T L k → GMk (W.setCell ⟨g, k * 3 + 1, none⟩ u) g T L k) := fun W u h => h.set HT.out (by omega) (by omega) u
      have HNX : Hid (∀ W W', GMk W g T L k → W.grownBy W' (some (T k)) → GMk W' g T L (k + 1)) := fun W W' h hg => h.next HT.out HIN.out hlt hg
      have HAT : Hid (∀ W, GMk W g T L k → W.cell? ⟨g, k * 3 + 2, none⟩ = some (.slice (some ⟨T k, 0, none⟩) (L[k]'hlt).2.2.length (L[k]'hlt).2.2.length) ∧ ZSRow W (T k) (L[k]'hlt).2.2) := fun W h => h.2.2 k hlt (Nat.le_refl _)
      have HCE : Hid (∀ W c, c < L.length * 3 → GMk W g T L k → (∃ v, W.cell? ⟨g, c, none⟩ = some v) ∧ W.frozen? ⟨g, c, none⟩ = false) := fun W c hc h => h.2.1 c hc
      obtain ⟨P, hP⟩ : ∃ P, P = (L[k]'hlt).2.2 := ⟨_, rfl⟩
      rw [← hP] at HST htl HAT
      obtain ⟨m, hm⟩ : ∃ m : Int, m = (K : Int) + 2 * (k : Int) + (tyN (L.take k) : Int) := ⟨_, rfl⟩
      rw [← hm]
      obtain ⟨M, hM⟩ : ∃ M : Nat, m = (M : Int) := ⟨K + 2 * k + tyN (L.take k), by omega⟩
      have HM1 : Hid (∀ W, Calls Tryd.prog 32 #[.int .i64 m] W fun e w' => e = .returned (.string ⟨(mark M).toArray⟩) ∧ Below W.heap.size W w') := fun W => HMT.out m M W hM (by omega) (by omega)
      have HM2 : Hid (∀ W, Calls Tryd.prog 32 #[.int .i64 (m + 1)] W fun e w' => e = .returned (.string ⟨(mark (M + 1)).toArray⟩) ∧ Below W.heap.size W w') := fun W => HMT.out (m + 1) (M + 1) W (by omega) (by omega) (by omega)
      have HM3 : Hid (∀ W, ZSRow W (T k) P → Calls Tryd.prog 33 #[.slice (some ⟨T k, 0, none⟩) P.length P.length, .int .i64 (m + 1 + 1)] W fun e w' => e = .returned (.int .i64 (m + 1 + 1 + (P.length : Int))) ∧ W.grownBy w' (some (T k))) := fun W hz => by
        have h := markIntZ_any (T k) P.length (M + 1 + 1) P W hz htl (Nat.le_refl _) (by omega) (by omega)
        rw [show ((M + 1 + 1 : Nat) : Int) = m + 1 + 1 by omega] at h
        exact h.mono fun e w' h => ⟨h.1, h.2.2⟩
      have HME : Hid (m + 1 + 1 + (P.length : Int) = (K : Int) + 2 * ((k + 1 : Nat) : Int) + (tyN (L.take (k + 1)) : Int)) := by have := HST.out; show _ = _; omega
      have hm0 : 0 < m := by omega
      have hm1 : m ≤ 4294960000 := by omega
      obtain ⟨x, hx⟩ : ∃ x, x = mark M := ⟨_, rfl⟩
      obtain ⟨y, hy⟩ : ∃ y, y = mark (M + 1) := ⟨_, rfl⟩
      rw [← hx] at HM1
      rw [← hy] at HM2
      clear hP hm hx hy HMT HTL hM hle
      go_wp2_with fail
      refine (HM1.out _).mono ?_
      rintro e w2 ⟨rfl, hb2⟩
      have hk2 : Kpt w w2 (fun b => b = g ∨ ∃ j, j < L.length ∧ b = T j) := hkp.trans (below_kpt0 hb2 _)
      have HG2 : Hid (GMk w2 g T L k) := HR.out.kept hb2
      obtain ⟨⟨v0, m0⟩, f0⟩ := HCE.out w2 (k * 3) (by omega) HG2.out
      have HG3 : Hid (GMk (w2.setCell ⟨g, k * 3, none⟩ (.string ⟨x.toArray⟩)) g T L k) := HSET.out _ _ HG2.out
      have hk3 : Kpt w (w2.setCell ⟨g, k * 3, none⟩ (.string ⟨x.toArray⟩)) (fun b => b = g ∨ ∃ j, j < L.length ∧ b = T j) := hk2.trans (kpt_set _ _ _ _ (.inl rfl))
      clear hb2 HG2 hk2 HR hkp
      go_wp2_with fail
      refine (HM2.out _).mono ?_
      rintro e w4 ⟨rfl, hb4⟩
      have hk4 : Kpt w w4 (fun b => b = g ∨ ∃ j, j < L.length ∧ b = T j) := hk3.trans (below_kpt0 hb4 _)
      have HG4 : Hid (GMk w4 g T L k) := HG3.out.kept hb4
      clear m0 f0
      obtain ⟨⟨v1, m1⟩, f1⟩ := HCE.out w4 (k * 3 + 1) (by omega) HG4.out
      have HG5 : Hid (GMk (w4.setCell ⟨g, k * 3 + 1, none⟩ (.string ⟨y.toArray⟩)) g T L k) := HSET1.out _ _ HG4.out
      have hk5 : Kpt w (w4.setCell ⟨g, k * 3 + 1, none⟩ (.string ⟨y.toArray⟩)) (fun b => b = g ∨ ∃ j, j < L.length ∧ b = T j) := hk4.trans (kpt_set _ _ _ _ (.inl rfl))
      obtain ⟨c2, hz5⟩ := HAT.out _ HG5.out
      have HZ5 : Hid (ZSRow (w4.setCell ⟨g, k * 3 + 1, none⟩ (.string ⟨y.toArray⟩)) (T k) P) := hz5
      clear hb4 HG4 hk4 HG3 hk3 hz5
      go_wp2_with fail
      refine (HM3.out _ HZ5.out).mono ?_
      rintro e w6 ⟨rfl, hg6⟩
      have HG6 : Hid (GMk w6 g T L (k + 1)) := HNX.out _ _ HG5.out hg6
      have hk6 : Kpt w w6 (fun b => b = g ∨ ∃ j, j < L.length ∧ b = T j) := hk5.trans ((grown_kpt hg6).mono (fun b _ e => .inr ⟨k, hlt, by cases e; rfl⟩))
      clear hg6 HG5 hk5 HZ5 c2 m1 f1
      go_wp2_with fail
      go_roundw
      case rel => exact ⟨k + 1, by omega, by go_num, congrArg (Value.int .i64) HME.out, HG6, hk6⟩
      case measure => simp [intOf]; omega
    · have HF : Hid (k = L.length ∧ tyN (L.take k) = tyN L) := ⟨by omega, by rw [List.take_of_length_le (by omega)]⟩
      go_wp2_with fail
      go_ret
      exact ⟨ret_int (by rw [HF.out.2, HF.out.1]), hkp⟩
end Go.Proofs.YtoeffplfkdogdaaDoor

namespace Go.Proofs.YtoeffplfkdogdaaDoor
open Go.RowKit

/-- Types that a call has handed back: nil, or in a block of its own. -/
def TOwn (w : World) (base : Nat) (aa : Option Addr) (ca : Nat) (P : List Int) : Prop :=
  (aa = none ∧ ca = 0 ∧ P = []) ∨ ∃ t, aa = some ⟨t, 0, none⟩ ∧ P.length ≤ ca ∧ ca ≤ 9223372036854775807 ∧ base ≤ t ∧ ZSRow w t P
theorem TOwn.cap {w : World} {base : Nat} {aa : Option Addr} {ca : Nat} {P : List Int} (h : TOwn w base aa ca P) : P.length ≤ ca ∧ ca ≤ 9223372036854775807 := by
  rcases h with ⟨_, rfl, rfl⟩ | ⟨t, _, h1, h2, _⟩
  · exact ⟨Nat.le_refl _, by omega⟩
  · exact ⟨h1, h2⟩
theorem TOwn.row {w : World} {base : Nat} {aa : Option Addr} {ca : Nat} {P : List Int} (h : TOwn w base aa ca P) : ZRow .i64 w (.slice aa P.length ca) P := by
  rcases h with ⟨rfl, rfl, rfl⟩ | ⟨t, rfl, h1, h2, _, h3⟩
  · exact zrow_nil _ _
  · exact ⟨_, ca, rfl, h1, by unfold maxLen; omega, .inr ⟨t, 0, rfl, h3.1, fun j hj => by rw [Nat.zero_add]; exact (h3.2 j hj).1⟩⟩
theorem TOwn.kept {w w' : World} {base : Nat} {aa : Option Addr} {ca : Nat} {P : List Int} (h : TOwn w base aa ca P) (hb : Below w.heap.size w w') : TOwn w' base aa ca P := by
  rcases h with h | ⟨t, h1, h2, h3, h4, h5⟩
  · exact .inl h
  · exact .inr ⟨t, h1, h2, h3, h4, h5.kept hb⟩
theorem zs_kpt {a b : World} {S : Nat → Prop} {t : Nat} {P : List Int} (h : ZSRow a t P) (hk : Kpt a b S) (hn : ¬ S t) : ZSRow b t P := by
  have hb : b.heap[t]? = a.heap[t]? := hk.block t h.1 hn
  refine ⟨Nat.lt_of_lt_of_le h.1 hk.size, fun j hj => ?_⟩
  rw [World.cell?_of_block (a := ⟨t, j, none⟩) hb, World.frozen?_of_block (a := ⟨t, j, none⟩) hb]
  exact h.2 j hj
theorem TOwn.kpt {w w' : World} {base : Nat} {aa : Option Addr} {ca : Nat} {P : List Int} {S : Nat → Prop} (h : TOwn w base aa ca P) (hk : Kpt w w' S) (hn : ∀ t, aa = some ⟨t, 0, none⟩ → base ≤ t → t < w.heap.size → ¬ S t) : TOwn w' base aa ca P := by
  rcases h with h | ⟨t, h1, h2, h3, h4, h5⟩
  · exact .inl h
  · exact .inr ⟨t, h1, h2, h3, h4, zs_kpt h5 hk (hn t h1 h4 h5.1)⟩
theorem TOwn.at {w : World} {base : Nat} {aa : Option Addr} {ca : Nat} {P : List Int} (h : TOwn w base aa ca P) : ∀ t, aa = some ⟨t, 0, none⟩ → base ≤ t ∧ t < w.heap.size := by
  intro t ht
  rcases h with ⟨rfl, _⟩ | ⟨t2, rfl, _, _, h4, h5⟩
  · cases ht
  · cases ht; exact ⟨h4, h5.1⟩
theorem kpt_heap {a b : World} {S : Nat → Prop} (h : Kpt a b S) {k : Nat} {o : Obj} (hk : a.heap[k]? = some o) (hn : ¬ S k) : b.heap[k]? = some o := (h.block k (Array.getElem?_eq_some_iff.1 hk).1 hn).trans hk

set_option maxRecDepth 20000 in
set_option maxHeartbeats 2000000 in
theorem markGap_any (y : List UInt8 × List UInt8 × List Int) (aa : Option Addr) (ca base : Nat) (w : World) (h : TOwn w base aa ca y.2.2) (hL : y.2.2.length ≤ 1048576) :
    Calls Tryd.prog 12 #[.agg #[.string ⟨y.1.toArray⟩, .string ⟨y.2.1.toArray⟩, .slice aa y.2.2.length ca], .int .i64 1] w fun e w' => e = .returned (.int .i64 (1 + (y.2.2.length : Int))) ∧ TOwn w' base aa ca (mksZ 1 y.2.2.length) ∧ Kpt w w' (fun b => aa = some ⟨b, 0, none⟩) := by
  have hcap := h.cap
  have HB : Hid (Below w.heap.size w (w.alloc (.cells #[.string ⟨y.1.toArray⟩, .string ⟨y.2.1.toArray⟩, .slice aa y.2.2.length ca] 26))) := (Below.refl _ _).alloc (Nat.le_refl _) _
  have HM : Hid (Calls Tryd.prog 33 #[.slice aa y.2.2.length ca, .int .i64 1] (w.alloc (.cells #[.string ⟨y.1.toArray⟩, .string ⟨y.2.1.toArray⟩, .slice aa y.2.2.length ca] 26)) fun e w' => e = .returned (.int .i64 (1 + (y.2.2.length : Int))) ∧ TOwn w' base aa ca (mksZ 1 y.2.2.length) ∧ Kpt w w' (fun b => aa = some ⟨b, 0, none⟩)) := by
    rcases h.kept HB.out with ⟨rfl, rfl, h0⟩ | ⟨t, rfl, h1, h2, h3, h4⟩
    · rw [h0]
      have HB2 : Hid (Kpt w (w.alloc (.cells #[.string ⟨y.1.toArray⟩, .string ⟨y.2.1.toArray⟩, .slice none ([] : List Int).length 0] 26)) (fun b => (none : Option Addr) = some ⟨b, 0, none⟩)) := kpt_alloc _ _ _
      go_enter Tryd.func33, Tryd.ntmps33
      go_wp2_with fail
      go_rounds 1
      go_ret
      exact ⟨rfl, .inl ⟨rfl, rfl, rfl⟩, HB2.out⟩
    · refine (markIntZ_any t ca 1 y.2.2 _ h4 hL h1 h2 (by omega)).mono fun e w' hh => ⟨hh.1, .inr ⟨t, rfl, by rw [mksZ_length]; exact h1, h2, h3, hh.2.1⟩, ?_⟩
      exact (kpt_alloc _ _ _).trans ((grown_kpt hh.2.2).mono (fun b _ e => by cases e; rfl))
  clear h
  go_enter Tryd.func12, Tryd.ntmps12
  go_wp2_with fail
  refine HM.out.mono ?_
  rintro e w2 ⟨rfl, h2, hk⟩
  have H2 : Hid (TOwn w2 base aa ca (mksZ 1 y.2.2.length)) := h2
  clear h2
  go_wp2_with fail
  go_ret
  exact ⟨rfl, H2.out, hk⟩
set_option maxRecDepth 20000 in
set_option maxHeartbeats 2000000 in
theorem heldGap_any (y : List UInt8 × List UInt8 × List Int) (aa : Option Addr) (ca base : Nat) (w : World) (h : TOwn w base aa ca (mksZ 1 y.2.2.length)) (hL : y.2.2.length ≤ 1048576) :
    Calls Tryd.prog 13 #[.agg #[.string ⟨y.1.toArray⟩, .string ⟨y.2.1.toArray⟩, .slice aa y.2.2.length ca], .int .i64 1] w fun e w' => e = .returned (.int .i64 (1 + (y.2.2.length : Int))) ∧ Below w.heap.size w w' := by
  have hcap := h.cap
  rw [mksZ_length] at hcap
  have HB : Hid (Below w.heap.size w (w.alloc (.cells #[.string ⟨y.1.toArray⟩, .string ⟨y.2.1.toArray⟩, .slice aa y.2.2.length ca] 26))) := (Below.refl _ _).alloc (Nat.le_refl _) _
  have HM : Hid (Calls Tryd.prog 34 #[.slice aa y.2.2.length ca, .int .i64 1] (w.alloc (.cells #[.string ⟨y.1.toArray⟩, .string ⟨y.2.1.toArray⟩, .slice aa y.2.2.length ca] 26)) fun e w' => e = .returned (.int .i64 (1 + (y.2.2.length : Int))) ∧ w' = w.alloc (.cells #[.string ⟨y.1.toArray⟩, .string ⟨y.2.1.toArray⟩, .slice aa y.2.2.length ca] 26)) := by
    have hr := (h.kept HB.out).row
    rw [mksZ_length] at hr
    exact heldIntZ_any _ y.2.2.length 1 _ hr hL (by omega)
  clear h
  go_enter Tryd.func13, Tryd.ntmps13
  go_wp2_with fail
  refine HM.out.mono ?_
  rintro e w2 ⟨rfl, rfl⟩
  have hbw := HB.out
  go_wp2_with fail
  go_ret
  exact ⟨rfl, hbw⟩
end Go.Proofs.YtoeffplfkdogdaaDoor
