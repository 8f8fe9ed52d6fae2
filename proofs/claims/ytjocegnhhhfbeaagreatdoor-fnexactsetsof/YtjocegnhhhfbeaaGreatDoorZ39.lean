import Derived.Test.YtjocegnhhhfbeaaGreatDoorZ38
import Derived.Test.YtjocegnhhhfbeaaGreatDoorZ36
namespace Go.Proofs.YtjocegnhhhfbeaaGreatDoor
open Go.RowKit

theorem set_at {D : List (SetT × Value)} (k : Nat) (hk : k < D.length) : ∃ A B, D = A ++ D[k] :: B ∧ A.length = k := by
  refine ⟨D.take k, D.drop (k + 1), ?_, by simp; omega⟩
  rw [← List.drop_eq_getElem_cons hk, List.take_append_drop]
/-- What eqSet is told of a place. -/
theorem place_of {W : World} {base : Nat} {v : Value} {D : List (SetT × Value)} (h : Bld W base v D) (k : Nat) (hk : k < D.length) : ∃ g cap, v = .slice (some ⟨g, 0, none⟩) D.length cap ∧ (W.cell? ⟨g, k * 4, none⟩ = some (.string ⟨D[k].1.1.toArray⟩) ∧ W.cell? ⟨g, k * 4 + 1, none⟩ = some (.int .i64 D[k].1.2.1) ∧ W.cell? ⟨g, k * 4 + 2, none⟩ = some (.int .i64 D[k].1.2.2.1) ∧ W.cell? ⟨g, k * 4 + 3, none⟩ = some D[k].2) ∧ Row W D[k].2 D[k].1.2.2.2 := by
  obtain ⟨A, B, e, hA⟩ := set_at k hk
  obtain ⟨g, cap, hv, _, _, _⟩ := h.form (by omega)
  have h2 := h
  rw [e, hv] at h2
  have h3 := h2.at.1
  rw [hA] at h3
  exact ⟨g, cap, hv, h3, h.text (List.getElem_mem hk)⟩

set_option maxRecDepth 20000 in
set_option maxHeartbeats 1000000 in
theorem eqSet_same (x : SetT) (v v2 : Value) (w : World) (ha : Row w v x.2.2.2) (ha2 : Row w v2 x.2.2.2) :
    Calls Tryz.prog 30 #[.agg #[.string ⟨x.1.toArray⟩, .int .i64 x.2.1, .int .i64 x.2.2.1, v], .agg #[.string ⟨x.1.toArray⟩, .int .i64 x.2.1, .int .i64 x.2.2.1, v2]] w fun e w' => e = .returned (.bool true) ∧ Below w.heap.size w w' := by
  obtain ⟨n0, ty, tl, P⟩ := x
  simp only at ha ha2 ⊢
  obtain ⟨aa, ca, rfl, _, hca, _⟩ := id ha
  obtain ⟨aa2, ca2, rfl, _, hca2, _⟩ := id ha2
  have HRA : Hid (∀ W, Below w.heap.size w W → Calls Tryz.prog 51 #[.slice aa P.length ca, .slice aa2 P.length ca2] W fun e w' => e = .returned (.bool true) ∧ Below W.heap.size W w') := fun W hW => by
    have lt1 : ∀ a n c, Value.slice aa P.length ca = .slice (some a) n c → P ≠ [] → a.block < w.heap.size := fun a n c e hp => by
      obtain ⟨_, _, e1, _, _, h3⟩ := id ha
      cases e1; cases e
      rcases h3 with h3 | ⟨b, o, e2, hb, _⟩
      · exact absurd h3 hp
      · cases e2; exact hb
    have lt2 : ∀ a n c, Value.slice aa2 P.length ca2 = .slice (some a) n c → P ≠ [] → a.block < w.heap.size := fun a n c e hp => by
      obtain ⟨_, _, e1, _, _, h3⟩ := id ha2
      cases e1; cases e
      rcases h3 with h3 | ⟨b, o, e2, hb, _⟩
      · exact absurd h3 hp
      · cases e2; exact hb
    have h := eqStringS_any _ _ P P W (ha.below hW lt1) (ha2.below hW lt2)
    rw [show (P == P) = true by simp] at h
    exact h
  clear ha ha2
  go_enter Tryz.func30, Tryz.ntmps30
  go_wp2_with fail
  refine (HRA.out _ (((Below.refl w.heap.size w).alloc (Nat.le_refl _) _).alloc (by simp) _)).mono ?_
  rintro e w1 ⟨rfl, hb1⟩
  obtain ⟨_, _, hbw⟩ := box2 hb1
  go_wp2_with fail
  go_ret
  exact ⟨rfl, hbw⟩

set_option maxRecDepth 20000 in
set_option maxHeartbeats 2000000 in
theorem eqSetS_same (v1 v2 : Value) (D1 D2 : List (SetT × Value)) (b1 b2 : Nat) (w : World) (h1 : Bld w b1 v1 D1) (h2 : Bld w b2 v2 D2) (he : D1.map (fun x => x.1) = D2.map (fun x => x.1)) :
    Calls Tryz.prog 9 #[v1, v2] w fun e w' => e = .returned (.bool true) ∧ Below w.heap.size w w' := by
  have hl : D1.length = D2.length := by have h := congrArg List.length he; simpa using h
  have hev : ∀ k, (hk : k < D1.length) → (D1[k]).1 = (D2[k]'(by omega)).1 := fun k hk => by
    have h := congrArg (fun l => l[k]?) he
    simp only [List.getElem?_map, List.getElem?_eq_getElem hk, List.getElem?_eq_getElem (show k < D2.length by omega), Option.map_some, Option.some.injEq] at h
    exact h
  have HP : Hid (∀ k, (hk : k < D1.length) → ∃ (g1 c1 g2 c2 : Nat) (x : SetT) (va vb : Value), v1 = .slice (some ⟨g1, 0, none⟩) D1.length c1 ∧ v2 = .slice (some ⟨g2, 0, none⟩) D1.length c2 ∧ ∀ W, Below w.heap.size w W → ((W.cell? ⟨g1, k * 4, none⟩ = some (.string ⟨x.1.toArray⟩) ∧ W.cell? ⟨g1, k * 4 + 1, none⟩ = some (.int .i64 x.2.1) ∧ W.cell? ⟨g1, k * 4 + 2, none⟩ = some (.int .i64 x.2.2.1) ∧ W.cell? ⟨g1, k * 4 + 3, none⟩ = some va) ∧ (W.cell? ⟨g2, k * 4, none⟩ = some (.string ⟨x.1.toArray⟩) ∧ W.cell? ⟨g2, k * 4 + 1, none⟩ = some (.int .i64 x.2.1) ∧ W.cell? ⟨g2, k * 4 + 2, none⟩ = some (.int .i64 x.2.2.1) ∧ W.cell? ⟨g2, k * 4 + 3, none⟩ = some vb)) ∧ Row W va x.2.2.2 ∧ Row W vb x.2.2.2) := fun k hk => by
    obtain ⟨g1, c1, e1, _, _⟩ := place_of h1 k hk
    obtain ⟨g2, c2, e2, _, _⟩ := place_of h2 k (by omega)
    refine ⟨g1, c1, g2, c2, D1[k].1, D1[k].2, (D2[k]'(by omega)).2, e1, by rw [hl]; exact e2, fun W hW => ?_⟩
    obtain ⟨q1, d1, f1, p1, r1⟩ := place_of (h1.kept hW) k hk
    obtain ⟨q2, d2, f2, p2, r2⟩ := place_of (h2.kept hW) k (show k < D2.length by omega)
    rw [e1] at f1
    rw [e2] at f2
    cases f1
    cases f2
    rw [hev k hk] at p1 r1 ⊢
    exact ⟨⟨p1, p2⟩, r1, r2⟩
  obtain ⟨a1, cp1, hv1, hcp1, hcm1⟩ := h1.shape
  obtain ⟨a2, cp2, hv2, hcp2, hcm2⟩ := h2.shape
  obtain ⟨n, hn⟩ : ∃ n, n = D1.length := ⟨_, rfl⟩
  rw [← hl, ← hn] at hv2 hcp2
  rw [← hn] at hv1 hcp1 HP
  have el : ((n : Int) != (n : Int)) = false := by simp
  clear h1 h2 hev hl he hn
  subst hv1 hv2
  go_enter Tryz.func9, Tryz.ntmps9
  go_wp2_with fail
  go_loopw [5] (fun i wr => ∃ k : Nat, k ≤ n ∧ i = .int .i64 (k : Int) ∧ Below w.heap.size w wr) (fun i _ => n - (intOf i).toNat)
  case atStart => exact ⟨0, Nat.zero_le _, rfl, Below.refl _ _⟩
  case round =>
    obtain ⟨k, hk, rfl, hb⟩ := hrel
    by_cases hlt : k < n
    · obtain ⟨g1, c1, g2, c2, x, va, vb, e1, e2, hc⟩ := HP.out k hlt
      obtain ⟨rfl, rfl⟩ : a1 = some ⟨g1, 0, none⟩ ∧ cp1 = c1 := by cases e1; exact ⟨rfl, rfl⟩
      obtain ⟨rfl, rfl⟩ : a2 = some ⟨g2, 0, none⟩ ∧ cp2 = c2 := by cases e2; exact ⟨rfl, rfl⟩
      have HC : Hid (∀ W, Below w.heap.size w W → ((W.cell? ⟨g1, k * 4, none⟩ = some (.string ⟨x.1.toArray⟩) ∧ W.cell? ⟨g1, k * 4 + 1, none⟩ = some (.int .i64 x.2.1) ∧ W.cell? ⟨g1, k * 4 + 2, none⟩ = some (.int .i64 x.2.2.1) ∧ W.cell? ⟨g1, k * 4 + 3, none⟩ = some va) ∧ (W.cell? ⟨g2, k * 4, none⟩ = some (.string ⟨x.1.toArray⟩) ∧ W.cell? ⟨g2, k * 4 + 1, none⟩ = some (.int .i64 x.2.1) ∧ W.cell? ⟨g2, k * 4 + 2, none⟩ = some (.int .i64 x.2.2.1) ∧ W.cell? ⟨g2, k * 4 + 3, none⟩ = some vb))) := fun W hW => (hc W hW).1
      have HEQ : Hid (∀ W, Below w.heap.size w W → Calls Tryz.prog 30 #[.agg #[.string ⟨x.1.toArray⟩, .int .i64 x.2.1, .int .i64 x.2.2.1, va], .agg #[.string ⟨x.1.toArray⟩, .int .i64 x.2.1, .int .i64 x.2.2.1, vb]] W fun e w' => e = .returned (.bool true) ∧ Below W.heap.size W w') := fun W hW => eqSet_same x va vb W (hc W hW).2.1 (hc W hW).2.2
      have hki : (k : Int) < (n : Int) := by omega
      have hbd := hb.drew
      clear hc HP e1 e2
      go_wp2_with fail
      refine wp_region_quiet (C := fun W => Below w.heap.size w W) (by kernel_rfl) (by kernel_rfl) hbd ?_
      refine wpQuiet_step (fun K hK => ?_)
      rw [if_pos (by rfl)]
      refine ⟨.slice (some ⟨g1, 0, none⟩) n cp1, fun W hW => quiet_ok ?_, hK _ ?_⟩
      · have f := HC.out W hW
        obtain ⟨⟨c0, c1, c2, c3⟩, ⟨e0, e1, e2, e3⟩⟩ := f
        go_simp
        all_goals (try omega)
      clear hK K
      simp only [Act.put, List.setIfInBounds_toArray, List.set_cons_succ, List.set_cons_zero]
      refine wpQuiet_step (fun K hK => ?_)
      rw [if_pos (by rfl)]
      refine ⟨.int .i64 (k : Int), fun W hW => quiet_ok ?_, hK _ ?_⟩
      · have f := HC.out W hW
        obtain ⟨⟨c0, c1, c2, c3⟩, ⟨e0, e1, e2, e3⟩⟩ := f
        go_simp
        all_goals (try omega)
      clear hK K
      simp only [Act.put, List.setIfInBounds_toArray, List.set_cons_succ, List.set_cons_zero]
      refine wpQuiet_step (fun K hK => ?_)
      rw [if_pos (by rfl)]
      refine ⟨.pointer (some ⟨g1, k * 4, none⟩), fun W hW => quiet_ok ?_, hK _ ?_⟩
      · have f := HC.out W hW
        obtain ⟨⟨c0, c1, c2, c3⟩, ⟨e0, e1, e2, e3⟩⟩ := f
        go_simp
        all_goals (try omega)
      clear hK K
      simp only [Act.put, List.setIfInBounds_toArray, List.set_cons_succ, List.set_cons_zero]
      refine wpQuiet_step (fun K hK => ?_)
      rw [if_pos (by rfl)]
      refine ⟨.agg #[.string ⟨x.1.toArray⟩, .int .i64 x.2.1, .int .i64 x.2.2.1, va], fun W hW => quiet_ok ?_, hK _ ?_⟩
      · have f := HC.out W hW
        obtain ⟨⟨c0, c1, c2, c3⟩, ⟨e0, e1, e2, e3⟩⟩ := f
        go_simp
        all_goals (try omega)
      clear hK K
      simp only [Act.put, List.setIfInBounds_toArray, List.set_cons_succ, List.set_cons_zero]
      refine wpQuiet_step (fun K hK => ?_)
      rw [if_pos (by rfl)]
      refine ⟨.slice (some ⟨g2, 0, none⟩) n cp2, fun W hW => quiet_ok ?_, hK _ ?_⟩
      · have f := HC.out W hW
        obtain ⟨⟨c0, c1, c2, c3⟩, ⟨e0, e1, e2, e3⟩⟩ := f
        go_simp
        all_goals (try omega)
      clear hK K
      simp only [Act.put, List.setIfInBounds_toArray, List.set_cons_succ, List.set_cons_zero]
      refine wpQuiet_step (fun K hK => ?_)
      rw [if_pos (by rfl)]
      refine ⟨.int .i64 (k : Int), fun W hW => quiet_ok ?_, hK _ ?_⟩
      · have f := HC.out W hW
        obtain ⟨⟨c0, c1, c2, c3⟩, ⟨e0, e1, e2, e3⟩⟩ := f
        go_simp
        all_goals (try omega)
      clear hK K
      simp only [Act.put, List.setIfInBounds_toArray, List.set_cons_succ, List.set_cons_zero]
      refine wpQuiet_step (fun K hK => ?_)
      rw [if_pos (by rfl)]
      refine ⟨.pointer (some ⟨g2, k * 4, none⟩), fun W hW => quiet_ok ?_, hK _ ?_⟩
      · have f := HC.out W hW
        obtain ⟨⟨c0, c1, c2, c3⟩, ⟨e0, e1, e2, e3⟩⟩ := f
        go_simp
        all_goals (try omega)
      clear hK K
      simp only [Act.put, List.setIfInBounds_toArray, List.set_cons_succ, List.set_cons_zero]
      refine wpQuiet_step (fun K hK => ?_)
      rw [if_pos (by rfl)]
      refine ⟨.agg #[.string ⟨x.1.toArray⟩, .int .i64 x.2.1, .int .i64 x.2.2.1, vb], fun W hW => quiet_ok ?_, hK _ ?_⟩
      · have f := HC.out W hW
        obtain ⟨⟨c0, c1, c2, c3⟩, ⟨e0, e1, e2, e3⟩⟩ := f
        go_simp
        all_goals (try omega)
      clear hK K
      simp only [Act.put, List.setIfInBounds_toArray, List.set_cons_succ, List.set_cons_zero]
      refine wpQuiet_step (fun K hK => ?_)
      rw [if_pos (by rfl)]
      refine ⟨.bool true, fun W hW => quiet_call (f := 30) (args := #[.agg #[.string ⟨x.1.toArray⟩, .int .i64 x.2.1, .int .i64 x.2.2.1, va], .agg #[.string ⟨x.1.toArray⟩, .int .i64 x.2.1, .int .i64 x.2.2.1, vb]]) ?_ ?_, hK _ ?_⟩
      · go_simp
      · exact (HEQ.out W hW).mono fun e w'' h => ⟨h.1, hW.trans (h.2.mono hW.size)⟩
      clear hK K
      simp only [Act.put, List.setIfInBounds_toArray, List.set_cons_succ, List.set_cons_zero]
      refine wpQuiet_step (fun K hK => ?_)
      rw [if_pos (by rfl)]
      refine ⟨.bool false, fun W hW => quiet_ok ?_, hK _ ?_⟩
      · have f := HC.out W hW
        obtain ⟨⟨c0, c1, c2, c3⟩, ⟨e0, e1, e2, e3⟩⟩ := f
        go_simp
        all_goals (try omega)
      clear hK K
      simp only [Act.put, List.setIfInBounds_toArray, List.set_cons_succ, List.set_cons_zero]
      refine wpQuiet_nil ?_
      intro W hW
      go_wp2_with fail
      go_roundw
      case rel => exact ⟨k + 1, by omega, by go_num, hW⟩
      case measure => simp [intOf]; omega
    · go_wp2_with fail
      go_ret
      exact ⟨rfl, hb⟩

/-- Sets with marks in them, from a number on. -/
def mkS (K : Nat) (x : SetT × Value) : SetT × Value := ((mark K, (K : Int) + 1, (K : Int) + 2, marksK (K + 3) x.1.2.2.2.length), x.2)
def markD : Nat → List (SetT × Value) → List (SetT × Value)
  | _, [] => []
  | K, x :: r => mkS K x :: markD (K + 3 + x.1.2.2.2.length) r
def totD : List (SetT × Value) → Nat
  | [] => 0
  | x :: r => 3 + x.1.2.2.2.length + totD r
theorem totD_cons (x : SetT × Value) (r : List (SetT × Value)) : totD (x :: r) = 3 + x.1.2.2.2.length + totD r := rfl
theorem markD_cons (K : Nat) (x : SetT × Value) (r : List (SetT × Value)) : markD K (x :: r) = mkS K x :: markD (K + 3 + x.1.2.2.2.length) r := rfl
theorem totD_le {D : List (SetT × Value)} {m : Nat} (h : ∀ x ∈ D, x.1.2.2.2.length ≤ m) : totD D ≤ D.length * (m + 3) := by
  induction D with
  | nil => simp [totD]
  | cons x r ih =>
    have h1 := h x (by simp)
    have h2 := ih (fun y hy => h y (by simp [hy]))
    simp only [totD, List.length_cons, Nat.add_mul]
    omega

set_option maxRecDepth 20000 in
set_option maxHeartbeats 4000000 in
theorem markSetS_any (v : Value) (D : List (SetT × Value)) (base : Nat) (w : World) (h : Bld w base v D) (hbase : base ≤ w.heap.size) (hl : D.length ≤ 100) (hd : Hid (∀ x ∈ D, x.1.2.2.2.length ≤ 1000)) :
    Calls Tryz.prog 12 #[v, .int .i64 1] w fun e w' => e = .returned (.int .i64 (1 + (totD D : Int))) ∧ Bld w' base v (markD 1 D) ∧ Below base w w' := by
  have HB0 : Hid (Bld w base v D) := h
  obtain ⟨a, cap, hv, hc1, hc2⟩ := h.shape
  have htot := totD_le hd.out
  have HTOT : Hid (totD D ≤ 200000) := by show totD D ≤ 200000; have : D.length * (1000 + 3) ≤ 100 * 1003 := Nat.mul_le_mul hl (Nat.le_refl _); omega
  have HFORM : Hid (0 < D.length → ∃ g, a = some ⟨g, 0, none⟩ ∧ base ≤ g) := fun hp => by
    obtain ⟨g, c, e, _, _, hg⟩ := h.form hp
    rw [hv] at e
    cases e
    exact ⟨g, rfl, hg⟩
  subst hv
  obtain ⟨n, hn⟩ : ∃ n, n = D.length := ⟨_, rfl⟩
  rw [← hn] at hc1 HB0 HFORM ⊢
  have HNL : Hid (n = D.length) := hn
  have hn100 : n ≤ 100 := by omega
  clear h htot hn hl
  go_enter Tryz.func12, Tryz.ntmps12
  go_wp2_with fail
  go_loopw [1, 5] (fun q i wr => ∃ (KK : Nat) (A B : List (SetT × Value)), (A.length ≤ n ∧ n ≤ A.length + B.length ∧ A.length + B.length ≤ n) ∧ 0 < KK ∧ i = .int .i64 (A.length : Int) ∧ q = .int .i64 (KK : Int) ∧ Hid (markD 1 D = A ++ markD KK B) ∧ Hid (KK + totD B = 1 + totD D) ∧ Hid (∀ x ∈ B, x.1.2.2.2.length ≤ 1000) ∧ Hid (Bld wr base (.slice a n cap) (A ++ B)) ∧ Below base w wr) (fun _ i _ => n - (intOf i).toNat)
  case atStart => exact ⟨1, [], D, ⟨Nat.zero_le _, by rw [HNL.out]; simp, by rw [HNL.out]; simp⟩, Nat.one_pos, rfl, rfl, rfl, rfl, hd, HB0, Below.refl _ _⟩
  case round =>
    obtain ⟨KK, A, B, ⟨hA1, hA2, hA3⟩, hK0, rfl, rfl, HM, HT, HDB, HB, hb⟩ := hrel
    clear HB0
    cases B with
    | cons x B =>
      simp only [List.length_cons] at hA2 hA3
      obtain ⟨g, ha, hg⟩ := HFORM.out (by omega)
      subst ha
      have hKt : KK ≤ 300000 := by
        have h1 := HT.out
        have h2 := HTOT.out
        rw [totD_cons] at h1
        omega
      obtain ⟨m, hm⟩ : ∃ m, m = A.length := ⟨_, rfl⟩
      have HMA : Hid (m = A.length) := hm
      rw [← hm] at hA1 hA2 hA3 ⊢
      have hmn : m < n := by omega
      have hmi : (m : Int) < (n : Int) := by omega
      have HMK : Hid (∀ W, Calls Tryz.prog 32 #[.int .i64 (KK : Int)] W fun e w' => e = .returned (.string ⟨(mark KK).toArray⟩) ∧ Below W.heap.size W w') := fun W => markText_any (KK : Int) KK W rfl (by omega) (by omega)
      have HXD : Hid (x.1.2.2.2.length ≤ 1000) := HDB.out x (by simp)
      obtain ⟨⟨xn, xt, xl, xd⟩, dv⟩ := x
      obtain ⟨y, hy⟩ : ∃ y, y = mark KK := ⟨_, rfl⟩
      have HY : Hid (y = mark KK) := hy
      rw [← hy] at HMK
      clear hm hy
      go_wp2_with fail
      refine (HMK.out _).mono ?_
      rintro e w1 ⟨rfl, hb1⟩
      have hbB1 : Below base w w1 := hb.trans (hb1.mono (Nat.le_trans hbase hb.size))
      have hz1 : base ≤ w1.heap.size := Nat.le_trans hbase hbB1.size
      have hB1 := HB.out.kept hb1
      obtain ⟨⟨c0, c1, c2, c3⟩, hfz⟩ := hB1.at
      rw [← HMA.out] at c0 c1 c2 c3
      obtain ⟨hP1, hG1⟩ := hB1.put (y := ((y, xt, xl, xd), dv)) 0 (.string ⟨y.toArray⟩) (by omega) rfl rfl rfl
      obtain ⟨hP2, hG2⟩ := hP1.put (y := ((y, (KK : Int) + 1, xl, xd), dv)) 1 (.int .i64 ((KK : Int) + 1)) (by omega) rfl rfl rfl
      obtain ⟨hP3, hG3⟩ := hP2.put (y := ((y, (KK : Int) + 1, (KK : Int) + 1 + 1, xd), dv)) 2 (.int .i64 ((KK : Int) + 1 + 1)) (by omega) rfl rfl rfl
      rw [← HMA.out, Nat.add_zero] at hP3 hG1 hG2 hG3
      have f0 := hfz (m * 4)
      have f1 := hfz (m * 4 + 1)
      have f2 := hfz (m * 4 + 2)
      obtain ⟨W3, hW3⟩ : ∃ W3, W3 = ((w1.setCell ⟨g, m * 4, none⟩ (.string ⟨y.toArray⟩)).setCell ⟨g, m * 4 + 1, none⟩ (.int .i64 ((KK : Int) + 1))).setCell ⟨g, m * 4 + 2, none⟩ (.int .i64 ((KK : Int) + 1 + 1)) := ⟨_, rfl⟩
      have HW3 : Hid (((w1.setCell ⟨g, m * 4, none⟩ (.string ⟨y.toArray⟩)).setCell ⟨g, m * 4 + 1, none⟩ (.int .i64 ((KK : Int) + 1))).setCell ⟨g, m * 4 + 2, none⟩ (.int .i64 ((KK : Int) + 1 + 1)) = W3) := hW3.symm
      have hg3 : w1.grownBy W3 (some g) := by rw [hW3]; exact grown_set (grown_set (grown_set (grown_refl _ _)))
      rw [← hW3] at hP3
      have HP3 : Hid (Bld W3 base (.slice (some ⟨g, 0, none⟩) n cap) (A ++ ((y, (KK : Int) + 1, (KK : Int) + 1 + 1, xd), dv) :: B)) := hP3
      have hbB3 : Below base w W3 := hbB1.grown hg3 hz1 (fun k hk => by cases hk; exact hg)
      have hz3 : base ≤ W3.heap.size := Nat.le_trans hbase hbB3.size
      have HMS : Hid (Calls Tryz.prog 33 #[dv, .int .i64 ((KK : Int) + 1 + 1 + 1)] W3 fun e w' => e = .returned (.int .i64 ((KK : Int) + 1 + 1 + 1 + (xd.length : Int))) ∧ w'.ownsRow base 9 1 dv xd.length ((marksK (KK + 3) xd.length).map S) ∧ W3.grownBy w' dv.ownBlock) := by
        have h := markStrK_any dv xd (KK + 3) base W3 (hP3.2.1 _ (by simp : ((y, (KK : Int) + 1, (KK : Int) + 1 + 1, xd), dv) ∈ A ++ ((y, (KK : Int) + 1, (KK : Int) + 1 + 1, xd), dv) :: B)).1 (Nat.le_trans (show xd.length ≤ 1000 from HXD.out) (by omega)) (by omega) (by omega)
        have e : ((KK + 3 : Nat) : Int) = (KK : Int) + 1 + 1 + 1 := by omega
        rw [e] at h
        exact h
      have z3 : W3.cell? ⟨g, m * 4 + 3, none⟩ = some dv := by have h := hP3.at.1.2.2.2; rw [← HMA.out] at h; exact h
      obtain ⟨ad, nd, cd, hdv⟩ : ∃ ad nd cd, dv = .slice ad nd cd := by
        rcases (hP3.2.1 _ (by simp : ((y, (KK : Int) + 1, (KK : Int) + 1 + 1, xd), dv) ∈ A ++ ((y, (KK : Int) + 1, (KK : Int) + 1 + 1, xd), dv) :: B)).1.2 with ⟨h, _⟩ | ⟨q, c, _, h, _⟩
        · exact ⟨_, _, _, h⟩
        · exact ⟨_, _, _, h⟩
      have HDG : Hid (∀ k, dv.ownBlock = some k → base ≤ k) := fun k hk => ((hP3.2.1 _ (by simp : ((y, (KK : Int) + 1, (KK : Int) + 1 + 1, xd), dv) ∈ A ++ ((y, (KK : Int) + 1, (KK : Int) + 1 + 1, xd), dv) :: B)).1.lt k hk).1
      subst hdv
      clear hP1 hP2 hP3 hG1 hG2 hG3 hg3 hW3 hB1 hfz hb1
      have wk1 : IntKind.i64.wrap ((KK : Int) + 1) = (KK : Int) + 1 := wrap_small _ (by omega) (by omega)
      have wk2 : IntKind.i64.wrap ((KK : Int) + 1 + 1) = (KK : Int) + 1 + 1 := wrap_small _ (by omega) (by omega)
      have wk3 : IntKind.i64.wrap ((KK : Int) + 1 + 1 + 1) = (KK : Int) + 1 + 1 + 1 := wrap_small _ (by omega) (by omega)
      go_wp2_with fail
      rw [HW3.out]
      clear c0 c1 c2 c3 f0 f1 f2
      go_wp2_with fail
      refine HMS.out.mono ?_
      rintro e w5 ⟨rfl, ho5, hg5⟩
      have hbB5 : Below base w w5 := hbB3.grown hg5 hz3 HDG.out
      have HB5 : Hid (Bld w5 base (.slice (some ⟨g, 0, none⟩) n cap) (A ++ [mkS KK ((xn, xt, xl, xd), .slice ad nd cd)] ++ B)) := by
        have h := HP3.out.over (d := marksK (KK + 3) xd.length) (marksK_length _ _) ho5 hg5
        have e : (KK : Int) + 1 + 1 = (KK : Int) + 2 := by omega
        rw [List.append_assoc]
        unfold mkS
        rw [← HY.out, ← e]
        exact h
      have HM5 : Hid (markD 1 D = A ++ [mkS KK ((xn, xt, xl, xd), .slice ad nd cd)] ++ markD (KK + 3 + xd.length) B) := by rw [HM.out, List.append_assoc]; exact rfl
      have HT5 : Hid (KK + 3 + xd.length + totD B = 1 + totD D) := by have h := HT.out; rw [totD_cons] at h; have e : (((xn, xt, xl, xd), Value.slice ad nd cd) : SetT × Value).1.2.2.2.length = xd.length := rfl; rw [e] at h; show _ = _; omega
      have HA5 : Hid ((A ++ [mkS KK ((xn, xt, xl, xd), Value.slice ad nd cd)]).length = m + 1) := by show _ = _; rw [List.length_append, ← HMA.out]; rfl
      have HDB5 : Hid (∀ x ∈ B, x.1.2.2.2.length ≤ 1000) := fun z hz => HDB.out z (by simp [hz])
      have HKK : Hid ((KK : Int) + 1 + 1 + 1 + (xd.length : Int) = ((KK + 3 + xd.length : Nat) : Int)) := by show _ = _; omega
      clear ho5 hg5 z3 HMS HP3
      go_wp2_with fail
      go_roundw
      case rel => exact ⟨KK + 3 + xd.length, _, B, ⟨by rw [HA5.out]; omega, by rw [HA5.out]; omega, by rw [HA5.out]; omega⟩, by omega, by rw [HA5.out]; go_num, by rw [HKK.out], HM5, HT5, HDB5, HB5, hbB5⟩
      case measure => simp [intOf]; omega
    | nil =>
      simp only [List.length_nil, Nat.add_zero] at hA2 hA3
      have HF : Hid (Bld wr base (.slice a n cap) (markD 1 D)) := by have h := HB.out; rw [List.append_nil] at h; have e := HM.out; rw [show markD KK [] = [] from rfl, List.append_nil] at e; have h2 : Bld wr base (.slice a n cap) (markD 1 D) := (by rw [e]; exact h); exact h2
      have HQ : Hid ((KK : Int) = 1 + (totD D : Int)) := by have h := HT.out; rw [show totD [] = 0 from rfl] at h; show _ = _; omega
      have hAn : ¬ (A.length : Int) < (n : Int) := by omega
      clear HM HT HB
      go_wp2_with fail
      go_ret
      exact ⟨ret_int HQ.out, HF.out, hb⟩

set_option maxRecDepth 20000 in
set_option maxHeartbeats 4000000 in
theorem heldSetS_any (v : Value) (D : List (SetT × Value)) (base : Nat) (w : World) (h : Bld w base v (markD 1 D)) (hl : D.length ≤ 100) (hd : Hid (∀ x ∈ D, x.1.2.2.2.length ≤ 1000)) :
    Calls Tryz.prog 13 #[v, .int .i64 1] w fun e w' => e = .returned (.int .i64 (1 + (totD D : Int))) ∧ Below w.heap.size w w' := by
  have HB0 : Hid (Bld w base v (markD 1 D)) := h
  have hlen : ∀ (L : List (SetT × Value)) (K : Nat), (markD K L).length = L.length := fun L => by
    induction L with
    | nil => intro K; rfl
    | cons x r ih => intro K; simp only [markD, List.length_cons, ih]
  obtain ⟨a, cap, hv, hc1, hc2⟩ := h.shape
  have htot := totD_le hd.out
  have HTOT : Hid (totD D ≤ 200000) := by show totD D ≤ 200000; have : D.length * (1000 + 3) ≤ 100 * 1003 := Nat.mul_le_mul hl (Nat.le_refl _); omega
  have HFORM : Hid (0 < D.length → ∃ g, a = some ⟨g, 0, none⟩) := fun hp => by
    obtain ⟨g, c, e, _, _, hg⟩ := h.form (by rw [hlen]; exact hp)
    rw [hv] at e
    cases e
    exact ⟨g, rfl⟩
  rw [hlen] at hv hc1
  subst hv
  obtain ⟨n, hn⟩ : ∃ n, n = D.length := ⟨_, rfl⟩
  rw [← hn] at hc1 HB0 HFORM ⊢
  have HNL : Hid (n = D.length) := hn
  have hn100 : n ≤ 100 := by omega
  clear h htot hn hl hlen
  go_enter Tryz.func13, Tryz.ntmps13
  go_wp2_with fail
  go_loopw [1, 5] (fun q i wr => ∃ (KK : Nat) (A B : List (SetT × Value)), (A.length ≤ n ∧ n ≤ A.length + B.length ∧ A.length + B.length ≤ n) ∧ 0 < KK ∧ i = .int .i64 (A.length : Int) ∧ q = .int .i64 (KK : Int) ∧ Hid (markD 1 D = A ++ markD KK B) ∧ Hid (KK + totD B = 1 + totD D) ∧ Hid (∀ x ∈ B, x.1.2.2.2.length ≤ 1000) ∧ Below w.heap.size w wr) (fun _ i _ => n - (intOf i).toNat)
  case atStart => exact ⟨1, [], D, ⟨Nat.zero_le _, by rw [HNL.out]; simp, by rw [HNL.out]; simp⟩, Nat.one_pos, rfl, rfl, rfl, rfl, hd, Below.refl _ _⟩
  case round =>
    obtain ⟨KK, A, B, ⟨hA1, hA2, hA3⟩, hK0, rfl, rfl, HM, HT, HDB, hb⟩ := hrel
    cases B with
    | cons x B =>
      simp only [List.length_cons] at hA2 hA3
      obtain ⟨g, ha⟩ := HFORM.out (by omega)
      subst ha
      have hKt : KK ≤ 300000 := by
        have h1 := HT.out
        have h2 := HTOT.out
        rw [totD_cons] at h1
        omega
      obtain ⟨m, hm⟩ : ∃ m, m = A.length := ⟨_, rfl⟩
      have HMA : Hid (m = A.length) := hm
      rw [← hm] at hA1 hA2 hA3 ⊢
      have hmn : m < n := by omega
      have hmi : (m : Int) < (n : Int) := by omega
      have HMK : Hid (∀ W, Calls Tryz.prog 32 #[.int .i64 (KK : Int)] W fun e w' => e = .returned (.string ⟨(mark KK).toArray⟩) ∧ Below W.heap.size W w') := fun W => markText_any (KK : Int) KK W rfl (by omega) (by omega)
      have HXD : Hid (x.1.2.2.2.length ≤ 1000) := HDB.out x (by simp)
      obtain ⟨⟨xn, xt, xl, xd⟩, dv⟩ := x
      have HCE : Hid (∀ W, Below w.heap.size w W → (W.cell? ⟨g, m * 4, none⟩ = some (.string ⟨(mark KK).toArray⟩) ∧ W.cell? ⟨g, m * 4 + 1, none⟩ = some (.int .i64 ((KK : Int) + 1)) ∧ W.cell? ⟨g, m * 4 + 2, none⟩ = some (.int .i64 ((KK : Int) + 2)) ∧ W.cell? ⟨g, m * 4 + 3, none⟩ = some dv) ∧ Row W dv (marksK (KK + 3) xd.length)) := fun W hW => by
        have h1 := HB0.out.kept hW
        rw [HM.out] at h1
        rw [markD_cons] at h1
        have h2 := h1.at.1
        rw [← HMA.out] at h2
        exact ⟨h2, h1.text (x := mkS KK ((xn, xt, xl, xd), dv)) (by simp)⟩
      obtain ⟨y, hy⟩ : ∃ y, y = mark KK := ⟨_, rfl⟩
      rw [← hy] at HMK HCE
      have HHS : Hid (∀ W, Below w.heap.size w W → Calls Tryz.prog 34 #[dv, .int .i64 ((KK : Int) + 1 + 1 + 1)] W fun e w' => e = .returned (.int .i64 ((KK : Int) + 1 + 1 + 1 + (xd.length : Int))) ∧ Below W.heap.size W w') := fun W hW => by
        have h := heldStrK_any dv xd.length (KK + 3) W (HCE.out W hW).2 (Nat.le_trans (show xd.length ≤ 1000 from HXD.out) (by omega)) (by omega) (by omega)
        have e : ((KK + 3 : Nat) : Int) = (KK : Int) + 1 + 1 + 1 := by omega
        rw [e] at h
        exact h
      obtain ⟨ad, nd, cd, hdv⟩ : ∃ ad nd cd, dv = .slice ad nd cd := by
        obtain ⟨a, c, e, _⟩ := (HCE.out wr hb).2
        exact ⟨a, _, c, e⟩
      subst hdv
      have HTR : Hid (∀ W W', Below w.heap.size w W → Below W.heap.size W W' → Below w.heap.size w W') := fun W W' h1 h2 => h1.trans (h2.mono h1.size)
      have hbd : Below w.heap.size w wr.drew := hb.drew
      have wk1 : IntKind.i64.wrap ((KK : Int) + 1) = (KK : Int) + 1 := wrap_small _ (by omega) (by omega)
      have wk2 : IntKind.i64.wrap ((KK : Int) + 1 + 1) = (KK : Int) + 1 + 1 := wrap_small _ (by omega) (by omega)
      have wk3 : IntKind.i64.wrap ((KK : Int) + 1 + 1 + 1) = (KK : Int) + 1 + 1 + 1 := wrap_small _ (by omega) (by omega)
      have ek2 : (((KK : Int) + 2) != ((KK : Int) + 1 + 1)) = false := by simp; omega
      have ek2' : (KK : Int) + 2 = (KK : Int) + 1 + 1 := by omega
      have HKK : Hid ((KK : Int) + 1 + 1 + 1 + (xd.length : Int) = ((KK + 3 + xd.length : Nat) : Int)) := by show _ = _; omega
      have HM5 : Hid (markD 1 D = A ++ [mkS KK ((xn, xt, xl, xd), .slice ad nd cd)] ++ markD (KK + 3 + xd.length) B) := by rw [HM.out, List.append_assoc]; exact rfl
      have HT5 : Hid (KK + 3 + xd.length + totD B = 1 + totD D) := by have h := HT.out; rw [totD_cons] at h; have e : (((xn, xt, xl, xd), Value.slice ad nd cd) : SetT × Value).1.2.2.2.length = xd.length := rfl; rw [e] at h; show _ = _; omega
      have HA5 : Hid ((A ++ [mkS KK ((xn, xt, xl, xd), Value.slice ad nd cd)]).length = m + 1) := by show _ = _; rw [List.length_append, ← HMA.out]; rfl
      have HDB5 : Hid (∀ x ∈ B, x.1.2.2.2.length ≤ 1000) := fun z hz => HDB.out z (by simp [hz])
      rw [ek2'] at HCE
      clear hm hy HDB HM HT ek2 ek2'
      go_wp2_with fail
      refine wp_region_quiet (C := fun W => Below w.heap.size w W) (by kernel_rfl) (by kernel_rfl) hbd ?_
      refine wpQuiet_step (fun K hK => ?_)
      rw [if_pos (by rfl)]
      refine ⟨.slice (some ⟨g, 0, none⟩) n cap, fun W hW => quiet_ok ?_, hK _ ?_⟩
      · have f := (HCE.out W hW).1
        obtain ⟨c0, c1, c2, c3⟩ := f
        go_simp
        all_goals (try omega)
      clear hK K
      simp only [Act.put, List.setIfInBounds_toArray, List.set_cons_succ, List.set_cons_zero]
      refine wpQuiet_step (fun K hK => ?_)
      rw [if_pos (by rfl)]
      refine ⟨.int .i64 (m : Int), fun W hW => quiet_ok ?_, hK _ ?_⟩
      · have f := (HCE.out W hW).1
        obtain ⟨c0, c1, c2, c3⟩ := f
        go_simp
        all_goals (try omega)
      clear hK K
      simp only [Act.put, List.setIfInBounds_toArray, List.set_cons_succ, List.set_cons_zero]
      refine wpQuiet_step (fun K hK => ?_)
      rw [if_pos (by rfl)]
      refine ⟨.pointer (some ⟨g, m * 4, none⟩), fun W hW => quiet_ok ?_, hK _ ?_⟩
      · have f := (HCE.out W hW).1
        obtain ⟨c0, c1, c2, c3⟩ := f
        go_simp
        all_goals (try omega)
      clear hK K
      simp only [Act.put, List.setIfInBounds_toArray, List.set_cons_succ, List.set_cons_zero]
      refine wpQuiet_step (fun K hK => ?_)
      rw [if_pos (by rfl)]
      refine ⟨.pointer (some ⟨g, m * 4, none⟩), fun W hW => quiet_ok ?_, hK _ ?_⟩
      · have f := (HCE.out W hW).1
        obtain ⟨c0, c1, c2, c3⟩ := f
        go_simp
        all_goals (try omega)
      clear hK K
      simp only [Act.put, List.setIfInBounds_toArray, List.set_cons_succ, List.set_cons_zero]
      refine wpQuiet_step (fun K hK => ?_)
      rw [if_pos (by rfl)]
      refine ⟨.string ⟨y.toArray⟩, fun W hW => quiet_ok ?_, hK _ ?_⟩
      · have f := (HCE.out W hW).1
        obtain ⟨c0, c1, c2, c3⟩ := f
        go_simp
        all_goals (try omega)
      clear hK K
      simp only [Act.put, List.setIfInBounds_toArray, List.set_cons_succ, List.set_cons_zero]
      refine wpQuiet_step (fun K hK => ?_)
      rw [if_pos (by rfl)]
      refine ⟨.int .i64 (KK : Int), fun W hW => quiet_ok ?_, hK _ ?_⟩
      · have f := (HCE.out W hW).1
        obtain ⟨c0, c1, c2, c3⟩ := f
        go_simp
        all_goals (try omega)
      clear hK K
      simp only [Act.put, List.setIfInBounds_toArray, List.set_cons_succ, List.set_cons_zero]
      refine wpQuiet_step (fun K hK => ?_)
      rw [if_pos (by rfl)]
      refine ⟨.string ⟨y.toArray⟩, fun W hW => quiet_call (f := 32) (args := #[.int .i64 (KK : Int)]) ?_ ?_, hK _ ?_⟩
      · go_simp
      · exact (HMK.out W).mono fun e w'' h => ⟨h.1, HTR.out _ _ hW h.2⟩
      clear hK K
      simp only [Act.put, List.setIfInBounds_toArray, List.set_cons_succ, List.set_cons_zero]
      refine wpQuiet_step (fun K hK => ?_)
      rw [if_pos (by rfl)]
      refine ⟨.bool false, fun W hW => quiet_ok ?_, hK _ ?_⟩
      · have f := (HCE.out W hW).1
        obtain ⟨c0, c1, c2, c3⟩ := f
        go_simp
        all_goals (try omega)
      clear hK K
      simp only [Act.put, List.setIfInBounds_toArray, List.set_cons_succ, List.set_cons_zero]
      refine wpQuiet_nil ?_
      intro W hW
      obtain ⟨⟨c0, c1, c2, c3⟩, _⟩ := HCE.out W hW
      go_wp2_with fail
      refine (HHS.out W hW).mono ?_
      rintro e w5 ⟨rfl, hb5⟩
      have hbw5 := HTR.out _ _ hW hb5
      have hpos : ¬ (KK : Int) + 1 + 1 + 1 + (xd.length : Int) < 0 := by omega
      clear c0 c1 c2 c3 HCE HHS HMK
      go_wp2_with fail
      go_roundw
      case rel => exact ⟨KK + 3 + xd.length, _, B, ⟨by rw [HA5.out]; omega, by rw [HA5.out]; omega, by rw [HA5.out]; omega⟩, by omega, by rw [HA5.out]; go_num, by rw [HKK.out], HM5, HT5, HDB5, hbw5⟩
      case measure => simp [intOf]; omega
    | nil =>
      simp only [List.length_nil, Nat.add_zero] at hA2 hA3
      have HQ : Hid ((KK : Int) = 1 + (totD D : Int)) := by have h := HT.out; rw [show totD [] = 0 from rfl] at h; show _ = _; omega
      have hAn : ¬ (A.length : Int) < (n : Int) := by omega
      clear HM HT
      go_wp2_with fail
      go_ret
      exact ⟨ret_int HQ.out, hb⟩
end Go.Proofs.YtjocegnhhhfbeaaGreatDoor
