import Derived.Test.YtjocegnhhhfbeaaGreatDoorZ38
import Derived.Test.YtjocegnhhhfbeaaGreatDoorZ36
namespace Go.Proofs.YtjocegnhhhfbeaaGreatDoor
open Go.RowKit

theorem set_at {D : List (SetT × Value)} (k : Nat) (hk : k < D.length) : ∃ A B, D = A ++ D[k] :: B ∧ A.length = k := by
  refine ⟨D.take k, D.drop (k + 1), ?_, by simp; omega⟩
  rw [← List.drop_eq_getElem_cons hk, List.take_append_drop]
/-- What eqSet is told of a place. -/
theorem place_of {W : World} {base : Nat} {v : Value} {D : List (SetT × Value)} (h : Bld W base v D) (k : Nat) (hk : k < D.length) : ∃ g cap, v = .slice (some ⟨g, 0, none⟩) D.length cap ∧ (W.cell? ⟨g, k * 4, none⟩ = some (.string ⟨D[k].1.1.toArray⟩) ∧ W.cell? ⟨g, k * 4 + 1, none⟩ = some (.int .i64 D[k].1.2.1) ∧ W.cell? ⟨g, k * 4 + 2, none⟩ = some (.int .i64 D[k].1.2.2.1) ∧ W.cell? ⟨g, k * 4 + 3, none⟩ = some D[k].2) ∧ Row W D[k].2 D[k].1.2.2.2 := by
  obtain ⟨A, B, e, hA⟩ := set_at k hk
  obtain ⟨g, cap, hv, _, _, _⟩ := h.form (by omega)
  have h2 := h
  rw [e, hv] at h2
  have h3 := h2.at.1
  rw [hA] at h3
  exact ⟨g, cap, hv, h3, h.text (List.getElem_mem hk)⟩

set_option maxRecDepth 20000 in
set_option maxHeartbeats 1000000 in
theorem eqSet_same (x : SetT) (v v2 : Value) (w : World) (ha : Row w v x.2.2.2) (ha2 : Row w v2 x.2.2.2) :
    Calls Tryz.prog 30 #[.agg #[.string ⟨x.1.toArray⟩, .int .i64 x.2.1, .int .i64 x.2.2.1, v], .agg #[.string ⟨x.1.toArray⟩, .int .i64 x.2.1, .int .i64 x.2.2.1, v2]] w fun e w' => e = .returned (.bool true) ∧ Below w.heap.size w w' := by
  obtain ⟨n0, ty, tl, P⟩ := x
  simp only at ha ha2 ⊢
  obtain ⟨aa, ca, rfl, _, hca, _⟩ := id ha
  obtain ⟨aa2, ca2, rfl, _, hca2, _⟩ := id ha2
  have HRA : Hid (∀ W, Below w.heap.size w W → Calls Tryz.prog 51 #[.slice aa P.length ca, .slice aa2 P.length ca2] W fun e w' => e = .returned (.bool true) ∧ Below W.heap.size W w') := fun W hW => by
    have lt1 : ∀ a n c, Value.slice aa P.length ca = .slice (some a) n c → P ≠ [] → a.block < w.heap.size := fun a n c e hp => by
      obtain ⟨_, _, e1, _, _, h3⟩ := id ha
      cases e1; cases e
      rcases h3 with h3 | ⟨b, o, e2, hb, _⟩
      · exact absurd h3 hp
      · cases e2; exact hb
    have lt2 : ∀ a n c, Value.slice aa2 P.length ca2 = .slice (some a) n c → P ≠ [] → a.block < w.heap.size := fun a n c e hp => by
      obtain ⟨_, _, e1, _, _, h3⟩ := id ha2
      cases e1; cases e
      rcases h3 with h3 | ⟨b, o, e2, hb, _⟩
      · exact absurd h3 hp
      · cases e2; exact hb
    have h := eqStringS_any _ _ P P W (ha.below hW lt1) (ha2.below hW lt2)
    rw [show (P == P) = true by simp] at h
    exact h
  clear ha ha2
  go_enter Tryz.func30, Tryz.ntmps30
  go_wp2_with fail
  refine (HRA.out _ (((Below.refl w.heap.size w).alloc (Nat.le_refl _) _).alloc (by simp) _)).mono ?_
  rintro e w1 ⟨rfl, hb1⟩
  obtain ⟨_, _, hbw⟩ := box2 hb1
  go_wp2_with fail
  go_ret
  exact ⟨rfl, hbw⟩

set_option maxRecDepth 20000 in
set_option maxHeartbeats 2000000 in
theorem eqSetS_same (v1 v2 : Value) (D1 D2 : List (SetT × Value)) (b1 b2 : Nat) (w : World) (h1 : Bld w b1 v1 D1) (h2 : Bld w b2 v2 D2) (he : D1.map (fun x => x.1) = D2.map (fun x => x.1)) :
    Calls Tryz.prog 9 #[v1, v2] w fun e w' => e = .returned (.bool true) ∧ Below w.heap.size w w' := by
  have hl : D1.length = D2.length := by have h := congrArg List.length he; simpa using h
  have hev : ∀ k, (hk : k < D1.length) → (D1[k]).1 = (D2[k]'(by omega)).1 := fun k hk => by
    have h := congrArg (fun l => l[k]?) he
    simp only [List.getElem?_map, List.getElem?_eq_getElem hk, List.getElem?_eq_getElem (show k < D2.length by omega), Option.map_some, Option.some.injEq] at h
    exact h
  have HP : Hid (∀ k, (hk : k < D1.length) → ∃ (g1 c1 g2 c2 : Nat) (x : SetT) (va vb : Value), v1 = .slice (some ⟨g1, 0, none⟩) D1.length c1 ∧ v2 = .slice (some ⟨g2, 0, none⟩) D1.length c2 ∧ ∀ W, Below w.heap.size w W → ((W.cell? ⟨g1, k * 4, none⟩ = some (.string ⟨x.1.toArray⟩) ∧ W.cell? ⟨g1, k * 4 + 1, none⟩ = some (.int .i64 x.2.1) ∧ W.cell? ⟨g1, k * 4 + 2, none⟩ = some (.int .i64 x.2.2.1) ∧ W.cell? ⟨g1, k * 4 + 3, none⟩ = some va) ∧ (W.cell? ⟨g2, k * 4, none⟩ = some (.string ⟨x.1.toArray⟩) ∧ W.cell? ⟨g2, k * 4 + 1, none⟩ = some (.int .i64 x.2.1) ∧ W.cell? ⟨g2, k * 4 + 2, none⟩ = some (.int .i64 x.2.2.1) ∧ W.cell? ⟨g2, k * 4 + 3, none⟩ = some vb)) ∧ Row W va x.2.2.2 ∧ Row W vb x.2.2.2) := fun k hk => by
    obtain ⟨g1, c1, e1, _, _⟩ := place_of h1 k hk
    obtain ⟨g2, c2, e2, _, _⟩ := place_of h2 k (by omega)
    refine ⟨g1, c1, g2, c2, D1[k].1, D1[k].2, (D2[k]'(by omega)).2, e1, by rw [hl]; exact e2, fun W hW => ?_⟩
    obtain ⟨q1, d1, f1, p1, r1⟩ := place_of (h1.kept hW) k hk
    obtain ⟨q2, d2, f2, p2, r2⟩ := place_of (h2.kept hW) k (show k < D2.length by omega)
    rw [e1] at f1
    rw [e2] at f2
    cases f1
    cases f2
    rw [hev k hk] at p1 r1 ⊢
    exact ⟨⟨p1, p2⟩, r1, r2⟩
  obtain ⟨a1, cp1, hv1, hcp1, hcm1⟩ := h1.shape
  obtain ⟨a2, cp2, hv2, hcp2, hcm2⟩ := h2.shape
  obtain ⟨n, hn⟩ : ∃ n, n = D1.length := ⟨_, rfl⟩
  rw [← hl, ← hn] at hv2 hcp2
  rw [← hn] at hv1 hcp1 HP
  have el : ((n : Int) != (n : Int)) = false := by simp
  clear h1 h2 hev hl he hn
  subst hv1 hv2
  go_enter Tryz.func9, Tryz.ntmps9
  go_wp2_with fail
  go_loopw [5] (fun i wr => ∃ k : Nat, k ≤ n ∧ i = .int .i64 (k : Int) ∧ Below w.heap.size w wr) (fun i _ => n - (intOf i).toNat)
  case atStart => exact ⟨0, Nat.zero_le _, rfl, Below.refl _ _⟩
  case round =>
    obtain ⟨k, hk, rfl, hb⟩ := hrel
    by_cases hlt : k < n
    · obtain ⟨g1, c1, g2, c2, x, va, vb, e1, e2, hc⟩ := HP.out k hlt
      obtain ⟨rfl, rfl⟩ : a1 = some ⟨g1, 0, none⟩ ∧ cp1 = c1 := by cases e1; exact ⟨rfl, rfl⟩
      obtain ⟨rfl, rfl⟩ : a2 = some ⟨g2, 0, none⟩ ∧ cp2 = c2 := by cases e2; exact ⟨rfl, rfl⟩
      have HC : Hid (∀ W, Below w.heap.size w W → ((W.cell? ⟨g1, k * 4, none⟩ = some (.string ⟨x.1.toArray⟩) ∧ W.cell? ⟨g1, k * 4 + 1, none⟩ = some (.int .i64 x.2.1) ∧ W.cell? ⟨g1, k * 4 + 2, none⟩ = some (.int .i64 x.2.2.1) ∧ W.cell? ⟨g1, k * 4 + 3, none⟩ = some va) ∧ (W.cell? ⟨g2, k * 4, none⟩ = some (.string ⟨x.1.toArray⟩) ∧ W.cell? ⟨g2, k * 4 + 1, none⟩ = some (.int .i64 x.2.1) ∧ W.cell? ⟨g2, k * 4 + 2, none⟩ = some (.int .i64 x.2.2.1) ∧ W.cell? ⟨g2, k * 4 + 3, none⟩ = some vb))) := fun W hW => (hc W hW).1
      have HEQ : Hid (∀ W, Below w.heap.size w W → Calls Tryz.prog 30 #[.agg #[.string ⟨x.1.toArray⟩, .int .i64 x.2.1, .int .i64 x.2.2.1, va], .agg #[.string ⟨x.1.toArray⟩, .int .i64 x.2.1, .int .i64 x.2.2.1, vb]] W fun e w' => e = .returned (.bool true) ∧ Below W.heap.size W w') := fun W hW => eqSet_same x va vb W (hc W hW).2.1 (hc W hW).2.2
      have hki : (k : Int) < (n : Int) := by omega
      have hbd := hb.drew
      clear hc HP e1 e2
      go_wp2_with fail
      refine wp_region_quiet (C := fun W => Below w.heap.size w W) (by kernel_rfl) (by kernel_rfl) hbd ?_
      refine wpQuiet_step (fun K hK => ?_)
      rw [if_pos (by rfl)]
      refine ⟨.slice (some ⟨g1, 0, none⟩) n cp1, fun W hW => quiet_ok ?_, hK _ ?_⟩
      · have f := HC.out W hW
        obtain ⟨⟨c0, c1, c2, c3⟩, ⟨e0, e1, e2, e3⟩⟩ := f
        go_simp
        all_goals (try omega)
      clear hK K
      simp only [Act.put, List.setIfInBounds_toArray, List.set_cons_succ, List.set_cons_zero]
      refine wpQuiet_step (fun K hK => ?_)
      rw [if_pos (by rfl)]
      refine ⟨.int .i64 (k : Int), fun W hW => quiet_ok ?_, hK _ ?_⟩
      · have f := HC.out W hW
        obtain ⟨⟨c0, c1, c2, c3⟩, ⟨e0, e1, e2, e3⟩⟩ := f
        go_simp
        all_goals (try omega)
      clear hK K
      simp only [Act.put, List.setIfInBounds_toArray, List.set_cons_succ, List.set_cons_zero]
      refine wpQuiet_step (fun K hK => ?_)
      rw [if_pos (by rfl)]
      refine ⟨.pointer (some ⟨g1, k * 4, none⟩), fun W hW => quiet_ok ?_, hK _ ?_⟩
      · have f := HC.out W hW
        obtain ⟨⟨c0, c1, c2, c3⟩, ⟨e0, e1, e2, e3⟩⟩ := f
        go_simp
        all_goals (try omega)
      clear hK K
      simp only [Act.put, List.setIfInBounds_toArray, List.set_cons_succ, List.set_cons_zero]
      refine wpQuiet_step (fun K hK => ?_)
      rw [if_pos (by rfl)]
      refine ⟨.agg #[.string ⟨x.1.toArray⟩, .int .i64 x.2.1, .int .i64 x.2.2.1, va], fun W hW => quiet_ok ?_, hK _ ?_⟩
      · have f := HC.out W hW
        obtain ⟨⟨c0, c1, c2, c3⟩, ⟨e0, e1, e2, e3⟩⟩ := f
        go_simp
        all_goals (try omega)
      clear hK K
      simp only [Act.put, List.setIfInBounds_toArray, List.set_cons_succ, List.set_cons_zero]
      refine wpQuiet_step (fun K hK => ?_)
      rw [if_pos (by rfl)]
      refine ⟨.slice (some ⟨g2, 0, none⟩) n cp2, fun W hW => quiet_ok ?_, hK _ ?_⟩
      · have f := HC.out W hW
        obtain ⟨⟨c0, c1, c2, c3⟩, ⟨e0, e1, e2, e3⟩⟩ := f
        go_simp
        all_goals (try omega)
      clear hK K
      simp only [Act.put, List.setIfInBounds_toArray, List.set_cons_succ, List.set_cons_zero]
      refine wpQuiet_step (fun K hK => ?_)
      rw [if_pos (by rfl)]
      refine ⟨.int .i64 (k : Int), fun W hW => quiet_ok ?_, hK _ ?_⟩
      · have f := HC.out W hW
        obtain ⟨⟨c0, c1, c2, c3⟩, ⟨e0, e1, e2, e3⟩⟩ := f
        go_simp
        all_goals (try omega)
      clear hK K
      simp only [Act.put, List.setIfInBounds_toArray, List.set_cons_succ, List.set_cons_zero]
      refine wpQuiet_step (fun K hK => ?_)
      rw [if_pos (by rfl)]
      refine ⟨.pointer (some ⟨g2, k * 4, none⟩), fun W hW => quiet_ok ?_, hK _ ?_⟩
      · have f := HC.out W hW
        obtain ⟨⟨c0, c1, c2, c3⟩, ⟨e0, e1, e2, e3⟩⟩ := f
        go_simp
        all_goals (try omega)
      clear hK K
      simp only [Act.put, List.setIfInBounds_toArray, List.set_cons_succ, List.set_cons_zero]
      refine wpQuiet_step (fun K hK => ?_)
      rw [if_pos (by rfl)]
      refine ⟨.agg #[.string ⟨x.1.toArray⟩, .int .i64 x.2.1, .int .i64 x.2.2.1, vb], fun W hW => quiet_ok ?_, hK _ ?_⟩
      · have f := HC.out W hW
        obtain ⟨⟨c0, c1, c2, c3⟩, ⟨e0, e1, e2, e3⟩⟩ := f
        go_simp
        all_goals (try omega)
      clear hK K
      simp only [Act.put, List.setIfInBounds_toArray, List.set_cons_succ, List.set_cons_zero]
      refine wpQuiet_step (fun K hK => ?_)
      rw [if_pos (by rfl)]
      refine ⟨.bool true, fun W hW => quiet_call (f := 30) (args := #[.agg #[.string ⟨x.1.toArray⟩, .int .i64 x.2.1, .int .i64 x.2.2.1, va], .agg #[.string ⟨x.1.toArray⟩, .int .i64 x.2.1, .int .i64 x.2.2.1, vb]]) ?_ ?_, hK _ ?_⟩
      · go_simp
      · exact (HEQ.out W hW).mono fun e w'' h => ⟨h.1, hW.trans (h.2.mono hW.size)⟩
      clear hK K
      simp only [Act.put, List.setIfInBounds_toArray, List.set_cons_succ, List.set_cons_zero]
      refine wpQuiet_step (fun K hK => ?_)
      rw [if_pos (by rfl)]
      refine ⟨.bool false, fun W hW => quiet_ok ?_, hK _ ?_⟩
      · have f := HC.out W hW
        obtain ⟨⟨c0, c1, c2, c3⟩, ⟨e0, e1, e2, e3⟩⟩ := f
        go_simp
        all_goals (try omega)
      clear hK K
      simp only [Act.put, List.setIfInBounds_toArray, List.set_cons_succ, List.set_cons_zero]
      refine wpQuiet_nil ?_
      intro W hW
      go_wp2_with fail
      go_roundw
      case rel => exact ⟨k + 1, by omega, by go_num, hW⟩
      case measure => simp [intOf]; omega
    · go_wp2_with fail
      go_ret
      exact ⟨rfl, hb⟩

/-- Sets with marks in them, from a number on. -/
def mkS (K : Nat) (x : SetT × Value) : SetT × Value := ((mark K, (K : Int) + 1, (K : Int) + 2, marksK (K + 3) x.1.2.2.2.length), x.2)
def markD : Nat → List (SetT × Value) → List (SetT × Value)
  | _, [] => []
  | K, x :: r => mkS K x :: markD (K + 3 + x.1.2.2.2.length) r
def totD : List (SetT × Value) → Nat
  | [] => 0
  | x :: r => 3 + x.1.2.2.2.length + totD r
theorem totD_cons (x : SetT × Value) (r : List (SetT × Value)) : totD (x :: r) = 3 + x.1.2.2.2.length + totD r := rfl
theorem markD_cons (K : Nat) (x : SetT × Value) (r : List (SetT × Value)) : markD K (x :: r) = mkS K x :: markD (K + 3 + x.1.2.2.2.length) r := rfl
theorem totD_le {D : List (SetT × Value)} {m : Nat} (h : ∀ x ∈ D, x.1.2.2.2.length ≤ m) : totD D ≤ D.length * (m + 3) := by
  induction D with
  | nil => simp [totD]
  | cons x r ih =>
    have h1 := h x (by simp)
    have h2 := ih (fun y hy => h y (by simp [hy]))
    simp only [totD, List.length_cons, Nat.add_mul]
    omega

set_option maxRecDepth 20000 in
set_option maxHeartbeats 4000000 in
theorem markSetW_any (v : Value) (D : List (SetT × Value)) (base top : Nat) (w : World) (h : Bld w base v D) (hbase : base ≤ w.heap.size) (hl : D.length ≤ 1048576) (hd : Hid (∀ x ∈ D, x.1.2.2.2.length ≤ 1048576)) (HTOT : Hid (totD D ≤ 200000000)) (htv : ∀ k, v.ownBlock = some k → k < top) (htd : Hid (∀ x ∈ D, ∀ k, x.2.ownBlock = some k → k < top)) :
    Calls Tryz.prog 12 #[v, .int .i64 1] w fun e w' => e = .returned (.int .i64 (1 + (totD D : Int))) ∧ Bld w' base v (markD 1 D) ∧ Below base w w' ∧ Kpt w w' (fun k => k < top) := by
  have HB0 : Hid (Bld w base v D) := h
  obtain ⟨a, cap, hv, hc1, hc2⟩ := h.shape
  have HFORM : Hid (0 < D.length → ∃ g, a = some ⟨g, 0, none⟩ ∧ base ≤ g) := fun hp => by
    obtain ⟨g, c, e, _, _, hg⟩ := h.form hp
    rw [hv] at e
    cases e
    exact ⟨g, rfl, hg⟩
  have HTG : Hid (∀ g, a = some ⟨g, 0, none⟩ → g < top) := fun g hg => htv g (by rw [hv, hg]; rfl)
  clear htv
  subst hv
  obtain ⟨n, hn⟩ : ∃ n, n = D.length := ⟨_, rfl⟩
  rw [← hn] at hc1 HB0 HFORM ⊢
  have HNL : Hid (n = D.length) := hn
  have hn100 : n ≤ 1048576 := by omega
  clear h hn hl
  go_enter Tryz.func12, Tryz.ntmps12
  go_wp2_with fail
  go_loopw [1, 5] (fun q i wr => ∃ (KK : Nat) (A B : List (SetT × Value)), (A.length ≤ n ∧ n ≤ A.length + B.length ∧ A.length + B.length ≤ n) ∧ 0 < KK ∧ i = .int .i64 (A.length : Int) ∧ q = .int .i64 (KK : Int) ∧ Hid (markD 1 D = A ++ markD KK B) ∧ Hid (KK + totD B = 1 + totD D) ∧ Hid (∀ x ∈ B, x.1.2.2.2.length ≤ 1048576) ∧ Hid (Bld wr base (.slice a n cap) (A ++ B)) ∧ Hid (∀ x ∈ B, ∀ k, x.2.ownBlock = some k → k < top) ∧ Hid (Kpt w wr (fun k => k < top)) ∧ Below base w wr) (fun _ i _ => n - (intOf i).toNat)
  case atStart => exact ⟨1, [], D, ⟨Nat.zero_le _, by rw [HNL.out]; simp, by rw [HNL.out]; simp⟩, Nat.one_pos, rfl, rfl, rfl, rfl, hd, HB0, htd, Kpt.refl _ _, Below.refl _ _⟩
  case round =>
    obtain ⟨KK, A, B, ⟨hA1, hA2, hA3⟩, hK0, rfl, rfl, HM, HT, HDB, HB, HTB, HKW, hb⟩ := hrel
    clear HB0
    cases B with
    | cons x B =>
      simp only [List.length_cons] at hA2 hA3
      obtain ⟨g, ha, hg⟩ := HFORM.out (by omega)
      have HGT : Hid (g < top) := HTG.out g ha
      have HDT : Hid (∀ k, x.2.ownBlock = some k → k < top) := HTB.out x (by simp)
      have HTB5 : Hid (∀ x ∈ B, ∀ k, x.2.ownBlock = some k → k < top) := fun z hz => HTB.out z (by simp [hz])
      subst ha
      have hKt : KK ≤ 300000000 := by
        have h1 := HT.out
        have h2 := HTOT.out
        rw [totD_cons] at h1
        omega
      obtain ⟨m, hm⟩ : ∃ m, m = A.length := ⟨_, rfl⟩
      have HMA : Hid (m = A.length) := hm
      rw [← hm] at hA1 hA2 hA3 ⊢
      have hmn : m < n := by omega
      have hmi : (m : Int) < (n : Int) := by omega
      have HMK : Hid (∀ W, Calls Tryz.prog 32 #[.int .i64 (KK : Int)] W fun e w' => e = .returned (.string ⟨(mark KK).toArray⟩) ∧ Below W.heap.size W w') := fun W => markText_any (KK : Int) KK W rfl (by omega) (by omega)
      have HXD : Hid (x.1.2.2.2.length ≤ 1048576) := HDB.out x (by simp)
      obtain ⟨⟨xn, xt, xl, xd⟩, dv⟩ := x
      obtain ⟨y, hy⟩ : ∃ y, y = mark KK := ⟨_, rfl⟩
      have HY : Hid (y = mark KK) := hy
      rw [← hy] at HMK
      clear hm hy
      go_wp2_with fail
      refine (HMK.out _).mono ?_
      rintro e w1 ⟨rfl, hb1⟩
      have HK1 : Hid (Kpt w w1 (fun k => k < top)) := HKW.out.trans (below_kpt0 hb1 _)
      have hbB1 : Below base w w1 := hb.trans (hb1.mono (Nat.le_trans hbase hb.size))
      have hz1 : base ≤ w1.heap.size := Nat.le_trans hbase hbB1.size
      have hB1 := HB.out.kept hb1
      obtain ⟨⟨c0, c1, c2, c3⟩, hfz⟩ := hB1.at
      rw [← HMA.out] at c0 c1 c2 c3
      obtain ⟨hP1, hG1⟩ := hB1.put (y := ((y, xt, xl, xd), dv)) 0 (.string ⟨y.toArray⟩) (by omega) rfl rfl rfl
      obtain ⟨hP2, hG2⟩ := hP1.put (y := ((y, (KK : Int) + 1, xl, xd), dv)) 1 (.int .i64 ((KK : Int) + 1)) (by omega) rfl rfl rfl
      obtain ⟨hP3, hG3⟩ := hP2.put (y := ((y, (KK : Int) + 1, (KK : Int) + 1 + 1, xd), dv)) 2 (.int .i64 ((KK : Int) + 1 + 1)) (by omega) rfl rfl rfl
      rw [← HMA.out, Nat.add_zero] at hP3 hG1 hG2 hG3
      have f0 := hfz (m * 4)
      have f1 := hfz (m * 4 + 1)
      have f2 := hfz (m * 4 + 2)
      obtain ⟨W3, hW3⟩ : ∃ W3, W3 = ((w1.setCell ⟨g, m * 4, none⟩ (.string ⟨y.toArray⟩)).setCell ⟨g, m * 4 + 1, none⟩ (.int .i64 ((KK : Int) + 1))).setCell ⟨g, m * 4 + 2, none⟩ (.int .i64 ((KK : Int) + 1 + 1)) := ⟨_, rfl⟩
      have HW3 : Hid (((w1.setCell ⟨g, m * 4, none⟩ (.string ⟨y.toArray⟩)).setCell ⟨g, m * 4 + 1, none⟩ (.int .i64 ((KK : Int) + 1))).setCell ⟨g, m * 4 + 2, none⟩ (.int .i64 ((KK : Int) + 1 + 1)) = W3) := hW3.symm
      have hg3 : w1.grownBy W3 (some g) := by rw [hW3]; exact grown_set (grown_set (grown_set (grown_refl _ _)))
      have HK3 : Hid (Kpt w W3 (fun k => k < top)) := HK1.out.trans ((grown_kpt hg3).mono (fun k _ hk => by cases hk; exact HGT.out))
      rw [← hW3] at hP3
      have HP3 : Hid (Bld W3 base (.slice (some ⟨g, 0, none⟩) n cap) (A ++ ((y, (KK : Int) + 1, (KK : Int) + 1 + 1, xd), dv) :: B)) := hP3
      have hbB3 : Below base w W3 := hbB1.grown hg3 hz1 (fun k hk => by cases hk; exact hg)
      have hz3 : base ≤ W3.heap.size := Nat.le_trans hbase hbB3.size
      have HMS : Hid (Calls Tryz.prog 33 #[dv, .int .i64 ((KK : Int) + 1 + 1 + 1)] W3 fun e w' => e = .returned (.int .i64 ((KK : Int) + 1 + 1 + 1 + (xd.length : Int))) ∧ w'.ownsRow base 9 1 dv xd.length ((marksK (KK + 3) xd.length).map S) ∧ W3.grownBy w' dv.ownBlock) := by
        have h := markStrK_any dv xd (KK + 3) base W3 (hP3.2.1 _ (by simp : ((y, (KK : Int) + 1, (KK : Int) + 1 + 1, xd), dv) ∈ A ++ ((y, (KK : Int) + 1, (KK : Int) + 1 + 1, xd), dv) :: B)).1 (Nat.le_trans (show xd.length ≤ 1048576 from HXD.out) (by omega)) (by omega) (by omega)
        have e : ((KK + 3 : Nat) : Int) = (KK : Int) + 1 + 1 + 1 := by omega
        rw [e] at h
        exact h
      have z3 : W3.cell? ⟨g, m * 4 + 3, none⟩ = some dv := by have h := hP3.at.1.2.2.2; rw [← HMA.out] at h; exact h
      obtain ⟨ad, nd, cd, hdv⟩ : ∃ ad nd cd, dv = .slice ad nd cd := by
        rcases (hP3.2.1 _ (by simp : ((y, (KK : Int) + 1, (KK : Int) + 1 + 1, xd), dv) ∈ A ++ ((y, (KK : Int) + 1, (KK : Int) + 1 + 1, xd), dv) :: B)).1.2 with ⟨h, _⟩ | ⟨q, c, _, h, _⟩
        · exact ⟨_, _, _, h⟩
        · exact ⟨_, _, _, h⟩
      have HDG : Hid (∀ k, dv.ownBlock = some k → base ≤ k) := fun k hk => ((hP3.2.1 _ (by simp : ((y, (KK : Int) + 1, (KK : Int) + 1 + 1, xd), dv) ∈ A ++ ((y, (KK : Int) + 1, (KK : Int) + 1 + 1, xd), dv) :: B)).1.lt k hk).1
      subst hdv
      clear hP1 hP2 hP3 hG1 hG2 hG3 hg3 hW3 hB1 hfz hb1
      have wk1 : IntKind.i64.wrap ((KK : Int) + 1) = (KK : Int) + 1 := wrap_small _ (by omega) (by omega)
      have wk2 : IntKind.i64.wrap ((KK : Int) + 1 + 1) = (KK : Int) + 1 + 1 := wrap_small _ (by omega) (by omega)
      have wk3 : IntKind.i64.wrap ((KK : Int) + 1 + 1 + 1) = (KK : Int) + 1 + 1 + 1 := wrap_small _ (by omega) (by omega)
      go_wp2_with fail
      rw [HW3.out]
      clear c0 c1 c2 c3 f0 f1 f2
      go_wp2_with fail
      refine HMS.out.mono ?_
      rintro e w5 ⟨rfl, ho5, hg5⟩
      have hbB5 : Below base w w5 := hbB3.grown hg5 hz3 HDG.out
      have HK5 : Hid (Kpt w w5 (fun k => k < top)) := HK3.out.trans ((grown_kpt hg5).mono (fun k _ hk => HDT.out k hk))
      have HB5 : Hid (Bld w5 base (.slice (some ⟨g, 0, none⟩) n cap) (A ++ [mkS KK ((xn, xt, xl, xd), .slice ad nd cd)] ++ B)) := by
        have h := HP3.out.over (d := marksK (KK + 3) xd.length) (marksK_length _ _) ho5 hg5
        have e : (KK : Int) + 1 + 1 = (KK : Int) + 2 := by omega
        rw [List.append_assoc]
        unfold mkS
        rw [← HY.out, ← e]
        exact h
      have HM5 : Hid (markD 1 D = A ++ [mkS KK ((xn, xt, xl, xd), .slice ad nd cd)] ++ markD (KK + 3 + xd.length) B) := by rw [HM.out, List.append_assoc]; exact rfl
      have HT5 : Hid (KK + 3 + xd.length + totD B = 1 + totD D) := by have h := HT.out; rw [totD_cons] at h; have e : (((xn, xt, xl, xd), Value.slice ad nd cd) : SetT × Value).1.2.2.2.length = xd.length := rfl; rw [e] at h; show _ = _; omega
      have HA5 : Hid ((A ++ [mkS KK ((xn, xt, xl, xd), Value.slice ad nd cd)]).length = m + 1) := by show _ = _; rw [List.length_append, ← HMA.out]; rfl
      have HDB5 : Hid (∀ x ∈ B, x.1.2.2.2.length ≤ 1048576) := fun z hz => HDB.out z (by simp [hz])
      have HKK : Hid ((KK : Int) + 1 + 1 + 1 + (xd.length : Int) = ((KK + 3 + xd.length : Nat) : Int)) := by show _ = _; omega
      clear ho5 hg5 z3 HMS HP3
      go_wp2_with fail
      go_roundw
      case rel => exact ⟨KK + 3 + xd.length, _, B, ⟨by rw [HA5.out]; omega, by rw [HA5.out]; omega, by rw [HA5.out]; omega⟩, by omega, by rw [HA5.out]; go_num, by rw [HKK.out], HM5, HT5, HDB5, HB5, HTB5, HK5, hbB5⟩
      case measure => simp [intOf]; omega
    | nil =>
      simp only [List.length_nil, Nat.add_zero] at hA2 hA3
      have HF : Hid (Bld wr base (.slice a n cap) (markD 1 D)) := by have h := HB.out; rw [List.append_nil] at h; have e := HM.out; rw [show markD KK [] = [] from rfl, List.append_nil] at e; have h2 : Bld wr base (.slice a n cap) (markD 1 D) := (by rw [e]; exact h); exact h2
      have HQ : Hid ((KK : Int) = 1 + (totD D : Int)) := by have h := HT.out; rw [show totD [] = 0 from rfl] at h; show _ = _; omega
      have hAn : ¬ (A.length : Int) < (n : Int) := by omega
      clear HM HT HB
      go_wp2_with fail
      go_ret
      exact ⟨ret_int HQ.out, HF.out, hb, HKW.out⟩

set_option maxRecDepth 20000 in
set_option maxHeartbeats 4000000 in
theorem heldSetW_any (v : Value) (D : List (SetT × Value)) (base : Nat) (w : World) (h : Bld w base v (markD 1 D)) (hl : D.length ≤ 1048576) (hd : Hid (∀ x ∈ D, x.1.2.2.2.length ≤ 1048576)) (HTOT : Hid (totD D ≤ 200000000)) :
    Calls Tryz.prog 13 #[v, .int .i64 1] w fun e w' => e = .returned (.int .i64 (1 + (totD D : Int))) ∧ Below w.heap.size w w' := by
  have HB0 : Hid (Bld w base v (markD 1 D)) := h
  have hlen : ∀ (L : List (SetT × Value)) (K : Nat), (markD K L).length = L.length := fun L => by
    induction L with
    | nil => intro K; rfl
    | cons x r ih => intro K; simp only [markD, List.length_cons, ih]
  obtain ⟨a, cap, hv, hc1, hc2⟩ := h.shape
  have HFORM : Hid (0 < D.length → ∃ g, a = some ⟨g, 0, none⟩) := fun hp => by
    obtain ⟨g, c, e, _, _, hg⟩ := h.form (by rw [hlen]; exact hp)
    rw [hv] at e
    cases e
    exact ⟨g, rfl⟩
  rw [hlen] at hv hc1
  subst hv
  obtain ⟨n, hn⟩ : ∃ n, n = D.length := ⟨_, rfl⟩
  rw [← hn] at hc1 HB0 HFORM ⊢
  have HNL : Hid (n = D.length) := hn
  have hn100 : n ≤ 1048576 := by omega
  clear h hn hl hlen
  go_enter Tryz.func13, Tryz.ntmps13
  go_wp2_with fail
  go_loopw [1, 5] (fun q i wr => ∃ (KK : Nat) (A B : List (SetT × Value)), (A.length ≤ n ∧ n ≤ A.length + B.length ∧ A.length + B.length ≤ n) ∧ 0 < KK ∧ i = .int .i64 (A.length : Int) ∧ q = .int .i64 (KK : Int) ∧ Hid (markD 1 D = A ++ markD KK B) ∧ Hid (KK + totD B = 1 + totD D) ∧ Hid (∀ x ∈ B, x.1.2.2.2.length ≤ 1048576) ∧ Below w.heap.size w wr) (fun _ i _ => n - (intOf i).toNat)
  case atStart => exact ⟨1, [], D, ⟨Nat.zero_le _, by rw [HNL.out]; simp, by rw [HNL.out]; simp⟩, Nat.one_pos, rfl, rfl, rfl, rfl, hd, Below.refl _ _⟩
  case round =>
    obtain ⟨KK, A, B, ⟨hA1, hA2, hA3⟩, hK0, rfl, rfl, HM, HT, HDB, hb⟩ := hrel
    cases B with
    | cons x B =>
      simp only [List.length_cons] at hA2 hA3
      obtain ⟨g, ha⟩ := HFORM.out (by omega)
      subst ha
      have hKt : KK ≤ 300000000 := by
        have h1 := HT.out
        have h2 := HTOT.out
        rw [totD_cons] at h1
        omega
      obtain ⟨m, hm⟩ : ∃ m, m = A.length := ⟨_, rfl⟩
      have HMA : Hid (m = A.length) := hm
      rw [← hm] at hA1 hA2 hA3 ⊢
      have hmn : m < n := by omega
      have hmi : (m : Int) < (n : Int) := by omega
      have HMK : Hid (∀ W, Calls Tryz.prog 32 #[.int .i64 (KK : Int)] W fun e w' => e = .returned (.string ⟨(mark KK).toArray⟩) ∧ Below W.heap.size W w') := fun W => markText_any (KK : Int) KK W rfl (by omega) (by omega)
      have HXD : Hid (x.1.2.2.2.length ≤ 1048576) := HDB.out x (by simp)
      obtain ⟨⟨xn, xt, xl, xd⟩, dv⟩ := x
      have HCE : Hid (∀ W, Below w.heap.size w W → (W.cell? ⟨g, m * 4, none⟩ = some (.string ⟨(mark KK).toArray⟩) ∧ W.cell? ⟨g, m * 4 + 1, none⟩ = some (.int .i64 ((KK : Int) + 1)) ∧ W.cell? ⟨g, m * 4 + 2, none⟩ = some (.int .i64 ((KK : Int) + 2)) ∧ W.cell? ⟨g, m * 4 + 3, none⟩ = some dv) ∧ Row W dv (marksK (KK + 3) xd.length)) := fun W hW => by
        have h1 := HB0.out.kept hW
        rw [HM.out] at h1
        rw [markD_cons] at h1
        have h2 := h1.at.1
        rw [← HMA.out] at h2
        exact ⟨h2, h1.text (x := mkS KK ((xn, xt, xl, xd), dv)) (by simp)⟩
      obtain ⟨y, hy⟩ : ∃ y, y = mark KK := ⟨_, rfl⟩
      rw [← hy] at HMK HCE
      have HHS : Hid (∀ W, Below w.heap.size w W → Calls Tryz.prog 34 #[dv, .int .i64 ((KK : Int) + 1 + 1 + 1)] W fun e w' => e = .returned (.int .i64 ((KK : Int) + 1 + 1 + 1 + (xd.length : Int))) ∧ Below W.heap.size W w') := fun W hW => by
        have h := heldStrK_any dv xd.length (KK + 3) W (HCE.out W hW).2 (Nat.le_trans (show xd.length ≤ 1048576 from HXD.out) (by omega)) (by omega) (by omega)
        have e : ((KK + 3 : Nat) : Int) = (KK : Int) + 1 + 1 + 1 := by omega
        rw [e] at h
        exact h
      obtain ⟨ad, nd, cd, hdv⟩ : ∃ ad nd cd, dv = .slice ad nd cd := by
        obtain ⟨a, c, e, _⟩ := (HCE.out wr hb).2
        exact ⟨a, _, c, e⟩
      subst hdv
      have HTR : Hid (∀ W W', Below w.heap.size w W → Below W.heap.size W W' → Below w.heap.size w W') := fun W W' h1 h2 => h1.trans (h2.mono h1.size)
      have hbd : Below w.heap.size w wr.drew := hb.drew
      have wk1 : IntKind.i64.wrap ((KK : Int) + 1) = (KK : Int) + 1 := wrap_small _ (by omega) (by omega)
      have wk2 : IntKind.i64.wrap ((KK : Int) + 1 + 1) = (KK : Int) + 1 + 1 := wrap_small _ (by omega) (by omega)
      have wk3 : IntKind.i64.wrap ((KK : Int) + 1 + 1 + 1) = (KK : Int) + 1 + 1 + 1 := wrap_small _ (by omega) (by omega)
      have ek2 : (((KK : Int) + 2) != ((KK : Int) + 1 + 1)) = false := by simp; omega
      have ek2' : (KK : Int) + 2 = (KK : Int) + 1 + 1 := by omega
      have HKK : Hid ((KK : Int) + 1 + 1 + 1 + (xd.length : Int) = ((KK + 3 + xd.length : Nat) : Int)) := by show _ = _; omega
      have HM5 : Hid (markD 1 D = A ++ [mkS KK ((xn, xt, xl, xd), .slice ad nd cd)] ++ markD (KK + 3 + xd.length) B) := by rw [HM.out, List.append_assoc]; exact rfl
      have HT5 : Hid (KK + 3 + xd.length + totD B = 1 + totD D) := by have h := HT.out; rw [totD_cons] at h; have e : (((xn, xt, xl, xd), Value.slice ad nd cd) : SetT × Value).1.2.2.2.length = xd.length := rfl; rw [e] at h; show _ = _; omega
      have HA5 : Hid ((A ++ [mkS KK ((xn, xt, xl, xd), Value.slice ad nd cd)]).length = m + 1) := by show _ = _; rw [List.length_append, ← HMA.out]; rfl
      have HDB5 : Hid (∀ x ∈ B, x.1.2.2.2.length ≤ 1048576) := fun z hz => HDB.out z (by simp [hz])
      rw [ek2'] at HCE
      clear hm hy HDB HM HT ek2 ek2'
      go_wp2_with fail
      refine wp_region_quiet (C := fun W => Below w.heap.size w W) (by kernel_rfl) (by kernel_rfl) hbd ?_
      refine wpQuiet_step (fun K hK => ?_)
      rw [if_pos (by rfl)]
      refine ⟨.slice (some ⟨g, 0, none⟩) n cap, fun W hW => quiet_ok ?_, hK _ ?_⟩
      · have f := (HCE.out W hW).1
        obtain ⟨c0, c1, c2, c3⟩ := f
        go_simp
        all_goals (try omega)
      clear hK K
      simp only [Act.put, List.setIfInBounds_toArray, List.set_cons_succ, List.set_cons_zero]
      refine wpQuiet_step (fun K hK => ?_)
      rw [if_pos (by rfl)]
      refine ⟨.int .i64 (m : Int), fun W hW => quiet_ok ?_, hK _ ?_⟩
      · have f := (HCE.out W hW).1
        obtain ⟨c0, c1, c2, c3⟩ := f
        go_simp
        all_goals (try omega)
      clear hK K
      simp only [Act.put, List.setIfInBounds_toArray, List.set_cons_succ, List.set_cons_zero]
      refine wpQuiet_step (fun K hK => ?_)
      rw [if_pos (by rfl)]
      refine ⟨.pointer (some ⟨g, m * 4, none⟩), fun W hW => quiet_ok ?_, hK _ ?_⟩
      · have f := (HCE.out W hW).1
        obtain ⟨c0, c1, c2, c3⟩ := f
        go_simp
        all_goals (try omega)
      clear hK K
      simp only [Act.put, List.setIfInBounds_toArray, List.set_cons_succ, List.set_cons_zero]
      refine wpQuiet_step (fun K hK => ?_)
      rw [if_pos (by rfl)]
      refine ⟨.pointer (some ⟨g, m * 4, none⟩), fun W hW => quiet_ok ?_, hK _ ?_⟩
      · have f := (HCE.out W hW).1
        obtain ⟨c0, c1, c2, c3⟩ := f
        go_simp
        all_goals (try omega)
      clear hK K
      simp only [Act.put, List.setIfInBounds_toArray, List.set_cons_succ, List.set_cons_zero]
      refine wpQuiet_step (fun K hK => ?_)
      rw [if_pos (by rfl)]
      refine ⟨.string ⟨y.toArray⟩, fun W hW => quiet_ok ?_, hK _ ?_⟩
      · have f := (HCE.out W hW).1
        obtain ⟨c0, c1, c2, c3⟩ := f
        go_simp
        all_goals (try omega)
      clear hK K
      simp only [Act.put, List.setIfInBounds_toArray, List.set_cons_succ, List.set_cons_zero]
      refine wpQuiet_step (fun K hK => ?_)
      rw [if_pos (by rfl)]
      refine ⟨.int .i64 (KK : Int), fun W hW => quiet_ok ?_, hK _ ?_⟩
      · have f := (HCE.out W hW).1
        obtain ⟨c0, c1, c2, c3⟩ := f
        go_simp
        all_goals (try omega)
      clear hK K
      simp only [Act.put, List.setIfInBounds_toArray, List.set_cons_succ, List.set_cons_zero]
      refine wpQuiet_step (fun K hK => ?_)
      rw [if_pos (by rfl)]
      refine ⟨.string ⟨y.toArray⟩, fun W hW => quiet_call (f := 32) (args := #[.int .i64 (KK : Int)]) ?_ ?_, hK _ ?_⟩
      · go_simp
      · exact (HMK.out W).mono fun e w'' h => ⟨h.1, HTR.out _ _ hW h.2⟩
      clear hK K
      simp only [Act.put, List.setIfInBounds_toArray, List.set_cons_succ, List.set_cons_zero]
      refine wpQuiet_step (fun K hK => ?_)
      rw [if_pos (by rfl)]
      refine ⟨.bool false, fun W hW => quiet_ok ?_, hK _ ?_⟩
      · have f := (HCE.out W hW).1
        obtain ⟨c0, c1, c2, c3⟩ := f
        go_simp
        all_goals (try omega)
      clear hK K
      simp only [Act.put, List.setIfInBounds_toArray, List.set_cons_succ, List.set_cons_zero]
      refine wpQuiet_nil ?_
      intro W hW
      obtain ⟨⟨c0, c1, c2, c3⟩, _⟩ := HCE.out W hW
      go_wp2_with fail
      refine (HHS.out W hW).mono ?_
      rintro e w5 ⟨rfl, hb5⟩
      have hbw5 := HTR.out _ _ hW hb5
      have hpos : ¬ (KK : Int) + 1 + 1 + 1 + (xd.length : Int) < 0 := by omega
      clear c0 c1 c2 c3 HCE HHS HMK
      go_wp2_with fail
      go_roundw
      case rel => exact ⟨KK + 3 + xd.length, _, B, ⟨by rw [HA5.out]; omega, by rw [HA5.out]; omega, by rw [HA5.out]; omega⟩, by omega, by rw [HA5.out]; go_num, by rw [HKK.out], HM5, HT5, HDB5, hbw5⟩
      case measure => simp [intOf]; omega
    | nil =>
      simp only [List.length_nil, Nat.add_zero] at hA2 hA3
      have HQ : Hid ((KK : Int) = 1 + (totD D : Int)) := by have h := HT.out; rw [show totD [] = 0 from rfl] at h; show _ = _; omega
      have hAn : ¬ (A.length : Int) < (n : Int) := by omega
      clear HM HT
      go_wp2_with fail
      go_ret
      exact ⟨ret_int HQ.out, hb⟩
theorem totD_small {D : List (SetT × Value)} (hl : D.length ≤ 100) (hd : ∀ x ∈ D, x.1.2.2.2.length ≤ 1000) : totD D ≤ 200000000 := by
  have htot := totD_le hd
  have : D.length * (1000 + 3) ≤ 100 * 1003 := Nat.mul_le_mul hl (Nat.le_refl _)
  omega
theorem markSetS_any (v : Value) (D : List (SetT × Value)) (base : Nat) (w : World) (h : Bld w base v D) (hbase : base ≤ w.heap.size) (hl : D.length ≤ 100) (hd : Hid (∀ x ∈ D, x.1.2.2.2.length ≤ 1000)) :
    Calls Tryz.prog 12 #[v, .int .i64 1] w fun e w' => e = .returned (.int .i64 (1 + (totD D : Int))) ∧ Bld w' base v (markD 1 D) ∧ Below base w w' :=
  (markSetW_any v D base w.heap.size w h hbase (by omega) (fun x hx => Nat.le_trans (hd.out x hx) (by omega)) (totD_small hl hd.out) (fun k hk => (h.1.lt k hk).2) (fun x hx k hk => ((h.2.1 x hx).1.lt k hk).2)).mono fun e w' hh => ⟨hh.1, hh.2.1, hh.2.2.1⟩
theorem heldSetS_any (v : Value) (D : List (SetT × Value)) (base : Nat) (w : World) (h : Bld w base v (markD 1 D)) (hl : D.length ≤ 100) (hd : Hid (∀ x ∈ D, x.1.2.2.2.length ≤ 1000)) :
    Calls Tryz.prog 13 #[v, .int .i64 1] w fun e w' => e = .returned (.int .i64 (1 + (totD D : Int))) ∧ Below w.heap.size w w' :=
  heldSetW_any v D base w h (by omega) (fun x hx => Nat.le_trans (hd.out x hx) (by omega)) (totD_small hl hd.out)
end Go.Proofs.YtjocegnhhhfbeaaGreatDoor

namespace Go.Proofs.YtjocegnhhhfbeaaGreatDoor
open Go.RowKit

theorem row_kept {w w' : World} {v : Value} {P : List (List UInt8)} (h : Row w v P) (hb : Below w.heap.size w w') : Row w' v P :=
  h.below hb (fun a n c e hp => by
    obtain ⟨_, _, e1, _, _, h3⟩ := h
    subst e1
    cases e
    rcases h3 with h3 | ⟨b, o, e2, hb, _⟩
    · exact absurd h3 hp
    · cases e2; exact hb)
/-- The four cells of a set at a place of a block. -/
def SetAt (w : World) (b o : Nat) (x : SetT) (v : Value) : Prop :=
  (w.cell? ⟨b, o, none⟩ = some (.string ⟨x.1.toArray⟩) ∧ w.cell? ⟨b, o + 1, none⟩ = some (.int .i64 x.2.1) ∧ w.cell? ⟨b, o + 2, none⟩ = some (.int .i64 x.2.2.1) ∧ w.cell? ⟨b, o + 3, none⟩ = some v) ∧ Row w v x.2.2.2
/-- A list of sets as it lies in memory. -/
def SSRow (w : World) (v : Value) (L : List SetT) : Prop :=
  ∃ a cap, v = .slice a L.length cap ∧ L.length ≤ cap ∧ cap ≤ maxLen ∧ (L = [] ∨ ∃ b o, a = some ⟨b, o, none⟩ ∧ b < w.heap.size ∧ ∀ j, (hj : j < L.length) → ∃ va, SetAt w b (o + j * 4) L[j] va)
theorem SetAt.kept {w w' : World} {b o : Nat} {x : SetT} {v : Value} (h : SetAt w b o x v) (hb : Below w.heap.size w w') : SetAt w' b o x v := by
  have hlt := World.block_lt_of_cell? _ _ h.1.1
  unfold SetAt
  rw [hb.cell (p := ⟨b, o, none⟩) hlt, hb.cell (p := ⟨b, o + 1, none⟩) hlt, hb.cell (p := ⟨b, o + 2, none⟩) hlt, hb.cell (p := ⟨b, o + 3, none⟩) hlt]
  exact ⟨h.1, row_kept h.2 hb⟩
theorem SSRow.kept {w w' : World} {v : Value} {L : List SetT} (h : SSRow w v L) (hb : Below w.heap.size w w') : SSRow w' v L := by
  obtain ⟨a, cap, rfl, h1, h2, h3⟩ := h
  refine ⟨a, cap, rfl, h1, h2, ?_⟩
  rcases h3 with h3 | ⟨b, o, rfl, hb1, hc⟩
  · exact .inl h3
  · exact .inr ⟨b, o, rfl, Nat.lt_of_lt_of_le hb1 hb.size, fun j hj => by obtain ⟨va, h⟩ := hc j hj; exact ⟨va, h.kept hb⟩⟩
theorem ssrow_value {w : World} {v : Value} {L : List SetT} (h : SSRow w v L) : ∃ a cap, v = .slice a L.length cap ∧ L.length ≤ cap ∧ cap ≤ 9223372036854775807 ∧ Hid (0 < L.length → ∃ b o, a = some ⟨b, o, none⟩ ∧ b < w.heap.size ∧ ∀ j, (hj : j < L.length) → ∃ va, SetAt w b (o + j * 4) L[j] va) := by
  obtain ⟨a, cap, rfl, h1, h2, h3⟩ := h
  unfold maxLen at h2
  refine ⟨a, cap, rfl, h1, by omega, fun hp => ?_⟩
  rcases h3 with rfl | h3
  · simp at hp
  · exact h3
/-- Sets of the call's own read as sets. -/
theorem bld_row {w : World} {base : Nat} {v : Value} {D : List (SetT × Value)} (h : Bld w base v D) : SSRow w v (D.map (fun x => x.1)) := by
  rcases h.1.2 with ⟨rfl, hn⟩ | ⟨g, cap, cur, rfl, hb, hg, h1, h2, _⟩
  · obtain rfl : D = [] := List.length_eq_zero_iff.1 hn
    exact ⟨none, 0, rfl, Nat.le_refl _, by unfold maxLen; omega, .inl rfl⟩
  · refine ⟨some ⟨g, 0, none⟩, cap, by rw [List.length_map], by rw [List.length_map]; exact h1, h2, .inr ⟨g, 0, rfl, (h.1.lt g rfl).2, fun j hj => ?_⟩⟩
    have hj' : j < D.length := by rw [List.length_map] at hj; exact hj
    obtain ⟨g2, c2, e, hc, hr⟩ := place_of h j hj'
    cases e
    refine ⟨D[j].2, ?_⟩
    rw [List.getElem_map, Nat.zero_add]
    exact ⟨hc, hr⟩

/-- How much texts, and sets, weigh. -/
def wtP (P : List (List UInt8)) : Nat := (P.map List.length).sum
theorem wtP_snoc (P : List (List UInt8)) (k : Nat) (h : k < P.length) : wtP (P.take (k + 1)) = wtP (P.take k) + P[k].length := by
  unfold wtP; rw [List.take_succ_eq_append_getElem h, List.map_append, List.sum_append]; simp only [List.map_cons, List.map_nil, List.sum_cons, List.sum_nil, Nat.add_zero]
theorem wtP_le (P : List (List UInt8)) (k : Nat) : wtP (P.take k) ≤ wtP P := by
  have h : wtP P = wtP (P.take k) + wtP (P.drop k) := by unfold wtP; rw [← List.sum_append, ← List.map_append, List.take_append_drop]
  omega
theorem wtP_one {P : List (List UInt8)} {x : List UInt8} (h : x ∈ P) : x.length ≤ wtP P := by
  obtain ⟨k, hk, rfl⟩ := List.getElem_of_mem h
  have h1 := wtP_snoc P k hk
  have h2 := wtP_le P (k + 1)
  omega
def wtS1 (x : SetT) : Nat := x.1.length + x.2.2.2.length + wtP x.2.2.2
def wtS (L : List SetT) : Nat := (L.map wtS1).sum
theorem wtS_snoc (L : List SetT) (k : Nat) (h : k < L.length) : wtS (L.take (k + 1)) = wtS (L.take k) + wtS1 L[k] := by
  unfold wtS; rw [List.take_succ_eq_append_getElem h, List.map_append, List.sum_append]; simp only [List.map_cons, List.map_nil, List.sum_cons, List.sum_nil, Nat.add_zero]
theorem wtS_le (L : List SetT) (k : Nat) : wtS (L.take k) ≤ wtS L := by
  have h : wtS L = wtS (L.take k) + wtS (L.drop k) := by unfold wtS; rw [← List.sum_append, ← List.map_append, List.take_append_drop]
  omega
theorem wtS_one {L : List SetT} {x : SetT} (h : x ∈ L) : wtS1 x ≤ wtS L := by
  obtain ⟨k, hk, rfl⟩ := List.getElem_of_mem h
  have h1 := wtS_snoc L k hk
  have h2 := wtS_le L (k + 1)
  omega
def SFit (x : SetT) : Prop := x.1.length ≤ maxLen ∧ ∀ p ∈ x.2.2.2, p.length ≤ maxLen
def SBig (x : SetT) : Prop := x.1.length ≤ 1048576 ∧ x.2.2.2.length ≤ 1048576 ∧ ∀ p ∈ x.2.2.2, p.length ≤ 1048576
theorem sbig_of {x : SetT} (h : wtS1 x ≤ 1048576) : SBig x := by
  unfold wtS1 at h
  refine ⟨by omega, by omega, fun p hp => ?_⟩
  have := wtP_one hp; omega

set_option maxRecDepth 20000 in
set_option maxHeartbeats 1000000 in
theorem szStrL_any (v : Value) (P : List (List UInt8)) (left : Int) (w : World) (hr : Row w v P) (hx : Hid (∀ p ∈ P, p.length ≤ maxLen)) (h0 : 0 ≤ left) (h1 : left ≤ 1048576) :
    Calls Tryz.prog 52 #[v, .int .i64 left] w fun e w' => (∃ q : Int, e = .returned (.int .i64 q) ∧ (q = -1 ∨ (0 ≤ q ∧ q = left - (P.length : Int) - (wtP P : Int)))) ∧ w' = w := by
  obtain ⟨a, cap, rfl, hcap, hmax, HROW⟩ := row_value hr
  clear hr
  by_cases hneg : left - (P.length : Int) < 0
  · go_enter Tryz.func52, Tryz.ntmps52
    go_wp2_with fail
    go_ret
    exact ⟨⟨-1, rfl, .inl rfl⟩, rfl⟩
  · have hpos : 0 ≤ left - (P.length : Int) := by omega
    clear hneg
    go_enter Tryz.func52, Tryz.ntmps52
    go_wp2_with fail
    go_loopw [1, 5] (fun q i wr => ∃ k : Nat, k ≤ P.length ∧ i = .int .i64 (k : Int) ∧ q = .int .i64 (left - (P.length : Int) - (wtP (P.take k) : Int)) ∧ 0 ≤ left - (P.length : Int) - (wtP (P.take k) : Int) ∧ wr = w) (fun _ i _ => P.length - (intOf i).toNat)
    case atStart => exact ⟨0, Nat.zero_le _, rfl, by simp [wtP], by simpa [wtP] using hpos, rfl⟩
    case round =>
      obtain ⟨k, hk, rfl, rfl, hq0, rfl⟩ := hrel
      by_cases hlt : k < P.length
      · obtain ⟨b, o, ha, hbl, hc⟩ := HROW.out (by omega)
        rw [ha]
        have hcx := hc k hlt
        have hxl := hx.out _ (List.getElem_mem hlt)
        have HST : Hid (wtP (P.take (k + 1)) = wtP (P.take k) + (P[k]'hlt).length) := wtP_snoc P k hlt
        obtain ⟨x, hxe⟩ : ∃ x, x = P[k]'hlt := ⟨_, rfl⟩
        rw [← hxe] at hcx hxl HST
        obtain ⟨q, hq⟩ : ∃ q : Int, q = left - (P.length : Int) - (wtP (P.take k) : Int) := ⟨_, rfl⟩
        have HQ : Hid (q = left - (P.length : Int) - (wtP (P.take k) : Int)) := hq
        rw [← hq] at hq0 ⊢
        have hq1 : q ≤ 1048576 := by omega
        unfold S at hcx
        unfold maxLen at hxl
        clear hc hxe hq
        by_cases g : q - (x.length : Int) < 0
        · go_wp2_with fail
          go_ret
          exact ⟨⟨-1, rfl, .inl rfl⟩, rfl⟩
        · have HQ2 : Hid (q - (x.length : Int) = left - (P.length : Int) - (wtP (P.take (k + 1)) : Int)) := by have h1 := HQ.out; have h2 := HST.out; show q - _ = _; omega
          have g2 : 0 ≤ q - (x.length : Int) := by omega
          go_wp2_with fail
          go_roundw
          case rel => exact ⟨k + 1, by omega, by go_num, by rw [← HQ2.out], by rw [← HQ2.out]; exact g2, by first | rfl | trivial⟩
          case measure => simp [intOf]; omega
      · have hfull : wtP (P.take k) = wtP P := by rw [List.take_of_length_le (by omega)]
        rw [hfull] at hq0 ⊢
        clear hfull
        go_wp2_with fail
        go_ret
        exact ⟨⟨_, rfl, .inr ⟨hq0, rfl⟩⟩, rfl⟩

set_option maxRecDepth 20000 in
set_option maxHeartbeats 1000000 in
theorem szSet_any (x : SetT) (v : Value) (left : Int) (w : World) (hf : SFit x) (hr : Row w v x.2.2.2) (h0 : 0 ≤ left) (h1 : left ≤ 1048576) :
    Calls Tryz.prog 35 #[.agg #[.string ⟨x.1.toArray⟩, .int .i64 x.2.1, .int .i64 x.2.2.1, v], .int .i64 left] w fun e w' => (∃ q : Int, e = .returned (.int .i64 q) ∧ (q = -1 ∨ (0 ≤ q ∧ q = left - (wtS1 x : Int)))) ∧ Below w.heap.size w w' := by
  have HW : Hid (∀ q : Int, q = left - (x.1.length : Int) - (x.2.2.2.length : Int) - (wtP x.2.2.2 : Int) → q = left - (wtS1 x : Int)) := fun q h => by unfold wtS1; omega
  have HX : Hid (∀ p ∈ x.2.2.2, p.length ≤ maxLen) := hf.2
  have hn := hf.1
  clear hf
  obtain ⟨n0, ty, tl, P⟩ := x
  simp only at hn hr HX HW ⊢
  obtain ⟨aa, ca, rfl, _, hca, _⟩ := id hr
  have HRA : Hid (∀ W, Below w.heap.size w W → Row W (.slice aa P.length ca) P) := fun W hW => row_kept hr hW
  clear hr
  unfold maxLen at hn
  by_cases g1 : left - (n0.length : Int) < 0
  · go_enter Tryz.func35, Tryz.ntmps35
    go_wp2_with fail
    go_ret
    exact ⟨⟨-1, rfl, .inl rfl⟩, (Below.refl w.heap.size w).alloc (Nat.le_refl _) _⟩
  · go_enter Tryz.func35, Tryz.ntmps35
    go_wp2_with fail
    refine (szStrL_any _ P (left - (n0.length : Int)) _ (HRA.out _ ((Below.refl w.heap.size w).alloc (Nat.le_refl _) _)) HX (by omega) (by omega)).mono ?_
    rintro e w1 ⟨⟨q1, rfl, hq1⟩, rfl⟩
    rcases hq1 with rfl | ⟨hp1, hq1⟩
    · go_wp2_with fail
      go_ret
      exact ⟨⟨-1, rfl, .inl rfl⟩, (Below.refl w.heap.size w).alloc (Nat.le_refl _) _⟩
    · have HQ1 : Hid (q1 = left - (wtS1 (n0, ty, tl, P) : Int)) := HW.out q1 hq1
      clear hq1
      go_wp2_with fail
      go_ret
      exact ⟨⟨q1, rfl, .inr ⟨hp1, HQ1.out⟩⟩, (Below.refl w.heap.size w).alloc (Nat.le_refl _) _⟩

set_option maxRecDepth 20000 in
set_option maxHeartbeats 1000000 in
theorem szSetS_any (v : Value) (L : List SetT) (left : Int) (w : World) (hr : SSRow w v L) (hx : Hid (∀ x ∈ L, SFit x)) (h0 : 0 ≤ left) (h1 : left ≤ 1048576) :
    Calls Tryz.prog 14 #[v, .int .i64 left] w fun e w' => (∃ q : Int, e = .returned (.int .i64 q) ∧ (q = -1 ∨ (0 ≤ q ∧ q = left - (L.length : Int) - (wtS L : Int)))) ∧ Below w.heap.size w w' := by
  obtain ⟨a, cap, rfl, hcap, hmax, HROW⟩ := ssrow_value hr
  have HSZ : Hid (∀ (x : SetT) (va : Value) (q : Int) W, SFit x → Row W va x.2.2.2 → 0 ≤ q → q ≤ 1048576 → Calls Tryz.prog 35 #[.agg #[.string ⟨x.1.toArray⟩, .int .i64 x.2.1, .int .i64 x.2.2.1, va], .int .i64 q] W fun e w' => (∃ q2 : Int, e = .returned (.int .i64 q2) ∧ (q2 = -1 ∨ (0 ≤ q2 ∧ q2 = q - (wtS1 x : Int)))) ∧ Below W.heap.size W w') := fun x va q W g1 g3 g4 g5 => szSet_any x va q W g1 g3 g4 g5
  clear hr
  by_cases hneg : left - (L.length : Int) < 0
  · go_enter Tryz.func14, Tryz.ntmps14
    go_wp2_with fail
    go_ret
    exact ⟨⟨-1, rfl, .inl rfl⟩, Below.refl _ _⟩
  · have hpos : 0 ≤ left - (L.length : Int) := by omega
    clear hneg
    go_enter Tryz.func14, Tryz.ntmps14
    go_wp2_with fail
    go_loopw [1, 5] (fun q i wr => ∃ k : Nat, k ≤ L.length ∧ i = .int .i64 (k : Int) ∧ q = .int .i64 (left - (L.length : Int) - (wtS (L.take k) : Int)) ∧ 0 ≤ left - (L.length : Int) - (wtS (L.take k) : Int) ∧ Below w.heap.size w wr) (fun _ i _ => L.length - (intOf i).toNat)
    case atStart => exact ⟨0, Nat.zero_le _, rfl, by simp [wtS], by simpa [wtS] using hpos, Below.refl _ _⟩
    case round =>
      obtain ⟨k, hk, rfl, rfl, hq0, hb⟩ := hrel
      have hwl := wtS_le L k
      by_cases hlt : k < L.length
      · obtain ⟨b, o, ha, hbl, hcel⟩ := HROW.out (by omega)
        rw [ha]
        obtain ⟨va, hcx0⟩ := hcel k hlt
        have hcx := hcx0.kept hb
        unfold SetAt at hcx
        obtain ⟨⟨c0, c1, c2, c3⟩, hz⟩ := hcx
        have hxl := hx.out _ (List.getElem_mem hlt)
        have HST : Hid (wtS (L.take (k + 1)) = wtS (L.take k) + wtS1 (L[k]'hlt)) := wtS_snoc L k hlt
        obtain ⟨x, hxe⟩ : ∃ x, x = L[k]'hlt := ⟨_, rfl⟩
        rw [← hxe] at c0 c1 c2 hz hxl HST
        obtain ⟨q, hq⟩ : ∃ q : Int, q = left - (L.length : Int) - (wtS (L.take k) : Int) := ⟨_, rfl⟩
        have HQ : Hid (q = left - (L.length : Int) - (wtS (L.take k) : Int)) := hq
        rw [← hq] at hq0 ⊢
        have hq1 : q ≤ 1048576 := by omega
        have HC2 : Hid (Calls Tryz.prog 35 #[.agg #[.string ⟨x.1.toArray⟩, .int .i64 x.2.1, .int .i64 x.2.2.1, va], .int .i64 q] wr fun e w' => (∃ q2 : Int, e = .returned (.int .i64 q2) ∧ (q2 = -1 ∨ (0 ≤ q2 ∧ q2 = q - (wtS1 x : Int)))) ∧ Below wr.heap.size wr w') := HSZ.out x va q wr hxl hz hq0 hq1
        obtain ⟨aa, ca, rfl, _, hca, _⟩ := hz
        clear hcel hxe hq hcx0 hxl
        go_wp2_with fail
        refine HC2.out.mono ?_
        rintro e w2 ⟨⟨q2, rfl, hq2⟩, hb2⟩
        rcases hq2 with rfl | ⟨hq20, hq2e⟩
        · go_wp2_with fail
          go_ret
          exact ⟨⟨-1, rfl, .inl rfl⟩, hb.trans (hb2.mono hb.size)⟩
        · have HQ2 : Hid (q2 = left - (L.length : Int) - (wtS (L.take (k + 1)) : Int)) := by have h1 := HQ.out; have h2 := HST.out; show q2 = _; omega
          clear hq2e HC2
          go_wp2_with fail
          go_roundw
          case rel => exact ⟨k + 1, by omega, by go_num, by rw [HQ2.out], by rw [← HQ2.out]; exact hq20, hb.trans (hb2.mono hb.size)⟩
          case measure => simp [intOf]; omega
      · have hfull : wtS (L.take k) = wtS L := by rw [List.take_of_length_le (by omega)]
        rw [hfull] at hq0 ⊢
        clear hfull hwl
        go_wp2_with fail
        go_ret
        exact ⟨⟨_, rfl, .inr ⟨hq0, rfl⟩⟩, hb⟩
end Go.Proofs.YtjocegnhhhfbeaaGreatDoor

namespace Go.Proofs.YtjocegnhhhfbeaaGreatDoor
open Go.RowKit

def partO (P : List (List UInt8)) (k : Nat) : List (List UInt8) := P.take k ++ List.replicate (P.length - k) []
theorem partO_length (P : List (List UInt8)) (k : Nat) (h : k ≤ P.length) : (partO P k).length = P.length := by simp [partO]; omega
theorem partO_next (P : List (List UInt8)) (k : Nat) (h : k < P.length) : partO P (k + 1) = (partO P k).set k P[k] := by
  unfold partO
  have hm : (P.take k).length = k := by simp; omega
  rw [List.take_succ_eq_append_getElem h, List.set_append_right _ _ (by omega), hm, Nat.sub_self]
  obtain ⟨m, hm2⟩ : ∃ m, P.length - k = m + 1 := ⟨P.length - k - 1, by omega⟩
  rw [hm2, show P.length - (k + 1) = m by omega, List.replicate_succ]
  simp only [List.set_cons_zero, List.append_assoc, List.singleton_append]
theorem partO_end (P : List (List UInt8)) : partO P P.length = P := by simp [partO]
theorem made_strs (n : Nat) : (madeCells #[.string ByteArray.empty] n).toList = (List.replicate n ([] : List UInt8)).map S := by
  unfold madeCells
  rw [List.map_replicate]
  apply List.ext_getElem?
  intro i
  simp only [Array.toList_map, Array.toList_range, List.getElem?_map]
  by_cases hi : i < n
  · rw [List.getElem?_range hi, List.getElem?_replicate, if_pos hi]
    simp only [Option.map_some, show (#[Value.string ByteArray.empty] : Array Value).size = 1 from rfl, Nat.mod_one]
    rfl
  · rw [List.getElem?_replicate, if_neg hi, List.getElem?_eq_none (by simp; omega)]; rfl

set_option maxRecDepth 20000 in
set_option maxHeartbeats 1000000 in
theorem toStrO_any (v : Value) (P : List (List UInt8)) (w : World) (hr : Row w v P) (hl : P.length ≤ 1048576) :
    Calls Tryz.prog 55 #[v] w fun e w' => e = .returned (.slice (some ⟨w.heap.size, 0, none⟩) P.length P.length) ∧ w'.ownsRow w.heap.size 9 1 (.slice (some ⟨w.heap.size, 0, none⟩) P.length P.length) P.length (P.map S) ∧ Below w.heap.size w w' := by
  obtain ⟨i0, hi, hz0, hz1, hz2⟩ := info_parts info_string
  obtain ⟨a, cap, rfl, hcap, hmax, HROW⟩ := row_value hr
  clear hr
  go_enter Tryz.func55, Tryz.ntmps55
  go_wp2_with (at_make; refine wpList_make_full _ rfl _ _ 53 rfl w.heap.size 9 i0 (.string ByteArray.empty) 1 Tryz.underlying53 hi hz0 hz1 _ _ _ _ P.length rfl rfl rfl rfl ?b2 ?b3 ?b4 ?_)
  case b2 => rw [hz2]; omega
  case b3 => unfold maxLen; omega
  case b4 => exact Nat.le_refl _
  intro w1 hown hgrow
  have hb1 : Below w.heap.size w w1 := (Below.refl _ _).grown hgrow (Nat.le_refl _) (fun k h => by cases h)
  have HS1 : Hid (w1.ownsRow w.heap.size 9 1 (.slice (some ⟨w.heap.size, 0, none⟩) P.length P.length) P.length ((partO P 0).map S)) := by
    have e : ((partO P 0).map S) = (madeCells #[.string ByteArray.empty] P.length).toList := by rw [made_strs]; simp [partO]
    have h : w1.ownsRow w.heap.size 9 1 (.slice (some ⟨w.heap.size, 0, none⟩) P.length P.length) P.length ((partO P 0).map S) := by rw [e]; exact hown
    exact h
  clear hown hgrow
  go_wp2_with fail
  go_loopw [4] (fun i wr => ∃ k : Nat, k ≤ P.length ∧ i = .int .i64 k ∧ Hid (wr.ownsRow w.heap.size 9 1 (.slice (some ⟨w.heap.size, 0, none⟩) P.length P.length) P.length ((partO P k).map S)) ∧ Below w.heap.size w wr) (fun i _ => P.length - (intOf i).toNat)
  case atStart => exact ⟨0, Nat.zero_le _, rfl, HS1, hb1⟩
  case round =>
    obtain ⟨k, hk, rfl, HR, hb⟩ := hrel
    by_cases hlt : k < P.length
    · obtain ⟨b, o, ha, hbl, hc⟩ := HROW.out (by omega)
      rw [ha]
      have hcx := hc k hlt
      rw [← hb.cell (p := ⟨b, o + k, none⟩) hbl] at hcx
      have hcg : wr.cell? ⟨w.heap.size, k, none⟩ = some (S ((partO P k)[k]'(by rw [partO_length P k hk]; exact hlt))) := by
        rw [HR.out.cellAt k (by omega), List.getElem?_map, List.getElem?_eq_getElem (by rw [partO_length P k hk]; exact hlt)]; rfl
      have hfg : wr.frozen? ⟨w.heap.size, k, none⟩ = false := HR.out.frozenAt k
      have hset := (HR.out.stored k (.string ⟨(P[k]'hlt).toArray⟩)).1
      have hnx : ((partO P k).map S).set k (.string ⟨(P[k]'hlt).toArray⟩) = (partO P (k + 1)).map S := by rw [partO_next P k hlt, List.map_set]; rfl
      rw [hnx] at hset
      obtain ⟨y, hy⟩ : ∃ y, y = P[k]'hlt := ⟨_, rfl⟩
      rw [← hy] at hcx hset
      have HSS : Hid ((wr.setCell ⟨w.heap.size, k, none⟩ (.string ⟨y.toArray⟩)).ownsRow w.heap.size 9 1 (.slice (some ⟨w.heap.size, 0, none⟩) P.length P.length) P.length ((partO P (k + 1)).map S)) := hset
      unfold S at hcx hcg
      clear hc hset hy hnx
      go_wp2_with fail
      go_roundw
      case rel => exact ⟨k + 1, by omega, by go_num, HSS, hb.setCell (p := ⟨w.heap.size, k, none⟩) (Nat.le_refl _) _⟩
      case measure => simp [intOf]; omega
    · have hkk : k = P.length := by omega
      have HF : Hid (wr.ownsRow w.heap.size 9 1 (.slice (some ⟨w.heap.size, 0, none⟩) P.length P.length) P.length (P.map S)) := by have := HR.out; rw [hkk, partO_end] at this; exact this
      clear hkk
      go_wp2_with fail
      go_ret
      exact ⟨rfl, HF.out, hb⟩
/-- Four cells stored. -/
def pt4 (w : World) (g : Nat) (v0 v1 v2 v3 : Value) : World := (((w.setCell ⟨g, 0, none⟩ v0).setCell ⟨g, 1, none⟩ v1).setCell ⟨g, 2, none⟩ v2).setCell ⟨g, 3, none⟩ v3
theorem pt4_heap {w : World} {g : Nat} {t : TypeId} {v0 v1 v2 v3 u0 u1 u2 u3 : Value} (h : w.heap[g]? = some (.cells #[u0, u1, u2, u3] t)) : (pt4 w g v0 v1 v2 v3).heap[g]? = some (.cells #[v0, v1, v2, v3] t) := by
  have e0 := heap_setCell_same _ _ 0 _ _ v0 h
  have e1 := heap_setCell_same _ _ 1 _ _ v1 e0
  have e2 := heap_setCell_same _ _ 2 _ _ v2 e1
  have e3 := heap_setCell_same _ _ 3 _ _ v3 e2
  unfold pt4
  simpa using e3
theorem pt4_grown (w : World) (g : Nat) (v0 v1 v2 v3 : Value) : w.grownBy (pt4 w g v0 v1 v2 v3) (some g) := grown_set (grown_set (grown_set (grown_set (grown_refl _ _))))

set_option maxRecDepth 20000 in
set_option maxHeartbeats 2000000 in
theorem toSet_any (x : SetT) (v : Value) (w : World) (hr : Row w v x.2.2.2) (hl : x.2.2.2.length ≤ 1048576) :
    Calls Tryz.prog 37 #[.agg #[.string ⟨x.1.toArray⟩, .int .i64 x.2.1, .int .i64 x.2.2.1, v]] w fun e w' => (∃ t, e = .returned (.agg #[.string ⟨x.1.toArray⟩, .int .i64 x.2.1, .int .i64 x.2.2.1, .slice (some ⟨t, 0, none⟩) x.2.2.2.length x.2.2.2.length]) ∧ w.heap.size ≤ t ∧ w'.ownsRow w.heap.size 9 1 (.slice (some ⟨t, 0, none⟩) x.2.2.2.length x.2.2.2.length) x.2.2.2.length (x.2.2.2.map S)) ∧ Below w.heap.size w w' := by
  obtain ⟨n0, ty, tl, P⟩ := x
  simp only at hr hl ⊢
  obtain ⟨aa, ca, rfl, _, hca, _⟩ := id hr
  have HRA : Hid (∀ W, Below w.heap.size w W → Row W (.slice aa P.length ca) P) := fun W hW => row_kept hr hW
  clear hr
  go_enter Tryz.func37, Tryz.ntmps37
  go_wp2_with fail
  refine (toStrO_any _ P _ (HRA.out _ ((((Below.refl w.heap.size w).alloc (Nat.le_refl _) _).alloc (by simp) _).alloc (by simp; omega) _)) hl).mono ?_
  rintro e w1 ⟨rfl, hq1, hb1⟩
  obtain ⟨c, d, fz, r, rz, hsz, hblk, hbw⟩ := box3 hb1
  have d0 := d 0
  have d1 := d 1
  have d2 := d 2
  have d3 := d 3
  have fz3 := fz 3
  have r0 := r 0
  have r1 := r 1
  have r2 := r 2
  have r3 := r 3
  have s0 := rz 0
  have s1 := rz 1
  have s2 := rz 2
  have s3 := rz 3
  simp at d0 d1 d2 d3 r0 r1 r2 r3
  have HQ : Hid (w1.ownsRow w.heap.size 9 1 (.slice (some ⟨w.heap.size + 1 + 1 + 1, 0, none⟩) P.length P.length) P.length (P.map S)) := by
    have h : w1.ownsRow w.heap.size 9 1 (.slice (some ⟨w.heap.size + 1 + 1 + 1, 0, none⟩) P.length P.length) P.length (P.map S) := by
      refine own_low (by simpa using hq1) (fun k hk => ?_)
      simp [Value.ownBlock] at hk
      omega
    exact h
  have HK : Hid (w1.heap[w.heap.size + 1]? = some (.cells #[.string ⟨#[]⟩, .int .i64 0, .int .i64 0, .slice none 0 0] 55)) := hblk
  clear c d fz r rz hq1 hblk
  go_wp2_with fail
  (try simp only [Exit.inBlock, Exit.then])
  refine bodyPost_ret (results_cell_row rfl _ _ (w.heap.size + 1) 55 #[.string ⟨n0.toArray⟩, .int .i64 ty, .int .i64 tl, .slice (some ⟨w.heap.size + 1 + 1 + 1, 0, none⟩) P.length P.length] (0, 0) _ rfl ?_ Tryz.underlying55 rfl (by kernel_rfl)) rfl ⟨⟨w.heap.size + 1 + 1 + 1, rfl, by omega, ?_⟩, ?_⟩
  · exact pt4_heap (by rw [heap_setCell_other _ _ _ _ (show w.heap.size + 1 ≠ w.heap.size + 1 + 1 by omega)]; exact HK.out)
  · have h1 := HQ.out.kept (grown_set (g := w.heap.size + 1 + 1) (k := 3) (u := .slice (some ⟨w.heap.size + 1 + 1 + 1, 0, none⟩) P.length P.length) (grown_refl w1 _)) (.inr (by simp [Value.ownBlock]))
    exact h1.kept (pt4_grown _ (w.heap.size + 1) _ _ _ _) (.inr (by simp [Value.ownBlock]; omega))
  · have hb2 := hbw.setCell (p := ⟨w.heap.size + 1 + 1, 3, none⟩) (by show w.heap.size ≤ w.heap.size + 1 + 1; omega) (.slice (some ⟨w.heap.size + 1 + 1 + 1, 0, none⟩) P.length P.length)
    exact hb2.grown (pt4_grown _ (w.heap.size + 1) _ _ _ _) hb2.size (fun k hk => by cases hk; omega)

/-- Sets that are not there yet. -/
def noSets : Nat → List Value
  | 0 => []
  | n + 1 => [.string ByteArray.empty, .int .i64 0, .int .i64 0, .slice none 0 0] ++ noSets n
theorem noSets_length : ∀ n, (noSets n).length = n * 4
  | 0 => rfl
  | n + 1 => by rw [noSets, List.length_append, noSets_length n]; simp only [List.length_cons, List.length_nil]; omega
theorem noSets_get : ∀ n i, i < n * 4 → (noSets n)[i]? = [Value.string ByteArray.empty, .int .i64 0, .int .i64 0, .slice none 0 0][i % 4]?
  | 0, i, h => by omega
  | n + 1, i, h => by
    rw [noSets]
    by_cases hi : i < 4
    · rw [List.getElem?_append_left (by simpa using hi), show i % 4 = i by omega]
    · rw [List.getElem?_append_right (by simp; omega)]
      simp only [List.length_cons, List.length_nil]
      rw [noSets_get n (i - 4) (by omega), show (i - 4) % 4 = i % 4 by omega]
theorem made_noSets (n : Nat) : (madeCells #[.string ByteArray.empty, .int .i64 0, .int .i64 0, .slice none 0 0] (n * 4)).toList = noSets n := by
  apply List.ext_getElem?
  intro i
  unfold madeCells
  simp only [Array.toList_map, Array.toList_range, List.getElem?_map]
  by_cases hi : i < n * 4
  · rw [List.getElem?_range hi, noSets_get n i hi]
    simp only [Option.map_some, show (#[Value.string ByteArray.empty, .int .i64 0, .int .i64 0, .slice none 0 0] : Array Value).size = 4 from rfl]
    have h4 : i % 4 < 4 := Nat.mod_lt _ (by omega)
    generalize i % 4 = r at h4
    match r, h4 with
    | 0, _ => rfl
    | 1, _ => rfl
    | 2, _ => rfl
    | 3, _ => rfl
  · rw [List.getElem?_eq_none (by simp; omega), List.getElem?_eq_none (by rw [noSets_length]; omega)]; rfl
/-- What has been copied of sets. -/
def TPart (W : World) (g n : Nat) (DS : List (SetT × Value)) : Prop :=
  W.ownsRow g 55 4 (.slice (some ⟨g, 0, none⟩) n n) n (scells DS ++ noSets (n - DS.length)) ∧ (∀ x ∈ DS, W.ownsRow g 9 1 x.2 x.1.2.2.2.length (x.1.2.2.2.map S) ∧ ∃ k, x.2.ownBlock = some k) ∧ DS.Pairwise (fun x y => ∀ a b, x.2.ownBlock = some a → y.2.ownBlock = some b → a < b)
theorem TPart.kept {W W' : World} {g n : Nat} {DS : List (SetT × Value)} (h : TPart W g n DS) (hb : Below W.heap.size W W') : TPart W' g n DS :=
  ⟨own_below h.1 hb, fun x hx => ⟨own_below (h.2.1 x hx).1 hb, (h.2.1 x hx).2⟩, h.2.2⟩
theorem TPart.done {W : World} {g n : Nat} {DS : List (SetT × Value)} (h : TPart W g n DS) (hn : DS.length = n) : Bld W g (.slice (some ⟨g, 0, none⟩) n n) DS := by
  refine ⟨?_, h.2.1, h.2.2⟩
  have h1 := h.1
  rw [hn, Nat.sub_self] at h1
  rw [hn]
  simpa [noSets] using h1
theorem zs_put (DS : List (SetT × Value)) (m : Nat) (x : SetT × Value) :
    ((((scells DS ++ noSets (m + 1)).set (DS.length * 4) (.string ⟨x.1.1.toArray⟩)).set (DS.length * 4 + 1) (.int .i64 x.1.2.1)).set (DS.length * 4 + 2) (.int .i64 x.1.2.2.1)).set (DS.length * 4 + 3) x.2 = scells (DS ++ [x]) ++ noSets m := by
  have hl := scells_length DS
  rw [List.set_append_right _ _ (by omega), List.set_append_right _ _ (by omega), List.set_append_right _ _ (by omega), List.set_append_right _ _ (by omega), hl, Nat.sub_self, show DS.length * 4 + 1 - DS.length * 4 = 1 by omega, show DS.length * 4 + 2 - DS.length * 4 = 2 by omega, show DS.length * 4 + 3 - DS.length * 4 = 3 by omega, scells_app, scells_one, noSets, List.append_assoc]
  rfl
theorem TPart.put {W : World} {g n : Nat} {DS : List (SetT × Value)} {x : SetT × Value} (h : TPart W g n DS) (hk : DS.length < n) (hx : W.ownsRow g 9 1 x.2 x.1.2.2.2.length (x.1.2.2.2.map S)) (t : Nat) (ht : x.2.ownBlock = some t) (hlt : ∀ y ∈ DS, ∀ k, y.2.ownBlock = some k → k < t) :
    TPart ((((W.setCell ⟨g, DS.length * 4, none⟩ (.string ⟨x.1.1.toArray⟩)).setCell ⟨g, DS.length * 4 + 1, none⟩ (.int .i64 x.1.2.1)).setCell ⟨g, DS.length * 4 + 2, none⟩ (.int .i64 x.1.2.2.1)).setCell ⟨g, DS.length * 4 + 3, none⟩ x.2) g n (DS ++ [x]) := by
  obtain ⟨m, hm⟩ : ∃ m, n - DS.length = m + 1 := ⟨n - DS.length - 1, by omega⟩
  have h1 := h.1
  rw [hm] at h1
  have a1 := (h1.stored (DS.length * 4) (.string ⟨x.1.1.toArray⟩))
  have a2 := (a1.1.stored (DS.length * 4 + 1) (.int .i64 x.1.2.1))
  have a3 := (a2.1.stored (DS.length * 4 + 2) (.int .i64 x.1.2.2.1))
  have a4 := (a3.1.stored (DS.length * 4 + 3) x.2)
  have hg : W.grownBy ((((W.setCell ⟨g, DS.length * 4, none⟩ (.string ⟨x.1.1.toArray⟩)).setCell ⟨g, DS.length * 4 + 1, none⟩ (.int .i64 x.1.2.1)).setCell ⟨g, DS.length * 4 + 2, none⟩ (.int .i64 x.1.2.2.1)).setCell ⟨g, DS.length * 4 + 3, none⟩ x.2) (some g) := grown_set (grown_set (grown_set (grown_set (grown_refl _ _))))
  refine ⟨?_, fun y hy => ?_, ?_⟩
  · rw [List.length_append, List.length_singleton, show n - (DS.length + 1) = m by omega, ← zs_put]; exact a4.1
  · rcases List.mem_append.1 hy with hy | hy
    · exact ⟨(h.2.1 y hy).1.kept hg (own_types (h.2.1 y hy).1 h1 (by decide)), (h.2.1 y hy).2⟩
    · obtain rfl : y = x := by simpa using hy
      exact ⟨hx.kept hg (own_types hx h1 (by decide)), t, ht⟩
  · rw [List.pairwise_append]
    refine ⟨h.2.2, List.pairwise_singleton _ _, fun y hy z hz a b ha hb => ?_⟩
    obtain rfl : z = x := by simpa using hz
    rw [ht] at hb
    cases hb
    exact hlt y hy a ha

set_option maxRecDepth 20000 in
set_option maxHeartbeats 2000000 in
theorem toSetS_any (v : Value) (L : List SetT) (w : World) (hr : SSRow w v L) (hl : L.length ≤ 1048576) (hx : Hid (∀ x ∈ L, SBig x)) :
    Calls Tryz.prog 16 #[v] w fun e w' => ∃ D, D.map (fun x : SetT × Value => x.1) = L ∧ e = .returned (.slice (some ⟨w.heap.size, 0, none⟩) L.length L.length) ∧ Bld w' w.heap.size (.slice (some ⟨w.heap.size, 0, none⟩) L.length L.length) D ∧ Below w.heap.size w w' := by
  obtain ⟨i0, hi, hz0, hz1, hz2⟩ := info_parts info_set
  obtain ⟨a, cap, rfl, hcap, hmax, HROW⟩ := ssrow_value hr
  have HTO : Hid (∀ (x : SetT) (va : Value) W, Row W va x.2.2.2 → x.2.2.2.length ≤ 1048576 → Calls Tryz.prog 37 #[.agg #[.string ⟨x.1.toArray⟩, .int .i64 x.2.1, .int .i64 x.2.2.1, va]] W fun e w' => (∃ t, e = .returned (.agg #[.string ⟨x.1.toArray⟩, .int .i64 x.2.1, .int .i64 x.2.2.1, .slice (some ⟨t, 0, none⟩) x.2.2.2.length x.2.2.2.length]) ∧ W.heap.size ≤ t ∧ w'.ownsRow W.heap.size 9 1 (.slice (some ⟨t, 0, none⟩) x.2.2.2.length x.2.2.2.length) x.2.2.2.length (x.2.2.2.map S)) ∧ Below W.heap.size W w') := fun x va W h1 h2 => toSet_any x va W h1 h2
  clear hr
  go_enter Tryz.func16, Tryz.ntmps16
  go_wp2_with (at_make; refine wpList_make_full _ rfl _ _ 24 rfl w.heap.size 55 i0 (.agg #[.string ByteArray.empty, .int .i64 0, .int .i64 0, .slice none 0 0]) 4 Tryz.underlying24 hi hz0 hz1 _ _ _ _ L.length rfl rfl rfl rfl ?b2 ?b3 ?b4 ?_)
  case b2 => rw [hz2]; omega
  case b3 => unfold maxLen; omega
  case b4 => exact Nat.le_refl _
  intro w1 hown hgrow
  have hb1 : Below w.heap.size w w1 := (Below.refl _ _).grown hgrow (Nat.le_refl _) (fun k h => by cases h)
  have HS1 : Hid (TPart w1 w.heap.size L.length []) := by
    have h : TPart w1 w.heap.size L.length [] := by
      refine ⟨?_, ⟨fun x hx => absurd hx (by simp), List.Pairwise.nil⟩⟩
      have e : scells [] ++ noSets (L.length - ([] : List (SetT × Value)).length) = (madeCells #[.string ByteArray.empty, .int .i64 0, .int .i64 0, .slice none 0 0] (L.length * 4)).toList := by rw [made_noSets]; rfl
      rw [e]; exact hown
    exact h
  clear hown hgrow
  go_wp2_with fail
  go_loopw [4] (fun i wr => ∃ (k : Nat) (D : List (SetT × Value)), (k ≤ L.length ∧ D.length = k) ∧ i = .int .i64 (k : Int) ∧ Hid (D.map (fun x => x.1) = L.take k) ∧ Hid (TPart wr w.heap.size L.length D) ∧ Below w.heap.size w wr) (fun i _ => L.length - (intOf i).toNat)
  case atStart => exact ⟨0, [], ⟨Nat.zero_le _, rfl⟩, rfl, rfl, HS1, hb1⟩
  case round =>
    obtain ⟨k, D, ⟨hk, hDk⟩, rfl, HM, HR, hb⟩ := hrel
    have HDK : Hid (D.length = k) := hDk
    clear HS1 hb1 hDk
    by_cases hlt : k < L.length
    · obtain ⟨b, o, ha, hbl, hcel⟩ := HROW.out (by omega)
      rw [ha]
      obtain ⟨va, hcx0⟩ := hcel k hlt
      have hcx := hcx0.kept hb
      have hxl := (hx.out _ (List.getElem_mem hlt)).2.1
      have HMN : Hid (∀ y : SetT × Value, y.1 = L[k]'hlt → (D ++ [y]).map (fun x => x.1) = L.take (k + 1)) := fun y hy => by rw [List.map_append, HM.out, List.take_succ_eq_append_getElem hlt]; simp [hy]
      obtain ⟨x, hxe⟩ : ∃ x, x = L[k]'hlt := ⟨_, rfl⟩
      rw [← hxe] at hcx hxl HMN
      have hz : Row wr va x.2.2.2 := hcx.2
      unfold SetAt at hcx
      obtain ⟨⟨c0, c1, c2, c3⟩, _⟩ := hcx
      have HC := HTO.out x va wr hz hxl
      have HC2 : Hid (Calls Tryz.prog 37 #[.agg #[.string ⟨x.1.toArray⟩, .int .i64 x.2.1, .int .i64 x.2.2.1, va]] wr fun e w' => (∃ t, e = .returned (.agg #[.string ⟨x.1.toArray⟩, .int .i64 x.2.1, .int .i64 x.2.2.1, .slice (some ⟨t, 0, none⟩) x.2.2.2.length x.2.2.2.length]) ∧ wr.heap.size ≤ t ∧ w'.ownsRow wr.heap.size 9 1 (.slice (some ⟨t, 0, none⟩) x.2.2.2.length x.2.2.2.length) x.2.2.2.length (x.2.2.2.map S)) ∧ Below wr.heap.size wr w') := HC
      obtain ⟨aa, ca, rfl, _, _, _⟩ := hz
      clear hcel hxe hcx0 HTO HC
      go_wp2_with fail
      refine HC2.out.mono ?_
      rintro e w2 ⟨⟨t, rfl, ht, ho⟩, hb2⟩
      have hT2 := HR.out.kept hb2
      have hDl := HDK.out
      have hpt := hT2.put (x := ((x.1, x.2.1, x.2.2.1, x.2.2.2), .slice (some ⟨t, 0, none⟩) x.2.2.2.length x.2.2.2.length)) (by omega) (own_low ho (fun q hq => by simp [Value.ownBlock] at hq; have := hb.size; omega)) t rfl (fun y hy q hq => Nat.lt_of_lt_of_le ((HR.out.2.1 y hy).1.lt q hq).2 ht)
      have hcl : ∀ r, r < 4 → w2.cell? ⟨w.heap.size, k * 4 + r, none⟩ = [Value.string ByteArray.empty, .int .i64 0, .int .i64 0, .slice none 0 0][r]? := fun r hr => by
        rw [hT2.1.cellAt (k * 4 + r) (by omega), List.getElem?_append_right (by rw [scells_length, hDl]; omega), scells_length, hDl, show k * 4 + r - k * 4 = r by omega, noSets_get _ r (by omega), show r % 4 = r by omega]
      have m0 := hcl 0 (by omega)
      have m1 := hcl 1 (by omega)
      have m2 := hcl 2 (by omega)
      have m3 := hcl 3 (by omega)
      simp only [Nat.add_zero, List.getElem?_cons_zero, List.getElem?_cons_succ] at m0 m1 m2 m3
      have f0 := hT2.1.frozenAt (k * 4)
      have f1 := hT2.1.frozenAt (k * 4 + 1)
      have f2 := hT2.1.frozenAt (k * 4 + 2)
      have f3 := hT2.1.frozenAt (k * 4 + 3)
      rw [hDl] at hpt
      have hbw2 : Below w.heap.size w w2 := hb.trans (hb2.mono hb.size)
      have HQ : Hid (∀ W, W = w2 → TPart ((((W.setCell ⟨w.heap.size, k * 4, none⟩ (.string ⟨x.1.toArray⟩)).setCell ⟨w.heap.size, k * 4 + 1, none⟩ (.int .i64 x.2.1)).setCell ⟨w.heap.size, k * 4 + 2, none⟩ (.int .i64 x.2.2.1)).setCell ⟨w.heap.size, k * 4 + 3, none⟩ (.slice (some ⟨t, 0, none⟩) x.2.2.2.length x.2.2.2.length)) w.heap.size L.length (D ++ [((x.1, x.2.1, x.2.2.1, x.2.2.2), .slice (some ⟨t, 0, none⟩) x.2.2.2.length x.2.2.2.length)])) := fun W hW => by rw [hW]; exact hpt
      have HMX : Hid ((D ++ [(((x.1, x.2.1, x.2.2.1, x.2.2.2) : SetT), Value.slice (some ⟨t, 0, none⟩) x.2.2.2.length x.2.2.2.length)]).map (fun x => x.1) = L.take (k + 1)) := HMN.out _ rfl
      have HDL : Hid ((D ++ [(((x.1, x.2.1, x.2.2.1, x.2.2.2) : SetT), Value.slice (some ⟨t, 0, none⟩) x.2.2.2.length x.2.2.2.length)]).length = k + 1) := by show _ = _; rw [List.length_append, hDl]; rfl
      clear hpt hT2 hcl hb2 c0 c1 c2 c3 ho HC2 hDl HMN
      go_wp2_with fail
      go_roundw
      case rel => exact ⟨k + 1, _, ⟨by omega, HDL.out⟩, by go_num, HMX, HQ.out _ rfl, (((hbw2.setCell (p := ⟨w.heap.size, k * 4, none⟩) (Nat.le_refl _) _).setCell (p := ⟨w.heap.size, k * 4 + 1, none⟩) (Nat.le_refl _) _).setCell (p := ⟨w.heap.size, k * 4 + 2, none⟩) (Nat.le_refl _) _).setCell (p := ⟨w.heap.size, k * 4 + 3, none⟩) (Nat.le_refl _) _⟩
      case measure => simp [intOf]; omega
    · have HF : Hid (Bld wr w.heap.size (.slice (some ⟨w.heap.size, 0, none⟩) L.length L.length) D) := HR.out.done (by have := HDK.out; omega)
      have HFM : Hid (D.map (fun x => x.1) = L) := by have h := HM.out; rw [List.take_of_length_le (by omega)] at h; exact h
      clear HR HM
      go_wp2_with fail
      go_ret
      exact ⟨D, HFM.out, rfl, HF.out, hb⟩
end Go.Proofs.YtjocegnhhhfbeaaGreatDoor
