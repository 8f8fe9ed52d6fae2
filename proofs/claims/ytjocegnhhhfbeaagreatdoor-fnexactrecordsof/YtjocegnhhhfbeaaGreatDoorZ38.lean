import Derived.Test.YtjocegnhhhfbeaaGreatDoorZ36
import Derived.Test.YtjocegnhhhfbeaaGreatDoorZ08
import Derived.Test.YtjocegnhhhfbeaaGreatDoorZ37
import Derived.Deep.QuietTactic
namespace Go.Proofs.YtjocegnhhhfbeaaGreatDoor
open Go.RowKit

/-- Marks from a number on. -/
def marksK (K n : Nat) : List (List UInt8) := (List.range n).map (fun i => mark (K + i))
theorem marksK_length (K n : Nat) : (marksK K n).length = n := by simp [marksK]
theorem marksK_get (K n k : Nat) (h : k < n) : (marksK K n)[k]'(by rw [marksK_length]; exact h) = mark (K + k) := by simp [marksK]
def halfK (K : Nat) (L : List (List UInt8)) (k : Nat) : List (List UInt8) := marksK K k ++ L.drop k
theorem halfK_length (K : Nat) (L : List (List UInt8)) (k : Nat) (h : k ≤ L.length) : (halfK K L k).length = L.length := by simp [halfK, marksK]; omega
theorem halfK_zero (K : Nat) (L : List (List UInt8)) : halfK K L 0 = L := by simp [halfK, marksK]
theorem halfK_end (K : Nat) (L : List (List UInt8)) : halfK K L L.length = marksK K L.length := by simp [halfK]
theorem halfK_next (K : Nat) (L : List (List UInt8)) (k : Nat) (h : k < L.length) : halfK K L (k + 1) = (halfK K L k).set k (mark (K + k)) := by
  unfold halfK
  have hm : (marksK K k).length = k := marksK_length K k
  rw [List.set_append_right _ _ (by omega), hm, Nat.sub_self, List.drop_eq_getElem_cons h]
  simp only [marksK, List.range_succ, List.map_append, List.map_cons, List.map_nil, List.set_cons_zero, List.append_assoc, List.singleton_append]

set_option maxRecDepth 20000 in
set_option maxHeartbeats 2000000 in
theorem markStrK_any (v : Value) (L : List (List UInt8)) (K base : Nat) (w : World) (h : w.ownsRow base 9 1 v L.length (L.map S)) (hL : L.length ≤ 1048576) (hK0 : 0 < K) (hK : K ≤ 1073741824) :
    Calls Tryz.prog 33 #[v, .int .i64 (K : Int)] w fun e w' => e = .returned (.int .i64 ((K : Int) + (L.length : Int))) ∧ w'.ownsRow base 9 1 v L.length ((marksK K L.length).map S) ∧ w.grownBy w' v.ownBlock := by
  have h0 := h
  rcases h.2 with ⟨rfl, hn⟩ | ⟨g, cap, cur, rfl, hb, hg, hnc, hcm, _, _⟩
  · have HF : Hid (w.ownsRow base 9 1 (.slice none 0 0) L.length ((marksK K L.length).map S)) := by
      have e : L = [] := List.length_eq_zero_iff.1 hn
      subst e
      exact h0
    have HN : Hid (L.length = 0) := hn
    clear h h0 hn
    go_enter Tryz.func33, Tryz.ntmps33
    go_wp2_with fail
    go_loopw [1, 5] (fun q i wr => (q = .int .i64 (K : Int) ∧ i = .int .i64 0) ∧ wr = w) (fun _ _ _ => 0)
    case atStart => exact ⟨⟨rfl, rfl⟩, rfl⟩
    case round =>
      obtain ⟨⟨rfl, rfl⟩, rfl⟩ := hrel
      go_wp2_with fail
      go_ret
      exact ⟨ret_int (by rw [HN.out]; simp), HF.out, grown_refl _ _⟩
  · have HS : Hid (w.ownsRow base 9 1 (.slice (some ⟨g, 0, none⟩) L.length cap) L.length (L.map S)) := h0
    unfold maxLen at hcm
    clear h h0 hg
    go_enter Tryz.func33, Tryz.ntmps33
    go_wp2_with fail
    go_loopw [1, 5] (fun q i wr => ∃ k : Nat, k ≤ L.length ∧ i = .int .i64 k ∧ q = .int .i64 ((K : Int) + (k : Int)) ∧ Hid (wr.ownsRow base 9 1 (.slice (some ⟨g, 0, none⟩) L.length cap) L.length ((halfK K L k).map S)) ∧ w.grownBy wr (some g)) (fun _ i _ => L.length - (intOf i).toNat)
    case atStart => exact ⟨0, Nat.zero_le _, rfl, by simp, by rw [halfK_zero]; exact HS, grown_refl _ _⟩
    case round =>
      obtain ⟨k, hk, rfl, rfl, HR, hgr⟩ := hrel
      by_cases hlt : k < L.length
      · go_wp2_with fail
        refine (markText_any _ (K + k) _ (by exact (by omega : (K : Int) + (k : Int) = ((K + k : Nat) : Int))) (by omega) (by omega)).mono ?_
        rintro e w1 ⟨rfl, hb1⟩
        have hs1 := own_below HR.out hb1
        have hcg : w1.cell? ⟨g, k, none⟩ = some (S ((halfK K L k)[k]'(by rw [halfK_length K L k hk]; exact hlt))) := by
          rw [hs1.cellAt k (by omega), List.getElem?_map, List.getElem?_eq_getElem (by rw [halfK_length K L k hk]; exact hlt)]
          rfl
        have hfg : w1.frozen? ⟨g, k, none⟩ = false := hs1.frozenAt k
        have hset := (hs1.stored k (.string ⟨(mark (K + k)).toArray⟩)).1
        have hnx : ((halfK K L k).map S).set k (.string ⟨(mark (K + k)).toArray⟩) = (halfK K L (k + 1)).map S := by rw [halfK_next K L k hlt, List.map_set]; rfl
        rw [hnx] at hset
        obtain ⟨y, hy⟩ : ∃ y, y = mark (K + k) := ⟨_, rfl⟩
        rw [← hy] at hset ⊢
        have HSS : Hid ((w1.setCell ⟨g, k, none⟩ (.string ⟨y.toArray⟩)).ownsRow base 9 1 (.slice (some ⟨g, 0, none⟩) L.length cap) L.length ((halfK K L (k + 1)).map S)) := hset
        have hgr1 := grown_below hgr hb1
        unfold S at hcg
        clear hset hy hs1 hb1 hgr hnx
        go_wp2_with fail
        go_roundw
        case rel => exact ⟨k + 1, by omega, by go_num, by go_num, HSS, grown_set hgr1⟩
        case measure => simp [intOf]; omega
      · have hkk : k = L.length := by omega
        have HF : Hid (wr.ownsRow base 9 1 (.slice (some ⟨g, 0, none⟩) L.length cap) L.length ((marksK K L.length).map S)) := by have := HR.out; rw [hkk, halfK_end] at this; exact this
        have HK : Hid (k = L.length) := hkk
        clear hkk
        go_wp2_with fail
        go_ret
        exact ⟨ret_int (by rw [HK.out]), HF.out, hgr⟩

set_option maxRecDepth 20000 in
set_option maxHeartbeats 2000000 in
theorem heldStrK_any (v : Value) (n K : Nat) (w : World) (hr : Row w v (marksK K n)) (hL : n ≤ 1048576) (hK0 : 0 < K) (hK : K ≤ 1073741824) :
    Calls Tryz.prog 34 #[v, .int .i64 (K : Int)] w fun e w' => e = .returned (.int .i64 ((K : Int) + (n : Int))) ∧ Below w.heap.size w w' := by
  obtain ⟨a, cap, rfl, hcap, hmax, HROW⟩ := row_value hr
  rw [marksK_length] at hcap ⊢
  clear hr
  go_enter Tryz.func34, Tryz.ntmps34
  go_wp2_with fail
  go_loopw [1, 5] (fun q i wr => ∃ k : Nat, k ≤ n ∧ i = .int .i64 k ∧ q = .int .i64 ((K : Int) + (k : Int)) ∧ Below w.heap.size w wr) (fun _ i _ => n - (intOf i).toNat)
  case atStart => exact ⟨0, Nat.zero_le _, rfl, by simp, Below.refl _ _⟩
  case round =>
    obtain ⟨k, hk, rfl, rfl, hb⟩ := hrel
    by_cases hlt : k < n
    · obtain ⟨b, o, ha, hbl, hc⟩ := HROW.out (by rw [marksK_length]; omega)
      rw [ha]
      have hcx := hc k (by rw [marksK_length]; exact hlt)
      rw [marksK_get K n k hlt] at hcx
      have HC : Hid (∀ W, Below w.heap.size w W → W.cell? ⟨b, o + k, none⟩ = some (.string ⟨(mark (K + k)).toArray⟩)) := fun W hW => by rw [hW.cell (p := ⟨b, o + k, none⟩) hbl]; exact hcx
      have hcr := HC.out wr hb
      clear hc hcx
      go_wp2_with fail
      go_region_with (go_at_call 32; refine (markText_any _ (K + k) _ (by exact (by omega : (K : Int) + (k : Int) = ((K + k : Nat) : Int))) (by omega) (by omega)).mono ?_; rintro e w1 ⟨rfl, hb1⟩; have hbw := (below_any hb hb1); have hcw := HC.out w1 hbw)
      all_goals
        go_wp2_with fail
        go_roundw
        case rel => exact ⟨k + 1, by omega, by go_num, by go_num, by first | assumption | exact Below.drew (by assumption)⟩
        case measure => simp [intOf]; omega
    · have HK : Hid (k = n) := (show k = n by omega)
      go_wp2_with fail
      go_ret
      exact ⟨ret_int (by rw [HK.out]), hb⟩

/-- The cells of a set among others. -/
theorem Bld.at {W : World} {base g cap n : Nat} {A B : List (SetT × Value)} {x : SetT × Value} (h : Bld W base (.slice (some ⟨g, 0, Option.none⟩) n cap) (A ++ x :: B)) :
    (W.cell? ⟨g, A.length * 4, Option.none⟩ = some (.string ⟨x.1.1.toArray⟩) ∧ W.cell? ⟨g, A.length * 4 + 1, Option.none⟩ = some (.int .i64 x.1.2.1) ∧ W.cell? ⟨g, A.length * 4 + 2, Option.none⟩ = some (.int .i64 x.1.2.2.1) ∧ W.cell? ⟨g, A.length * 4 + 3, Option.none⟩ = some x.2) ∧ ∀ j, W.frozen? ⟨g, j, Option.none⟩ = false := by
  have hl : A.length < (A ++ x :: B).length := by simp
  obtain ⟨a0, c0, hv, _⟩ := h.shape
  obtain rfl : n = (A ++ x :: B).length := by cases hv; rfl
  have c : ∀ r, r < 4 → W.cell? ⟨g, A.length * 4 + r, Option.none⟩ = (scs x)[r]? := fun r hr => by
    rw [h.1.cellAt (A.length * 4 + r) (by omega), scells_get _ A.length hl r hr]
    simp
  exact ⟨⟨c 0 (by omega), c 1 (by omega), c 2 (by omega), c 3 (by omega)⟩, fun j => h.1.frozenAt j⟩
theorem Bld.text {W : World} {base : Nat} {v : Value} {DS : List (SetT × Value)} {x : SetT × Value} (h : Bld W base v DS) (hx : x ∈ DS) : Row W x.2 x.1.2.2.2 := (owns_S (h.2.1 x hx).1).row
theorem scells_mid (A B : List (SetT × Value)) (x y : SetT × Value) (r : Nat) (u : Value) (hr : r < 4) (h : scs y = (scs x).set r u) : (scells (A ++ x :: B)).set (A.length * 4 + r) u = scells (A ++ y :: B) := by
  rw [scells_app, scells_app, scells, scells, List.set_append_right _ _ (by rw [scells_length]; omega), scells_length, show A.length * 4 + r - A.length * 4 = r by omega, List.set_append_left _ _ (by simp only [scs, List.length_cons, List.length_nil]; omega), h]
/-- A cell of a set written. -/
theorem Bld.put {W : World} {base g cap n : Nat} {A B : List (SetT × Value)} {x y : SetT × Value} (h : Bld W base (.slice (some ⟨g, 0, Option.none⟩) n cap) (A ++ x :: B)) (r : Nat) (u : Value) (hr : r < 4) (hs : scs y = (scs x).set r u) (hd : y.1.2.2.2 = x.1.2.2.2) (hv : y.2 = x.2) :
    Bld (W.setCell ⟨g, A.length * 4 + r, Option.none⟩ u) base (.slice (some ⟨g, 0, Option.none⟩) n cap) (A ++ y :: B) ∧ W.grownBy (W.setCell ⟨g, A.length * 4 + r, Option.none⟩ u) (some g) := by
  obtain ⟨a0, c0, hv0, _⟩ := h.shape
  have hn : n = (A ++ x :: B).length := by cases hv0; rfl
  have hl : (A ++ y :: B).length = (A ++ x :: B).length := by simp
  have h1 := h.1
  rw [← hn] at h1
  obtain ⟨h2, h3⟩ := h1.stored (A.length * 4 + r) u
  refine ⟨⟨?_, fun z hz => ?_, ?_⟩, h3⟩
  · rw [hl, ← hn, ← scells_mid A B x y r u hr hs]; exact h2
  · have hmem : ∃ q ∈ A ++ x :: B, q.2 = z.2 ∧ q.1.2.2.2 = z.1.2.2.2 := by
      rcases List.mem_append.1 hz with hz | hz
      · exact ⟨z, by simp [hz], rfl, rfl⟩
      · rcases List.mem_cons.1 hz with rfl | hz
        · exact ⟨x, by simp, hv.symm, hd.symm⟩
        · exact ⟨z, by simp [hz], rfl, rfl⟩
    obtain ⟨q, hq, e1, e2⟩ := hmem
    obtain ⟨k1, k2⟩ := h.2.1 q hq
    rw [e1, e2] at k1
    rw [e1] at k2
    exact ⟨k1.kept h3 (own_types k1 h1 (by decide)), k2⟩
  · have hp := h.2.2
    rw [List.pairwise_append, List.pairwise_cons] at hp ⊢
    refine ⟨hp.1, ⟨fun z hz a b ha hb => hp.2.1.1 z hz a b (by rw [← hv]; exact ha) hb, hp.2.1.2⟩, fun z hz q hq a b ha hb => ?_⟩
    rcases List.mem_cons.1 hq with rfl | hq
    · exact hp.2.2 z hz x (by simp) a b ha (by rw [← hv]; exact hb)
    · exact hp.2.2 z hz q (by simp [hq]) a b ha hb
/-- The data of a set written, where they lie. -/
theorem Bld.over {W W' : World} {base : Nat} {v : Value} {A B : List (SetT × Value)} {x : SetT × Value} {d : List (List UInt8)} (h : Bld W base v (A ++ x :: B)) (hl : d.length = x.1.2.2.2.length) (ho : W'.ownsRow base 9 1 x.2 x.1.2.2.2.length (d.map S)) (hg : W.grownBy W' x.2.ownBlock) :
    Bld W' base v (A ++ ((x.1.1, x.1.2.1, x.1.2.2.1, d), x.2) :: B) := by
  obtain ⟨hx1, gx, hgx⟩ := h.2.1 x (by simp)
  have hlen : (A ++ ((x.1.1, x.1.2.1, x.1.2.2.1, d), x.2) :: B).length = (A ++ x :: B).length := by simp
  have hsc : scells (A ++ ((x.1.1, x.1.2.1, x.1.2.2.1, d), x.2) :: B) = scells (A ++ x :: B) := by rw [scells_app, scells_app, scells, scells]; rfl
  have hp := h.2.2
  rw [List.pairwise_append, List.pairwise_cons] at hp
  refine ⟨?_, fun z hz => ?_, ?_⟩
  · rw [hlen, hsc]; exact h.1.kept hg (own_types h.1 hx1 (by decide))
  · rcases List.mem_append.1 hz with hz | hz
    · obtain ⟨k1, k, hk⟩ := h.2.1 z (by simp [hz])
      refine ⟨k1.kept hg (.inr (fun e => ?_)), k, hk⟩
      have := hp.2.2 z hz x (by simp) k gx hk hgx
      rw [hk, hgx] at e
      cases e
      omega
    · rcases List.mem_cons.1 hz with rfl | hz
      · refine ⟨?_, gx, hgx⟩
        show W'.ownsRow base 9 1 x.2 d.length (d.map S)
        rw [hl]; exact ho
      · obtain ⟨k1, k, hk⟩ := h.2.1 z (by simp [hz])
        refine ⟨k1.kept hg (.inr (fun e => ?_)), k, hk⟩
        have := hp.2.1.1 z hz gx k hgx hk
        rw [hk, hgx] at e
        cases e
        omega
  · rw [List.pairwise_append, List.pairwise_cons]
    refine ⟨hp.1, ⟨fun z hz a b ha hb => hp.2.1.1 z hz a b ha hb, hp.2.1.2⟩, fun z hz q hq a b ha hb => ?_⟩
    rcases List.mem_cons.1 hq with rfl | hq
    · exact hp.2.2 z hz x (by simp) a b ha hb
    · exact hp.2.2 z hz q (by simp [hq]) a b ha hb
/-- What is elsewhere stays. -/
theorem Bld.grown {W W' : World} {base : Nat} {v : Value} {DS : List (SetT × Value)} {row : Option Nat} (h : Bld W base v DS) (hg : W.grownBy W' row) (hr : ∀ k, row = some k → k < base) : Bld W' base v DS := by
  have ne : ∀ {u : Value}, (∀ k, u.ownBlock = some k → base ≤ k) → u.ownBlock = Option.none ∨ u.ownBlock ≠ row := fun {u} hu => by
    cases e : u.ownBlock with
    | none => exact .inl rfl
    | some k => exact .inr (fun e2 => by have h1 := hu k e; have h2 := hr k e2.symm; omega)
  exact ⟨h.1.kept hg (ne (fun k hk => (h.1.lt k hk).1)), fun x hx => ⟨(h.2.1 x hx).1.kept hg (ne (fun k hk => ((h.2.1 x hx).1.lt k hk).1)), (h.2.1 x hx).2⟩, h.2.2⟩
theorem Bld.low {W W' : World} {base B : Nat} {v : Value} {DS : List (SetT × Value)} (h : Bld W base v DS) (hb : Below B W W') (hB : ∀ k, v.ownBlock = some k → k < B) (hD : ∀ x ∈ DS, ∀ k, x.2.ownBlock = some k → k < B) : Bld W' base v DS := by
  have key : ∀ {u : Value} {e s n : Nat} {xs : List Value}, W.ownsRow base e s u n xs → (∀ k, u.ownBlock = some k → k < B) → W'.ownsRow base e s u n xs := fun {u e s n xs} ho hu => by
    refine ⟨ho.1, ?_⟩
    rcases ho.2 with h0 | ⟨g, cap, cur, rfl, h1, h2, h3⟩
    · exact .inl h0
    · exact .inr ⟨g, cap, cur, rfl, h1, (hb.block g (hu g rfl)).trans h2, h3⟩
  exact ⟨key h.1 hB, fun x hx => ⟨key (h.2.1 x hx).1 (hD x hx), (h.2.1 x hx).2⟩, h.2.2⟩
end Go.Proofs.YtjocegnhhhfbeaaGreatDoor
