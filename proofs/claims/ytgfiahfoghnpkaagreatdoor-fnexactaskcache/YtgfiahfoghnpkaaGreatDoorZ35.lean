import Derived.RangeFuncNested
import Derived.RangeFuncBound
import Derived.RangeFuncCalls
import Derived.RangeFuncLeaves
import Derived.RangeFuncBox
import Derived.Shelf.Abstract
import Derived.Shelf.RegionOpen
import Derived.WalkKit
import Derived.OwnWalkIn
import Derived.TacticsInMore
import Derived.LoopNIn
import Derived.LoopIn
import Derived.Sort.MapsRangeIn
import Derived.Sort.KeysCollected
import Derived.Test.YtgfiahfoghnpkaaGreatDoorZ34
namespace Go.Proofs.YtgfiahfoghnpkaaGreatDoor
open Go.RowKit Go.Maps Go.Shelf
attribute [local go_sem] Oper.semAt_some

set_option maxRecDepth 100000 in
/-- One entry more has come. -/
theorem come_one {L : List EV} (h1 : L.Pairwise (fun e f => e.key ≠ f.key)) {left : Lit → Bool} {c : EV} (hc : c ∈ L) (hok : c.ok) (hl : left c.key = true) :
    (L.filter (fun e => !left e.key) ++ [c]).Perm (L.filter (fun e => !(left e.key && !e.key.sameKey c.key))) := by
  have hkk : WideAt.IsKeyLit c.key := key_is hok
  have key : ∀ M : List EV, M.Pairwise (fun e f => e.key ≠ f.key) → ((c ∈ M → (M.filter (fun e => !left e.key) ++ [c]).Perm (M.filter (fun e => !(left e.key && !e.key.sameKey c.key)))) ∧ ((∀ f ∈ M, f.key ≠ c.key) → M.filter (fun e => !left e.key) = M.filter (fun e => !(left e.key && !e.key.sameKey c.key)))) := by
    intro M
    induction M with
    | nil => exact fun _ => ⟨fun h => (by cases h), fun _ => rfl⟩
    | cons f M ih =>
      intro hp
      rw [List.pairwise_cons] at hp
      obtain ⟨i1, i2⟩ := ih hp.2
      refine ⟨fun hm => ?_, fun hn => ?_⟩
      · by_cases hf : f.key = c.key
        · have hfc : f = c := by
            rcases List.mem_cons.1 hm with h | h
            · exact h.symm
            · exact absurd hf (hp.1 c h)
          subst hfc
          have hno : ∀ g ∈ M, g.key ≠ f.key := fun g hg e => hp.1 g hg e.symm
          rw [List.filter_cons_of_neg (by rw [hl]; decide), List.filter_cons_of_pos (by rw [WideAt.sameKey_self hkk]; simp), ← i2 hno]
          exact List.perm_append_singleton _ _
        · have hm2 : c ∈ M := by
            rcases List.mem_cons.1 hm with h | h
            · subst h; exact absurd rfl hf
            · exact h
          have hs : (!(left f.key && !f.key.sameKey c.key)) = !left f.key := by rw [sameKey_ne hf]; simp
          cases hlf : left f.key with
          | true =>
            rw [List.filter_cons_of_neg (by rw [hlf]; decide), List.filter_cons_of_neg (by rw [hs, hlf]; decide)]
            exact i1 hm2
          | false =>
            rw [List.filter_cons_of_pos (by rw [hlf]; rfl), List.filter_cons_of_pos (by rw [hs, hlf]; rfl), List.cons_append]
            exact (i1 hm2).cons f
      · have hf := hn f (by simp)
        have hs : (!(left f.key && !f.key.sameKey c.key)) = !left f.key := by rw [sameKey_ne hf]; simp
        have h2 := i2 (fun g hg => hn g (by simp [hg]))
        cases hlf : left f.key with
        | true => rw [List.filter_cons_of_neg (by rw [hlf]; decide), List.filter_cons_of_neg (by rw [hs, hlf]; decide), h2]
        | false => rw [List.filter_cons_of_pos (by rw [hlf]; rfl), List.filter_cons_of_pos (by rw [hs, hlf]; rfl), h2]
  exact (key L h1).1 hc

set_option maxRecDepth 100000 in
set_option maxHeartbeats 2000000 in
theorem evalues1_in (F : Fence) (n : Nat) (h7 : F.fn 111) (hro : F.round = none) (hn : 1 ≤ n) (l Bm b nn : Nat) (D : DataW EV) (L : List EV) (hM : Hid (MapOf D L)) (J Jx : List EV → World → Prop) (W : World)
    (hJ : AbidesFrom W.heap.size J)
    (hY : ∀ pre x W, J pre W → pre.length < L.length → YieldAt F (n - 1) Tryz.prog l #[.agg #[.string x.nm, .int .i64 x.ty, .bool x.no, .slice x.a x.n x.c, .int .i64 x.un, .int .i64 x.us]] W fun e W' =>
      (e = .returned (.bool true) ∧ J (pre ++ [x]) W' ∧ KeepsWalks W W') ∨ (e = .returned (.bool false) ∧ Jx (pre ++ [x]) W'))
    (hm : W.cell? ⟨Bm, 0, none⟩ = some (.map (some b))) (hown : W.ownsMap Tryz.prog 75 elE b nn D) (h0 : J [] W) :
    CallsIn F n Tryz.prog 111 #[.func (.yield l) #[] #[], .pointer (some ⟨Bm, 0, none⟩)] W fun e W' => (∃ v, e = .returned v) ∧
      ((∃ xs : List EV, xs.Perm L ∧ J xs W') ∨ (∃ pre : List EV, True ∧ Jx pre W')) := by
  refine callsIn_of_wp Tryz.func111 rfl h7 ?_ hro
  simp only [Tryz.ntmps111, List.size_toArray, List.length_cons, List.length_nil, Nat.reduceAdd, Nat.reduceSub, Array.replicate_succ, Array.replicate_zero, List.push_toArray, List.append_toArray, List.nil_append, List.cons_append]
  gi_wp2_with (first
    | (gi_at_range; refine wpListIn_range_own _ rfl _ 79 rfl 75 44 keyed map_entry _ b nn _ rfl hown ?_; intro w0 hrg0 hg0 hs0)
    | gi_in)
  go_frame
  gi_loopw [7] (fun _ wr => ∃ (left : Lit → Bool) (cnt : Nat) (ps : List EV), Hid (wr.ranges Tryz.prog 75 elE b W.heap.size nn D left cnt) ∧ Hid (ps.length + cnt ≤ L.length) ∧ Hid (ps.Perm (L.filter (fun e => !left e.key))) ∧ J ps wr)
    (fun _ wr => wr.rangeLeft b W.heap.size)
  case atStart =>
    refine ⟨_, _, [], hrg0, ?_, ?_, hJ [] W w0 none h0 hg0 (fun r e => by cases e)⟩
    · rw [hM.out.size]; show _ ≤ _; simp
    · have h : L.filter (fun e => !Maps.has D e.key) = [] := List.filter_eq_nil_iff.2 (fun e he => by rw [(hM.out.has _).2 ⟨e, he, rfl⟩]; decide)
      rw [h]
      exact (List.Perm.refl [] : List.Perm [] [])
  case round =>
    obtain ⟨left, cnt, ps, HR, HC, HP, hJs⟩ := hrel
    have hrg := HR.out
    gi_wp2_with (first
      | (gi_at_next; refine wpListIn_next_ranges _ rfl _ rfl 75 keyed elE (fun x : ByteArray × Int => Value.agg #[.string x.1, .int .i64 x.2]) (fun e : EV => Value.agg #[.string e.nm, .int .i64 e.ty, .bool e.no, .slice e.a e.n e.c, .int .i64 e.un, .int .i64 e.us]) key_shape el_shape b W.heap.size nn _ _ _ rfl hrg ?_ ?_)
      | gi_in)
    · intro hc0 hl0
      have HP2 : Hid (ps.Perm L) := by
        have h : L.filter (fun e => !left e.key) = L := List.filter_eq_self.2 (fun e _ => by rw [hl0]; rfl)
        rw [← h]; exact HP
      gi_wp2
      go_end0
      exact ⟨⟨_, rfl⟩, .inl ⟨ps, HP2.out, hJs⟩⟩
    · intro a b1 c kl y yp w2 cnt2 hkey hlk hel hat hrg2 hlt hg2 hs2 hen
      have hy : y = .held c := by
        have h2 := elE_mk c
        unfold entV at h2
        rw [h2] at hel
        exact (congrArg Prod.fst (Option.some.inj hel)).symm
      subst hy
      have hin : c ∈ L ∧ c.key = kl ∧ c.ok := by
        obtain ⟨f, hf, hfk⟩ := (hM.out.has kl).1 (has_true_of_atKey hat)
        have h2 := hM.out.at' f hf .nil
        rw [hfk, hat] at h2
        cases h2
        exact ⟨hf, hfk, hM.out.ok _ hf⟩
      have HP2 : Hid ((ps ++ [c]).Perm (L.filter (fun e => !(left e.key && !e.key.sameKey kl)))) := by
        rw [← hin.2.1]
        exact (HP.out.append_right [c]).trans (come_one hM.out.one hin.1 hin.2.2 (by rw [hin.2.1]; exact hlk))
      have hJ2 : J ps w2 := hJ ps wr w2 (some W.heap.size) hJs hg2 (fun r e => by cases e; exact ⟨Nat.le_refl _, hrg.iter_walk⟩)
      have hJ3 : J ps (w2.alloc (.cells #[.string c.nm, .int .i64 c.ty, .bool c.no, .slice c.a c.n c.c, .int .i64 c.un, .int .i64 c.us] 44)) := hJ ps w2 _ none hJ2 (World.grownBy_alloc w2 _ none) (fun r e => by cases e)
      obtain ⟨fn, tmps, assign, body, hy, hR⟩ := hY ps c _ hJ3 (by have := HC.out; omega)
      have HR2 : Hid ((w2.alloc (.cells #[.string c.nm, .int .i64 c.ty, .bool c.no, .slice c.a c.n c.c, .int .i64 c.un, .int .i64 c.us] 44)).ranges Tryz.prog 75 elE b W.heap.size nn D (fun z => left z && !z.sameKey kl) cnt2) := hrg2.alloc _
      have HLE : Hid (wr.rangeLeft b W.heap.size = cnt) := hrg.left_eq
      have HLT : Hid (cnt2 < cnt) := hlt
      clear hs2 hin hat hel hkey hlk hJ2 hrg2 hlt hrg
      gi_wp2
      refine hR.mono ?_
      rintro e W3 (⟨rfl, hJ4, hk3⟩ | ⟨rfl, hJx3⟩)
      · have HR3 : Hid (W3.ranges Tryz.prog 75 elE b W.heap.size nn D (fun z => left z && !z.sameKey kl) cnt2) := HR2.out.of_walks hk3
        gi_wp2
        go_roundw
        case rel => exact ⟨_, cnt2, ps ++ [c], HR3, (by have h1 := HC.out; have h2 := HLT.out; show _ ≤ _; rw [List.length_append]; simp; omega), HP2, hJ4⟩
        case measure => rw [HR3.out.left_eq, HLE.out]; exact HLT.out
      · gi_wp2
        refine bodyPost_ret (results_none rfl _ _ _) rfl ?_
        exact ⟨⟨_, rfl⟩, .inr ⟨_, trivial, hJx3⟩⟩
end Go.Proofs.YtgfiahfoghnpkaaGreatDoor
