import Derived.Test.YtjocegnhhhfbeaaGreatDoorZ35
import Derived.Test.YtjocegnhhhfbeaaGreatDoorZ43
import Derived.Test.YtjocegnhhhfbeaaGreatDoorZ28
import Derived.Test.YtjocegnhhhfbeaaGreatDoorZ45
import Derived.ArgAppend
import Derived.Deep.AppendSrc
import Derived.Deep.Upon
import Derived.Shelf.SlSortCmp.NoneTotal
namespace Go.Proofs.YtjocegnhhhfbeaaGreatDoor
open Go.RowKit

section
variable {w : World} {ops : Array Oper} {rest : List Oper} {o : Oper} {a : Act} {Q : Exit → Act → World → Prop}
/-- Records that lie somewhere appended to a list that has no room: what lay there stays. -/
theorem wpList_append_full (hgd : o.guard = none) (s x : Operand) (t : TypeId)
    (ho : o.op = .call { callee := .builtin .append, args := #[s, x], argTypes := #[t, t] }) (ht : Tryz.prog.underlying t = some (.slice 43))
    (ao : Option Addr) (A B : List (List UInt8 × Int × Int × List UInt8)) (hs : a.eval s = .slice ao A.length A.length) (hA : (ao = none ∧ A = []) ∨ ∃ g, ao = some ⟨g, 0, none⟩ ∧ QRow w g A)
    (u : Value) (hx : a.eval x = u) (hr : RRow w u B) (hlen : A.length + B.length ≤ 1048576)
    (h : ∀ v' w', RRow w' v' (A ++ B) → w.grownBy w' none → wpList Tryz.prog ops Q rest (a.put o.dst v') w') : wpList Tryz.prog ops Q (o :: rest) a w := by
  obtain ⟨i0, hi, hz0, hz1, hz2⟩ := info_parts info_rec
  obtain ⟨ab, cap, rfl, hcap, hmax, hc⟩ := hr
  have hrA : RRow w (.slice ao A.length A.length) A := by
    refine ⟨ao, A.length, rfl, Nat.le_refl _, by unfold maxLen; omega, ?_⟩
    rcases hA with ⟨_, rfl⟩ | ⟨g, rfl, hq⟩
    · exact .inl rfl
    · exact .inr ⟨g, 0, rfl, hq.1, fun j hj => by rw [Nat.zero_add]; exact (hq.2 j hj).1⟩
  by_cases hB : B = []
  · subst hB
    refine wpList_plain hgd fun K hK => ?_
    have hsrc : Src Tryz.prog i0.size t (.slice ab 0 cap) 0 [] w := by
      cases ab with
      | none => exact Src.ofNil w ht cap
      | some p => exact Src.ofSlice w ht p 0 cap [] (by simp) (by simp) (by simp)
    have hrun := run_append_nothing (P := Tryz.prog) w t t o.type 43 i0 ht hi ao A.length A.length (Nat.le_refl _) (.slice ab 0 cap) hsrc
    unfold Oper.wp
    simp [execOp, ho, resolve, invoke, builtin, hs, hx, hrun, Result.andThen]
    exact hK _ _ (h _ _ (by rw [List.append_nil]; exact hrA) (grown_refl _ _))
  · rcases hc with hc | ⟨b, off, rfl, hbl, hrow⟩
    · exact absurd hc hB
    · have hpos : 0 < B.length := List.length_pos_iff.2 hB
      refine wpList_append_grows (P := Tryz.prog) w hgd s x t ho 43 i0 _ 4 48 ht hi hz0 hz1 hz2 rfl (by decide) ao A.length A.length (rcells A) hs ?_ (rcells_length A) ?_ ⟨b, off, none⟩ B.length cap (rcells B) hx (rcells_length B) (rows_news hrow) (rcells_one B) (by omega) (by unfold maxLen; omega) (by omega) ?_
      · intro e
        rcases hA with ⟨_, rfl⟩ | ⟨g, e2, _⟩
        · exact ⟨rfl, rfl⟩
        · rw [e2] at e; cases e
      · intro p e
        rcases hA with ⟨e2, _⟩ | ⟨g, e2, hq⟩
        · rw [e2] at e; cases e
        · rw [e2] at e; cases e
          exact rows_news (fun j hj => by rw [Nat.zero_add]; exact (hq.2 j hj).1)
      · intro v' w' hown hgr
        have hown2 : w'.ownsRow w.heap.size 43 4 v' (A ++ B).length (rcells (A ++ B)) := by
          rw [List.length_append, rcells_app]; exact hown
        exact h v' w' (own_q hown2).row hgr
end
theorem grown_belowN {w w' : World} (h : w.grownBy w' none) : Below w.heap.size w w' := (Below.refl _ _).grown h (Nat.le_refl _) (fun j hj => by cases hj)


/-- slices.SortFunc of records that the call owns. -/
theorem sortOwn_any (base : Nat) (v : Value) (P : List (List UInt8 × Int × Int × List UInt8)) (w0 w : World) (hE : EnvR w0) (hb : Below w0.heap.size w0 w) (hbase : w0.heap.size ≤ base) (hs : OwnQ w base v P) (hN : ∀ x ∈ P, nameB x.1 = true ∧ x.1.length ≤ 1048576 ∧ x.2.2.2.length ≤ 1048576) (hl : P.length ≤ 1048576) :
    Calls Tryz.prog 26 #[v, .func (.func 27) #[] #[]] w fun e w' => e = .returned (.tuple #[]) ∧ ∃ Q, Q.Perm P ∧ srtQ Q ∧ OwnQ w' base v Q ∧ w.grownBy w' v.ownBlock := by
  rcases hs with ⟨rfl, rfl⟩ | ⟨g, cap, rfl, hcap, hmax, hg, hq⟩
  · have h := AnyF.slices_SortFunc_none Tryz.sortQ none 0 (.func (.func 27) #[] #[]) w
    change Calls Tryz.prog 26 _ _ _ at h
    refine h.mono ?_
    rintro e w' ⟨rfl, rfl⟩
    exact ⟨rfl, [], List.Perm.refl _, List.Pairwise.nil, .inl ⟨rfl, rfl⟩, grown_refl _ _⟩
  · refine (sortRecords_any g cap P w0 w hE hb (Nat.le_trans hbase hg) hq hN hl).mono ?_
    rintro e w' ⟨rfl, Q, hp, hso, hQ, hgr⟩
    refine ⟨rfl, Q, hp, hso, .inr ⟨g, cap, by rw [hp.length_eq], by rw [hp.length_eq]; exact hcap, hmax, hg, hQ⟩, hgr⟩
set_option maxRecDepth 20000 in
set_option maxHeartbeats 1000000 in
theorem compactOwn_any (base : Nat) (v : Value) (Q : List (List UInt8 × Int × Int × List UInt8)) (w : World) (hs : OwnQ w base v Q) (hl : Q.length ≤ 1048576) :
    Calls Tryz.prog 28 #[v] w fun e w' => (∃ u, e = .returned u ∧ OwnQ w' base u (cpt Q Q.length)) ∧ w.grownBy w' v.ownBlock := by
  rcases hs with ⟨rfl, rfl⟩ | ⟨g, cap, rfl, hcap, hmax, hg, hq⟩
  · go_enter Tryz.func28, Tryz.ntmps28
    go_wp2_with fail
    go_ret
    exact ⟨⟨_, rfl, .inl ⟨rfl, rfl⟩⟩, grown_refl _ _⟩
  · refine (compactQ_any g cap Q w hq hcap hmax hl).mono ?_
    rintro e w' ⟨rfl, hQ, hgr⟩
    exact ⟨⟨_, rfl, .inr ⟨g, cap, rfl, Nat.le_trans (cpt_len _ _) hcap, hmax, hg, hQ⟩⟩, hgr⟩

end Go.Proofs.YtjocegnhhhfbeaaGreatDoor
