import Derived.Test.YtdbbcepjdojdcaaGreatDoorZ24
import Derived.Test.YtdbbcepjdojdcaaGreatDoorZ42
import Derived.Test.YtdbbcepjdojdcaaGreatDoorZ18
import Derived.Test.YtdbbcepjdojdcaaGreatDoorZ20
import Derived.Test.YtdbbcepjdojdcaaGreatDoorZ27
import Derived.Test.YtdbbcepjdojdcaaGreatDoorZ43
import Derived.Shelf.SlSortCmp.WholeK
import Derived.Test.YtdbbcepjdojdcaaGreatDoorZ33
import Derived.Test.YtdbbcepjdojdcaaGreatDoorZ45
import Derived.ArgAppend
import Derived.Deep.AppendSrc
import Derived.Deep.Upon
import Derived.Shelf.SlSortCmp.NoneTotal
namespace Go.Proofs.YtdbbcepjdojdcaaGreatDoor
open Go.RowKit

theorem TP.swo {α : Type} {c : α → α → Int} (h : TP c) : Sort.SWO (ltOf c) where
  irrefl x := by
    have a := h.anti x x
    unfold ltOf
    rw [decide_eq_false_iff_not]
    omega
  trans x y z h1 h2 := by
    unfold ltOf at *
    rw [decide_eq_true_eq] at *
    exact h.ltr h1 (by omega)
  ntrans x y z h1 h2 := by
    unfold ltOf at *
    rw [decide_eq_false_iff_not] at *
    have a1 := h.anti x y
    have a2 := h.anti y z
    have a3 := h.anti x z
    have h3 := h.tr z y x (by omega) (by omega)
    omega

/-- What a record lies as. -/
def encQ (x : Rq) : List Value := [.string ⟨x.1.1.toArray⟩, .int .i64 x.1.2.1, .int .i64 x.1.2.2.1, .string ⟨x.1.2.2.2.toArray⟩]
theorem encQ_one (x : Rq) : ∀ v ∈ encQ x, v.oneCell' = true := by
  intro v hv
  simp only [encQ, List.mem_cons, List.not_mem_nil, or_false] at hv
  rcases hv with rfl | rfl | rfl | rfl <;> rfl

set_option maxRecDepth 20000 in
set_option maxHeartbeats 400000 in
theorem orderQ_gr (x y : Rq) (w : World) (hE : EnvR w) :
    Calls Tryz.prog 68 #[.agg (encQ x).toArray, .agg (encQ y).toArray] w fun e w' => e = .returned (.int .i64 (cfQ x y)) ∧ Gr w w' := by
  have h := Drawn.calls_d (orderOfRecords_any ⟨x.1.1.toArray⟩ ⟨x.1.2.2.2.toArray⟩ x.1.2.1 x.1.2.2.1 ⟨y.1.1.toArray⟩ ⟨y.1.2.2.2.toArray⟩ y.1.2.1 y.1.2.2.1 w (by rw [size_list]; exact x.2.2.2) (by rw [size_list]; exact y.2.2.2) hE)
  exact h.mono fun e w' h' => ⟨h'.1.1, h'.1.2, h'.2 (by rw [h'.1.1]; intro k; cases k)⟩

theorem grown_sortedK [Inhabited Rq] (w : World) (g off n : Nat) (d : Array Rq) (os : Array Obj) : w.grownBy (sortWorldK encQ 4 w g off n d os) (some g) := by
  refine ⟨rfl, rfl, rfl, ?_, fun k hk hne => ?_⟩
  · unfold sortWorldK Sort.putRowK; rw [Sort.size_grow, Sort.size_putRow]; exact Nat.le_add_right _ _
  · unfold sortWorldK Sort.putRowK
    rw [Sort.heap_grow_old _ _ (by rw [Sort.size_putRow]; exact hk)]
    show (w.heap.modify g _)[k]? = _
    rw [Array.getElem?_modify, if_neg (fun e => hne (by rw [e]))]
theorem below_sortedK [Inhabited Rq] {w0 w : World} (hb : Below w0.heap.size w0 w) (g off n : Nat) (d : Array Rq) (os : Array Obj) (hg : w0.heap.size ≤ g) : Below w0.heap.size w0 (sortWorldK encQ 4 w g off n d os) :=
  hb.grown (grown_sortedK w g off n d os) hb.size (fun j hj => by cases hj; exact hg)

theorem lays_records [Inhabited Rq] {w0 w : World} (hE : EnvR w0) (hb : Below w0.heap.size w0 w) (g off size : Nat) (hg : w0.heap.size ≤ g) : CmpLays Tryz.prog 68 #[] encQ 4 cfQ g off size w := by
  intro m os dk _ x y
  rw [Array.append_empty]
  exact (orderQ_gr x y _ (hE.below (below_sortedK hb g off m dk os hg))).mono fun e w' ⟨he, hgr⟩ => ⟨he, hgr.grow⟩

/-- Sorted: none is less than one ahead of it. -/
def srtQ (Q : List (List UInt8 × Int × Int × List UInt8)) : Prop := Q.Pairwise (fun x y => ¬ cmp4 y x < 0)

set_option maxRecDepth 20000 in
set_option maxHeartbeats 1000000 in
/-- slices.SortFunc by the order of records. -/
theorem sortRecords_any (g cap : Nat) (P : List (List UInt8 × Int × Int × List UInt8)) (w0 w : World) (hE : EnvR w0) (hb : Below w0.heap.size w0 w) (hg : w0.heap.size ≤ g) (hs : QRow w g P) (hN : ∀ x ∈ P, nameB x.1 = true ∧ x.1.length ≤ 1048576 ∧ x.2.2.2.length ≤ 1048576) (hl : P.length ≤ 1048576) :
    Calls Tryz.prog 67 #[.slice (some ⟨g, 0, none⟩) P.length cap, .func (.func 68) #[] #[]] w fun e w' => e = .returned (.tuple #[]) ∧ ∃ Q, Q.Perm P ∧ srtQ Q ∧ QRow w' g Q ∧ w.grownBy w' (some g) := by
  have hin : Inhabited Rq := ⟨⟨([], 0, 0, []), by decide, by simp, by simp⟩⟩
  obtain ⟨D, hD⟩ : ∃ D : List Rq, D.map (·.1) = P := ⟨P.attachWith _ hN, List.attachWith_map_subtype_val _⟩
  have hsz : D.toArray.size = P.length := by rw [← hD]; simp
  have hget : ∀ j, (hj : j < P.length) → (D.toArray[j]!).1 = P[j] := by
    intro j hj
    subst hD
    have hj' : j < D.length := by simpa using hj
    rw [getElem!_pos D.toArray j (by simpa using hj')]; simp
  have eg : ∀ args w, (callFunc 68 args).run Tryz.prog w = .ok (.enter 68 args) w := enters_of Tryz.func68 (by kernel_rfl) rfl
  have hH : Sort.HoldsK encQ 4 w g 0 D.toArray := by
    intro t ht
    rw [Sort.size_flatK] at ht
    rw [Sort.get_flatK _ _ _ _ ht, Nat.zero_add, id]
    have hj : t / 4 < P.length := by rw [← hsz]; omega
    have hr := hs.2 (t / 4) hj
    unfold RecAt at hr
    have e : t = t / 4 * 4 + t % 4 := by omega
    have hm : t % 4 < 4 := Nat.mod_lt _ (by decide)
    unfold encQ
    rw [hget _ hj]
    obtain ⟨r, hre⟩ : ∃ r, r = t % 4 := ⟨_, rfl⟩
    rw [← hre] at hm e ⊢
    have ea : (⟨g, t, none⟩ : Addr) = ⟨g, t / 4 * 4 + r, none⟩ := congrArg (fun x => (⟨g, x, none⟩ : Addr)) e
    rw [ea]
    obtain ⟨⟨c0, c1, c2, c3⟩, f0, f1, f2, f3⟩ := hr
    match r, hm with
    | 0, _ => exact ⟨c0, f0⟩
    | 1, _ => exact ⟨c1, f1⟩
    | 2, _ => exact ⟨c2, f2⟩
    | 3, _ => exact ⟨c3, f3⟩
  have hS := AnyQ.slices_SortFunc Tryz.sortQ 4 (fun w => Tryz.isAgg63 w) (fun w => Tryz.sizeOf63 w) encQ (fun _ => rfl) encQ_one cfQ tp_Q.swo 68 #[] g 0 cap D.toArray w eg (lays_records hE hb g 0 _ hg) hH hs.1 (by rw [hsz]; omega)
  change Calls Tryz.prog 67 _ _ _ at hS
  rw [hsz] at hS
  refine hS.mono ?_
  rintro e w' ⟨rfl, d', n, os, hp, hso, rfl⟩
  have hsz' : d'.size = P.length := by rw [hp.1, hsz]
  refine ⟨rfl, d'.toList.map (·.1), ?_, ?_, ?_, grown_sortedK w g 0 n d' os⟩
  · have hpp := hp.2.2
    have e1 : d'.extract 0 P.length = d' := by rw [← hsz']; exact Array.extract_size
    have e2 : D.toArray.extract 0 P.length = D.toArray := by rw [← hsz]; exact Array.extract_size
    rw [e1, e2] at hpp
    rw [← hD]
    exact hpp.map _
  · unfold srtQ
    rw [List.pairwise_map, List.pairwise_iff_getElem]
    intro i j hi hj hij
    have hj' : j < d'.size := by simpa using hj
    have h := hso i j (Nat.zero_le _) hij (by rw [← hsz']; exact hj')
    unfold ltOf at h
    rw [decide_eq_false_iff_not, getElem!_pos d' j hj', getElem!_pos d' i (by omega)] at h
    exact h
  · have hh := SWK.holds (enc := encQ) (k := 4) (w0 := w) (blk := g) (off := 0) (dk := d') ⟨n, os, rfl⟩ hs.1 hH (by rw [hsz', hsz])
    refine ⟨Nat.lt_of_lt_of_le hs.1 (grown_sortedK w g 0 n d' os).size, fun j hj => ?_⟩
    have hj' : j < d'.size := by simpa using hj
    have c : ∀ r, r < 4 → (sortWorldK encQ 4 w g 0 n d' os).cell? ⟨g, j * 4 + r, none⟩ = some (encQ d'[j]!)[r]! ∧ (sortWorldK encQ 4 w g 0 n d' os).frozen? ⟨g, j * 4 + r, none⟩ = false := fun r hr => by
      have h := Sort.HoldsK.cell hh hj' hr
      rw [Nat.zero_add] at h
      exact h
    have e : (List.map (·.1) d'.toList)[j] = (d'[j]!).1 := by
      rw [getElem!_pos d' j hj']; simp
    unfold RecAt
    rw [e]
    exact ⟨⟨(c 0 (by decide)).1, (c 1 (by decide)).1, (c 2 (by decide)).1, (c 3 (by decide)).1⟩, (c 0 (by decide)).2, (c 1 (by decide)).2, (c 2 (by decide)).2, (c 3 (by decide)).2⟩
end Go.Proofs.YtdbbcepjdojdcaaGreatDoor

namespace Go.Proofs.YtdbbcepjdojdcaaGreatDoor
open Go.RowKit

section
variable {w : World} {ops : Array Oper} {rest : List Oper} {o : Oper} {a : Act} {Q : Exit → Act → World → Prop}
/-- Records that lie somewhere appended to a list that has no room: what lay there stays. -/
theorem wpList_append_full (hgd : o.guard = none) (s x : Operand) (t : TypeId)
    (ho : o.op = .call { callee := .builtin .append, args := #[s, x], argTypes := #[t, t] }) (ht : Tryz.prog.underlying t = some (.slice 63))
    (ao : Option Addr) (A B : List (List UInt8 × Int × Int × List UInt8)) (hs : a.eval s = .slice ao A.length A.length) (hA : (ao = none ∧ A = []) ∨ ∃ g, ao = some ⟨g, 0, none⟩ ∧ QRow w g A)
    (u : Value) (hx : a.eval x = u) (hr : RRow w u B) (hlen : A.length + B.length ≤ 1048576)
    (h : ∀ v' w', RRow w' v' (A ++ B) → w.grownBy w' none → wpList Tryz.prog ops Q rest (a.put o.dst v') w') : wpList Tryz.prog ops Q (o :: rest) a w := by
  obtain ⟨i0, hi, hz0, hz1, hz2⟩ := info_parts info_rec
  obtain ⟨ab, cap, rfl, hcap, hmax, hc⟩ := hr
  have hrA : RRow w (.slice ao A.length A.length) A := by
    refine ⟨ao, A.length, rfl, Nat.le_refl _, by unfold maxLen; omega, ?_⟩
    rcases hA with ⟨_, rfl⟩ | ⟨g, rfl, hq⟩
    · exact .inl rfl
    · exact .inr ⟨g, 0, rfl, hq.1, fun j hj => by rw [Nat.zero_add]; exact (hq.2 j hj).1⟩
  by_cases hB : B = []
  · subst hB
    refine wpList_plain hgd fun K hK => ?_
    have hsrc : Src Tryz.prog i0.size t (.slice ab 0 cap) 0 [] w := by
      cases ab with
      | none => exact Src.ofNil w ht cap
      | some p => exact Src.ofSlice w ht p 0 cap [] (by simp) (by simp) (by simp)
    have hrun := run_append_nothing (P := Tryz.prog) w t t o.type 63 i0 ht hi ao A.length A.length (Nat.le_refl _) (.slice ab 0 cap) hsrc
    unfold Oper.wp
    simp [execOp, ho, resolve, invoke, builtin, hs, hx, hrun, Result.andThen]
    exact hK _ _ (h _ _ (by rw [List.append_nil]; exact hrA) (grown_refl _ _))
  · rcases hc with hc | ⟨b, off, rfl, hbl, hrow⟩
    · exact absurd hc hB
    · have hpos : 0 < B.length := List.length_pos_iff.2 hB
      refine wpList_append_grows (P := Tryz.prog) w hgd s x t ho 63 i0 _ 4 48 ht hi hz0 hz1 hz2 rfl (by decide) ao A.length A.length (rcells A) hs ?_ (rcells_length A) ?_ ⟨b, off, none⟩ B.length cap (rcells B) hx (rcells_length B) (rows_news hrow) (rcells_one B) (by omega) (by unfold maxLen; omega) (by omega) ?_
      · intro e
        rcases hA with ⟨_, rfl⟩ | ⟨g, e2, _⟩
        · exact ⟨rfl, rfl⟩
        · rw [e2] at e; cases e
      · intro p e
        rcases hA with ⟨e2, _⟩ | ⟨g, e2, hq⟩
        · rw [e2] at e; cases e
        · rw [e2] at e; cases e
          exact rows_news (fun j hj => by rw [Nat.zero_add]; exact (hq.2 j hj).1)
      · intro v' w' hown hgr
        have hown2 : w'.ownsRow w.heap.size 63 4 v' (A ++ B).length (rcells (A ++ B)) := by
          rw [List.length_append, rcells_app]; exact hown
        exact h v' w' (own_q hown2).row hgr
end
theorem grown_belowN {w w' : World} (h : w.grownBy w' none) : Below w.heap.size w w' := (Below.refl _ _).grown h (Nat.le_refl _) (fun j hj => by cases hj)

set_option maxRecDepth 20000 in
set_option maxHeartbeats 2000000 in
theorem putBehind_any (base : Nat) (va vb : Value) (A B : List (List UInt8 × Int × Int × List UInt8)) (w : World) (ha : OwnQ w base va A) (hb : RRow w vb B) (hl : A.length + B.length ≤ 1048576) :
    Calls Tryz.prog 66 #[va, vb] w fun e w' => (∃ u, e = .returned u ∧ RRow w' u (A ++ B)) ∧ Below w.heap.size w w' := by
  have HB : Hid (RRow w vb B) := hb
  obtain ⟨ab, cb, rfl, hcb1, hcb, _⟩ := rrow_value hb
  clear hb
  rcases ha with ⟨rfl, rfl⟩ | ⟨g, cap, rfl, hcap, hmax, _, hq⟩
  · go_enter Tryz.func66, Tryz.ntmps66
    go_wp2_with (first | (at_builtin; refine wpList_append_full rfl (.tmp 10) (.tmp 11) 29 rfl Tryz.underlying29 none [] B rfl (.inl ⟨rfl, rfl⟩) _ rfl HB.out ?b3 ?_))
    case b3 => exact hl
    intro v2 w4 hrow hgrow
    have HR : Hid (RRow w4 v2 ([] ++ B)) := hrow
    clear hrow
    go_wp2_with fail
    go_ret
    exact ⟨⟨_, rfl, HR.out⟩, grown_belowN hgrow⟩
  · have HQ : Hid (QRow w g A) := hq
    unfold maxLen at hmax
    clear hq
    go_enter Tryz.func66, Tryz.ntmps66
    go_wp2_with (first | (at_builtin; refine wpList_append_full rfl (.tmp 10) (.tmp 11) 29 rfl Tryz.underlying29 (some ⟨g, 0, none⟩) A B rfl (.inr ⟨g, rfl, HQ.out⟩) _ rfl HB.out ?b3 ?_))
    case b3 => exact hl
    intro v2 w4 hrow hgrow
    have HR : Hid (RRow w4 v2 (A ++ B)) := hrow
    clear hrow
    go_wp2_with fail
    go_ret
    exact ⟨⟨_, rfl, HR.out⟩, grown_belowN hgrow⟩

/-- slices.SortFunc of records that the call owns. -/
theorem sortOwn_any (base : Nat) (v : Value) (P : List (List UInt8 × Int × Int × List UInt8)) (w0 w : World) (hE : EnvR w0) (hb : Below w0.heap.size w0 w) (hbase : w0.heap.size ≤ base) (hs : OwnQ w base v P) (hN : ∀ x ∈ P, nameB x.1 = true ∧ x.1.length ≤ 1048576 ∧ x.2.2.2.length ≤ 1048576) (hl : P.length ≤ 1048576) :
    Calls Tryz.prog 67 #[v, .func (.func 68) #[] #[]] w fun e w' => e = .returned (.tuple #[]) ∧ ∃ Q, Q.Perm P ∧ srtQ Q ∧ OwnQ w' base v Q ∧ w.grownBy w' v.ownBlock := by
  rcases hs with ⟨rfl, rfl⟩ | ⟨g, cap, rfl, hcap, hmax, hg, hq⟩
  · have h := AnyF.slices_SortFunc_none Tryz.sortQ none 0 (.func (.func 68) #[] #[]) w
    change Calls Tryz.prog 67 _ _ _ at h
    refine h.mono ?_
    rintro e w' ⟨rfl, rfl⟩
    exact ⟨rfl, [], List.Perm.refl _, List.Pairwise.nil, .inl ⟨rfl, rfl⟩, grown_refl _ _⟩
  · refine (sortRecords_any g cap P w0 w hE hb (Nat.le_trans hbase hg) hq hN hl).mono ?_
    rintro e w' ⟨rfl, Q, hp, hso, hQ, hgr⟩
    refine ⟨rfl, Q, hp, hso, .inr ⟨g, cap, by rw [hp.length_eq], by rw [hp.length_eq]; exact hcap, hmax, hg, hQ⟩, hgr⟩
set_option maxRecDepth 20000 in
set_option maxHeartbeats 1000000 in
theorem compactOwn_any (base : Nat) (v : Value) (Q : List (List UInt8 × Int × Int × List UInt8)) (w : World) (hs : OwnQ w base v Q) (hl : Q.length ≤ 1048576) :
    Calls Tryz.prog 69 #[v] w fun e w' => (∃ u, e = .returned u ∧ OwnQ w' base u (cpt Q Q.length)) ∧ w.grownBy w' v.ownBlock := by
  rcases hs with ⟨rfl, rfl⟩ | ⟨g, cap, rfl, hcap, hmax, hg, hq⟩
  · go_enter Tryz.func69, Tryz.ntmps69
    go_wp2_with fail
    go_ret
    exact ⟨⟨_, rfl, .inl ⟨rfl, rfl⟩⟩, grown_refl _ _⟩
  · refine (compactQ_any g cap Q w hq hcap hmax hl).mono ?_
    rintro e w' ⟨rfl, hQ, hgr⟩
    exact ⟨⟨_, rfl, .inr ⟨g, cap, rfl, Nat.le_trans (cpt_len _ _) hcap, hmax, hg, hQ⟩⟩, hgr⟩

set_option maxRecDepth 20000 in
set_option maxHeartbeats 4000000 in
theorem inOneList_any (base : Nat) (va vb : Value) (A B : List (List UInt8 × Int × Int × List UInt8)) (w : World) (hE : EnvR w) (ha : OwnQ w base va A) (hb : RRow w vb B) (hl : A.length + B.length ≤ 1048576) (hGA : ∀ x ∈ A, GoodQ x) (hGB : ∀ x ∈ B, GoodQ x) (hrA : risQ A) :
    Calls Tryz.prog 36 #[va, vb] w fun e w' => (∃ u, e = .returned u ∧ OwnQ w' w.heap.size u (andQ A B)) ∧ Below w.heap.size w w' := by
  have HG : Hid (∀ x ∈ A ++ B, GoodQ x) := fun x hx => by
    rcases List.mem_append.1 hx with h | h
    · exact hGA x h
    · exact hGB x h
  have HAND : Hid (∀ Q, Q.Perm (A ++ B) → srtQ Q → cpt Q Q.length = andQ A B) := fun Q hp hS => cpt_and hGA hGB hrA hp hS
  have HP : Hid (Calls Tryz.prog 66 #[va, vb] w fun e w' => (∃ u, e = .returned u ∧ RRow w' u (A ++ B)) ∧ Below w.heap.size w w') := putBehind_any base va vb A B w ha hb hl
  have HL : Hid ((A ++ B).length ≤ 1048576) := by rw [List.length_append]; exact hl
  have HE : Hid (EnvR w) := hE
  obtain ⟨aa, ca, rfl, hca⟩ := ha.shape
  obtain ⟨ab, cb, rfl, hcb1, hcb, _⟩ := rrow_value hb
  obtain ⟨P, hPe⟩ : ∃ P, P = A ++ B := ⟨_, rfl⟩
  rw [← hPe] at HG HAND HP HL
  clear ha hb hGA hGB hrA hPe hE
  go_enter Tryz.func36, Tryz.ntmps36
  go_wp2_with fail
  refine HP.out.mono ?_
  rintro e w1 ⟨⟨u1, rfl, hr1⟩, hb1⟩
  have HR1 : Hid (RRow w1 u1 P) := hr1
  obtain ⟨a1, c1, rfl, h11, h12, _⟩ := rrow_value hr1
  clear hr1
  go_wp2_with fail
  refine (copyRecords_any _ P _ HR1.out HL.out (fun x hx => (HG.out x hx).2.2)).mono ?_
  rintro e w2 ⟨u2, rfl, ho2, hb2⟩
  have HO2 : Hid (OwnQ w2 w1.heap.size u2 P) := ho2
  have hbw2 : Below w.heap.size w w2 := hb1.trans (hb2.mono hb1.size)
  obtain ⟨a2, c2, hu2, hc2⟩ := ho2.shape
  have HU2 : Hid (∀ g, u2.ownBlock = some g → w.heap.size ≤ g) := fun g hg => Nat.le_trans hb1.size (ho2.lt g hg).1
  have hz : w.heap.size ≤ w1.heap.size := hb1.size
  subst hu2
  clear ho2 hb2
  go_wp2_with fail
  refine (sortOwn_any w1.heap.size _ P w w2 HE.out hbw2 hz HO2.out (fun x hx => ⟨(HG.out x hx).1, (HG.out x hx).2.2⟩) HL.out).mono ?_
  rintro e w3 ⟨rfl, Q, hp, hS, ho3, hgr3⟩
  have HA3 : Hid (cpt Q Q.length = andQ A B) := HAND.out Q hp hS
  have HL3 : Hid (Q.length ≤ 1048576) := by rw [hp.length_eq]; exact HL.out
  have hbw3 : Below w.heap.size w w3 := hbw2.grown hgr3 hbw2.size HU2.out
  have HO3 : Hid (OwnQ w3 w1.heap.size (.slice a2 P.length c2) Q) := ho3
  clear ho3 hgr3 hp hS
  go_wp2_with fail
  refine (compactOwn_any w1.heap.size _ Q w3 HO3.out HL3.out).mono ?_
  rintro e w4 ⟨⟨u4, rfl, ho4⟩, hgr4⟩
  have hbw4 : Below w.heap.size w w4 := hbw3.grown hgr4 hbw3.size HU2.out
  have HO4 : Hid (OwnQ w4 w.heap.size u4 (andQ A B)) := by
    have h := ho4.base hz
    rw [HA3.out] at h
    exact h
  clear ho4 hgr4
  go_wp2_with fail
  go_ret
  exact ⟨⟨_, rfl, HO4.out⟩, hbw4⟩
end Go.Proofs.YtdbbcepjdojdcaaGreatDoor
