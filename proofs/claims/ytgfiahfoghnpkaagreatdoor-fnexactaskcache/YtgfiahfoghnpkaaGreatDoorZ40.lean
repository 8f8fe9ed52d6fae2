import Derived.Test.YtgfiahfoghnpkaaGreatDoorZ37
import Derived.Test.YtgfiahfoghnpkaaGreatDoorZ30
import Derived.Test.YtgfiahfoghnpkaaGreatDoorZ29
import Derived.Test.YtgfiahfoghnpkaaGreatDoorZ38
import Derived.Test.YtgfiahfoghnpkaaGreatDoorZ25
import Derived.Test.YtgfiahfoghnpkaaGreatDoorZ39
import Derived.Shelf.SlSortCmp.WholeK
import Derived.Shelf.SlSortCmp.NoneTotal
namespace Go.Proofs.YtgfiahfoghnpkaaGreatDoor
open Go.RowKit

theorem tp_swo {α : Type} {c : α → α → Int} (h : TP c) : Sort.SWO (ltOf c) where
  irrefl x := by
    have a := h.anti x x
    unfold ltOf
    rw [decide_eq_false_iff_not]
    omega
  trans x y z h1 h2 := by
    unfold ltOf at *
    rw [decide_eq_true_eq] at *
    exact h.ltr h1 (by omega)
  ntrans x y z h1 h2 := by
    unfold ltOf at *
    rw [decide_eq_false_iff_not] at *
    have a1 := h.anti x y
    have a2 := h.anti y z
    have a3 := h.anti x z
    have h3 := h.tr z y x (by omega) (by omega)
    omega
/-- An entry with a good name. -/
abbrev Re : Type := {e : EV // nameB e.nm.data.toList = true}
def cmpE (x y : EV) : Int := orI (cmpN x.nm.data.toList y.nm.data.toList) (Lib.compareInt x.ty y.ty)
def cfE (x y : Re) : Int := cmpE x.1 y.1
theorem tp_E : TP cfE := (tp_names.pull (fun x : Re => x.1.nm.data.toList)).lex (tp_int.pull (fun x : Re => x.1.ty))
def encE (x : Re) : List Value := [.string x.1.nm, .int .i64 x.1.ty, .bool x.1.no, .slice x.1.a x.1.n x.1.c, .int .i64 x.1.un, .int .i64 x.1.us]
theorem encE_one (x : Re) : ∀ v ∈ encE x, v.oneCell' = true := by
  intro v hv
  simp only [encE, List.mem_cons, List.not_mem_nil, or_false] at hv
  rcases hv with rfl | rfl | rfl | rfl | rfl | rfl <;> rfl
theorem bytes_back (s : ByteArray) : (⟨s.data.toList.toArray⟩ : ByteArray) = s := by simp

set_option maxRecDepth 20000 in
set_option maxHeartbeats 400000 in
theorem orderEV_any (x y : EV) (w : World) (hN : nameB x.nm.data.toList = true ∧ nameB y.nm.data.toList = true) (hE : Env w) :
    Calls Tryz.prog 68 #[.agg #[.string x.nm, .int .i64 x.ty, .bool x.no, .slice x.a x.n x.c, .int .i64 x.un, .int .i64 x.us], .agg #[.string y.nm, .int .i64 y.ty, .bool y.no, .slice y.a y.n y.c, .int .i64 y.un, .int .i64 y.us]] w fun e w' => e = .returned (.int .i64 (cmpE x y)) ∧ Below w.heap.size w w' := by
  have h := orderE_any (x.nm.data.toList, x.ty, x.no, [], x.un, x.us) (y.nm.data.toList, y.ty, y.no, [], y.un, y.us) (.slice x.a x.n x.c) (.slice y.a y.n y.c) w hN ⟨_, _, _, rfl⟩ ⟨_, _, _, rfl⟩ hE
  simp only [bytes_back] at h
  exact h
theorem orderE_gr (x y : Re) (w : World) (hE : Env w) :
    Calls Tryz.prog 68 #[.agg (encE x).toArray, .agg (encE y).toArray] w fun e w' => e = .returned (.int .i64 (cfE x y)) ∧ Gr w w' := by
  have h := Drawn.calls_d (orderEV_any x.1 y.1 w ⟨x.2, y.2⟩ hE)
  exact h.mono fun e w' h' => ⟨h'.1.1, h'.1.2, h'.2 (by rw [h'.1.1]; intro k; cases k)⟩

theorem grown_sortedE [Inhabited Re] (w : World) (g off n : Nat) (d : Array Re) (os : Array Obj) : w.grownBy (sortWorldK encE 6 w g off n d os) (some g) := by
  refine ⟨rfl, rfl, rfl, ?_, fun k hk hne => ?_⟩
  · unfold sortWorldK Sort.putRowK; rw [Sort.size_grow, Sort.size_putRow]; exact Nat.le_add_right _ _
  · unfold sortWorldK Sort.putRowK
    rw [Sort.heap_grow_old _ _ (by rw [Sort.size_putRow]; exact hk)]
    show (w.heap.modify g _)[k]? = _
    rw [Array.getElem?_modify, if_neg (fun e => hne (by rw [e]))]
theorem below_sortedE [Inhabited Re] {w0 w : World} (hb : Below w0.heap.size w0 w) (g off n : Nat) (d : Array Re) (os : Array Obj) (hg : w0.heap.size ≤ g) : Below w0.heap.size w0 (sortWorldK encE 6 w g off n d os) :=
  hb.grown (grown_sortedE w g off n d os) hb.size (fun j hj => by cases hj; exact hg)
theorem lays_entries [Inhabited Re] {w0 w : World} (hE : Env w0) (hb : Below w0.heap.size w0 w) (g off size : Nat) (hg : w0.heap.size ≤ g) : CmpLays Tryz.prog 68 #[] encE 6 cfE g off size w := by
  intro m os dk _ x y
  rw [Array.append_empty]
  exact (orderE_gr x y _ (hE.below (below_sortedE hb g off m dk os hg))).mono fun e w' ⟨he, hgr⟩ => ⟨he, hgr.grow⟩
/-- Sorted: none is less than one ahead of it. -/
def srtE (Q : List EV) : Prop := Q.Pairwise (fun x y => ¬ cmpE y x < 0)
/-- Entries in a row of the call's own. -/
def EQRow (w : World) (g : Nat) (P : List EV) : Prop :=
  g < w.heap.size ∧ ∀ j, (hj : j < P.length) → Ent6 w g (j * 6) P[j] ∧ ∀ r, r < 6 → w.frozen? ⟨g, j * 6 + r, none⟩ = false

set_option maxRecDepth 20000 in
set_option maxHeartbeats 1000000 in
/-- slices.SortFunc by the order of entries. -/
theorem sortEntries_any (g cap : Nat) (P : List EV) (w0 w : World) (hE : Env w0) (hb : Below w0.heap.size w0 w) (hg : w0.heap.size ≤ g) (hs : EQRow w g P) (hN : ∀ x ∈ P, nameB x.nm.data.toList = true) (hl : P.length ≤ 1048576) :
    Calls Tryz.prog 110 #[.slice (some ⟨g, 0, none⟩) P.length cap, .func (.func 68) #[] #[]] w fun e w' => e = .returned (.tuple #[]) ∧ ∃ Q, Q.Perm P ∧ srtE Q ∧ EQRow w' g Q ∧ w.grownBy w' (some g) := by
  have hin : Inhabited Re := ⟨⟨⟨⟨#[]⟩, 0, false, none, 0, 0, 0, 0⟩, by decide⟩⟩
  obtain ⟨D, hD⟩ : ∃ D : List Re, D.map (·.1) = P := ⟨P.attachWith _ hN, List.attachWith_map_subtype_val _⟩
  have hsz : D.toArray.size = P.length := by rw [← hD]; simp
  have hget : ∀ j, (hj : j < P.length) → (D.toArray[j]!).1 = P[j] := by
    intro j hj
    subst hD
    have hj' : j < D.length := by simpa using hj
    rw [getElem!_pos D.toArray j (by simpa using hj')]; simp
  have eg : ∀ args w, (callFunc 68 args).run Tryz.prog w = .ok (.enter 68 args) w := enters_of Tryz.func68 (by kernel_rfl) rfl
  have hH : Sort.HoldsK encE 6 w g 0 D.toArray := by
    intro t ht
    rw [Sort.size_flatK] at ht
    rw [Sort.get_flatK _ _ _ _ ht, Nat.zero_add, id]
    have hj : t / 6 < P.length := by rw [← hsz]; omega
    obtain ⟨⟨c0, c1, c2, c3, c4, c5⟩, hf⟩ := hs.2 (t / 6) hj
    have e : t = t / 6 * 6 + t % 6 := by omega
    have hm : t % 6 < 6 := Nat.mod_lt _ (by decide)
    unfold encE
    rw [hget _ hj]
    obtain ⟨r, hre⟩ : ∃ r, r = t % 6 := ⟨_, rfl⟩
    rw [← hre] at hm e ⊢
    have ea : (⟨g, t, none⟩ : Addr) = ⟨g, t / 6 * 6 + r, none⟩ := congrArg (fun x => (⟨g, x, none⟩ : Addr)) e
    rw [ea]
    have hfr := hf r hm
    match r, hm with
    | 0, _ => exact ⟨c0, hfr⟩
    | 1, _ => exact ⟨c1, hfr⟩
    | 2, _ => exact ⟨c2, hfr⟩
    | 3, _ => exact ⟨c3, hfr⟩
    | 4, _ => exact ⟨c4, hfr⟩
    | 5, _ => exact ⟨c5, hfr⟩
  have hS := AnyQ.slices_SortFunc Tryz.sortE 6 (fun w => Tryz.isAgg44 w) (fun w => Tryz.sizeOf44 w) encE (fun _ => rfl) encE_one cfE (tp_swo tp_E) 68 #[] g 0 cap D.toArray w eg (lays_entries hE hb g 0 _ hg) hH hs.1 (by rw [hsz]; omega)
  change Calls Tryz.prog 110 _ _ _ at hS
  rw [hsz] at hS
  refine hS.mono ?_
  rintro e w' ⟨rfl, d', n, os, hp, hso, rfl⟩
  have hsz' : d'.size = P.length := by rw [hp.1, hsz]
  refine ⟨rfl, d'.toList.map (·.1), ?_, ?_, ?_, grown_sortedE w g 0 n d' os⟩
  · have hpp := hp.2.2
    have e1 : d'.extract 0 P.length = d' := by rw [← hsz']; exact Array.extract_size
    have e2 : D.toArray.extract 0 P.length = D.toArray := by rw [← hsz]; exact Array.extract_size
    rw [e1, e2] at hpp
    rw [← hD]
    exact hpp.map _
  · unfold srtE
    rw [List.pairwise_map, List.pairwise_iff_getElem]
    intro i j hi hj hij
    have hj' : j < d'.size := by simpa using hj
    have h := hso i j (Nat.zero_le _) hij (by rw [← hsz']; exact hj')
    unfold ltOf at h
    rw [decide_eq_false_iff_not, getElem!_pos d' j hj', getElem!_pos d' i (by omega)] at h
    exact h
  · have hh := SWK.holds (enc := encE) (k := 6) (w0 := w) (blk := g) (off := 0) (dk := d') ⟨n, os, rfl⟩ hs.1 hH (by rw [hsz', hsz])
    refine ⟨Nat.lt_of_lt_of_le hs.1 (grown_sortedE w g 0 n d' os).size, fun j hj => ?_⟩
    have hj' : j < d'.size := by simpa using hj
    have c : ∀ r, r < 6 → (sortWorldK encE 6 w g 0 n d' os).cell? ⟨g, j * 6 + r, none⟩ = some (encE d'[j]!)[r]! ∧ (sortWorldK encE 6 w g 0 n d' os).frozen? ⟨g, j * 6 + r, none⟩ = false := fun r hr => by
      have h := Sort.HoldsK.cell hh hj' hr
      rw [Nat.zero_add] at h
      exact h
    have e : (List.map (·.1) d'.toList)[j] = (d'[j]!).1 := by
      rw [getElem!_pos d' j hj']; simp
    rw [e]
    exact ⟨⟨(c 0 (by decide)).1, (c 1 (by decide)).1, (c 2 (by decide)).1, (c 3 (by decide)).1, (c 4 (by decide)).1, (c 5 (by decide)).1⟩, fun r hr => (c r hr).2⟩
end Go.Proofs.YtgfiahfoghnpkaaGreatDoor

namespace Go.Proofs.YtgfiahfoghnpkaaGreatDoor
open Go.RowKit Go.Maps

theorem ecells_get (L : List EV) (j : Nat) (hj : j < L.length) (r : Nat) (hr : r < 6) : (ecells L)[j * 6 + r]? = [Value.string L[j].nm, .int .i64 L[j].ty, .bool L[j].no, .slice L[j].a L[j].n L[j].c, .int .i64 L[j].un, .int .i64 L[j].us][r]? := by
  induction L generalizing j with
  | nil => cases hj
  | cons x L ih =>
    have e : ecells (x :: L) = [.string x.nm, .int .i64 x.ty, .bool x.no, .slice x.a x.n x.c, .int .i64 x.un, .int .i64 x.us] ++ ecells L := by unfold ecells; rw [List.flatMap_cons]
    rw [e]
    cases j with
    | zero => rw [List.getElem?_append_left (by simp; omega)]; simp
    | succ j =>
      rw [List.getElem?_append_right (by simp; omega)]
      have e2 : (j + 1) * 6 + r - [Value.string x.nm, .int .i64 x.ty, .bool x.no, .slice x.a x.n x.c, .int .i64 x.un, .int .i64 x.us].length = j * 6 + r := by simp; omega
      rw [e2, ih j (by simpa using hj)]
      rfl
theorem own_e {w : World} {base : Nat} {v : Value} {L : List EV} (h : w.ownsRow base 44 6 v L.length (ecells L)) :
    (v = .slice none 0 0 ∧ L = []) ∨ ∃ g cap, v = .slice (some ⟨g, 0, none⟩) L.length cap ∧ L.length ≤ cap ∧ cap ≤ maxLen ∧ base ≤ g ∧ EQRow w g L := by
  rcases h.2 with ⟨rfl, hn⟩ | ⟨g, cap, cur, rfl, hb, hg, hnc, hcm, hcs, htake⟩
  · exact .inl ⟨rfl, List.eq_nil_of_length_eq_zero hn⟩
  · refine .inr ⟨g, cap, rfl, hnc, hcm, hb, (h.lt g rfl).2, fun j hj => ⟨?_, fun r hr => h.frozenAt _⟩⟩
    have c : ∀ r, r < 6 → w.cell? ⟨g, j * 6 + r, none⟩ = [Value.string L[j].nm, .int .i64 L[j].ty, .bool L[j].no, .slice L[j].a L[j].n L[j].c, .int .i64 L[j].un, .int .i64 L[j].us][r]? := fun r hr => by rw [h.cellAt (j * 6 + r) (by omega), ecells_get L j hj r hr]
    exact ⟨c 0 (by omega), c 1 (by omega), c 2 (by omega), c 3 (by omega), c 4 (by omega), c 5 (by omega)⟩
theorem eqrow_ev {w : World} {g cap : Nat} {L : List EV} (h : EQRow w g L) (h1 : L.length ≤ cap) (h2 : cap ≤ maxLen) : EVRow w (.slice (some ⟨g, 0, none⟩) L.length cap) L := by
  refine ⟨_, cap, rfl, h1, by unfold maxLen at h2; omega, fun _ => ⟨g, 0, rfl, h.1, fun j hj => ?_⟩⟩
  rw [Nat.zero_add]
  exact (h.2 j hj).1
theorem evrow_nil (w : World) : EVRow w (.slice none 0 0) [] := ⟨none, 0, rfl, Nat.le_refl _, by omega, fun h => (by cases h)⟩

set_option maxRecDepth 20000 in
set_option maxHeartbeats 1000000 in
theorem collect_any (Bm b nn : Nat) (D : DataW EV) (L : List EV) (hM : Hid (MapOf D L)) (hl : L.length ≤ 1048576) (w : World) (hm : w.cell? ⟨Bm, 0, none⟩ = some (.map (some b))) (hown : w.ownsMap Tryz.prog 75 elE b nn D) :
    Calls Tryz.prog 109 #[.func (.func 111) #[] #[.pointer (some ⟨Bm, 0, none⟩)]] w fun e w' => ∃ v xs, e = .returned v ∧ xs.Perm L ∧ w'.ownsRow w.heap.size 44 6 v xs.length (ecells xs) ∧ Below w.heap.size w w' := by
  go_enter Tryz.func109, Tryz.ntmps109
  go_wp2_with fail
  refine (appendSeq_any Bm b nn D L hM hl w hm hown).mono ?_
  rintro e w1 ⟨v, xs, rfl, hp, ho, hb⟩
  have HO : Hid (w1.ownsRow w.heap.size 44 6 v xs.length (ecells xs)) := ho
  have HV : Hid (∃ a n c, v = .slice a n c) := by
    rcases own_e ho with ⟨h, _⟩ | ⟨g, cap, h, _⟩
    · exact ⟨_, _, _, h⟩
    · exact ⟨_, _, _, h⟩
  clear ho
  go_wp2_with fail
  go_ret
  exact ⟨v, xs, rfl, hp, HO.out, hb⟩

set_option maxRecDepth 20000 in
set_option maxHeartbeats 2000000 in
theorem sortedFunc_any (Bm b nn : Nat) (D : DataW EV) (L : List EV) (hM : Hid (MapOf D L)) (hN : Hid (∀ x ∈ L, nameB x.nm.data.toList = true)) (hl : L.length ≤ 1048576) (w : World) (hE : Env w) (hm : w.cell? ⟨Bm, 0, none⟩ = some (.map (some b))) (hown : w.ownsMap Tryz.prog 75 elE b nn D) :
    Calls Tryz.prog 94 #[.func (.func 111) #[] #[.pointer (some ⟨Bm, 0, none⟩)], .func (.func 68) #[] #[]] w fun e w' => ∃ v Q, e = .returned v ∧ Q.Perm L ∧ srtE Q ∧ EVRow w' v Q ∧ (∀ g, v.ownBlock = some g → w.heap.size ≤ g) ∧ Below w.heap.size w w' := by
  go_enter Tryz.func94, Tryz.ntmps94
  go_wp2_with fail
  refine (collect_any Bm b nn D L hM hl w hm hown).mono ?_
  rintro e w1 ⟨v, xs, rfl, hp, ho, hb⟩
  rcases own_e ho with ⟨rfl, hx⟩ | ⟨g, cap, rfl, hcap, hmax, hg, hq⟩
  · subst hx
    have HP : Hid (List.Perm [] L) := hp
    have hS : Calls Tryz.prog 110 #[.slice none 0 0, .func (.func 68) #[] #[]] w1 fun e w' => e = .returned (.tuple #[]) ∧ w' = w1 := by
      have h := AnyF.slices_SortFunc_none Tryz.sortE none 0 (.func (.func 68) #[] #[]) w1
      change Calls Tryz.prog 110 _ _ _ at h
      exact h
    have HS : Hid (Calls Tryz.prog 110 #[.slice none 0 0, .func (.func 68) #[] #[]] w1 fun e w' => e = .returned (.tuple #[]) ∧ w' = w1) := hS
    clear hS hp ho
    go_wp2_with fail
    refine Calls.mono HS.out ?_
    rintro e w2 ⟨rfl, rfl⟩
    go_wp2_with fail
    go_ret
    exact ⟨_, [], rfl, HP.out, List.Pairwise.nil, evrow_nil _, fun g hg => (by cases hg), hb⟩
  · have HP : Hid (xs.Perm L) := hp
    have hlx : xs.length ≤ 1048576 := by rw [hp.length_eq]; exact hl
    have HS : Hid (Calls Tryz.prog 110 #[.slice (some ⟨g, 0, none⟩) xs.length cap, .func (.func 68) #[] #[]] w1 fun e w' => e = .returned (.tuple #[]) ∧ ∃ Q, Q.Perm xs ∧ srtE Q ∧ EQRow w' g Q ∧ w1.grownBy w' (some g)) :=
      sortEntries_any g cap xs w w1 hE hb hg hq (fun x hx => hN.out x (hp.mem_iff.1 hx)) hlx
    have HC : Hid (xs.length ≤ cap ∧ cap ≤ maxLen) := ⟨hcap, hmax⟩
    clear hp ho hq hmax hcap
    go_wp2_with fail
    refine Calls.mono HS.out ?_
    rintro e w2 ⟨rfl, Q, hpq, hso, hq2, hgr⟩
    have HEND : Hid (Q.Perm xs ∧ srtE Q ∧ EQRow w2 g Q) := ⟨hpq, hso, hq2⟩
    have hb2 : Below w.heap.size w w2 := hb.grown hgr hb.size (fun j hj => by cases hj; exact hg)
    clear hpq hso hq2 hgr
    go_wp2_with fail
    go_ret
    refine ⟨_, Q, rfl, HEND.out.1.trans HP.out, HEND.out.2.1, ?_, fun g2 hg2 => (by have e : g = g2 := Option.some.inj hg2; omega), hb2⟩
    have hle := HEND.out.1.length_eq
    have h := eqrow_ev (cap := cap) HEND.out.2.2 (by rw [hle]; exact HC.out.1) HC.out.2
    rw [hle] at h
    exact h

set_option maxRecDepth 20000 in
set_option maxHeartbeats 2000000 in
theorem inOrder_any (b nn : Nat) (D : DataW EV) (L : List EV) (hM : Hid (MapOf D L)) (hN : Hid (∀ x ∈ L, nameB x.nm.data.toList = true)) (hl : L.length ≤ 1048576) (w : World) (hE : Env w) (hown : w.ownsMap Tryz.prog 75 elE b nn D) :
    Calls Tryz.prog 79 #[.map (some b), .func (.func 68) #[] #[]] w fun e w' => ∃ v Q, e = .returned v ∧ Q.Perm L ∧ srtE Q ∧ EVRow w' v Q ∧ (∀ g, v.ownBlock = some g → w.heap.size ≤ g) ∧ Below w.heap.size w w' := by
  have HOW : Hid (w.ownsMap Tryz.prog 75 elE b nn D) := hown
  clear hown
  go_enter Tryz.func79, Tryz.ntmps79
  go_wp2_with fail
  refine (evalues_any b w).mono ?_
  rintro e w1 ⟨rfl, hw1⟩
  have hb1 : Below w.heap.size w w1 := by rw [hw1]; exact (Below.refl _ _).alloc (Nat.le_refl _) _
  have hc1 : w1.cell? ⟨w.heap.size, 0, none⟩ = some (.map (some b)) := by rw [hw1]; simp
  have HO1 : Hid (w1.ownsMap Tryz.prog 75 elE b nn D) := ownsMap_below HOW.out hb1
  have HSF : Hid (Calls Tryz.prog 94 #[.func (.func 111) #[] #[.pointer (some ⟨w.heap.size, 0, none⟩)], .func (.func 68) #[] #[]] w1 fun e w' => ∃ v Q, e = .returned v ∧ Q.Perm L ∧ srtE Q ∧ EVRow w' v Q ∧ (∀ g, v.ownBlock = some g → w1.heap.size ≤ g) ∧ Below w1.heap.size w1 w') := sortedFunc_any w.heap.size b nn D L hM hN hl w1 (hE.below hb1) hc1 HO1.out
  clear hw1 hc1
  go_wp2_with fail
  refine Calls.mono HSF.out ?_
  rintro e w2 ⟨v, Q, rfl, hp, hso, hr, hgo, hb2⟩
  have HR : Hid (EVRow w2 v Q) := hr
  obtain ⟨a, cap, rfl, _, _, _⟩ := hr
  go_wp2_with fail
  go_ret
  exact ⟨_, Q, rfl, hp, hso, HR.out, fun g hg => Nat.le_trans hb1.size (hgo g hg), hb1.trans (hb2.mono hb1.size)⟩
end Go.Proofs.YtgfiahfoghnpkaaGreatDoor
