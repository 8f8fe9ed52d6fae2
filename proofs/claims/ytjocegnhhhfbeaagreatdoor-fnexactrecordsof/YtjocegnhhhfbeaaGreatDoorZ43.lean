import Derived.Test.YtjocegnhhhfbeaaGreatDoorZ24
import Derived.Test.YtjocegnhhhfbeaaGreatDoorZ41
import Derived.Test.YtjocegnhhhfbeaaGreatDoorZ18
import Derived.Test.YtjocegnhhhfbeaaGreatDoorZ20
import Derived.Test.YtjocegnhhhfbeaaGreatDoorZ28
import Derived.Test.YtjocegnhhhfbeaaGreatDoorZ42
import Derived.Shelf.SlSortCmp.WholeK
namespace Go.Proofs.YtjocegnhhhfbeaaGreatDoor
open Go.RowKit

theorem TP.swo {α : Type} {c : α → α → Int} (h : TP c) : Sort.SWO (ltOf c) where
  irrefl x := by
    have a := h.anti x x
    unfold ltOf
    rw [decide_eq_false_iff_not]
    omega
  trans x y z h1 h2 := by
    unfold ltOf at *
    rw [decide_eq_true_eq] at *
    exact h.ltr h1 (by omega)
  ntrans x y z h1 h2 := by
    unfold ltOf at *
    rw [decide_eq_false_iff_not] at *
    have a1 := h.anti x y
    have a2 := h.anti y z
    have a3 := h.anti x z
    have h3 := h.tr z y x (by omega) (by omega)
    omega

/-- What a record lies as. -/
def encQ (x : Rq) : List Value := [.string ⟨x.1.1.toArray⟩, .int .i64 x.1.2.1, .int .i64 x.1.2.2.1, .string ⟨x.1.2.2.2.toArray⟩]
theorem encQ_one (x : Rq) : ∀ v ∈ encQ x, v.oneCell' = true := by
  intro v hv
  simp only [encQ, List.mem_cons, List.not_mem_nil, or_false] at hv
  rcases hv with rfl | rfl | rfl | rfl <;> rfl

set_option maxRecDepth 20000 in
set_option maxHeartbeats 400000 in
theorem orderQ_gr (x y : Rq) (w : World) (hE : EnvR w) :
    Calls Tryz.prog 27 #[.agg (encQ x).toArray, .agg (encQ y).toArray] w fun e w' => e = .returned (.int .i64 (cfQ x y)) ∧ Gr w w' := by
  have h := Drawn.calls_d (orderOfRecords_any ⟨x.1.1.toArray⟩ ⟨x.1.2.2.2.toArray⟩ x.1.2.1 x.1.2.2.1 ⟨y.1.1.toArray⟩ ⟨y.1.2.2.2.toArray⟩ y.1.2.1 y.1.2.2.1 w (by rw [size_list]; exact x.2.2.2) (by rw [size_list]; exact y.2.2.2) hE)
  exact h.mono fun e w' h' => ⟨h'.1.1, h'.1.2, h'.2 (by rw [h'.1.1]; intro k; cases k)⟩

theorem grown_sortedK [Inhabited Rq] (w : World) (g off n : Nat) (d : Array Rq) (os : Array Obj) : w.grownBy (sortWorldK encQ 4 w g off n d os) (some g) := by
  refine ⟨rfl, rfl, rfl, ?_, fun k hk hne => ?_⟩
  · unfold sortWorldK Sort.putRowK; rw [Sort.size_grow, Sort.size_putRow]; exact Nat.le_add_right _ _
  · unfold sortWorldK Sort.putRowK
    rw [Sort.heap_grow_old _ _ (by rw [Sort.size_putRow]; exact hk)]
    show (w.heap.modify g _)[k]? = _
    rw [Array.getElem?_modify, if_neg (fun e => hne (by rw [e]))]
theorem below_sortedK [Inhabited Rq] {w0 w : World} (hb : Below w0.heap.size w0 w) (g off n : Nat) (d : Array Rq) (os : Array Obj) (hg : w0.heap.size ≤ g) : Below w0.heap.size w0 (sortWorldK encQ 4 w g off n d os) :=
  hb.grown (grown_sortedK w g off n d os) hb.size (fun j hj => by cases hj; exact hg)

theorem lays_records [Inhabited Rq] {w0 w : World} (hE : EnvR w0) (hb : Below w0.heap.size w0 w) (g off size : Nat) (hg : w0.heap.size ≤ g) : CmpLays Tryz.prog 27 #[] encQ 4 cfQ g off size w := by
  intro m os dk _ x y
  rw [Array.append_empty]
  exact (orderQ_gr x y _ (hE.below (below_sortedK hb g off m dk os hg))).mono fun e w' ⟨he, hgr⟩ => ⟨he, hgr.grow⟩

/-- Sorted: none is less than one ahead of it. -/
def srtQ (Q : List (List UInt8 × Int × Int × List UInt8)) : Prop := Q.Pairwise (fun x y => ¬ cmp4 y x < 0)

set_option maxRecDepth 20000 in
set_option maxHeartbeats 1000000 in
/-- slices.SortFunc by the order of records. -/
theorem sortRecords_any (g cap : Nat) (P : List (List UInt8 × Int × Int × List UInt8)) (w0 w : World) (hE : EnvR w0) (hb : Below w0.heap.size w0 w) (hg : w0.heap.size ≤ g) (hs : QRow w g P) (hN : ∀ x ∈ P, nameB x.1 = true ∧ x.1.length ≤ 1048576 ∧ x.2.2.2.length ≤ 1048576) (hl : P.length ≤ 1048576) :
    Calls Tryz.prog 26 #[.slice (some ⟨g, 0, none⟩) P.length cap, .func (.func 27) #[] #[]] w fun e w' => e = .returned (.tuple #[]) ∧ ∃ Q, Q.Perm P ∧ srtQ Q ∧ QRow w' g Q ∧ w.grownBy w' (some g) := by
  have hin : Inhabited Rq := ⟨⟨([], 0, 0, []), by decide, by simp, by simp⟩⟩
  obtain ⟨D, hD⟩ : ∃ D : List Rq, D.map (·.1) = P := ⟨P.attachWith _ hN, List.attachWith_map_subtype_val _⟩
  have hsz : D.toArray.size = P.length := by rw [← hD]; simp
  have hget : ∀ j, (hj : j < P.length) → (D.toArray[j]!).1 = P[j] := by
    intro j hj
    subst hD
    have hj' : j < D.length := by simpa using hj
    rw [getElem!_pos D.toArray j (by simpa using hj')]; simp
  have eg : ∀ args w, (callFunc 27 args).run Tryz.prog w = .ok (.enter 27 args) w := enters_of Tryz.func27 (by kernel_rfl) rfl
  have hH : Sort.HoldsK encQ 4 w g 0 D.toArray := by
    intro t ht
    rw [Sort.size_flatK] at ht
    rw [Sort.get_flatK _ _ _ _ ht, Nat.zero_add, id]
    have hj : t / 4 < P.length := by rw [← hsz]; omega
    have hr := hs.2 (t / 4) hj
    unfold RecAt at hr
    have e : t = t / 4 * 4 + t % 4 := by omega
    have hm : t % 4 < 4 := Nat.mod_lt _ (by decide)
    unfold encQ
    rw [hget _ hj]
    obtain ⟨r, hre⟩ : ∃ r, r = t % 4 := ⟨_, rfl⟩
    rw [← hre] at hm e ⊢
    have ea : (⟨g, t, none⟩ : Addr) = ⟨g, t / 4 * 4 + r, none⟩ := congrArg (fun x => (⟨g, x, none⟩ : Addr)) e
    rw [ea]
    obtain ⟨⟨c0, c1, c2, c3⟩, f0, f1, f2, f3⟩ := hr
    match r, hm with
    | 0, _ => exact ⟨c0, f0⟩
    | 1, _ => exact ⟨c1, f1⟩
    | 2, _ => exact ⟨c2, f2⟩
    | 3, _ => exact ⟨c3, f3⟩
  have hS := AnyQ.slices_SortFunc Tryz.sortQ 4 (fun w => Tryz.isAgg43 w) (fun w => Tryz.sizeOf43 w) encQ (fun _ => rfl) encQ_one cfQ tp_Q.swo 27 #[] g 0 cap D.toArray w eg (lays_records hE hb g 0 _ hg) hH hs.1 (by rw [hsz]; omega)
  change Calls Tryz.prog 26 _ _ _ at hS
  rw [hsz] at hS
  refine hS.mono ?_
  rintro e w' ⟨rfl, d', n, os, hp, hso, rfl⟩
  have hsz' : d'.size = P.length := by rw [hp.1, hsz]
  refine ⟨rfl, d'.toList.map (·.1), ?_, ?_, ?_, grown_sortedK w g 0 n d' os⟩
  · have hpp := hp.2.2
    have e1 : d'.extract 0 P.length = d' := by rw [← hsz']; exact Array.extract_size
    have e2 : D.toArray.extract 0 P.length = D.toArray := by rw [← hsz]; exact Array.extract_size
    rw [e1, e2] at hpp
    rw [← hD]
    exact hpp.map _
  · unfold srtQ
    rw [List.pairwise_map, List.pairwise_iff_getElem]
    intro i j hi hj hij
    have hj' : j < d'.size := by simpa using hj
    have h := hso i j (Nat.zero_le _) hij (by rw [← hsz']; exact hj')
    unfold ltOf at h
    rw [decide_eq_false_iff_not, getElem!_pos d' j hj', getElem!_pos d' i (by omega)] at h
    exact h
  · have hh := SWK.holds (enc := encQ) (k := 4) (w0 := w) (blk := g) (off := 0) (dk := d') ⟨n, os, rfl⟩ hs.1 hH (by rw [hsz', hsz])
    refine ⟨Nat.lt_of_lt_of_le hs.1 (grown_sortedK w g 0 n d' os).size, fun j hj => ?_⟩
    have hj' : j < d'.size := by simpa using hj
    have c : ∀ r, r < 4 → (sortWorldK encQ 4 w g 0 n d' os).cell? ⟨g, j * 4 + r, none⟩ = some (encQ d'[j]!)[r]! ∧ (sortWorldK encQ 4 w g 0 n d' os).frozen? ⟨g, j * 4 + r, none⟩ = false := fun r hr => by
      have h := Sort.HoldsK.cell hh hj' hr
      rw [Nat.zero_add] at h
      exact h
    have e : (List.map (·.1) d'.toList)[j] = (d'[j]!).1 := by
      rw [getElem!_pos d' j hj']; simp
    unfold RecAt
    rw [e]
    exact ⟨⟨(c 0 (by decide)).1, (c 1 (by decide)).1, (c 2 (by decide)).1, (c 3 (by decide)).1⟩, (c 0 (by decide)).2, (c 1 (by decide)).2, (c 2 (by decide)).2, (c 3 (by decide)).2⟩
end Go.Proofs.YtjocegnhhhfbeaaGreatDoor
