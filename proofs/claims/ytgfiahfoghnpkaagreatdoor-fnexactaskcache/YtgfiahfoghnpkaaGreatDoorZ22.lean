import Derived.Test.YtgfiahfoghnpkaaGreatDoorZ21
import Derived.Test.YtgfiahfoghnpkaaGreatDoorZ18
namespace Go.Proofs.YtgfiahfoghnpkaaGreatDoor
open Go.RowKit Go.Maps

/-- An entry as a value: its records are a slice that lies elsewhere. -/
structure EV where
  nm : ByteArray
  ty : Int
  no : Bool
  a : Option Addr
  n : Nat
  c : Nat
  un : Int
  us : Int
def entV (e : EV) : Value := .agg #[.string e.nm, .int .i64 e.ty, .bool e.no, .slice e.a e.n e.c, .int .i64 e.un, .int .i64 e.us]
theorem entV_inj {e f : EV} (h : entV e = entV f) : e = f := by
  cases e; cases f
  unfold entV at h
  simp at h
  simp [h]
def EV.ok (e : EV) : Prop := e.nm.size ≤ maxLen ∧ -9223372036854775808 ≤ e.ty ∧ e.ty ≤ 9223372036854775807
/-- How an element of the map reads: as itself. -/
noncomputable def elE (v : Value) : Option (DataW EV × List MemPlace) := @dite _ (∃ e, v = entV e) (Classical.propDecidable _) (fun h => some (.held h.choose, [])) (fun _ => none)
theorem elE_mk (e : EV) : elE (entV e) = some (.held e, []) := by
  unfold elE
  have h : ∃ f, entV e = entV f := ⟨e, rfl⟩
  rw [dif_pos h]
  rw [← entV_inj h.choose_spec]
theorem elE_inv (v : Value) (y : DataW EV × List MemPlace) (h : elE v = some y) : ∃ e, v = entV e ∧ y = (.held e, []) := by
  unfold elE at h
  split at h
  · rename_i hh
    obtain ⟨e, rfl⟩ := hh
    have h2 := elE_mk e
    unfold elE at h2
    rw [dif_pos ⟨e, rfl⟩] at h2
    rw [h2] at h
    exact ⟨e, rfl, (Option.some.inj h).symm⟩
  · cases h
/-- The key of an entry. -/
noncomputable def keyL (nm : ByteArray) (ty : Int) : Lit := (keyOf Tryz.prog 75 (keyV nm ty)).getD (.bool false)
theorem key_of {nm : ByteArray} {ty : Int} (hs : nm.size ≤ maxLen) (h1 : -9223372036854775808 ≤ ty) (h2 : ty ≤ 9223372036854775807) : keyOf Tryz.prog 75 (keyV nm ty) = some (keyL nm ty) := by
  obtain ⟨kl, h⟩ := key_mk nm ty hs ⟨h1, h2⟩
  unfold keyL
  rw [h]; rfl
theorem keyV_inj {n m : ByteArray} {t u : Int} (h : keyV n t = keyV m u) : n = m ∧ t = u := by
  unfold keyV at h
  simp at h
  exact h
/-- Entries of one key have one name and one type. -/
theorem keyL_inj {e f : EV} (he : e.ok) (hf : f.ok) (h : keyL e.nm e.ty = keyL f.nm f.ty) : e.nm = f.nm ∧ e.ty = f.ty := by
  have h1 := key_of he.1 he.2.1 he.2.2
  have h2 := key_of hf.1 hf.2.1 hf.2.2
  rw [h] at h1
  exact keyV_inj (keyed.inj h1 h2)
noncomputable def EV.key (e : EV) : Lit := keyL e.nm e.ty
set_option maxRecDepth 100000 in
theorem key_is {e : EV} (he : e.ok) : WideAt.IsKeyLit e.key := by
  have h := keyed.key (key_of he.1 he.2.1 he.2.2)
  exact h

/-- The map has just these entries. -/
structure MapOf (D : DataW EV) (L : List EV) : Prop where
  tidy : Tidy D
  ok : ∀ e ∈ L, e.ok
  one : L.Pairwise (fun e f => e.key ≠ f.key)
  has : ∀ kl, has D kl = true ↔ ∃ e ∈ L, e.key = kl
  at' : ∀ e ∈ L, ∀ z, D.atKey e.key z = .held e
  size : size D = L.length
theorem MapOf.nil : MapOf (.map []) [] :=
  ⟨tidy_empty, fun e h => (by cases h), List.Pairwise.nil, fun kl => ⟨fun h => (by cases h), fun ⟨e, h, _⟩ => (by cases h)⟩, fun e h => (by cases h), rfl⟩
set_option maxRecDepth 100000 in
theorem MapOf.put {D : DataW EV} {L : List EV} (h : MapOf D L) {e : EV} (he : e.ok) (hn : ∀ f ∈ L, f.key ≠ e.key) : MapOf (D.put e.key (.held e)) (L ++ [e]) := by
  have hk : WideAt.IsKeyLit e.key := key_is he
  have hno : Maps.has D e.key = false := by
    cases hh : Maps.has D e.key with
    | false => rfl
    | true => obtain ⟨f, hf, hfe⟩ := (h.has _).1 hh; exact absurd hfe (hn f hf)
  refine ⟨h.tidy.put hk _, fun f hf => ?_, ?_, fun kl => ?_, fun f hf z => ?_, ?_⟩
  · rcases List.mem_append.1 hf with h1 | h1
    · exact h.ok f h1
    · rw [List.mem_singleton] at h1; rw [h1]; exact he
  · rw [List.pairwise_append]
    exact ⟨h.one, List.pairwise_singleton _ _, fun f hf g hg => by rw [List.mem_singleton] at hg; rw [hg]; exact hn f hf⟩
  · by_cases hke : kl = e.key
    · subst hke
      rw [has_put_same h.tidy.isMap hk]
      exact ⟨fun _ => ⟨e, by simp, rfl⟩, fun _ => rfl⟩
    · rw [has_put_other hke, h.has]
      constructor
      · rintro ⟨f, hf, hfk⟩; exact ⟨f, by simp [hf], hfk⟩
      · rintro ⟨f, hf, hfk⟩
        rcases List.mem_append.1 hf with h1 | h1
        · exact ⟨f, h1, hfk⟩
        · rw [List.mem_singleton] at h1; subst h1; exact absurd hfk.symm hke
  · rcases List.mem_append.1 hf with h1 | h1
    · rw [atKey_put_other (hn f h1)]; exact h.at' f h1 z
    · rw [List.mem_singleton] at h1; subst h1; exact atKey_put_same h.tidy.isMap hk _ _
  · rw [size_put h.tidy, hno, h.size]; simp
/-- The map's block in a later world. -/
theorem ownsMap_below {w w' : World} {b n : Nat} {D : DataW EV} (h : w.ownsMap Tryz.prog 75 elE b n D) (hb : Below w.heap.size w w') : w'.ownsMap Tryz.prog 75 elE b n D := by
  have hlt := h.lt
  obtain ⟨es, clock, hbl, F, hs, hD⟩ := h
  exact ⟨es, clock, (hb.block b hlt).trans hbl, F, hs, hD⟩
end Go.Proofs.YtgfiahfoghnpkaaGreatDoor
