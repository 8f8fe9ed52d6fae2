import Derived.Test.YtafbnhelcoofmaaSer
import Derived.Test.YtafbnhelcoofmaaToI
namespace Go.Proofs.Ytafbnhelcoofmaa
open Go.RowKit

/-- A serial that none of a list is newer than; the first such one. -/
def okB (n o : Int) : Bool := tldB n o && !newB n o
def nwB (L : List Int) (n : Int) : Bool := L.all (okB n)
def nwO (L : List Int) : Option Int := if inB (L.length : Int) 1 20 && L.all serB then L.find? (nwB L) else none
def nwV (L : List Int) : Value := .tuple #[.int .i64 ((nwO L).getD 0), .bool (nwO L).isSome]
theorem nw_len {L : List Int} (h : inB (L.length : Int) 1 20 = false) : nwO L = none := by unfold nwO; rw [h]; rfl
theorem nw_bad {L : List Int} {k : Nat} (hk : k < L.length) (h : serB L[k] = false) : nwO L = none := by
  unfold nwO
  rw [if_neg]
  intro hh
  have h2 := List.all_eq_true.1 (Bool.and_eq_true_iff.1 hh).2 L[k] (List.getElem_mem hk)
  rw [h] at h2; cases h2
theorem nw_find {L : List Int} (h1 : inB (L.length : Int) 1 20 = true) (h2 : L.all serB = true) : nwO L = L.find? (nwB L) := by unfold nwO; rw [h1, h2]; rfl
theorem find_at {L : List Int} {p : Int → Bool} {k : Nat} (hk : k < L.length) (h : (L.take k).find? p = none) (hp : p L[k] = true) : L.find? p = some L[k] := by
  have h2 : (L.take k ++ L[k] :: L.drop (k + 1)).find? p = some L[k] := by rw [List.find?_append, h, List.find?_cons, hp]; rfl
  have e : L.take k ++ L[k] :: L.drop (k + 1) = L := by simp
  rw [e] at h2; exact h2
theorem find_on {L : List Int} {p : Int → Bool} {k : Nat} (hk : k < L.length) (h : (L.take k).find? p = none) (hp : p L[k] = false) : (L.take (k + 1)).find? p = none := by
  rw [List.take_succ_eq_append_getElem hk, List.find?_append, h]; simp [hp]
theorem all_on {L : List Int} {p : Int → Bool} {k : Nat} (hk : k < L.length) : (L.take (k + 1)).all p = ((L.take k).all p && p L[k]) := by
  rw [List.take_succ_eq_append_getElem hk, List.all_append]; simp
theorem nw_ret {L : List Int} {o : Option Int} (h : nwO L = o) : Ending.returned (.tuple #[.int .i64 (o.getD 0), .bool o.isSome]) = .returned (nwV L) := by unfold nwV; rw [h]
theorem les_ser {a b : Int} (ha : serB a = true) (hb : serB b = true) : lesV a b = .tuple #[.bool (newB a b), .bool (tldB a b)] := by unfold lesV; rw [ha, hb]; rfl

end Go.Proofs.Ytafbnhelcoofmaa
