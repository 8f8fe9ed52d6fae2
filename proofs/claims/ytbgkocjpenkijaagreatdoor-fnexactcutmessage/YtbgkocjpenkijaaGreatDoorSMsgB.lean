import Derived.Test.YtbgkocjpenkijaaGreatDoorSMsgN
import Derived.Test.YtbgkocjpenkijaaGreatDoorRtP
import Derived.Test.YtbgkocjpenkijaaGreatDoorSTarg
import Derived.Test.YtbgkocjpenkijaaGreatDoorSMsgP
import Derived.Deep.RegionHeld3
namespace Go.Proofs.YtbgkocjpenkijaaGreatDoor
open Go.RowKit

/-- A record's data in bytes. -/
def datW (x : List UInt8 × Int × Int × List UInt8) : List UInt8 := (dataP x.2.1 x.2.2.2).getD []
/-- What stands of a record behind the names. -/
def recW (x : List UInt8 × Int × Int × List UInt8) : List UInt8 := beB x.2.1 1 ++ beB x.2.2.1 3 ++ beB ((datW x).length : Int) 1 ++ datW x
def recsW : List (List UInt8 × Int × Int × List UInt8) → List UInt8
  | [] => []
  | x :: r => recW x ++ recsW r
def flagI (reply cutm : Bool) : Int := (if reply = true then 128 else 0) + (if cutm = true then 1 else 0)
def namW (nm : List UInt8) (L : List (List UInt8 × Int × Int × List UInt8)) : List UInt8 := packAll [] (nm :: L.map Prod.fst)
/-- A message in bytes. -/
def msgW (mi : Int) (reply cutm : Bool) (code : Int) (nm : List UInt8) (ty : Int) (A U : List (List UInt8 × Int × Int × List UInt8)) : List UInt8 :=
  beB mi 2 ++ beB (flagI reply cutm) 1 ++ beB code 1 ++ beB (A.length : Int) 1 ++ beB (U.length : Int) 1 ++ beB ((namW nm (A ++ U)).length : Int) 2 ++ namW nm (A ++ U) ++ (beB ty 1 ++ recsW (A ++ U))
theorem recsW_app : ∀ A B : List (List UInt8 × Int × Int × List UInt8), recsW (A ++ B) = recsW A ++ recsW B
  | [], _ => rfl
  | x :: r, B => by rw [List.cons_append, recsW, recsW_app r B, recsW, List.append_assoc]
theorem recsW_snoc (L : List (List UInt8 × Int × Int × List UInt8)) (k : Nat) (h : k < L.length) : recsW (L.take (k + 1)) = recsW (L.take k) ++ recW L[k] := by
  rw [List.take_succ_eq_append_getElem h, recsW_app, recsW, recsW, List.append_nil]
/-- What is asked of a record in a message. -/
structure GoodR (x : List UInt8 × Int × Int × List UInt8) : Prop where
  name : nameB x.1 = true
  data : dataP x.2.1 x.2.2.2 = some (datW x)
  dlen : (datW x).length ≤ 600
  ty0 : 1 ≤ x.2.1
  ty1 : x.2.1 ≤ 16
  ttl0 : 0 ≤ x.2.2.1
  ttl1 : x.2.2.1 ≤ 100000
theorem goodR {x : List UInt8 × Int × Int × List UInt8} (h : recB x.1 x.2.1 x.2.2.1 x.2.2.2 = true) : GoodR x := by
  have f := recB_facts h
  unfold recB at h
  simp only [Bool.and_eq_true, decide_eq_true_eq] at h
  obtain ⟨y, hy⟩ := Option.isSome_iff_exists.1 h.1
  have e : datW x = y := by unfold datW; rw [hy]; rfl
  exact ⟨h.2.1, by rw [e]; exact hy, by rw [e]; exact (data_back hy).2.2, f.1, f.2.1, f.2.2.1, f.2.2.2⟩
theorem recsB_good {L : List (List UInt8 × Int × Int × List UInt8)} (h : recsB L = true) : L.length ≤ 12 ∧ ∀ x ∈ L, GoodR x := by
  unfold recsB at h
  simp only [Bool.and_eq_true, decide_eq_true_eq, List.all_eq_true] at h
  exact ⟨by omega, fun x hx => goodR (h.1 x hx)⟩
theorem typB_range {n : Int} (h : typB n = true) : 1 ≤ n ∧ n ≤ 16 := by
  unfold typB hasB at h
  simp at h
  omega
theorem codeB_range {n : Int} (h : codeB n = true) : 0 ≤ n ∧ n ≤ 5 := by
  unfold codeB hasB at h
  simp at h
  omega
structure GoodM (mi : Int) (reply cutm : Bool) (code : Int) (nm : List UInt8) (ty : Int) (A U : List (List UInt8 × Int × Int × List UInt8)) : Prop where
  id0 : 0 ≤ mi
  id1 : mi ≤ 65535
  code0 : 0 ≤ code
  code1 : code ≤ 5
  name : nameB nm = true
  ty0 : 1 ≤ ty
  ty1 : ty ≤ 16
  few : A.length ≤ 12
  fewU : U.length ≤ 12
  all : ∀ x ∈ A ++ U, GoodR x
  plain : reply = false → cutm = false
theorem goodM {mi : Int} {reply cutm : Bool} {code : Int} {nm : List UInt8} {ty : Int} {A U : List (List UInt8 × Int × Int × List UInt8)} (h : msgB mi reply cutm code nm ty A U = true) : GoodM mi reply cutm code nm ty A U := by
  unfold msgB at h
  simp only [Bool.and_eq_true, decide_eq_true_eq] at h
  obtain ⟨⟨h1, h2⟩, h3, h4, h5, h6, h7, h8⟩ := h
  obtain ⟨g1, g2⟩ := recsB_good h6
  obtain ⟨g3, g4⟩ := recsB_good h7
  have t := typB_range h5
  have c := codeB_range h3
  refine ⟨h1, h2, c.1, c.2, h4, t.1, t.2, g1, g3, fun x hx => ?_, fun hr => ?_⟩
  · rcases List.mem_append.1 hx with h | h
    · exact g2 x h
    · exact g4 x h
  · subst hr; simp at h8; exact h8.1
theorem recW_len {x : List UInt8 × Int × Int × List UInt8} (h : GoodR x) : (recW x).length ≤ 605 := by
  have := h.dlen
  unfold recW
  simp only [List.length_append, beB_length]; omega
theorem recsW_len : ∀ L : List (List UInt8 × Int × Int × List UInt8), (∀ x ∈ L, GoodR x) → (recsW L).length ≤ 605 * L.length
  | [], _ => by simp [recsW]
  | x :: r, h => by
    have h1 := recW_len (h x (by simp))
    have h2 := recsW_len r (fun y hy => h y (by simp [hy]))
    rw [recsW, List.length_append, List.length_cons]; omega
theorem namW_len {nm : List UInt8} {L : List (List UInt8 × Int × Int × List UInt8)} (hn : nameB nm = true) (h : ∀ x ∈ L, GoodR x) : (namW nm L).length ≤ 63 * (L.length + 1) := by
  have h1 := packAll_len (nm :: L.map Prod.fst) [] (fun p hp => by
    rcases List.mem_cons.1 hp with rfl | hp
    · exact hn
    · obtain ⟨x, hx, rfl⟩ := List.mem_map.1 hp; exact (h x hx).name)
  simpa [namW] using h1
theorem cell_new_one' (w : World) (x : Value) (t : TypeId) (b : Nat) (e : b = w.heap.size) : ∀ j u, [x][j]? = some u → (w.alloc (.cells #[x] t)).cell? ((⟨b, 0, none⟩ : Addr).add j) = some u := by
  subst e; exact cell_new_one w x t
theorem rec_cells4 {W : World} {b : Nat} {v0 v1 v2 v3 : Value} {t : TypeId} (h : W.heap[b]? = some (.cells #[v0, v1, v2, v3] t)) :
    W.cell? ⟨b, 0, none⟩ = some v0 ∧ W.cell? ⟨b, 1, none⟩ = some v1 ∧ W.cell? ⟨b, 2, none⟩ = some v2 ∧ W.cell? ⟨b, 3, none⟩ = some v3 := by
  refine ⟨?_, ?_, ?_, ?_⟩ <;> (unfold World.cell?; rw [h]; rfl)
end Go.Proofs.YtbgkocjpenkijaaGreatDoor
