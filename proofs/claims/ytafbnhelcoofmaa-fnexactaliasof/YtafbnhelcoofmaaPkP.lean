import Derived.Test.YtafbnhelcoofmaaPkF
namespace Go.Proofs.Ytafbnhelcoofmaa
open Go.RowKit

/-- Who is picked by a draw. -/
def pkN (L : List (Int × Int)) (t d : Int) : Int := match L[(d.tdiv t).toNat]? with | some x => if d.tmod t < x.1 then d.tdiv t else x.2 | none => 0
def pkB (L : List (Int × Int)) (t d : Int) : Bool := fitA t L && inB d 0 ((L.length : Int) * t - 1)
def pkV (L : List (Int × Int)) (t d : Int) : Value := .tuple #[.int .i64 (if pkB L t d then pkN L t d else 0), .bool (pkB L t d)]
theorem pk_no {L : List (Int × Int)} {t d : Int} (h : pkB L t d = false) : pkV L t d = .tuple #[.int .i64 0, .bool false] := by unfold pkV; rw [h]; rfl
theorem pk_at {L : List (Int × Int)} {t d : Int} {k : Nat} (h : pkB L t d = true) (hk : k < L.length) (e : d.tdiv t = (k : Int)) : pkV L t d = .tuple #[.int .i64 (if d.tmod t < (L[k]).1 then (k : Int) else (L[k]).2), .bool true] := by
  unfold pkV pkN; rw [h, if_pos rfl, e, Int.toNat_natCast, List.getElem?_eq_getElem hk]
theorem pk_facts {L : List (Int × Int)} {t d : Int} (h : pkB L t d = true) : 1 ≤ t ∧ t ≤ 600 ∧ 0 ≤ d ∧ d ≤ (L.length : Int) * t - 1 ∧ L.length ≤ 12 ∧ ∃ k : Nat, k < L.length ∧ d.tdiv t = (k : Int) ∧ 0 ≤ d.tmod t ∧ d.tmod t < t := by
  unfold pkB fitA goodA inB at h
  simp only [Bool.and_eq_true, decide_eq_true_eq] at h
  obtain ⟨⟨⟨_, ⟨⟨_, hl⟩, _⟩⟩, ht1, ht2⟩, hd1, hd2⟩ := h
  have h0 : 0 ≤ d.tdiv t := Int.tdiv_nonneg hd1 (by omega)
  have h1 : d.tdiv t < (L.length : Int) := by
    rw [Int.tdiv_eq_ediv_of_nonneg hd1]
    exact Int.ediv_lt_of_lt_mul (by omega) (by omega)
  refine ⟨ht1, ht2, hd1, hd2, by omega, (d.tdiv t).toNat, by omega, by omega, ?_, ?_⟩
  · rw [Int.tmod_eq_emod_of_nonneg hd1]; exact Int.emod_nonneg _ (by omega)
  · rw [Int.tmod_eq_emod_of_nonneg hd1]; exact Int.emod_lt_of_pos _ (by omega)
theorem pk_ret {L : List (Int × Int)} {t d x : Int} {b : Bool} (h : pkV L t d = .tuple #[.int .i64 x, .bool b]) : Ending.returned (.tuple #[.int .i64 x, .bool b]) = .returned (pkV L t d) := by rw [h]
theorem mul_small {n t : Int} (h1 : 1 ≤ t) (h2 : t ≤ 600) (h3 : 0 ≤ n) (h4 : n ≤ 12) : 0 ≤ n * t ∧ n * t ≤ 7200 := by
  constructor
  · exact Int.mul_nonneg h3 (by omega)
  · have := Int.mul_le_mul h4 h2 (by omega) (by omega)
    omega
theorem fit_facts {L : List (Int × Int)} {t : Int} (h : fitA t L = true) : 1 ≤ t ∧ t ≤ 600 ∧ L.length ≤ 12 := by
  unfold fitA goodA inB at h
  simp only [Bool.and_eq_true, decide_eq_true_eq] at h
  omega

end Go.Proofs.Ytafbnhelcoofmaa
