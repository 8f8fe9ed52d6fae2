import Derived.Test.YtoanloballaclaaDoorJoin
namespace Go.Proofs.YtoanloballaclaaDoor
open Go.RowKit

/-- The first place of a text in a list, -1 where there is none. -/
def idxI (T : List (List UInt8)) (x : List UInt8) : Int := if T.idxOf x < T.length then (T.idxOf x : Int) else -1
theorem idx_hit {T : List (List UInt8)} {x : List UInt8} {k : Nat} (hk : k < T.length) (h : T[k] = x) (hb : ∀ j, (hj : j < k) → T[j] ≠ x) : T.idxOf x = k := by
  unfold List.idxOf
  rw [List.findIdx_eq hk]
  refine ⟨by simpa using h, fun j hj => by simpa using hb j hj⟩
theorem idxI_hit {T : List (List UInt8)} {x : List UInt8} {k : Nat} (hk : k < T.length) (h : T[k] = x) (hb : ∀ j, (hj : j < k) → T[j] ≠ x) : idxI T x = k := by
  unfold idxI; rw [idx_hit hk h hb, if_pos hk]
theorem idxI_miss {T : List (List UInt8)} {x : List UInt8} (hb : ∀ j, (hj : j < T.length) → T[j] ≠ x) : idxI T x = -1 := by
  unfold idxI; rw [if_neg]
  intro h
  exact hb _ h (List.getElem_idxOf h)
theorem ret_intI {a b : Int} (h : a = b) : Ending.returned (.int .i64 a) = .returned (.int .i64 b) := by rw [h]

theorem row_valueI {w : World} {v : Value} {P : List (List UInt8)} (h : Row w v P) :
    ∃ a cap, v = .slice a P.length cap ∧ P.length ≤ cap ∧ cap ≤ 9223372036854775807 ∧ Hid (0 < P.length → ∃ b o, a = some ⟨b, o, none⟩ ∧ b < w.heap.size ∧ ∀ j, (hj : j < P.length) → w.cell? ⟨b, o + j, none⟩ = some (S P[j])) := by
  obtain ⟨a, cap, rfl, h1, h2, h3⟩ := h
  refine ⟨a, cap, rfl, h1, by unfold maxLen at h2; omega, fun hp => ?_⟩
  rcases h3 with h3 | h3
  · rw [h3] at hp; simp at hp
  · exact h3

end Go.Proofs.YtoanloballaclaaDoor
