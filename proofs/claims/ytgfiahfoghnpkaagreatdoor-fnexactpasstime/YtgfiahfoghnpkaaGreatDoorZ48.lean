import Derived.Test.YtgfiahfoghnpkaaGreatDoorZ42
import Derived.Test.YtgfiahfoghnpkaaGreatDoorZ44
import Derived.Test.YtgfiahfoghnpkaaGreatDoorZ47
namespace Go.Proofs.YtgfiahfoghnpkaaGreatDoor
open Go.RowKit Go.Maps

theorem own_rows {w : World} {base c : Nat} {a : Option Addr} {M : List (EV × RecL)} (h : w.ownsRow base 44 6 (.slice a M.length c) M.length (ecells (M.map (·.1)))) :
    M.length ≤ c ∧ c ≤ 9223372036854775807 ∧ Hid (0 < M.length → ∃ b o, a = some ⟨b, o, none⟩ ∧ b < w.heap.size ∧ ∀ j, (hj : j < M.length) → Ent6 w b (o + j * 6) (M[j]'hj).1) := by
  have h' : w.ownsRow base 44 6 (.slice a M.length c) (M.map (·.1)).length (ecells (M.map (·.1))) := by rw [List.length_map]; exact h
  rcases own_e h' with ⟨h1, h2⟩ | ⟨g, cap, h1, h2, h3, _, h5⟩
  · obtain rfl : M = [] := List.map_eq_nil_iff.1 h2
    injection h1 with e1 e2 e3
    subst e3
    exact ⟨Nat.le_refl _, by omega, fun h => (by cases h)⟩
  · injection h1 with e1 e2 e3
    subst e1 e3
    rw [List.length_map] at h2
    refine ⟨h2, by unfold maxLen at h3; omega, fun _ => ⟨g, 0, rfl, h5.1, fun j hj => ?_⟩⟩
    have h := (h5.2 j (by rw [List.length_map]; exact hj)).1
    rw [Nat.zero_add]
    rw [List.getElem_map] at h
    exact h
theorem filt_len (p : EntT → Bool) (L : List EntT) : ((L.length : Int) - ((L.filter (fun x => !p x)).length : Int)) = ((L.filter p).length : Int) := by
  induction L with
  | nil => rfl
  | cons x L ih =>
    cases hp : p x <;> simp [hp] <;> omega

end Go.Proofs.YtgfiahfoghnpkaaGreatDoor
