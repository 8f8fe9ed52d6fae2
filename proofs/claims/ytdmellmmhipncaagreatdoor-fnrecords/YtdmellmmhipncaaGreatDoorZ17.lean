import Derived.Test.YtdmellmmhipncaaGreatDoorZ16
import Derived.Test.YtdmellmmhipncaaGreatDoorZ10
import Derived.OwnWalk
namespace Go.Proofs.YtdmellmmhipncaaGreatDoor
open Go.RowKit

theorem parentL_le : ∀ l : List UInt8, (parentL l).length ≤ l.length
  | [] => Nat.le_refl _
  | c :: l => by
    unfold parentL
    split
    · simp
    · have := parentL_le l; simp; omega
theorem new_cur {w : World} {v : Value} {P : List Int} (hr : ZRow .u8 w v P) (hb : ∀ x ∈ P, 0 ≤ x ∧ x ≤ 255) :
    CurB (w.alloc (.cells #[v, .int .i64 0, .int .u64 0] 55)) w.heap.size v P 0 := by
  refine ⟨0, Nat.le_refl _, ⟨0, by omega, (MapKept.heap_alloc w _).1⟩, hr.kpt (kpt_alloc w _ (fun _ => False)) (fun _ _ _ => id), fun h0 e => ?_, hb⟩
  obtain ⟨a, cap, rfl, _, _, h⟩ := hr
  rcases h with h | ⟨b, o, rfl, hlt, _⟩
  · rw [h] at h0; simp at h0
  · have e2 : b = w.heap.size := Option.some.inj e
    omega
theorem cur_below {w w' : World} {o : Obj} (hk : Kpt (w.alloc o) w' (· = w.heap.size)) : Below w.heap.size w w' :=
  ((kpt_alloc w o (· = w.heap.size)).trans hk).below (Nat.le_refl _) (fun k hk e => by omega)
theorem code_lt {w : World} {v : Value} {P : List Int} (hr : ZRow .u8 w v P) (h0 : 0 < P.length) (k : Nat) (hk : v.ownBlock = some k) : k < w.heap.size := by
  obtain ⟨a, cap, rfl, _, _, h⟩ := hr
  rcases h with h | ⟨b, o, rfl, hlt, _⟩
  · rw [h] at h0; simp at h0
  · cases hk; exact hlt

end Go.Proofs.YtdmellmmhipncaaGreatDoor

namespace Go.Proofs.YtdmellmmhipncaaGreatDoor
open Go.RowKit

/-- Texts that are drawn are short. -/
def Small (L : List (List UInt8)) : Prop := L.length ≤ 100 ∧ ∀ p ∈ L, p.length ≤ 60
theorem Small.tot {L : List (List UInt8)} (h : Small L) : tot L ≤ 6000 := by
  have : ∀ (M : List (List UInt8)), (∀ p ∈ M, p.length ≤ 60) → Go.Proofs.YtdmellmmhipncaaGreatDoor.tot M ≤ 60 * M.length := by
    intro M
    induction M with
    | nil => intro _; simp [Go.Proofs.YtdmellmmhipncaaGreatDoor.tot]
    | cons p M ih =>
      intro hM
      have h1 := ih (fun q hq => hM q (by simp [hq]))
      have h2 := hM p (by simp)
      simp [Go.Proofs.YtdmellmmhipncaaGreatDoor.tot] at h1 ⊢; omega
  have h1 := this L h.2
  have h2 := h.1
  omega

end Go.Proofs.YtdmellmmhipncaaGreatDoor

namespace Go.Proofs.YtdmellmmhipncaaGreatDoor
open Go.RowKit

end Go.Proofs.YtdmellmmhipncaaGreatDoor
