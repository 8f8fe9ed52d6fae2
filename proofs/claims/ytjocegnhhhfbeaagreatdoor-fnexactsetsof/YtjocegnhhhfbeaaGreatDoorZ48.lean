import Derived.Test.YtjocegnhhhfbeaaGreatDoorZ40
import Derived.Test.YtjocegnhhhfbeaaGreatDoorZ36
import Derived.Test.YtjocegnhhhfbeaaGreatDoorZ47
namespace Go.Proofs.YtjocegnhhhfbeaaGreatDoor.setsOf
open Go.RowKit

theorem sets_small (L : List (List UInt8 × Int × Int × List UInt8)) : ((setsO L).getD []).length ≤ 100 ∧ ∀ s ∈ (setsO L).getD [], s.2.2.2.length ≤ 1000 := by
  cases hO : setsO L with
  | none => exact ⟨by simp, fun s hs => by cases hs⟩
  | some S =>
    unfold setsO at hO
    split at hO
    · rename_i h1
      cases hG : grpN (andQ [] L) (andQ [] L).length with
      | none => rw [hG] at hO; cases hO
      | some T =>
        rw [hG] at hO
        simp only at hO
        split at hO
        · rename_i h2
          cases hO
          refine ⟨by show S.length ≤ 100; omega, fun s hs => ?_⟩
          have h3 := grpN_data hG s hs
          have h4 := andQ_len [] L
          simp only [List.length_nil] at h4
          omega
        · cases hO
    · cases hO
theorem walk (v : Value) (L : List (List UInt8 × Int × Int × List UInt8)) (w : World) (hr : RRow w v L) (hx : Hid (∀ x ∈ L, x.1.length ≤ maxLen ∧ x.2.2.2.length ≤ maxLen)) (hE : EnvR w) :
    Calls Tryz.prog 3 #[v] w fun e w' => e = .returned (.bool true) ∧ Below w.heap.size w w' :=
  core v L ((setsO L).getD []) (setsO L).isSome w hr hx hE (sets_small L)
    (fun _ W h1 h2 q => (sSetsOf_any _ L W (q.row (Nat.le_refl _) (by unfold maxLen; omega)) h1 h2).mono fun _ _ h => ⟨sets_t h.1, h.2⟩)
    (fun _ W hW h1 h2 q => (iSetsOf_any _ L W (q.row (Nat.le_refl _) (by unfold maxLen; omega)) (fun n c e => by cases e) h1 h2 hW).mono fun _ _ h => ⟨sets_t h.1, h.2⟩)
end Go.Proofs.YtjocegnhhhfbeaaGreatDoor.setsOf
